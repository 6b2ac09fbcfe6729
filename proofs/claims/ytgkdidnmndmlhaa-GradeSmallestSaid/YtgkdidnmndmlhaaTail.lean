import Derived.Test.YtgkdidnmndmlhaaShr
import Derived.OrdersIn
/- A region of a frame that rounds may be in: its operations come to values that are known ahead, up to one that waits for all of them; the rest, each waiting for the one before it, is walked at the end. -/
namespace Go.Proofs.Ytgkdidnmndmlhaa
open Go.RowKit
/-- the fences that all functions may enter, without a bound: outside a round, and in one. -/
def Wd (F : Fence) : Prop := F = Fence.wide ∨ ∃ l, F = Fence.wide.inRound l
theorem Wd.fn {F : Fence} (h : Wd F) (f : FuncId) : F.fn f := by rcases h with rfl | ⟨l, rfl⟩ <;> trivial
theorem Wd.deep {F : Fence} (h : Wd F) {q : Prop} (e : F.depth.isSome = true) : q := by rcases h with rfl | ⟨l, rfl⟩ <;> cases e
theorem Wd.calls {F : Fence} (h : Wd F) {n : Nat} {P : Program} {f : FuncId} {args : Array Value} {w : World} {R : Ending → World → Prop} (hc : Calls P f args w R) : CallsIn F n P f args w R := by
  rcases h with rfl | ⟨l, rfl⟩
  · exact callsIn_wide.2 hc
  · exact CallsIn.inRound l (callsIn_wide.2 hc)
theorem rowsIn_of {n : Nat} {P : Program} {row : String} {args : Array Value} {w : World} {R : Value → World → Prop} (h : Rows P row args w R) : RowsIn Fence.wide n P row args w R :=
  fun c cs _ => let ⟨v, w', r, s⟩ := h c cs; ⟨v, w', r, stepsIn_wide.2 s⟩
theorem Wd.rows {F : Fence} (h : Wd F) {n : Nat} {P : Program} {row : String} {args : Array Value} {w : World} {R : Value → World → Prop} (hc : Rows P row args w R) : RowsIn F n P row args w R := by
  rcases h with rfl | ⟨l, rfl⟩
  · exact rowsIn_of hc
  · exact rowsIn_of hc
def noDefer (o : Oper) : Bool := match o.op with | .defer _ => false | _ => true
theorem wpIn_of_wp {F : Fence} (hF : Wd F) {n : Nat} {P : Program} {o : Oper} {a : Act} {w : World} {K : Act → World → Prop} {Q : Exit → Act → World → Prop} (hd : noDefer o = true) (h : o.wp P a w K Q) : o.wpIn F n P a w K Q := by
  refine ⟨fun f _ => hF.fn f, ?_⟩
  rw [Oper.semAt_plain F a.eval o (fun c e => by simp [noDefer, e] at hd)]
  unfold Oper.wp at h
  generalize (execOp a.eval o).run P w = r at h ⊢
  match r, h with
  | .ok (.value v) w', h => exact h
  | .ok .skip w', h => exact h
  | .ok (.defer d) w', h => exact h
  | .ok (.enter f args) w', h => exact ⟨fun e => hF.deep e, hF.calls h⟩
  | .ok (.row row args) w', h => exact ⟨fun e => hF.deep e, hF.rows h⟩
  | .halt (.panic v) w', h => exact h
namespace Vals6T
open Vals (putAll putAll_size putAll_out putAll_in waits acyc guarded slot_inj getD_of ready_spec all_of_none)
open Vals5 (Exp fits Stable guardVal guardKnown Fits All fits_of)
set_option linter.unusedVariables false
section
variable {F : Fence} {nn m : Nat} {P : Program} {Q : Exit → Act → World → Prop} {S : World → Prop} {ops : Array Oper} {ds : List (Option Tmp)} {xs : List Exp} {a0 : Act}
/-- each of the first m operations is waited for by a later one, up to the m-th. -/
def lastTo (m : Nat) (ops : Array Oper) : Bool := (List.range m).all fun i => (List.range (m + 1)).any fun j => decide (i < j) && ((ops[j]?).map (waits · i)).getD false
/-- behind the m-th each operation waits for the one before it. -/
def chain (m : Nat) (ops : Array Oper) : Bool := (List.range ops.size).all fun j => decide (j ≤ m) || ((ops[j]?).map (waits · (j - 1))).getD false
structure Mid (m : Nat) (ops : Array Oper) (ds : List (Option Tmp)) (xs : List Exp) (a0 : Act) (listed : Array Bool) (a : Act) (w : World) : Prop where
  size : listed.size = ops.size
  defers : a.defers = a0.defers
  tsize : a.tmps.size = a0.tmps.size
  done : ∀ (i : Nat) (d : Tmp) (x : Exp), listed[i]? = some true → ds[i]? = some (some d) → xs[i]? = some x → ∃ v, a.tmps[d]? = some v ∧ fits x v w
  old : ∀ t : Tmp, (∀ i : Nat, listed[i]? = some true → ds[i]? ≠ some (some t)) → a.tmps[t]? = a0.tmps[t]?
  down : ∀ (i j : Nat) (o : Oper), listed[i]? = some true → ops[i]? = some o → waits o j = true → listed[j]? = some true
  last : ∀ i, m ≤ i → i < ops.size → listed[i]? = some false
theorem all_of_last {listed : Array Bool} {a : Act} {w : World} (hms : m < ops.size) (hW : lastTo m ops = true) (hM : Mid m ops ds xs a0 listed a w) {l : Oper} (hl : ops[m]? = some l) (hpre : ∀ j, waits l j = true → listed[j]? = some true) : ∀ k i, i + k = m → 0 < k → listed[i]? = some true := by
  intro k
  induction k using Nat.strongRecOn with
  | _ k ih =>
    intro i hik h0
    unfold lastTo at hW
    have h1 := List.all_eq_true.1 hW i (List.mem_range.2 (by omega))
    obtain ⟨j, hj, hw⟩ := List.any_eq_true.1 h1
    have hjm := List.mem_range.1 hj
    have hjs : j < ops.size := by omega
    simp only [Bool.and_eq_true, decide_eq_true_eq] at hw
    obtain ⟨hij, hw⟩ := hw
    rw [Array.getElem?_eq_getElem hjs] at hw
    have hw' : waits ops[j] i = true := by simpa using hw
    by_cases hje : j = m
    · have e : ops[j] = l := by
        subst hje
        rw [Array.getElem?_eq_getElem hjs] at hl
        exact Option.some.inj hl
      rw [e] at hw'
      exact hpre i hw'
    · exact hM.down j i ops[j] (ih (k - (j - i)) (by omega) j (by omega) (by omega)) (Array.getElem?_eq_getElem hjs) hw'
theorem pre_listed {listed : Array Bool} {o : Oper} (hpre : ∀ e ∈ o.after, Region.binds .any e = true → listed.getD e.on false = true) : ∀ j, waits o j = true → listed[j]? = some true := fun j hw => by
  unfold waits at hw
  obtain ⟨e, he, hb⟩ := Array.any_eq_true'.1 hw
  simp only [Bool.and_eq_true, beq_iff_eq] at hb
  obtain ⟨hb, rfl⟩ := hb
  have h1 := hpre e he hb
  unfold Array.getD at h1
  split at h1
  · rename_i hx
    rw [Array.getElem?_eq_getElem hx]
    exact congrArg some h1
  · cases h1
/-- the chain, as a list. -/
theorem tailAny (hA : acyc ops = true) (hC : chain m ops = true) : ∀ (fuel k : Nat) (listed : Array Bool) (a : Act) (w : World), m ≤ k → k ≤ ops.size → listed.size = ops.size → (∀ i, i < k → listed[i]? = some true) → (∀ i, k ≤ i → i < ops.size → listed[i]? = some false) →
    ops.size - k ≤ fuel → wpListIn F nn P ops Q (ops.toList.drop k) a w → wpAnyIn F nn P .any ops Q fuel listed a w := by
  intro fuel
  induction fuel with
  | zero =>
    intro k listed a w hmk hks hsz h1 h2 hf h
    have hk : k = ops.size := by omega
    subst hk
    rw [List.drop_eq_nil_of_le (by simp)] at h
    refine ⟨?_, h⟩
    rw [List.eq_nil_iff_forall_not_mem]
    intro i hi
    obtain ⟨e1, e2, _⟩ := ready_spec.1 hi
    rw [getD_of (h1 i e1)] at e2
    cases e2
  | succ fuel ih =>
    intro k listed a w hmk hks hsz h1 h2 hf h
    refine ⟨fun hr => ?_, fun i hi => ?_⟩
    · have hall := all_of_none hA hsz hr
      have hk : k = ops.size := by
        rcases Nat.lt_or_ge k ops.size with hlt | hge
        · have e1 := hall k hlt
          rw [h2 k (Nat.le_refl _) hlt] at e1
          cases e1
        · omega
      subst hk
      rw [List.drop_eq_nil_of_le (by simp)] at h
      exact h
    · obtain ⟨e1, e2, o, ho, hpre⟩ := ready_spec.1 hi
      have hik : i = k := by
        rcases Nat.lt_or_ge i k with hlt | hge
        · rw [getD_of (h1 i hlt)] at e2; cases e2
        · rcases Nat.lt_or_ge k i with hlt | hge2
          · exfalso
            unfold chain at hC
            have h3 := List.all_eq_true.1 hC i (List.mem_range.2 e1)
            rw [ho] at h3
            have h4 : waits o (i - 1) = true := by
              rw [show decide (i ≤ m) = false from decide_eq_false (by omega), Bool.false_or] at h3
              simpa using h3
            have h5 := pre_listed hpre (i - 1) h4
            rw [h2 (i - 1) (by omega) (by omega)] at h5
            cases h5
          · omega
      subst hik
      have hd : ops.toList.drop i = o :: ops.toList.drop (i + 1) := by
        rw [List.drop_eq_getElem_cons (by simpa using e1)]
        congr 1
        rw [Array.getElem?_eq_getElem e1] at ho
        simpa using Option.some.inj ho
      rw [hd] at h
      have hnext : ∀ a w, wpListIn F nn P ops Q (ops.toList.drop (i + 1)) a w → wpAnyIn F nn P .any ops Q fuel (listed.setIfInBounds i true) a w := fun a w h => by
        have hll : i < listed.size := by omega
        refine ih (i + 1) _ a w (by omega) (by omega) (by simpa using hsz) (fun j hj => ?_) (fun j hj hj2 => ?_) (by omega) h
        · by_cases hij : i = j
          · rw [← hij, Array.getElem?_setIfInBounds_self_of_lt hll]
          · rw [Array.getElem?_setIfInBounds_ne hij]; exact h1 j (by omega)
        · rw [Array.getElem?_setIfInBounds_ne (by omega)]; exact h2 j (by omega) hj2
      unfold wpOpIn
      rw [ho]
      simp only [wpListIn] at h
      show if Region.wanted o (yielded ops a.tmps) = true then _ else _
      split
      · rename_i hw
        rw [if_pos hw] at h
        exact Oper.wpIn_mono hnext h
      · rename_i hw
        rw [if_neg hw] at h
        exact ⟨h.1, hnext _ _ h.2⟩
theorem go (hF : Wd F) (hz : m < ops.size) (hND : ops.toList.all noDefer = true) (hds : (ops.toList.take m).map (·.dst) = ds) (hA : acyc ops = true) (hG : guarded ops = true) (hW : lastTo m ops = true) (hC : chain m ops = true) (hN : (ds.filterMap id).Nodup) (hL : ∀ d, some d ∈ ds → d < a0.tmps.size)
    (hxl : xs.length = ds.length) (hst : Vals5.Steps P Q S ds xs a0 (ops.toList.take m) xs) (hend : ∀ w us, S w → Fits ds xs us w → wpListIn F nn P ops Q (ops.toList.drop m) { a0 with tmps := putAll ds us a0.tmps } w) :
    ∀ (fuel : Nat) (listed : Array Bool) (a : Act) (w : World), Mid m ops ds xs a0 listed a w → S w → listed.toList.countP (!·) ≤ fuel → wpAnyIn F nn P .any ops Q fuel listed a w := by
  have hdl : ds.length = m := by rw [← hds]; simp; omega
  have hinit : ∀ {i : Nat} {o : Oper}, ops[i]? = some o → i < m → (ops.toList.take m)[i]? = some o := fun {i o} h hi => by
    rw [List.getElem?_take, if_pos hi]
    simpa using h
  have hat : ∀ {i : Nat} {o : Oper}, ops[i]? = some o → i < m → ds[i]? = some o.dst := fun {i o} h hi => by
    rw [← hds, List.getElem?_map, hinit h hi]; rfl
  have hl' : ops[m]? = some ops[m] := Array.getElem?_eq_getElem hz
  intro fuel
  induction fuel with
  | zero =>
    intro listed a w hM hS hc
    exfalso
    have hlast := hM.last m (Nat.le_refl _) hz
    have hil : m < listed.size := by have := hM.size; omega
    rw [Array.getElem?_eq_getElem hil] at hlast
    have := (List.countP_pos_iff (p := (!·)) (l := listed.toList)).2 ⟨listed[m], by simp, by simpa using hlast⟩
    omega
  | succ fuel ih =>
    intro listed a w hM hS hc
    refine ⟨fun h => ?_, fun i hi => ?_⟩
    · have := all_of_none hA hM.size h m hz
      rw [hM.last m (Nat.le_refl _) hz] at this
      cases this
    obtain ⟨hil, hun, o, ho, hpre⟩ := ready_spec.1 hi
    have hll : i < listed.size := by have := hM.size; omega
    have hun' : listed[i] = false := by simpa [Array.getD, hll] using hun
    have hpre' : ∀ j, waits o j = true → listed[j]? = some true := fun j hw => by
      unfold waits at hw
      obtain ⟨e, he, hb⟩ := Array.any_eq_true'.1 hw
      simp only [Bool.and_eq_true, beq_iff_eq] at hb
      obtain ⟨hb, rfl⟩ := hb
      have h1 := hpre e he hb
      unfold Array.getD at h1
      split at h1
      · rename_i hx
        rw [Array.getElem?_eq_getElem hx]
        exact congrArg some h1
      · cases h1
    by_cases hge : m ≤ i
    · -- the chain: all others are done
      have him : i = m := by
        rcases Nat.lt_or_ge m i with hlt | h
        · exfalso
          unfold chain at hC
          have h3 := List.all_eq_true.1 hC i (List.mem_range.2 hil)
          rw [ho] at h3
          have h4 : waits o (i - 1) = true := by
            rw [show decide (i ≤ m) = false from decide_eq_false (by omega), Bool.false_or] at h3
            simpa using h3
          have h5 := hpre' (i - 1) h4
          rw [hM.last (i - 1) (by omega) (by omega)] at h5
          cases h5
        · omega
      subst him
      have hall : ∀ j, j < i → listed[j]? = some true := fun j hj => all_of_last hz hW hM ho hpre' (i - j) j (by omega) (by omega)
      obtain ⟨us, hFt, hus⟩ := fits_of (ds := ds) (xs := xs) (tm := a.tmps) (w := w) hxl (fun i d x hd hx => hM.done i d x (hall i (by rw [← hdl]; exact (List.getElem?_eq_some_iff.1 hd).1)) hd hx)
      have he : a = { a0 with tmps := putAll ds us a0.tmps } := by
        obtain ⟨tm, df⟩ := a
        have h1 : df = a0.defers := hM.defers
        have h2 : tm = putAll ds us a0.tmps := by
          apply Array.ext_getElem?
          intro t
          by_cases hex : ∃ i : Nat, ds[i]? = some (some t)
          · obtain ⟨i, hi⟩ := hex
            obtain ⟨v, hv, hv2⟩ := hus i t hi
            rw [putAll_in ds us a0.tmps t i v hN (hL t (List.mem_of_getElem? hi)) hi hv]
            exact hv2
          · rw [putAll_out ds us a0.tmps t (fun i hi => hex ⟨i, hi⟩)]
            exact hM.old t (fun i _ hi => hex ⟨i, hi⟩)
        rw [h1, h2]
      have hlist := hend w us hS hFt
      rw [← he] at hlist
      have htail := tailAny (F := F) (nn := nn) (P := P) (Q := Q) hA hC (fuel + 1) i listed a w (Nat.le_refl _) (by omega) hM.size hall hM.last (by
        have hc2 : ops.size - i ≤ listed.toList.countP (!·) := by
          have : listed.toList.countP (!·) = (listed.toList.take i).countP (!·) + (listed.toList.drop i).countP (!·) := by rw [← List.countP_append, List.take_append_drop]
          have hd : (listed.toList.drop i).countP (!·) = (listed.toList.drop i).length := by
            rw [List.countP_eq_length]
            intro b hb
            obtain ⟨q, hq, rfl⟩ := List.mem_iff_getElem.1 hb
            have hq' : i + q < listed.size := by simp at hq; omega
            have := hM.last (i + q) (by omega) (by have := hM.size; omega)
            rw [Array.getElem?_eq_getElem hq'] at this
            simpa using Option.some.inj this
          have hdl2 : (listed.toList.drop i).length = listed.size - i := by simp
          have := hM.size
          omega
        omega) hlist
      exact htail.2 i hi
    have hilt : i < m := by omega
    obtain ⟨x, hx, hstab, hcase⟩ := hst.get (i := i) (o := o) (hinit ho hilt)
    have hdo := hat ho hilt
    have hwait : ∀ j d y, waits o j = true → ds[j]? = some (some d) → xs[j]? = some y → ∃ v, a.tmps[d]? = some v ∧ fits y v w := fun j d y hw hd hy => by
      unfold waits at hw
      obtain ⟨e, he, hb⟩ := Array.any_eq_true'.1 hw
      simp only [Bool.and_eq_true, beq_iff_eq] at hb
      obtain ⟨hb, rfl⟩ := hb
      have h1 := hpre e he hb
      have h2 : listed[e.on]? = some true := by
        unfold Array.getD at h1
        split at h1
        · rename_i hx
          rw [Array.getElem?_eq_getElem hx]
          exact congrArg some h1
        · cases h1
      exact hM.done e.on d y h2 hd hy
    have hwait' : ∀ j d y, waits o j = true → ds[j]? = some (some d) → xs[j]? = some y → fits y (a.tmps.getD d undef) w := fun j d y hw hd hy => by
      obtain ⟨v, hv, hf⟩ := hwait j d y hw hd hy
      rw [getD_of hv]; exact hf
    have hnext : ∀ v w', S w' → Below w.heap.size w w' → fits x v w' → wpAnyIn F nn P .any ops Q fuel (listed.setIfInBounds i true) (a.put o.dst v) w' := fun v w' hS' hb' hf' => by
      refine ih _ _ _ ⟨by simp [hM.size], ?_, ?_, ?_, ?_, ?_, fun q hq hq2 => by rw [Array.getElem?_setIfInBounds_ne (by omega)]; exact hM.last q hq hq2⟩ hS' ?_
      · cases o.dst <;> exact hM.defers
      · cases o.dst <;> simp [Act.put, hM.tsize]
      · intro j d y hj hd hy
        by_cases hij : i = j
        · subst hij
          obtain rfl : x = y := by rw [hx] at hy; simpa using hy
          obtain hod : o.dst = some d := by rw [hdo] at hd; simpa using hd
          rw [hod]
          simp only [Act.put]
          have := hL d (List.mem_of_getElem? hd)
          exact ⟨v, by rw [Array.getElem?_setIfInBounds_self_of_lt (by rw [hM.tsize]; exact this)], hf'⟩
        · have hj' : listed[j]? = some true := by rwa [Array.getElem?_setIfInBounds_ne hij] at hj
          obtain ⟨u, h0, hf0⟩ := hM.done j d y hj' hd hy
          have hjd : j < ds.length := (List.getElem?_eq_some_iff.1 hd).1
          have hjo : j < ops.size := by omega
          obtain ⟨y', hy', hst', _⟩ := hst.get (i := j) (o := ops[j]) (hinit (Array.getElem?_eq_getElem hjo) (by omega))
          obtain rfl : y = y' := by rw [hy] at hy'; simpa using hy'
          refine ⟨u, ?_, hst' u w w' hf0 hb'⟩
          cases hod : o.dst with
          | none => exact h0
          | some d' =>
            simp only [Act.put]
            have hne : d' ≠ d := fun e => by
              subst e
              rw [hod] at hdo
              exact hij (slot_inj hN hdo hd)
            rw [Array.getElem?_setIfInBounds_ne hne]
            exact h0
      · intro t ht
        have h0 := hM.old t (fun j hj => ht j (by
          by_cases hij : i = j
          · subst hij
            rw [Array.getElem?_eq_getElem hll, hun'] at hj
            cases hj
          · rw [Array.getElem?_setIfInBounds_ne hij]; exact hj))
        cases hod : o.dst with
        | none => exact h0
        | some d' =>
          simp only [Act.put]
          have hne : d' ≠ t := fun e => by
            subst e
            exact ht i (by rw [Array.getElem?_setIfInBounds_self_of_lt hll]) (by rw [hdo, hod])
          rw [Array.getElem?_setIfInBounds_ne hne]
          exact h0
      · intro j j' oj hj hoj hw
        by_cases hij : i = j
        · subst hij
          obtain rfl : o = oj := by rw [ho] at hoj; simpa using hoj
          by_cases hie : i = j'
          · rw [← hie, Array.getElem?_setIfInBounds_self_of_lt hll]
          · rw [Array.getElem?_setIfInBounds_ne hie]; exact hpre' j' hw
        · have hj' : listed[j]? = some true := by rwa [Array.getElem?_setIfInBounds_ne hij] at hj
          have h2 := hM.down j j' oj hj' hoj hw
          by_cases hie : i = j'
          · rw [← hie, Array.getElem?_setIfInBounds_self_of_lt hll]
          · rw [Array.getElem?_setIfInBounds_ne hie]; exact h2
      · rw [Array.toList_setIfInBounds, List.countP_set (h := by simpa using hll)]
        have hp : 0 < listed.toList.countP (!·) := (List.countP_pos_iff (p := (!·)) (l := listed.toList)).2 ⟨listed[i], by simp, by simp [hun']⟩
        have e1 : listed.toList[i]'(by simpa using hll) = false := by simpa using hun'
        rw [e1]
        simp only [Bool.not_false, Bool.not_true, if_true, Bool.false_eq_true, if_false]
        omega
    have hgw : (guardVal xs o = true ∨ guardKnown xs o = true) → Region.wanted o (yielded ops a.tmps) = guardVal xs o := fun hgk => by
      unfold Region.wanted
      cases hgo : o.guard with
      | none => unfold guardVal; rw [hgo]
      | some p =>
        obtain ⟨j, want⟩ := p
        unfold guarded at hG
        have h1 := Array.all_eq_true_iff_forall_mem.1 hG o (Array.mem_of_getElem? ho)
        rw [hgo] at h1
        simp only [Bool.and_eq_true] at h1
        obtain ⟨hw, hs⟩ := h1
        obtain ⟨d, hd⟩ := Option.isSome_iff_exists.1 hs
        obtain ⟨oj, hoj, hdj⟩ := Option.bind_eq_some_iff.1 hd
        have hjlt : j < m := by
          have hji : j < i := by
            unfold acyc at hA
            have h2 := List.all_eq_true.1 hA i (List.mem_range.2 hil)
            rw [ho] at h2
            unfold waits at hw
            obtain ⟨e, he, hb⟩ := Array.any_eq_true'.1 hw
            simp only [Bool.and_eq_true, beq_iff_eq] at hb
            have h3 := Array.all_eq_true_iff_forall_mem.1 h2 e he
            rw [hb.1, hb.2] at h3
            simpa using h3
          omega
        have hdsj := hat hoj hjlt
        rw [hdj] at hdsj
        obtain ⟨y, hy, _⟩ := hst.get (i := j) (o := oj) (hinit hoj hjlt)
        obtain ⟨u, ht, hf⟩ := hwait j d y hw hdsj hy
        have hy2 : ∃ c, y = .is c := by
          cases y with
          | is c => exact ⟨c, rfl⟩
          | has R =>
            exfalso
            rcases hgk with h | h
            · unfold guardVal at h; rw [hgo] at h; simp [hy] at h
            · unfold guardKnown at h; rw [hgo] at h; simp [hy] at h
        obtain ⟨c, rfl⟩ := hy2
        obtain rfl : u = c := hf
        unfold guardVal
        rw [hgo]
        simp only [yielded, hd, Option.bind_some, ht, hy]
        cases u <;> simp
    have hold : ∀ t u, ds.contains (some t) = false → a0.tmps.getD t undef = u → a.tmps.getD t undef = u := fun t u h1 h2 => by
      have h3 := hM.old t (fun j _ hd => by
        have := List.mem_of_getElem? hd
        rw [← List.contains_iff_mem] at this
        rw [h1] at this
        cases this)
      rw [← h2]
      simp [Array.getD_eq_getD_getElem?, h3]
    have hnd : noDefer o = true := List.all_eq_true.1 hND o (by rw [← Array.mem_def]; exact Array.mem_of_getElem? ho)
    unfold wpOpIn
    rw [ho]
    show if Region.wanted o (yielded ops a.tmps) = true then _ else _
    rcases hcase with ⟨hg, hstep⟩ | ⟨hg, hgk, hun⟩
    · rw [hgw (.inl hg), hg, if_pos rfl]
      exact wpIn_of_wp hF hnd (hstep a w hS hwait' hold _ (fun v w' h1 h2 h3 => hnext v w' h1 h2 h3))
    · rw [hgw (.inr hgk), hg, if_neg (by decide)]
      subst hun
      exact ⟨fun f _ => hF.fn f, hnext undef w hS (Below.refl _ _) rfl⟩
theorem regionAll {id : Nat} {w : World} (m : Nat) (S : World → Prop) (ds : List (Option Tmp)) (xs : List Exp) (hF : Wd F) (hm : P.follows .mixedOrders = true) (hz : decide (m < ops.size) = true) (hND : ops.toList.all noDefer = true) (hds : (ops.toList.take m).map (·.dst) = ds) (hA : acyc ops = true) (hG : guarded ops = true) (hW : lastTo m ops = true) (hC : chain m ops = true) (hN : decide (ds.filterMap fun x => x).Nodup = true) (hL : (ds.all fun o => o.all fun d => decide (d < a0.tmps.size)) = true) (hxl : xs.length = ds.length) (hS : S w.drew)
    (hst : Vals5.Steps P Q S ds xs a0 (ops.toList.take m) xs) (hend : ∀ w, S w → All ds xs w fun us => wpListIn F nn P ops Q (ops.toList.drop m) { a0 with tmps := putAll ds us a0.tmps } w) : (Code.region id ops true).wpIn F nn P Q a0 w := by
  have hz' := of_decide_eq_true hz
  have hL' : ∀ d, some d ∈ ds → d < a0.tmps.size := fun d hd => by
    have := List.all_eq_true.1 hL (some d) hd
    simpa using this
  refine wpIn_region_any hm (go hF hz' hND hds hA hG hW hC (show (ds.filterMap _root_.id).Nodup from of_decide_eq_true hN) hL' hxl hst (fun w us h hF => All.use (hend w h) hF) ops.size _ a0 w.drew ⟨by simp, rfl, rfl, ?_, ?_, ?_, ?_⟩ hS ?_)
  · intro i d v h
    rw [Array.getElem?_replicate] at h
    split at h <;> cases h
  · intro t _; rfl
  · intro i j o h
    rw [Array.getElem?_replicate] at h
    split at h <;> cases h
  · intro i _ h
    rw [Array.getElem?_replicate, if_pos h]
  · have := List.countP_le_length (p := (!·)) (l := (Array.replicate ops.size false).toList)
    simpa using this
end
end Vals6T
end Go.Proofs.Ytgkdidnmndmlhaa
