import Derived.Test.YtgkdidnmndmlhaaShr
import Derived.OrdersIn
/- A region of a frame that rounds may be in: its operations come to values that are known ahead, up to one that waits for all of them; the rest, each waiting for the one before it, is walked at the end. -/
namespace Go.Proofs.Ytgkdidnmndmlhaa
open Go.RowKit
/-- the fences that all functions may enter, without a bound: outside a round, and in one. -/
def Wd (F : Fence) : Prop := F = Fence.wide ∨ ∃ l, F = Fence.wide.inRound l
theorem Wd.fn {F : Fence} (h : Wd F) (f : FuncId) : F.fn f := by rcases h with rfl | ⟨l, rfl⟩ <;> trivial
theorem Wd.deep {F : Fence} (h : Wd F) {q : Prop} (e : F.depth.isSome = true) : q := by rcases h with rfl | ⟨l, rfl⟩ <;> cases e
theorem Wd.calls {F : Fence} (h : Wd F) {n : Nat} {P : Program} {f : FuncId} {args : Array Value} {w : World} {R : Ending → World → Prop} (hc : Calls P f args w R) : CallsIn F n P f args w R := by
  rcases h with rfl | ⟨l, rfl⟩
  · exact callsIn_wide.2 hc
  · exact CallsIn.inRound l (callsIn_wide.2 hc)
theorem rowsIn_of {n : Nat} {P : Program} {row : String} {args : Array Value} {w : World} {R : Value → World → Prop} (h : Rows P row args w R) : RowsIn Fence.wide n P row args w R :=
  fun c cs _ => let ⟨v, w', r, s⟩ := h c cs; ⟨v, w', r, stepsIn_wide.2 s⟩
theorem Wd.rows {F : Fence} (h : Wd F) {n : Nat} {P : Program} {row : String} {args : Array Value} {w : World} {R : Value → World → Prop} (hc : Rows P row args w R) : RowsIn F n P row args w R := by
  rcases h with rfl | ⟨l, rfl⟩
  · exact rowsIn_of hc
  · exact rowsIn_of hc
def noDefer (o : Oper) : Bool := match o.op with | .defer _ => false | _ => true
theorem wpIn_of_wp {F : Fence} (hF : Wd F) {n : Nat} {P : Program} {o : Oper} {a : Act} {w : World} {K : Act → World → Prop} {Q : Exit → Act → World → Prop} (hd : noDefer o = true) (h : o.wp P a w K Q) : o.wpIn F n P a w K Q := by
  refine ⟨fun f _ => hF.fn f, ?_⟩
  rw [Oper.semAt_plain F a.eval o (fun c e => by simp [noDefer, e] at hd)]
  unfold Oper.wp at h
  generalize (execOp a.eval o).run P w = r at h ⊢
  match r, h with
  | .ok (.value v) w', h => exact h
  | .ok .skip w', h => exact h
  | .ok (.defer d) w', h => exact h
  | .ok (.enter f args) w', h => exact ⟨fun e => hF.deep e, hF.calls h⟩
  | .ok (.row row args) w', h => exact ⟨fun e => hF.deep e, hF.rows h⟩
  | .halt (.panic v) w', h => exact h
namespace Vals6T
open Vals (putAll putAll_size putAll_out putAll_in waits acyc guarded slot_inj getD_of ready_spec all_of_none)
open Vals5 (Exp fits Stable guardVal guardKnown Fits All fits_of)
set_option linter.unusedVariables false
section
variable {F : Fence} {nn m : Nat} {P : Program} {Q : Exit → Act → World → Prop} {S : World → Prop} {ops : Array Oper} {ds : List (Option Tmp)} {xs : List Exp} {a0 : Act}
/-- each of the first m operations is waited for by a later one, up to the m-th. -/
def lastTo (m : Nat) (ops : Array Oper) : Bool := (List.range m).all fun i => (List.range (m + 1)).any fun j => decide (i < j) && ((ops[j]?).map (waits · i)).getD false
/-- behind the m-th each operation waits for the one before it. -/
def chain (m : Nat) (ops : Array Oper) : Bool := (List.range ops.size).all fun j => decide (j ≤ m) || ((ops[j]?).map (waits · (j - 1))).getD false
structure Mid (m : Nat) (ops : Array Oper) (ds : List (Option Tmp)) (xs : List Exp) (a0 : Act) (listed : Array Bool) (a : Act) (w : World) : Prop where
  size : listed.size = ops.size
  defers : a.defers = a0.defers
  tsize : a.tmps.size = a0.tmps.size
  done : ∀ (i : Nat) (d : Tmp) (x : Exp), listed[i]? = some true → ds[i]? = some (some d) → xs[i]? = some x → ∃ v, a.tmps[d]? = some v ∧ fits x v w
  old : ∀ t : Tmp, (∀ i : Nat, listed[i]? = some true → ds[i]? ≠ some (some t)) → a.tmps[t]? = a0.tmps[t]?
  down : ∀ (i j : Nat) (o : Oper), listed[i]? = some true → ops[i]? = some o → waits o j = true → listed[j]? = some true
  last : ∀ i, m ≤ i → i < ops.size → listed[i]? = some false
theorem all_of_last {listed : Array Bool} {a : Act} {w : World} (hms : m < ops.size) (hW : lastTo m ops = true) (hM : Mid m ops ds xs a0 listed a w) {l : Oper} (hl : ops[m]? = some l) (hpre : ∀ j, waits l j = true → listed[j]? = some true) : ∀ k i, i + k = m → 0 < k → listed[i]? = some true := by
  intro k
  induction k using Nat.strongRecOn with
  | _ k ih =>
    intro i hik h0
    unfold lastTo at hW
    have h1 := List.all_eq_true.1 hW i (List.mem_range.2 (by omega))
    obtain ⟨j, hj, hw⟩ := List.any_eq_true.1 h1
    have hjm := List.mem_range.1 hj
    have hjs : j < ops.size := by omega
    simp only [Bool.and_eq_true, decide_eq_true_eq] at hw
    obtain ⟨hij, hw⟩ := hw
    rw [Array.getElem?_eq_getElem hjs] at hw
    have hw' : waits ops[j] i = true := by simpa using hw
    by_cases hje : j = m
    · have e : ops[j] = l := by
        subst hje
        rw [Array.getElem?_eq_getElem hjs] at hl
        exact Option.some.inj hl
      rw [e] at hw'
      exact hpre i hw'
    · exact hM.down j i ops[j] (ih (k - (j - i)) (by omega) j (by omega) (by omega)) (Array.getElem?_eq_getElem hjs) hw'
theorem pre_listed {listed : Array Bool} {o : Oper} (hpre : ∀ e ∈ o.after, Region.binds .any e = true → listed.getD e.on false = true) : ∀ j, waits o j = true → listed[j]? = some true := fun j hw => by
  unfold waits at hw
  obtain ⟨e, he, hb⟩ := Array.any_eq_true'.1 hw
  simp only [Bool.and_eq_true, beq_iff_eq] at hb
  obtain ⟨hb, rfl⟩ := hb
  have h1 := hpre e he hb
  unfold Array.getD at h1
  split at h1
  · rename_i hx
    rw [Array.getElem?_eq_getElem hx]
    exact congrArg some h1
  · cases h1
/-- the chain, as a list. -/
theorem tailAny (hA : acyc ops = true) (hC : chain m ops = true) : ∀ (fuel k : Nat) (listed : Array Bool) (a : Act) (w : World), m ≤ k → k ≤ ops.size → listed.size = ops.size → (∀ i, i < k → listed[i]? = some true) → (∀ i, k ≤ i → i < ops.size → listed[i]? = some false) →
    ops.size - k ≤ fuel → wpListIn F nn P ops Q (ops.toList.drop k) a w → wpAnyIn F nn P .any ops Q fuel listed a w := by
  intro fuel
  induction fuel with
  | zero =>
    intro k listed a w hmk hks hsz h1 h2 hf h
    have hk : k = ops.size := by omega
    subst hk
    rw [List.drop_eq_nil_of_le (by simp)] at h
    refine ⟨?_, h⟩
    rw [List.eq_nil_iff_forall_not_mem]
    intro i hi
    obtain ⟨e1, e2, _⟩ := ready_spec.1 hi
    rw [getD_of (h1 i e1)] at e2
    cases e2
  | succ fuel ih =>
    intro k listed a w hmk hks hsz h1 h2 hf h
    refine ⟨fun hr => ?_, fun i hi => ?_⟩
    · have hall := all_of_none hA hsz hr
      have hk : k = ops.size := by
        rcases Nat.lt_or_ge k ops.size with hlt | hge
        · have e1 := hall k hlt
          rw [h2 k (Nat.le_refl _) hlt] at e1
          cases e1
        · omega
      subst hk
      rw [List.drop_eq_nil_of_le (by simp)] at h
      exact h
    · obtain ⟨e1, e2, o, ho, hpre⟩ := ready_spec.1 hi
      have hik : i = k := by
        rcases Nat.lt_or_ge i k with hlt | hge
        · rw [getD_of (h1 i hlt)] at e2; cases e2
        · rcases Nat.lt_or_ge k i with hlt | hge2
          · exfalso
            unfold chain at hC
            have h3 := List.all_eq_true.1 hC i (List.mem_range.2 e1)
            rw [ho] at h3
            have h4 : waits o (i - 1) = true := by
              rw [show decide (i ≤ m) = false from decide_eq_false (by omega), Bool.false_or] at h3
              simpa using h3
            have h5 := pre_listed hpre (i - 1) h4
            rw [h2 (i - 1) (by omega) (by omega)] at h5
            cases h5
          · omega
      subst hik
      have hd : ops.toList.drop i = o :: ops.toList.drop (i + 1) := by
        rw [List.drop_eq_getElem_cons (by simpa using e1)]
        congr 1
        rw [Array.getElem?_eq_getElem e1] at ho
        simpa using Option.some.inj ho
      rw [hd] at h
      have hnext : ∀ a w, wpListIn F nn P ops Q (ops.toList.drop (i + 1)) a w → wpAnyIn F nn P .any ops Q fuel (listed.setIfInBounds i true) a w := fun a w h => by
        have hll : i < listed.size := by omega
        refine ih (i + 1) _ a w (by omega) (by omega) (by simpa using hsz) (fun j hj => ?_) (fun j hj hj2 => ?_) (by omega) h
        · by_cases hij : i = j
          · rw [← hij, Array.getElem?_setIfInBounds_self_of_lt hll]
          · rw [Array.getElem?_setIfInBounds_ne hij]; exact h1 j (by omega)
        · rw [Array.getElem?_setIfInBounds_ne (by omega)]; exact h2 j (by omega) hj2
      unfold wpOpIn
      rw [ho]
      simp only [wpListIn] at h
      show if Region.wanted o (yielded ops a.tmps) = true then _ else _
      split
      · rename_i hw
        rw [if_pos hw] at h
        exact Oper.wpIn_mono hnext h
      · rename_i hw
        rw [if_neg hw] at h
        exact ⟨h.1, hnext _ _ h.2⟩
theorem go (hF : Wd F) (hz : m < ops.size) (hND : ops.toList.all noDefer = true) (hds : (ops.toList.take m).map (·.dst) = ds) (hA : acyc ops = true) (hG : guarded ops = true) (hW : lastTo m ops = true) (hC : chain m ops = true) (hN : (ds.filterMap id).Nodup) (hL : ∀ d, some d ∈ ds → d < a0.tmps.size)
    (hxl : xs.length = ds.length) (hst : Vals5.Steps P Q S ds xs a0 (ops.toList.take m) xs) (hend : ∀ w us, S w → Fits ds xs us w → wpListIn F nn P ops Q (ops.toList.drop m) { a0 with tmps := putAll ds us a0.tmps } w) :
    ∀ (fuel : Nat) (listed : Array Bool) (a : Act) (w : World), Mid m ops ds xs a0 listed a w → S w → listed.toList.countP (!·) ≤ fuel → wpAnyIn F nn P .any ops Q fuel listed a w := by
  have hdl : ds.length = m := by rw [← hds]; simp; omega
  have hinit : ∀ {i : Nat} {o : Oper}, ops[i]? = some o → i < m → (ops.toList.take m)[i]? = some o := fun {i o} h hi => by
    rw [List.getElem?_take, if_pos hi]
    simpa using h
  have hat : ∀ {i : Nat} {o : Oper}, ops[i]? = some o → i < m → ds[i]? = some o.dst := fun {i o} h hi => by
    rw [← hds, List.getElem?_map, hinit h hi]; rfl
  have hl' : ops[m]? = some ops[m] := Array.getElem?_eq_getElem hz
  intro fuel
  induction fuel with
  | zero =>
    intro listed a w hM hS hc
    exfalso
    have hlast := hM.last m (Nat.le_refl _) hz
    have hil : m < listed.size := by have := hM.size; omega
    rw [Array.getElem?_eq_getElem hil] at hlast
    have := (List.countP_pos_iff (p := (!·)) (l := listed.toList)).2 ⟨listed[m], by simp, by simpa using hlast⟩
    omega
  | succ fuel ih =>
    intro listed a w hM hS hc
    refine ⟨fun h => ?_, fun i hi => ?_⟩
    · have := all_of_none hA hM.size h m hz
      rw [hM.last m (Nat.le_refl _) hz] at this
      cases this
    obtain ⟨hil, hun, o, ho, hpre⟩ := ready_spec.1 hi
    have hll : i < listed.size := by have := hM.size; omega
    have hun' : listed[i] = false := by simpa [Array.getD, hll] using hun
    have hpre' : ∀ j, waits o j = true → listed[j]? = some true := fun j hw => by
      unfold waits at hw
      obtain ⟨e, he, hb⟩ := Array.any_eq_true'.1 hw
      simp only [Bool.and_eq_true, beq_iff_eq] at hb
      obtain ⟨hb, rfl⟩ := hb
      have h1 := hpre e he hb
      unfold Array.getD at h1
      split at h1
      · rename_i hx
        rw [Array.getElem?_eq_getElem hx]
        exact congrArg some h1
      · cases h1
    by_cases hge : m ≤ i
    · -- the chain: all others are done
      have him : i = m := by
        rcases Nat.lt_or_ge m i with hlt | h
        · exfalso
          unfold chain at hC
          have h3 := List.all_eq_true.1 hC i (List.mem_range.2 hil)
          rw [ho] at h3
          have h4 : waits o (i - 1) = true := by
            rw [show decide (i ≤ m) = false from decide_eq_false (by omega), Bool.false_or] at h3
            simpa using h3
          have h5 := hpre' (i - 1) h4
          rw [hM.last (i - 1) (by omega) (by omega)] at h5
          cases h5
        · omega
      subst him
      have hall : ∀ j, j < i → listed[j]? = some true := fun j hj => all_of_last hz hW hM ho hpre' (i - j) j (by omega) (by omega)
      obtain ⟨us, hFt, hus⟩ := fits_of (ds := ds) (xs := xs) (tm := a.tmps) (w := w) hxl (fun i d x hd hx => hM.done i d x (hall i (by rw [← hdl]; exact (List.getElem?_eq_some_iff.1 hd).1)) hd hx)
      have he : a = { a0 with tmps := putAll ds us a0.tmps } := by
        obtain ⟨tm, df⟩ := a
        have h1 : df = a0.defers := hM.defers
        have h2 : tm = putAll ds us a0.tmps := by
          apply Array.ext_getElem?
          intro t
          by_cases hex : ∃ i : Nat, ds[i]? = some (some t)
          · obtain ⟨i, hi⟩ := hex
            obtain ⟨v, hv, hv2⟩ := hus i t hi
            rw [putAll_in ds us a0.tmps t i v hN (hL t (List.mem_of_getElem? hi)) hi hv]
            exact hv2
          · rw [putAll_out ds us a0.tmps t (fun i hi => hex ⟨i, hi⟩)]
            exact hM.old t (fun i _ hi => hex ⟨i, hi⟩)
        rw [h1, h2]
      have hlist := hend w us hS hFt
      rw [← he] at hlist
      have htail := tailAny (F := F) (nn := nn) (P := P) (Q := Q) hA hC (fuel + 1) i listed a w (Nat.le_refl _) (by omega) hM.size hall hM.last (by
        have hc2 : ops.size - i ≤ listed.toList.countP (!·) := by
          have : listed.toList.countP (!·) = (listed.toList.take i).countP (!·) + (listed.toList.drop i).countP (!·) := by rw [← List.countP_append, List.take_append_drop]
          have hd : (listed.toList.drop i).countP (!·) = (listed.toList.drop i).length := by
            rw [List.countP_eq_length]
            intro b hb
            obtain ⟨q, hq, rfl⟩ := List.mem_iff_getElem.1 hb
            have hq' : i + q < listed.size := by simp at hq; omega
            have := hM.last (i + q) (by omega) (by have := hM.size; omega)
            rw [Array.getElem?_eq_getElem hq'] at this
            simpa using Option.some.inj this
          have hdl2 : (listed.toList.drop i).length = listed.size - i := by simp
          have := hM.size
          omega
        omega) hlist
      exact htail.2 i hi
    have hilt : i < m := by omega
    obtain ⟨x, hx, hstab, hcase⟩ := hst.get (i := i) (o := o) (hinit ho hilt)
    have hdo := hat ho hilt
    have hwait : ∀ j d y, waits o j = true → ds[j]? = some (some d) → xs[j]? = some y → ∃ v, a.tmps[d]? = some v ∧ fits y v w := fun j d y hw hd hy => by
      unfold waits at hw
      obtain ⟨e, he, hb⟩ := Array.any_eq_true'.1 hw
      simp only [Bool.and_eq_true, beq_iff_eq] at hb
      obtain ⟨hb, rfl⟩ := hb
      have h1 := hpre e he hb
      have h2 : listed[e.on]? = some true := by
        unfold Array.getD at h1
        split at h1
        · rename_i hx
          rw [Array.getElem?_eq_getElem hx]
          exact congrArg some h1
        · cases h1
      exact hM.done e.on d y h2 hd hy
    have hwait' : ∀ j d y, waits o j = true → ds[j]? = some (some d) → xs[j]? = some y → fits y (a.tmps.getD d undef) w := fun j d y hw hd hy => by
      obtain ⟨v, hv, hf⟩ := hwait j d y hw hd hy
      rw [getD_of hv]; exact hf
    have hnext : ∀ v w', S w' → Below w.heap.size w w' → fits x v w' → wpAnyIn F nn P .any ops Q fuel (listed.setIfInBounds i true) (a.put o.dst v) w' := fun v w' hS' hb' hf' => by
      refine ih _ _ _ ⟨by simp [hM.size], ?_, ?_, ?_, ?_, ?_, fun q hq hq2 => by rw [Array.getElem?_setIfInBounds_ne (by omega)]; exact hM.last q hq hq2⟩ hS' ?_
      · cases o.dst <;> exact hM.defers
      · cases o.dst <;> simp [Act.put, hM.tsize]
      · intro j d y hj hd hy
        by_cases hij : i = j
        · subst hij
          obtain rfl : x = y := by rw [hx] at hy; simpa using hy
          obtain hod : o.dst = some d := by rw [hdo] at hd; simpa using hd
          rw [hod]
          simp only [Act.put]
          have := hL d (List.mem_of_getElem? hd)
          exact ⟨v, by rw [Array.getElem?_setIfInBounds_self_of_lt (by rw [hM.tsize]; exact this)], hf'⟩
        · have hj' : listed[j]? = some true := by rwa [Array.getElem?_setIfInBounds_ne hij] at hj
          obtain ⟨u, h0, hf0⟩ := hM.done j d y hj' hd hy
          have hjd : j < ds.length := (List.getElem?_eq_some_iff.1 hd).1
          have hjo : j < ops.size := by omega
          obtain ⟨y', hy', hst', _⟩ := hst.get (i := j) (o := ops[j]) (hinit (Array.getElem?_eq_getElem hjo) (by omega))
          obtain rfl : y = y' := by rw [hy] at hy'; simpa using hy'
          refine ⟨u, ?_, hst' u w w' hf0 hb'⟩
          cases hod : o.dst with
          | none => exact h0
          | some d' =>
            simp only [Act.put]
            have hne : d' ≠ d := fun e => by
              subst e
              rw [hod] at hdo
              exact hij (slot_inj hN hdo hd)
            rw [Array.getElem?_setIfInBounds_ne hne]
            exact h0
      · intro t ht
        have h0 := hM.old t (fun j hj => ht j (by
          by_cases hij : i = j
          · subst hij
            rw [Array.getElem?_eq_getElem hll, hun'] at hj
            cases hj
          · rw [Array.getElem?_setIfInBounds_ne hij]; exact hj))
        cases hod : o.dst with
        | none => exact h0
        | some d' =>
          simp only [Act.put]
          have hne : d' ≠ t := fun e => by
            subst e
            exact ht i (by rw [Array.getElem?_setIfInBounds_self_of_lt hll]) (by rw [hdo, hod])
          rw [Array.getElem?_setIfInBounds_ne hne]
          exact h0
      · intro j j' oj hj hoj hw
        by_cases hij : i = j
        · subst hij
          obtain rfl : o = oj := by rw [ho] at hoj; simpa using hoj
          by_cases hie : i = j'
          · rw [← hie, Array.getElem?_setIfInBounds_self_of_lt hll]
          · rw [Array.getElem?_setIfInBounds_ne hie]; exact hpre' j' hw
        · have hj' : listed[j]? = some true := by rwa [Array.getElem?_setIfInBounds_ne hij] at hj
          have h2 := hM.down j j' oj hj' hoj hw
          by_cases hie : i = j'
          · rw [← hie, Array.getElem?_setIfInBounds_self_of_lt hll]
          · rw [Array.getElem?_setIfInBounds_ne hie]; exact h2
      · rw [Array.toList_setIfInBounds, List.countP_set (h := by simpa using hll)]
        have hp : 0 < listed.toList.countP (!·) := (List.countP_pos_iff (p := (!·)) (l := listed.toList)).2 ⟨listed[i], by simp, by simp [hun']⟩
        have e1 : listed.toList[i]'(by simpa using hll) = false := by simpa using hun'
        rw [e1]
        simp only [Bool.not_false, Bool.not_true, if_true, Bool.false_eq_true, if_false]
        omega
    have hgw : (guardVal xs o = true ∨ guardKnown xs o = true) → Region.wanted o (yielded ops a.tmps) = guardVal xs o := fun hgk => by
      unfold Region.wanted
      cases hgo : o.guard with
      | none => unfold guardVal; rw [hgo]
      | some p =>
        obtain ⟨j, want⟩ := p
        unfold guarded at hG
        have h1 := Array.all_eq_true_iff_forall_mem.1 hG o (Array.mem_of_getElem? ho)
        rw [hgo] at h1
        simp only [Bool.and_eq_true] at h1
        obtain ⟨hw, hs⟩ := h1
        obtain ⟨d, hd⟩ := Option.isSome_iff_exists.1 hs
        obtain ⟨oj, hoj, hdj⟩ := Option.bind_eq_some_iff.1 hd
        have hjlt : j < m := by
          have hji : j < i := by
            unfold acyc at hA
            have h2 := List.all_eq_true.1 hA i (List.mem_range.2 hil)
            rw [ho] at h2
            unfold waits at hw
            obtain ⟨e, he, hb⟩ := Array.any_eq_true'.1 hw
            simp only [Bool.and_eq_true, beq_iff_eq] at hb
            have h3 := Array.all_eq_true_iff_forall_mem.1 h2 e he
            rw [hb.1, hb.2] at h3
            simpa using h3
          omega
        have hdsj := hat hoj hjlt
        rw [hdj] at hdsj
        obtain ⟨y, hy, _⟩ := hst.get (i := j) (o := oj) (hinit hoj hjlt)
        obtain ⟨u, ht, hf⟩ := hwait j d y hw hdsj hy
        have hy2 : ∃ c, y = .is c := by
          cases y with
          | is c => exact ⟨c, rfl⟩
          | has R =>
            exfalso
            rcases hgk with h | h
            · unfold guardVal at h; rw [hgo] at h; simp [hy] at h
            · unfold guardKnown at h; rw [hgo] at h; simp [hy] at h
        obtain ⟨c, rfl⟩ := hy2
        obtain rfl : u = c := hf
        unfold guardVal
        rw [hgo]
        simp only [yielded, hd, Option.bind_some, ht, hy]
        cases u <;> simp
    have hold : ∀ t u, ds.contains (some t) = false → a0.tmps.getD t undef = u → a.tmps.getD t undef = u := fun t u h1 h2 => by
      have h3 := hM.old t (fun j _ hd => by
        have := List.mem_of_getElem? hd
        rw [← List.contains_iff_mem] at this
        rw [h1] at this
        cases this)
      rw [← h2]
      simp [Array.getD_eq_getD_getElem?, h3]
    have hnd : noDefer o = true := List.all_eq_true.1 hND o (by rw [← Array.mem_def]; exact Array.mem_of_getElem? ho)
    unfold wpOpIn
    rw [ho]
    show if Region.wanted o (yielded ops a.tmps) = true then _ else _
    rcases hcase with ⟨hg, hstep⟩ | ⟨hg, hgk, hun⟩
    · rw [hgw (.inl hg), hg, if_pos rfl]
      exact wpIn_of_wp hF hnd (hstep a w hS hwait' hold _ (fun v w' h1 h2 h3 => hnext v w' h1 h2 h3))
    · rw [hgw (.inr hgk), hg, if_neg (by decide)]
      subst hun
      exact ⟨fun f _ => hF.fn f, hnext undef w hS (Below.refl _ _) rfl⟩
theorem regionAll {id : Nat} {w : World} (m : Nat) (S : World → Prop) (ds : List (Option Tmp)) (xs : List Exp) (hF : Wd F) (hm : P.follows .mixedOrders = true) (hz : decide (m < ops.size) = true) (hND : ops.toList.all noDefer = true) (hds : (ops.toList.take m).map (·.dst) = ds) (hA : acyc ops = true) (hG : guarded ops = true) (hW : lastTo m ops = true) (hC : chain m ops = true) (hN : decide (ds.filterMap fun x => x).Nodup = true) (hL : (ds.all fun o => o.all fun d => decide (d < a0.tmps.size)) = true) (hxl : xs.length = ds.length) (hS : S w.drew)
    (hst : Vals5.Steps P Q S ds xs a0 (ops.toList.take m) xs) (hend : ∀ w, S w → All ds xs w fun us => wpListIn F nn P ops Q (ops.toList.drop m) { a0 with tmps := putAll ds us a0.tmps } w) : (Code.region id ops true).wpIn F nn P Q a0 w := by
  have hz' := of_decide_eq_true hz
  have hL' : ∀ d, some d ∈ ds → d < a0.tmps.size := fun d hd => by
    have := List.all_eq_true.1 hL (some d) hd
    simpa using this
  refine wpIn_region_any hm (go hF hz' hND hds hA hG hW hC (show (ds.filterMap _root_.id).Nodup from of_decide_eq_true hN) hL' hxl hst (fun w us h hF => All.use (hend w h) hF) ops.size _ a0 w.drew ⟨by simp, rfl, rfl, ?_, ?_, ?_, ?_⟩ hS ?_)
  · intro i d v h
    rw [Array.getElem?_replicate] at h
    split at h <;> cases h
  · intro t _; rfl
  · intro i j o h
    rw [Array.getElem?_replicate] at h
    split at h <;> cases h
  · intro i _ h
    rw [Array.getElem?_replicate, if_pos h]
  · have := List.countP_le_length (p := (!·)) (l := (Array.replicate ops.size false).toList)
    simpa using this
end
end Vals6T
end Go.Proofs.Ytgkdidnmndmlhaa
/- What a round of a loop over an iterator keeps; a loop over an iterator within a round. -/
namespace Go.Proofs.Ytgkdidnmndmlhaa
open Go.RowKit
namespace Td
set_option linter.unusedSimpArgs false
set_option linter.unusedVariables false
/-- W' keeps what W has, but for the blocks from a to b, and for what is no cells and lies from c to e. -/
structure Kp (a b c e : Nat) (W W' : World) : Prop where
  os : W'.os = W.os
  tape : W'.tape = W.tape
  output : W'.output = W.output
  size : W.heap.size ≤ W'.heap.size
  kept : ∀ (k : Nat) (o : Obj), W.heap[k]? = some o → ¬ (a ≤ k ∧ k < b) → (o.isCells = true ∨ k < c ∨ e ≤ k) → W'.heap[k]? = some o
theorem Kp.of {a b c e : Nat} {W W' : World} (h : Below W.heap.size W W') : Kp a b c e W W' :=
  ⟨h.os, h.tape, h.output, h.size, fun k o hk _ _ => (h.block k (Array.getElem?_eq_some_iff.1 hk).1).trans hk⟩
theorem Kp.refl (a b c e : Nat) (W : World) : Kp a b c e W W := .of (Below.refl _ _)
theorem Kp.trans {a b c e : Nat} {A B C : World} (h : Kp a b c e A B) (k : Kp a b c e B C) : Kp a b c e A C :=
  ⟨k.os.trans h.os, k.tape.trans h.tape, k.output.trans h.output, Nat.le_trans h.size k.size, fun i o hi hn hc => k.kept i o (h.kept i o hi hn hc) hn hc⟩
theorem Kp.put {a b c e : Nat} (W : World) (l : Nat) (o o' : Obj) (hl : c ≤ l) (hl2 : l < e) (hg : W.heap[l]? = some o) (hc : o.isCells = false) : Kp a b c e W (W.putObj l o') :=
  ⟨rfl, rfl, rfl, by simp [World.putObj], fun k u hk _ hu => by
    by_cases hkl : k = l
    · subst hkl
      rw [hg] at hk
      cases hk
      rcases hu with hu | hu
      · rw [hc] at hu; cases hu
      · omega
    · exact (World.putObj_heap_other (fun e => hkl e)).trans hk⟩
theorem Kp.setCell {a b c e : Nat} {A W : World} (h : Kp a b c e A W) (g i : Nat) (v : Value) (ha : a ≤ g) (hb : g < b) : Kp a b c e A (W.setCell ⟨g, i, none⟩ v) :=
  ⟨h.os, h.tape, h.output, by simpa using h.size, fun k o hk hn hc => (heap_setCell_other W ⟨g, i, none⟩ k v (fun e => hn (by subst e; exact ⟨ha, hb⟩))).trans (h.kept k o hk hn hc)⟩
theorem Kp.row {a b c e : Nat} {A W : World} (h : Kp a b c e A W) (g : Nat) (cs : Array Value) (ha : a ≤ g) (hb : g < b) : Kp a b c e A (W.setRow g cs) :=
  ⟨h.os, h.tape, h.output, by rw [size_setRow]; exact h.size, fun k o hk hn hc => (setRow_other W g k cs (fun e => hn (by subst e; exact ⟨ha, hb⟩))).trans (h.kept k o hk hn hc)⟩
theorem Kp.then {a b c e : Nat} {A W W' : World} (h : Kp a b c e A W) (hb : Below W.heap.size W W') : Kp a b c e A W' := h.trans (.of hb)
theorem Blk.kp {a b c e : Nat} {W W' : World} {g : Nat} {t : TypeId} {cs : Array Value} (h : Blk W g t cs) (k : Kp a b c e W W') (hg : ¬ (a ≤ g ∧ g < b)) : Blk W' g t cs := k.kept g _ h hg (.inl rfl)
theorem AllFrom.kp {β : Type} {a b c e B : Nat} {w₀ : World} (hB : w₀.heap.size ≤ B) : AllFrom B (fun (_ : β) W => Kp a b c e w₀ W) :=
  fun _ W W' row hs hg hr => ⟨hg.os.trans hs.os, hg.tape.trans hs.tape, hg.output.trans hs.output, Nat.le_trans hs.size hg.size, fun k o hk hn hc =>
    (hg.block k (Nat.lt_of_lt_of_le (Array.getElem?_eq_some_iff.1 hk).1 hs.size) (fun e => by have := hr k e.symm; have := (Array.getElem?_eq_some_iff.1 hk).1; omega)).trans (hs.kept k o hk hn hc)⟩
theorem AllFrom.keep {β : Type} {B : Nat} {I : β → World → Prop} (h : AllFrom B I) {s : β} {W W' : World} (hs : I s W) (hb : Below W.heap.size W W') : I s W' :=
  h s W W' none hs ⟨hb.os, hb.tape, hb.output, hb.size, fun k hk _ => hb.block k hk⟩ (fun r e => by cases e)
theorem AllFrom.row {β : Type} {B : Nat} {I : β → World → Prop} (h : AllFrom B I) {s : β} {W : World} (g : Nat) (cs : Array Value) (hs : I s W) (hB : B ≤ g) : I s (W.setRow g cs) :=
  h s W _ (some g) hs ⟨rfl, rfl, rfl, by simp, fun k hk hne => setRow_other W g k cs (fun e => hne (by rw [e]))⟩ (fun r e => by cases e; exact hB)
theorem below_kp {w W X : World} {a b c e : Nat} (h : Below w.heap.size w W) (k : Kp a b c e W X) (hn : w.heap.size ≤ a ∧ w.heap.size ≤ c) : Below w.heap.size w X :=
  ⟨k.os.trans h.os, k.tape.trans h.tape, k.output.trans h.output, Nat.le_trans h.size k.size, fun i hi => by
    have hiW : i < W.heap.size := Nat.lt_of_lt_of_le hi h.size
    have e : W.heap[i]? = some W.heap[i] := Array.getElem?_eq_getElem hiW
    exact (k.kept i _ e (by omega) (.inr (.inl (by omega)))).trans (e.symm.trans (h.block i hi))⟩
variable {F : Fence} {n : Nat} {P : Program} {w : World}
theorem rangeFunc_d {α : Type} {g : Operand} {ps : Array Tmp} {assign body : Code} {Q : Exit → Act → World → Prop} {a : Act}
    (hro : F.round = none) (h1 : 1 ≤ n) {gf : Nat} {lb : Array Value} (hg : a.eval g = .func (.func gf) #[] lb) (hFg : F.fn gf) (eg : ∀ args w, (callFunc gf args).run P w = .ok (.enter gf args) w)
    {encs : α → Array Value} {Kp : World → World → Prop} {S Sp : List α → Prop} {R : List α → α → Prop} {w0 : World} (hseq : SeqC F (n - 1) P gf lb encs Kp S Sp R w0)
    (hKt : ∀ {A B C : World}, Kp A B → Kp B C → Kp A C) (hKb : ∀ (W : World) (o o' : Obj), W.heap[w.heap.size + 1]? = some o → o.isCells = false → o.isWalk = false → Kp W (W.putObj (w.heap.size + 1) o')) (hb0 : Below w0.heap.size w0 w) (hps : ∀ x, (encs x).size = ps.size)
    (I : List α → World → Prop) (Ix : Code → List α → World → Prop) (hI : AllFrom w.heap.size I) (hIx : ∀ c, AllFrom w.heap.size (Ix c)) (h0 : I [] w) (Ax : α → Act → World → Prop) (hAx : ∀ x a', OwnFrom w.heap.size (fun (_ : Unit) W => Ax x a' W))
    (hassign : ∀ (l : Nat) (pre : List α) (x : α) (W : World) (K : Act → World → Prop), I pre W → (∀ a' W', KeepsFrom w.heap.size W W' → Kp W W' → I pre W' → Ax x a' W' → K a' W') →
      assign.wpIn (F.inRound l) (n - 1 - 1) P (Exit.then K (fun _ _ _ => False)) { tmps := (ps.zip (encs x)).foldl (fun t (p, v) => t.setIfInBounds p v) a.tmps, defers := [] } W)
    (hbody : ∀ (l : Nat) (pre : List α) (x : α) (a' : Act) (W : World), w.heap.size ≤ l → (∃ r, W.heap[l]? = some (.loop r)) → I pre W → Ax x a' W → R pre x → body.wpIn (F.inRound l) (n - 1 - 1) P (ownPostG w.heap.size Kp I Ix (pre ++ [x]) W) a' W)
    (hdone : ∀ (D : Nat) (xs : List α) (W : World), w.heap.size ≤ D → S xs → I xs W → W.heap[D]? = some (.deferred (some [])) → Q .normal { a with defers := { target := .collected D, args := #[] } :: a.defers } W)
    (hstop : ∀ (D : Nat) (c : Code) (pre : List α) (W : World), w.heap.size ≤ D → Sp pre → Ix c pre W → W.heap[D]? = some (.deferred (some [])) → c.wpIn F n P Q { a with defers := { target := .collected D, args := #[] } :: a.defers } W) :
    (Code.rangeFunc g ps assign body).wpIn F n P Q a w := by
  refine wpIn_rangeFunc fun fn hfn => ?_
  rw [hro]
  -- the loop's record, by its state and what is pending; its two blocks
  obtain ⟨rc, hrc⟩ : ∃ rc : LoopState → Option Code → Loop, rc = fun st pe => { state := st, pending := pe, fn, tmps := a.tmps, params := ps, assign, body, defers := w.heap.size } := ⟨_, rfl⟩
  obtain ⟨W1, hW1⟩ : ∃ W1, (w.alloc (.deferred (some []))).alloc (.loop (rc .ready none)) = W1 := ⟨_, rfl⟩
  have hz1 : W1.heap.size = w.heap.size + 1 + 1 := by rw [← hW1]; simp
  have hL1 : W1.heap[w.heap.size + 1]? = some (.loop (rc .ready none)) := by
    rw [← hW1]
    have := World.alloc_heap_new (w.alloc (.deferred (some []))) (.loop (rc .ready none))
    rwa [World.size_alloc] at this
  have hK1 : W1.heap[w.heap.size]? = some (.deferred (some [])) := by
    rw [← hW1]
    exact (Below.heap_alloc _ _ _ (by simp)).trans (World.alloc_heap_new w _)
  have hI1 : I [] W1 := by rw [← hW1]; exact hI.alloc _ (hI.alloc _ h0)
  have hb1 : Below w0.heap.size w0 W1 := by
    rw [← hW1]
    exact hb0.trans ((((Below.refl _ w).alloc (Nat.le_refl _) _).alloc (by simp) _).mono hb0.size)
  refine ⟨w.heap.size + 1, [{ target := .collected w.heap.size, args := #[] }], W1, { target := .fn (.func gf) lb, args := #[.func (.yield (w.heap.size + 1)) #[] #[]] }, W1, gf,
    #[.func (.yield (w.heap.size + 1)) #[] #[]] ++ lb, W1, ?_, ?_, ?_, ?_, fun _ => h1, ?_⟩
  · rw [← hW1, hrc]; exact run_enterLoop_outer _ _ _ _ _
  · simp only [resolve, hg]
    simp [go_sem]
  · intro f' hf'
    simp [Target.leads] at hf'
    subst hf'
    exact hFg
  · simp [invoke, go_sem, eg]
  have hfar : ∀ {X Y : World} {row : Option Nat} {k : Nat} {o : Obj}, X.grownBy Y row → (∀ r, row = some r → W1.heap.size ≤ r) → k < W1.heap.size → X.heap[k]? = some o → Y.heap[k]? = some o := fun hg' hr hk ho =>
    (hg'.block _ (Array.getElem?_eq_some_iff.1 ho).1 (fun e => by have := hr _ e.symm; omega)).trans ho
  refine (hseq (w.heap.size + 1)
    (fun pre W => I pre W ∧ W.heap[w.heap.size + 1]? = some (.loop (rc .ready none)) ∧ W.heap[w.heap.size]? = some (.deferred (some [])))
    (fun pre W => ∃ c, Ix c pre W ∧ W.heap[w.heap.size + 1]? = some (.loop (rc .done (some c))) ∧ W.heap[w.heap.size]? = some (.deferred (some [])))
    W1 hb1
    (fun s X Y row hs hg' hr => ⟨hI s X Y row hs.1 hg' (fun r e => by have := hr r e; omega), hfar hg' hr (by omega) hs.2.1, hfar hg' hr (by omega) hs.2.2⟩)
    (fun s X Y row hs hg' hr => by
      obtain ⟨c, hc, hl, hk⟩ := hs
      exact ⟨c, hIx c s X Y row hc hg' (fun r e => by have := hr r e; omega), hfar hg' hr (by omega) hl, hfar hg' hr (by omega) hk⟩)
    ?_ ⟨hI1, hL1, hK1⟩).mono ?_
  · rintro pre x W ⟨hi, hl, hk⟩ hlen
    have hlt : w.heap.size + 1 < W.heap.size := (Array.getElem?_eq_some_iff.1 hl).1
    have hy := run_yield (P := P) (args := encs x) hl (by rw [hrc]; exact hps x)
    rw [hrc] at hy
    refine ⟨fn, _, assign, body, hy, roundIn_of_wpIn hfn (hassign _ pre x W _ hi ?_)⟩
    clear hy
    intro a' V hkfa hkpa hia hax
    have hlV := hkfa.same _ _ (by omega) hl rfl
    have hkV := hkfa.same _ _ (Nat.le_refl _) hk rfl
    have hltV : w.heap.size + 1 < V.heap.size := (Array.getElem?_eq_some_iff.1 hlV).1
    refine ⟨_, run_beginRound hlV (by rw [hrc]), ?_⟩
    have hl2 : (V.putObj (w.heap.size + 1) (.loop { rc .ready none with state := .busy })).heap[w.heap.size + 1]? = some (.loop { rc .ready none with state := .busy }) := World.putObj_heap_same hltV
    have hk2 : (V.putObj (w.heap.size + 1) (.loop { rc .ready none with state := .busy })).heap[w.heap.size]? = some (.deferred (some [])) := (World.putObj_heap_other (by omega)).trans hkV
    have hw2 : Kp V (V.putObj (w.heap.size + 1) (.loop { rc .ready none with state := .busy })) := hKb _ _ _ hlV rfl rfl
    refine wpIn_mono (hbody _ pre x a' _ (by omega) ⟨_, hl2⟩ (hI.putObj _ hia (by omega)) ((hAx x a').putObj (s := ()) _ hax (by omega) hlV rfl) hlen) ?_
    -- how a round ends: the record is ready again, or it is done and a jump is pending
    have fin : ∀ (jump : Option Code) (Z : World), KeepsFrom w.heap.size (V.putObj (w.heap.size + 1) (.loop { rc .ready none with state := .busy })) Z →
        (Instr.endRound (w.heap.size + 1) jump).run P Z = .ok (.bool jump.isNone) (Z.putObj (w.heap.size + 1) (.loop (rc (if jump.isNone then .ready else .done) jump))) ∧
        Z.heap[w.heap.size + 1]? = some (.loop { rc .ready none with state := .busy }) ∧
        (Z.putObj (w.heap.size + 1) (.loop (rc (if jump.isNone then .ready else .done) jump))).heap[w.heap.size + 1]? = some (.loop (rc (if jump.isNone then .ready else .done) jump)) ∧
        (Z.putObj (w.heap.size + 1) (.loop (rc (if jump.isNone then .ready else .done) jump))).heap[w.heap.size]? = some (.deferred (some [])) := fun jump Z hkz => by
      have hlz := hkz.same _ _ (by omega) hl2 rfl
      have he := run_endRound (P := P) jump hlz
      rw [hrc] at he ⊢
      exact ⟨he, by rw [hrc] at hlz; exact hlz, World.putObj_heap_same (Array.getElem?_eq_some_iff.1 hlz).1, (World.putObj_heap_other (by omega)).trans (hkz.same _ _ (Nat.le_refl _) hk2 rfl)⟩
    rintro e a3 Z hp
    have leave : ∀ c : Code, KeepsFrom w.heap.size (V.putObj (w.heap.size + 1) (.loop { rc .ready none with state := .busy })) Z → Ix c (pre ++ [x]) Z →
        ∃ v W', (Instr.endRound (w.heap.size + 1) (some c)).run P Z = .ok v W' ∧ v = .bool false ∧ ∃ c', Ix c' (pre ++ [x]) W' ∧ W'.heap[w.heap.size + 1]? = some (.loop (rc .done (some c'))) ∧ W'.heap[w.heap.size]? = some (.deferred (some [])) := fun c hkz hiz => by
      obtain ⟨hr, hlz, hl4, hk4⟩ := fin (some c) Z hkz
      exact ⟨_, _, hr, rfl, c, (hIx c).putObj _ hiz (by omega), hl4, hk4⟩
    cases e with
    | normal =>
      obtain ⟨hkz, hkp, hiz⟩ := hp
      obtain ⟨hr, hlz, hl4, hk4⟩ := fin none Z hkz
      exact ⟨_, _, hr, .inl ⟨rfl, ⟨hI.putObj _ hiz (by omega), hl4, hk4⟩, hKt hkpa (hKt (hKt hw2 hkp) (hKb _ _ _ hlz rfl rfl))⟩⟩
    | ret => obtain ⟨v, W', h1, h2, h3⟩ := leave _ hp.1 hp.2; exact ⟨v, W', h1, .inr ⟨by rw [h2], h3⟩⟩
    | exit id => obtain ⟨v, W', h1, h2, h3⟩ := leave _ hp.1 hp.2; exact ⟨v, W', h1, .inr ⟨by rw [h2], h3⟩⟩
    | goto t => obtain ⟨v, W', h1, h2, h3⟩ := leave _ hp.1 hp.2; exact ⟨v, W', h1, .inr ⟨by rw [h2], h3⟩⟩
    | panic ch => exact hp.elim
    | outgrown => exact hp.elim
  · rintro e W2 ⟨⟨v, rfl⟩, (⟨xs, hS, hi, hl, hk⟩ | ⟨pre, hSp, c, hi, hl, hk⟩)⟩
    · have he := run_endLoop (P := P) hl (by rw [hrc]; simp)
      rw [hrc] at he
      exact ⟨none, _, he, hdone _ xs _ (Nat.le_refl _) hS (hI.putObj _ hi (by omega)) ((World.putObj_heap_other (by omega)).trans hk)⟩
    · have he := run_endLoop (P := P) hl (by rw [hrc]; simp)
      rw [hrc] at he
      exact ⟨some c, _, he, hstop _ c pre _ (Nat.le_refl _) hSp ((hIx c).putObj _ hi (by omega)) ((World.putObj_heap_other (by omega)).trans hk)⟩
/-- an iterator's contract, for loops that never leave it. -/
def SeqE {α : Type} (F : Fence) (n : Nat) (P : Program) (g : Nat) (lb : Array Value) (encs : α → Array Value) (Kp : World → World → Prop) (S : List α → Prop) (R : List α → α → Prop) (w : World) : Prop :=
  ∀ (l : Nat) (J : List α → World → Prop) (W : World), Below w.heap.size w W → w.heap.size + 2 ≤ W.heap.size → AllFrom W.heap.size J →
    (∀ pre x W1, J pre W1 → R pre x → YieldAt F (n - 1) P l (encs x) W1 fun e W' => e = .returned (.bool true) ∧ J (pre ++ [x]) W' ∧ Kp W1 W') →
    J [] W →
    CallsIn F n P g (#[.func (.yield l) #[] #[]] ++ lb) W fun e W' => (∃ v, e = .returned v) ∧ ∃ xs, S xs ∧ J xs W'
theorem rangeFunc_e {α : Type} {g : Operand} {ps : Array Tmp} {assign body : Code} {Q : Exit → Act → World → Prop} {a : Act}
    (hro : F.round = none) (h1 : 1 ≤ n) {gf : Nat} {lb : Array Value} (hg : a.eval g = .func (.func gf) #[] lb) (hFg : F.fn gf) (eg : ∀ args w, (callFunc gf args).run P w = .ok (.enter gf args) w)
    {encs : α → Array Value} {Kp : World → World → Prop} {S : List α → Prop} {R : List α → α → Prop} {w0 : World} (hseq : SeqE F (n - 1) P gf lb encs Kp S R w0)
    (hKt : ∀ {A B C : World}, Kp A B → Kp B C → Kp A C) (hKb : ∀ (W : World) (o o' : Obj), W.heap[w.heap.size + 1]? = some o → o.isCells = false → o.isWalk = false → Kp W (W.putObj (w.heap.size + 1) o')) (hb0 : Below w0.heap.size w0 w) (hps : ∀ x, (encs x).size = ps.size)
    (I : List α → World → Prop) (hI : AllFrom w.heap.size I) (h0 : I [] w) (Ax : α → Act → World → Prop) (hAx : ∀ x a', OwnFrom w.heap.size (fun (_ : Unit) W => Ax x a' W))
    (hassign : ∀ (l : Nat) (pre : List α) (x : α) (W : World) (K : Act → World → Prop), I pre W → (∀ a' W', KeepsFrom w.heap.size W W' → Kp W W' → I pre W' → Ax x a' W' → K a' W') →
      assign.wpIn (F.inRound l) (n - 1 - 1) P (Exit.then K (fun _ _ _ => False)) { tmps := (ps.zip (encs x)).foldl (fun t (p, v) => t.setIfInBounds p v) a.tmps, defers := [] } W)
    (hbody : ∀ (l : Nat) (pre : List α) (x : α) (a' : Act) (W : World), w.heap.size ≤ l → (∃ r, W.heap[l]? = some (.loop r)) → I pre W → Ax x a' W → R pre x → body.wpIn (F.inRound l) (n - 1 - 1) P (ownPostG w.heap.size Kp I (fun _ _ _ => False) (pre ++ [x]) W) a' W)
    (hdone : ∀ (D : Nat) (xs : List α) (W : World), w.heap.size ≤ D → S xs → I xs W → W.heap[D]? = some (.deferred (some [])) → Q .normal { a with defers := { target := .collected D, args := #[] } :: a.defers } W) :
    (Code.rangeFunc g ps assign body).wpIn F n P Q a w := by
  refine wpIn_rangeFunc fun fn hfn => ?_
  rw [hro]
  -- the loop's record, by its state and what is pending; its two blocks
  obtain ⟨rc, hrc⟩ : ∃ rc : LoopState → Option Code → Loop, rc = fun st pe => { state := st, pending := pe, fn, tmps := a.tmps, params := ps, assign, body, defers := w.heap.size } := ⟨_, rfl⟩
  obtain ⟨W1, hW1⟩ : ∃ W1, (w.alloc (.deferred (some []))).alloc (.loop (rc .ready none)) = W1 := ⟨_, rfl⟩
  have hz1 : W1.heap.size = w.heap.size + 1 + 1 := by rw [← hW1]; simp
  have hL1 : W1.heap[w.heap.size + 1]? = some (.loop (rc .ready none)) := by
    rw [← hW1]
    have := World.alloc_heap_new (w.alloc (.deferred (some []))) (.loop (rc .ready none))
    rwa [World.size_alloc] at this
  have hK1 : W1.heap[w.heap.size]? = some (.deferred (some [])) := by
    rw [← hW1]
    exact (Below.heap_alloc _ _ _ (by simp)).trans (World.alloc_heap_new w _)
  have hI1 : I [] W1 := by rw [← hW1]; exact hI.alloc _ (hI.alloc _ h0)
  have hb1 : Below w0.heap.size w0 W1 := by
    rw [← hW1]
    exact hb0.trans ((((Below.refl _ w).alloc (Nat.le_refl _) _).alloc (by simp) _).mono hb0.size)
  refine ⟨w.heap.size + 1, [{ target := .collected w.heap.size, args := #[] }], W1, { target := .fn (.func gf) lb, args := #[.func (.yield (w.heap.size + 1)) #[] #[]] }, W1, gf,
    #[.func (.yield (w.heap.size + 1)) #[] #[]] ++ lb, W1, ?_, ?_, ?_, ?_, fun _ => h1, ?_⟩
  · rw [← hW1, hrc]; exact run_enterLoop_outer _ _ _ _ _
  · simp only [resolve, hg]
    simp [go_sem]
  · intro f' hf'
    simp [Target.leads] at hf'
    subst hf'
    exact hFg
  · simp [invoke, go_sem, eg]
  have hfar : ∀ {X Y : World} {row : Option Nat} {k : Nat} {o : Obj}, X.grownBy Y row → (∀ r, row = some r → W1.heap.size ≤ r) → k < W1.heap.size → X.heap[k]? = some o → Y.heap[k]? = some o := fun hg' hr hk ho =>
    (hg'.block _ (Array.getElem?_eq_some_iff.1 ho).1 (fun e => by have := hr _ e.symm; omega)).trans ho
  refine (hseq (w.heap.size + 1)
    (fun pre W => I pre W ∧ W.heap[w.heap.size + 1]? = some (.loop (rc .ready none)) ∧ W.heap[w.heap.size]? = some (.deferred (some [])))
    W1 hb1 (by have := hb0.size; omega)
    (fun s X Y row hs hg' hr => ⟨hI s X Y row hs.1 hg' (fun r e => by have := hr r e; omega), hfar hg' hr (by omega) hs.2.1, hfar hg' hr (by omega) hs.2.2⟩)
    ?_ ⟨hI1, hL1, hK1⟩).mono ?_
  · rintro pre x W ⟨hi, hl, hk⟩ hlen
    have hlt : w.heap.size + 1 < W.heap.size := (Array.getElem?_eq_some_iff.1 hl).1
    have hy := run_yield (P := P) (args := encs x) hl (by rw [hrc]; exact hps x)
    rw [hrc] at hy
    refine ⟨fn, _, assign, body, hy, roundIn_of_wpIn hfn (hassign _ pre x W _ hi ?_)⟩
    clear hy
    intro a' V hkfa hkpa hia hax
    have hlV := hkfa.same _ _ (by omega) hl rfl
    have hkV := hkfa.same _ _ (Nat.le_refl _) hk rfl
    have hltV : w.heap.size + 1 < V.heap.size := (Array.getElem?_eq_some_iff.1 hlV).1
    refine ⟨_, run_beginRound hlV (by rw [hrc]), ?_⟩
    have hl2 : (V.putObj (w.heap.size + 1) (.loop { rc .ready none with state := .busy })).heap[w.heap.size + 1]? = some (.loop { rc .ready none with state := .busy }) := World.putObj_heap_same hltV
    have hk2 : (V.putObj (w.heap.size + 1) (.loop { rc .ready none with state := .busy })).heap[w.heap.size]? = some (.deferred (some [])) := (World.putObj_heap_other (by omega)).trans hkV
    have hw2 : Kp V (V.putObj (w.heap.size + 1) (.loop { rc .ready none with state := .busy })) := hKb _ _ _ hlV rfl rfl
    refine wpIn_mono (hbody _ pre x a' _ (by omega) ⟨_, hl2⟩ (hI.putObj _ hia (by omega)) ((hAx x a').putObj (s := ()) _ hax (by omega) hlV rfl) hlen) ?_
    -- how a round ends: the record is ready again, or it is done and a jump is pending
    have fin : ∀ (jump : Option Code) (Z : World), KeepsFrom w.heap.size (V.putObj (w.heap.size + 1) (.loop { rc .ready none with state := .busy })) Z →
        (Instr.endRound (w.heap.size + 1) jump).run P Z = .ok (.bool jump.isNone) (Z.putObj (w.heap.size + 1) (.loop (rc (if jump.isNone then .ready else .done) jump))) ∧
        Z.heap[w.heap.size + 1]? = some (.loop { rc .ready none with state := .busy }) ∧
        (Z.putObj (w.heap.size + 1) (.loop (rc (if jump.isNone then .ready else .done) jump))).heap[w.heap.size + 1]? = some (.loop (rc (if jump.isNone then .ready else .done) jump)) ∧
        (Z.putObj (w.heap.size + 1) (.loop (rc (if jump.isNone then .ready else .done) jump))).heap[w.heap.size]? = some (.deferred (some [])) := fun jump Z hkz => by
      have hlz := hkz.same _ _ (by omega) hl2 rfl
      have he := run_endRound (P := P) jump hlz
      rw [hrc] at he ⊢
      exact ⟨he, by rw [hrc] at hlz; exact hlz, World.putObj_heap_same (Array.getElem?_eq_some_iff.1 hlz).1, (World.putObj_heap_other (by omega)).trans (hkz.same _ _ (Nat.le_refl _) hk2 rfl)⟩
    rintro e a3 Z hp
    cases e with
    | normal =>
      obtain ⟨hkz, hkp, hiz⟩ := hp
      obtain ⟨hr, hlz, hl4, hk4⟩ := fin none Z hkz
      exact ⟨_, _, hr, rfl, ⟨hI.putObj _ hiz (by omega), hl4, hk4⟩, hKt hkpa (hKt (hKt hw2 hkp) (hKb _ _ _ hlz rfl rfl))⟩
    | ret => exact hp.2.elim
    | exit id => exact hp.2.elim
    | goto t => exact hp.2.elim
    | panic ch => exact hp.elim
    | outgrown => exact hp.elim
  · rintro e W2 ⟨⟨v, rfl⟩, xs, hS, hi, hl, hk⟩
    have he := run_endLoop (P := P) hl (by rw [hrc]; simp)
    rw [hrc] at he
    exact ⟨none, _, he, hdone _ xs _ (Nat.le_refl _) hS (hI.putObj _ hi (by omega)) ((World.putObj_heap_other (by omega)).trans hk)⟩
theorem rangeFunc_cN {α : Type} {g : Operand} {ps : Array Tmp} {assign body : Code} {Q : Exit → Act → World → Prop} {a : Act}
    {l₀ : Nat} {r₀ : Loop} (hro : F.round = some l₀) (hl₀ : w.heap[l₀]? = some (.loop r₀)) (h1 : 1 ≤ n) {gf : Nat} {lb : Array Value} (hg : a.eval g = .func (.func gf) #[] lb) (hFg : F.fn gf) (eg : ∀ args w, (callFunc gf args).run P w = .ok (.enter gf args) w)
    {encs : α → Array Value} {Kp : World → World → Prop} {S Sp : List α → Prop} {R : List α → α → Prop} {w0 : World} (hseq : SeqC F (n - 1) P gf lb encs Kp S Sp R w0)
    (hKt : ∀ {A B C : World}, Kp A B → Kp B C → Kp A C) (hKb : ∀ (W : World) (o o' : Obj), W.heap[w.heap.size]? = some o → o.isCells = false → o.isWalk = false → Kp W (W.putObj w.heap.size o')) (hb0 : Below w0.heap.size w0 w) (hps : ∀ x, (encs x).size = ps.size)
    (I : List α → World → Prop) (Ix : Code → List α → World → Prop) (hI : AllFrom w.heap.size I) (hIx : ∀ c, AllFrom w.heap.size (Ix c)) (h0 : I [] w) (Ax : α → Act → World → Prop) (hAx : ∀ x a', OwnFrom w.heap.size (fun (_ : Unit) W => Ax x a' W))
    (hassign : ∀ (l : Nat) (pre : List α) (x : α) (W : World) (K : Act → World → Prop), I pre W → (∀ a' W', KeepsFrom w.heap.size W W' → Kp W W' → I pre W' → Ax x a' W' → K a' W') →
      assign.wpIn (F.inRound l) (n - 1 - 1) P (Exit.then K (fun _ _ _ => False)) { tmps := (ps.zip (encs x)).foldl (fun t (p, v) => t.setIfInBounds p v) a.tmps, defers := [] } W)
    (hbody : ∀ (l : Nat) (pre : List α) (x : α) (a' : Act) (W : World), w.heap.size ≤ l → (∃ r, W.heap[l]? = some (.loop r)) → I pre W → Ax x a' W → R pre x → body.wpIn (F.inRound l) (n - 1 - 1) P (ownPostG w.heap.size Kp I Ix (pre ++ [x]) W) a' W)
    (hdone : ∀ (xs : List α) (W : World), S xs → I xs W → Q .normal a W)
    (hstop : ∀ (c : Code) (pre : List α) (W : World), Sp pre → Ix c pre W → c.wpIn F n P Q a W) :
    (Code.rangeFunc g ps assign body).wpIn F n P Q a w := by
  refine wpIn_rangeFunc fun fn hfn => ?_
  rw [hro]
  -- the loop's record, by its state and what is pending; one block
  obtain ⟨rc, hrc⟩ : ∃ rc : LoopState → Option Code → Loop, rc = fun st pe => { state := st, pending := pe, fn, tmps := a.tmps, params := ps, assign, body, defers := r₀.defers } := ⟨_, rfl⟩
  obtain ⟨W1, hW1⟩ : ∃ W1, w.alloc (.loop (rc .ready none)) = W1 := ⟨_, rfl⟩
  have hz1 : W1.heap.size = w.heap.size + 1 := by rw [← hW1]; simp
  have hL1 : W1.heap[w.heap.size]? = some (.loop (rc .ready none)) := by
    rw [← hW1]
    exact World.alloc_heap_new w (.loop (rc .ready none))
  have hI1 : I [] W1 := by rw [← hW1]; exact hI.alloc _ h0
  have hb1 : Below w0.heap.size w0 W1 := by
    rw [← hW1]
    exact hb0.trans (((Below.refl _ w).alloc (Nat.le_refl _) _).mono hb0.size)
  refine ⟨w.heap.size, [], W1, { target := .fn (.func gf) lb, args := #[.func (.yield w.heap.size) #[] #[]] }, W1, gf,
    #[.func (.yield w.heap.size) #[] #[]] ++ lb, W1, ?_, ?_, ?_, ?_, fun _ => h1, ?_⟩
  · rw [← hW1, hrc]; exact run_enterLoop_inner hl₀ _ _ _ _ _
  · simp only [resolve, hg]
    simp [go_sem]
  · intro f' hf'
    simp [Target.leads] at hf'
    subst hf'
    exact hFg
  · simp [invoke, go_sem, eg]
  have hfar : ∀ {X Y : World} {row : Option Nat} {k : Nat} {o : Obj}, X.grownBy Y row → (∀ r, row = some r → W1.heap.size ≤ r) → k < W1.heap.size → X.heap[k]? = some o → Y.heap[k]? = some o := fun hg' hr hk ho =>
    (hg'.block _ (Array.getElem?_eq_some_iff.1 ho).1 (fun e => by have := hr _ e.symm; omega)).trans ho
  refine (hseq w.heap.size
    (fun pre W => I pre W ∧ W.heap[w.heap.size]? = some (.loop (rc .ready none)))
    (fun pre W => ∃ c, Ix c pre W ∧ W.heap[w.heap.size]? = some (.loop (rc .done (some c))))
    W1 hb1
    (fun s X Y row hs hg' hr => ⟨hI s X Y row hs.1 hg' (fun r e => by have := hr r e; omega), hfar hg' hr (by omega) hs.2⟩)
    (fun s X Y row hs hg' hr => by
      obtain ⟨c, hc, hl⟩ := hs
      exact ⟨c, hIx c s X Y row hc hg' (fun r e => by have := hr r e; omega), hfar hg' hr (by omega) hl⟩)
    ?_ ⟨hI1, hL1⟩).mono ?_
  · rintro pre x W ⟨hi, hl⟩ hlen
    have hlt : w.heap.size < W.heap.size := (Array.getElem?_eq_some_iff.1 hl).1
    have hy := run_yield (P := P) (args := encs x) hl (by rw [hrc]; exact hps x)
    rw [hrc] at hy
    refine ⟨fn, _, assign, body, hy, roundIn_of_wpIn hfn (hassign _ pre x W _ hi ?_)⟩
    clear hy
    intro a' V hkfa hkpa hia hax
    have hlV := hkfa.same _ _ (Nat.le_refl _) hl rfl
    have hltV : w.heap.size < V.heap.size := (Array.getElem?_eq_some_iff.1 hlV).1
    refine ⟨_, run_beginRound hlV (by rw [hrc]), ?_⟩
    have hl2 : (V.putObj w.heap.size (.loop { rc .ready none with state := .busy })).heap[w.heap.size]? = some (.loop { rc .ready none with state := .busy }) := World.putObj_heap_same hltV
    have hw2 : Kp V (V.putObj w.heap.size (.loop { rc .ready none with state := .busy })) := hKb _ _ _ hlV rfl rfl
    refine wpIn_mono (hbody _ pre x a' _ (Nat.le_refl _) ⟨_, hl2⟩ (hI.putObj _ hia (Nat.le_refl _)) ((hAx x a').putObj (s := ()) _ hax (Nat.le_refl _) hlV rfl) hlen) ?_
    have fin : ∀ (jump : Option Code) (Z : World), KeepsFrom w.heap.size (V.putObj w.heap.size (.loop { rc .ready none with state := .busy })) Z →
        (Instr.endRound w.heap.size jump).run P Z = .ok (.bool jump.isNone) (Z.putObj w.heap.size (.loop (rc (if jump.isNone then .ready else .done) jump))) ∧
        Z.heap[w.heap.size]? = some (.loop { rc .ready none with state := .busy }) ∧
        (Z.putObj w.heap.size (.loop (rc (if jump.isNone then .ready else .done) jump))).heap[w.heap.size]? = some (.loop (rc (if jump.isNone then .ready else .done) jump)) := fun jump Z hkz => by
      have hlz := hkz.same _ _ (Nat.le_refl _) hl2 rfl
      have he := run_endRound (P := P) jump hlz
      rw [hrc] at he ⊢
      exact ⟨he, by rw [hrc] at hlz; exact hlz, World.putObj_heap_same (Array.getElem?_eq_some_iff.1 hlz).1⟩
    rintro e a3 Z hp
    have leave : ∀ c : Code, KeepsFrom w.heap.size (V.putObj w.heap.size (.loop { rc .ready none with state := .busy })) Z → Ix c (pre ++ [x]) Z →
        ∃ v W', (Instr.endRound w.heap.size (some c)).run P Z = .ok v W' ∧ v = .bool false ∧ ∃ c', Ix c' (pre ++ [x]) W' ∧ W'.heap[w.heap.size]? = some (.loop (rc .done (some c'))) := fun c hkz hiz => by
      obtain ⟨hr, hlz, hl4⟩ := fin (some c) Z hkz
      exact ⟨_, _, hr, rfl, c, (hIx c).putObj _ hiz (Nat.le_refl _), hl4⟩
    cases e with
    | normal =>
      obtain ⟨hkz, hkp, hiz⟩ := hp
      obtain ⟨hr, hlz, hl4⟩ := fin none Z hkz
      exact ⟨_, _, hr, .inl ⟨rfl, ⟨hI.putObj _ hiz (Nat.le_refl _), hl4⟩, hKt hkpa (hKt (hKt hw2 hkp) (hKb _ _ _ hlz rfl rfl))⟩⟩
    | ret => obtain ⟨v, W', h1, h2, h3⟩ := leave _ hp.1 hp.2; exact ⟨v, W', h1, .inr ⟨by rw [h2], h3⟩⟩
    | exit id => obtain ⟨v, W', h1, h2, h3⟩ := leave _ hp.1 hp.2; exact ⟨v, W', h1, .inr ⟨by rw [h2], h3⟩⟩
    | goto t => obtain ⟨v, W', h1, h2, h3⟩ := leave _ hp.1 hp.2; exact ⟨v, W', h1, .inr ⟨by rw [h2], h3⟩⟩
    | panic ch => exact hp.elim
    | outgrown => exact hp.elim
  · rintro e W2 ⟨⟨v, rfl⟩, (⟨xs, hS, hi, hl⟩ | ⟨pre, hSp, c, hi, hl⟩)⟩
    · have he := run_endLoop (P := P) hl (by rw [hrc]; simp)
      rw [hrc] at he
      exact ⟨none, _, he, hdone xs _ hS (hI.putObj _ hi (Nat.le_refl _))⟩
    · have he := run_endLoop (P := P) hl (by rw [hrc]; simp)
      rw [hrc] at he
      exact ⟨some c, _, he, hstop c pre _ hSp ((hIx c).putObj _ hi (Nat.le_refl _))⟩
/-- what was kept from e on. -/
theorem Kp.from {a b c e : Nat} {W W' : World} (h : Kp a b c e W W') (hb : b ≤ e) : KeepsFrom e W W' := ⟨h.size, fun k o hk ho hc => h.kept k o ho (by omega) (.inr (.inr hk))⟩
theorem Kp.mono {a b c e e' : Nat} {W W' : World} (h : Kp a b c e W W') (he : e ≤ e') : Kp a b c e' W W' := ⟨h.os, h.tape, h.output, h.size, fun k o hk hn ho => h.kept k o hk hn (by rcases ho with q | q | q; exact .inl q; exact .inr (.inl q); exact .inr (.inr (by omega)))⟩
theorem AllFrom.keeps {β : Type} {B B' : Nat} {w₀ : World} (hB : w₀.heap.size ≤ B') : AllFrom B' (fun (_ : β) W => KeepsFrom B w₀ W) :=
  fun _ X Y row hs hg hr => ⟨Nat.le_trans hs.size hg.size, fun k o hk h0 ho => (hg.block k (Nat.lt_of_lt_of_le (Array.getElem?_eq_some_iff.1 h0).1 hs.size) (fun q => by have := hr k q.symm; have := (Array.getElem?_eq_some_iff.1 h0).1; omega)).trans (hs.same k o hk h0 ho)⟩
end Td
end Go.Proofs.Ytgkdidnmndmlhaa
/- What samples show: the iterator. -/
namespace Go.Proofs.Ytgkdidnmndmlhaa
open Go.RowKit
namespace Td
set_option linter.unusedSimpArgs false
set_option linter.unusedVariables false
attribute [local go_sem] Oper.semAt_some
abbrev hpP (g : Nat) : Value := .pointer (some ⟨g, 0, none⟩)
set_option maxHeartbeats 1000000 in
theorem shows_c (g : Nat) (P b n : Int) (w : World) :
    Calls Try.prog 56 #[hpP g, .int .i64 P, .int .i64 b, .int .i64 n] w fun e w' =>
      e = .returned (.func (.func 85) #[] #[hpP (w.heap.size + 1), hpP (w.heap.size + 1 + 1), hpP (w.heap.size + 1 + 1 + 1), hpP w.heap.size]) ∧
      (((w.alloc (.cells #[hpP g] 87)).alloc (.cells #[.int .i64 P] 3)).alloc (.cells #[.int .i64 b] 3)).alloc (.cells #[.int .i64 n] 3) = w' := by
  go_enter Try.func56, Try.ntmps56
  go_wp2
  go_ret
  exact ⟨rfl, rfl⟩
/-- the iterator's boxes, as far as rounds leave them. -/
structure Cs (a b : Nat) (w₀ : World) (gP gB gN gH g : Nat) (tp lo hi : Int) (P d n : Nat) : Prop where
  pb : Blk w₀ gP 3 #[.int .i64 P]
  bb : Blk w₀ gB 3 #[.int .i64 d]
  nb : Blk w₀ gN 3 #[.int .i64 n]
  hb : Blk w₀ gH 87 #[hpP g]
  wb : Blk w₀ g 97 (hpV tp lo hi)
  nP : ¬ (a ≤ gP ∧ gP < b)
  nB : ¬ (a ≤ gB ∧ gB < b)
  nN : ¬ (a ≤ gN ∧ gN < b)
  nH : ¬ (a ≤ gH ∧ gH < b)
  nW : ¬ (a ≤ g ∧ g < b)
  dP : d ≤ P
  nL : n ≤ P
  pL : P ≤ 20
abbrev encS (x : Nat × Nat) : Array Value := #[.int .i64 (x.1 : Int), .int .i64 (x.2 : Int)]
theorem sh_fit {P d n : Nat} (hd : d ≤ P) (hP : P ≤ 20) {i : Nat} (hi : i ≤ n) (hn : n ≤ P) : I64 ((bn d i : Int) * (bn (P - d) (n - i) : Int)) := by
  have h := sh_le hd hi (n := n)
  have h2 := bn_bd' (n := P) (by omega) n
  have e : ((bn d i : Int) * (bn (P - d) (n - i) : Int)) = ((sh P d n i : Nat) : Int) := by unfold sh; push_cast; rfl
  rw [e]
  unfold I64
  omega
set_option maxRecDepth 100000 in
set_option maxHeartbeats 4000000 in
theorem shows1_in (nn : Nat) (hnn : 1 ≤ nn) {a b c ee : Nat} {w₀ : World} {gP gB gN gH g : Nat} {tp lo hi : Int} {P d n : Nat} (C : Cs a b w₀ gP gB gN gH g tp lo hi P d n)
    (l : Nat) (J Jx : List (Nat × Nat) → World → Prop) (Y : World) (hW : Below w₀.heap.size w₀ Y) (hJ : AllFrom Y.heap.size J)
    (hY : ∀ pre x W1, J pre W1 → (∃ rest, showsL P d n = pre ++ x :: rest) → YieldAt Fence.wide (nn - 1) Try.prog l (encS x) W1 fun e Y' =>
      (e = .returned (.bool true) ∧ J (pre ++ [x]) Y' ∧ Kp a b c ee W1 Y') ∨ (e = .returned (.bool false) ∧ Jx (pre ++ [x]) Y'))
    (h0 : J [] Y) :
    CallsIn Fence.wide nn Try.prog 85 #[.func (.yield l) #[] #[], hpP gP, hpP gB, hpP gN, hpP gH] Y fun e Y' =>
      (∃ v, e = .returned v) ∧ ((∃ xs, xs = showsL P d n ∧ J xs Y') ∨ (∃ pre, (∃ rest, showsL P d n = pre ++ rest) ∧ Jx pre Y')) := by
  have hdP := C.dP
  have hnP := C.nL
  have hP20 := C.pL
  have hKW : Kp a b c ee w₀ Y := .of hW
  have HK0 := Lib.hid hKW
  have HJ0 : Hid (J ((showsL P d n).take 0) Y) := h0
  have p0 := (C.pb.kp hKW C.nP).cell 0
  have p1 := (C.bb.kp hKW C.nB).cell 0
  have p2 := (C.nb.kp hKW C.nN).cell 0
  simp only [List.getElem?_toArray, List.getElem?_cons_zero] at p0 p1 p2
  have e1 : IntKind.i64.wrap ((P : Int) - (d : Int)) = ((P - d : Nat) : Int) := by rw [wrapI (by unfold I64; omega)]; omega
  have e2 : IntKind.i64.wrap ((n : Int) - ((P - d : Nat) : Int)) = (n : Int) - ((P - d : Nat) : Int) := wrapI (by unfold I64; omega)
  refine callsIn_of_wp Try.func85 rfl trivial ?_ rfl
  simp only [Try.ntmps85, List.size_toArray, List.length_cons, List.length_nil, Nat.reduceAdd, Nat.reduceSub, Array.replicate_succ, Array.replicate_zero, List.push_toArray, List.append_toArray, List.nil_append, List.cons_append]
  gi_wp2
  clear p0 p1 p2
  gi_loopw [7] (fun i wr => ∃ k : Nat, k ≤ (showsL P d n).length ∧ i = .int .i64 ((loS P d n + k : Nat) : Int) ∧ Hid (J ((showsL P d n).take k) wr) ∧ Hid (Kp a b c ee w₀ wr)) (fun i _ => hiS d n + 1 - (intOf i).toNat)
  case atStart => exact ⟨0, by omega, by unfold loS; congr 1; omega, HJ0, HK0⟩
  case round =>
    obtain ⟨k, hk, rfl, HJ, HK⟩ := hrel
    have c1 := (C.nb.kp HK.out C.nN).cell 0
    have c0 := (C.bb.kp HK.out C.nB).cell 0
    simp only [List.getElem?_toArray, List.getElem?_cons_zero] at c0 c1
    have hlen := showsL_len P d n
    rcases Nat.lt_or_ge k (showsL P d n).length with hlt | hge
    · have hgt := showsL_get hlt
      obtain ⟨i, hi⟩ : ∃ i, loS P d n + k = i := ⟨_, rfl⟩
      rw [hi] at hgt
      have hil : i ≤ hiS d n := by omega
      have hin : i ≤ n := by unfold hiS at hil; omega
      have hid : i ≤ d := by unfold hiS at hil; omega
      have hlo : n - (P - d) ≤ i := by unfold loS at hi; omega
      have HI := Lib.hid hi
      have hyy := hY ((showsL P d n).take k) ((showsL P d n)[k])
      rw [hgt] at hyy
      have HY := Lib.hid (fun X (hX : J ((showsL P d n).take k) X) => hyy X hX ⟨(showsL P d n).drop (k + 1), by rw [← hgt, ← List.drop_eq_getElem_cons hlt, List.take_append_drop]⟩)
      have HG := Lib.hid hgt
      have e9 : IntKind.i64.wrap ((bn d i : Int) * (bn (P - d) (n - i) : Int)) = ((sh P d n i : Nat) : Int) := by rw [wrapI (sh_fit C.dP C.pL hin C.nL)]; unfold sh; push_cast; rfl
      have hni : IntKind.i64.wrap ((n : Int) - (i : Int)) = ((n - i : Nat) : Int) := by rw [wrapI (by unfold I64; omega)]; omega
      have hi1 : IntKind.i64.wrap ((i : Int) + 1) = ((i + 1 : Nat) : Int) := by rw [wrapI (by unfold I64; omega)]; omega
      have t1 : (d : Int) < 21 := by omega
      have t2 : (i : Int) < 21 := by omega
      have t3 : ((P - d : Nat) : Int) < 21 := by omega
      have t4 : ((n - i : Nat) : Int) < 21 := by omega
      have t5 : d < 21 := by omega
      have t6 : i < 21 := by omega
      have t7 : P - d < 21 := by omega
      have t8 : n - i < 21 := by omega
      have mn : (i : Int) ≤ (d : Int) := by omega
      have mm : (i : Int) ≤ (n : Int) := by omega
      rw [hi]
      clear hyy hgt
      gi_wp2
      clear c0 c1
      refine Vals6T.regionAll 21 (fun X => J ((showsL P d n).take k) X ∧ Kp a b c ee w₀ X) [some 22, some 23, some 24, some 25, some 26, some 27, some 28, some 29, some 30, some 31, some 32, some 33, some 34, some 35, some 36, some 37, some 38, some 39, some 40, some 41, some 42] [.is ?_, .is ?_, .is ?_, .is ?_, .is ?_, .is ?_, .is ?_, .is ?_, .is ?_, .is ?_, .is ?_, .is ?_, .is ?_, .is ?_, .is ?_, .is ?_, .is ?_, .is ?_, .is ?_, .is ?_, .is ?_] (.inl rfl) (by kernel_rfl) (by kernel_rfl) (by kernel_rfl) rfl (by kernel_rfl) (by kernel_rfl) (by kernel_rfl) (by kernel_rfl) (by kernel_rfl) (by kernel_rfl) rfl (⟨AllFrom.keep hJ HJ.out ((Below.refl _ _).drew), HK.out.then ((Below.refl _ _).drew)⟩) ?hsteps ?hend
      case hsteps =>
        refine Vals5.Steps.run rfl (Vals5.Stable.is _) ?_ ?_
        · intro a W hS pre old K hK
          have e0 := old 0 _ (by kernel_rfl) rfl
          clear pre old
          simp only [Vals5.fits, Array.getD_eq_getD_getElem?, List.getElem?_toArray, List.getElem?_cons_zero, List.getElem?_cons_succ, Option.getD_some] at e0
          go_simp
          refine hK _ _ hS (Below.refl _ _) ?_
          exact fits_is _ _
        refine Vals5.Steps.run rfl (Vals5.Stable.is _) ?_ ?_
        · intro a W hS pre old K hK
          have e7 := old 7 _ (by kernel_rfl) rfl
          clear pre old
          simp only [Vals5.fits, Array.getD_eq_getD_getElem?, List.getElem?_toArray, List.getElem?_cons_zero, List.getElem?_cons_succ, Option.getD_some] at e7
          go_simp
          refine hK _ _ hS (Below.refl _ _) ?_
          exact fits_is _ _
        refine Vals5.Steps.run rfl (Vals5.Stable.is _) ?_ ?_
        · intro a W hS pre old K hK
          have e4 := old 4 _ (by kernel_rfl) rfl
          clear pre old
          simp only [Vals5.fits, Array.getD_eq_getD_getElem?, List.getElem?_toArray, List.getElem?_cons_zero, List.getElem?_cons_succ, Option.getD_some] at e4
          have hS9 := hS
          obtain ⟨q1, q0⟩ := hS9
          have c0 := (C.bb.kp q0 C.nB).cell 0
          have c1 := (C.nb.kp q0 C.nN).cell 0
          have c2 := (C.hb.kp q0 C.nH).cell 0
          have c3 := (C.wb.kp q0 C.nW).way (n := d) (k := i) (by omega) (by omega)
          have c4 := (C.wb.kp q0 C.nW).way (n := P - d) (k := n - i) (by omega) (by omega)
          simp only [List.getElem?_toArray, List.getElem?_cons_zero] at c0 c1 c2
          go_simp
          refine hK _ _ hS (Below.refl _ _) ?_
          exact fits_is _ _
        refine Vals5.Steps.run rfl (Vals5.Stable.is _) ?_ ?_
        · intro a W hS pre old K hK
          have e2 := old 2 _ (by kernel_rfl) rfl
          clear pre old
          simp only [Vals5.fits, Array.getD_eq_getD_getElem?, List.getElem?_toArray, List.getElem?_cons_zero, List.getElem?_cons_succ, Option.getD_some] at e2
          have hS9 := hS
          obtain ⟨q1, q0⟩ := hS9
          have c0 := (C.bb.kp q0 C.nB).cell 0
          have c1 := (C.nb.kp q0 C.nN).cell 0
          have c2 := (C.hb.kp q0 C.nH).cell 0
          have c3 := (C.wb.kp q0 C.nW).way (n := d) (k := i) (by omega) (by omega)
          have c4 := (C.wb.kp q0 C.nW).way (n := P - d) (k := n - i) (by omega) (by omega)
          simp only [List.getElem?_toArray, List.getElem?_cons_zero] at c0 c1 c2
          go_simp
          refine hK _ _ hS (Below.refl _ _) ?_
          exact fits_is _ _
        refine Vals5.Steps.run rfl (Vals5.Stable.is _) ?_ ?_
        · intro a W hS pre old K hK
          have e7 := old 7 _ (by kernel_rfl) rfl
          clear pre old
          simp only [Vals5.fits, Array.getD_eq_getD_getElem?, List.getElem?_toArray, List.getElem?_cons_zero, List.getElem?_cons_succ, Option.getD_some] at e7
          go_simp
          refine hK _ _ hS (Below.refl _ _) ?_
          exact fits_is _ _
        refine Vals5.Steps.run rfl (Vals5.Stable.is _) ?_ ?_
        · intro a W hS pre old K hK
          have e24 := pre 2 24 _ (by kernel_rfl) rfl rfl
          clear pre old
          simp only [Vals5.fits, Array.getD_eq_getD_getElem?, List.getElem?_toArray, List.getElem?_cons_zero, List.getElem?_cons_succ, Option.getD_some] at e24
          go_simp
          refine hK _ _ hS (Below.refl _ _) ?_
          exact fits_is _ _
        refine Vals5.Steps.run rfl (Vals5.Stable.is _) ?_ ?_
        · intro a W hS pre old K hK
          have e27 := pre 5 27 _ (by kernel_rfl) rfl rfl
          clear pre old
          simp only [Vals5.fits, Array.getD_eq_getD_getElem?, List.getElem?_toArray, List.getElem?_cons_zero, List.getElem?_cons_succ, Option.getD_some] at e27
          go_simp
          refine hK _ _ hS (Below.refl _ _) ?_
          exact fits_is _ _
        refine Vals5.Steps.run rfl (Vals5.Stable.is _) ?_ ?_
        · intro a W hS pre old K hK
          have e25 := pre 3 25 _ (by kernel_rfl) rfl rfl
          have e28 := pre 6 28 _ (by kernel_rfl) rfl rfl
          clear pre old
          simp only [Vals5.fits, Array.getD_eq_getD_getElem?, List.getElem?_toArray, List.getElem?_cons_zero, List.getElem?_cons_succ, Option.getD_some] at e25 e28
          go_simp
          refine hK _ _ hS (Below.refl _ _) ?_
          exact fits_is _ _
        refine Vals5.Steps.run rfl (Vals5.Stable.is _) ?_ ?_
        · intro a W hS pre old K hK
          have e26 := pre 4 26 _ (by kernel_rfl) rfl rfl
          have e29 := pre 7 29 _ (by kernel_rfl) rfl rfl
          clear pre old
          simp only [Vals5.fits, Array.getD_eq_getD_getElem?, List.getElem?_toArray, List.getElem?_cons_zero, List.getElem?_cons_succ, Option.getD_some] at e26 e29
          go_simp
          refine hK _ _ hS (Below.refl _ _) ?_
          exact fits_is _ _
        refine Vals5.Steps.run rfl (Vals5.Stable.is _) ?_ ?_
        · intro a W hS pre old K hK
          have e30 := pre 8 30 _ (by kernel_rfl) rfl rfl
          clear pre old
          simp only [Vals5.fits, Array.getD_eq_getD_getElem?, List.getElem?_toArray, List.getElem?_cons_zero, List.getElem?_cons_succ, Option.getD_some] at e30
          have hS9 := hS
          obtain ⟨q1, q0⟩ := hS9
          have c0 := (C.bb.kp q0 C.nB).cell 0
          have c1 := (C.nb.kp q0 C.nN).cell 0
          have c2 := (C.hb.kp q0 C.nH).cell 0
          have c3 := (C.wb.kp q0 C.nW).way (n := d) (k := i) (by omega) (by omega)
          have c4 := (C.wb.kp q0 C.nW).way (n := P - d) (k := n - i) (by omega) (by omega)
          simp only [List.getElem?_toArray, List.getElem?_cons_zero] at c0 c1 c2
          go_simp
          refine hK _ _ hS (Below.refl _ _) ?_
          exact fits_is _ _
        refine Vals5.Steps.run rfl (Vals5.Stable.is _) ?_ ?_
        · intro a W hS pre old K hK
          have e4 := old 4 _ (by kernel_rfl) rfl
          clear pre old
          simp only [Vals5.fits, Array.getD_eq_getD_getElem?, List.getElem?_toArray, List.getElem?_cons_zero, List.getElem?_cons_succ, Option.getD_some] at e4
          have hS9 := hS
          obtain ⟨q1, q0⟩ := hS9
          have c0 := (C.bb.kp q0 C.nB).cell 0
          have c1 := (C.nb.kp q0 C.nN).cell 0
          have c2 := (C.hb.kp q0 C.nH).cell 0
          have c3 := (C.wb.kp q0 C.nW).way (n := d) (k := i) (by omega) (by omega)
          have c4 := (C.wb.kp q0 C.nW).way (n := P - d) (k := n - i) (by omega) (by omega)
          simp only [List.getElem?_toArray, List.getElem?_cons_zero] at c0 c1 c2
          go_simp
          refine hK _ _ hS (Below.refl _ _) ?_
          exact fits_is _ _
        refine Vals5.Steps.run rfl (Vals5.Stable.is _) ?_ ?_
        · intro a W hS pre old K hK
          have e6 := old 6 _ (by kernel_rfl) rfl
          clear pre old
          simp only [Vals5.fits, Array.getD_eq_getD_getElem?, List.getElem?_toArray, List.getElem?_cons_zero, List.getElem?_cons_succ, Option.getD_some] at e6
          go_simp
          refine hK _ _ hS (Below.refl _ _) ?_
          exact fits_is _ _
        refine Vals5.Steps.run rfl (Vals5.Stable.is _) ?_ ?_
        · intro a W hS pre old K hK
          have e3 := old 3 _ (by kernel_rfl) rfl
          clear pre old
          simp only [Vals5.fits, Array.getD_eq_getD_getElem?, List.getElem?_toArray, List.getElem?_cons_zero, List.getElem?_cons_succ, Option.getD_some] at e3
          have hS9 := hS
          obtain ⟨q1, q0⟩ := hS9
          have c0 := (C.bb.kp q0 C.nB).cell 0
          have c1 := (C.nb.kp q0 C.nN).cell 0
          have c2 := (C.hb.kp q0 C.nH).cell 0
          have c3 := (C.wb.kp q0 C.nW).way (n := d) (k := i) (by omega) (by omega)
          have c4 := (C.wb.kp q0 C.nW).way (n := P - d) (k := n - i) (by omega) (by omega)
          simp only [List.getElem?_toArray, List.getElem?_cons_zero] at c0 c1 c2
          go_simp
          refine hK _ _ hS (Below.refl _ _) ?_
          exact fits_is _ _
        refine Vals5.Steps.run rfl (Vals5.Stable.is _) ?_ ?_
        · intro a W hS pre old K hK
          have e7 := old 7 _ (by kernel_rfl) rfl
          clear pre old
          simp only [Vals5.fits, Array.getD_eq_getD_getElem?, List.getElem?_toArray, List.getElem?_cons_zero, List.getElem?_cons_succ, Option.getD_some] at e7
          go_simp
          refine hK _ _ hS (Below.refl _ _) ?_
          exact fits_is _ _
        refine Vals5.Steps.run rfl (Vals5.Stable.is _) ?_ ?_
        · intro a W hS pre old K hK
          have e34 := pre 12 34 _ (by kernel_rfl) rfl rfl
          have e35 := pre 13 35 _ (by kernel_rfl) rfl rfl
          clear pre old
          simp only [Vals5.fits, Array.getD_eq_getD_getElem?, List.getElem?_toArray, List.getElem?_cons_zero, List.getElem?_cons_succ, Option.getD_some] at e34 e35
          go_simp
          refine hK _ _ hS (Below.refl _ _) ?_
          exact fits_is _ _
        refine Vals5.Steps.run rfl (Vals5.Stable.is _) ?_ ?_
        · intro a W hS pre old K hK
          have e32 := pre 10 32 _ (by kernel_rfl) rfl rfl
          clear pre old
          simp only [Vals5.fits, Array.getD_eq_getD_getElem?, List.getElem?_toArray, List.getElem?_cons_zero, List.getElem?_cons_succ, Option.getD_some] at e32
          go_simp
          refine hK _ _ hS (Below.refl _ _) ?_
          exact fits_is _ _
        refine Vals5.Steps.run rfl (Vals5.Stable.is _) ?_ ?_
        · intro a W hS pre old K hK
          have e37 := pre 15 37 _ (by kernel_rfl) rfl rfl
          clear pre old
          simp only [Vals5.fits, Array.getD_eq_getD_getElem?, List.getElem?_toArray, List.getElem?_cons_zero, List.getElem?_cons_succ, Option.getD_some] at e37
          go_simp
          refine hK _ _ hS (Below.refl _ _) ?_
          exact fits_is _ _
        refine Vals5.Steps.run rfl (Vals5.Stable.is _) ?_ ?_
        · intro a W hS pre old K hK
          have e33 := pre 11 33 _ (by kernel_rfl) rfl rfl
          have e38 := pre 16 38 _ (by kernel_rfl) rfl rfl
          clear pre old
          simp only [Vals5.fits, Array.getD_eq_getD_getElem?, List.getElem?_toArray, List.getElem?_cons_zero, List.getElem?_cons_succ, Option.getD_some] at e33 e38
          go_simp
          refine hK _ _ hS (Below.refl _ _) ?_
          exact fits_is _ _
        refine Vals5.Steps.run rfl (Vals5.Stable.is _) ?_ ?_
        · intro a W hS pre old K hK
          have e36 := pre 14 36 _ (by kernel_rfl) rfl rfl
          have e39 := pre 17 39 _ (by kernel_rfl) rfl rfl
          clear pre old
          simp only [Vals5.fits, Array.getD_eq_getD_getElem?, List.getElem?_toArray, List.getElem?_cons_zero, List.getElem?_cons_succ, Option.getD_some] at e36 e39
          go_simp
          refine hK _ _ hS (Below.refl _ _) ?_
          exact fits_is _ _
        refine Vals5.Steps.run rfl (Vals5.Stable.is _) ?_ ?_
        · intro a W hS pre old K hK
          have e40 := pre 18 40 _ (by kernel_rfl) rfl rfl
          clear pre old
          simp only [Vals5.fits, Array.getD_eq_getD_getElem?, List.getElem?_toArray, List.getElem?_cons_zero, List.getElem?_cons_succ, Option.getD_some] at e40
          have hS9 := hS
          obtain ⟨q1, q0⟩ := hS9
          have c0 := (C.bb.kp q0 C.nB).cell 0
          have c1 := (C.nb.kp q0 C.nN).cell 0
          have c2 := (C.hb.kp q0 C.nH).cell 0
          have c3 := (C.wb.kp q0 C.nW).way (n := d) (k := i) (by omega) (by omega)
          have c4 := (C.wb.kp q0 C.nW).way (n := P - d) (k := n - i) (by omega) (by omega)
          simp only [List.getElem?_toArray, List.getElem?_cons_zero] at c0 c1 c2
          go_simp
          refine hK _ _ hS (Below.refl _ _) ?_
          exact fits_is _ _
        refine Vals5.Steps.run rfl (Vals5.Stable.is _) ?_ ?_
        · intro a W hS pre old K hK
          have e31 := pre 9 31 _ (by kernel_rfl) rfl rfl
          have e41 := pre 19 41 _ (by kernel_rfl) rfl rfl
          clear pre old
          simp only [Vals5.fits, Array.getD_eq_getD_getElem?, List.getElem?_toArray, List.getElem?_cons_zero, List.getElem?_cons_succ, Option.getD_some] at e31 e41
          go_simp
          refine hK _ _ hS (Below.refl _ _) ?_
          exact fits_is _ _
        exact Vals5.Steps.nil
      case hend =>
      rintro X ⟨hJX, hKX⟩
      obtain ⟨fn, tmps, assign, body, hy, hR⟩ := HY.out X hJX
      have HKX := Lib.hid hKX
      clear hKX
      simp only [Vals5.All]
      simp only [Vals.putAll, List.setIfInBounds_toArray, List.set_cons_zero, List.set_cons_succ]
      show wpListIn _ _ _ _ _ [_, _] _ _
      gi_wp2
      refine hR.mono ?_
      clear hR hy HY
      rintro e W3 (⟨rfl, hJ3, hk3⟩ | ⟨rfl, hJx3⟩)
      · have HJ3 : Hid (J ((showsL P d n).take (k + 1)) W3) := by
          show J _ _
          rw [List.take_succ_eq_append_getElem hlt, HG.out]; exact hJ3
        have HK3 := Lib.hid (HKX.out.trans hk3)
        have hrel2 : i + 1 = loS P d n + (k + 1) := by have := HI.out; omega
        gi_wp2
        go_roundw
        case rel => exact ⟨k + 1, by omega, by congr 1 <;> omega, HJ3, HK3⟩
        case measure => simp [intOf]; omega
      · gi_wp2
        refine bodyPost_ret (results_none rfl _ _ _) rfl ?_
        refine ⟨⟨_, rfl⟩, .inr ⟨_, ⟨(showsL P d n).drop (k + 1), ?_⟩, hJx3⟩⟩
        rw [List.append_assoc, List.singleton_append, ← HG.out, ← List.drop_eq_getElem_cons hlt, List.take_append_drop]
    · obtain rfl : k = (showsL P d n).length := by omega
      have HJe := HJ.out
      rw [List.take_length] at HJe
      have hle := loS_le C.dP C.nL
      obtain ⟨i, hi⟩ : ∃ i, loS P d n + (showsL P d n).length = i := ⟨_, rfl⟩
      have hih : i = hiS d n + 1 := by omega
      rw [hi]
      have hcs : (¬ (i : Int) ≤ (d : Int)) ∨ (¬ (i : Int) ≤ (n : Int)) := by unfold hiS at hih; omega
      clear hi hih hlen hk hge
      rcases hcs with t1 | t1
      · gi_wp2
        go_end0
        exact ⟨⟨_, rfl⟩, .inl HJe⟩
      · gi_wp2
        go_end0
        exact ⟨⟨_, rfl⟩, .inl HJe⟩
theorem shows_seq (nn : Nat) (hnn : 1 ≤ nn) {a b c ee : Nat} {w₀ : World} {gP gB gN gH g : Nat} {tp lo hi : Int} {P d n : Nat} (C : Cs a b w₀ gP gB gN gH g tp lo hi P d n) :
    SeqC Fence.wide nn Try.prog 85 #[hpP gP, hpP gB, hpP gN, hpP gH] encS (Kp a b c ee) (fun xs => xs = showsL P d n) (fun pre => ∃ rest, showsL P d n = pre ++ rest) (fun pre x => ∃ rest, showsL P d n = pre ++ x :: rest) w₀ :=
  fun l J Jx W hW hJ _ hY h0 => shows1_in nn hnn C l J Jx W hW hJ hY h0
theorem shows_seqR (nn : Nat) (hnn : 1 ≤ nn) {a b c ee : Nat} {w₀ : World} {gP gB gN gH g : Nat} {tp lo hi : Int} {P d n : Nat} (C : Cs a b w₀ gP gB gN gH g tp lo hi P d n) (l : Nat) :
    SeqC (Fence.wide.inRound l) nn Try.prog 85 #[hpP gP, hpP gB, hpP gN, hpP gH] encS (Kp a b c ee) (fun xs => xs = showsL P d n) (fun pre => ∃ rest, showsL P d n = pre ++ rest) (fun pre x => ∃ rest, showsL P d n = pre ++ x :: rest) w₀ := shows_seq nn hnn C
end Td
end Go.Proofs.Ytgkdidnmndmlhaa
