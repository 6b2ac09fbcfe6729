import Derived.Test.YtccacinnelmnpaaVals
import Derived.Test.YtccacinnelmnpaaBase
/- As Vals; but a value may be known by a property alone (a pointer to a block with these cells, say), which lives on as memory grows. -/
namespace Go.Proofs.Ytccacinnelmnpaa
open Go.RowKit
namespace Vals5
open Vals (putAll putAll_size putAll_out putAll_in waits acyc guarded slot_inj getD_of ready_spec all_of_none)
/-- what is known of a value: which it is, or a property of it in memory. -/
inductive Exp
  | is (v : Value)
  | has (R : Value → World → Prop)
def fits : Exp → Value → World → Prop
  | .is u, v, _ => v = u
  | .has R, v, w => R v w
def Stable (x : Exp) : Prop := ∀ v w w', fits x v w → Below w.heap.size w w' → fits x v w'
theorem Stable.is (u : Value) : Stable (.is u) := fun _ _ _ h _ => h
def guardVal (xs : List Exp) (o : Oper) : Bool :=
  match o.guard with
  | none => true
  | some (j, want) => match xs[j]? with | some (.is (.bool b)) => b == want | _ => false
/-- the guards are Booleans that are known. -/
def guardKnown (xs : List Exp) (o : Oper) : Bool :=
  match o.guard with
  | none => true
  | some (j, _) => match xs[j]? with | some (.is _) => true | _ => false
set_option linter.unusedVariables false
section
variable {P : Program} {Q : Exit → Act → World → Prop} {S : World → Prop} {ops : Array Oper} {ds : List (Option Tmp)} {xs : List Exp} {a0 : Act}
def Step (P : Program) (Q : Exit → Act → World → Prop) (S : World → Prop) (ds : List (Option Tmp)) (xs : List Exp) (a0 : Act) (o : Oper) (x : Exp) : Prop :=
  ∀ (a : Act) (w : World), S w →
    (∀ j d y, waits o j = true → ds[j]? = some (some d) → xs[j]? = some y → fits y (a.tmps.getD d undef) w) →
    (∀ t u, ds.contains (some t) = false → a0.tmps.getD t undef = u → a.tmps.getD t undef = u) →
    ∀ K : Act → World → Prop, (∀ v w', S w' → Below w.heap.size w w' → fits x v w' → K (a.put o.dst v) w') → o.wp P a w K Q
inductive Steps (P : Program) (Q : Exit → Act → World → Prop) (S : World → Prop) (ds : List (Option Tmp)) (xs : List Exp) (a0 : Act) : List Oper → List Exp → Prop
  | nil : Steps P Q S ds xs a0 [] []
  | run {o : Oper} {x : Exp} {os : List Oper} {ys : List Exp} (hg : guardVal xs o = true) (hx : Stable x) (h : Step P Q S ds xs a0 o x) (r : Steps P Q S ds xs a0 os ys) : Steps P Q S ds xs a0 (o :: os) (x :: ys)
  | skip {o : Oper} {os : List Oper} {ys : List Exp} (hg : guardVal xs o = false) (hk : guardKnown xs o = true) (r : Steps P Q S ds xs a0 os ys) : Steps P Q S ds xs a0 (o :: os) (.is undef :: ys)
def Known (P : Program) (Q : Exit → Act → World → Prop) (S : World → Prop) (ds : List (Option Tmp)) (xs : List Exp) (a0 : Act) (o : Oper) (x : Exp) : Prop :=
  Stable x ∧ ((guardVal xs o = true ∧ Step P Q S ds xs a0 o x) ∨ (guardVal xs o = false ∧ guardKnown xs o = true ∧ x = .is undef))
theorem Steps.get {os : List Oper} {ys : List Exp} (h : Steps P Q S ds xs a0 os ys) : ∀ {i : Nat} {o : Oper}, os[i]? = some o → ∃ x, ys[i]? = some x ∧ Known P Q S ds xs a0 o x := by
  induction h with
  | nil => intro i o h; simp at h
  | @run o x os ys hg hx h r ih =>
    intro i o' hi
    match i with
    | 0 => obtain rfl : o = o' := by simpa using hi
           exact ⟨x, rfl, hx, .inl ⟨hg, h⟩⟩
    | i + 1 =>
      obtain ⟨u, hu, hk⟩ := ih (i := i) (o := o') (by simpa using hi)
      exact ⟨u, by simpa using hu, hk⟩
  | @skip o os ys hg hk r ih =>
    intro i o' hi
    match i with
    | 0 => obtain rfl : o = o' := by simpa using hi
           exact ⟨.is undef, rfl, Stable.is _, .inr ⟨hg, hk, rfl⟩⟩
    | i + 1 =>
      obtain ⟨u, hu, hk⟩ := ih (i := i) (o := o') (by simpa using hi)
      exact ⟨u, by simpa using hu, hk⟩
structure Mid (ops : Array Oper) (ds : List (Option Tmp)) (xs : List Exp) (a0 : Act) (listed : Array Bool) (a : Act) (w : World) : Prop where
  size : listed.size = ops.size
  defers : a.defers = a0.defers
  tsize : a.tmps.size = a0.tmps.size
  done : ∀ (i : Nat) (d : Tmp) (x : Exp), listed[i]? = some true → ds[i]? = some (some d) → xs[i]? = some x → ∃ v, a.tmps[d]? = some v ∧ fits x v w
  old : ∀ t : Tmp, (∀ i : Nat, listed[i]? = some true → ds[i]? ≠ some (some t)) → a.tmps[t]? = a0.tmps[t]?
/-- the values fit, slot by slot. -/
def Fits : List (Option Tmp) → List Exp → List Value → World → Prop
  | some _ :: ds, x :: xs, v :: vs, w => fits x v w ∧ Fits ds xs vs w
  | none :: ds, _ :: xs, v :: vs, w => v = undef ∧ Fits ds xs vs w
  | [], [], [], _ => True
  | _, _, _, _ => False
/-- C of any values that fit. -/
def All : List (Option Tmp) → List Exp → World → (List Value → Prop) → Prop
  | some _ :: ds, .is u :: xs, w, C => All ds xs w fun us => C (u :: us)
  | some _ :: ds, .has R :: xs, w, C => ∀ v, R v w → All ds xs w fun us => C (v :: us)
  | none :: ds, _ :: xs, w, C => All ds xs w fun us => C (undef :: us)
  | [], [], _, C => C []
  | _, _, _, _ => True
theorem All.use : ∀ {ds : List (Option Tmp)} {xs : List Exp} {us : List Value} {w : World} {C : List Value → Prop}, All ds xs w C → Fits ds xs us w → C us
  | some _ :: ds, .is u :: xs, v :: us, w, C, h, hf => by
    obtain ⟨h1, h2⟩ := hf
    obtain rfl : v = u := h1
    exact All.use (ds := ds) (xs := xs) (us := us) (w := w) (C := fun us => C (v :: us)) h h2
  | some _ :: ds, .has R :: xs, v :: us, w, C, h, hf => by
    obtain ⟨h1, h2⟩ := hf
    exact All.use (ds := ds) (xs := xs) (us := us) (w := w) (C := fun us => C (v :: us)) (h v h1) h2
  | none :: ds, x :: xs, v :: us, w, C, h, hf => by
    obtain ⟨h1, h2⟩ := hf
    subst h1
    exact All.use (ds := ds) (xs := xs) (us := us) (w := w) (C := fun us => C (undef :: us)) h h2
  | [], [], [], _, _, h, _ => h
  | [], [], _ :: _, _, _, _, hf => hf.elim
  | [], _ :: _, [], _, _, _, hf => hf.elim
  | [], _ :: _, _ :: _, _, _, _, hf => hf.elim
  | some _ :: _, [], _, _, _, _, hf => by cases ‹List Value› <;> exact hf.elim
  | none :: _, [], _, _, _, _, hf => by cases ‹List Value› <;> exact hf.elim
  | some _ :: _, _ :: _, [], _, _, _, hf => hf.elim
  | none :: _, _ :: _, [], _, _, _, hf => hf.elim
theorem fits_of : ∀ {ds : List (Option Tmp)} {xs : List Exp} {tm : Array Value} {w : World}, xs.length = ds.length →
    (∀ (i : Nat) (d : Tmp) (x : Exp), ds[i]? = some (some d) → xs[i]? = some x → ∃ v, tm[d]? = some v ∧ fits x v w) →
    ∃ us : List Value, Fits ds xs us w ∧ ∀ (i : Nat) (d : Tmp), ds[i]? = some (some d) → ∃ v, us[i]? = some v ∧ tm[d]? = some v
  | [], [], _, _, _, _ => ⟨[], trivial, by simp⟩
  | [], _ :: _, _, _, h, _ => by simp at h
  | _ :: _, [], _, _, h, _ => by simp at h
  | some d :: ds, x :: xs, tm, w, hl, h => by
    obtain ⟨us, h1, h2⟩ := fits_of (ds := ds) (xs := xs) (tm := tm) (w := w) (by simpa using hl) (fun i d y hd hy => h (i + 1) d y (by simpa using hd) (by simpa using hy))
    obtain ⟨v, hv, hf⟩ := h 0 d x rfl rfl
    refine ⟨v :: us, ⟨hf, h1⟩, fun i e he => ?_⟩
    match i with
    | 0 => obtain rfl : d = e := by simpa using he
           exact ⟨v, rfl, hv⟩
    | i + 1 => simpa using h2 i e (by simpa using he)
  | none :: ds, x :: xs, tm, w, hl, h => by
    obtain ⟨us, h1, h2⟩ := fits_of (ds := ds) (xs := xs) (tm := tm) (w := w) (by simpa using hl) (fun i d y hd hy => h (i + 1) d y (by simpa using hd) (by simpa using hy))
    refine ⟨undef :: us, ⟨rfl, h1⟩, fun i e he => ?_⟩
    match i with
    | 0 => simp at he
    | i + 1 => simpa using h2 i e (by simpa using he)
theorem go (hds : ops.toList.map (·.dst) = ds) (hA : acyc ops = true) (hG : guarded ops = true) (hN : (ds.filterMap id).Nodup) (hL : ∀ d, some d ∈ ds → d < a0.tmps.size)
    (hxl : xs.length = ds.length) (hst : Steps P Q S ds xs a0 ops.toList xs) (hend : ∀ w us, S w → Fits ds xs us w → Q .normal { a0 with tmps := putAll ds us a0.tmps } w) :
    ∀ (fuel : Nat) (listed : Array Bool) (a : Act) (w : World), Mid ops ds xs a0 listed a w → S w → listed.toList.countP (!·) ≤ fuel → wpAny P .any ops Q fuel listed a w := by
  have hat : ∀ {i : Nat} {o : Oper}, ops[i]? = some o → ds[i]? = some o.dst := fun {i o} h => by
    rw [← hds, List.getElem?_map]
    rw [show ops.toList[i]? = ops[i]? from by simp, h]; rfl
  have hfin : ∀ (listed : Array Bool) (a : Act) (w : World), Mid ops ds xs a0 listed a w → S w → (∀ i, i < ops.size → listed[i]? = some true) → Q .normal a w := by
    intro listed a w hM hS hall
    have hdl : ds.length = ops.size := by rw [← hds]; simp
    obtain ⟨us, hF, hus⟩ := fits_of (ds := ds) (xs := xs) (tm := a.tmps) (w := w) hxl (fun i d x hd hx => hM.done i d x (hall i (by rw [← hdl]; exact (List.getElem?_eq_some_iff.1 hd).1)) hd hx)
    have he : a = { a0 with tmps := putAll ds us a0.tmps } := by
      obtain ⟨tm, df⟩ := a
      have h1 : df = a0.defers := hM.defers
      have h2 : tm = putAll ds us a0.tmps := by
        apply Array.ext_getElem?
        intro t
        by_cases hex : ∃ i : Nat, ds[i]? = some (some t)
        · obtain ⟨i, hi⟩ := hex
          obtain ⟨v, hv, hv2⟩ := hus i t hi
          rw [putAll_in ds us a0.tmps t i v hN (hL t (List.mem_of_getElem? hi)) hi hv]
          exact hv2
        · rw [putAll_out ds us a0.tmps t (fun i hi => hex ⟨i, hi⟩)]
          exact hM.old t (fun i _ hi => hex ⟨i, hi⟩)
      rw [h1, h2]
    rw [he]
    exact hend w us hS hF
  intro fuel
  induction fuel with
  | zero =>
    intro listed a w hM hS hc
    have hall : ∀ i, i < ops.size → listed[i]? = some true := fun i hi => by
      have hil : i < listed.size := by have := hM.size; omega
      rw [Array.getElem?_eq_getElem hil]
      cases hv : listed[i]
      · exfalso
        have := (List.countP_pos_iff (p := (!·)) (l := listed.toList)).2 ⟨listed[i], by simp, by simp [hv]⟩
        omega
      · rfl
    refine ⟨?_, hfin listed a w hM hS hall⟩
    rw [List.eq_nil_iff_forall_not_mem]
    intro i hi
    obtain ⟨h1, h2, _⟩ := ready_spec.1 hi
    rw [getD_of (hall i h1)] at h2
    cases h2
  | succ fuel ih =>
    intro listed a w hM hS hc
    refine ⟨fun h => hfin listed a w hM hS (all_of_none hA hM.size h), fun i hi => ?_⟩
    obtain ⟨hil, hun, o, ho, hpre⟩ := ready_spec.1 hi
    have hll : i < listed.size := by have := hM.size; omega
    have hun' : listed[i] = false := by simpa [Array.getD, hll] using hun
    obtain ⟨x, hx, hstab, hcase⟩ := hst.get (i := i) (o := o) (by simpa using ho)
    have hdo := hat ho
    have hwait : ∀ j d y, waits o j = true → ds[j]? = some (some d) → xs[j]? = some y → ∃ v, a.tmps[d]? = some v ∧ fits y v w := fun j d y hw hd hy => by
      unfold waits at hw
      obtain ⟨e, he, hb⟩ := Array.any_eq_true'.1 hw
      simp only [Bool.and_eq_true, beq_iff_eq] at hb
      obtain ⟨hb, rfl⟩ := hb
      have h1 := hpre e he hb
      have h2 : listed[e.on]? = some true := by
        unfold Array.getD at h1
        split at h1
        · rename_i hx
          rw [Array.getElem?_eq_getElem hx]
          exact congrArg some h1
        · cases h1
      exact hM.done e.on d y h2 hd hy
    have hwait' : ∀ j d y, waits o j = true → ds[j]? = some (some d) → xs[j]? = some y → fits y (a.tmps.getD d undef) w := fun j d y hw hd hy => by
      obtain ⟨v, hv, hf⟩ := hwait j d y hw hd hy
      rw [getD_of hv]; exact hf
    have hnext : ∀ v w', S w' → Below w.heap.size w w' → fits x v w' → wpAny P .any ops Q fuel (listed.setIfInBounds i true) (a.put o.dst v) w' := fun v w' hS' hb' hf' => by
      refine ih _ _ _ ⟨by simp [hM.size], ?_, ?_, ?_, ?_⟩ hS' ?_
      · cases o.dst <;> exact hM.defers
      · cases o.dst <;> simp [Act.put, hM.tsize]
      · intro j d y hj hd hy
        by_cases hij : i = j
        · subst hij
          obtain rfl : x = y := by rw [hx] at hy; simpa using hy
          obtain hod : o.dst = some d := by rw [hdo] at hd; simpa using hd
          rw [hod]
          simp only [Act.put]
          have := hL d (List.mem_of_getElem? hd)
          exact ⟨v, by rw [Array.getElem?_setIfInBounds_self_of_lt (by rw [hM.tsize]; exact this)], hf'⟩
        · have hj' : listed[j]? = some true := by rwa [Array.getElem?_setIfInBounds_ne hij] at hj
          obtain ⟨u, h0, hf0⟩ := hM.done j d y hj' hd hy
          have hjo : j < ops.size := by
            have := (Array.getElem?_eq_some_iff.1 hj').1
            have := hM.size
            omega
          obtain ⟨y', hy', hst', _⟩ := hst.get (i := j) (o := ops[j]) (by simp [hjo])
          obtain rfl : y = y' := by rw [hy] at hy'; simpa using hy'
          refine ⟨u, ?_, hst' u w w' hf0 hb'⟩
          cases hod : o.dst with
          | none => exact h0
          | some d' =>
            simp only [Act.put]
            have hne : d' ≠ d := fun e => by
              subst e
              rw [hod] at hdo
              exact hij (slot_inj hN hdo hd)
            rw [Array.getElem?_setIfInBounds_ne hne]
            exact h0
      · intro t ht
        have h0 := hM.old t (fun j hj => ht j (by
          by_cases hij : i = j
          · subst hij
            rw [Array.getElem?_eq_getElem hll, hun'] at hj
            cases hj
          · rw [Array.getElem?_setIfInBounds_ne hij]; exact hj))
        cases hod : o.dst with
        | none => exact h0
        | some d' =>
          simp only [Act.put]
          have hne : d' ≠ t := fun e => by
            subst e
            exact ht i (by rw [Array.getElem?_setIfInBounds_self_of_lt hll]) (by rw [hdo, hod])
          rw [Array.getElem?_setIfInBounds_ne hne]
          exact h0
      · rw [Array.toList_setIfInBounds, List.countP_set (h := by simpa using hll)]
        have hp : 0 < listed.toList.countP (!·) := (List.countP_pos_iff (p := (!·)) (l := listed.toList)).2 ⟨listed[i], by simp, by simp [hun']⟩
        have e1 : listed.toList[i]'(by simpa using hll) = false := by simpa using hun'
        rw [e1]
        simp only [Bool.not_false, Bool.not_true, if_true, Bool.false_eq_true, if_false]
        omega
    have hgw : (guardVal xs o = true ∨ guardKnown xs o = true) → Region.wanted o (yielded ops a.tmps) = guardVal xs o := fun hgk => by
      unfold Region.wanted
      cases hgo : o.guard with
      | none => unfold guardVal; rw [hgo]
      | some p =>
        obtain ⟨j, want⟩ := p
        unfold guarded at hG
        have h1 := Array.all_eq_true_iff_forall_mem.1 hG o (Array.mem_of_getElem? ho)
        rw [hgo] at h1
        simp only [Bool.and_eq_true] at h1
        obtain ⟨hw, hs⟩ := h1
        obtain ⟨d, hd⟩ := Option.isSome_iff_exists.1 hs
        obtain ⟨oj, hoj, hdj⟩ := Option.bind_eq_some_iff.1 hd
        have hdsj := hat hoj
        rw [hdj] at hdsj
        obtain ⟨y, hy, _⟩ := hst.get (i := j) (o := oj) (by simpa using hoj)
        obtain ⟨u, ht, hf⟩ := hwait j d y hw hdsj hy
        have hy2 : ∃ c, y = .is c := by
          cases y with
          | is c => exact ⟨c, rfl⟩
          | has R =>
            exfalso
            rcases hgk with h | h
            · unfold guardVal at h; rw [hgo] at h; simp [hy] at h
            · unfold guardKnown at h; rw [hgo] at h; simp [hy] at h
        obtain ⟨c, rfl⟩ := hy2
        obtain rfl : u = c := hf
        unfold guardVal
        rw [hgo]
        simp only [yielded, hd, Option.bind_some, ht, hy]
        cases u <;> simp
    refine wpOp_step ho (fun K' hK => ?_)
    have hold : ∀ t u, ds.contains (some t) = false → a0.tmps.getD t undef = u → a.tmps.getD t undef = u := fun t u h1 h2 => by
      have h3 := hM.old t (fun j _ hd => by
        have := List.mem_of_getElem? hd
        rw [← List.contains_iff_mem] at this
        rw [h1] at this
        cases this)
      rw [← h2]
      simp [Array.getD_eq_getD_getElem?, h3]
    rcases hcase with ⟨hg, hstep⟩ | ⟨hg, hgk, hun⟩
    · rw [hgw (.inl hg), hg, if_pos rfl]
      exact hstep a w hS hwait' hold K' (fun v w' h1 h2 h3 => hK _ _ (hnext v w' h1 h2 h3))
    · rw [hgw (.inr hgk), hg, if_neg (by decide)]
      subst hun
      exact hK _ _ (hnext undef w hS (Below.refl _ _) rfl)
theorem region {id : Nat} {w : World} (S : World → Prop) (ds : List (Option Tmp)) (xs : List Exp) (hm : P.follows .mixedOrders = true) (hds : ops.toList.map (·.dst) = ds) (hA : acyc ops = true) (hG : guarded ops = true) (hN : decide (ds.filterMap fun x => x).Nodup = true) (hL : (ds.all fun o => o.all fun d => decide (d < a0.tmps.size)) = true) (hxl : xs.length = ds.length) (hS : S w.drew)
    (hst : Steps P Q S ds xs a0 ops.toList xs) (hend : ∀ w us, S w → Fits ds xs us w → Q .normal { a0 with tmps := putAll ds us a0.tmps } w) : (Code.region id ops true).wp P Q a0 w := by
  have hL' : ∀ d, some d ∈ ds → d < a0.tmps.size := fun d hd => by
    have := List.all_eq_true.1 hL (some d) hd
    simpa using this
  refine wp_region_any hm (go hds hA hG (show (ds.filterMap _root_.id).Nodup from of_decide_eq_true hN) hL' hxl hst hend ops.size _ a0 w.drew ⟨by simp, rfl, rfl, ?_, ?_⟩ hS ?_)
  · intro i d v h
    rw [Array.getElem?_replicate] at h
    split at h <;> cases h
  · intro t _; rfl
  · have := List.countP_le_length (p := (!·)) (l := (Array.replicate ops.size false).toList)
    simpa using this
theorem regionAll {id : Nat} {w : World} (S : World → Prop) (ds : List (Option Tmp)) (xs : List Exp) (hm : P.follows .mixedOrders = true) (hds : ops.toList.map (·.dst) = ds) (hA : acyc ops = true) (hG : guarded ops = true) (hN : decide (ds.filterMap fun x => x).Nodup = true) (hL : (ds.all fun o => o.all fun d => decide (d < a0.tmps.size)) = true) (hxl : xs.length = ds.length) (hS : S w.drew)
    (hst : Steps P Q S ds xs a0 ops.toList xs) (hend : ∀ w, S w → All ds xs w fun us => Q .normal { a0 with tmps := putAll ds us a0.tmps } w) : (Code.region id ops true).wp P Q a0 w :=
  region S ds xs hm hds hA hG hN hL hxl hS hst fun w us h hF => All.use (hend w h) hF
end
end Vals5
end Go.Proofs.Ytccacinnelmnpaa
