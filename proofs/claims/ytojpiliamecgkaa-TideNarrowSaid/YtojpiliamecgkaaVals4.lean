/- As Vals2; but memory turns twice, at the p-th operation and at the q-th (an allocation, and a store into what it made); an operation that waits for the p-th may take it that the p-th is done. -/
import Derived.Test.YtojpiliamecgkaaVals
namespace Go.Proofs.Ytojpiliamecgkaa
namespace Vals4
open Vals (putAll putAll_size putAll_out putAll_in guardVal waits acyc guarded slot_inj getD_of ready_spec all_of_none)
section
variable {P : Program} {Q : Exit → Act → World → Prop} {St : Bool → Bool → World → Prop} {p q : Nat} {ops : Array Oper} {ds : List (Option Tmp)} {vs : List Value} {a0 : Act}
/-- one operation comes to its value, and T holds behind it. -/
def Step (P : Program) (Q : Exit → Act → World → Prop) (S T : World → Prop) (ds : List (Option Tmp)) (vs : List Value) (a0 : Act) (o : Oper) (v : Value) : Prop :=
  ∀ (a : Act) (w : World), S w →
    (∀ j d u, waits o j = true → ds[j]? = some (some d) → vs[j]? = some u → a.tmps.getD d undef = u) →
    (∀ t u, ds.contains (some t) = false → a0.tmps.getD t undef = u → a.tmps.getD t undef = u) →
    ∀ K : Act → World → Prop, (∀ w', T w' → K (a.put o.dst v) w') → o.wp P a w K Q
/-- the operations from the k-th on. -/
inductive Steps (P : Program) (Q : Exit → Act → World → Prop) (St : Bool → Bool → World → Prop) (p q : Nat) (ds : List (Option Tmp)) (vs : List Value) (a0 : Act) : Nat → List Oper → List Value → Prop
  | nil {k : Nat} : Steps P Q St p q ds vs a0 k [] []
  | run {k : Nat} {o : Oper} {v : Value} {os : List Oper} {us : List Value} (hk : k ≠ p ∧ k ≠ q) (hg : guardVal vs o = true) (h : ∀ t u, (waits o p = true → t = true) → Step P Q (St t u) (St t u) ds vs a0 o v) (r : Steps P Q St p q ds vs a0 (k + 1) os us) : Steps P Q St p q ds vs a0 k (o :: os) (v :: us)
  | turn {o : Oper} {v : Value} {os : List Oper} {us : List Value} (hk : p ≠ q) (hg : guardVal vs o = true) (h : ∀ u, Step P Q (St false u) (St true u) ds vs a0 o v) (r : Steps P Q St p q ds vs a0 (p + 1) os us) : Steps P Q St p q ds vs a0 p (o :: os) (v :: us)
  | turn2 {o : Oper} {v : Value} {os : List Oper} {us : List Value} (hk : q ≠ p) (hg : guardVal vs o = true) (h : ∀ t, (waits o p = true → t = true) → Step P Q (St t false) (St t true) ds vs a0 o v) (r : Steps P Q St p q ds vs a0 (q + 1) os us) : Steps P Q St p q ds vs a0 q (o :: os) (v :: us)
  | skip {k : Nat} {o : Oper} {os : List Oper} {us : List Value} (hk : k ≠ p ∧ k ≠ q) (hg : guardVal vs o = false) (r : Steps P Q St p q ds vs a0 (k + 1) os us) : Steps P Q St p q ds vs a0 k (o :: os) (undef :: us)
/-- what is known of one of them. -/
def Known (P : Program) (Q : Exit → Act → World → Prop) (St : Bool → Bool → World → Prop) (p q : Nat) (ds : List (Option Tmp)) (vs : List Value) (a0 : Act) (i : Nat) (o : Oper) (v : Value) : Prop :=
  (guardVal vs o = true ∧ ((i = p ∧ p ≠ q ∧ ∀ u, Step P Q (St false u) (St true u) ds vs a0 o v) ∨ (i = q ∧ q ≠ p ∧ ∀ t, (waits o p = true → t = true) → Step P Q (St t false) (St t true) ds vs a0 o v) ∨ ((i ≠ p ∧ i ≠ q) ∧ ∀ t u, (waits o p = true → t = true) → Step P Q (St t u) (St t u) ds vs a0 o v))) ∨ (guardVal vs o = false ∧ v = undef ∧ i ≠ p ∧ i ≠ q)
theorem Steps.get {k : Nat} {os : List Oper} {us : List Value} (h : Steps P Q St p q ds vs a0 k os us) : ∀ {i : Nat} {o : Oper}, os[i]? = some o → ∃ v, us[i]? = some v ∧ Known P Q St p q ds vs a0 (k + i) o v := by
  induction h with
  | nil => intro i o h; simp at h
  | @run k o v os us hk hg h r ih =>
    intro i o' hi
    match i with
    | 0 => obtain rfl : o = o' := by simpa using hi
           exact ⟨v, rfl, .inl ⟨hg, .inr (.inr ⟨hk, h⟩)⟩⟩
    | i + 1 =>
      obtain ⟨u, hu, hk⟩ := ih (i := i) (o := o') (by simpa using hi)
      exact ⟨u, by simpa using hu, by rwa [show k + (i + 1) = k + 1 + i by omega]⟩
  | @turn o v os us hk hg h r ih =>
    intro i o' hi
    match i with
    | 0 => obtain rfl : o = o' := by simpa using hi
           exact ⟨v, rfl, .inl ⟨hg, .inl ⟨rfl, hk, h⟩⟩⟩
    | i + 1 =>
      obtain ⟨u, hu, hk'⟩ := ih (i := i) (o := o') (by simpa using hi)
      exact ⟨u, by simpa using hu, by rwa [show p + (i + 1) = p + 1 + i by omega]⟩
  | @turn2 o v os us hk hg h r ih =>
    intro i o' hi
    match i with
    | 0 => obtain rfl : o = o' := by simpa using hi
           exact ⟨v, rfl, .inl ⟨hg, .inr (.inl ⟨rfl, hk, h⟩)⟩⟩
    | i + 1 =>
      obtain ⟨u, hu, hk'⟩ := ih (i := i) (o := o') (by simpa using hi)
      exact ⟨u, by simpa using hu, by rwa [show q + (i + 1) = q + 1 + i by omega]⟩
  | @skip k o os us hk hg r ih =>
    intro i o' hi
    match i with
    | 0 => obtain rfl : o = o' := by simpa using hi
           exact ⟨undef, rfl, .inr ⟨hg, rfl, hk⟩⟩
    | i + 1 =>
      obtain ⟨u, hu, hk⟩ := ih (i := i) (o := o') (by simpa using hi)
      exact ⟨u, by simpa using hu, by rwa [show k + (i + 1) = k + 1 + i by omega]⟩
/-- in the middle of the region. -/
structure Mid (ops : Array Oper) (ds : List (Option Tmp)) (vs : List Value) (a0 : Act) (listed : Array Bool) (a : Act) : Prop where
  size : listed.size = ops.size
  defers : a.defers = a0.defers
  tsize : a.tmps.size = a0.tmps.size
  done : ∀ (i : Nat) (d : Tmp) (v : Value), listed[i]? = some true → ds[i]? = some (some d) → vs[i]? = some v → a.tmps[d]? = some v
  old : ∀ t : Tmp, (∀ i : Nat, listed[i]? = some true → ds[i]? ≠ some (some t)) → a.tmps[t]? = a0.tmps[t]?
/-- what holds of memory, by whether the p-th is done. -/
def At (St : Bool → Bool → World → Prop) (p q : Nat) (listed : Array Bool) (w : World) : Prop := ∃ t u, listed[p]? = some t ∧ listed[q]? = some u ∧ St t u w
theorem go (hds : ops.toList.map (·.dst) = ds) (hA : acyc ops = true) (hG : guarded ops = true) (hN : (ds.filterMap id).Nodup) (hL : ∀ d, some d ∈ ds → d < a0.tmps.size)
    (hp : p < ops.size) (hq : q < ops.size) (hst : Steps P Q St p q ds vs a0 0 ops.toList vs) (hend : ∀ w, St true true w → Q .normal { a0 with tmps := putAll ds vs a0.tmps } w) :
    ∀ (fuel : Nat) (listed : Array Bool) (a : Act) (w : World), Mid ops ds vs a0 listed a → At St p q listed w → listed.toList.countP (!·) ≤ fuel → wpAny P .any ops Q fuel listed a w := by
  have hat : ∀ {i : Nat} {o : Oper}, ops[i]? = some o → ds[i]? = some o.dst := fun {i o} h => by
    rw [← hds, List.getElem?_map]
    rw [show ops.toList[i]? = ops[i]? from by simp, h]; rfl
  have hfin : ∀ (listed : Array Bool) (a : Act) (w : World), Mid ops ds vs a0 listed a → At St p q listed w → (∀ i, i < ops.size → listed[i]? = some true) → Q .normal a w := by
    intro listed a w hM hS hall
    have hdl : ds.length = ops.size := by rw [← hds]; simp
    have hev : ∀ i, i < ops.size → ∃ v, vs[i]? = some v := fun i hi => by
      obtain ⟨v, hv, _⟩ := hst.get (i := i) (o := ops[i]) (by simp [hi])
      exact ⟨v, hv⟩
    have he : a = { a0 with tmps := putAll ds vs a0.tmps } := by
      obtain ⟨tm, df⟩ := a
      have h1 : df = a0.defers := hM.defers
      have h2 : tm = putAll ds vs a0.tmps := by
        apply Array.ext_getElem?
        intro t
        by_cases hex : ∃ i : Nat, ds[i]? = some (some t)
        · obtain ⟨i, hi⟩ := hex
          have hil : i < ops.size := by rw [← hdl]; exact (List.getElem?_eq_some_iff.1 hi).1
          obtain ⟨v, hv⟩ := hev i hil
          rw [putAll_in ds vs a0.tmps t i v hN (hL t (List.mem_of_getElem? hi)) hi hv]
          exact hM.done i t v (hall i hil) hi hv
        · rw [putAll_out ds vs a0.tmps t (fun i hi => hex ⟨i, hi⟩)]
          exact hM.old t (fun i _ hi => hex ⟨i, hi⟩)
      rw [h1, h2]
    rw [he]
    obtain ⟨t, u, ht, hu, h⟩ := hS
    rw [hall p hp] at ht
    rw [hall q hq] at hu
    obtain rfl : true = t := by simpa using ht
    obtain rfl : true = u := by simpa using hu
    exact hend w h
  intro fuel
  induction fuel with
  | zero =>
    intro listed a w hM hS hc
    have hall : ∀ i, i < ops.size → listed[i]? = some true := fun i hi => by
      have hil : i < listed.size := by have := hM.size; omega
      rw [Array.getElem?_eq_getElem hil]
      cases hv : listed[i]
      · exfalso
        have := (List.countP_pos_iff (p := (!·)) (l := listed.toList)).2 ⟨listed[i], by simp, by simp [hv]⟩
        omega
      · rfl
    refine ⟨?_, hfin listed a w hM hS hall⟩
    rw [List.eq_nil_iff_forall_not_mem]
    intro i hi
    obtain ⟨h1, h2, _⟩ := ready_spec.1 hi
    rw [getD_of (hall i h1)] at h2
    cases h2
  | succ fuel ih =>
    intro listed a w hM hS hc
    refine ⟨fun h => hfin listed a w hM hS (all_of_none hA hM.size h), fun i hi => ?_⟩
    obtain ⟨hil, hun, o, ho, hpre⟩ := ready_spec.1 hi
    have hll : i < listed.size := by have := hM.size; omega
    have hun' : listed[i] = false := by simpa [Array.getD, hll] using hun
    obtain ⟨v, hv, hcase⟩ := hst.get (i := i) (o := o) (by simpa using ho)
    have hdo := hat ho
    rw [Nat.zero_add] at hcase
    obtain ⟨tt, uu, htt, huu, hS0⟩ := hS
    have hwait : ∀ j d u, waits o j = true → ds[j]? = some (some d) → vs[j]? = some u → a.tmps[d]? = some u := fun j d u hw hd hu => by
      unfold waits at hw
      obtain ⟨e, he, hb⟩ := Array.any_eq_true'.1 hw
      simp only [Bool.and_eq_true, beq_iff_eq] at hb
      obtain ⟨hb, rfl⟩ := hb
      have h1 := hpre e he hb
      have h2 : listed[e.on]? = some true := by
        unfold Array.getD at h1
        split at h1
        · rename_i hx
          rw [Array.getElem?_eq_getElem hx]
          exact congrArg some h1
        · cases h1
      exact hM.done e.on d u h2 hd hu
    have hwt : waits o p = true → tt = true := fun hw => by
      unfold waits at hw
      obtain ⟨e, he, hb⟩ := Array.any_eq_true'.1 hw
      simp only [Bool.and_eq_true, beq_iff_eq] at hb
      obtain ⟨hb, hep⟩ := hb
      have h1 := hpre e he hb
      rw [hep] at h1
      have h2 : listed[p]? = some true := by
        unfold Array.getD at h1
        split at h1
        · rename_i hx
          rw [Array.getElem?_eq_getElem hx]
          exact congrArg some h1
        · cases h1
      rw [htt] at h2
      simpa using h2
    -- the state behind the operation
    have hnext : ∀ w', At St p q (listed.setIfInBounds i true) w' → wpAny P .any ops Q fuel (listed.setIfInBounds i true) (a.put o.dst v) w' := fun w' hS' => by
      refine ih _ _ _ ⟨by simp [hM.size], ?_, ?_, ?_, ?_⟩ hS' ?_
      · cases o.dst <;> exact hM.defers
      · cases o.dst <;> simp [Act.put, hM.tsize]
      · intro j d u hj hd hu
        by_cases hij : i = j
        · subst hij
          obtain rfl : v = u := by rw [hv] at hu; simpa using hu
          obtain hod : o.dst = some d := by rw [hdo] at hd; simpa using hd
          rw [hod]
          simp only [Act.put]
          have := hL d (List.mem_of_getElem? hd)
          rw [Array.getElem?_setIfInBounds_self_of_lt (by rw [hM.tsize]; exact this)]
        · have hj' : listed[j]? = some true := by rwa [Array.getElem?_setIfInBounds_ne hij] at hj
          have h0 := hM.done j d u hj' hd hu
          cases hod : o.dst with
          | none => exact h0
          | some d' =>
            simp only [Act.put]
            have hne : d' ≠ d := fun e => by
              subst e
              rw [hod] at hdo
              -- two operations with one slot
              have hinj : i = j := by
                have hi2 : i < ds.length := (List.getElem?_eq_some_iff.1 hdo).1
                have hj2 : j < ds.length := (List.getElem?_eq_some_iff.1 hd).1
                exact slot_inj hN hdo hd
              exact hij hinj
            rw [Array.getElem?_setIfInBounds_ne hne]
            exact h0
      · intro t ht
        have h0 := hM.old t (fun j hj => ht j (by
          by_cases hij : i = j
          · subst hij
            rw [Array.getElem?_eq_getElem hll, hun'] at hj
            cases hj
          · rw [Array.getElem?_setIfInBounds_ne hij]; exact hj))
        cases hod : o.dst with
        | none => exact h0
        | some d' =>
          simp only [Act.put]
          have hne : d' ≠ t := fun e => by
            subst e
            exact ht i (by rw [Array.getElem?_setIfInBounds_self_of_lt hll]) (by rw [hdo, hod])
          rw [Array.getElem?_setIfInBounds_ne hne]
          exact h0
      · rw [Array.toList_setIfInBounds, List.countP_set (h := by simpa using hll)]
        have hp : 0 < listed.toList.countP (!·) := (List.countP_pos_iff (p := (!·)) (l := listed.toList)).2 ⟨listed[i], by simp, by simp [hun']⟩
        have e1 : listed.toList[i]'(by simpa using hll) = false := by simpa using hun'
        rw [e1]
        simp only [Bool.not_false, Bool.not_true, if_true, Bool.false_eq_true, if_false]
        omega
    have hgw : Region.wanted o (yielded ops a.tmps) = guardVal vs o := by
      unfold Region.wanted guardVal
      cases hgo : o.guard with
      | none => rfl
      | some p =>
        obtain ⟨j, want⟩ := p
        unfold guarded at hG
        have h1 := Array.all_eq_true_iff_forall_mem.1 hG o (Array.mem_of_getElem? ho)
        rw [hgo] at h1
        simp only [Bool.and_eq_true] at h1
        obtain ⟨hw, hs⟩ := h1
        obtain ⟨d, hd⟩ := Option.isSome_iff_exists.1 hs
        obtain ⟨oj, hoj, hdj⟩ := Option.bind_eq_some_iff.1 hd
        have hdsj := hat hoj
        rw [hdj] at hdsj
        obtain ⟨u, hu, _⟩ := hst.get (i := j) (o := oj) (by simpa using hoj)
        have ht := hwait j d u hw hdsj hu
        simp only [yielded, hd, Option.bind_some, ht, hu]
        cases u <;> simp
    refine wpOp_step ho (fun K' hK => ?_)
    rw [hgw]
    have hold : ∀ t u, ds.contains (some t) = false → a0.tmps.getD t undef = u → a.tmps.getD t undef = u := fun t u h1 h2 => by
      have h3 := hM.old t (fun j _ hd => by
        have := List.mem_of_getElem? hd
        rw [← List.contains_iff_mem] at this
        rw [h1] at this
        cases this)
      rw [← h2]
      simp [Array.getD_eq_getD_getElem?, h3]
    have hrun := fun (S T : World → Prop) (hs : Step P Q S T ds vs a0 o v) (h0 : S w) (hT : ∀ w', T w' → At St p q (listed.setIfInBounds i true) w') =>
      hs a w h0 (fun j d u h1 h2 h3 => getD_of (hwait j d u h1 h2 h3)) hold K' (fun w' hS' => hK _ _ (hnext w' (hT w' hS')))
    rcases hcase with ⟨hg, ⟨hi1, hne, hstep⟩ | ⟨hi1, hne, hstep⟩ | ⟨⟨hi1, hi2⟩, hstep⟩⟩ | ⟨hg, hun, hi1, hi2⟩
    · subst hi1
      rw [Array.getElem?_eq_getElem hll, hun'] at htt
      obtain rfl : false = tt := by simpa using htt
      rw [hg, if_pos rfl]
      exact hrun _ _ (hstep uu) hS0 fun w' h => ⟨true, uu, by rw [Array.getElem?_setIfInBounds_self_of_lt hll], by rw [Array.getElem?_setIfInBounds_ne hne]; exact huu, h⟩
    · subst hi1
      rw [Array.getElem?_eq_getElem hll, hun'] at huu
      obtain rfl : false = uu := by simpa using huu
      rw [hg, if_pos rfl]
      exact hrun _ _ (hstep tt hwt) hS0 fun w' h => ⟨tt, true, by rw [Array.getElem?_setIfInBounds_ne hne]; exact htt, by rw [Array.getElem?_setIfInBounds_self_of_lt hll], h⟩
    · rw [hg, if_pos rfl]
      exact hrun _ _ (hstep tt uu hwt) hS0 fun w' h => ⟨tt, uu, by rw [Array.getElem?_setIfInBounds_ne hi1]; exact htt, by rw [Array.getElem?_setIfInBounds_ne hi2]; exact huu, h⟩
    · rw [hg, if_neg (by decide)]
      subst hun
      exact hK _ _ (hnext w ⟨tt, uu, by rw [Array.getElem?_setIfInBounds_ne hi1]; exact htt, by rw [Array.getElem?_setIfInBounds_ne hi2]; exact huu, hS0⟩)
theorem region {id : Nat} {w : World} (St : Bool → Bool → World → Prop) (p q : Nat) (ds : List (Option Tmp)) (vs : List Value) (hm : P.follows .mixedOrders = true) (hds : ops.toList.map (·.dst) = ds) (hA : acyc ops = true) (hG : guarded ops = true) (hp : decide (p < ops.size) = true) (hq : decide (q < ops.size) = true) (hN : decide (ds.filterMap fun x => x).Nodup = true) (hL : (ds.all fun o => o.all fun d => decide (d < a0.tmps.size)) = true) (hS : St false false w.drew)
    (hst : Steps P Q St p q ds vs a0 0 ops.toList vs) (hend : ∀ w, St true true w → Q .normal { a0 with tmps := putAll ds vs a0.tmps } w) : (Code.region id ops true).wp P Q a0 w := by
  have hp' := of_decide_eq_true hp
  have hq' := of_decide_eq_true hq
  have hL' : ∀ d, some d ∈ ds → d < a0.tmps.size := fun d hd => by
    have := List.all_eq_true.1 hL (some d) hd
    simpa using this
  refine wp_region_any hm (go hds hA hG (show (ds.filterMap _root_.id).Nodup from of_decide_eq_true hN) hL' hp' hq' hst hend ops.size _ a0 w.drew ⟨by simp, rfl, rfl, ?_, ?_⟩ ⟨false, false, ?_, ?_, hS⟩ ?_)
  · intro i d v h
    rw [Array.getElem?_replicate] at h
    split at h <;> cases h
  · intro t _; rfl
  · rw [Array.getElem?_replicate, if_pos hp']
  · rw [Array.getElem?_replicate, if_pos hq']
  · have := List.countP_le_length (p := (!·)) (l := (Array.replicate ops.size false).toList)
    simpa using this
end
end Vals4
end Go.Proofs.Ytojpiliamecgkaa
