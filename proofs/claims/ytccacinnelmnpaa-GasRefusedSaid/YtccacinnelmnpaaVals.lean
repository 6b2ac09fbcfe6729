/- A region that draws its order of evaluation, by the values of its operations: if each operation, whenever what it waits for is done, comes to a value that is known ahead, and keeps S, then the region ends with all these values and S, whatever the order is. One goal an operation. -/
import Derived.Orders
import Derived.RegionTactic
import Derived.WalkKit
import Derived.KernelRfl
namespace Go.Proofs.Ytccacinnelmnpaa
namespace Vals
/-- the values, put into the slots. -/
def putAll : List (Option Tmp) → List Value → Array Value → Array Value
  | some d :: ds, v :: vs, t => putAll ds vs (t.setIfInBounds d v)
  | none :: ds, _ :: vs, t => putAll ds vs t
  | [], _, t => t
  | _ :: _, [], t => t
theorem putAll_size : ∀ (ds : List (Option Tmp)) (vs : List Value) (t : Array Value), (putAll ds vs t).size = t.size
  | [], _, _ => by simp [putAll]
  | some d :: ds, v :: vs, t => by simp only [putAll]; rw [putAll_size ds vs]; simp
  | none :: ds, _ :: vs, t => by simp only [putAll]; exact putAll_size ds vs t
  | some _ :: _, [], t => by simp [putAll]
  | none :: _, [], t => by simp [putAll]
theorem putAll_out : ∀ (ds : List (Option Tmp)) (vs : List Value) (t : Array Value) (x : Tmp), (∀ i : Nat, ds[i]? ≠ some (some x)) → (putAll ds vs t)[x]? = t[x]?
  | [], _, _, _, _ => by simp [putAll]
  | some d :: ds, v :: vs, t, x, h => by
    simp only [putAll]
    rw [putAll_out ds vs _ x (fun i => by have := h (i + 1); simpa using this)]
    have hd : d ≠ x := by have := h 0; simpa using this
    rw [Array.getElem?_setIfInBounds_ne hd]
  | none :: ds, _ :: vs, t, x, h => by
    simp only [putAll]
    exact putAll_out ds vs t x (fun i => by have := h (i + 1); simpa using this)
  | some _ :: _, [], t, _, _ => by simp [putAll]
  | none :: _, [], t, _, _ => by simp [putAll]
theorem putAll_in : ∀ (ds : List (Option Tmp)) (vs : List Value) (t : Array Value) (x : Tmp) (i : Nat) (v : Value), (ds.filterMap id).Nodup → x < t.size → ds[i]? = some (some x) → vs[i]? = some v → (putAll ds vs t)[x]? = some v
  | [], _, _, _, i, _, _, _, h, _ => by simp at h
  | _ :: _, [], _, _, i, _, _, _, _, h => by simp at h
  | some d :: ds, u :: vs, t, x, 0, v, hn, hx, h, hv => by
    obtain rfl : d = x := by simpa using h
    obtain rfl : u = v := by simpa using hv
    simp only [putAll]
    have hnot : d ∉ ds.filterMap id := by simp only [List.filterMap_cons, id_eq, List.nodup_cons] at hn; exact hn.1
    rw [putAll_out ds vs _ d (fun i hi => hnot ((List.mem_filterMap (f := id)).2 ⟨some d, List.mem_of_getElem? hi, rfl⟩))]
    simp [hx]
  | some d :: ds, u :: vs, t, x, i + 1, v, hn, hx, h, hv => by
    simp only [putAll]
    refine putAll_in ds vs _ x i v (by simp only [List.filterMap_cons, id_eq, List.nodup_cons] at hn; exact hn.2) (by simpa using hx) (by simpa using h) (by simpa using hv)
  | none :: ds, u :: vs, t, x, 0, v, hn, hx, h, hv => by simp at h
  | none :: ds, u :: vs, t, x, i + 1, v, hn, hx, h, hv => by
    simp only [putAll]
    exact putAll_in ds vs t x i v (by simpa using hn) hx (by simpa using h) (by simpa using hv)
theorem slot_inj : ∀ {ds : List (Option Tmp)} {i j : Nat} {d : Tmp}, (ds.filterMap id).Nodup → ds[i]? = some (some d) → ds[j]? = some (some d) → i = j
  | [], _, _, _, _, h, _ => by simp at h
  | c :: ds, 0, 0, _, _, _, _ => rfl
  | c :: ds, 0, j + 1, d, hn, hi, hj => by
    obtain rfl : c = some d := by simpa using hi
    simp only [List.filterMap_cons, id_eq, List.nodup_cons] at hn
    exact absurd ((List.mem_filterMap (f := id)).2 ⟨some d, List.mem_of_getElem? (i := j) (by simpa using hj), rfl⟩) hn.1
  | c :: ds, i + 1, 0, d, hn, hi, hj => by
    obtain rfl : c = some d := by simpa using hj
    simp only [List.filterMap_cons, id_eq, List.nodup_cons] at hn
    exact absurd ((List.mem_filterMap (f := id)).2 ⟨some d, List.mem_of_getElem? (i := i) (by simpa using hi), rfl⟩) hn.1
  | c :: ds, i + 1, j + 1, d, hn, hi, hj => by
    have hn' : (ds.filterMap id).Nodup := by
      cases c with
      | none => simpa using hn
      | some u => simp only [List.filterMap_cons, id_eq, List.nodup_cons] at hn; exact hn.2
    have := slot_inj (i := i) (j := j) (d := d) hn' (by simpa using hi) (by simpa using hj)
    omega
/-- does the guard of an operation let it run, if the values are these? -/
def guardVal (vs : List Value) (o : Oper) : Bool :=
  match o.guard with
  | none => true
  | some (j, want) => match vs[j]? with | some (.bool b) => b == want | _ => false
/-- is j one of those that an operation waits for? -/
def waits (o : Oper) (j : Nat) : Bool := o.after.any fun e => Region.binds .any e && e.on == j
/-- whatever an operation waits for comes before it. -/
def acyc (ops : Array Oper) : Bool := (List.range ops.size).all fun i => match ops[i]? with
  | some o => o.after.all fun e => !Region.binds .any e || decide (e.on < i)
  | none => true
/-- an operation waits for its guard, which has a slot. -/
def guarded (ops : Array Oper) : Bool := ops.all fun o => match o.guard with
  | none => true
  | some (j, _) => waits o j && ((ops[j]?).bind (·.dst)).isSome
/-- each operation but the last one is waited for by a later one. -/
def lastly (ops : Array Oper) : Bool := (List.range (ops.size - 1)).all fun i => (List.range ops.size).any fun j => decide (i < j) && ((ops[j]?).map (waits · i)).getD false
section
variable {P : Program} {Q : Exit → Act → World → Prop} {S T : World → Prop} {ops : Array Oper} {ds : List (Option Tmp)} {vs : List Value} {a0 : Act}
/-- one operation comes to its value, and T holds behind it. -/
def Step (P : Program) (Q : Exit → Act → World → Prop) (S T : World → Prop) (ds : List (Option Tmp)) (vs : List Value) (a0 : Act) (o : Oper) (v : Value) : Prop :=
  ∀ (a : Act) (w : World), S w →
    (∀ j d u, waits o j = true → ds[j]? = some (some d) → vs[j]? = some u → a.tmps.getD d undef = u) →
    (∀ t u, ds.contains (some t) = false → a0.tmps.getD t undef = u → a.tmps.getD t undef = u) →
    ∀ K : Act → World → Prop, (∀ w', T w' → K (a.put o.dst v) w') → o.wp P a w K Q
/-- the operations, one after the other; T holds behind the last one. -/
inductive Steps (P : Program) (Q : Exit → Act → World → Prop) (S T : World → Prop) (ds : List (Option Tmp)) (vs : List Value) (a0 : Act) : List Oper → List Value → Prop
  | last {o : Oper} {v : Value} (hg : guardVal vs o = true) (h : Step P Q S T ds vs a0 o v) : Steps P Q S T ds vs a0 [o] [v]
  | run {o : Oper} {v : Value} {os : List Oper} {us : List Value} (hg : guardVal vs o = true) (h : Step P Q S S ds vs a0 o v) (r : Steps P Q S T ds vs a0 os us) : Steps P Q S T ds vs a0 (o :: os) (v :: us)
  | skip {o : Oper} {os : List Oper} {us : List Value} (hg : guardVal vs o = false) (r : Steps P Q S T ds vs a0 os us) : Steps P Q S T ds vs a0 (o :: os) (undef :: us)
theorem Steps.pos {os : List Oper} {us : List Value} (h : Steps P Q S T ds vs a0 os us) : 0 < os.length := by
  cases h <;> simp
/-- what is known of one of them. -/
def Known (P : Program) (Q : Exit → Act → World → Prop) (S T : World → Prop) (ds : List (Option Tmp)) (vs : List Value) (a0 : Act) (n i : Nat) (o : Oper) (v : Value) : Prop :=
  (guardVal vs o = true ∧ ((i + 1 = n ∧ Step P Q S T ds vs a0 o v) ∨ (i + 1 < n ∧ Step P Q S S ds vs a0 o v))) ∨ (guardVal vs o = false ∧ v = undef ∧ i + 1 < n)
theorem Steps.get {os : List Oper} {us : List Value} (h : Steps P Q S T ds vs a0 os us) : ∀ {i : Nat} {o : Oper}, os[i]? = some o → ∃ v, us[i]? = some v ∧ Known P Q S T ds vs a0 os.length i o v := by
  induction h with
  | @last o v hg h =>
    intro i o' hi
    match i with
    | 0 => obtain rfl : o = o' := by simpa using hi
           exact ⟨v, rfl, .inl ⟨hg, .inl ⟨rfl, h⟩⟩⟩
    | i + 1 => simp at hi
  | @run o v os us hg h r ih =>
    intro i o' hi
    match i with
    | 0 => obtain rfl : o = o' := by simpa using hi
           exact ⟨v, rfl, .inl ⟨hg, .inr ⟨by have := r.pos; simp; omega, h⟩⟩⟩
    | i + 1 =>
      obtain ⟨u, hu, hk⟩ := ih (i := i) (o := o') (by simpa using hi)
      refine ⟨u, by simpa using hu, ?_⟩
      rcases hk with ⟨h1, ⟨h2, h3⟩ | ⟨h2, h3⟩⟩ | ⟨h1, h2, h3⟩
      · exact .inl ⟨h1, .inl ⟨by simp; omega, h3⟩⟩
      · exact .inl ⟨h1, .inr ⟨by simp; omega, h3⟩⟩
      · exact .inr ⟨h1, h2, by simp; omega⟩
  | @skip o os us hg r ih =>
    intro i o' hi
    match i with
    | 0 => obtain rfl : o = o' := by simpa using hi
           exact ⟨undef, rfl, .inr ⟨hg, rfl, by have := r.pos; simp; omega⟩⟩
    | i + 1 =>
      obtain ⟨u, hu, hk⟩ := ih (i := i) (o := o') (by simpa using hi)
      refine ⟨u, by simpa using hu, ?_⟩
      rcases hk with ⟨h1, ⟨h2, h3⟩ | ⟨h2, h3⟩⟩ | ⟨h1, h2, h3⟩
      · exact .inl ⟨h1, .inl ⟨by simp; omega, h3⟩⟩
      · exact .inl ⟨h1, .inr ⟨by simp; omega, h3⟩⟩
      · exact .inr ⟨h1, h2, by simp; omega⟩
/-- in the middle of the region. -/
structure Mid (ops : Array Oper) (ds : List (Option Tmp)) (vs : List Value) (a0 : Act) (listed : Array Bool) (a : Act) : Prop where
  size : listed.size = ops.size
  defers : a.defers = a0.defers
  tsize : a.tmps.size = a0.tmps.size
  done : ∀ (i : Nat) (d : Tmp) (v : Value), listed[i]? = some true → ds[i]? = some (some d) → vs[i]? = some v → a.tmps[d]? = some v
  old : ∀ t : Tmp, (∀ i : Nat, listed[i]? = some true → ds[i]? ≠ some (some t)) → a.tmps[t]? = a0.tmps[t]?
  down : ∀ (i j : Nat) (o : Oper), listed[i]? = some true → ops[i]? = some o → waits o j = true → listed[j]? = some true
/-- S before the last operation, T behind it. -/
def At (S T : World → Prop) (ops : Array Oper) (listed : Array Bool) (w : World) : Prop := (listed[ops.size - 1]? = some true ∧ T w) ∨ (listed[ops.size - 1]? = some false ∧ S w)
theorem all_of_last {listed : Array Bool} {a : Act} (hW : lastly ops = true) (hM : Mid ops ds vs a0 listed a) (hl : listed[ops.size - 1]? = some true) : ∀ k i, i + k = ops.size - 1 → i < ops.size → listed[i]? = some true := by
  intro k
  induction k using Nat.strongRecOn with
  | _ k ih =>
    intro i hik hi
    rcases Nat.eq_zero_or_pos k with h0 | h0
    · rw [show i = ops.size - 1 by omega]; exact hl
    · unfold lastly at hW
      have h1 := List.all_eq_true.1 hW i (List.mem_range.2 (by omega))
      obtain ⟨j, hj, hw⟩ := List.any_eq_true.1 h1
      have hjs := List.mem_range.1 hj
      simp only [Bool.and_eq_true, decide_eq_true_eq] at hw
      obtain ⟨hij, hw⟩ := hw
      rw [Array.getElem?_eq_getElem hjs] at hw
      have hj' := ih (k - (j - i)) (by omega) j (by omega) hjs
      exact hM.down j i ops[j] hj' (Array.getElem?_eq_getElem hjs) (by simpa using hw)
theorem ready_spec {listed : Array Bool} {i : Nat} : i ∈ Region.ready .any ops listed ↔ i < ops.size ∧ listed.getD i true = false ∧ ∃ o, ops[i]? = some o ∧ ∀ e ∈ o.after, Region.binds .any e = true → listed.getD e.on false = true := by
  unfold Region.ready
  simp only [List.mem_filter, List.mem_range, Bool.and_eq_true, Bool.not_eq_true']
  constructor
  · rintro ⟨h1, h2, h3⟩
    refine ⟨h1, h2, ops[i], Array.getElem?_eq_getElem h1, fun e he hb => ?_⟩
    rw [Array.getElem?_eq_getElem h1] at h3
    simp only [Option.map_some, Option.getD_some, Array.all_eq_true_iff_forall_mem] at h3
    have := h3 e he
    rw [hb] at this
    simpa using this
  · rintro ⟨h1, h2, o, h3, h4⟩
    refine ⟨h1, h2, ?_⟩
    rw [h3]
    simp only [Option.map_some, Option.getD_some, Array.all_eq_true_iff_forall_mem]
    intro e he
    cases hb : Region.binds .any e
    · simp
    · simp [h4 e he hb]
theorem all_of_none {listed : Array Bool} (hA : acyc ops = true) (hsz : listed.size = ops.size) (h : Region.ready .any ops listed = []) : ∀ i, i < ops.size → listed[i]? = some true := by
  intro i
  induction i using Nat.strongRecOn with
  | _ i ih =>
    intro hi
    have hli : i < listed.size := by omega
    rw [Array.getElem?_eq_getElem hli]
    cases hv : listed[i]
    · exfalso
      have hmem : i ∈ Region.ready .any ops listed := by
        rw [ready_spec]
        refine ⟨hi, ?_, ops[i], Array.getElem?_eq_getElem hi, fun e he hb => ?_⟩
        · simp [Array.getD, hli, hv]
        · unfold acyc at hA
          have h1 := List.all_eq_true.1 hA i (List.mem_range.2 hi)
          rw [Array.getElem?_eq_getElem hi] at h1
          have h2 := Array.all_eq_true_iff_forall_mem.1 h1 e he
          rw [hb] at h2
          have hlt : e.on < i := by simpa using h2
          have h3 := ih e.on hlt (by omega)
          have hle : e.on < listed.size := by omega
          rw [Array.getElem?_eq_getElem hle] at h3
          simp [Array.getD, hle]
          simpa using h3
      rw [h] at hmem
      cases hmem
    · rfl
theorem getD_of {α : Type} {a : Array α} {i : Nat} {d u : α} (h : a[i]? = some u) : a.getD i d = u := by simp [Array.getD_eq_getD_getElem?, h]
theorem go (hds : ops.toList.map (·.dst) = ds) (hA : acyc ops = true) (hG : guarded ops = true) (hN : (ds.filterMap id).Nodup) (hL : ∀ d, some d ∈ ds → d < a0.tmps.size)
    (hW : lastly ops = true) (hst : Steps P Q S T ds vs a0 ops.toList vs) (hend : ∀ w, T w → Q .normal { a0 with tmps := putAll ds vs a0.tmps } w) :
    ∀ (fuel : Nat) (listed : Array Bool) (a : Act) (w : World), Mid ops ds vs a0 listed a → At S T ops listed w → listed.toList.countP (!·) ≤ fuel → wpAny P .any ops Q fuel listed a w := by
  have hat : ∀ {i : Nat} {o : Oper}, ops[i]? = some o → ds[i]? = some o.dst := fun {i o} h => by
    rw [← hds, List.getElem?_map]
    rw [show ops.toList[i]? = ops[i]? from by simp, h]; rfl
  have hfin : ∀ (listed : Array Bool) (a : Act) (w : World), Mid ops ds vs a0 listed a → At S T ops listed w → (∀ i, i < ops.size → listed[i]? = some true) → Q .normal a w := by
    intro listed a w hM hS hall
    have hdl : ds.length = ops.size := by rw [← hds]; simp
    have hev : ∀ i, i < ops.size → ∃ v, vs[i]? = some v := fun i hi => by
      obtain ⟨v, hv, _⟩ := hst.get (i := i) (o := ops[i]) (by simp [hi])
      exact ⟨v, hv⟩
    have he : a = { a0 with tmps := putAll ds vs a0.tmps } := by
      obtain ⟨tm, df⟩ := a
      have h1 : df = a0.defers := hM.defers
      have h2 : tm = putAll ds vs a0.tmps := by
        apply Array.ext_getElem?
        intro t
        by_cases hex : ∃ i : Nat, ds[i]? = some (some t)
        · obtain ⟨i, hi⟩ := hex
          have hil : i < ops.size := by rw [← hdl]; exact (List.getElem?_eq_some_iff.1 hi).1
          obtain ⟨v, hv⟩ := hev i hil
          rw [putAll_in ds vs a0.tmps t i v hN (hL t (List.mem_of_getElem? hi)) hi hv]
          exact hM.done i t v (hall i hil) hi hv
        · rw [putAll_out ds vs a0.tmps t (fun i hi => hex ⟨i, hi⟩)]
          exact hM.old t (fun i _ hi => hex ⟨i, hi⟩)
      rw [h1, h2]
    rw [he]
    have hpos : 0 < ops.size := by have := hst.pos; simpa using this
    rcases hS with ⟨_, h⟩ | ⟨h, _⟩
    · exact hend w h
    · rw [hall (ops.size - 1) (by omega)] at h
      cases h
  intro fuel
  induction fuel with
  | zero =>
    intro listed a w hM hS hc
    have hall : ∀ i, i < ops.size → listed[i]? = some true := fun i hi => by
      have hil : i < listed.size := by have := hM.size; omega
      rw [Array.getElem?_eq_getElem hil]
      cases hv : listed[i]
      · exfalso
        have := (List.countP_pos_iff (p := (!·)) (l := listed.toList)).2 ⟨listed[i], by simp, by simp [hv]⟩
        omega
      · rfl
    refine ⟨?_, hfin listed a w hM hS hall⟩
    rw [List.eq_nil_iff_forall_not_mem]
    intro i hi
    obtain ⟨h1, h2, _⟩ := ready_spec.1 hi
    rw [getD_of (hall i h1)] at h2
    cases h2
  | succ fuel ih =>
    intro listed a w hM hS hc
    refine ⟨fun h => hfin listed a w hM hS (all_of_none hA hM.size h), fun i hi => ?_⟩
    obtain ⟨hil, hun, o, ho, hpre⟩ := ready_spec.1 hi
    have hll : i < listed.size := by have := hM.size; omega
    have hun' : listed[i] = false := by simpa [Array.getD, hll] using hun
    obtain ⟨v, hv, hcase⟩ := hst.get (i := i) (o := o) (by simpa using ho)
    have hdo := hat ho
    rw [show ops.toList.length = ops.size from by simp] at hcase
    -- the last operation is not done yet
    have hS0 : S w := by
      rcases hS with ⟨h, _⟩ | ⟨_, h⟩
      · have := all_of_last hW hM h (ops.size - 1 - i) i (by omega) hil
        rw [Array.getElem?_eq_getElem hll, hun'] at this
        cases this
      · exact h
    have hl0 : listed[ops.size - 1]? = some false := by
      rcases hS with ⟨h, _⟩ | ⟨h, _⟩
      · have := all_of_last hW hM h (ops.size - 1 - i) i (by omega) hil
        rw [Array.getElem?_eq_getElem hll, hun'] at this
        cases this
      · exact h
    have hwait : ∀ j d u, waits o j = true → ds[j]? = some (some d) → vs[j]? = some u → a.tmps[d]? = some u := fun j d u hw hd hu => by
      unfold waits at hw
      obtain ⟨e, he, hb⟩ := Array.any_eq_true'.1 hw
      simp only [Bool.and_eq_true, beq_iff_eq] at hb
      obtain ⟨hb, rfl⟩ := hb
      have h1 := hpre e he hb
      have h2 : listed[e.on]? = some true := by
        unfold Array.getD at h1
        split at h1
        · rename_i hx
          rw [Array.getElem?_eq_getElem hx]
          exact congrArg some h1
        · cases h1
      exact hM.done e.on d u h2 hd hu
    -- the state behind the operation
    have hnext : ∀ w', At S T ops (listed.setIfInBounds i true) w' → wpAny P .any ops Q fuel (listed.setIfInBounds i true) (a.put o.dst v) w' := fun w' hS' => by
      refine ih _ _ _ ⟨by simp [hM.size], ?_, ?_, ?_, ?_, ?_⟩ hS' ?_
      · cases o.dst <;> exact hM.defers
      · cases o.dst <;> simp [Act.put, hM.tsize]
      · intro j d u hj hd hu
        by_cases hij : i = j
        · subst hij
          obtain rfl : v = u := by rw [hv] at hu; simpa using hu
          obtain hod : o.dst = some d := by rw [hdo] at hd; simpa using hd
          rw [hod]
          simp only [Act.put]
          have := hL d (List.mem_of_getElem? hd)
          rw [Array.getElem?_setIfInBounds_self_of_lt (by rw [hM.tsize]; exact this)]
        · have hj' : listed[j]? = some true := by rwa [Array.getElem?_setIfInBounds_ne hij] at hj
          have h0 := hM.done j d u hj' hd hu
          cases hod : o.dst with
          | none => exact h0
          | some d' =>
            simp only [Act.put]
            have hne : d' ≠ d := fun e => by
              subst e
              rw [hod] at hdo
              -- two operations with one slot
              have hinj : i = j := by
                have hi2 : i < ds.length := (List.getElem?_eq_some_iff.1 hdo).1
                have hj2 : j < ds.length := (List.getElem?_eq_some_iff.1 hd).1
                exact slot_inj hN hdo hd
              exact hij hinj
            rw [Array.getElem?_setIfInBounds_ne hne]
            exact h0
      · intro t ht
        have h0 := hM.old t (fun j hj => ht j (by
          by_cases hij : i = j
          · subst hij
            rw [Array.getElem?_eq_getElem hll, hun'] at hj
            cases hj
          · rw [Array.getElem?_setIfInBounds_ne hij]; exact hj))
        cases hod : o.dst with
        | none => exact h0
        | some d' =>
          simp only [Act.put]
          have hne : d' ≠ t := fun e => by
            subst e
            exact ht i (by rw [Array.getElem?_setIfInBounds_self_of_lt hll]) (by rw [hdo, hod])
          rw [Array.getElem?_setIfInBounds_ne hne]
          exact h0
      · intro j j' oj hj hoj hw
        by_cases hij : i = j
        · subst hij
          obtain rfl : o = oj := by rw [ho] at hoj; simpa using hoj
          unfold waits at hw
          obtain ⟨e, he, hb⟩ := Array.any_eq_true'.1 hw
          simp only [Bool.and_eq_true, beq_iff_eq] at hb
          obtain ⟨hb, rfl⟩ := hb
          have h1 := hpre e he hb
          have h2 : listed[e.on]? = some true := by
            unfold Array.getD at h1
            split at h1
            · rename_i hx
              rw [Array.getElem?_eq_getElem hx]
              exact congrArg some h1
            · cases h1
          by_cases hie : i = e.on
          · rw [← hie, Array.getElem?_setIfInBounds_self_of_lt hll]
          · rw [Array.getElem?_setIfInBounds_ne hie]; exact h2
        · have hj' : listed[j]? = some true := by rwa [Array.getElem?_setIfInBounds_ne hij] at hj
          have h2 := hM.down j j' oj hj' hoj hw
          by_cases hie : i = j'
          · rw [← hie, Array.getElem?_setIfInBounds_self_of_lt hll]
          · rw [Array.getElem?_setIfInBounds_ne hie]; exact h2
      · rw [Array.toList_setIfInBounds, List.countP_set (h := by simpa using hll)]
        have hp : 0 < listed.toList.countP (!·) := (List.countP_pos_iff (p := (!·)) (l := listed.toList)).2 ⟨listed[i], by simp, by simp [hun']⟩
        have e1 : listed.toList[i]'(by simpa using hll) = false := by simpa using hun'
        rw [e1]
        simp only [Bool.not_false, Bool.not_true, if_true, Bool.false_eq_true, if_false]
        omega
    have hgw : Region.wanted o (yielded ops a.tmps) = guardVal vs o := by
      unfold Region.wanted guardVal
      cases hgo : o.guard with
      | none => rfl
      | some p =>
        obtain ⟨j, want⟩ := p
        unfold guarded at hG
        have h1 := Array.all_eq_true_iff_forall_mem.1 hG o (Array.mem_of_getElem? ho)
        rw [hgo] at h1
        simp only [Bool.and_eq_true] at h1
        obtain ⟨hw, hs⟩ := h1
        obtain ⟨d, hd⟩ := Option.isSome_iff_exists.1 hs
        obtain ⟨oj, hoj, hdj⟩ := Option.bind_eq_some_iff.1 hd
        have hdsj := hat hoj
        rw [hdj] at hdsj
        obtain ⟨u, hu, _⟩ := hst.get (i := j) (o := oj) (by simpa using hoj)
        have ht := hwait j d u hw hdsj hu
        simp only [yielded, hd, Option.bind_some, ht, hu]
        cases u <;> simp
    refine wpOp_step ho (fun K' hK => ?_)
    rw [hgw]
    have hold : ∀ t u, ds.contains (some t) = false → a0.tmps.getD t undef = u → a.tmps.getD t undef = u := fun t u h1 h2 => by
      have h3 := hM.old t (fun j _ hd => by
        have := List.mem_of_getElem? hd
        rw [← List.contains_iff_mem] at this
        rw [h1] at this
        cases this)
      rw [← h2]
      simp [Array.getD_eq_getD_getElem?, h3]
    rcases hcase with ⟨hg, ⟨hi1, hstep⟩ | ⟨hi1, hstep⟩⟩ | ⟨hg, hun, hi1⟩
    · rw [hg, if_pos rfl]
      exact hstep a w hS0 (fun j d u h1 h2 h3 => getD_of (hwait j d u h1 h2 h3)) hold K' (fun w' hS' => hK _ _ (hnext w' (.inl ⟨by rw [show ops.size - 1 = i by omega, Array.getElem?_setIfInBounds_self_of_lt hll], hS'⟩)))
    · rw [hg, if_pos rfl]
      exact hstep a w hS0 (fun j d u h1 h2 h3 => getD_of (hwait j d u h1 h2 h3)) hold K' (fun w' hS' => hK _ _ (hnext w' (.inr ⟨by rw [Array.getElem?_setIfInBounds_ne (by omega)]; exact hl0, hS'⟩)))
    · rw [hg, if_neg (by decide)]
      subst hun
      exact hK _ _ (hnext w (.inr ⟨by rw [Array.getElem?_setIfInBounds_ne (by omega)]; exact hl0, hS0⟩))
theorem region {id : Nat} {w : World} (S T : World → Prop) (ds : List (Option Tmp)) (vs : List Value) (hm : P.follows .mixedOrders = true) (hds : ops.toList.map (·.dst) = ds) (hA : acyc ops = true) (hG : guarded ops = true) (hW : lastly ops = true) (hN : decide (ds.filterMap fun x => x).Nodup = true) (hL : (ds.all fun o => o.all fun d => decide (d < a0.tmps.size)) = true) (hS : S w.drew)
    (hst : Steps P Q S T ds vs a0 ops.toList vs) (hend : ∀ w, T w → Q .normal { a0 with tmps := putAll ds vs a0.tmps } w) : (Code.region id ops true).wp P Q a0 w := by
  have hpos : 0 < ops.size := by have := hst.pos; simpa using this
  have hL' : ∀ d, some d ∈ ds → d < a0.tmps.size := fun d hd => by
    have := List.all_eq_true.1 hL (some d) hd
    simpa using this
  refine wp_region_any hm (go hds hA hG (show (ds.filterMap _root_.id).Nodup from of_decide_eq_true hN) hL' hW hst hend ops.size _ a0 w.drew ⟨by simp, rfl, rfl, ?_, ?_, ?_⟩ (.inr ⟨?_, hS⟩) ?_)
  · intro i d v h
    rw [Array.getElem?_replicate] at h
    split at h <;> cases h
  · intro t _; rfl
  · intro i j o h
    rw [Array.getElem?_replicate] at h
    split at h <;> cases h
  · rw [Array.getElem?_replicate, if_pos (by omega)]
  · have := List.countP_le_length (p := (!·)) (l := (Array.replicate ops.size false).toList)
    simpa using this
end
end Vals
end Go.Proofs.Ytccacinnelmnpaa
