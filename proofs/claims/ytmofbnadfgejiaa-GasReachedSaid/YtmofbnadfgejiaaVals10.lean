import Derived.Test.YtmofbnadfgejiaaCore
/- As Vals9, but a slot that a later operation writes may be read ahead of it. A region that draws its order, by an invariant: most operations come to values that are known ahead; some come to any value (an address that depends on the order), or turn memory: the invariant speaks of which of these are done, with which values. -/
namespace Go.Proofs.Ytmofbnadfgejiaa
namespace Vals10
open Vals (putAll putAll_size putAll_out putAll_in waits acyc guarded slot_inj getD_of ready_spec all_of_none)
/-- what is known of a value ahead: which it is; or nothing. -/
inductive Exp
  | is (v : Value)
  | any
abbrev Sig := Nat → Option Value
def upd (σ : Sig) (i : Nat) (v : Value) : Sig := fun j => if j = i then some v else σ j
theorem upd_same (σ : Sig) (i : Nat) (v : Value) : upd σ i v i = some v := by simp [upd]
theorem upd_other (σ : Sig) {i j : Nat} (v : Value) (h : j ≠ i) : upd σ i v j = σ j := by simp [upd, h]
def guardVal (xs : List Exp) (o : Oper) : Bool :=
  match o.guard with
  | none => true
  | some (j, want) => match xs[j]? with | some (.is (.bool b)) => b == want | _ => false
def guardKnown (xs : List Exp) (o : Oper) : Bool :=
  match o.guard with
  | none => true
  | some (j, _) => match xs[j]? with | some (.is _) => true | _ => false
set_option linter.unusedVariables false
section
variable {P : Program} {Q : Exit → Act → World → Prop} {J : Sig → World → Prop} {ops : Array Oper} {ds : List (Option Tmp)} {xs : List Exp} {a0 : Act}
/-- whoever writes slot t waits for operation i. -/
def late (ops : Array Oper) (ds : List (Option Tmp)) (i : Nat) (t : Tmp) : Bool := (List.range ops.size).all fun j => decide (ds[j]? ≠ some (some t)) || (match ops[j]? with | some o => waits o i | none => true)
/-- what holds of what an operation waits for. -/
def Pre (ops : Array Oper) (ds : List (Option Tmp)) (xs : List Exp) (a0 : Act) (i : Nat) (o : Oper) (σ : Sig) (a : Act) : Prop :=
  (∀ j d u, waits o j = true → ds[j]? = some (some d) → xs[j]? = some (.is u) → a.tmps.getD d undef = u) ∧
  (∀ j, waits o j = true → xs[j]? = some .any → ∃ v, σ j = some v ∧ ∀ d, ds[j]? = some (some d) → a.tmps.getD d undef = v) ∧
  (∀ t u, late ops ds i t = true → a0.tmps.getD t undef = u → a.tmps.getD t undef = u)
def Step (P : Program) (Q : Exit → Act → World → Prop) (J : Sig → World → Prop) (ops : Array Oper) (ds : List (Option Tmp)) (xs : List Exp) (a0 : Act) (i : Nat) (o : Oper) (u : Value) : Prop :=
  ∀ (a : Act) (w : World) (σ : Sig), J σ w → Pre ops ds xs a0 i o σ a → ∀ K : Act → World → Prop, (∀ w', J σ w' → K (a.put o.dst u) w') → o.wp P a w K Q
def Mark (P : Program) (Q : Exit → Act → World → Prop) (J : Sig → World → Prop) (ops : Array Oper) (ds : List (Option Tmp)) (xs : List Exp) (a0 : Act) (i : Nat) (o : Oper) : Prop :=
  ∀ (a : Act) (w : World) (σ : Sig), J σ w → σ i = none → Pre ops ds xs a0 i o σ a → ∀ K : Act → World → Prop, (∀ v w', J (upd σ i v) w' → K (a.put o.dst v) w') → o.wp P a w K Q
inductive Steps (P : Program) (Q : Exit → Act → World → Prop) (J : Sig → World → Prop) (ops : Array Oper) (ds : List (Option Tmp)) (xs : List Exp) (a0 : Act) : Nat → List Oper → List Exp → Prop
  | nil {k : Nat} : Steps P Q J ops ds xs a0 k [] []
  | run {k : Nat} {o : Oper} {u : Value} {os : List Oper} {ys : List Exp} (hg : guardVal xs o = true) (h : Step P Q J ops ds xs a0 k o u) (r : Steps P Q J ops ds xs a0 (k + 1) os ys) : Steps P Q J ops ds xs a0 k (o :: os) (.is u :: ys)
  | mark {k : Nat} {o : Oper} {os : List Oper} {ys : List Exp} (hg : guardVal xs o = true) (h : Mark P Q J ops ds xs a0 k o) (r : Steps P Q J ops ds xs a0 (k + 1) os ys) : Steps P Q J ops ds xs a0 k (o :: os) (.any :: ys)
  | skip {k : Nat} {o : Oper} {os : List Oper} {ys : List Exp} (hg : guardVal xs o = false) (hk : guardKnown xs o = true) (r : Steps P Q J ops ds xs a0 (k + 1) os ys) : Steps P Q J ops ds xs a0 k (o :: os) (.is undef :: ys)
def Known (P : Program) (Q : Exit → Act → World → Prop) (J : Sig → World → Prop) (ops : Array Oper) (ds : List (Option Tmp)) (xs : List Exp) (a0 : Act) (i : Nat) (o : Oper) (x : Exp) : Prop :=
  (guardVal xs o = true ∧ ((∃ u, x = .is u ∧ Step P Q J ops ds xs a0 i o u) ∨ (x = .any ∧ Mark P Q J ops ds xs a0 i o))) ∨ (guardVal xs o = false ∧ guardKnown xs o = true ∧ x = .is undef)
theorem Steps.get {k : Nat} {os : List Oper} {ys : List Exp} (h : Steps P Q J ops ds xs a0 k os ys) : ∀ {i : Nat} {o : Oper}, os[i]? = some o → ∃ x, ys[i]? = some x ∧ Known P Q J ops ds xs a0 (k + i) o x := by
  induction h with
  | nil => intro i o h; simp at h
  | @run k o u os ys hg h r ih =>
    intro i o' hi
    match i with
    | 0 => obtain rfl : o = o' := by simpa using hi
           exact ⟨.is u, rfl, .inl ⟨hg, .inl ⟨u, rfl, h⟩⟩⟩
    | i + 1 =>
      obtain ⟨u, hu, hk⟩ := ih (i := i) (o := o') (by simpa using hi)
      exact ⟨u, by simpa using hu, by rw [show k + (i + 1) = k + 1 + i by omega]; exact hk⟩
  | @mark k o os ys hg h r ih =>
    intro i o' hi
    match i with
    | 0 => obtain rfl : o = o' := by simpa using hi
           exact ⟨.any, rfl, .inl ⟨hg, .inr ⟨rfl, h⟩⟩⟩
    | i + 1 =>
      obtain ⟨u, hu, hk⟩ := ih (i := i) (o := o') (by simpa using hi)
      exact ⟨u, by simpa using hu, by rw [show k + (i + 1) = k + 1 + i by omega]; exact hk⟩
  | @skip k o os ys hg hk r ih =>
    intro i o' hi
    match i with
    | 0 => obtain rfl : o = o' := by simpa using hi
           exact ⟨.is undef, rfl, .inr ⟨hg, hk, rfl⟩⟩
    | i + 1 =>
      obtain ⟨u, hu, hk⟩ := ih (i := i) (o := o') (by simpa using hi)
      exact ⟨u, by simpa using hu, by rw [show k + (i + 1) = k + 1 + i by omega]; exact hk⟩
theorem Steps.len {k : Nat} {os : List Oper} {ys : List Exp} (h : Steps P Q J ops ds xs a0 k os ys) : ys.length = os.length := by
  induction h <;> simp_all
structure Mid (ops : Array Oper) (ds : List (Option Tmp)) (xs : List Exp) (a0 : Act) (listed : Array Bool) (σ : Sig) (a : Act) : Prop where
  size : listed.size = ops.size
  defers : a.defers = a0.defers
  tsize : a.tmps.size = a0.tmps.size
  done : ∀ (i : Nat) (d : Tmp) (u : Value), listed[i]? = some true → ds[i]? = some (some d) → xs[i]? = some (.is u) → a.tmps[d]? = some u
  some_ : ∀ (i : Nat), listed[i]? = some true → xs[i]? = some .any → ∃ v, σ i = some v ∧ ∀ d, ds[i]? = some (some d) → a.tmps[d]? = some v
  none_ : ∀ (i : Nat), listed[i]? = some false → σ i = none
  dn : ∀ (i : Nat) (o : Oper), listed[i]? = some true → ops[i]? = some o → ∀ j, waits o j = true → listed[j]? = some true
  old : ∀ t : Tmp, (∀ i : Nat, listed[i]? = some true → ds[i]? ≠ some (some t)) → a.tmps[t]? = a0.tmps[t]?
/-- C of any values that the invariant allows. -/
def All (σ : Sig) : Nat → List Exp → (List Value → Prop) → Prop
  | k, .is u :: xs, C => All σ (k + 1) xs fun us => C (u :: us)
  | k, .any :: xs, C => ∀ v, σ k = some v → All σ (k + 1) xs fun us => C (v :: us)
  | _, [], C => C []
theorem All.use {σ : Sig} : ∀ {k : Nat} {xs : List Exp} {C : List Value → Prop}, All σ k xs C → (∀ i : Nat, xs[i]? = some Exp.any → ∃ v, σ (k + i) = some v) →
    ∃ us : List Value, C us ∧ us.length = xs.length ∧ (∀ (i : Nat) (u : Value), xs[i]? = some (Exp.is u) → us[i]? = some u) ∧ ∀ (i : Nat) (v : Value), xs[i]? = some Exp.any → σ (k + i) = some v → us[i]? = some v
  | k, [], C, h, _ => ⟨[], h, rfl, by simp, by simp⟩
  | k, .is u :: xs, C, h, hs => by
    obtain ⟨us, h1, h2, h3, h4⟩ := All.use (k := k + 1) (xs := xs) (C := fun us => C (u :: us)) h (fun i hi => by
      have := hs (i + 1) (by simpa using hi)
      rwa [show k + (i + 1) = k + 1 + i by omega] at this)
    refine ⟨u :: us, h1, by simp [h2], fun i x hi => ?_, fun i v hi hv => ?_⟩
    · match i with
      | 0 => simpa using hi
      | i + 1 => simpa using h3 i x (by simpa using hi)
    · match i with
      | 0 => simp at hi
      | i + 1 => simpa using h4 i v (by simpa using hi) (by rwa [show k + 1 + i = k + (i + 1) by omega])
  | k, .any :: xs, C, h, hs => by
    obtain ⟨v0, hv0⟩ := hs 0 rfl
    obtain ⟨us, h1, h2, h3, h4⟩ := All.use (k := k + 1) (xs := xs) (C := fun us => C (v0 :: us)) (h v0 (by simpa using hv0)) (fun i hi => by
      have := hs (i + 1) (by simpa using hi)
      rwa [show k + (i + 1) = k + 1 + i by omega] at this)
    refine ⟨v0 :: us, h1, by simp [h2], fun i x hi => ?_, fun i v hi hv => ?_⟩
    · match i with
      | 0 => simp at hi
      | i + 1 => simpa using h3 i x (by simpa using hi)
    · match i with
      | 0 =>
        have : σ k = some v := by simpa using hv
        rw [show k + 0 = k from rfl] at hv0
        rw [this] at hv0
        simpa using hv0.symm
      | i + 1 => simpa using h4 i v (by simpa using hi) (by rwa [show k + 1 + i = k + (i + 1) by omega])
theorem go (hds : ops.toList.map (·.dst) = ds) (hA : acyc ops = true) (hG : guarded ops = true) (hN : (ds.filterMap id).Nodup) (hL : ∀ d, some d ∈ ds → d < a0.tmps.size)
    (hst : Steps P Q J ops ds xs a0 0 ops.toList xs) (hend : ∀ w σ, J σ w → All σ 0 xs fun us => Q .normal { a0 with tmps := putAll ds us a0.tmps } w) :
    ∀ (fuel : Nat) (listed : Array Bool) (σ : Sig) (a : Act) (w : World), Mid ops ds xs a0 listed σ a → J σ w → listed.toList.countP (!·) ≤ fuel → wpAny P .any ops Q fuel listed a w := by
  have hxl : xs.length = ops.size := by rw [hst.len]; simp
  have hdl : ds.length = ops.size := by rw [← hds]; simp
  have hat : ∀ {i : Nat} {o : Oper}, ops[i]? = some o → ds[i]? = some o.dst := fun {i o} h => by
    rw [← hds, List.getElem?_map]
    rw [show ops.toList[i]? = ops[i]? from by simp, h]; rfl
  have hfin : ∀ (listed : Array Bool) (σ : Sig) (a : Act) (w : World), Mid ops ds xs a0 listed σ a → J σ w → (∀ i, i < ops.size → listed[i]? = some true) → Q .normal a w := by
    intro listed σ a w hM hJ hall
    have hlt : ∀ {i : Nat} {x : Exp}, xs[i]? = some x → i < ops.size := fun {i x} h => by rw [← hxl]; exact (List.getElem?_eq_some_iff.1 h).1
    obtain ⟨us, hC, hul, h3, h4⟩ := All.use (hend w σ hJ) (fun i hi => by
      obtain ⟨v, hv, _⟩ := hM.some_ i (hall i (hlt hi)) hi
      exact ⟨v, by rw [Nat.zero_add]; exact hv⟩)
    have he : a = { a0 with tmps := putAll ds us a0.tmps } := by
      obtain ⟨tm, df⟩ := a
      have h1 : df = a0.defers := hM.defers
      have h2 : tm = putAll ds us a0.tmps := by
        apply Array.ext_getElem?
        intro t
        by_cases hex : ∃ i : Nat, ds[i]? = some (some t)
        · obtain ⟨i, hi⟩ := hex
          have hil : i < ops.size := by rw [← hdl]; exact (List.getElem?_eq_some_iff.1 hi).1
          have hix : xs[i]? = some xs[i] := List.getElem?_eq_getElem (by omega)
          cases hx : xs[i] with
          | is u =>
            rw [hx] at hix
            rw [putAll_in ds us a0.tmps t i u hN (hL t (List.mem_of_getElem? hi)) hi (h3 i u hix)]
            exact hM.done i t u (hall i hil) hi hix
          | any =>
            rw [hx] at hix
            obtain ⟨v, hv, hd⟩ := hM.some_ i (hall i hil) hix
            rw [putAll_in ds us a0.tmps t i v hN (hL t (List.mem_of_getElem? hi)) hi (h4 i v hix (by rw [Nat.zero_add]; exact hv))]
            exact hd t hi
        · rw [putAll_out ds us a0.tmps t (fun i hi => hex ⟨i, hi⟩)]
          exact hM.old t (fun i _ hi => hex ⟨i, hi⟩)
      rw [h1, h2]
    rw [he]
    exact hC
  intro fuel
  induction fuel with
  | zero =>
    intro listed σ a w hM hJ hc
    have hall : ∀ i, i < ops.size → listed[i]? = some true := fun i hi => by
      have hil : i < listed.size := by have := hM.size; omega
      rw [Array.getElem?_eq_getElem hil]
      cases hv : listed[i]
      · exfalso
        have := (List.countP_pos_iff (p := (!·)) (l := listed.toList)).2 ⟨listed[i], by simp, by simp [hv]⟩
        omega
      · rfl
    refine ⟨?_, hfin listed σ a w hM hJ hall⟩
    rw [List.eq_nil_iff_forall_not_mem]
    intro i hi
    obtain ⟨h1, h2, _⟩ := ready_spec.1 hi
    rw [getD_of (hall i h1)] at h2
    cases h2
  | succ fuel ih =>
    intro listed σ a w hM hJ hc
    refine ⟨fun h => hfin listed σ a w hM hJ (all_of_none hA hM.size h), fun i hi => ?_⟩
    obtain ⟨hil, hun, o, ho, hpre⟩ := ready_spec.1 hi
    have hll : i < listed.size := by have := hM.size; omega
    have hun' : listed[i] = false := by simpa [Array.getD, hll] using hun
    have hunl : listed[i]? = some false := by rw [Array.getElem?_eq_getElem hll, hun']
    obtain ⟨x, hx, hcase⟩ := hst.get (i := i) (o := o) (by simpa using ho)
    rw [Nat.zero_add] at hcase
    have hdo := hat ho
    have hwl : ∀ j, waits o j = true → listed[j]? = some true := fun j hw => by
      unfold waits at hw
      obtain ⟨e, he, hb⟩ := Array.any_eq_true'.1 hw
      simp only [Bool.and_eq_true, beq_iff_eq] at hb
      obtain ⟨hb, rfl⟩ := hb
      have h1 := hpre e he hb
      unfold Array.getD at h1
      split at h1
      · rename_i hx
        rw [Array.getElem?_eq_getElem hx]
        exact congrArg some h1
      · cases h1
    have hPre : Pre ops ds xs a0 i o σ a := by
      refine ⟨fun j d u hw hd hu => getD_of (hM.done j d u (hwl j hw) hd hu), fun j hw hj => ?_, fun t u h1 h2 => ?_⟩
      · obtain ⟨v, hv, h⟩ := hM.some_ j (hwl j hw) hj
        exact ⟨v, hv, fun d hd => getD_of (h d hd)⟩
      · have h3 := hM.old t (fun j hj hd => by
          have hjs : j < ops.size := by rw [← hdl]; exact (List.getElem?_eq_some_iff.1 hd).1
          have h4 := List.all_eq_true.1 h1 j (List.mem_range.2 hjs)
          rw [Array.getElem?_eq_getElem hjs] at h4
          simp only [hd, ne_eq, not_true_eq_false, decide_false, Bool.false_or] at h4
          have h5 := hM.dn j _ hj (Array.getElem?_eq_getElem hjs) i h4
          rw [hunl] at h5
          cases h5)
        rw [← h2]
        simp [Array.getD_eq_getD_getElem?, h3]
    -- the state behind the operation
    have hput : ∀ (v : Value) (d : Tmp) (j : Nat) (u : Value), j ≠ i → ds[j]? = some (some d) → a.tmps[d]? = some u → (a.put o.dst v).tmps[d]? = some u := fun v d j u hji hd hu => by
      cases hod : o.dst with
      | none => exact hu
      | some d' =>
        simp only [Act.put]
        have hne : d' ≠ d := fun e => by
          subst e
          rw [hod] at hdo
          exact hji (slot_inj hN hd hdo)
        rw [Array.getElem?_setIfInBounds_ne hne]
        exact hu
    have hself : ∀ (v : Value) (d : Tmp), ds[i]? = some (some d) → (a.put o.dst v).tmps[d]? = some v := fun v d hd => by
      obtain hod : o.dst = some d := by rw [hdo] at hd; simpa using hd
      rw [hod]
      simp only [Act.put]
      have := hL d (List.mem_of_getElem? hd)
      rw [Array.getElem?_setIfInBounds_self_of_lt (by rw [hM.tsize]; exact this)]
    have hnext : ∀ (v : Value) (σ' : Sig) (w' : World), (∀ u, x = .is u → v = u ∧ σ' = σ) → (x = .any → σ' = upd σ i v) → J σ' w' → wpAny P .any ops Q fuel (listed.setIfInBounds i true) (a.put o.dst v) w' := fun v σ' w' hI hY hJ' => by
      have hσ : ∀ j, j ≠ i → σ' j = σ j := fun j hj => by
        cases hxe : x with
        | is u => rw [(hI u hxe).2]
        | any => rw [hY hxe, upd_other _ _ hj]
      have hback : ∀ {j : Nat} {b : Bool}, j ≠ i → (listed.setIfInBounds i true)[j]? = some b → listed[j]? = some b := fun {j b} hj h => by
        rwa [Array.getElem?_setIfInBounds_ne (Ne.symm hj)] at h
      refine ih _ σ' _ _ ⟨by simp [hM.size], ?_, ?_, ?_, ?_, ?_, fun j oj hj hoj q hq => ?_, ?_⟩ hJ' ?_
      · cases o.dst <;> exact hM.defers
      · cases o.dst <;> simp [Act.put, hM.tsize]
      · intro j d u hj hd hu
        by_cases hij : j = i
        · subst hij
          have hxu : x = .is u := by rw [hx] at hu; simpa using hu
          rw [(hI u hxu).1]
          exact hself u d hd
        · exact hput v d j u hij hd (hM.done j d u (hback hij hj) hd hu)
      · intro j hj hjx
        by_cases hij : j = i
        · subst hij
          have hxu : x = .any := by rw [hx] at hjx; simpa using hjx
          exact ⟨v, by rw [hY hxu, upd_same], fun d hd => hself v d hd⟩
        · obtain ⟨u, hu, hd⟩ := hM.some_ j (hback hij hj) hjx
          exact ⟨u, by rw [hσ j hij]; exact hu, fun d hdj => hput v d j u hij hdj (hd d hdj)⟩
      · intro j hj
        by_cases hij : j = i
        · subst hij
          rw [Array.getElem?_setIfInBounds_self_of_lt hll] at hj
          cases hj
        · rw [hσ j hij]; exact hM.none_ j (hback hij hj)
      · have hqi : listed[q]? = some true := by
          by_cases hij : j = i
          · subst hij
            rw [ho] at hoj
            obtain rfl := Option.some.inj hoj
            exact hwl q hq
          · exact hM.dn j oj (hback hij hj) hoj q hq
        by_cases hqe : q = i
        · subst hqe; rw [hunl] at hqi; cases hqi
        · rw [Array.getElem?_setIfInBounds_ne (Ne.symm hqe)]; exact hqi
      · intro t ht
        have h0 := hM.old t (fun j hj => ht j (by
          by_cases hij : j = i
          · subst hij; rw [hunl] at hj; cases hj
          · rw [Array.getElem?_setIfInBounds_ne (Ne.symm hij)]; exact hj))
        cases hod : o.dst with
        | none => exact h0
        | some d' =>
          simp only [Act.put]
          have hne : d' ≠ t := fun e => by
            subst e
            exact ht i (by rw [Array.getElem?_setIfInBounds_self_of_lt hll]) (by rw [hdo, hod])
          rw [Array.getElem?_setIfInBounds_ne hne]
          exact h0
      · rw [Array.toList_setIfInBounds, List.countP_set (h := by simpa using hll)]
        have hp : 0 < listed.toList.countP (!·) := (List.countP_pos_iff (p := (!·)) (l := listed.toList)).2 ⟨listed[i], by simp, by simp [hun']⟩
        have e1 : listed.toList[i]'(by simpa using hll) = false := by simpa using hun'
        rw [e1]
        simp only [Bool.not_false, Bool.not_true, if_true, Bool.false_eq_true, if_false]
        omega
    have hgw : (guardVal xs o = true ∨ guardKnown xs o = true) → Region.wanted o (yielded ops a.tmps) = guardVal xs o := fun hgk => by
      unfold Region.wanted
      cases hgo : o.guard with
      | none => unfold guardVal; rw [hgo]
      | some p =>
        obtain ⟨j, want⟩ := p
        unfold guarded at hG
        have h1 := Array.all_eq_true_iff_forall_mem.1 hG o (Array.mem_of_getElem? ho)
        rw [hgo] at h1
        simp only [Bool.and_eq_true] at h1
        obtain ⟨hw, hs⟩ := h1
        obtain ⟨d, hd⟩ := Option.isSome_iff_exists.1 hs
        obtain ⟨oj, hoj, hdj⟩ := Option.bind_eq_some_iff.1 hd
        have hdsj := hat hoj
        rw [hdj] at hdsj
        obtain ⟨y, hy, _⟩ := hst.get (i := j) (o := oj) (by simpa using hoj)
        have hy2 : ∃ c, y = .is c := by
          cases y with
          | is c => exact ⟨c, rfl⟩
          | any =>
            exfalso
            rcases hgk with h | h
            · unfold guardVal at h; rw [hgo] at h; simp [hy] at h
            · unfold guardKnown at h; rw [hgo] at h; simp [hy] at h
        obtain ⟨c, rfl⟩ := hy2
        have ht := hM.done j d c (hwl j hw) hdsj hy
        unfold guardVal
        rw [hgo]
        simp only [yielded, hd, Option.bind_some, ht, hy]
        cases c <;> simp
    refine wpOp_step ho (fun K' hK => ?_)
    rcases hcase with ⟨hg, ⟨u, rfl, hstep⟩ | ⟨rfl, hmark⟩⟩ | ⟨hg, hgk, rfl⟩
    · rw [hgw (.inl hg), hg, if_pos rfl]
      exact hstep a w σ hJ hPre K' (fun w' h1 => hK _ _ (hnext u σ w' (fun u' h => ⟨by cases h; rfl, rfl⟩) (fun h => by cases h) h1))
    · rw [hgw (.inl hg), hg, if_pos rfl]
      exact hmark a w σ hJ (hM.none_ i hunl) hPre K' (fun v w' h1 => hK _ _ (hnext v (upd σ i v) w' (fun u h => by cases h) (fun _ => rfl) h1))
    · rw [hgw (.inr hgk), hg, if_neg (by decide)]
      exact hK _ _ (hnext undef σ w (fun u' h => ⟨by cases h; rfl, rfl⟩) (fun h => by cases h) hJ)
theorem region {id : Nat} {w : World} (J : Sig → World → Prop) (ds : List (Option Tmp)) (xs : List Exp) (hm : P.follows .mixedOrders = true) (hds : ops.toList.map (·.dst) = ds) (hA : acyc ops = true) (hG : guarded ops = true) (hN : decide (ds.filterMap fun x => x).Nodup = true) (hL : (ds.all fun o => o.all fun d => decide (d < a0.tmps.size)) = true) (hJ : J (fun _ => none) w.drew)
    (hst : Steps P Q J ops ds xs a0 0 ops.toList xs) (hend : ∀ w σ, J σ w → All σ 0 xs fun us => Q .normal { a0 with tmps := putAll ds us a0.tmps } w) : (Code.region id ops true).wp P Q a0 w := by
  have hL' : ∀ d, some d ∈ ds → d < a0.tmps.size := fun d hd => by
    have := List.all_eq_true.1 hL (some d) hd
    simpa using this
  refine wp_region_any hm (go hds hA hG (show (ds.filterMap _root_.id).Nodup from of_decide_eq_true hN) hL' hst hend ops.size _ (fun _ => none) a0 w.drew ⟨by simp, rfl, rfl, ?_, ?_, ?_, ?_, ?_⟩ hJ ?_)
  · intro i d v h
    rw [Array.getElem?_replicate] at h
    split at h <;> cases h
  · intro i h
    rw [Array.getElem?_replicate] at h
    split at h <;> cases h
  · intro i h; rfl
  · intro i o h
    rw [Array.getElem?_replicate] at h
    split at h <;> cases h
  · intro t _; rfl
  · have := List.countP_le_length (p := (!·)) (l := (Array.replicate ops.size false).toList)
    simpa using this
end
end Vals10
end Go.Proofs.Ytmofbnadfgejiaa
