import Derived.Test.YtccacinnelmnpaaVals5
/- As Vals5, but for the last operation, which waits for all others: it is walked at the end, at any values that fit. -/
namespace Go.Proofs.Ytccacinnelmnpaa
open Go.RowKit
namespace Vals6
open Vals (putAll putAll_size putAll_out putAll_in waits acyc guarded lastly slot_inj getD_of ready_spec all_of_none)
open Vals5 (Exp fits Stable guardVal guardKnown Fits All fits_of)
set_option linter.unusedVariables false
section
variable {P : Program} {Q : Exit → Act → World → Prop} {S : World → Prop} {ops : Array Oper} {ds : List (Option Tmp)} {xs : List Exp} {a0 : Act}
structure Mid (ops : Array Oper) (ds : List (Option Tmp)) (xs : List Exp) (a0 : Act) (listed : Array Bool) (a : Act) (w : World) : Prop where
  size : listed.size = ops.size
  defers : a.defers = a0.defers
  tsize : a.tmps.size = a0.tmps.size
  done : ∀ (i : Nat) (d : Tmp) (x : Exp), listed[i]? = some true → ds[i]? = some (some d) → xs[i]? = some x → ∃ v, a.tmps[d]? = some v ∧ fits x v w
  old : ∀ t : Tmp, (∀ i : Nat, listed[i]? = some true → ds[i]? ≠ some (some t)) → a.tmps[t]? = a0.tmps[t]?
  down : ∀ (i j : Nat) (o : Oper), listed[i]? = some true → ops[i]? = some o → waits o j = true → listed[j]? = some true
  last : listed[ops.size - 1]? = some false
theorem all_of_last {listed : Array Bool} {a : Act} {w : World} (hW : lastly ops = true) (hM : Mid ops ds xs a0 listed a w) {l : Oper} (hl : ops[ops.size - 1]? = some l) (hpre : ∀ j, waits l j = true → listed[j]? = some true) : ∀ k i, i + k = ops.size - 1 → 0 < k → listed[i]? = some true := by
  intro k
  induction k using Nat.strongRecOn with
  | _ k ih =>
    intro i hik h0
    unfold lastly at hW
    have h1 := List.all_eq_true.1 hW i (List.mem_range.2 (by omega))
    obtain ⟨j, hj, hw⟩ := List.any_eq_true.1 h1
    have hjs := List.mem_range.1 hj
    simp only [Bool.and_eq_true, decide_eq_true_eq] at hw
    obtain ⟨hij, hw⟩ := hw
    rw [Array.getElem?_eq_getElem hjs] at hw
    have hw' : waits ops[j] i = true := by simpa using hw
    by_cases hje : j = ops.size - 1
    · have e : ops[j] = l := by
        subst hje
        rw [Array.getElem?_eq_getElem hjs] at hl
        exact Option.some.inj hl
      rw [e] at hw'
      exact hpre i hw'
    · exact hM.down j i ops[j] (ih (k - (j - i)) (by omega) j (by omega) (by omega)) (Array.getElem?_eq_getElem hjs) hw'
theorem go {l : Oper} (hz : 0 < ops.size) (hl : ops.toList.getLast? = some l) (hlg : l.guard = none) (hds : ops.toList.dropLast.map (·.dst) = ds) (hA : acyc ops = true) (hG : guarded ops = true) (hW : lastly ops = true) (hN : (ds.filterMap id).Nodup) (hL : ∀ d, some d ∈ ds → d < a0.tmps.size)
    (hxl : xs.length = ds.length) (hst : Vals5.Steps P Q S ds xs a0 ops.toList.dropLast xs) (hend : ∀ w us, S w → Fits ds xs us w → ∀ K : Act → World → Prop, (∀ a w, Q .normal a w → K a w) → l.wp P { a0 with tmps := putAll ds us a0.tmps } w K Q) :
    ∀ (fuel : Nat) (listed : Array Bool) (a : Act) (w : World), Mid ops ds xs a0 listed a w → S w → listed.toList.countP (!·) ≤ fuel → wpAny P .any ops Q fuel listed a w := by
  have hdl : ds.length = ops.size - 1 := by rw [← hds]; simp
  have hinit : ∀ {i : Nat} {o : Oper}, ops[i]? = some o → i < ops.size - 1 → ops.toList.dropLast[i]? = some o := fun {i o} h hi => by
    rw [List.getElem?_dropLast, if_pos (by simpa using hi)]
    simpa using h
  have hat : ∀ {i : Nat} {o : Oper}, ops[i]? = some o → i < ops.size - 1 → ds[i]? = some o.dst := fun {i o} h hi => by
    rw [← hds, List.getElem?_map, hinit h hi]; rfl
  have hl' : ops[ops.size - 1]? = some l := by
    rw [List.getLast?_eq_getElem?] at hl
    simpa using hl
  intro fuel
  induction fuel with
  | zero =>
    intro listed a w hM hS hc
    exfalso
    have hlast := hM.last
    have hil : ops.size - 1 < listed.size := by have := hM.size; omega
    rw [Array.getElem?_eq_getElem hil] at hlast
    have := (List.countP_pos_iff (p := (!·)) (l := listed.toList)).2 ⟨listed[ops.size - 1], by simp, by simpa using hlast⟩
    omega
  | succ fuel ih =>
    intro listed a w hM hS hc
    refine ⟨fun h => ?_, fun i hi => ?_⟩
    · have := all_of_none hA hM.size h (ops.size - 1) (by omega)
      rw [hM.last] at this
      cases this
    obtain ⟨hil, hun, o, ho, hpre⟩ := ready_spec.1 hi
    have hll : i < listed.size := by have := hM.size; omega
    have hun' : listed[i] = false := by simpa [Array.getD, hll] using hun
    have hpre' : ∀ j, waits o j = true → listed[j]? = some true := fun j hw => by
      unfold waits at hw
      obtain ⟨e, he, hb⟩ := Array.any_eq_true'.1 hw
      simp only [Bool.and_eq_true, beq_iff_eq] at hb
      obtain ⟨hb, rfl⟩ := hb
      have h1 := hpre e he hb
      unfold Array.getD at h1
      split at h1
      · rename_i hx
        rw [Array.getElem?_eq_getElem hx]
        exact congrArg some h1
      · cases h1
    by_cases hlast : i = ops.size - 1
    · -- the last one: all others are done
      subst hlast
      obtain rfl : o = l := by rw [ho] at hl'; exact Option.some.inj hl'
      have hall : ∀ j, j < ops.size - 1 → listed[j]? = some true := fun j hj => all_of_last hW hM ho hpre' (ops.size - 1 - j) j (by omega) (by omega)
      obtain ⟨us, hF, hus⟩ := fits_of (ds := ds) (xs := xs) (tm := a.tmps) (w := w) hxl (fun i d x hd hx => hM.done i d x (hall i (by rw [← hdl]; exact (List.getElem?_eq_some_iff.1 hd).1)) hd hx)
      have he : a = { a0 with tmps := putAll ds us a0.tmps } := by
        obtain ⟨tm, df⟩ := a
        have h1 : df = a0.defers := hM.defers
        have h2 : tm = putAll ds us a0.tmps := by
          apply Array.ext_getElem?
          intro t
          by_cases hex : ∃ i : Nat, ds[i]? = some (some t)
          · obtain ⟨i, hi⟩ := hex
            obtain ⟨v, hv, hv2⟩ := hus i t hi
            rw [putAll_in ds us a0.tmps t i v hN (hL t (List.mem_of_getElem? hi)) hi hv]
            exact hv2
          · rw [putAll_out ds us a0.tmps t (fun i hi => hex ⟨i, hi⟩)]
            exact hM.old t (fun i _ hi => hex ⟨i, hi⟩)
        rw [h1, h2]
      refine wpOp_step ho (fun K' hK => ?_)
      rw [show Region.wanted o (yielded ops a.tmps) = true from by unfold Region.wanted; rw [hlg], if_pos rfl, he]
      refine hend w us hS hF K' fun a' w' hQ => hK _ _ ?_
      have hready : Region.ready .any ops (listed.setIfInBounds (ops.size - 1) true) = [] := by
        rw [List.eq_nil_iff_forall_not_mem]
        intro j hj
        obtain ⟨h1, h2, _⟩ := ready_spec.1 hj
        have h3 : (listed.setIfInBounds (ops.size - 1) true)[j]? = some true := by
          by_cases hij : ops.size - 1 = j
          · rw [← hij, Array.getElem?_setIfInBounds_self_of_lt hll]
          · rw [Array.getElem?_setIfInBounds_ne hij]; exact hall j (by omega)
        rw [getD_of h3] at h2
        cases h2
      cases fuel with
      | zero => exact ⟨hready, hQ⟩
      | succ fuel => exact ⟨fun _ => hQ, fun j hj => by rw [hready] at hj; cases hj⟩
    have hilt : i < ops.size - 1 := by omega
    obtain ⟨x, hx, hstab, hcase⟩ := hst.get (i := i) (o := o) (hinit ho hilt)
    have hdo := hat ho hilt
    have hwait : ∀ j d y, waits o j = true → ds[j]? = some (some d) → xs[j]? = some y → ∃ v, a.tmps[d]? = some v ∧ fits y v w := fun j d y hw hd hy => by
      unfold waits at hw
      obtain ⟨e, he, hb⟩ := Array.any_eq_true'.1 hw
      simp only [Bool.and_eq_true, beq_iff_eq] at hb
      obtain ⟨hb, rfl⟩ := hb
      have h1 := hpre e he hb
      have h2 : listed[e.on]? = some true := by
        unfold Array.getD at h1
        split at h1
        · rename_i hx
          rw [Array.getElem?_eq_getElem hx]
          exact congrArg some h1
        · cases h1
      exact hM.done e.on d y h2 hd hy
    have hwait' : ∀ j d y, waits o j = true → ds[j]? = some (some d) → xs[j]? = some y → fits y (a.tmps.getD d undef) w := fun j d y hw hd hy => by
      obtain ⟨v, hv, hf⟩ := hwait j d y hw hd hy
      rw [getD_of hv]; exact hf
    have hnext : ∀ v w', S w' → Below w.heap.size w w' → fits x v w' → wpAny P .any ops Q fuel (listed.setIfInBounds i true) (a.put o.dst v) w' := fun v w' hS' hb' hf' => by
      refine ih _ _ _ ⟨by simp [hM.size], ?_, ?_, ?_, ?_, ?_, by rw [Array.getElem?_setIfInBounds_ne hlast]; exact hM.last⟩ hS' ?_
      · cases o.dst <;> exact hM.defers
      · cases o.dst <;> simp [Act.put, hM.tsize]
      · intro j d y hj hd hy
        by_cases hij : i = j
        · subst hij
          obtain rfl : x = y := by rw [hx] at hy; simpa using hy
          obtain hod : o.dst = some d := by rw [hdo] at hd; simpa using hd
          rw [hod]
          simp only [Act.put]
          have := hL d (List.mem_of_getElem? hd)
          exact ⟨v, by rw [Array.getElem?_setIfInBounds_self_of_lt (by rw [hM.tsize]; exact this)], hf'⟩
        · have hj' : listed[j]? = some true := by rwa [Array.getElem?_setIfInBounds_ne hij] at hj
          obtain ⟨u, h0, hf0⟩ := hM.done j d y hj' hd hy
          have hjd : j < ds.length := (List.getElem?_eq_some_iff.1 hd).1
          have hjo : j < ops.size := by omega
          obtain ⟨y', hy', hst', _⟩ := hst.get (i := j) (o := ops[j]) (hinit (Array.getElem?_eq_getElem hjo) (by omega))
          obtain rfl : y = y' := by rw [hy] at hy'; simpa using hy'
          refine ⟨u, ?_, hst' u w w' hf0 hb'⟩
          cases hod : o.dst with
          | none => exact h0
          | some d' =>
            simp only [Act.put]
            have hne : d' ≠ d := fun e => by
              subst e
              rw [hod] at hdo
              exact hij (slot_inj hN hdo hd)
            rw [Array.getElem?_setIfInBounds_ne hne]
            exact h0
      · intro t ht
        have h0 := hM.old t (fun j hj => ht j (by
          by_cases hij : i = j
          · subst hij
            rw [Array.getElem?_eq_getElem hll, hun'] at hj
            cases hj
          · rw [Array.getElem?_setIfInBounds_ne hij]; exact hj))
        cases hod : o.dst with
        | none => exact h0
        | some d' =>
          simp only [Act.put]
          have hne : d' ≠ t := fun e => by
            subst e
            exact ht i (by rw [Array.getElem?_setIfInBounds_self_of_lt hll]) (by rw [hdo, hod])
          rw [Array.getElem?_setIfInBounds_ne hne]
          exact h0
      · intro j j' oj hj hoj hw
        by_cases hij : i = j
        · subst hij
          obtain rfl : o = oj := by rw [ho] at hoj; simpa using hoj
          by_cases hie : i = j'
          · rw [← hie, Array.getElem?_setIfInBounds_self_of_lt hll]
          · rw [Array.getElem?_setIfInBounds_ne hie]; exact hpre' j' hw
        · have hj' : listed[j]? = some true := by rwa [Array.getElem?_setIfInBounds_ne hij] at hj
          have h2 := hM.down j j' oj hj' hoj hw
          by_cases hie : i = j'
          · rw [← hie, Array.getElem?_setIfInBounds_self_of_lt hll]
          · rw [Array.getElem?_setIfInBounds_ne hie]; exact h2
      · rw [Array.toList_setIfInBounds, List.countP_set (h := by simpa using hll)]
        have hp : 0 < listed.toList.countP (!·) := (List.countP_pos_iff (p := (!·)) (l := listed.toList)).2 ⟨listed[i], by simp, by simp [hun']⟩
        have e1 : listed.toList[i]'(by simpa using hll) = false := by simpa using hun'
        rw [e1]
        simp only [Bool.not_false, Bool.not_true, if_true, Bool.false_eq_true, if_false]
        omega
    have hgw : (guardVal xs o = true ∨ guardKnown xs o = true) → Region.wanted o (yielded ops a.tmps) = guardVal xs o := fun hgk => by
      unfold Region.wanted
      cases hgo : o.guard with
      | none => unfold guardVal; rw [hgo]
      | some p =>
        obtain ⟨j, want⟩ := p
        unfold guarded at hG
        have h1 := Array.all_eq_true_iff_forall_mem.1 hG o (Array.mem_of_getElem? ho)
        rw [hgo] at h1
        simp only [Bool.and_eq_true] at h1
        obtain ⟨hw, hs⟩ := h1
        obtain ⟨d, hd⟩ := Option.isSome_iff_exists.1 hs
        obtain ⟨oj, hoj, hdj⟩ := Option.bind_eq_some_iff.1 hd
        have hjlt : j < ops.size - 1 := by
          have hji : j < i := by
            unfold acyc at hA
            have h2 := List.all_eq_true.1 hA i (List.mem_range.2 hil)
            rw [ho] at h2
            unfold waits at hw
            obtain ⟨e, he, hb⟩ := Array.any_eq_true'.1 hw
            simp only [Bool.and_eq_true, beq_iff_eq] at hb
            have h3 := Array.all_eq_true_iff_forall_mem.1 h2 e he
            rw [hb.1, hb.2] at h3
            simpa using h3
          omega
        have hdsj := hat hoj hjlt
        rw [hdj] at hdsj
        obtain ⟨y, hy, _⟩ := hst.get (i := j) (o := oj) (hinit hoj hjlt)
        obtain ⟨u, ht, hf⟩ := hwait j d y hw hdsj hy
        have hy2 : ∃ c, y = .is c := by
          cases y with
          | is c => exact ⟨c, rfl⟩
          | has R =>
            exfalso
            rcases hgk with h | h
            · unfold guardVal at h; rw [hgo] at h; simp [hy] at h
            · unfold guardKnown at h; rw [hgo] at h; simp [hy] at h
        obtain ⟨c, rfl⟩ := hy2
        obtain rfl : u = c := hf
        unfold guardVal
        rw [hgo]
        simp only [yielded, hd, Option.bind_some, ht, hy]
        cases u <;> simp
    refine wpOp_step ho (fun K' hK => ?_)
    have hold : ∀ t u, ds.contains (some t) = false → a0.tmps.getD t undef = u → a.tmps.getD t undef = u := fun t u h1 h2 => by
      have h3 := hM.old t (fun j _ hd => by
        have := List.mem_of_getElem? hd
        rw [← List.contains_iff_mem] at this
        rw [h1] at this
        cases this)
      rw [← h2]
      simp [Array.getD_eq_getD_getElem?, h3]
    rcases hcase with ⟨hg, hstep⟩ | ⟨hg, hgk, hun⟩
    · rw [hgw (.inl hg), hg, if_pos rfl]
      exact hstep a w hS hwait' hold K' (fun v w' h1 h2 h3 => hK _ _ (hnext v w' h1 h2 h3))
    · rw [hgw (.inr hgk), hg, if_neg (by decide)]
      subst hun
      exact hK _ _ (hnext undef w hS (Below.refl _ _) rfl)
theorem regionAll {id : Nat} {w : World} {l : Oper} (S : World → Prop) (ds : List (Option Tmp)) (xs : List Exp) (hm : P.follows .mixedOrders = true) (hl : ops.toList.getLast? = some l) (hlg : l.guard = none) (hds : ops.toList.dropLast.map (·.dst) = ds) (hA : acyc ops = true) (hG : guarded ops = true) (hW : lastly ops = true) (hN : decide (ds.filterMap fun x => x).Nodup = true) (hL : (ds.all fun o => o.all fun d => decide (d < a0.tmps.size)) = true) (hxl : xs.length = ds.length) (hS : S w.drew)
    (hst : Vals5.Steps P Q S ds xs a0 ops.toList.dropLast xs) (hend : ∀ w, S w → All ds xs w fun us => ∀ K : Act → World → Prop, (∀ a w, Q .normal a w → K a w) → l.wp P { a0 with tmps := putAll ds us a0.tmps } w K Q) : (Code.region id ops true).wp P Q a0 w := by
  have hz : 0 < ops.size := by
    rw [List.getLast?_eq_getElem?] at hl
    have := (List.getElem?_eq_some_iff.1 hl).1
    simp at this; omega
  have hL' : ∀ d, some d ∈ ds → d < a0.tmps.size := fun d hd => by
    have := List.all_eq_true.1 hL (some d) hd
    simpa using this
  refine wp_region_any hm (go hz hl hlg hds hA hG hW (show (ds.filterMap _root_.id).Nodup from of_decide_eq_true hN) hL' hxl hst (fun w us h hF => All.use (hend w h) hF) ops.size _ a0 w.drew ⟨by simp, rfl, rfl, ?_, ?_, ?_, ?_⟩ hS ?_)
  · intro i d v h
    rw [Array.getElem?_replicate] at h
    split at h <;> cases h
  · intro t _; rfl
  · intro i j o h
    rw [Array.getElem?_replicate] at h
    split at h <;> cases h
  · rw [Array.getElem?_replicate, if_pos (by omega)]
  · have := List.countP_le_length (p := (!·)) (l := (Array.replicate ops.size false).toList)
    simpa using this
end
end Vals6
end Go.Proofs.Ytccacinnelmnpaa
