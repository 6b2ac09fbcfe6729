import Derived.Test.YthdcklonamgpiaaAwk
import Derived.Test.YthdcklonamgpiaaRck
/- The law StandWater: what it returns. -/
namespace Go.Proofs.Ythdcklonamgpiaa
open Go.RowKit
namespace Td
set_option linter.unusedSimpArgs false
set_option linter.unusedVariables false
attribute [local go_sem] Oper.semAt_some
theorem why_good {h : Hul} {lo hi : Int} (hc : (chk h).2.2 = 0) (h0 : 0 ≤ lo) (h1 : lo ≤ hi) (h2 : hi ≤ 1000) : whyA h lo hi = ((fall h lo hi).2, (fall h lo hi).1, 0) := by
  have e : lookE h lo hi = 0 := by
    unfold lookE
    rw [if_neg (by simp [hc])]
    exact tideE_ok.2 ⟨h0, h1, h2⟩
  unfold whyA
  rw [if_neg (by simp [e])]
theorem wat_bad {h : Hul} (hc : (chk h).2.2 ≠ 0) : tideA h = (0, (chk h).2.2) := by unfold tideA; rw [if_pos hc]
theorem wat_cases {h : Hul} (hc : (chk h).2.2 = 0) : (tideA h = (0, 9) ∧ ∃ y, y ≠ 0 ∧ whyA h 0 0 = (y, 0, 0)) ∨
    ∃ M : Int, tideA h = (M, 0) ∧ 0 ≤ M ∧ M ≤ 1000 ∧ (∀ lo hi, 0 ≤ lo → lo ≤ hi → hi ≤ M → whyA h lo hi = (0, 0, 0)) ∧ (M = 1000 ∨ M ≠ 1000 ∧ ∃ y, y ≠ 0 ∧ whyA h (M + 1) (M + 1) = (y, M + 1, 0)) := by
  unfold tideA
  rw [if_neg (by simp [hc])]
  rcases fall_cases h 0 1000 with ⟨e, hw⟩ | ⟨v, h1, h2, h3, h4, e⟩
  · right
    refine ⟨1000, by rw [e, if_pos rfl], by omega, by omega, fun lo hi a b c => ?_, .inl rfl⟩
    rw [why_good hc a b c, fall_none fun w p q => hw w (by omega) (by omega)]
  · rw [e, if_neg h4]
    by_cases hv : v = 0
    · left
      subst hv
      refine ⟨by rw [if_pos rfl], whyH h 0, h4, ?_⟩
      rw [why_good hc (by omega) (by omega) (by omega), fall_at (v := 0) (by omega) (by omega) (fun w p q => by omega) h4]
    · right
      refine ⟨v - 1, by rw [if_neg hv], by omega, by omega, fun lo hi a b c => ?_, .inr ⟨by omega, whyH h v, h4, ?_⟩⟩
      · rw [why_good hc a b (by omega), fall_none fun w p q => h3 w (by omega) (by omega)]
      · rw [show v - 1 + 1 = v by omega, why_good hc h1 (by omega) h2, fall_at (v := v) (by omega) (by omega) (fun w p q => by omega) h4]
set_option maxRecDepth 100000 in
set_option maxHeartbeats 8000000 in
theorem standWater_c (h : Hul) (m : Sl) (a0 a1 : Nat) (w : World) (hp : HAt w m h) (b0 : a0 ≤ 65535) (b1 : a1 ≤ 65535) :
    Calls Try.prog 11 #[.agg (hV h m), .agg #[.int .u16 a0, .int .u16 a1]] w fun e w' => e = .returned (.bool true) ∧ Below w.heap.size w w' := by
  have hs := ((Since.refl w).alloc (.cells (hV h m) 24)).alloc (.cells #[.int .u16 a0, .int .u16 a1] 60)
  have HB := Lib.hid ((Blk.new w 24 (hV h m)).alloc (.cells #[.int .u16 a0, .int .u16 a1] 60))
  have HX := Lib.hid (Blk.new1 w (.cells (hV h m) 24) 60 #[.int .u16 a0, .int .u16 a1])
  have HP := Lib.hid hp
  obtain ⟨c0, c1, c2⟩ := HB.out.hull
  go_enter Try.func11, Try.ntmps11
  go_wp2_with fail
  refine (Tide_c h m _ (HP.out.keep hs.1)).mono ?_
  rintro e w1 ⟨rfl, hb⟩
  replace hs := hs.keep hb
  replace HB := Lib.hid (HB.out.keep hb)
  replace HX := Lib.hid (HX.out.keep hb)
  clear hb c0 c1 c2
  obtain ⟨c0, c1, c2⟩ := HB.out.hull
  obtain ⟨T, hT⟩ : ∃ T, tideA h = T := ⟨_, rfl⟩
  obtain ⟨t1, t2⟩ := T
  rw [hT]
  go_wp2_with fail
  refine (valid_c h m _ (HP.out.keep hs.1)).mono ?_
  rintro e w2 ⟨rfl, hb⟩
  replace hs := hs.keep hb
  replace HB := Lib.hid (HB.out.keep hb)
  replace HX := Lib.hid (HX.out.keep hb)
  clear hb c0 c1 c2
  by_cases hc : (chk h).2.2 = 0
  · rw [decide_eq_true hc]
    have HC := Lib.hid hc
    clear hc hp
    rcases wat_cases HC.out with ⟨hA, y, hy, hW⟩ | ⟨M, hA, hM0, hM1, hall, hM⟩
    · rw [hT] at hA
      obtain ⟨rfl, rfl⟩ := Prod.mk.inj hA
      have HW := Lib.hid hW
      have hyn : (y == 0) = false := by simpa using hy
      have hyn2 : (y != 0) = true := by simpa using hy
      clear hA hT hW hy
      go_wp2_with fail
      refine Vals6.regionAll (fun X => Since w X ∧ Blk X w.heap.size 24 (hV h m) ∧ Blk X (w.heap.size + 1) 60 #[.int .u16 a0, .int .u16 a1]) [some 34, some 35, some 36, some 33, some 37, some 38, some 39, some 7, some 8] [.is ?_, .is ?_, .is ?_, .is ?_, .is ?_, .is ?_, .is ?_, .is ?_, .is ?_] (by kernel_rfl) rfl rfl (by kernel_rfl) (by kernel_rfl) (by kernel_rfl) (by kernel_rfl) (by kernel_rfl) (by kernel_rfl) rfl (⟨hs.drew, HB.out.drew, HX.out.drew⟩) ?hsteps ?hend
      case hsteps =>
        refine Vals5.Steps.run rfl (Vals5.Stable.is _) ?_ ?_
        · intro a W hS pre old K hK
          have e2 := old 2 _ (by kernel_rfl) rfl
          clear pre old
          simp only [Vals5.fits, Array.getD_eq_getD_getElem?, List.getElem?_toArray, List.getElem?_cons_zero, List.getElem?_cons_succ, Option.getD_some] at e2
          have hS9 := hS
          obtain ⟨_, q2, q3⟩ := hS9
          obtain ⟨c0, c1, c2⟩ := q2.hull
          have x0 := q3.cell 0
          have x1 := q3.cell 1
          simp only [List.getElem?_toArray, List.getElem?_cons_zero, List.getElem?_cons_succ] at x0 x1
          go_simp
          refine hK _ _ hS (Below.refl _ _) ?_
          exact fits_is _ _
        refine Vals5.Steps.run rfl (Vals5.Stable.is _) ?_ ?_
        · intro a W hS pre old K hK
          clear pre old
          have hC := span_c 0 0 W
          go_simp
          refine hC.mono ?_
          rintro e w' ⟨rfl, hb'⟩
          obtain ⟨q1, q2, q3⟩ := hS
          refine hK _ _ ⟨q1.keep hb', q2.keep hb', q3.keep hb'⟩ hb' ?_
          exact fits_is _ _
        refine Vals5.Steps.run rfl (Vals5.Stable.is _) ?_ ?_
        · intro a W hS pre old K hK
          have e34 := pre 0 34 _ (by kernel_rfl) rfl rfl
          have e35 := pre 1 35 _ (by kernel_rfl) rfl rfl
          clear pre old
          simp only [Vals5.fits, Array.getD_eq_getD_getElem?, List.getElem?_toArray, List.getElem?_cons_zero, List.getElem?_cons_succ, Option.getD_some] at e34 e35
          have hC := Why_c h m 0 0 W (HP.out.keep hS.1.1)
          rw [HW.out] at hC
          go_simp
          refine hC.mono ?_
          rintro e w' ⟨rfl, hb'⟩
          obtain ⟨q1, q2, q3⟩ := hS
          refine hK _ _ ⟨q1.keep hb', q2.keep hb', q3.keep hb'⟩ hb' ?_
          exact fits_is _ _
        refine Vals5.Steps.run rfl (Vals5.Stable.is _) ?_ ?_
        · intro a W hS pre old K hK
          have e36 := pre 2 36 _ (by kernel_rfl) rfl rfl
          clear pre old
          simp only [Vals5.fits, Array.getD_eq_getD_getElem?, List.getElem?_toArray, List.getElem?_cons_zero, List.getElem?_cons_succ, Option.getD_some] at e36
          go_simp
          refine hK _ _ hS (Below.refl _ _) ?_
          exact fits_is _ _
        refine Vals5.Steps.run rfl (Vals5.Stable.is _) ?_ ?_
        · intro a W hS pre old K hK
          have e33 := pre 3 33 _ (by kernel_rfl) rfl rfl
          clear pre old
          simp only [Vals5.fits, Array.getD_eq_getD_getElem?, List.getElem?_toArray, List.getElem?_cons_zero, List.getElem?_cons_succ, Option.getD_some] at e33
          go_simp
          refine hK _ _ hS (Below.refl _ _) ?_
          exact fits_is _ _
        refine Vals5.Steps.run rfl (Vals5.Stable.is _) ?_ ?_
        · intro a W hS pre old K hK
          have e33 := pre 3 33 _ (by kernel_rfl) rfl rfl
          clear pre old
          simp only [Vals5.fits, Array.getD_eq_getD_getElem?, List.getElem?_toArray, List.getElem?_cons_zero, List.getElem?_cons_succ, Option.getD_some] at e33
          go_simp
          refine hK _ _ hS (Below.refl _ _) ?_
          exact fits_is _ _
        refine Vals5.Steps.run rfl (Vals5.Stable.is _) ?_ ?_
        · intro a W hS pre old K hK
          have e33 := pre 3 33 _ (by kernel_rfl) rfl rfl
          clear pre old
          simp only [Vals5.fits, Array.getD_eq_getD_getElem?, List.getElem?_toArray, List.getElem?_cons_zero, List.getElem?_cons_succ, Option.getD_some] at e33
          go_simp
          refine hK _ _ hS (Below.refl _ _) ?_
          exact fits_is _ _
        refine Vals5.Steps.run rfl (Vals5.Stable.is _) ?_ ?_
        · intro a W hS pre old K hK
          have e37 := pre 4 37 _ (by kernel_rfl) rfl rfl
          clear pre old
          simp only [Vals5.fits, Array.getD_eq_getD_getElem?, List.getElem?_toArray, List.getElem?_cons_zero, List.getElem?_cons_succ, Option.getD_some] at e37
          go_simp
          refine hK _ _ hS (Below.refl _ _) ?_
          exact fits_is _ _
        refine Vals5.Steps.run rfl (Vals5.Stable.is _) ?_ ?_
        · intro a W hS pre old K hK
          have e38 := pre 5 38 _ (by kernel_rfl) rfl rfl
          clear pre old
          simp only [Vals5.fits, Array.getD_eq_getD_getElem?, List.getElem?_toArray, List.getElem?_cons_zero, List.getElem?_cons_succ, Option.getD_some] at e38
          go_simp
          refine hK _ _ hS (Below.refl _ _) ?_
          exact fits_is _ _
        exact Vals5.Steps.nil
      case hend =>
        rintro X ⟨hs3, hB3, hX3⟩
        simp only [Vals5.All, List.getLast_cons_cons, List.getLast_singleton]
        simp only [Vals.putAll, List.setIfInBounds_toArray, List.set_cons_zero, List.set_cons_succ]
        intro K hK
        go_simp
        refine hK _ _ ?_
        clear hK K
        replace hs := hs3
        replace HB := Lib.hid hB3
        replace HX := Lib.hid hX3
        clear hs3 hB3 hX3
        go_wp2_with fail
        refine (awake_c _).mono ?_
        rintro e w9 ⟨rfl, hb⟩
        replace hs := hs.keep hb
        go_wp2_with fail
        go_ret
        exact ⟨rfl, hs.1⟩
    · rw [hT] at hA
      obtain ⟨rfl, rfl⟩ := Prod.mk.inj hA
      have HALL := Lib.hid hall
      have HM := Lib.hid hM
      clear hA hT hall hM
      have m0 : ¬ t1 < 0 := by omega
      have m1 : ¬ 1000 < t1 := by omega
      obtain ⟨L, hL⟩ : ∃ L, (a0 : Int) % (t1 + 1) = L := ⟨_, rfl⟩
      have l0 : 0 ≤ L := by rw [← hL]; exact Int.emod_nonneg _ (by omega)
      have l1 : L ≤ t1 := by have := Int.emod_lt_of_pos (a0 : Int) (show 0 < t1 + 1 by omega); omega
      obtain ⟨D, hD⟩ : ∃ D, (a1 : Int) % (t1 - L + 1) = D := ⟨_, rfl⟩
      have d0 : 0 ≤ D := by rw [← hD]; exact Int.emod_nonneg _ (by omega)
      have d1 : D ≤ t1 - L := by have := Int.emod_lt_of_pos (a1 : Int) (show 0 < t1 - L + 1 by omega); omega
      have eA : IntKind.i64.wrap (a0 : Int) = a0 := IntWalk.i64_in _ (by omega)
      have eB : IntKind.i64.wrap (a1 : Int) = a1 := IntWalk.i64_in _ (by omega)
      have eM : IntKind.i64.wrap (t1 + 1) = t1 + 1 := IntWalk.i64_in _ (by omega)
      have eR : (a0 : Int).tmod (t1 + 1) = L := by rw [Int.tmod_eq_emod_of_nonneg (by omega)]; exact hL
      have eL : IntKind.i64.wrap L = L := IntWalk.i64_in _ (by omega)
      have n1 : ((t1 + 1) == 0) = false := by simp; omega
      have n2 : t1 + 1 ≠ 0 := by omega
      have eS : IntKind.i64.wrap (t1 - L) = t1 - L := IntWalk.i64_in _ (by omega)
      have eT : IntKind.i64.wrap (t1 - L + 1) = t1 - L + 1 := IntWalk.i64_in _ (by omega)
      have eQ : (a1 : Int).tmod (t1 - L + 1) = D := by rw [Int.tmod_eq_emod_of_nonneg (by omega)]; exact hD
      have eD : IntKind.i64.wrap D = D := IntWalk.i64_in _ (by omega)
      have eU : IntKind.i64.wrap (L + D) = L + D := IntWalk.i64_in _ (by omega)
      have n3 : ((t1 - L + 1) == 0) = false := by simp; omega
      have n4 : t1 - L + 1 ≠ 0 := by omega
      have HW := Lib.hid (HALL.out L (L + D) (by omega) (by omega) (by omega))
      have x0 := HX.out.cell 0
      have x1 := HX.out.cell 1
      simp only [List.getElem?_toArray, List.getElem?_cons_zero, List.getElem?_cons_succ] at x0 x1
      clear HALL hL hD
      go_wp2_with fail
      clear x0 x1
      refine Vals6.regionAll (fun X => Since w X ∧ Blk X w.heap.size 24 (hV h m) ∧ Blk X (w.heap.size + 1) 60 #[.int .u16 a0, .int .u16 a1]) [some 70, some 71, some 72, some 73, some 74, some 75, some 76, some 77, some 78, some 79, some 80, some 81, some 82, some 83, some 69, some 84, some 85, some 86, some 11, some 12] [.is ?_, .is ?_, .is ?_, .is ?_, .is ?_, .is ?_, .is ?_, .is ?_, .is ?_, .is ?_, .is ?_, .is ?_, .is ?_, .is ?_, .is ?_, .is ?_, .is ?_, .is ?_, .is ?_, .is ?_] (by kernel_rfl) rfl rfl (by kernel_rfl) (by kernel_rfl) (by kernel_rfl) (by kernel_rfl) (by kernel_rfl) (by kernel_rfl) rfl (⟨hs.drew, HB.out.drew, HX.out.drew⟩) ?hsteps ?hend
      case hsteps =>
        refine Vals5.Steps.run rfl (Vals5.Stable.is _) ?_ ?_
        · intro a W hS pre old K hK
          have e2 := old 2 _ (by kernel_rfl) rfl
          clear pre old
          simp only [Vals5.fits, Array.getD_eq_getD_getElem?, List.getElem?_toArray, List.getElem?_cons_zero, List.getElem?_cons_succ, Option.getD_some] at e2
          have hS9 := hS
          obtain ⟨_, q2, q3⟩ := hS9
          obtain ⟨c0, c1, c2⟩ := q2.hull
          have x0 := q3.cell 0
          have x1 := q3.cell 1
          simp only [List.getElem?_toArray, List.getElem?_cons_zero, List.getElem?_cons_succ] at x0 x1
          go_simp
          refine hK _ _ hS (Below.refl _ _) ?_
          exact fits_is _ _
        refine Vals5.Steps.run rfl (Vals5.Stable.is _) ?_ ?_
        · intro a W hS pre old K hK
          have e10 := old 10 _ (by kernel_rfl) rfl
          clear pre old
          simp only [Vals5.fits, Array.getD_eq_getD_getElem?, List.getElem?_toArray, List.getElem?_cons_zero, List.getElem?_cons_succ, Option.getD_some] at e10
          go_simp
          refine hK _ _ hS (Below.refl _ _) ?_
          exact fits_is _ _
        refine Vals5.Steps.run rfl (Vals5.Stable.is _) ?_ ?_
        · intro a W hS pre old K hK
          have e10 := old 10 _ (by kernel_rfl) rfl
          clear pre old
          simp only [Vals5.fits, Array.getD_eq_getD_getElem?, List.getElem?_toArray, List.getElem?_cons_zero, List.getElem?_cons_succ, Option.getD_some] at e10
          go_simp
          refine hK _ _ hS (Below.refl _ _) ?_
          exact fits_is _ _
        refine Vals5.Steps.run rfl (Vals5.Stable.is _) ?_ ?_
        · intro a W hS pre old K hK
          have e3 := old 3 _ (by kernel_rfl) rfl
          clear pre old
          simp only [Vals5.fits, Array.getD_eq_getD_getElem?, List.getElem?_toArray, List.getElem?_cons_zero, List.getElem?_cons_succ, Option.getD_some] at e3
          go_simp
          refine hK _ _ hS (Below.refl _ _) ?_
          exact fits_is _ _
        refine Vals5.Steps.run rfl (Vals5.Stable.is _) ?_ ?_
        · intro a W hS pre old K hK
          have e73 := pre 3 73 _ (by kernel_rfl) rfl rfl
          clear pre old
          simp only [Vals5.fits, Array.getD_eq_getD_getElem?, List.getElem?_toArray, List.getElem?_cons_zero, List.getElem?_cons_succ, Option.getD_some] at e73
          have hS9 := hS
          obtain ⟨_, q2, q3⟩ := hS9
          obtain ⟨c0, c1, c2⟩ := q2.hull
          have x0 := q3.cell 0
          have x1 := q3.cell 1
          simp only [List.getElem?_toArray, List.getElem?_cons_zero, List.getElem?_cons_succ] at x0 x1
          go_simp
          refine hK _ _ hS (Below.refl _ _) ?_
          exact fits_is _ _
        refine Vals5.Steps.run rfl (Vals5.Stable.is _) ?_ ?_
        · intro a W hS pre old K hK
          have e74 := pre 4 74 _ (by kernel_rfl) rfl rfl
          clear pre old
          simp only [Vals5.fits, Array.getD_eq_getD_getElem?, List.getElem?_toArray, List.getElem?_cons_zero, List.getElem?_cons_succ, Option.getD_some] at e74
          go_simp
          refine hK _ _ hS (Below.refl _ _) ?_
          exact fits_is _ _
        refine Vals5.Steps.run rfl (Vals5.Stable.is _) ?_ ?_
        · intro a W hS pre old K hK
          have e5 := old 5 _ (by kernel_rfl) rfl
          clear pre old
          simp only [Vals5.fits, Array.getD_eq_getD_getElem?, List.getElem?_toArray, List.getElem?_cons_zero, List.getElem?_cons_succ, Option.getD_some] at e5
          go_simp
          refine hK _ _ hS (Below.refl _ _) ?_
          exact fits_is _ _
        refine Vals5.Steps.run rfl (Vals5.Stable.is _) ?_ ?_
        · intro a W hS pre old K hK
          have e10 := old 10 _ (by kernel_rfl) rfl
          clear pre old
          simp only [Vals5.fits, Array.getD_eq_getD_getElem?, List.getElem?_toArray, List.getElem?_cons_zero, List.getElem?_cons_succ, Option.getD_some] at e10
          go_simp
          refine hK _ _ hS (Below.refl _ _) ?_
          exact fits_is _ _
        refine Vals5.Steps.run rfl (Vals5.Stable.is _) ?_ ?_
        · intro a W hS pre old K hK
          have e76 := pre 6 76 _ (by kernel_rfl) rfl rfl
          have e77 := pre 7 77 _ (by kernel_rfl) rfl rfl
          clear pre old
          simp only [Vals5.fits, Array.getD_eq_getD_getElem?, List.getElem?_toArray, List.getElem?_cons_zero, List.getElem?_cons_succ, Option.getD_some] at e76 e77
          go_simp
          refine hK _ _ hS (Below.refl _ _) ?_
          exact fits_is _ _
        refine Vals5.Steps.run rfl (Vals5.Stable.is _) ?_ ?_
        · intro a W hS pre old K hK
          have e78 := pre 8 78 _ (by kernel_rfl) rfl rfl
          clear pre old
          simp only [Vals5.fits, Array.getD_eq_getD_getElem?, List.getElem?_toArray, List.getElem?_cons_zero, List.getElem?_cons_succ, Option.getD_some] at e78
          go_simp
          refine hK _ _ hS (Below.refl _ _) ?_
          exact fits_is _ _
        refine Vals5.Steps.run rfl (Vals5.Stable.is _) ?_ ?_
        · intro a W hS pre old K hK
          have e75 := pre 5 75 _ (by kernel_rfl) rfl rfl
          have e79 := pre 9 79 _ (by kernel_rfl) rfl rfl
          clear pre old
          simp only [Vals5.fits, Array.getD_eq_getD_getElem?, List.getElem?_toArray, List.getElem?_cons_zero, List.getElem?_cons_succ, Option.getD_some] at e75 e79
          go_simp
          refine hK _ _ hS (Below.refl _ _) ?_
          exact fits_is _ _
        refine Vals5.Steps.run rfl (Vals5.Stable.is _) ?_ ?_
        · intro a W hS pre old K hK
          have e72 := pre 2 72 _ (by kernel_rfl) rfl rfl
          have e80 := pre 10 80 _ (by kernel_rfl) rfl rfl
          clear pre old
          simp only [Vals5.fits, Array.getD_eq_getD_getElem?, List.getElem?_toArray, List.getElem?_cons_zero, List.getElem?_cons_succ, Option.getD_some] at e72 e80
          go_simp
          refine hK _ _ hS (Below.refl _ _) ?_
          exact fits_is _ _
        refine Vals5.Steps.run rfl (Vals5.Stable.is _) ?_ ?_
        · intro a W hS pre old K hK
          have e71 := pre 1 71 _ (by kernel_rfl) rfl rfl
          have e81 := pre 11 81 _ (by kernel_rfl) rfl rfl
          clear pre old
          simp only [Vals5.fits, Array.getD_eq_getD_getElem?, List.getElem?_toArray, List.getElem?_cons_zero, List.getElem?_cons_succ, Option.getD_some] at e71 e81
          have hC := span_c L (L + D) W
          go_simp
          refine hC.mono ?_
          rintro e w' ⟨rfl, hb'⟩
          obtain ⟨q1, q2, q3⟩ := hS
          refine hK _ _ ⟨q1.keep hb', q2.keep hb', q3.keep hb'⟩ hb' ?_
          exact fits_is _ _
        refine Vals5.Steps.run rfl (Vals5.Stable.is _) ?_ ?_
        · intro a W hS pre old K hK
          have e70 := pre 0 70 _ (by kernel_rfl) rfl rfl
          have e82 := pre 12 82 _ (by kernel_rfl) rfl rfl
          clear pre old
          simp only [Vals5.fits, Array.getD_eq_getD_getElem?, List.getElem?_toArray, List.getElem?_cons_zero, List.getElem?_cons_succ, Option.getD_some] at e70 e82
          have hC := Why_c h m L (L + D) W (HP.out.keep hS.1.1)
          rw [HW.out] at hC
          go_simp
          refine hC.mono ?_
          rintro e w' ⟨rfl, hb'⟩
          obtain ⟨q1, q2, q3⟩ := hS
          refine hK _ _ ⟨q1.keep hb', q2.keep hb', q3.keep hb'⟩ hb' ?_
          exact fits_is _ _
        refine Vals5.Steps.run rfl (Vals5.Stable.is _) ?_ ?_
        · intro a W hS pre old K hK
          have e83 := pre 13 83 _ (by kernel_rfl) rfl rfl
          clear pre old
          simp only [Vals5.fits, Array.getD_eq_getD_getElem?, List.getElem?_toArray, List.getElem?_cons_zero, List.getElem?_cons_succ, Option.getD_some] at e83
          go_simp
          refine hK _ _ hS (Below.refl _ _) ?_
          exact fits_is _ _
        refine Vals5.Steps.run rfl (Vals5.Stable.is _) ?_ ?_
        · intro a W hS pre old K hK
          have e69 := pre 14 69 _ (by kernel_rfl) rfl rfl
          clear pre old
          simp only [Vals5.fits, Array.getD_eq_getD_getElem?, List.getElem?_toArray, List.getElem?_cons_zero, List.getElem?_cons_succ, Option.getD_some] at e69
          go_simp
          refine hK _ _ hS (Below.refl _ _) ?_
          exact fits_is _ _
        refine Vals5.Steps.run rfl (Vals5.Stable.is _) ?_ ?_
        · intro a W hS pre old K hK
          have e69 := pre 14 69 _ (by kernel_rfl) rfl rfl
          clear pre old
          simp only [Vals5.fits, Array.getD_eq_getD_getElem?, List.getElem?_toArray, List.getElem?_cons_zero, List.getElem?_cons_succ, Option.getD_some] at e69
          go_simp
          refine hK _ _ hS (Below.refl _ _) ?_
          exact fits_is _ _
        refine Vals5.Steps.run rfl (Vals5.Stable.is _) ?_ ?_
        · intro a W hS pre old K hK
          have e69 := pre 14 69 _ (by kernel_rfl) rfl rfl
          clear pre old
          simp only [Vals5.fits, Array.getD_eq_getD_getElem?, List.getElem?_toArray, List.getElem?_cons_zero, List.getElem?_cons_succ, Option.getD_some] at e69
          go_simp
          refine hK _ _ hS (Below.refl _ _) ?_
          exact fits_is _ _
        refine Vals5.Steps.run rfl (Vals5.Stable.is _) ?_ ?_
        · intro a W hS pre old K hK
          have e84 := pre 15 84 _ (by kernel_rfl) rfl rfl
          clear pre old
          simp only [Vals5.fits, Array.getD_eq_getD_getElem?, List.getElem?_toArray, List.getElem?_cons_zero, List.getElem?_cons_succ, Option.getD_some] at e84
          go_simp
          refine hK _ _ hS (Below.refl _ _) ?_
          exact fits_is _ _
        refine Vals5.Steps.run rfl (Vals5.Stable.is _) ?_ ?_
        · intro a W hS pre old K hK
          have e85 := pre 16 85 _ (by kernel_rfl) rfl rfl
          clear pre old
          simp only [Vals5.fits, Array.getD_eq_getD_getElem?, List.getElem?_toArray, List.getElem?_cons_zero, List.getElem?_cons_succ, Option.getD_some] at e85
          go_simp
          refine hK _ _ hS (Below.refl _ _) ?_
          exact fits_is _ _
        exact Vals5.Steps.nil
      case hend =>
        rintro X ⟨hs3, hB3, hX3⟩
        simp only [Vals5.All, List.getLast_cons_cons, List.getLast_singleton]
        simp only [Vals.putAll, List.setIfInBounds_toArray, List.set_cons_zero, List.set_cons_succ]
        intro K hK
        go_simp
        refine hK _ _ ?_
        clear hK K
        replace hs := hs3
        replace HB := Lib.hid hB3
        replace HX := Lib.hid hX3
        clear hs3 hB3 hX3
        rcases HM.out with h9 | ⟨h9, y, hy, hW⟩
        · subst h9
          go_wp2_with fail
          refine (awake_c _).mono ?_
          rintro e w9 ⟨rfl, hb⟩
          replace hs := hs.keep hb
          go_wp2_with fail
          go_ret
          exact ⟨rfl, hs.1⟩
        · have h9n : (t1 == 1000) = false := by simpa using h9
          have HV := Lib.hid hW
          have hyn : (y == 0) = false := by simpa using hy
          have hyn2 : (y != 0) = true := by simpa using hy
          clear hW hy h9 HW
          go_wp2_with fail
          refine Vals6.regionAll (fun X => Since w X ∧ Blk X w.heap.size 24 (hV h m) ∧ Blk X (w.heap.size + 1) 60 #[.int .u16 a0, .int .u16 a1]) [some 97, some 98, some 99, some 100, some 101, some 102, some 103, some 96, some 104, some 105, some 106, some 11] [.is ?_, .is ?_, .is ?_, .is ?_, .is ?_, .is ?_, .is ?_, .is ?_, .is ?_, .is ?_, .is ?_, .is ?_] (by kernel_rfl) rfl rfl (by kernel_rfl) (by kernel_rfl) (by kernel_rfl) (by kernel_rfl) (by kernel_rfl) (by kernel_rfl) rfl (⟨hs.drew, HB.out.drew, HX.out.drew⟩) ?hsteps ?hend
          case hsteps =>
            refine Vals5.Steps.run rfl (Vals5.Stable.is _) ?_ ?_
            · intro a W hS pre old K hK
              have e2 := old 2 _ (by kernel_rfl) rfl
              clear pre old
              simp only [Vals5.fits, Array.getD_eq_getD_getElem?, List.getElem?_toArray, List.getElem?_cons_zero, List.getElem?_cons_succ, Option.getD_some] at e2
              have hS9 := hS
              obtain ⟨_, q2, q3⟩ := hS9
              obtain ⟨c0, c1, c2⟩ := q2.hull
              have x0 := q3.cell 0
              have x1 := q3.cell 1
              simp only [List.getElem?_toArray, List.getElem?_cons_zero, List.getElem?_cons_succ] at x0 x1
              go_simp
              refine hK _ _ hS (Below.refl _ _) ?_
              exact fits_is _ _
            refine Vals5.Steps.run rfl (Vals5.Stable.is _) ?_ ?_
            · intro a W hS pre old K hK
              have e5 := old 5 _ (by kernel_rfl) rfl
              clear pre old
              simp only [Vals5.fits, Array.getD_eq_getD_getElem?, List.getElem?_toArray, List.getElem?_cons_zero, List.getElem?_cons_succ, Option.getD_some] at e5
              go_simp
              refine hK _ _ hS (Below.refl _ _) ?_
              exact fits_is _ _
            refine Vals5.Steps.run rfl (Vals5.Stable.is _) ?_ ?_
            · intro a W hS pre old K hK
              have e98 := pre 1 98 _ (by kernel_rfl) rfl rfl
              clear pre old
              simp only [Vals5.fits, Array.getD_eq_getD_getElem?, List.getElem?_toArray, List.getElem?_cons_zero, List.getElem?_cons_succ, Option.getD_some] at e98
              go_simp
              refine hK _ _ hS (Below.refl _ _) ?_
              exact fits_is _ _
            refine Vals5.Steps.run rfl (Vals5.Stable.is _) ?_ ?_
            · intro a W hS pre old K hK
              have e5 := old 5 _ (by kernel_rfl) rfl
              clear pre old
              simp only [Vals5.fits, Array.getD_eq_getD_getElem?, List.getElem?_toArray, List.getElem?_cons_zero, List.getElem?_cons_succ, Option.getD_some] at e5
              go_simp
              refine hK _ _ hS (Below.refl _ _) ?_
              exact fits_is _ _
            refine Vals5.Steps.run rfl (Vals5.Stable.is _) ?_ ?_
            · intro a W hS pre old K hK
              have e100 := pre 3 100 _ (by kernel_rfl) rfl rfl
              clear pre old
              simp only [Vals5.fits, Array.getD_eq_getD_getElem?, List.getElem?_toArray, List.getElem?_cons_zero, List.getElem?_cons_succ, Option.getD_some] at e100
              go_simp
              refine hK _ _ hS (Below.refl _ _) ?_
              exact fits_is _ _
            refine Vals5.Steps.run rfl (Vals5.Stable.is _) ?_ ?_
            · intro a W hS pre old K hK
              have e99 := pre 2 99 _ (by kernel_rfl) rfl rfl
              have e101 := pre 4 101 _ (by kernel_rfl) rfl rfl
              clear pre old
              simp only [Vals5.fits, Array.getD_eq_getD_getElem?, List.getElem?_toArray, List.getElem?_cons_zero, List.getElem?_cons_succ, Option.getD_some] at e99 e101
              have hC := span_c (t1 + 1) (t1 + 1) W
              go_simp
              refine hC.mono ?_
              rintro e w' ⟨rfl, hb'⟩
              obtain ⟨q1, q2, q3⟩ := hS
              refine hK _ _ ⟨q1.keep hb', q2.keep hb', q3.keep hb'⟩ hb' ?_
              exact fits_is _ _
            refine Vals5.Steps.run rfl (Vals5.Stable.is _) ?_ ?_
            · intro a W hS pre old K hK
              have e97 := pre 0 97 _ (by kernel_rfl) rfl rfl
              have e102 := pre 5 102 _ (by kernel_rfl) rfl rfl
              clear pre old
              simp only [Vals5.fits, Array.getD_eq_getD_getElem?, List.getElem?_toArray, List.getElem?_cons_zero, List.getElem?_cons_succ, Option.getD_some] at e97 e102
              have hC := Why_c h m (t1 + 1) (t1 + 1) W (HP.out.keep hS.1.1)
              rw [HV.out] at hC
              go_simp
              refine hC.mono ?_
              rintro e w' ⟨rfl, hb'⟩
              obtain ⟨q1, q2, q3⟩ := hS
              refine hK _ _ ⟨q1.keep hb', q2.keep hb', q3.keep hb'⟩ hb' ?_
              exact fits_is _ _
            refine Vals5.Steps.run rfl (Vals5.Stable.is _) ?_ ?_
            · intro a W hS pre old K hK
              have e103 := pre 6 103 _ (by kernel_rfl) rfl rfl
              clear pre old
              simp only [Vals5.fits, Array.getD_eq_getD_getElem?, List.getElem?_toArray, List.getElem?_cons_zero, List.getElem?_cons_succ, Option.getD_some] at e103
              go_simp
              refine hK _ _ hS (Below.refl _ _) ?_
              exact fits_is _ _
            refine Vals5.Steps.run rfl (Vals5.Stable.is _) ?_ ?_
            · intro a W hS pre old K hK
              have e96 := pre 7 96 _ (by kernel_rfl) rfl rfl
              clear pre old
              simp only [Vals5.fits, Array.getD_eq_getD_getElem?, List.getElem?_toArray, List.getElem?_cons_zero, List.getElem?_cons_succ, Option.getD_some] at e96
              go_simp
              refine hK _ _ hS (Below.refl _ _) ?_
              exact fits_is _ _
            refine Vals5.Steps.run rfl (Vals5.Stable.is _) ?_ ?_
            · intro a W hS pre old K hK
              have e96 := pre 7 96 _ (by kernel_rfl) rfl rfl
              clear pre old
              simp only [Vals5.fits, Array.getD_eq_getD_getElem?, List.getElem?_toArray, List.getElem?_cons_zero, List.getElem?_cons_succ, Option.getD_some] at e96
              go_simp
              refine hK _ _ hS (Below.refl _ _) ?_
              exact fits_is _ _
            refine Vals5.Steps.run rfl (Vals5.Stable.is _) ?_ ?_
            · intro a W hS pre old K hK
              have e96 := pre 7 96 _ (by kernel_rfl) rfl rfl
              clear pre old
              simp only [Vals5.fits, Array.getD_eq_getD_getElem?, List.getElem?_toArray, List.getElem?_cons_zero, List.getElem?_cons_succ, Option.getD_some] at e96
              go_simp
              refine hK _ _ hS (Below.refl _ _) ?_
              exact fits_is _ _
            refine Vals5.Steps.run rfl (Vals5.Stable.is _) ?_ ?_
            · intro a W hS pre old K hK
              have e104 := pre 8 104 _ (by kernel_rfl) rfl rfl
              clear pre old
              simp only [Vals5.fits, Array.getD_eq_getD_getElem?, List.getElem?_toArray, List.getElem?_cons_zero, List.getElem?_cons_succ, Option.getD_some] at e104
              go_simp
              refine hK _ _ hS (Below.refl _ _) ?_
              exact fits_is _ _
            exact Vals5.Steps.nil
          case hend =>
            rintro X ⟨hs3, hB3, hX3⟩
            simp only [Vals5.All, List.getLast_cons_cons, List.getLast_singleton]
            simp only [Vals.putAll, List.setIfInBounds_toArray, List.set_cons_zero, List.set_cons_succ]
            intro K hK
            go_simp
            refine hK _ _ ?_
            clear hK K
            replace hs := hs3
            replace HB := Lib.hid hB3
            replace HX := Lib.hid hX3
            clear hs3 hB3 hX3
            go_wp2_with fail
            refine (awake_c _).mono ?_
            rintro e w9 ⟨rfl, hb⟩
            replace hs := hs.keep hb
            go_wp2_with fail
            go_ret
            exact ⟨rfl, hs.1⟩
  · rw [decide_eq_false hc]
    rw [wat_bad hc] at hT
    obtain ⟨rfl, rfl⟩ := Prod.mk.inj hT
    have hcn : ((chk h).2.2 != 0) = true := by simpa using hc
    have hcm : ((chk h).2.2 == 0) = false := by simpa using hc
    clear hc hT
    go_wp2_with fail
    refine (awake_c _).mono ?_
    rintro e w9 ⟨rfl, hb⟩
    replace hs := hs.keep hb
    go_wp2_with fail
    go_ret
    exact ⟨rfl, hs.1⟩
end Td
end Go.Proofs.Ythdcklonamgpiaa
