import Derived.Test.YthdcklonamgpiaaLawT
import Derived.Test.YthdcklonamgpiaaExa
import Derived.Test.YthdcklonamgpiaaMathE
/- The law package's narrower span, by turns. -/
namespace Go.Proofs.Ythdcklonamgpiaa
open Go.RowKit
namespace Td
set_option linter.unusedSimpArgs false
set_option linter.unusedVariables false
attribute [local go_sem] Oper.semAt_some
def nrL (lo hi : Int) (U : List Int) (n : Nat) : Int := amongV lo hi (turnV U n)
def nrH (lo hi : Int) (U : List Int) (n : Nat) : Int := nrL lo hi U n + turnV U (n + 1) % (hi - nrL lo hi U n + 1)
theorem nr_in {lo hi : Int} (U : List Int) (n : Nat) (h : lo ≤ hi) : lo ≤ nrL lo hi U n ∧ nrL lo hi U n ≤ nrH lo hi U n ∧ nrH lo hi U n ≤ hi := by
  have h1 := amongV_in (n := turnV U n) h
  have h2 := Int.emod_nonneg (turnV U (n + 1)) (show hi - nrL lo hi U n + 1 ≠ 0 by unfold nrL; omega)
  have h3 := Int.emod_lt_of_pos (turnV U (n + 1)) (show 0 < hi - nrL lo hi U n + 1 by unfold nrL; omega)
  unfold nrH
  unfold nrL at *
  omega
set_option maxRecDepth 100000 in
set_option maxHeartbeats 8000000 in
theorem narrow_c (lo hi : Int) (P : Option Addr) (U : List Int) (pc n : Nat) (w : World) (h : lo ≤ hi) (h0 : -10000000 ≤ lo) (h1 : hi ≤ 10000000) (hn : n ≤ 1000) (hu : U32At w P U) (ho : U32Ok U) :
    Calls Try.prog 42 #[.agg #[.int .i64 lo, .int .i64 hi], .slice P U.length pc, .int .i64 n] w fun e w' => e = .returned (.agg #[.int .i64 (nrL lo hi U n), .int .i64 (nrH lo hi U n)]) ∧ Below w.heap.size w w' := by
  have hs := ((Since.refl w).alloc (.cells #[.int .i64 lo, .int .i64 hi] 48)).alloc (.cells #[.int .i64 0, .int .i64 0] 48)
  have HX := Lib.hid ((Blk.new w 48 #[.int .i64 lo, .int .i64 hi]).alloc (.cells #[.int .i64 0, .int .i64 0] 48))
  have HR := Lib.hid (Blk.new1 w (.cells #[.int .i64 lo, .int .i64 hi] 48) 48 #[.int .i64 0, .int .i64 0])
  have hin := nr_in U n h
  have hb1 := turnV_bd ho n
  have hb2 := turnV_bd ho (n + 1)
  have hH : nrH lo hi U n = nrL lo hi U n + turnV U (n + 1) % (hi - nrL lo hi U n + 1) := rfl
  have hL : nrL lo hi U n = amongV lo hi (turnV U n) := rfl
  obtain ⟨va, ha⟩ : ∃ va, nrL lo hi U n = va := ⟨_, rfl⟩
  obtain ⟨b, hb⟩ : ∃ va, nrH lo hi U n = va := ⟨_, rfl⟩
  rw [ha] at hin hL hH
  rw [hb] at hin hH
  rw [ha, hb]
  have HT1 : Hid (∀ W, Since w W → Calls Try.prog 43 #[.slice P U.length pc, .int .i64 n] W fun e w' => e = .returned (.int .i64 (turnV U n)) ∧ W = w') := fun W hS => turn_c P U pc n W (by omega) (hu.keep hS.1) ho
  have HT2 : Hid (∀ W, Since w W → Calls Try.prog 43 #[.slice P U.length pc, .int .i64 ((n : Int) + 1)] W fun e w' => e = .returned (.int .i64 (turnV U (n + 1))) ∧ W = w') := fun W hS => by
    have := turn_c P U pc (n + 1) W (by omega) (hu.keep hS.1) ho
    push_cast at this
    exact this
  obtain ⟨tv, htv⟩ : ∃ va, turnV U n = va := ⟨_, rfl⟩
  obtain ⟨tu, htu⟩ : ∃ va, turnV U (n + 1) = va := ⟨_, rfl⟩
  rw [htv] at hL hb1 HT1
  rw [htu] at hH hb2 HT2
  have HAM : Hid (∀ W, Calls Try.prog 38 #[.agg #[.int .i64 lo, .int .i64 hi], .int .i64 tv] W fun e w' => e = .returned (.int .i64 va) ∧ Below W.heap.size W w') := fun W => by
    have := among_c lo hi tv W h h0 h1 hb1.1 hb1.2
    rw [← hL] at this
    exact this
  obtain ⟨rm, hrm⟩ : ∃ r, tu % (hi - va + 1) = r := ⟨_, rfl⟩
  rw [hrm] at hH
  have hr0 : 0 ≤ rm := by rw [← hrm]; exact Int.emod_nonneg _ (by omega)
  have eN : IntKind.i64.wrap ((n : Int) + 1) = (n : Int) + 1 := IntWalk.i64_in _ (by omega)
  have e1 : IntKind.i64.wrap (hi - va) = hi - va := IntWalk.i64_in _ (by omega)
  have e2 : IntKind.i64.wrap (hi - va + 1) = hi - va + 1 := IntWalk.i64_in _ (by omega)
  have e3 : tu.tmod (hi - va + 1) = rm := by rw [Int.tmod_eq_emod_of_nonneg hb2.1]; exact hrm
  have e4 : IntKind.i64.wrap rm = rm := IntWalk.i64_in _ (by omega)
  have e5 : IntKind.i64.wrap (va + rm) = va + rm := IntWalk.i64_in _ (by omega)
  have n3 : ((hi - va + 1) == 0) = false := by rw [beq_eq_false_iff_ne]; omega
  have n4 : hi - va + 1 ≠ 0 := by omega
  have EN := Lib.hid eN
  have E1 := Lib.hid e1
  have E2 := Lib.hid e2
  have E3 := Lib.hid e3
  have E4 := Lib.hid e4
  have E5 := Lib.hid e5
  have N3 := Lib.hid n3
  have N4 := Lib.hid n4
  obtain rfl : b = va + rm := hH
  clear eN e1 e2 e3 e4 e5 n3 n4 hL hb1 hb2 ha hb htv htu hrm hr0 hin h h0 h1 hn
  go_enter Try.func42, Try.ntmps42
  go_wp2_with fail
  refine Vals6.regionAll (fun X => Since w X ∧ Blk X w.heap.size 48 #[.int .i64 lo, .int .i64 hi] ∧ Blk X (w.heap.size + 1) 48 #[.int .i64 0, .int .i64 0]) [some 8, some 9, some 10, some 11, some 12] [.is ?_, .is ?_, .is ?_, .is ?_, .is ?_] (by kernel_rfl) rfl rfl (by kernel_rfl) (by kernel_rfl) (by kernel_rfl) (by kernel_rfl) (by kernel_rfl) (by kernel_rfl) rfl (⟨hs.drew, HX.out.drew, HR.out.drew⟩) ?hsteps ?hend
  case hsteps =>
    refine Vals5.Steps.run rfl (Vals5.Stable.is _) ?_ ?_
    · intro a W hS pre old K hK
      have e3 := old 3 _ (by kernel_rfl) rfl
      clear pre old
      simp only [Vals5.fits, Array.getD_eq_getD_getElem?, List.getElem?_toArray, List.getElem?_cons_zero, List.getElem?_cons_succ, Option.getD_some] at e3
      have hS9 := hS
      obtain ⟨q1, q2, q3⟩ := hS9
      obtain ⟨t0, t1⟩ := q2.span
      go_simp
      refine hK _ _ hS (Below.refl _ _) ?_
      exact fits_is _ _
    refine Vals5.Steps.run rfl (Vals5.Stable.is _) ?_ ?_
    · intro a W hS pre old K hK
      have e1 := old 1 _ (by kernel_rfl) rfl
      clear pre old
      simp only [Vals5.fits, Array.getD_eq_getD_getElem?, List.getElem?_toArray, List.getElem?_cons_zero, List.getElem?_cons_succ, Option.getD_some] at e1
      go_simp
      refine hK _ _ hS (Below.refl _ _) ?_
      exact fits_is _ _
    refine Vals5.Steps.run rfl (Vals5.Stable.is _) ?_ ?_
    · intro a W hS pre old K hK
      have e2 := old 2 _ (by kernel_rfl) rfl
      clear pre old
      simp only [Vals5.fits, Array.getD_eq_getD_getElem?, List.getElem?_toArray, List.getElem?_cons_zero, List.getElem?_cons_succ, Option.getD_some] at e2
      go_simp
      refine hK _ _ hS (Below.refl _ _) ?_
      exact fits_is _ _
    refine Vals5.Steps.run rfl (Vals5.Stable.is _) ?_ ?_
    · intro a W hS pre old K hK
      have e9 := pre 1 9 _ (by kernel_rfl) rfl rfl
      have e10 := pre 2 10 _ (by kernel_rfl) rfl rfl
      clear pre old
      simp only [Vals5.fits, Array.getD_eq_getD_getElem?, List.getElem?_toArray, List.getElem?_cons_zero, List.getElem?_cons_succ, Option.getD_some] at e9 e10
      have hC := HT1.out W hS.1
      go_simp
      refine hC.mono ?_
      rintro e w' ⟨rfl, rfl⟩
      refine hK _ _ hS (Below.refl _ _) ?_
      exact fits_is _ _
    refine Vals5.Steps.run rfl (Vals5.Stable.is _) ?_ ?_
    · intro a W hS pre old K hK
      have e8 := pre 0 8 _ (by kernel_rfl) rfl rfl
      have e11 := pre 3 11 _ (by kernel_rfl) rfl rfl
      clear pre old
      simp only [Vals5.fits, Array.getD_eq_getD_getElem?, List.getElem?_toArray, List.getElem?_cons_zero, List.getElem?_cons_succ, Option.getD_some] at e8 e11
      have hC := HAM.out W
      go_simp
      refine hC.mono ?_
      rintro e w' ⟨rfl, hb'⟩
      refine hK _ _ ⟨hS.1.keep hb', hS.2.1.keep hb', hS.2.2.keep hb'⟩ hb' ?_
      exact fits_is _ _
    exact Vals5.Steps.nil
  case hend =>
    rintro X ⟨hs2, HX2, HR2⟩
    simp only [Vals5.All, List.getLast_cons_cons, List.getLast_singleton]
    simp only [Vals.putAll, List.setIfInBounds_toArray, List.set_cons_zero, List.set_cons_succ]
    intro K hK
    go_simp
    refine hK _ _ ?_
    clear hK K
    replace hs := hs2
    replace HX := Lib.hid HX2
    replace HR := Lib.hid HR2
    clear hs2 HX2 HR2 HT1 HAM
    go_wp2_with fail
    refine Vals6.regionAll (fun X => Since w X ∧ Blk X w.heap.size 48 #[.int .i64 lo, .int .i64 hi] ∧ Blk X (w.heap.size + 1) 48 #[.int .i64 0, .int .i64 0]) [some 13, some 14, some 15, some 16, some 17, some 18, some 19, some 20, some 21, some 22, some 23, some 24, some 25, some 26] [.is ?_, .is ?_, .is ?_, .is ?_, .is (.int .i64 ((n : Int) + 1)), .is ?_, .is ?_, .is ?_, .is ?_, .is (.int .i64 (hi - va)), .is (.int .i64 (hi - va + 1)), .is (.int .i64 rm), .is (.int .i64 (va + rm)), .is ?_] (by kernel_rfl) rfl rfl (by kernel_rfl) (by kernel_rfl) (by kernel_rfl) (by kernel_rfl) (by kernel_rfl) (by kernel_rfl) rfl (⟨hs.drew, HX.out.drew, HR.out.drew⟩) ?hsteps ?hend
    case hsteps =>
      refine Vals5.Steps.run rfl (Vals5.Stable.is _) ?_ ?_
      · intro a W hS pre old K hK
        have e7 := old 7 _ (by kernel_rfl) rfl
        clear pre old
        simp only [Vals5.fits, Array.getD_eq_getD_getElem?, List.getElem?_toArray, List.getElem?_cons_zero, List.getElem?_cons_succ, Option.getD_some] at e7
        go_simp
        refine hK _ _ hS (Below.refl _ _) ?_
        exact fits_is _ _
      refine Vals5.Steps.run rfl (Vals5.Stable.is _) ?_ ?_
      · intro a W hS pre old K hK
        have e7 := old 7 _ (by kernel_rfl) rfl
        clear pre old
        simp only [Vals5.fits, Array.getD_eq_getD_getElem?, List.getElem?_toArray, List.getElem?_cons_zero, List.getElem?_cons_succ, Option.getD_some] at e7
        go_simp
        refine hK _ _ hS (Below.refl _ _) ?_
        exact fits_is _ _
      refine Vals5.Steps.run rfl (Vals5.Stable.is _) ?_ ?_
      · intro a W hS pre old K hK
        have e1 := old 1 _ (by kernel_rfl) rfl
        clear pre old
        simp only [Vals5.fits, Array.getD_eq_getD_getElem?, List.getElem?_toArray, List.getElem?_cons_zero, List.getElem?_cons_succ, Option.getD_some] at e1
        go_simp
        refine hK _ _ hS (Below.refl _ _) ?_
        exact fits_is _ _
      refine Vals5.Steps.run rfl (Vals5.Stable.is _) ?_ ?_
      · intro a W hS pre old K hK
        have e2 := old 2 _ (by kernel_rfl) rfl
        clear pre old
        simp only [Vals5.fits, Array.getD_eq_getD_getElem?, List.getElem?_toArray, List.getElem?_cons_zero, List.getElem?_cons_succ, Option.getD_some] at e2
        go_simp
        refine hK _ _ hS (Below.refl _ _) ?_
        exact fits_is _ _
      refine Vals5.Steps.run rfl (Vals5.Stable.is _) ?_ ?_
      · intro a W hS pre old K hK
        have e16 := pre 3 16 _ (by kernel_rfl) rfl rfl
        clear pre old
        simp only [Vals5.fits, Array.getD_eq_getD_getElem?, List.getElem?_toArray, List.getElem?_cons_zero, List.getElem?_cons_succ, Option.getD_some] at e16
        have e9 := EN.out
        go_simp
        refine hK _ _ hS (Below.refl _ _) ?_
        exact fits_is _ _
      refine Vals5.Steps.run rfl (Vals5.Stable.is _) ?_ ?_
      · intro a W hS pre old K hK
        have e15 := pre 2 15 _ (by kernel_rfl) rfl rfl
        have e17 := pre 4 17 _ (by kernel_rfl) rfl rfl
        clear pre old
        simp only [Vals5.fits, Array.getD_eq_getD_getElem?, List.getElem?_toArray, List.getElem?_cons_zero, List.getElem?_cons_succ, Option.getD_some] at e15 e17
        have hC := HT2.out W hS.1
        go_simp
        refine hC.mono ?_
        rintro e w' ⟨rfl, rfl⟩
        refine hK _ _ hS (Below.refl _ _) ?_
        exact fits_is _ _
      refine Vals5.Steps.run rfl (Vals5.Stable.is _) ?_ ?_
      · intro a W hS pre old K hK
        have e3 := old 3 _ (by kernel_rfl) rfl
        clear pre old
        simp only [Vals5.fits, Array.getD_eq_getD_getElem?, List.getElem?_toArray, List.getElem?_cons_zero, List.getElem?_cons_succ, Option.getD_some] at e3
        go_simp
        refine hK _ _ hS (Below.refl _ _) ?_
        exact fits_is _ _
      refine Vals5.Steps.run rfl (Vals5.Stable.is _) ?_ ?_
      · intro a W hS pre old K hK
        have e19 := pre 6 19 _ (by kernel_rfl) rfl rfl
        clear pre old
        simp only [Vals5.fits, Array.getD_eq_getD_getElem?, List.getElem?_toArray, List.getElem?_cons_zero, List.getElem?_cons_succ, Option.getD_some] at e19
        have hS9 := hS
        obtain ⟨q1, q2, q3⟩ := hS9
        obtain ⟨t0, t1⟩ := q2.span
        go_simp
        refine hK _ _ hS (Below.refl _ _) ?_
        exact fits_is _ _
      refine Vals5.Steps.run rfl (Vals5.Stable.is _) ?_ ?_
      · intro a W hS pre old K hK
        have e7 := old 7 _ (by kernel_rfl) rfl
        clear pre old
        simp only [Vals5.fits, Array.getD_eq_getD_getElem?, List.getElem?_toArray, List.getElem?_cons_zero, List.getElem?_cons_succ, Option.getD_some] at e7
        go_simp
        refine hK _ _ hS (Below.refl _ _) ?_
        exact fits_is _ _
      refine Vals5.Steps.run rfl (Vals5.Stable.is _) ?_ ?_
      · intro a W hS pre old K hK
        have e20 := pre 7 20 _ (by kernel_rfl) rfl rfl
        have e21 := pre 8 21 _ (by kernel_rfl) rfl rfl
        clear pre old
        simp only [Vals5.fits, Array.getD_eq_getD_getElem?, List.getElem?_toArray, List.getElem?_cons_zero, List.getElem?_cons_succ, Option.getD_some] at e20 e21
        have e9 := E1.out
        go_simp
        refine hK _ _ hS (Below.refl _ _) ?_
        exact fits_is _ _
      refine Vals5.Steps.run rfl (Vals5.Stable.is _) ?_ ?_
      · intro a W hS pre old K hK
        have e22 := pre 9 22 _ (by kernel_rfl) rfl rfl
        clear pre old
        simp only [Vals5.fits, Array.getD_eq_getD_getElem?, List.getElem?_toArray, List.getElem?_cons_zero, List.getElem?_cons_succ, Option.getD_some] at e22
        have e9 := E2.out
        go_simp
        refine hK _ _ hS (Below.refl _ _) ?_
        exact fits_is _ _
      refine Vals5.Steps.run rfl (Vals5.Stable.is _) ?_ ?_
      · intro a W hS pre old K hK
        have e18 := pre 5 18 _ (by kernel_rfl) rfl rfl
        have e23 := pre 10 23 _ (by kernel_rfl) rfl rfl
        clear pre old
        simp only [Vals5.fits, Array.getD_eq_getD_getElem?, List.getElem?_toArray, List.getElem?_cons_zero, List.getElem?_cons_succ, Option.getD_some] at e18 e23
        have e9 := E3.out
        have e8 := E4.out
        have e7 := N3.out
        have e6 := N4.out
        go_simp
        refine hK _ _ hS (Below.refl _ _) ?_
        exact fits_is _ _
      refine Vals5.Steps.run rfl (Vals5.Stable.is _) ?_ ?_
      · intro a W hS pre old K hK
        have e14 := pre 1 14 _ (by kernel_rfl) rfl rfl
        have e24 := pre 11 24 _ (by kernel_rfl) rfl rfl
        clear pre old
        simp only [Vals5.fits, Array.getD_eq_getD_getElem?, List.getElem?_toArray, List.getElem?_cons_zero, List.getElem?_cons_succ, Option.getD_some] at e14 e24
        have e9 := E5.out
        go_simp
        refine hK _ _ hS (Below.refl _ _) ?_
        exact fits_is _ _
      refine Vals5.Steps.run rfl (Vals5.Stable.is _) ?_ ?_
      · intro a W hS pre old K hK
        have e13 := pre 0 13 _ (by kernel_rfl) rfl rfl
        have e25 := pre 12 25 _ (by kernel_rfl) rfl rfl
        clear pre old
        simp only [Vals5.fits, Array.getD_eq_getD_getElem?, List.getElem?_toArray, List.getElem?_cons_zero, List.getElem?_cons_succ, Option.getD_some] at e13 e25
        have hC := span_c va (va + rm) W
        go_simp
        refine hC.mono ?_
        rintro e w' ⟨rfl, hb'⟩
        refine hK _ _ ⟨hS.1.keep hb', hS.2.1.keep hb', hS.2.2.keep hb'⟩ hb' ?_
        exact fits_is _ _
      exact Vals5.Steps.nil
    case hend =>
      rintro Y ⟨hs2, HX2, HR2⟩
      simp only [Vals5.All, List.getLast_cons_cons, List.getLast_singleton]
      simp only [Vals.putAll, List.setIfInBounds_toArray, List.set_cons_zero, List.set_cons_succ]
      intro K hK
      refine wp_store_row 48 _ _ rfl (w.heap.size + 1) #[.int .i64 va, .int .i64 (va + rm)] (by go_simp) (by go_simp) 48 _ HR2 (by kernel_rfl) rfl (by simp [Value.oneCell']) ?_
      refine hK _ _ ?_
      clear hK K
      have HR6 := Lib.hid (HR2.row #[.int .i64 va, .int .i64 (va + rm)])
      have HS6 := Lib.hid (hs2.row (g := w.heap.size + 1) (by omega) #[.int .i64 va, .int .i64 (va + rm)])
      clear HR2 HX2 hs2
      go_wp2_with fail
      (refine bodyPost_ret (v := .agg _) ?_ rfl ⟨rfl, ?_⟩; exact (results_cell_row Try.results42 _ _ (w.heap.size + 1) 48 _ (0, 0) _ rfl HR6.out Try.underlying48 rfl (by kernel_rfl)))
      exact HS6.out.1
/-- the i-th part of a hull with narrower spans. -/
def nrP (U : List Int) (i : Nat) (x : Prt) : Prt := { x with w0 := nrL x.w0 x.w1 U (4 * i), w1 := nrH x.w0 x.w1 U (4 * i), l0 := nrL x.l0 x.l1 U (4 * i + 2), l1 := nrH x.l0 x.l1 U (4 * i + 2) }
def nrPs (h : Hul) (U : List Int) (k : Nat) : List Prt := (List.range k).map fun i => nrP U i (pa h.parts i)
def nrHul (h : Hul) (U : List Int) : Hul := { h with parts := nrPs h U h.parts.length }
theorem nrPs_next (h : Hul) (U : List Int) (k : Nat) : nrPs h U (k + 1) = nrPs h U k ++ [nrP U k (pa h.parts k)] := by unfold nrPs; rw [List.range_succ, List.map_append]; rfl
theorem nrPs_at (h : Hul) (U : List Int) {k i : Nat} (hi : i < k) : pa (nrPs h U k) i = nrP U i (pa h.parts i) := by
  rw [pa_at (by simpa [nrPs] using hi)]
  simp [nrPs]
theorem nr_finer {h : Hul} (hh : HOk h) (U : List Int) : Finer h (nrHul h U) := by
  refine ⟨rfl, rfl, by simp [nrHul, nrPs], fun i hi => ?_⟩
  have hx := hh.ps _ (pa_mem hi)
  have e : pa (nrHul h U).parts i = nrP U i (pa h.parts i) := nrPs_at h U hi
  obtain ⟨a1, a2, a3⟩ := nr_in U (4 * i) hx.w01
  obtain ⟨b1, b2, b3⟩ := nr_in U (4 * i + 2) hx.l01
  rw [e]
  exact ⟨rfl, rfl, a1, a2, a3, b1, b2, b3⟩
theorem nr_ok {h : Hul} (hc : (chk h).2.2 = 0) (U : List Int) : (chk (nrHul h U)).2.2 = 0 := by
  have hh := chk_ok hc
  have hF := nr_finer hh U
  refine chk_of hc ?_ (fun x hx => ?_) hh.a0 hh.af hh.f1
  · show (nrPs h U h.parts.length).map Prt.name = h.parts.map Prt.name
    apply List.ext_getElem
    · simp [nrPs]
    · intro i h1 h2
      have hi : i < h.parts.length := by simpa using h2
      simp [nrPs, nrP, pa_at hi]
  · obtain ⟨i, hi, rfl⟩ := List.mem_map.1 (show x ∈ (List.range h.parts.length).map fun i => nrP U i (pa h.parts i) from hx)
    have hi := List.mem_range.1 hi
    have hy := hh.ps _ (pa_mem hi)
    obtain ⟨a1, a2, a3⟩ := nr_in U (4 * i) hy.w01
    obtain ⟨b1, b2, b3⟩ := nr_in U (4 * i + 2) hy.l01
    have := hy.w0; have := hy.w1; have := hy.l0; have := hy.l1
    exact ⟨hy.p0, hy.p1, by show 0 ≤ nrL _ _ _ _; omega, a2, by show nrH _ _ _ _ ≤ _; omega, hy.k0, hy.k1, by show 0 ≤ nrL _ _ _ _; omega, b2, by show nrH _ _ _ _ ≤ _; omega⟩
theorem wid_ok {h : Hul} (hc : (chk h).2.2 = 0) {a f : Int} (a0 : 0 ≤ a) (ha : a ≤ h.aft) (hf : h.fore ≤ f) (f1 : f ≤ 5000) : (chk (widH h a f)).2.2 = 0 := by
  have hh := chk_ok hc
  exact chk_of (f := widH h a f) hc rfl hh.ps a0 (by show a < f; have := hh.af; omega) f1
end Td
end Go.Proofs.Ythdcklonamgpiaa
