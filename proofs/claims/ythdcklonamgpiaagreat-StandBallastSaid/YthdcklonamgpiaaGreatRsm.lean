import Derived.Test.YthdcklonamgpiaaGreatRsh
/- The reference's least balance. -/
namespace Go.Proofs.YthdcklonamgpiaaGreat
open Go.RowKit
namespace Td
set_option linter.unusedSimpArgs false
set_option linter.unusedVariables false
attribute [local go_sem] Oper.semAt_some
def TrP (gs ls : List Int) (v : Value) (X : World) : Prop := Tv 0 X v gs ls
theorem TrP.stable (gs ls : List Int) : Vals5.Stable (.has (TrP gs ls)) := fun v w w' h k => Tv.keep h k
theorem Tv.zero {B : Nat} {X : World} {v : Value} {gs ls : List Int} (h : Tv B X v gs ls) : TrP gs ls v X := by
  obtain ⟨GA, gc, LA, lc, e, h1, h2, h3, -, -⟩ := h
  exact ⟨GA, gc, LA, lc, e, h1, h2, h3, fun _ _ => Nat.zero_le _, fun _ _ => Nat.zero_le _⟩
theorem spans_bk {h : Hul} (hh : HBk h) : ∀ x ∈ h.parts, x.w0 ≤ x.w1 ∧ x.l0 ≤ x.l1 := fun x hx => ⟨(hh.ps x hx).w01, (hh.ps x hx).l01⟩
set_option maxRecDepth 100000 in
set_option maxHeartbeats 8000000 in
theorem rsmallest_c (h : Hul) (m : Sl) (wt : Int) (w : World) (hh : HBk h) (hp : HAt w m h) (hw0 : 0 ≤ wt) (hw1 : wt ≤ 1000) :
    Calls Tryz.prog 26 #[.agg (hV h m), .int .i64 wt] w fun e w' => e = .returned (.agg (bB (lst h 0 wt) (lst h 1 wt) (lst h 2 wt))) ∧ Below w.heap.size w w' := by
  have hn10 := hh.n10
  have hs := ((Since.refl w).alloc (.cells (hV h m) 24)).alloc (.cells zB 70)
  have HB := Lib.hid ((Blk.new w 24 (hV h m)).alloc (.cells zB 70))
  have HR := Lib.hid (Blk.new1 w (.cells (hV h m) 24) 70 zB)
  have HS : Hid (∀ (y : Int) (k : Nat) (W : World), Since w W → 0 ≤ y → y ≤ 3 → shK y = k → Calls Tryz.prog 27 #[.agg (hV h m), .int .i64 y] W fun e w' => (∃ v, e = .returned v ∧ TrP (shG h k) (shL h k) v w') ∧ Below W.heap.size W w') := fun y k W hS h0 h3 hk => by
    subst hk
    refine (rshown_c h m y W (hp.keep hS.1) hn10 h0 h3).mono ?_
    rintro e w' ⟨⟨v, he, hv⟩, hb⟩
    exact ⟨⟨v, he, hv.zero⟩, hb⟩
  have HW : Hid (∀ (k : Nat) (GA LA : Option Addr) (gc lc : Nat) (W : World), Since w W → InAt W GA (shG h k) → InAt W LA (shL h k) → Calls Tryz.prog 53 #[.agg (hV h m), .agg (tV GA (shG h k).length gc LA (shL h k).length lc), .int .i64 wt] W fun e w' => e = .returned (.agg (bB (bal h (shG h k) (shL h k) 0 wt) (bal h (shG h k) (shL h k) 1 wt) (bal h (shG h k) (shL h k) 2 wt))) ∧ Below W.heap.size W w') :=
    fun k GA LA gc lc W hS hG hL => rweighed_c h m GA (shG h k) gc LA (shL h k) lc wt W hh (hp.keep hS.1) hG hL (sh_ok (spans_bk hh) k) hw0 hw1
  have K0 : Hid (bal h (shG h 0) (shL h 0) 0 wt = lst h 0 wt) := bal_sh h 0 wt
  have K1 : Hid (bal h (shG h 1) (shL h 1) 1 wt = lst h 1 wt) := bal_sh h 1 wt
  have K2 : Hid (bal h (shG h 2) (shL h 2) 2 wt = lst h 2 wt) := bal_sh h 2 wt
  go_enter Tryz.func26, Tryz.ntmps26
  go_wp2_with fail
  refine Vals6.regionAll (fun X => Since w X ∧ Blk X w.heap.size 24 (hV h m) ∧ Blk X (w.heap.size + 1) 70 zB) [some 5, some 6, some 7, some 8, some 9, some 10, some 11, some 12, some 13, some 14, some 15, some 16, some 17, some 18, some 19, some 20, some 21, some 22, some 23] [.is ?_, .is ?_, .has (TrP (shG h 0) (shL h 0)), .is ?_, .is ?_, .is ?_, .is ?_, .is ?_, .has (TrP (shG h 1) (shL h 1)), .is ?_, .is ?_, .is ?_, .is ?_, .is ?_, .has (TrP (shG h 2) (shL h 2)), .is ?_, .is ?_, .is ?_, .is ?_] (by kernel_rfl) rfl rfl (by kernel_rfl) (by kernel_rfl) (by kernel_rfl) (by kernel_rfl) (by kernel_rfl) (by kernel_rfl) rfl (⟨hs.drew, HB.out.drew, HR.out.drew⟩) ?hsteps ?hend
  case hsteps =>
    refine Vals5.Steps.run rfl (Vals5.Stable.is _) ?_ ?_
    · intro a W hS pre old K hK
      have e2 := old 2 _ (by kernel_rfl) rfl
      clear pre old
      simp only [Vals5.fits, Array.getD_eq_getD_getElem?, List.getElem?_toArray, List.getElem?_cons_zero, List.getElem?_cons_succ, Option.getD_some] at e2
      have hS9 := hS
      obtain ⟨q1, q2, q3⟩ := hS9
      obtain ⟨c0, c1, c2⟩ := q2.hull
      go_simp
      refine hK _ _ hS (Below.refl _ _) ?_
      exact fits_is _ _
    refine Vals5.Steps.run rfl (Vals5.Stable.is _) ?_ ?_
    · intro a W hS pre old K hK
      have e2 := old 2 _ (by kernel_rfl) rfl
      clear pre old
      simp only [Vals5.fits, Array.getD_eq_getD_getElem?, List.getElem?_toArray, List.getElem?_cons_zero, List.getElem?_cons_succ, Option.getD_some] at e2
      have hS9 := hS
      obtain ⟨q1, q2, q3⟩ := hS9
      obtain ⟨c0, c1, c2⟩ := q2.hull
      go_simp
      refine hK _ _ hS (Below.refl _ _) ?_
      exact fits_is _ _
    refine Vals5.Steps.run rfl (TrP.stable _ _) ?_ ?_
    · intro a W hS pre old K hK
      have e6 := pre 1 6 _ (by kernel_rfl) rfl rfl
      clear pre old
      simp only [Vals5.fits, Array.getD_eq_getD_getElem?, List.getElem?_toArray, List.getElem?_cons_zero, List.getElem?_cons_succ, Option.getD_some] at e6
      have hC := HS.out 1 0 W hS.1 (by omega) (by omega) rfl
      go_simp
      refine hC.mono ?_
      rintro e w' ⟨⟨v, rfl, hv⟩, hb'⟩
      exact hK _ _ ⟨hS.1.keep hb', hS.2.1.keep hb', hS.2.2.keep hb'⟩ hb' hv
    refine Vals5.Steps.run rfl (Vals5.Stable.is _) ?_ ?_
    · intro a W hS pre old K hK
      have e1 := old 1 _ (by kernel_rfl) rfl
      clear pre old
      simp only [Vals5.fits, Array.getD_eq_getD_getElem?, List.getElem?_toArray, List.getElem?_cons_zero, List.getElem?_cons_succ, Option.getD_some] at e1
      go_simp
      refine hK _ _ hS (Below.refl _ _) ?_
      exact fits_is _ _
    refine Vals5.Steps.run rfl (Vals5.Stable.is _) ?_ ?_
    · intro a W hS pre old K hK
      have e5 := pre 0 5 _ (by kernel_rfl) rfl rfl
      have f7 := pre 2 7 _ (by kernel_rfl) rfl rfl
      have e8 := pre 3 8 _ (by kernel_rfl) rfl rfl
      clear pre old
      simp only [Vals5.fits, Array.getD_eq_getD_getElem?, List.getElem?_toArray, List.getElem?_cons_zero, List.getElem?_cons_succ, Option.getD_some] at e5 e8
      obtain ⟨GA, gc, LA, lc, hv, hG, hL, -, -, -⟩ := f7
      simp only [Array.getD_eq_getD_getElem?] at hv
      have hC := HW.out 0 GA LA gc lc W hS.1 hG hL
      go_simp
      refine hC.mono ?_
      rintro e w' ⟨rfl, hb'⟩
      refine hK _ _ ⟨hS.1.keep hb', hS.2.1.keep hb', hS.2.2.keep hb'⟩ hb' ?_
      exact fits_is _ _
    refine Vals5.Steps.run rfl (Vals5.Stable.is _) ?_ ?_
    · intro a W hS pre old K hK
      have e9 := pre 4 9 _ (by kernel_rfl) rfl rfl
      clear pre old
      simp only [Vals5.fits, Array.getD_eq_getD_getElem?, List.getElem?_toArray, List.getElem?_cons_zero, List.getElem?_cons_succ, Option.getD_some] at e9
      go_simp
      refine hK _ _ hS (Below.refl _ _) ?_
      exact fits_is _ _
    refine Vals5.Steps.run rfl (Vals5.Stable.is _) ?_ ?_
    · intro a W hS pre old K hK
      have e2 := old 2 _ (by kernel_rfl) rfl
      clear pre old
      simp only [Vals5.fits, Array.getD_eq_getD_getElem?, List.getElem?_toArray, List.getElem?_cons_zero, List.getElem?_cons_succ, Option.getD_some] at e2
      have hS9 := hS
      obtain ⟨q1, q2, q3⟩ := hS9
      obtain ⟨c0, c1, c2⟩ := q2.hull
      go_simp
      refine hK _ _ hS (Below.refl _ _) ?_
      exact fits_is _ _
    refine Vals5.Steps.run rfl (Vals5.Stable.is _) ?_ ?_
    · intro a W hS pre old K hK
      have e2 := old 2 _ (by kernel_rfl) rfl
      clear pre old
      simp only [Vals5.fits, Array.getD_eq_getD_getElem?, List.getElem?_toArray, List.getElem?_cons_zero, List.getElem?_cons_succ, Option.getD_some] at e2
      have hS9 := hS
      obtain ⟨q1, q2, q3⟩ := hS9
      obtain ⟨c0, c1, c2⟩ := q2.hull
      go_simp
      refine hK _ _ hS (Below.refl _ _) ?_
      exact fits_is _ _
    refine Vals5.Steps.run rfl (TrP.stable _ _) ?_ ?_
    · intro a W hS pre old K hK
      have e12 := pre 7 12 _ (by kernel_rfl) rfl rfl
      clear pre old
      simp only [Vals5.fits, Array.getD_eq_getD_getElem?, List.getElem?_toArray, List.getElem?_cons_zero, List.getElem?_cons_succ, Option.getD_some] at e12
      have hC := HS.out 2 1 W hS.1 (by omega) (by omega) rfl
      go_simp
      refine hC.mono ?_
      rintro e w' ⟨⟨v, rfl, hv⟩, hb'⟩
      exact hK _ _ ⟨hS.1.keep hb', hS.2.1.keep hb', hS.2.2.keep hb'⟩ hb' hv
    refine Vals5.Steps.run rfl (Vals5.Stable.is _) ?_ ?_
    · intro a W hS pre old K hK
      have e1 := old 1 _ (by kernel_rfl) rfl
      clear pre old
      simp only [Vals5.fits, Array.getD_eq_getD_getElem?, List.getElem?_toArray, List.getElem?_cons_zero, List.getElem?_cons_succ, Option.getD_some] at e1
      go_simp
      refine hK _ _ hS (Below.refl _ _) ?_
      exact fits_is _ _
    refine Vals5.Steps.run rfl (Vals5.Stable.is _) ?_ ?_
    · intro a W hS pre old K hK
      have e11 := pre 6 11 _ (by kernel_rfl) rfl rfl
      have f13 := pre 8 13 _ (by kernel_rfl) rfl rfl
      have e14 := pre 9 14 _ (by kernel_rfl) rfl rfl
      clear pre old
      simp only [Vals5.fits, Array.getD_eq_getD_getElem?, List.getElem?_toArray, List.getElem?_cons_zero, List.getElem?_cons_succ, Option.getD_some] at e11 e14
      obtain ⟨GA, gc, LA, lc, hv, hG, hL, -, -, -⟩ := f13
      simp only [Array.getD_eq_getD_getElem?] at hv
      have hC := HW.out 1 GA LA gc lc W hS.1 hG hL
      go_simp
      refine hC.mono ?_
      rintro e w' ⟨rfl, hb'⟩
      refine hK _ _ ⟨hS.1.keep hb', hS.2.1.keep hb', hS.2.2.keep hb'⟩ hb' ?_
      exact fits_is _ _
    refine Vals5.Steps.run rfl (Vals5.Stable.is _) ?_ ?_
    · intro a W hS pre old K hK
      have e15 := pre 10 15 _ (by kernel_rfl) rfl rfl
      clear pre old
      simp only [Vals5.fits, Array.getD_eq_getD_getElem?, List.getElem?_toArray, List.getElem?_cons_zero, List.getElem?_cons_succ, Option.getD_some] at e15
      go_simp
      refine hK _ _ hS (Below.refl _ _) ?_
      exact fits_is _ _
    refine Vals5.Steps.run rfl (Vals5.Stable.is _) ?_ ?_
    · intro a W hS pre old K hK
      have e2 := old 2 _ (by kernel_rfl) rfl
      clear pre old
      simp only [Vals5.fits, Array.getD_eq_getD_getElem?, List.getElem?_toArray, List.getElem?_cons_zero, List.getElem?_cons_succ, Option.getD_some] at e2
      have hS9 := hS
      obtain ⟨q1, q2, q3⟩ := hS9
      obtain ⟨c0, c1, c2⟩ := q2.hull
      go_simp
      refine hK _ _ hS (Below.refl _ _) ?_
      exact fits_is _ _
    refine Vals5.Steps.run rfl (Vals5.Stable.is _) ?_ ?_
    · intro a W hS pre old K hK
      have e2 := old 2 _ (by kernel_rfl) rfl
      clear pre old
      simp only [Vals5.fits, Array.getD_eq_getD_getElem?, List.getElem?_toArray, List.getElem?_cons_zero, List.getElem?_cons_succ, Option.getD_some] at e2
      have hS9 := hS
      obtain ⟨q1, q2, q3⟩ := hS9
      obtain ⟨c0, c1, c2⟩ := q2.hull
      go_simp
      refine hK _ _ hS (Below.refl _ _) ?_
      exact fits_is _ _
    refine Vals5.Steps.run rfl (TrP.stable _ _) ?_ ?_
    · intro a W hS pre old K hK
      have e18 := pre 13 18 _ (by kernel_rfl) rfl rfl
      clear pre old
      simp only [Vals5.fits, Array.getD_eq_getD_getElem?, List.getElem?_toArray, List.getElem?_cons_zero, List.getElem?_cons_succ, Option.getD_some] at e18
      have hC := HS.out 3 2 W hS.1 (by omega) (by omega) rfl
      go_simp
      refine hC.mono ?_
      rintro e w' ⟨⟨v, rfl, hv⟩, hb'⟩
      exact hK _ _ ⟨hS.1.keep hb', hS.2.1.keep hb', hS.2.2.keep hb'⟩ hb' hv
    refine Vals5.Steps.run rfl (Vals5.Stable.is _) ?_ ?_
    · intro a W hS pre old K hK
      have e1 := old 1 _ (by kernel_rfl) rfl
      clear pre old
      simp only [Vals5.fits, Array.getD_eq_getD_getElem?, List.getElem?_toArray, List.getElem?_cons_zero, List.getElem?_cons_succ, Option.getD_some] at e1
      go_simp
      refine hK _ _ hS (Below.refl _ _) ?_
      exact fits_is _ _
    refine Vals5.Steps.run rfl (Vals5.Stable.is _) ?_ ?_
    · intro a W hS pre old K hK
      have e17 := pre 12 17 _ (by kernel_rfl) rfl rfl
      have f19 := pre 14 19 _ (by kernel_rfl) rfl rfl
      have e20 := pre 15 20 _ (by kernel_rfl) rfl rfl
      clear pre old
      simp only [Vals5.fits, Array.getD_eq_getD_getElem?, List.getElem?_toArray, List.getElem?_cons_zero, List.getElem?_cons_succ, Option.getD_some] at e17 e20
      obtain ⟨GA, gc, LA, lc, hv, hG, hL, -, -, -⟩ := f19
      simp only [Array.getD_eq_getD_getElem?] at hv
      have hC := HW.out 2 GA LA gc lc W hS.1 hG hL
      go_simp
      refine hC.mono ?_
      rintro e w' ⟨rfl, hb'⟩
      refine hK _ _ ⟨hS.1.keep hb', hS.2.1.keep hb', hS.2.2.keep hb'⟩ hb' ?_
      exact fits_is _ _
    refine Vals5.Steps.run rfl (Vals5.Stable.is _) ?_ ?_
    · intro a W hS pre old K hK
      have e21 := pre 16 21 _ (by kernel_rfl) rfl rfl
      clear pre old
      simp only [Vals5.fits, Array.getD_eq_getD_getElem?, List.getElem?_toArray, List.getElem?_cons_zero, List.getElem?_cons_succ, Option.getD_some] at e21
      go_simp
      refine hK _ _ hS (Below.refl _ _) ?_
      exact fits_is _ _
    refine Vals5.Steps.run rfl (Vals5.Stable.is _) ?_ ?_
    · intro a W hS pre old K hK
      have e10 := pre 5 10 _ (by kernel_rfl) rfl rfl
      have e16 := pre 11 16 _ (by kernel_rfl) rfl rfl
      have e22 := pre 17 22 _ (by kernel_rfl) rfl rfl
      clear pre old
      simp only [Vals5.fits, Array.getD_eq_getD_getElem?, List.getElem?_toArray, List.getElem?_cons_zero, List.getElem?_cons_succ, Option.getD_some] at e10 e16 e22
      go_simp
      refine hK _ _ hS (Below.refl _ _) ?_
      exact fits_is _ _
    exact Vals5.Steps.nil
  case hend =>
    rintro X ⟨hs5, hB5, hR5⟩
    simp only [Vals5.All, List.getLast_cons_cons, List.getLast_singleton]
    rintro v1 - v2 - v3 -
    simp only [Vals.putAll, List.setIfInBounds_toArray, List.set_cons_zero, List.set_cons_succ]
    rw [K0.out, K1.out, K2.out]
    intro K hK
    refine wp_store_row 70 _ _ rfl (w.heap.size + 1) (bB (lst h 0 wt) (lst h 1 wt) (lst h 2 wt)) (by go_simp) (by go_simp) 70 _ hR5 (by kernel_rfl) rfl (by simp [Value.oneCell']) ?_
    refine hK _ _ ?_
    clear hK K
    have HR6 := Lib.hid (hR5.row (bB (lst h 0 wt) (lst h 1 wt) (lst h 2 wt)))
    have HS6 := Lib.hid (hs5.row (g := w.heap.size + 1) (by omega) (bB (lst h 0 wt) (lst h 1 wt) (lst h 2 wt)))
    clear hR5 hB5 hs5 HS HW
    go_wp2_with fail
    (refine bodyPost_ret (v := .agg _) ?_ rfl ⟨rfl, ?_⟩; exact (results_cell_row Tryz.results26 _ _ (w.heap.size + 1) 70 _ (0, 0) _ rfl HR6.out Tryz.underlying70 rfl (by kernel_rfl)))
    exact HS6.out.1
end Td
end Go.Proofs.YthdcklonamgpiaaGreat
