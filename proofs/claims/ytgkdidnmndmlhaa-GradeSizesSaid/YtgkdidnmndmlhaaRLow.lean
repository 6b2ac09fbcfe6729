import Derived.Test.YtgkdidnmndmlhaaShr
import Derived.Test.YtgkdidnmndmlhaaPas
import Derived.Test.YtgkdidnmndmlhaaTail
import Derived.Test.YtgkdidnmndmlhaaRefA
/- The reference: a fraction in lowest terms. -/
namespace Go.Proofs.Ytgkdidnmndmlhaa
open Go.RowKit
namespace Td
set_option linter.unusedSimpArgs false
set_option linter.unusedVariables false
attribute [local go_sem] Oper.semAt_some
set_option maxRecDepth 100000 in
set_option maxHeartbeats 4000000 in
theorem rLow_c (x y : Nat) (w : World) (hx : x < 9223372036854775807) (hy : y < 9223372036854775807) (h0 : 0 < y) :
    Calls Try.prog 57 #[.int .i64 x, .int .i64 y] w fun e w' => e = .returned (.agg (fV (ip (shr x y)))) ∧ Below w.heap.size w w' := by
  have hs0 := (Since.refl w).alloc (.cells (fV (0, 0)) 41)
  have HS0 := Lib.hid hs0
  have HR0 := Lib.hid (Blk.new w 41 (fV (0, 0)))
  have HG0 : Hid (Nat.gcd x y = Nat.gcd x y) := rfl
  go_enter Try.func57, Try.ntmps57
  go_wp2_with fail
  go_loopw [5, 6, 7] (fun i j _ wr => ∃ a b : Nat, i = .int .i64 a ∧ j = .int .i64 b ∧ a < 9223372036854775807 ∧ b < 9223372036854775807 ∧ Hid (Nat.gcd a b = Nat.gcd x y) ∧ Hid (Since w wr) ∧ Hid (Blk wr w.heap.size 41 (fV (0, 0)))) (fun _ j _ _ => (intOf j).toNat)
  case atStart => exact ⟨x, y, rfl, rfl, hx, hy, rfl, HS0, HR0⟩
  case round =>
    obtain ⟨a, b, rfl, rfl, ha, hb, HG, HS, HR⟩ := hrel
    by_cases hb0 : b = 0
    · subst hb0
      have hga : Nat.gcd x y = a := by rw [← HG.out, Nat.gcd_zero_right]
      have hg : 0 < a := by rw [← hga]; exact Nat.gcd_pos_of_pos_right _ h0
      have hgl : a ≤ y := by rw [← hga]; exact Nat.gcd_le_right _ h0
      have HV : Hid (ip (shr x y) = (((x / a : Nat) : Int), ((y / a : Nat) : Int))) := by show _ = _; rw [← hga]; rfl
      have q0 : ((a : Int) == 0) = false := by simp; omega
      have q0' : ¬ (a : Int) = 0 := by omega
      have q1 : (x : Int).tdiv (a : Int) = ((x / a : Nat) : Int) := rfl
      have q2 : (y : Int).tdiv (a : Int) = ((y / a : Nat) : Int) := rfl
      have b1 := Nat.div_le_self x a
      have b2 := Nat.div_le_self y a
      obtain ⟨u, hu⟩ : ∃ u, x / a = u := ⟨_, rfl⟩
      obtain ⟨v, hv⟩ : ∃ v, y / a = v := ⟨_, rfl⟩
      rw [hu] at q1 HV b1
      rw [hv] at q2 HV b2
      have q3 : IntKind.i64.wrap (u : Int) = (u : Int) := wrapI (by unfold I64; omega)
      have q4 : IntKind.i64.wrap (v : Int) = (v : Int) := wrapI (by unfold I64; omega)
      have q7 : ¬ a = 0 := by omega
      clear hu hv hga HG
      go_wp2_with fail
      refine Vals6.regionAll (fun X => Since w X ∧ Blk X w.heap.size 41 (fV (0, 0))) [some 17, some 18, some 19, some 20, some 21, some 22, some 23] [.is ?_, .is ?_, .is ?_, .is ?_, .is ?_, .is ?_, .is ?_] (by kernel_rfl) rfl rfl (by kernel_rfl) (by kernel_rfl) (by kernel_rfl) (by kernel_rfl) (by kernel_rfl) (by kernel_rfl) rfl (⟨HS.out.drew, HR.out.drew⟩) ?hsteps ?hend
      case hsteps =>
        refine Vals5.Steps.run rfl (Vals5.Stable.is _) ?_ ?_
        · intro a W hS pre old K hK
          have e0 := old 0 _ (by kernel_rfl) rfl
          clear pre old
          simp only [Vals5.fits, Array.getD_eq_getD_getElem?, List.getElem?_toArray, List.getElem?_cons_zero, List.getElem?_cons_succ, Option.getD_some] at e0
          go_simp
          refine hK _ _ hS (Below.refl _ _) ?_
          exact fits_is _ _
        refine Vals5.Steps.run rfl (Vals5.Stable.is _) ?_ ?_
        · intro a W hS pre old K hK
          have e5 := old 5 _ (by kernel_rfl) rfl
          clear pre old
          simp only [Vals5.fits, Array.getD_eq_getD_getElem?, List.getElem?_toArray, List.getElem?_cons_zero, List.getElem?_cons_succ, Option.getD_some] at e5
          go_simp
          refine hK _ _ hS (Below.refl _ _) ?_
          exact fits_is _ _
        refine Vals5.Steps.run rfl (Vals5.Stable.is _) ?_ ?_
        · intro a W hS pre old K hK
          have e17 := pre 0 17 _ (by kernel_rfl) rfl rfl
          have e18 := pre 1 18 _ (by kernel_rfl) rfl rfl
          clear pre old
          simp only [Vals5.fits, Array.getD_eq_getD_getElem?, List.getElem?_toArray, List.getElem?_cons_zero, List.getElem?_cons_succ, Option.getD_some] at e17 e18
          go_simp
          refine hK _ _ hS (Below.refl _ _) ?_
          exact fits_is _ _
        refine Vals5.Steps.run rfl (Vals5.Stable.is _) ?_ ?_
        · intro a W hS pre old K hK
          have e1 := old 1 _ (by kernel_rfl) rfl
          clear pre old
          simp only [Vals5.fits, Array.getD_eq_getD_getElem?, List.getElem?_toArray, List.getElem?_cons_zero, List.getElem?_cons_succ, Option.getD_some] at e1
          go_simp
          refine hK _ _ hS (Below.refl _ _) ?_
          exact fits_is _ _
        refine Vals5.Steps.run rfl (Vals5.Stable.is _) ?_ ?_
        · intro a W hS pre old K hK
          have e5 := old 5 _ (by kernel_rfl) rfl
          clear pre old
          simp only [Vals5.fits, Array.getD_eq_getD_getElem?, List.getElem?_toArray, List.getElem?_cons_zero, List.getElem?_cons_succ, Option.getD_some] at e5
          go_simp
          refine hK _ _ hS (Below.refl _ _) ?_
          exact fits_is _ _
        refine Vals5.Steps.run rfl (Vals5.Stable.is _) ?_ ?_
        · intro a W hS pre old K hK
          have e20 := pre 3 20 _ (by kernel_rfl) rfl rfl
          have e21 := pre 4 21 _ (by kernel_rfl) rfl rfl
          clear pre old
          simp only [Vals5.fits, Array.getD_eq_getD_getElem?, List.getElem?_toArray, List.getElem?_cons_zero, List.getElem?_cons_succ, Option.getD_some] at e20 e21
          go_simp
          refine hK _ _ hS (Below.refl _ _) ?_
          exact fits_is _ _
        refine Vals5.Steps.run rfl (Vals5.Stable.is _) ?_ ?_
        · intro a W hS pre old K hK
          have e19 := pre 2 19 _ (by kernel_rfl) rfl rfl
          have e22 := pre 5 22 _ (by kernel_rfl) rfl rfl
          clear pre old
          simp only [Vals5.fits, Array.getD_eq_getD_getElem?, List.getElem?_toArray, List.getElem?_cons_zero, List.getElem?_cons_succ, Option.getD_some] at e19 e22
          go_simp
          refine hK _ _ hS (Below.refl _ _) ?_
          exact fits_is _ _
        exact Vals5.Steps.nil
      case hend =>
      rintro X ⟨hsn, hR⟩
      have HR2 := Lib.hid hR
      simp only [Vals5.All]
      simp only [List.getLast_cons_cons, List.getLast_singleton]
      simp only [Vals.putAll, List.setIfInBounds_toArray, List.set_cons_zero, List.set_cons_succ]
      intro K hK
      refine wp_store_row 41 _ _ rfl w.heap.size (fV ((u : Int), (v : Int))) rfl rfl 41 _ HR2.out (by kernel_rfl) rfl (by simp [Value.oneCell']) ?_
      refine hK _ _ ?_
      clear hK K
      dsimp only [Act.put]
      go_wp2_with fail
      (refine bodyPost_ret (v := .agg (fV ((u : Int), (v : Int)))) ?_ rfl ⟨by rw [HV.out], ?_⟩; exact (results_cell_row Try.results57 _ _ w.heap.size 41 _ (0, 0) _ rfl (HR2.out.row _) Try.underlying41 rfl (by kernel_rfl)))
      exact (hsn.row (Nat.le_refl _) _).1
    · have hz : (0 : Int) < (b : Int) := by omega
      have hz1 : 0 < b := by omega
      have hz2 : ¬ (b : Int) = 0 := by omega
      have hm : a % b < b := Nat.mod_lt _ hz1
      have ht : (a : Int).tmod (b : Int) = ((a % b : Nat) : Int) := rfl
      have HG2 : Hid (Nat.gcd b (a % b) = Nat.gcd x y) := by show _ = _; rw [← HG.out, Nat.gcd_comm, ← Nat.gcd_rec, Nat.gcd_comm]
      obtain ⟨r, hr⟩ : ∃ r, a % b = r := ⟨_, rfl⟩
      rw [hr] at ht HG2 hm
      have hw : IntKind.i64.wrap (r : Int) = (r : Int) := wrapI (by unfold I64; omega)
      clear hr HG
      go_wp2_with fail
      go_roundw
      case rel => exact ⟨b, r, rfl, rfl, hb, by omega, HG2, HS, HR⟩
      case measure => simp [intOf]; omega
end Td
end Go.Proofs.Ytgkdidnmndmlhaa
