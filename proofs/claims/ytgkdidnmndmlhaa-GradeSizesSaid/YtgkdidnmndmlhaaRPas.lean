import Derived.Test.YtgkdidnmndmlhaaMathL
import Derived.Test.YtgkdidnmndmlhaaRLow
import Derived.Test.YtgkdidnmndmlhaaRefA
/- The reference: cases, what passes, chances. -/
namespace Go.Proofs.Ytgkdidnmndmlhaa
open Go.RowKit
namespace Td
set_option linter.unusedSimpArgs false
set_option linter.unusedVariables false
attribute [local go_sem] Oper.semAt_some
set_option maxRecDepth 100000 in
set_option maxHeartbeats 4000000 in
theorem rcases_c (lo hi : Int) (P F pa fa S to : Nat) (w : World) (hP : P ≤ 20) (hF : F ≤ P) (hS : S ≤ P - F) :
    Calls Try.prog 90 #[.agg (gV P lo hi), .agg (lV F pa fa S to)] w fun e w' => e = .returned (.int .i64 (bn P F * bn (P - F) S : Nat)) ∧ Below w.heap.size w w' := by
  have hs := ((Since.refl w).alloc (.cells (gV P lo hi) 25)).alloc (.cells (lV F pa fa S to) 38)
  have HG := Lib.hid ((Blk.new w 25 (gV P lo hi)).alloc (.cells (lV F pa fa S to) 38))
  have HL := Lib.hid (Blk.new1 w (.cells (gV P lo hi) 25) 38 (lV F pa fa S to))
  obtain ⟨W2, hW2⟩ : ∃ W2, (w.alloc (.cells (gV P lo hi) 25)).alloc (.cells (lV F pa fa S to) 38) = W2 := ⟨_, rfl⟩
  rw [hW2] at hs HG HL
  obtain ⟨c0, c1, c2⟩ := HG.out.gcells
  obtain ⟨d0, d1, d2, d3, d4⟩ := HL.out.lcells
  have HA := fun W => Lib.hid (rways_c P F W (by omega))
  have HB := fun W => Lib.hid (rways_c ((P - F : Nat) : Int) S W (by omega))
  have hz := cases_le (S := S) hP hF
  have e1 : wyI P F = bn P F := wyI_nat P F
  have e2 : wyI ((P - F : Nat) : Int) S = bn (P - F) S := wyI_nat (P - F) S
  obtain ⟨g, hg⟩ : ∃ g, P - F = g := ⟨_, rfl⟩
  have t1 : IntKind.i64.wrap ((P : Int) - (F : Int)) = (g : Int) := by rw [wrapI (by unfold I64; omega)]; omega
  rw [hg] at HB hz e2 ⊢
  obtain ⟨x, hx⟩ : ∃ x, bn P F = x := ⟨_, rfl⟩
  obtain ⟨y, hy⟩ : ∃ y, bn g S = y := ⟨_, rfl⟩
  rw [hx] at e1 hz ⊢
  rw [hy] at e2 hz ⊢
  rw [e1] at HA
  rw [e2] at HB
  obtain ⟨z, hz0⟩ : ∃ z, x * y = z := ⟨_, rfl⟩
  rw [hz0] at hz ⊢
  have t2 : IntKind.i64.wrap ((x : Int) * (y : Int)) = (z : Int) := by rw [← Int.natCast_mul, hz0, wrapI (by unfold I64; omega)]
  clear e1 e2 hx hy hz0 hg hz
  go_enter Try.func90, Try.ntmps90
  go_wp2_with fail
  first | rw [hW2] | skip
  clear hW2
  refine Vals6.regionAll (fun X => Below W2.drew.heap.size W2.drew X) [some 5, some 6, some 7, some 8, some 9, some 10, some 11, some 12, some 13, some 14, some 15, some 16, some 17, some 18] [.is ?_, .is (.int .i64 (P : Nat)), .is ?_, .is (.int .i64 (F : Nat)), .is (.int .i64 (x : Nat)), .is ?_, .is (.int .i64 (P : Nat)), .is ?_, .is (.int .i64 (F : Nat)), .is (.int .i64 (g : Nat)), .is ?_, .is (.int .i64 (S : Nat)), .is (.int .i64 (y : Nat)), .is (.int .i64 (z : Nat))] (by kernel_rfl) rfl rfl (by kernel_rfl) (by kernel_rfl) (by kernel_rfl) (by kernel_rfl) (by kernel_rfl) (by kernel_rfl) rfl (Below.refl _ _) ?hsteps ?hend
  case hsteps =>
    refine Vals5.Steps.run rfl (Vals5.Stable.is _) ?_ ?_
    · intro a W hS pre old K hK
      have e2 := old 2 _ (by kernel_rfl) rfl
      clear pre old
      simp only [Vals5.fits, Array.getD_eq_getD_getElem?, List.getElem?_toArray, List.getElem?_cons_zero, List.getElem?_cons_succ, Option.getD_some] at e2
      go_simp
      refine hK _ _ hS (Below.refl _ _) ?_
      exact fits_is _ _
    refine Vals5.Steps.run rfl (Vals5.Stable.is _) ?_ ?_
    · intro a W hS pre old K hK
      have e5 := pre 0 5 _ (by kernel_rfl) rfl rfl
      clear pre old
      simp only [Vals5.fits, Array.getD_eq_getD_getElem?, List.getElem?_toArray, List.getElem?_cons_zero, List.getElem?_cons_succ, Option.getD_some] at e5
      have hS9 := hS
      have bw9 : Below W2.heap.size W2 W := (Below.drew (Below.refl _ _)).trans (hS9.mono (by first | exact Nat.le_refl _ | (simp; done)))
      have e0_ := keep_cell bw9 c0
      have e1_ := keep_cell bw9 d0
      have e2_ := keep_cell bw9 d3
      go_simp
      refine hK _ _ hS (Below.refl _ _) ?_
      exact fits_is _ _
    refine Vals5.Steps.run rfl (Vals5.Stable.is _) ?_ ?_
    · intro a W hS pre old K hK
      have e3 := old 3 _ (by kernel_rfl) rfl
      clear pre old
      simp only [Vals5.fits, Array.getD_eq_getD_getElem?, List.getElem?_toArray, List.getElem?_cons_zero, List.getElem?_cons_succ, Option.getD_some] at e3
      go_simp
      refine hK _ _ hS (Below.refl _ _) ?_
      exact fits_is _ _
    refine Vals5.Steps.run rfl (Vals5.Stable.is _) ?_ ?_
    · intro a W hS pre old K hK
      have e7 := pre 2 7 _ (by kernel_rfl) rfl rfl
      clear pre old
      simp only [Vals5.fits, Array.getD_eq_getD_getElem?, List.getElem?_toArray, List.getElem?_cons_zero, List.getElem?_cons_succ, Option.getD_some] at e7
      have hS9 := hS
      have bw9 : Below W2.heap.size W2 W := (Below.drew (Below.refl _ _)).trans (hS9.mono (by first | exact Nat.le_refl _ | (simp; done)))
      have e0_ := keep_cell bw9 c0
      have e1_ := keep_cell bw9 d0
      have e2_ := keep_cell bw9 d3
      go_simp
      refine hK _ _ hS (Below.refl _ _) ?_
      exact fits_is _ _
    refine Vals5.Steps.run rfl (Vals5.Stable.is _) ?_ ?_
    · intro a W hS pre old K hK
      have e6 := pre 1 6 _ (by kernel_rfl) rfl rfl
      have e8 := pre 3 8 _ (by kernel_rfl) rfl rfl
      clear pre old
      simp only [Vals5.fits, Array.getD_eq_getD_getElem?, List.getElem?_toArray, List.getElem?_cons_zero, List.getElem?_cons_succ, Option.getD_some] at e6 e8
      go_simp
      refine ((HA _).out).mono ?_
      rintro e w' ⟨rfl, hb'⟩
      refine hK _ _ (hS.trans (hb'.mono hS.size)) hb' ?_
      exact fits_is _ _
    refine Vals5.Steps.run rfl (Vals5.Stable.is _) ?_ ?_
    · intro a W hS pre old K hK
      have e2 := old 2 _ (by kernel_rfl) rfl
      clear pre old
      simp only [Vals5.fits, Array.getD_eq_getD_getElem?, List.getElem?_toArray, List.getElem?_cons_zero, List.getElem?_cons_succ, Option.getD_some] at e2
      go_simp
      refine hK _ _ hS (Below.refl _ _) ?_
      exact fits_is _ _
    refine Vals5.Steps.run rfl (Vals5.Stable.is _) ?_ ?_
    · intro a W hS pre old K hK
      have e10 := pre 5 10 _ (by kernel_rfl) rfl rfl
      clear pre old
      simp only [Vals5.fits, Array.getD_eq_getD_getElem?, List.getElem?_toArray, List.getElem?_cons_zero, List.getElem?_cons_succ, Option.getD_some] at e10
      have hS9 := hS
      have bw9 : Below W2.heap.size W2 W := (Below.drew (Below.refl _ _)).trans (hS9.mono (by first | exact Nat.le_refl _ | (simp; done)))
      have e0_ := keep_cell bw9 c0
      have e1_ := keep_cell bw9 d0
      have e2_ := keep_cell bw9 d3
      go_simp
      refine hK _ _ hS (Below.refl _ _) ?_
      exact fits_is _ _
    refine Vals5.Steps.run rfl (Vals5.Stable.is _) ?_ ?_
    · intro a W hS pre old K hK
      have e3 := old 3 _ (by kernel_rfl) rfl
      clear pre old
      simp only [Vals5.fits, Array.getD_eq_getD_getElem?, List.getElem?_toArray, List.getElem?_cons_zero, List.getElem?_cons_succ, Option.getD_some] at e3
      go_simp
      refine hK _ _ hS (Below.refl _ _) ?_
      exact fits_is _ _
    refine Vals5.Steps.run rfl (Vals5.Stable.is _) ?_ ?_
    · intro a W hS pre old K hK
      have e12 := pre 7 12 _ (by kernel_rfl) rfl rfl
      clear pre old
      simp only [Vals5.fits, Array.getD_eq_getD_getElem?, List.getElem?_toArray, List.getElem?_cons_zero, List.getElem?_cons_succ, Option.getD_some] at e12
      have hS9 := hS
      have bw9 : Below W2.heap.size W2 W := (Below.drew (Below.refl _ _)).trans (hS9.mono (by first | exact Nat.le_refl _ | (simp; done)))
      have e0_ := keep_cell bw9 c0
      have e1_ := keep_cell bw9 d0
      have e2_ := keep_cell bw9 d3
      go_simp
      refine hK _ _ hS (Below.refl _ _) ?_
      exact fits_is _ _
    refine Vals5.Steps.run rfl (Vals5.Stable.is _) ?_ ?_
    · intro a W hS pre old K hK
      have e11 := pre 6 11 _ (by kernel_rfl) rfl rfl
      have e13 := pre 8 13 _ (by kernel_rfl) rfl rfl
      clear pre old
      simp only [Vals5.fits, Array.getD_eq_getD_getElem?, List.getElem?_toArray, List.getElem?_cons_zero, List.getElem?_cons_succ, Option.getD_some] at e11 e13
      go_simp
      refine hK _ _ hS (Below.refl _ _) ?_
      exact fits_is _ _
    refine Vals5.Steps.run rfl (Vals5.Stable.is _) ?_ ?_
    · intro a W hS pre old K hK
      have e3 := old 3 _ (by kernel_rfl) rfl
      clear pre old
      simp only [Vals5.fits, Array.getD_eq_getD_getElem?, List.getElem?_toArray, List.getElem?_cons_zero, List.getElem?_cons_succ, Option.getD_some] at e3
      go_simp
      refine hK _ _ hS (Below.refl _ _) ?_
      exact fits_is _ _
    refine Vals5.Steps.run rfl (Vals5.Stable.is _) ?_ ?_
    · intro a W hS pre old K hK
      have e15 := pre 10 15 _ (by kernel_rfl) rfl rfl
      clear pre old
      simp only [Vals5.fits, Array.getD_eq_getD_getElem?, List.getElem?_toArray, List.getElem?_cons_zero, List.getElem?_cons_succ, Option.getD_some] at e15
      have hS9 := hS
      have bw9 : Below W2.heap.size W2 W := (Below.drew (Below.refl _ _)).trans (hS9.mono (by first | exact Nat.le_refl _ | (simp; done)))
      have e0_ := keep_cell bw9 c0
      have e1_ := keep_cell bw9 d0
      have e2_ := keep_cell bw9 d3
      go_simp
      refine hK _ _ hS (Below.refl _ _) ?_
      exact fits_is _ _
    refine Vals5.Steps.run rfl (Vals5.Stable.is _) ?_ ?_
    · intro a W hS pre old K hK
      have e14 := pre 9 14 _ (by kernel_rfl) rfl rfl
      have e16 := pre 11 16 _ (by kernel_rfl) rfl rfl
      clear pre old
      simp only [Vals5.fits, Array.getD_eq_getD_getElem?, List.getElem?_toArray, List.getElem?_cons_zero, List.getElem?_cons_succ, Option.getD_some] at e14 e16
      go_simp
      refine ((HB _).out).mono ?_
      rintro e w' ⟨rfl, hb'⟩
      refine hK _ _ (hS.trans (hb'.mono hS.size)) hb' ?_
      exact fits_is _ _
    refine Vals5.Steps.run rfl (Vals5.Stable.is _) ?_ ?_
    · intro a W hS pre old K hK
      have e9 := pre 4 9 _ (by kernel_rfl) rfl rfl
      have e17 := pre 12 17 _ (by kernel_rfl) rfl rfl
      clear pre old
      simp only [Vals5.fits, Array.getD_eq_getD_getElem?, List.getElem?_toArray, List.getElem?_cons_zero, List.getElem?_cons_succ, Option.getD_some] at e9 e17
      go_simp
      refine hK _ _ hS (Below.refl _ _) ?_
      exact fits_is _ _
    exact Vals5.Steps.nil
  case hend =>
  rintro X hX
  have hsX := hs.keep (Below.drew (Below.refl _ _)) |>.keep hX
  simp only [Vals5.All, List.getLast_cons_cons, List.getLast_singleton]
  simp only [Vals.putAll, List.setIfInBounds_toArray, List.set_cons_zero, List.set_cons_succ]
  intro K hK
  go_simp
  refine hK _ _ ?_
  clear hK K
  go_wp2_with fail
  go_ret
  exact ⟨rfl, hsX.1⟩
set_option maxRecDepth 100000 in
set_option maxHeartbeats 8000000 in
theorem rpassed_c (lo hi : Int) (P F pa fa S to d : Nat) (w : World) (k : Fit P F pa fa S d) (hpa : pa ≤ 20) (hfa : fa ≤ 21) (hto : to ≤ 20) :
    Calls Try.prog 89 #[.agg (gV P lo hi), .agg (lV F pa fa S to), .int .i64 d] w fun e w' => e = .returned (.tuple #[.int .i64 (avgS P F pa fa S to d (fun _ => 1) : Nat), .int .i64 (avgS P F pa fa S to d (fun v => v) : Nat)]) ∧ Below w.heap.size w w' := by
  have hs := ((Since.refl w).alloc (.cells (gV P lo hi) 25)).alloc (.cells (lV F pa fa S to) 38)
  have HG := Lib.hid ((Blk.new w 25 (gV P lo hi)).alloc (.cells (lV F pa fa S to) 38))
  have HL := Lib.hid (Blk.new1 w (.cells (gV P lo hi) 25) 38 (lV F pa fa S to))
  obtain ⟨hd, hF, hS, hpf, hP⟩ : d ≤ P ∧ F ≤ P ∧ S ≤ P - F ∧ pa + 1 ≤ fa ∧ P ≤ 20 := ⟨k.d, k.f, k.s, k.t, k.p⟩
  obtain ⟨t1, ht1⟩ : ∃ t : Nat → Nat → Nat, t = fun i j => if pas2 pa fa to i j then case2 P F S d i j * (fun _ => 1) (left2 pa d i j) else 0 := ⟨_, rfl⟩
  obtain ⟨t2, ht2⟩ : ∃ t : Nat → Nat → Nat, t = fun i j => if pas2 pa fa to i j then case2 P F S d i j * (fun v => v) (left2 pa d i j) else 0 := ⟨_, rfl⟩
  have HA1 : Hid (avgS P F pa fa S to d (fun _ => 1) = sumN (F + 1) fun i => sumN (S + 1) (t1 i)) := by show _ = _; rw [ht1]; rfl
  have HA2 : Hid (avgS P F pa fa S to d (fun v => v) = sumN (F + 1) fun i => sumN (S + 1) (t2 i)) := by show _ = _; rw [ht2]; rfl
  have hcl := cases_le (S := S) hP hF
  have HB1 : Hid (∀ i j, i ≤ F → j ≤ S + 1 → sumN i (fun i => sumN (S + 1) (t1 i)) + sumN j (t1 i) ≤ 133024320) := fun i j hi hj => by
    refine Nat.le_trans (rows_le t1 hi hj) ?_
    rw [← HA1.out]
    have h := avgS_le (pa := pa) (fa := fa) (to := to) (F := F) (S := S) (wo := fun _ => 1) hd (m := 1) (fun _ _ => Nat.le_refl _)
    omega
  have HB2 : Hid (∀ i j, i ≤ F → j ≤ S + 1 → sumN i (fun i => sumN (S + 1) (t2 i)) + sumN j (t2 i) ≤ 133024320 * 20) := fun i j hi hj => by
    refine Nat.le_trans (rows_le t2 hi hj) ?_
    rw [← HA2.out]
    have h := avgS_le (pa := pa) (fa := fa) (to := to) (F := F) (S := S) (wo := fun v => v) hd (m := 20) (fun v hv => by omega)
    omega
  have HCS : Hid (∀ i j, i ≤ F → j ≤ S → ∃ x y n : Nat, shI P d F i = x ∧ shI ((P : Int) - F) ((d : Int) - i) S j = y ∧ x * y = n ∧ n ≤ 133024320 ∧ (i + j ≤ d ∨ n = 0) ∧
      (i < fa → i ≤ pa → t1 i j = n ∧ t2 i j = n * (d - i)) ∧ (i < fa → pa < i → i + j ≤ to → t1 i j = n ∧ t2 i j = n * (d - (i + j))) ∧ (pa < i → to < i + j → t1 i j = 0 ∧ t2 i j = 0)) := fun i j hi hj => by
    refine ⟨_, _, _, rfl, rfl, rfl, ?_, ?_, ?_, ?_, ?_⟩
    · rw [case_nat hd hF hi hj]; exact Nat.le_trans (case_le hd hi hj) hcl
    · rw [case_nat hd hF hi hj]
      rcases Nat.lt_or_ge d (i + j) with h | h
      · exact .inr (case_zero h)
      · exact .inl h
    · intro h1 h2
      rw [case_nat hd hF hi hj, ht1, ht2]
      have hp : pas2 pa fa to i j = true := by simp [pas2, h1, h2]
      simp only [hp, if_true, Nat.mul_one]
      unfold left2
      rw [if_pos h2]
      exact ⟨trivial, rfl⟩
    · intro h1 h2 h3
      rw [case_nat hd hF hi hj, ht1, ht2]
      have hp : pas2 pa fa to i j = true := by simp [pas2, h1, h3]
      simp only [hp, if_true, Nat.mul_one]
      unfold left2
      rw [if_neg (by omega), Nat.sub_sub]
      exact ⟨trivial, rfl⟩
    · intro h2 h3
      rw [ht1, ht2]
      have hp : pas2 pa fa to i j = false := by simp [pas2]; omega
      simp only [hp, if_false, Bool.false_eq_true]
      exact ⟨trivial, trivial⟩
  have HZ : Hid (∀ i, fa ≤ i → i ≤ F → (avgS P F pa fa S to d (fun _ => 1) = sumN i fun i => sumN (S + 1) (t1 i)) ∧ (avgS P F pa fa S to d (fun v => v) = sumN i fun i => sumN (S + 1) (t2 i))) := fun i h1 h2 => by
    rw [HA1.out, HA2.out]
    have hz : ∀ i', i ≤ i' → ∀ j, pas2 pa fa to i' j = false := fun i' h j => by simp [pas2]; omega
    constructor
    · exact sumN_short (by omega) fun i' h3 _ => sumN_zero fun j _ => by rw [ht1]; simp only [hz i' h3 j, if_false, Bool.false_eq_true]
    · exact sumN_short (by omega) fun i' h3 _ => sumN_zero fun j _ => by rw [ht2]; simp only [hz i' h3 j, if_false, Bool.false_eq_true]
  obtain ⟨A1, hA1⟩ : ∃ a, avgS P F pa fa S to d (fun _ => 1) = a := ⟨_, rfl⟩
  obtain ⟨A2, hA2⟩ : ∃ a, avgS P F pa fa S to d (fun v => v) = a := ⟨_, rfl⟩
  rw [hA1, hA2] at HZ
  rw [hA1] at HA1 ⊢
  rw [hA2] at HA2 ⊢
  obtain ⟨W2, hW2⟩ : ∃ W2, (w.alloc (.cells (gV P lo hi) 25)).alloc (.cells (lV F pa fa S to) 38) = W2 := ⟨_, rfl⟩
  rw [hW2] at hs HG HL
  have HS0 := Lib.hid (Since.refl W2)
  have hsw := Lib.hid hs
  clear ht1 ht2 hA1 hA2 k hcl hs
  go_enter Try.func89, Try.ntmps89
  go_wp2_with fail
  first | rw [hW2] | skip
  clear hW2
  go_loopw [8, 9, 10, 11, 12] (fun u v i _ _ wr => ∃ a s m : Nat, m ≤ F + 1 ∧ u = .int .i64 a ∧ v = .int .i64 s ∧ i = .int .i64 m ∧ Hid ((sumN m fun i => sumN (S + 1) (t1 i)) = a) ∧ Hid ((sumN m fun i => sumN (S + 1) (t2 i)) = s) ∧ Hid (Since W2 wr)) (fun _ _ i _ _ _ => F + 1 - (intOf i).toNat)
  case atStart => exact ⟨0, 0, 0, by omega, rfl, rfl, rfl, rfl, rfl, HS0⟩
  case round =>
    clear HS0
    obtain ⟨a, s, i, hi, rfl, rfl, rfl, Ha, Hs, HS⟩ := hrel
    obtain ⟨c0, c1, c2⟩ := (HG.out.keep HS.out.1).gcells
    obtain ⟨d0, d1, d2, d3, d4⟩ := (HL.out.keep HS.out.1).lcells
    by_cases hiF : i ≤ F
    · have r1 : (i : Int) ≤ (F : Int) := by omega
      by_cases hif : i < fa
      · have r2 : (i : Int) < (fa : Int) := by omega
        have u1 : IntKind.i64.wrap ((i : Int) + 1) = ((i + 1 : Nat) : Int) := by rw [wrapI (by unfold I64; omega)]; omega
        have HSt := Lib.hid HS.out
        have Hai : Hid ((sumN i fun i => sumN (S + 1) (t1 i)) + sumN 0 (t1 i) = a) := by show _ = _; rw [Ha.out]; rfl
        have Hsi : Hid ((sumN i fun i => sumN (S + 1) (t2 i)) + sumN 0 (t2 i) = s) := by show _ = _; rw [Hs.out]; rfl
        clear Ha Hs
        go_wp2_with fail
        clear c0 c1 c2 d0 d1 d2 d3 d4
        go_loopw [8, 9, 11, 12] (fun u v jv _ wr => ∃ a s j : Nat, j ≤ S + 1 ∧ u = .int .i64 a ∧ v = .int .i64 s ∧ jv = .int .i64 j ∧ Hid ((sumN i fun i => sumN (S + 1) (t1 i)) + sumN j (t1 i) = a) ∧ Hid ((sumN i fun i => sumN (S + 1) (t2 i)) + sumN j (t2 i) = s) ∧ Hid (Since W2 wr)) (fun _ _ jv _ _ => S + 1 - (intOf jv).toNat)
        case atStart => exact ⟨a, s, 0, by omega, rfl, rfl, rfl, Hai, Hsi, HSt⟩
        case round =>
          clear Hai Hsi HSt HS
          obtain ⟨a, s, j, hj, rfl, rfl, rfl, Ha, Hs, HS⟩ := hrel
          obtain ⟨c0, c1, c2⟩ := (HG.out.keep HS.out.1).gcells
          obtain ⟨d0, d1, d2, d3, d4⟩ := (HL.out.keep HS.out.1).lcells
          by_cases hjS : j ≤ S
          · have r3 : (j : Int) ≤ (S : Int) := by omega
            have u2 : IntKind.i64.wrap ((j : Int) + 1) = ((j + 1 : Nat) : Int) := by rw [wrapI (by unfold I64; omega)]; omega
            obtain ⟨x, y, n, ex, ey, en, bn_, en0, k1, k2, k3⟩ := HCS.out i j hiF hjS
            have HX1 := fun W => Lib.hid (rshows_c (P : Int) d F i W (by omega) (by omega) (by unfold I64; omega) (by unfold I64; omega))
            have HX2 := fun W => Lib.hid (rshows_c ((P : Int) - F) ((d : Int) - i) S j W (by omega) (by omega) (by unfold I64; omega) (by unfold I64; omega))
            rw [ex] at HX1
            rw [ey] at HX2
            obtain ⟨pf, hpf_⟩ : ∃ q : Int, (P : Int) - F = q := ⟨_, rfl⟩
            obtain ⟨di, hdi⟩ : ∃ q : Int, (d : Int) - i = q := ⟨_, rfl⟩
            rw [hpf_, hdi] at HX2
            have u3 : IntKind.i64.wrap ((P : Int) - (F : Int)) = pf := by rw [hpf_]; exact wrapI (by unfold I64; omega)
            have u4 : IntKind.i64.wrap ((d : Int) - (i : Int)) = di := by rw [hdi]; exact wrapI (by unfold I64; omega)
            have u5 : IntKind.i64.wrap ((x : Int) * (y : Int)) = (n : Int) := by rw [← Int.natCast_mul, en, wrapI (by unfold I64; omega)]
            have HDI := Lib.hid hdi
            have b1 := HB1.out i (j + 1) hiF (by omega)
            have b2 := HB2.out i (j + 1) hiF (by omega)
            rw [sumN_succ, ← Nat.add_assoc] at b1 b2
            rw [Ha.out] at b1
            rw [Hs.out] at b2
            have HK1 := Lib.hid k1
            have HK2 := Lib.hid k2
            have HK3 := Lib.hid k3
            have HE0 := Lib.hid en0
            have Ha' := Lib.hid (fun q (h : t1 i j = q) => show (sumN i fun i => sumN (S + 1) (t1 i)) + sumN (j + 1) (t1 i) = a + q by rw [sumN_succ, ← Nat.add_assoc, Ha.out, h])
            have Hs' := Lib.hid (fun q (h : t2 i j = q) => show (sumN i fun i => sumN (S + 1) (t2 i)) + sumN (j + 1) (t2 i) = s + q by rw [sumN_succ, ← Nat.add_assoc, Hs.out, h])
            clear hpf_ hdi ex ey en k1 k2 k3 en0 Ha Hs
            go_wp2_with fail
            refine Vals6.regionAll (fun X => Below wr.drew.heap.size wr.drew X) [some 31, some 32, some 33, some 34, some 35, some 36, some 37, some 38, some 39, some 40, some 41, some 42, some 43, some 44, some 45, some 46, some 47, some 48, some 49, some 50] [.is ?_, .is (.int .i64 (P : Nat)), .is (.int .i64 (d : Nat)), .is ?_, .is (.int .i64 (F : Nat)), .is (.int .i64 (i : Nat)), .is (.int .i64 (x : Nat)), .is ?_, .is (.int .i64 (P : Nat)), .is ?_, .is (.int .i64 (F : Nat)), .is (.int .i64 pf), .is (.int .i64 (d : Nat)), .is (.int .i64 (i : Nat)), .is (.int .i64 di), .is ?_, .is (.int .i64 (S : Nat)), .is (.int .i64 (j : Nat)), .is (.int .i64 (y : Nat)), .is (.int .i64 (n : Nat))] (by kernel_rfl) rfl rfl (by kernel_rfl) (by kernel_rfl) (by kernel_rfl) (by kernel_rfl) (by kernel_rfl) (by kernel_rfl) rfl (Below.refl _ _) ?hsteps ?hend
            case hsteps =>
              refine Vals5.Steps.run rfl (Vals5.Stable.is _) ?_ ?_
              · intro a W hS pre old K hK
                have e3 := old 3 _ (by kernel_rfl) rfl
                clear pre old
                simp only [Vals5.fits, Array.getD_eq_getD_getElem?, List.getElem?_toArray, List.getElem?_cons_zero, List.getElem?_cons_succ, Option.getD_some] at e3
                go_simp
                refine hK _ _ hS (Below.refl _ _) ?_
                exact fits_is _ _
              refine Vals5.Steps.run rfl (Vals5.Stable.is _) ?_ ?_
              · intro a W hS pre old K hK
                have e31 := pre 0 31 _ (by kernel_rfl) rfl rfl
                clear pre old
                simp only [Vals5.fits, Array.getD_eq_getD_getElem?, List.getElem?_toArray, List.getElem?_cons_zero, List.getElem?_cons_succ, Option.getD_some] at e31
                have hS9 := hS
                have bw9 : Below wr.heap.size wr W := (Below.drew (Below.refl _ _)).trans (hS9.mono (by first | exact Nat.le_refl _ | (simp; done)))
                have e0_ := keep_cell bw9 c0
                have e1_ := keep_cell bw9 d0
                have e2_ := keep_cell bw9 d3
                go_simp
                refine hK _ _ hS (Below.refl _ _) ?_
                exact fits_is _ _
              refine Vals5.Steps.run rfl (Vals5.Stable.is _) ?_ ?_
              · intro a W hS pre old K hK
                have e2 := old 2 _ (by kernel_rfl) rfl
                clear pre old
                simp only [Vals5.fits, Array.getD_eq_getD_getElem?, List.getElem?_toArray, List.getElem?_cons_zero, List.getElem?_cons_succ, Option.getD_some] at e2
                go_simp
                refine hK _ _ hS (Below.refl _ _) ?_
                exact fits_is _ _
              refine Vals5.Steps.run rfl (Vals5.Stable.is _) ?_ ?_
              · intro a W hS pre old K hK
                have e4 := old 4 _ (by kernel_rfl) rfl
                clear pre old
                simp only [Vals5.fits, Array.getD_eq_getD_getElem?, List.getElem?_toArray, List.getElem?_cons_zero, List.getElem?_cons_succ, Option.getD_some] at e4
                go_simp
                refine hK _ _ hS (Below.refl _ _) ?_
                exact fits_is _ _
              refine Vals5.Steps.run rfl (Vals5.Stable.is _) ?_ ?_
              · intro a W hS pre old K hK
                have e34 := pre 3 34 _ (by kernel_rfl) rfl rfl
                clear pre old
                simp only [Vals5.fits, Array.getD_eq_getD_getElem?, List.getElem?_toArray, List.getElem?_cons_zero, List.getElem?_cons_succ, Option.getD_some] at e34
                have hS9 := hS
                have bw9 : Below wr.heap.size wr W := (Below.drew (Below.refl _ _)).trans (hS9.mono (by first | exact Nat.le_refl _ | (simp; done)))
                have e0_ := keep_cell bw9 c0
                have e1_ := keep_cell bw9 d0
                have e2_ := keep_cell bw9 d3
                go_simp
                refine hK _ _ hS (Below.refl _ _) ?_
                exact fits_is _ _
              refine Vals5.Steps.run rfl (Vals5.Stable.is _) ?_ ?_
              · intro a W hS pre old K hK
                have e10 := old 10 _ (by kernel_rfl) rfl
                clear pre old
                simp only [Vals5.fits, Array.getD_eq_getD_getElem?, List.getElem?_toArray, List.getElem?_cons_zero, List.getElem?_cons_succ, Option.getD_some] at e10
                go_simp
                refine hK _ _ hS (Below.refl _ _) ?_
                exact fits_is _ _
              refine Vals5.Steps.run rfl (Vals5.Stable.is _) ?_ ?_
              · intro a W hS pre old K hK
                have e32 := pre 1 32 _ (by kernel_rfl) rfl rfl
                have e33 := pre 2 33 _ (by kernel_rfl) rfl rfl
                have e35 := pre 4 35 _ (by kernel_rfl) rfl rfl
                have e36 := pre 5 36 _ (by kernel_rfl) rfl rfl
                clear pre old
                simp only [Vals5.fits, Array.getD_eq_getD_getElem?, List.getElem?_toArray, List.getElem?_cons_zero, List.getElem?_cons_succ, Option.getD_some] at e32 e33 e35 e36
                go_simp
                refine ((HX1 _).out).mono ?_
                rintro e w' ⟨rfl, hb'⟩
                refine hK _ _ (hS.trans (hb'.mono hS.size)) hb' ?_
                exact fits_is _ _
              refine Vals5.Steps.run rfl (Vals5.Stable.is _) ?_ ?_
              · intro a W hS pre old K hK
                have e3 := old 3 _ (by kernel_rfl) rfl
                clear pre old
                simp only [Vals5.fits, Array.getD_eq_getD_getElem?, List.getElem?_toArray, List.getElem?_cons_zero, List.getElem?_cons_succ, Option.getD_some] at e3
                go_simp
                refine hK _ _ hS (Below.refl _ _) ?_
                exact fits_is _ _
              refine Vals5.Steps.run rfl (Vals5.Stable.is _) ?_ ?_
              · intro a W hS pre old K hK
                have e38 := pre 7 38 _ (by kernel_rfl) rfl rfl
                clear pre old
                simp only [Vals5.fits, Array.getD_eq_getD_getElem?, List.getElem?_toArray, List.getElem?_cons_zero, List.getElem?_cons_succ, Option.getD_some] at e38
                have hS9 := hS
                have bw9 : Below wr.heap.size wr W := (Below.drew (Below.refl _ _)).trans (hS9.mono (by first | exact Nat.le_refl _ | (simp; done)))
                have e0_ := keep_cell bw9 c0
                have e1_ := keep_cell bw9 d0
                have e2_ := keep_cell bw9 d3
                go_simp
                refine hK _ _ hS (Below.refl _ _) ?_
                exact fits_is _ _
              refine Vals5.Steps.run rfl (Vals5.Stable.is _) ?_ ?_
              · intro a W hS pre old K hK
                have e4 := old 4 _ (by kernel_rfl) rfl
                clear pre old
                simp only [Vals5.fits, Array.getD_eq_getD_getElem?, List.getElem?_toArray, List.getElem?_cons_zero, List.getElem?_cons_succ, Option.getD_some] at e4
                go_simp
                refine hK _ _ hS (Below.refl _ _) ?_
                exact fits_is _ _
              refine Vals5.Steps.run rfl (Vals5.Stable.is _) ?_ ?_
              · intro a W hS pre old K hK
                have e40 := pre 9 40 _ (by kernel_rfl) rfl rfl
                clear pre old
                simp only [Vals5.fits, Array.getD_eq_getD_getElem?, List.getElem?_toArray, List.getElem?_cons_zero, List.getElem?_cons_succ, Option.getD_some] at e40
                have hS9 := hS
                have bw9 : Below wr.heap.size wr W := (Below.drew (Below.refl _ _)).trans (hS9.mono (by first | exact Nat.le_refl _ | (simp; done)))
                have e0_ := keep_cell bw9 c0
                have e1_ := keep_cell bw9 d0
                have e2_ := keep_cell bw9 d3
                go_simp
                refine hK _ _ hS (Below.refl _ _) ?_
                exact fits_is _ _
              refine Vals5.Steps.run rfl (Vals5.Stable.is _) ?_ ?_
              · intro a W hS pre old K hK
                have e39 := pre 8 39 _ (by kernel_rfl) rfl rfl
                have e41 := pre 10 41 _ (by kernel_rfl) rfl rfl
                clear pre old
                simp only [Vals5.fits, Array.getD_eq_getD_getElem?, List.getElem?_toArray, List.getElem?_cons_zero, List.getElem?_cons_succ, Option.getD_some] at e39 e41
                go_simp
                refine hK _ _ hS (Below.refl _ _) ?_
                exact fits_is _ _
              refine Vals5.Steps.run rfl (Vals5.Stable.is _) ?_ ?_
              · intro a W hS pre old K hK
                have e2 := old 2 _ (by kernel_rfl) rfl
                clear pre old
                simp only [Vals5.fits, Array.getD_eq_getD_getElem?, List.getElem?_toArray, List.getElem?_cons_zero, List.getElem?_cons_succ, Option.getD_some] at e2
                go_simp
                refine hK _ _ hS (Below.refl _ _) ?_
                exact fits_is _ _
              refine Vals5.Steps.run rfl (Vals5.Stable.is _) ?_ ?_
              · intro a W hS pre old K hK
                have e10 := old 10 _ (by kernel_rfl) rfl
                clear pre old
                simp only [Vals5.fits, Array.getD_eq_getD_getElem?, List.getElem?_toArray, List.getElem?_cons_zero, List.getElem?_cons_succ, Option.getD_some] at e10
                go_simp
                refine hK _ _ hS (Below.refl _ _) ?_
                exact fits_is _ _
              refine Vals5.Steps.run rfl (Vals5.Stable.is _) ?_ ?_
              · intro a W hS pre old K hK
                have e43 := pre 12 43 _ (by kernel_rfl) rfl rfl
                have e44 := pre 13 44 _ (by kernel_rfl) rfl rfl
                clear pre old
                simp only [Vals5.fits, Array.getD_eq_getD_getElem?, List.getElem?_toArray, List.getElem?_cons_zero, List.getElem?_cons_succ, Option.getD_some] at e43 e44
                go_simp
                refine hK _ _ hS (Below.refl _ _) ?_
                exact fits_is _ _
              refine Vals5.Steps.run rfl (Vals5.Stable.is _) ?_ ?_
              · intro a W hS pre old K hK
                have e4 := old 4 _ (by kernel_rfl) rfl
                clear pre old
                simp only [Vals5.fits, Array.getD_eq_getD_getElem?, List.getElem?_toArray, List.getElem?_cons_zero, List.getElem?_cons_succ, Option.getD_some] at e4
                go_simp
                refine hK _ _ hS (Below.refl _ _) ?_
                exact fits_is _ _
              refine Vals5.Steps.run rfl (Vals5.Stable.is _) ?_ ?_
              · intro a W hS pre old K hK
                have e46 := pre 15 46 _ (by kernel_rfl) rfl rfl
                clear pre old
                simp only [Vals5.fits, Array.getD_eq_getD_getElem?, List.getElem?_toArray, List.getElem?_cons_zero, List.getElem?_cons_succ, Option.getD_some] at e46
                have hS9 := hS
                have bw9 : Below wr.heap.size wr W := (Below.drew (Below.refl _ _)).trans (hS9.mono (by first | exact Nat.le_refl _ | (simp; done)))
                have e0_ := keep_cell bw9 c0
                have e1_ := keep_cell bw9 d0
                have e2_ := keep_cell bw9 d3
                go_simp
                refine hK _ _ hS (Below.refl _ _) ?_
                exact fits_is _ _
              refine Vals5.Steps.run rfl (Vals5.Stable.is _) ?_ ?_
              · intro a W hS pre old K hK
                have e11 := old 11 _ (by kernel_rfl) rfl
                clear pre old
                simp only [Vals5.fits, Array.getD_eq_getD_getElem?, List.getElem?_toArray, List.getElem?_cons_zero, List.getElem?_cons_succ, Option.getD_some] at e11
                go_simp
                refine hK _ _ hS (Below.refl _ _) ?_
                exact fits_is _ _
              refine Vals5.Steps.run rfl (Vals5.Stable.is _) ?_ ?_
              · intro a W hS pre old K hK
                have e42 := pre 11 42 _ (by kernel_rfl) rfl rfl
                have e45 := pre 14 45 _ (by kernel_rfl) rfl rfl
                have e47 := pre 16 47 _ (by kernel_rfl) rfl rfl
                have e48 := pre 17 48 _ (by kernel_rfl) rfl rfl
                clear pre old
                simp only [Vals5.fits, Array.getD_eq_getD_getElem?, List.getElem?_toArray, List.getElem?_cons_zero, List.getElem?_cons_succ, Option.getD_some] at e42 e45 e47 e48
                go_simp
                refine ((HX2 _).out).mono ?_
                rintro e w' ⟨rfl, hb'⟩
                refine hK _ _ (hS.trans (hb'.mono hS.size)) hb' ?_
                exact fits_is _ _
              refine Vals5.Steps.run rfl (Vals5.Stable.is _) ?_ ?_
              · intro a W hS pre old K hK
                have e37 := pre 6 37 _ (by kernel_rfl) rfl rfl
                have e49 := pre 18 49 _ (by kernel_rfl) rfl rfl
                clear pre old
                simp only [Vals5.fits, Array.getD_eq_getD_getElem?, List.getElem?_toArray, List.getElem?_cons_zero, List.getElem?_cons_succ, Option.getD_some] at e37 e49
                go_simp
                refine hK _ _ hS (Below.refl _ _) ?_
                exact fits_is _ _
              exact Vals5.Steps.nil
            case hend =>
            rintro X hX
            have hbX : Below wr.heap.size wr X := (Below.drew (Below.refl _ _)).trans (hX.mono (by first | exact Nat.le_refl _ | (simp; done)))
            have hsX := Lib.hid (HS.out.keep hbX)
            replace d1 := keep_cell hbX d1
            replace d4 := keep_cell hbX d4
            clear c0 c1 c2 d0 d2 d3 hbX
            simp only [Vals5.All, List.getLast_cons_cons, List.getLast_singleton]
            simp only [Vals.putAll, List.setIfInBounds_toArray, List.set_cons_zero, List.set_cons_succ]
            intro K hK
            go_simp
            refine hK _ _ ?_
            clear hK K
            by_cases hip : i ≤ pa
            · have r4 : (i : Int) ≤ (pa : Int) := by omega
              obtain ⟨e1, e2⟩ := HK1.out hif hip
              have hml := mul_left_nat (n := n) (d := d) (i := i) (by rcases HE0.out with h | h; exact .inl (by omega); exact .inr h)
              obtain ⟨q, hq⟩ : ∃ q, n * (d - i) = q := ⟨_, rfl⟩
              rw [hq] at hml e2
              rw [HDI.out] at hml
              have ha2 := Lib.hid (Ha'.out n e1)
              have hs2 := Lib.hid (Hs'.out q e2)
              rw [e1] at b1
              rw [e2] at b2
              obtain ⟨a2, ha0⟩ : ∃ q, a + n = q := ⟨_, rfl⟩
              obtain ⟨s2, hs0⟩ : ∃ z, s + q = z := ⟨_, rfl⟩
              rw [ha0] at ha2
              rw [hs0] at hs2
              have u6 : IntKind.i64.wrap ((n : Int) * di) = (q : Int) := by rw [hml, wrapI (by unfold I64; omega)]
              have u7 : IntKind.i64.wrap ((a : Int) + (n : Int)) = (a2 : Int) := by rw [wrapI (by unfold I64; omega)]; omega
              have u8 : IntKind.i64.wrap ((s : Int) + (q : Int)) = (s2 : Int) := by rw [wrapI (by unfold I64; omega)]; omega
              clear hml hq ha0 hs0 e1 e2 b1 b2 HK1 HK2 HK3 Ha' Hs'
              go_wp2_with fail
              go_roundw
              case rel => exact ⟨a2, s2, j + 1, by omega, rfl, rfl, by go_num, ha2, hs2, hsX⟩
              case measure => simp [intOf]; omega
            · have r4 : ¬ (i : Int) ≤ (pa : Int) := by omega
              have u9 : IntKind.i64.wrap ((i : Int) + (j : Int)) = ((i + j : Nat) : Int) := by rw [wrapI (by unfold I64; omega)]; omega
              obtain ⟨ij, hij⟩ : ∃ q, i + j = q := ⟨_, rfl⟩
              rw [hij] at u9 HK2 HK3 HE0
              by_cases hto2 : ij ≤ to
              · have r5 : (ij : Int) ≤ (to : Int) := by omega
                obtain ⟨e1, e2⟩ := HK2.out hif (by omega) hto2
                have hml := mul_left_nat (n := n) (d := d) (i := ij) HE0.out
                obtain ⟨q, hq⟩ : ∃ q, n * (d - ij) = q := ⟨_, rfl⟩
                rw [hq] at hml e2
                obtain ⟨dj, hdj⟩ : ∃ q : Int, di - (j : Int) = q := ⟨_, rfl⟩
                have hdj2 : (d : Int) - (ij : Int) = dj := by have := HDI.out; omega
                rw [hdj2] at hml
                have ha2 := Lib.hid (Ha'.out n e1)
                have hs2 := Lib.hid (Hs'.out q e2)
                rw [e1] at b1
                rw [e2] at b2
                obtain ⟨a2, ha0⟩ : ∃ q, a + n = q := ⟨_, rfl⟩
                obtain ⟨s2, hs0⟩ : ∃ z, s + q = z := ⟨_, rfl⟩
                rw [ha0] at ha2
                rw [hs0] at hs2
                have u10 : IntKind.i64.wrap (di - (j : Int)) = dj := by rw [hdj]; exact wrapI (by have := HDI.out; unfold I64; omega)
                have u6 : IntKind.i64.wrap ((n : Int) * dj) = (q : Int) := by rw [hml, wrapI (by unfold I64; omega)]
                have u7 : IntKind.i64.wrap ((a : Int) + (n : Int)) = (a2 : Int) := by rw [wrapI (by unfold I64; omega)]; omega
                have u8 : IntKind.i64.wrap ((s : Int) + (q : Int)) = (s2 : Int) := by rw [wrapI (by unfold I64; omega)]; omega
                clear hml hq hdj hdj2 ha0 hs0 e1 e2 b1 b2 HK1 HK2 HK3 Ha' Hs' hij
                go_wp2_with fail
                go_roundw
                case rel => exact ⟨a2, s2, j + 1, by omega, rfl, rfl, by go_num, ha2, hs2, hsX⟩
                case measure => simp [intOf]; omega
              · have r5 : ¬ (ij : Int) ≤ (to : Int) := by omega
                obtain ⟨e1, e2⟩ := HK3.out (by omega) (by omega)
                have ha2 := Lib.hid (Ha'.out 0 e1)
                have hs2 := Lib.hid (Hs'.out 0 e2)
                rw [Nat.add_zero] at ha2 hs2
                clear e1 e2 b1 b2 HK1 HK2 HK3 Ha' Hs' hij
                go_wp2_with fail
                go_roundw
                case rel => exact ⟨a, s, j + 1, by omega, rfl, rfl, by go_num, ha2, hs2, hsX⟩
                case measure => simp [intOf]; omega
          · have r3 : ¬ (j : Int) ≤ (S : Int) := by omega
            obtain rfl : j = S + 1 := by omega
            have Ha2 : Hid ((sumN (i + 1) fun i => sumN (S + 1) (t1 i)) = a) := by show _ = _; rw [sumN_succ]; exact Ha.out
            have Hs2 : Hid ((sumN (i + 1) fun i => sumN (S + 1) (t2 i)) = s) := by show _ = _; rw [sumN_succ]; exact Hs.out
            clear Ha Hs
            go_wp2_with fail
            go_roundw
            case rel => exact ⟨a, s, i + 1, by omega, rfl, rfl, by go_num, Ha2, Hs2, HS⟩
            case measure => simp [intOf]; omega
      · have r2 : ¬ (i : Int) < (fa : Int) := by omega
        obtain ⟨e1, e2⟩ := HZ.out i (by omega) hiF
        have E1 : Hid (A1 = a) := by show _ = _; rw [e1, Ha.out]
        have E2 : Hid (A2 = s) := by show _ = _; rw [e2, Hs.out]
        clear e1 e2
        go_wp2_with fail
        go_ret2
        exact ⟨by rw [E1.out, E2.out]; rfl, (hsw.out.keep HS.out.1).1⟩
    · have r1 : ¬ (i : Int) ≤ (F : Int) := by omega
      obtain rfl : i = F + 1 := by omega
      have E1 : Hid (A1 = a) := by show _ = _; rw [HA1.out, Ha.out]
      have E2 : Hid (A2 = s) := by show _ = _; rw [HA2.out, Hs.out]
      go_wp2_with fail
      go_ret2
      exact ⟨by rw [E1.out, E2.out]; rfl, (hsw.out.keep HS.out.1).1⟩
end Td
end Go.Proofs.Ytgkdidnmndmlhaa
