import Derived.Test.YtgkdidnmndmlhaaRSho
/- The law GradeShows: what it returns. -/
namespace Go.Proofs.Ytgkdidnmndmlhaa
open Go.RowKit
namespace Td
set_option linter.unusedSimpArgs false
set_option linter.unusedVariables false
attribute [local go_sem] Oper.semAt_some
theorem Shows_A (P lo hi b n : Int) (w : World) : Calls Try.prog 21 #[.agg (gV P lo hi), .int .i64 b, .int .i64 n] w fun e w' => ShA P lo hi b n e w' ∧ Below w.heap.size w w' := by
  refine (Shows_c P lo hi b n w).mono ?_
  rintro e w' ⟨hb, ⟨h, g, e1, -, hB⟩ | ⟨h, e1⟩⟩
  · exact ⟨.inl ⟨h, g, _, e1, FrB.of hB⟩, hb⟩
  · exact ⟨.inr ⟨h, e1⟩, hb⟩
theorem FrO.one {w : World} {g : Nat} {l : List (Nat × Nat)} (h : FrB w g l) : FrO w (some ⟨g, 0, none⟩) l := fun _ => ⟨g, rfl, h⟩
set_option maxRecDepth 100000 in
set_option maxHeartbeats 4000000 in
theorem gradeShows_c (P lo hi y0 y1 : Int) (w : World) :
    Calls Try.prog 3 #[.agg (gV P lo hi), .agg #[.int .i64 y0, .int .i64 y1]] w fun e w' => e = .returned (.bool true) ∧ Below w.heap.size w w' := by
  have hs := ((Since.refl w).alloc (.cells (gV P lo hi) 25)).alloc (.cells #[.int .i64 y0, .int .i64 y1] 26)
  have HG := Lib.hid ((Blk.new w 25 (gV P lo hi)).alloc (.cells #[.int .i64 y0, .int .i64 y1] 26))
  have HY := Lib.hid (Blk.new1 w (.cells (gV P lo hi) 25) 26 #[.int .i64 y0, .int .i64 y1])
  obtain ⟨W2, hW2⟩ : ∃ W2, (w.alloc (.cells (gV P lo hi) 25)).alloc (.cells #[.int .i64 y0, .int .i64 y1] 26) = W2 := ⟨_, rfl⟩
  rw [hW2] at hs HG HY
  have HC1 := Lib.hid (fun W => Check_c P lo hi W)
  have HC2 := Lib.hid (fun W => rCheck_c P lo hi W)
  have H1 := Lib.hid (fun W => Ways_c y0 y1 W)
  have H2 := Lib.hid (fun W => rWays_c y0 y1 W)
  have H3 := Lib.hid (fun W => Shows_A P lo hi y0 y1 W)
  have H4 := Lib.hid (fun W => rShows_c P lo hi y0 y1 W)
  obtain ⟨EC, hEC⟩ : ∃ V, chkE P lo hi = V := ⟨_, rfl⟩
  rw [hEC] at HC1 HC2
  obtain ⟨⟨m0, e0⟩, hV⟩ : ∃ V, wayA y0 y1 = V := ⟨_, rfl⟩
  rw [hV] at H1 H2
  obtain ⟨L, hL⟩ : ∃ L, shwL P.toNat y0.toNat y1.toNat = L := ⟨_, rfl⟩
  have hlen : L.length = y1.toNat + 1 := by rw [← hL]; unfold shwL; simp
  obtain ⟨n1, hn1⟩ : ∃ n, y1.toNat + 1 = n := ⟨_, rfl⟩
  obtain ⟨ES, hES⟩ : ∃ E, shwE P lo hi y0 y1 = E := ⟨_, rfl⟩
  have HSM : Hid (ES = 0 → ∀ W g g' c d, FrB W g L → FrB W g' L → Calls Try.prog 23 #[.slice (some ⟨g, 0, none⟩) n1 c, .slice (some ⟨g', 0, none⟩) n1 d] W fun e w' => e = .returned (.bool true) ∧ Below W.heap.size W w') := fun hz W g g' c d h1 h2 => by
    have hn20 : y1.toNat ≤ 20 := by
      rw [← hES] at hz
      unfold shwE at hz
      by_cases k1 : chkE P lo hi = 0
      · rw [if_pos k1] at hz
        by_cases k2 : wi lo hi y0 = true ∧ wi 0 P y1 = true
        · have := wi_iff.1 k2.2
          obtain ⟨a1, a2, -⟩ := chkE_ok.1 k1
          omega
        · rw [if_neg k2] at hz; cases hz
      · rw [if_neg k1] at hz; exact absurd hz k1
    have := Same_c (some ⟨g, 0, none⟩) (some ⟨g', 0, none⟩) L L c d W (FrO.one h1) (FrO.one h2) (by omega)
    rw [show decide (L = L) = true from decide_eq_true rfl, hlen, hn1] at this
    exact this
  have HSN : Hid (∀ W, Calls Try.prog 23 #[.slice none 0 0, .slice none 0 0] W fun e w' => e = .returned (.bool true) ∧ Below W.heap.size W w') := fun W => Same_c none none [] [] 0 0 W (fun h => absurd rfl h) (fun h => absurd rfl h) (by simp)
  have HSA : Hid (∀ e w', ShA P lo hi y0 y1 e w' → (ES = 0 ∧ ∃ g c, e = .returned (.tuple #[.slice (some ⟨g, 0, none⟩) n1 c, .int .i64 0]) ∧ FrB w' g L) ∨ (ES ≠ 0 ∧ e = .returned (.tuple #[.slice none 0 0, .int .i64 ES]))) := fun e w' h => by
    unfold ShA at h
    rw [hES, hL, hn1] at h
    exact h
  obtain ⟨c0, c1, c2⟩ := HG.out.gcells
  have z0 := HY.out.cell 0
  have z1 := HY.out.cell 1
  simp only [List.getElem?_toArray, List.getElem?_cons_zero, List.getElem?_cons_succ] at z0 z1
  clear hEC hV hL hlen hn1 hES
  go_enter Try.func3, Try.ntmps3
  go_wp2_with fail
  first | rw [hW2] | skip
  clear hW2
  refine Vals6.regionAll (fun X => Below W2.drew.heap.size W2.drew X) [some 11, some 12, some 13, some 14] [.is (.agg (gV P lo hi)), .is (.int .i64 EC), .is (.agg (gV P lo hi)), .is (.int .i64 EC)] (by kernel_rfl) rfl rfl (by kernel_rfl) (by kernel_rfl) (by kernel_rfl) (by kernel_rfl) (by kernel_rfl) (by kernel_rfl) rfl (Below.refl _ _) ?hsteps ?hend
  case hsteps =>
    refine Vals5.Steps.run rfl (Vals5.Stable.is _) ?_ ?_
    · intro a W hS pre old K hK
      have e2 := old 2 _ (by kernel_rfl) rfl
      clear pre old
      simp only [Vals5.fits, Array.getD_eq_getD_getElem?, List.getElem?_toArray, List.getElem?_cons_zero, List.getElem?_cons_succ, Option.getD_some] at e2
      have hS9 := hS
      have bw9 : Below W2.heap.size W2 W := (Below.drew (Below.refl _ _)).trans (hS9.mono (by first | exact Nat.le_refl _ | (simp; done)))
      have e0_ := keep_cell bw9 c0
      have e1_ := keep_cell bw9 c1
      have e2_ := keep_cell bw9 c2
      go_simp
      refine hK _ _ hS (Below.refl _ _) ?_
      exact fits_is _ _
    refine Vals5.Steps.run rfl (Vals5.Stable.is _) ?_ ?_
    · intro a W hS pre old K hK
      have e11 := pre 0 11 _ (by kernel_rfl) rfl rfl
      clear pre old
      simp only [Vals5.fits, Array.getD_eq_getD_getElem?, List.getElem?_toArray, List.getElem?_cons_zero, List.getElem?_cons_succ, Option.getD_some] at e11
      go_simp
      refine (HC1.out _).mono ?_
      rintro e w' ⟨rfl, hb'⟩
      refine hK _ _ (hS.trans (hb'.mono hS.size)) hb' ?_
      exact fits_is _ _
    refine Vals5.Steps.run rfl (Vals5.Stable.is _) ?_ ?_
    · intro a W hS pre old K hK
      have e2 := old 2 _ (by kernel_rfl) rfl
      clear pre old
      simp only [Vals5.fits, Array.getD_eq_getD_getElem?, List.getElem?_toArray, List.getElem?_cons_zero, List.getElem?_cons_succ, Option.getD_some] at e2
      have hS9 := hS
      have bw9 : Below W2.heap.size W2 W := (Below.drew (Below.refl _ _)).trans (hS9.mono (by first | exact Nat.le_refl _ | (simp; done)))
      have e0_ := keep_cell bw9 c0
      have e1_ := keep_cell bw9 c1
      have e2_ := keep_cell bw9 c2
      go_simp
      refine hK _ _ hS (Below.refl _ _) ?_
      exact fits_is _ _
    refine Vals5.Steps.run rfl (Vals5.Stable.is _) ?_ ?_
    · intro a W hS pre old K hK
      have e13 := pre 2 13 _ (by kernel_rfl) rfl rfl
      clear pre old
      simp only [Vals5.fits, Array.getD_eq_getD_getElem?, List.getElem?_toArray, List.getElem?_cons_zero, List.getElem?_cons_succ, Option.getD_some] at e13
      go_simp
      refine (HC2.out _).mono ?_
      rintro e w' ⟨rfl, hb'⟩
      refine hK _ _ (hS.trans (hb'.mono hS.size)) hb' ?_
      exact fits_is _ _
    exact Vals5.Steps.nil
  case hend =>
  rintro X hX
  have hbX : Below W2.heap.size W2 X := (Below.drew (Below.refl _ _)).trans (hX.mono (by first | exact Nat.le_refl _ | (simp; done)))
  replace hs := hs.keep hbX
  replace HG := Lib.hid (HG.out.keep hbX)
  replace HY := Lib.hid (HY.out.keep hbX)
  clear c0 c1 c2 z0 z1 hbX hX
  simp only [Vals5.All, List.getLast_cons_cons, List.getLast_singleton]
  simp only [Vals.putAll, List.setIfInBounds_toArray, List.set_cons_zero, List.set_cons_succ]
  intro K hK
  go_simp
  refine hK _ _ ?_
  clear hK K
  obtain ⟨c0, c1, c2⟩ := HG.out.gcells
  have z0 := HY.out.cell 0
  have z1 := HY.out.cell 1
  simp only [List.getElem?_toArray, List.getElem?_cons_zero, List.getElem?_cons_succ] at z0 z1
  go_wp2_with fail
  refine (H1.out _).mono ?_
  rintro e v1 ⟨rfl, hb⟩
  replace hs := hs.keep hb
  replace HG := Lib.hid (HG.out.keep hb)
  replace HY := Lib.hid (HY.out.keep hb)
  clear hb
  clear c0 c1 c2 z0 z1
  obtain ⟨c0, c1, c2⟩ := HG.out.gcells
  have z0 := HY.out.cell 0
  have z1 := HY.out.cell 1
  simp only [List.getElem?_toArray, List.getElem?_cons_zero, List.getElem?_cons_succ] at z0 z1
  go_wp2_with fail
  refine (H2.out _).mono ?_
  rintro e v2 ⟨rfl, hb⟩
  replace hs := hs.keep hb
  replace HG := Lib.hid (HG.out.keep hb)
  replace HY := Lib.hid (HY.out.keep hb)
  clear hb
  clear c0 c1 c2 z0 z1
  obtain ⟨c0, c1, c2⟩ := HG.out.gcells
  have z0 := HY.out.cell 0
  have z1 := HY.out.cell 1
  simp only [List.getElem?_toArray, List.getElem?_cons_zero, List.getElem?_cons_succ] at z0 z1
  go_wp2_with fail
  refine (H3.out _).mono ?_
  rintro e v3 ⟨hA, hb⟩
  replace hs := hs.keep hb
  replace HG := Lib.hid (HG.out.keep hb)
  replace HY := Lib.hid (HY.out.keep hb)
  clear hb c0 c1 c2 z0 z1
  obtain ⟨c0, c1, c2⟩ := HG.out.gcells
  have z0 := HY.out.cell 0
  have z1 := HY.out.cell 1
  simp only [List.getElem?_toArray, List.getElem?_cons_zero, List.getElem?_cons_succ] at z0 z1
  rcases HSA.out _ _ hA with ⟨hz, g, cg, rfl, hF⟩ | ⟨hz, rfl⟩
  · have HF := Lib.hid hF
    clear hA hF
    go_wp2_with fail
    refine (H4.out _).mono ?_
    rintro e v4 ⟨hA, hb⟩
    replace hs := hs.keep hb
    replace HF := Lib.hid (HF.out.keep hb)
    clear hb c0 c1 c2 z0 z1
    rcases HSA.out _ _ hA with ⟨-, g2, cg2, rfl, hF2⟩ | ⟨hz2, -⟩
    · have HS5 := Lib.hid (HSM.out hz v4 g g2 cg cg2 HF.out hF2)
      clear hA hF2 HF
      go_wp2_with fail
      refine HS5.out.mono ?_
      rintro e v5 ⟨rfl, hb⟩
      replace hs := hs.keep hb
      clear hb
      go_wp2_with fail
      refine (awake_c _).mono ?_
      rintro e v6 ⟨rfl, hb⟩
      replace hs := hs.keep hb
      clear hb
      go_wp2_with fail
      go_ret
      exact ⟨rfl, hs.1⟩
    · exact absurd hz hz2
  · clear hA
    go_wp2_with fail
    refine (H4.out _).mono ?_
    rintro e v4 ⟨hA, hb⟩
    replace hs := hs.keep hb
    clear hb c0 c1 c2 z0 z1
    rcases HSA.out _ _ hA with ⟨hz2, -⟩ | ⟨-, rfl⟩
    · exact absurd hz2 hz
    · clear hA
      go_wp2_with fail
      refine (HSN.out _).mono ?_
      rintro e v5 ⟨rfl, hb⟩
      replace hs := hs.keep hb
      clear hb
      go_wp2_with fail
      refine (awake_c _).mono ?_
      rintro e v6 ⟨rfl, hb⟩
      replace hs := hs.keep hb
      clear hb
      go_wp2_with fail
      go_ret
      exact ⟨rfl, hs.1⟩
end Td
end Go.Proofs.Ytgkdidnmndmlhaa
