import Derived.Test.YtgkdidnmndmlhaaAwa
/- Awake. -/
namespace Go.Proofs.Ytgkdidnmndmlhaa
open Go.RowKit
namespace Td
set_option linter.unusedSimpArgs false
set_option linter.unusedVariables false
attribute [local go_sem] Oper.semAt_some
set_option maxRecDepth 100000 in
set_option maxHeartbeats 8000000 in
theorem awake_c (w : World) : Calls Try.prog 24 #[] w fun e w' => e = .returned (.bool true) ∧ Below w.heap.size w w' := by
  have hs := Since.refl w
  go_enter Try.func24, Try.ntmps24
  go_wp2_with fail
  refine (c_way _).mono ?_
  rintro e v1 ⟨rfl, hb⟩
  replace hs := hs.keep hb
  clear hb
  go_wp2_with fail
  refine (Heap_c _).mono ?_
  rintro e v2 ⟨rfl, hb⟩
  replace hs := hs.keep hb
  clear hb
  go_wp2_with fail
  refine (c_shows _).mono ?_
  rintro e v3 ⟨⟨gS, rfl, hf⟩, hb⟩
  replace hs := hs.keep hb
  have HF := Lib.hid hf
  clear hb hf
  go_wp2_with fail
  refine (Heap_c _).mono ?_
  rintro e v4 ⟨rfl, hb⟩
  replace hs := hs.keep hb
  replace HF := Lib.hid (HF.out.keep hb)
  clear hb
  go_wp2_with fail
  refine (Two_c _).mono ?_
  rintro e v5 ⟨rfl, hb⟩
  replace hs := hs.keep hb
  replace HF := Lib.hid (HF.out.keep hb)
  clear hb
  go_wp2_with fail
  refine (c_pass _).mono ?_
  rintro e v6 ⟨rfl, hb⟩
  replace hs := hs.keep hb
  replace HF := Lib.hid (HF.out.keep hb)
  clear hb
  have hz1 := Lib.hid ((Blk.new v6 41 (fV (0, 0))).alloc (.cells (fV (0, 0)) 41))
  have hz2 := Lib.hid ((Blk.new1 v6 (.cells (fV (0, 0)) 41) 41 (fV (0, 0))).rowFar (g' := v6.heap.size) (by omega) (fV (47, 210)))
  have hq : Below v6.heap.size v6 ((((v6.alloc (.cells (fV (0, 0)) 41)).alloc (.cells (fV (0, 0)) 41)).setRow v6.heap.size (fV (47, 210))).setRow (v6.heap.size + 1) (fV (11, 15))) := (((((Since.refl v6).alloc (.cells (fV (0, 0)) 41)).alloc (.cells (fV (0, 0)) 41)).row (g := v6.heap.size) (Nat.le_refl _) (fV (47, 210))).row (g := v6.heap.size + 1) (by omega) (fV (11, 15))).1
  have HA := Lib.hid ((hz1.out.row (fV (47, 210))).rowFar (g' := v6.heap.size + 1) (by omega) (fV (11, 15)))
  have HB := Lib.hid (hz2.out.row (fV (11, 15)))
  go_wp2_with (first | (refine wpList_store_row rfl 41 _ _ rfl (v6.heap.size) _ rfl rfl 41 _ hz1.out (by kernel_rfl) rfl (by simp [Value.oneCell']) ?_) | (refine wpList_store_row rfl 41 _ _ rfl (v6.heap.size + 1) _ rfl rfl 41 _ hz2.out (by kernel_rfl) rfl (by simp [Value.oneCell']) ?_))
  replace hs := hs.keep hq
  replace HF := Lib.hid (HF.out.keep hq)
  obtain ⟨kHA, hk⟩ : ∃ k, v6.heap.size = k := ⟨_, rfl⟩
  obtain ⟨v7, hu⟩ : ∃ u, (((v6.alloc (.cells (fV (0, 0)) 41)).alloc (.cells (fV (0, 0)) 41)).setRow v6.heap.size (fV (47, 210))).setRow (v6.heap.size + 1) (fV (11, 15)) = u := ⟨_, rfl⟩
  rw [hu] at hs HF HA HB ⊢
  rw [hk] at HA HB ⊢
  clear hu hk hq hz1 hz2
  go_wp2_with fail
  refine (Heap_c _).mono ?_
  rintro e v8 ⟨rfl, hb⟩
  replace hs := hs.keep hb
  replace HF := Lib.hid (HF.out.keep hb)
  replace HA := Lib.hid (HA.out.keep hb)
  replace HB := Lib.hid (HB.out.keep hb)
  clear hb
  go_wp2_with fail
  refine (share_c 1 3 _).mono ?_
  rintro e v9 ⟨rfl, hb⟩
  replace hs := hs.keep hb
  replace HF := Lib.hid (HF.out.keep hb)
  replace HA := Lib.hid (HA.out.keep hb)
  replace HB := Lib.hid (HB.out.keep hb)
  clear hb
  go_wp2_with fail
  refine (c_small _).mono ?_
  rintro e v10 ⟨rfl, hb⟩
  replace hs := hs.keep hb
  replace HF := Lib.hid (HF.out.keep hb)
  replace HA := Lib.hid (HA.out.keep hb)
  replace HB := Lib.hid (HB.out.keep hb)
  clear hb
  go_wp2_with fail
  refine (Heap_c _).mono ?_
  rintro e v11 ⟨rfl, hb⟩
  replace hs := hs.keep hb
  replace HF := Lib.hid (HF.out.keep hb)
  replace HA := Lib.hid (HA.out.keep hb)
  replace HB := Lib.hid (HB.out.keep hb)
  clear hb
  go_wp2_with fail
  have hq : Below v11.heap.size v11 (v11.alloc (.cells #[.int .i64 900, .int .i64 600, .int .i64 300, .int .i64 0] 3)) := (Below.refl _ _).alloc (Nat.le_refl _) _
  replace hs := hs.keep hq
  replace HF := Lib.hid (HF.out.keep hq)
  replace HA := Lib.hid (HA.out.keep hq)
  replace HB := Lib.hid (HB.out.keep hq)
  have HP := Lib.hid (Blk.new v11 3 #[.int .i64 900, .int .i64 600, .int .i64 300, .int .i64 0])
  obtain ⟨kHP, hk⟩ : ∃ k, v11.heap.size = k := ⟨_, rfl⟩
  obtain ⟨v12, hu⟩ : ∃ u, v11.alloc (.cells #[.int .i64 900, .int .i64 600, .int .i64 300, .int .i64 0] 3) = u := ⟨_, rfl⟩
  rw [hu] at hs HF HA HB HP ⊢
  rw [hk] at HP ⊢
  clear hu hk hq
  refine (c_price kHP 3 _ HP.out).mono ?_
  rintro e v13 ⟨rfl, hb⟩
  replace hs := hs.keep hb
  replace HF := Lib.hid (HF.out.keep hb)
  replace HA := Lib.hid (HA.out.keep hb)
  replace HB := Lib.hid (HB.out.keep hb)
  replace HP := Lib.hid (HP.out.keep hb)
  clear hb
  clear HP
  have hz1 := Lib.hid ((Blk.new v13 41 (fV (0, 0))).alloc (.cells (fV (0, 0)) 41))
  have hz2 := Lib.hid ((Blk.new1 v13 (.cells (fV (0, 0)) 41) 41 (fV (0, 0))).rowFar (g' := v13.heap.size) (by omega) (fV (540, 1)))
  have hq : Below v13.heap.size v13 ((((v13.alloc (.cells (fV (0, 0)) 41)).alloc (.cells (fV (0, 0)) 41)).setRow v13.heap.size (fV (540, 1))).setRow (v13.heap.size + 1) (fV (720, 1))) := (((((Since.refl v13).alloc (.cells (fV (0, 0)) 41)).alloc (.cells (fV (0, 0)) 41)).row (g := v13.heap.size) (Nat.le_refl _) (fV (540, 1))).row (g := v13.heap.size + 1) (by omega) (fV (720, 1))).1
  have HC := Lib.hid ((hz1.out.row (fV (540, 1))).rowFar (g' := v13.heap.size + 1) (by omega) (fV (720, 1)))
  have HD := Lib.hid (hz2.out.row (fV (720, 1)))
  go_wp2_with (first | (refine wpList_store_row rfl 41 _ _ rfl (v13.heap.size) _ rfl rfl 41 _ hz1.out (by kernel_rfl) rfl (by simp [Value.oneCell']) ?_) | (refine wpList_store_row rfl 41 _ _ rfl (v13.heap.size + 1) _ rfl rfl 41 _ hz2.out (by kernel_rfl) rfl (by simp [Value.oneCell']) ?_))
  replace hs := hs.keep hq
  replace HF := Lib.hid (HF.out.keep hq)
  replace HA := Lib.hid (HA.out.keep hq)
  replace HB := Lib.hid (HB.out.keep hq)
  obtain ⟨kHC, hk⟩ : ∃ k, v13.heap.size = k := ⟨_, rfl⟩
  obtain ⟨v14, hu⟩ : ∃ u, (((v13.alloc (.cells (fV (0, 0)) 41)).alloc (.cells (fV (0, 0)) 41)).setRow v13.heap.size (fV (540, 1))).setRow (v13.heap.size + 1) (fV (720, 1)) = u := ⟨_, rfl⟩
  rw [hu] at hs HF HA HB HC HD ⊢
  rw [hk] at HC HD ⊢
  clear hu hk hq hz1 hz2
  go_wp2_with fail
  refine (Heap_c _).mono ?_
  rintro e v15 ⟨rfl, hb⟩
  replace hs := hs.keep hb
  replace HF := Lib.hid (HF.out.keep hb)
  replace HA := Lib.hid (HA.out.keep hb)
  replace HB := Lib.hid (HB.out.keep hb)
  replace HC := Lib.hid (HC.out.keep hb)
  replace HD := Lib.hid (HD.out.keep hb)
  clear hb
  go_wp2_with fail
  refine (c_left _).mono ?_
  rintro e v16 ⟨rfl, hb⟩
  replace hs := hs.keep hb
  replace HF := Lib.hid (HF.out.keep hb)
  replace HA := Lib.hid (HA.out.keep hb)
  replace HB := Lib.hid (HB.out.keep hb)
  replace HC := Lib.hid (HC.out.keep hb)
  replace HD := Lib.hid (HD.out.keep hb)
  clear hb
  go_wp2_with fail
  have hq : Below v16.heap.size v16 (v16.alloc (.cells #[.int .i64 1, .int .i64 3] 23)) := (Below.refl _ _).alloc (Nat.le_refl _) _
  replace hs := hs.keep hq
  replace HF := Lib.hid (HF.out.keep hq)
  replace HA := Lib.hid (HA.out.keep hq)
  replace HB := Lib.hid (HB.out.keep hq)
  replace HC := Lib.hid (HC.out.keep hq)
  replace HD := Lib.hid (HD.out.keep hq)
  have HE := Lib.hid (Blk.new v16 23 #[.int .i64 1, .int .i64 3])
  obtain ⟨kHE, hk⟩ : ∃ k, v16.heap.size = k := ⟨_, rfl⟩
  obtain ⟨v17, hu⟩ : ∃ u, v16.alloc (.cells #[.int .i64 1, .int .i64 3] 23) = u := ⟨_, rfl⟩
  rw [hu] at hs HF HA HB HC HD HE ⊢
  rw [hk] at HE ⊢
  clear hu hk hq
  refine (Heap_c _).mono ?_
  rintro e v18 ⟨rfl, hb⟩
  replace hs := hs.keep hb
  replace HF := Lib.hid (HF.out.keep hb)
  replace HA := Lib.hid (HA.out.keep hb)
  replace HB := Lib.hid (HB.out.keep hb)
  replace HC := Lib.hid (HC.out.keep hb)
  replace HD := Lib.hid (HD.out.keep hb)
  replace HE := Lib.hid (HE.out.keep hb)
  clear hb
  go_wp2_with fail
  refine (Two_c _).mono ?_
  rintro e v19 ⟨rfl, hb⟩
  replace hs := hs.keep hb
  replace HF := Lib.hid (HF.out.keep hb)
  replace HA := Lib.hid (HA.out.keep hb)
  replace HB := Lib.hid (HB.out.keep hb)
  replace HC := Lib.hid (HC.out.keep hb)
  replace HD := Lib.hid (HD.out.keep hb)
  replace HE := Lib.hid (HE.out.keep hb)
  clear hb
  go_wp2_with fail
  refine (c_worst _).mono ?_
  rintro e v20 ⟨rfl, hb⟩
  replace hs := hs.keep hb
  replace HF := Lib.hid (HF.out.keep hb)
  replace HA := Lib.hid (HA.out.keep hb)
  replace HB := Lib.hid (HB.out.keep hb)
  replace HC := Lib.hid (HC.out.keep hb)
  replace HD := Lib.hid (HD.out.keep hb)
  replace HE := Lib.hid (HE.out.keep hb)
  clear hb
  go_wp2_with fail
  have hq : Below v20.heap.size v20 (v20.alloc (.cells #[.int .i64 6, .int .i64 5] 41)) := (Below.refl _ _).alloc (Nat.le_refl _) _
  replace hs := hs.keep hq
  replace HF := Lib.hid (HF.out.keep hq)
  replace HA := Lib.hid (HA.out.keep hq)
  replace HB := Lib.hid (HB.out.keep hq)
  replace HC := Lib.hid (HC.out.keep hq)
  replace HD := Lib.hid (HD.out.keep hq)
  replace HE := Lib.hid (HE.out.keep hq)
  have HG := Lib.hid (Blk.new v20 41 #[.int .i64 6, .int .i64 5])
  obtain ⟨kHG, hk⟩ : ∃ k, v20.heap.size = k := ⟨_, rfl⟩
  obtain ⟨v21, hu⟩ : ∃ u, v20.alloc (.cells #[.int .i64 6, .int .i64 5] 41) = u := ⟨_, rfl⟩
  rw [hu] at hs HF HA HB HC HD HE HG ⊢
  rw [hk] at HG ⊢
  clear hu hk hq
  refine (Heap_c _).mono ?_
  rintro e v22 ⟨rfl, hb⟩
  replace hs := hs.keep hb
  replace HF := Lib.hid (HF.out.keep hb)
  replace HA := Lib.hid (HA.out.keep hb)
  replace HB := Lib.hid (HB.out.keep hb)
  replace HC := Lib.hid (HC.out.keep hb)
  replace HD := Lib.hid (HD.out.keep hb)
  replace HE := Lib.hid (HE.out.keep hb)
  replace HG := Lib.hid (HG.out.keep hb)
  clear hb
  go_wp2_with fail
  refine (c_plan _).mono ?_
  rintro e v23 ⟨rfl, hb⟩
  replace hs := hs.keep hb
  replace HF := Lib.hid (HF.out.keep hb)
  replace HA := Lib.hid (HA.out.keep hb)
  replace HB := Lib.hid (HB.out.keep hb)
  replace HC := Lib.hid (HC.out.keep hb)
  replace HD := Lib.hid (HD.out.keep hb)
  replace HE := Lib.hid (HE.out.keep hb)
  replace HG := Lib.hid (HG.out.keep hb)
  clear hb
  go_wp2_with fail
  refine Vals6.regionAll (fun X => Blk X (kHA) 41 #[.int .i64 47, .int .i64 210] ∧ Blk X (kHA + 1) 41 #[.int .i64 11, .int .i64 15] ∧ Blk X (kHC) 41 #[.int .i64 540, .int .i64 1] ∧ Blk X (kHC + 1) 41 #[.int .i64 720, .int .i64 1] ∧ Blk X (kHG) 41 #[.int .i64 6, .int .i64 5] ∧ Blk X (kHE) 23 #[.int .i64 1, .int .i64 3] ∧ FrO X (some ⟨gS, 0, none⟩) exL ∧ Since w X) [some 63, some 64, some 65, some 66, some 67, some 68, some 69, some 70, some 71, some 72, some 73, some 74, some 75, some 76, some 77, some 78, some 79, some 80, some 81, some 82, some 83, some 84, some 85, some 86, some 87, some 88, some 89, some 90, some 91, some 92, some 93, some 94, some 95, some 96, some 97, some 98, some 99, some 100, some 101, some 102, some 103, some 104, some 105, some 106, some 107, some 108, some 109, some 110, some 111, some 112, some 113, some 114, some 115, some 116, some 117, some 118, some 119, some 120, some 121, some 122, some 123, some 124, some 125, some 126, some 127, some 128, some 129, some 130, some 131, some 132, some 133, some 134, some 135, some 136, some 137, some 138, some 139, some 140, some 141, some 142, some 143] [.is (.int .i64 0), .is (.bool true), .is (.bool true), .is (.int .i64 0), .is (.bool true), .is (.bool true), .is (.bool true), .is (.int .i64 0), .is (.bool true), .is (.bool true), .is (.bool true), .is (.int .i64 0), .is (.bool true), .is (.bool true), .is (.bool true), .is (.int .i64 0), .is (.bool true), .is (.bool true), .is (.bool true), .is (.int .i64 0), .is (.bool true), .is (.bool true), .is (.bool true), .is (.int .i64 0), .is (.bool true), .is (.bool true), .is (.bool true), .is (.int .i64 2), .is (.bool true), .is (.bool true), .is (.bool true), .is (.int .i64 120), .is (.bool true), .is (.bool true), .is (.bool true), .is (.slice (some ⟨gS, 0, none⟩) 4 4), .is (.agg #[.int .i64 7, .int .i64 24]), .is (.agg #[.int .i64 21, .int .i64 40]), .is (.agg #[.int .i64 7, .int .i64 40]), .is (.agg #[.int .i64 1, .int .i64 120]), .has (ShP), .is (.bool true), .is (.bool true), .is (.bool true), .is (.agg #[.int .i64 47, .int .i64 210]), .is (.agg #[.int .i64 47, .int .i64 210]), .is (.bool true), .is (.bool true), .is (.bool true), .is (.agg #[.int .i64 11, .int .i64 15]), .is (.agg #[.int .i64 11, .int .i64 15]), .is (.bool true), .is (.bool true), .is (.bool true), .is (.int .i64 4), .is (.bool true), .is (.bool true), .is (.bool true), .is (.agg #[.int .i64 540, .int .i64 1]), .is (.agg #[.int .i64 540, .int .i64 1]), .is (.bool true), .is (.bool true), .is (.bool true), .is (.agg #[.int .i64 720, .int .i64 1]), .is (.agg #[.int .i64 720, .int .i64 1]), .is (.bool true), .is (.bool true), .is (.bool true), .is (.agg #[.int .i64 1, .int .i64 3]), .is (.agg #[.int .i64 1, .int .i64 3]), .is (.bool true), .is (.bool true), .is (.bool true), .is (.int .i64 2), .is (.bool true), .is (.bool true), .is (.bool true), .is (.agg #[.int .i64 6, .int .i64 5]), .is (.agg #[.int .i64 6, .int .i64 5]), .is (.bool true), .is (.bool true)] (by kernel_rfl) rfl rfl (by kernel_rfl) (by kernel_rfl) (by kernel_rfl) (by kernel_rfl) (by kernel_rfl) (by kernel_rfl) rfl (⟨HA.out.drew, HB.out.drew, HC.out.drew, HD.out.drew, HG.out.drew, HE.out.drew, HF.out.keep (Below.refl _ _).drew, hs.drew⟩) ?hsteps ?hend
  case hsteps =>
    refine Vals5.Steps.run rfl (Vals5.Stable.is _) ?_ ?_
    · intro a W hS pre old K hK
      have e2 := old 2 _ (by kernel_rfl) rfl
      clear pre old
      simp only [Vals5.fits, Array.getD_eq_getD_getElem?, List.getElem?_toArray, List.getElem?_cons_zero, List.getElem?_cons_succ, Option.getD_some] at e2
      go_simp
      refine hK _ _ hS (Below.refl _ _) ?_
      exact fits_is _ _
    refine Vals5.Steps.run rfl (Vals5.Stable.is _) ?_ ?_
    · intro a W hS pre old K hK
      have e63 := pre 0 63 _ (by kernel_rfl) rfl rfl
      clear pre old
      simp only [Vals5.fits, Array.getD_eq_getD_getElem?, List.getElem?_toArray, List.getElem?_cons_zero, List.getElem?_cons_succ, Option.getD_some] at e63
      go_simp
      refine hK _ _ hS (Below.refl _ _) ?_
      exact fits_is _ _
    refine Vals5.Steps.run rfl (Vals5.Stable.is _) ?_ ?_
    · intro a W hS pre old K hK
      have e64 := pre 1 64 _ (by kernel_rfl) rfl rfl
      clear pre old
      simp only [Vals5.fits, Array.getD_eq_getD_getElem?, List.getElem?_toArray, List.getElem?_cons_zero, List.getElem?_cons_succ, Option.getD_some] at e64
      go_simp
      refine hK _ _ hS (Below.refl _ _) ?_
      exact fits_is _ _
    refine Vals5.Steps.run rfl (Vals5.Stable.is _) ?_ ?_
    · intro a W hS pre old K hK
      have e4 := old 4 _ (by kernel_rfl) rfl
      clear pre old
      simp only [Vals5.fits, Array.getD_eq_getD_getElem?, List.getElem?_toArray, List.getElem?_cons_zero, List.getElem?_cons_succ, Option.getD_some] at e4
      go_simp
      refine hK _ _ hS (Below.refl _ _) ?_
      exact fits_is _ _
    refine Vals5.Steps.run rfl (Vals5.Stable.is _) ?_ ?_
    · intro a W hS pre old K hK
      have e66 := pre 3 66 _ (by kernel_rfl) rfl rfl
      clear pre old
      simp only [Vals5.fits, Array.getD_eq_getD_getElem?, List.getElem?_toArray, List.getElem?_cons_zero, List.getElem?_cons_succ, Option.getD_some] at e66
      go_simp
      refine hK _ _ hS (Below.refl _ _) ?_
      exact fits_is _ _
    refine Vals5.Steps.run rfl (Vals5.Stable.is _) ?_ ?_
    · intro a W hS pre old K hK
      have e65 := pre 2 65 _ (by kernel_rfl) rfl rfl
      have e67 := pre 4 67 _ (by kernel_rfl) rfl rfl
      clear pre old
      simp only [Vals5.fits, Array.getD_eq_getD_getElem?, List.getElem?_toArray, List.getElem?_cons_zero, List.getElem?_cons_succ, Option.getD_some] at e65 e67
      go_simp
      refine hK _ _ hS (Below.refl _ _) ?_
      exact fits_is _ _
    refine Vals5.Steps.run rfl (Vals5.Stable.is _) ?_ ?_
    · intro a W hS pre old K hK
      have e68 := pre 5 68 _ (by kernel_rfl) rfl rfl
      clear pre old
      simp only [Vals5.fits, Array.getD_eq_getD_getElem?, List.getElem?_toArray, List.getElem?_cons_zero, List.getElem?_cons_succ, Option.getD_some] at e68
      go_simp
      refine hK _ _ hS (Below.refl _ _) ?_
      exact fits_is _ _
    refine Vals5.Steps.run rfl (Vals5.Stable.is _) ?_ ?_
    · intro a W hS pre old K hK
      have e7 := old 7 _ (by kernel_rfl) rfl
      clear pre old
      simp only [Vals5.fits, Array.getD_eq_getD_getElem?, List.getElem?_toArray, List.getElem?_cons_zero, List.getElem?_cons_succ, Option.getD_some] at e7
      go_simp
      refine hK _ _ hS (Below.refl _ _) ?_
      exact fits_is _ _
    refine Vals5.Steps.run rfl (Vals5.Stable.is _) ?_ ?_
    · intro a W hS pre old K hK
      have e70 := pre 7 70 _ (by kernel_rfl) rfl rfl
      clear pre old
      simp only [Vals5.fits, Array.getD_eq_getD_getElem?, List.getElem?_toArray, List.getElem?_cons_zero, List.getElem?_cons_succ, Option.getD_some] at e70
      go_simp
      refine hK _ _ hS (Below.refl _ _) ?_
      exact fits_is _ _
    refine Vals5.Steps.run rfl (Vals5.Stable.is _) ?_ ?_
    · intro a W hS pre old K hK
      have e69 := pre 6 69 _ (by kernel_rfl) rfl rfl
      have e71 := pre 8 71 _ (by kernel_rfl) rfl rfl
      clear pre old
      simp only [Vals5.fits, Array.getD_eq_getD_getElem?, List.getElem?_toArray, List.getElem?_cons_zero, List.getElem?_cons_succ, Option.getD_some] at e69 e71
      go_simp
      refine hK _ _ hS (Below.refl _ _) ?_
      exact fits_is _ _
    refine Vals5.Steps.run rfl (Vals5.Stable.is _) ?_ ?_
    · intro a W hS pre old K hK
      have e72 := pre 9 72 _ (by kernel_rfl) rfl rfl
      clear pre old
      simp only [Vals5.fits, Array.getD_eq_getD_getElem?, List.getElem?_toArray, List.getElem?_cons_zero, List.getElem?_cons_succ, Option.getD_some] at e72
      go_simp
      refine hK _ _ hS (Below.refl _ _) ?_
      exact fits_is _ _
    refine Vals5.Steps.run rfl (Vals5.Stable.is _) ?_ ?_
    · intro a W hS pre old K hK
      have e9 := old 9 _ (by kernel_rfl) rfl
      clear pre old
      simp only [Vals5.fits, Array.getD_eq_getD_getElem?, List.getElem?_toArray, List.getElem?_cons_zero, List.getElem?_cons_succ, Option.getD_some] at e9
      go_simp
      refine hK _ _ hS (Below.refl _ _) ?_
      exact fits_is _ _
    refine Vals5.Steps.run rfl (Vals5.Stable.is _) ?_ ?_
    · intro a W hS pre old K hK
      have e74 := pre 11 74 _ (by kernel_rfl) rfl rfl
      clear pre old
      simp only [Vals5.fits, Array.getD_eq_getD_getElem?, List.getElem?_toArray, List.getElem?_cons_zero, List.getElem?_cons_succ, Option.getD_some] at e74
      go_simp
      refine hK _ _ hS (Below.refl _ _) ?_
      exact fits_is _ _
    refine Vals5.Steps.run rfl (Vals5.Stable.is _) ?_ ?_
    · intro a W hS pre old K hK
      have e73 := pre 10 73 _ (by kernel_rfl) rfl rfl
      have e75 := pre 12 75 _ (by kernel_rfl) rfl rfl
      clear pre old
      simp only [Vals5.fits, Array.getD_eq_getD_getElem?, List.getElem?_toArray, List.getElem?_cons_zero, List.getElem?_cons_succ, Option.getD_some] at e73 e75
      go_simp
      refine hK _ _ hS (Below.refl _ _) ?_
      exact fits_is _ _
    refine Vals5.Steps.run rfl (Vals5.Stable.is _) ?_ ?_
    · intro a W hS pre old K hK
      have e76 := pre 13 76 _ (by kernel_rfl) rfl rfl
      clear pre old
      simp only [Vals5.fits, Array.getD_eq_getD_getElem?, List.getElem?_toArray, List.getElem?_cons_zero, List.getElem?_cons_succ, Option.getD_some] at e76
      go_simp
      refine hK _ _ hS (Below.refl _ _) ?_
      exact fits_is _ _
    refine Vals5.Steps.run rfl (Vals5.Stable.is _) ?_ ?_
    · intro a W hS pre old K hK
      have e12 := old 12 _ (by kernel_rfl) rfl
      clear pre old
      simp only [Vals5.fits, Array.getD_eq_getD_getElem?, List.getElem?_toArray, List.getElem?_cons_zero, List.getElem?_cons_succ, Option.getD_some] at e12
      go_simp
      refine hK _ _ hS (Below.refl _ _) ?_
      exact fits_is _ _
    refine Vals5.Steps.run rfl (Vals5.Stable.is _) ?_ ?_
    · intro a W hS pre old K hK
      have e78 := pre 15 78 _ (by kernel_rfl) rfl rfl
      clear pre old
      simp only [Vals5.fits, Array.getD_eq_getD_getElem?, List.getElem?_toArray, List.getElem?_cons_zero, List.getElem?_cons_succ, Option.getD_some] at e78
      go_simp
      refine hK _ _ hS (Below.refl _ _) ?_
      exact fits_is _ _
    refine Vals5.Steps.run rfl (Vals5.Stable.is _) ?_ ?_
    · intro a W hS pre old K hK
      have e77 := pre 14 77 _ (by kernel_rfl) rfl rfl
      have e79 := pre 16 79 _ (by kernel_rfl) rfl rfl
      clear pre old
      simp only [Vals5.fits, Array.getD_eq_getD_getElem?, List.getElem?_toArray, List.getElem?_cons_zero, List.getElem?_cons_succ, Option.getD_some] at e77 e79
      go_simp
      refine hK _ _ hS (Below.refl _ _) ?_
      exact fits_is _ _
    refine Vals5.Steps.run rfl (Vals5.Stable.is _) ?_ ?_
    · intro a W hS pre old K hK
      have e80 := pre 17 80 _ (by kernel_rfl) rfl rfl
      clear pre old
      simp only [Vals5.fits, Array.getD_eq_getD_getElem?, List.getElem?_toArray, List.getElem?_cons_zero, List.getElem?_cons_succ, Option.getD_some] at e80
      go_simp
      refine hK _ _ hS (Below.refl _ _) ?_
      exact fits_is _ _
    refine Vals5.Steps.run rfl (Vals5.Stable.is _) ?_ ?_
    · intro a W hS pre old K hK
      have e14 := old 14 _ (by kernel_rfl) rfl
      clear pre old
      simp only [Vals5.fits, Array.getD_eq_getD_getElem?, List.getElem?_toArray, List.getElem?_cons_zero, List.getElem?_cons_succ, Option.getD_some] at e14
      go_simp
      refine hK _ _ hS (Below.refl _ _) ?_
      exact fits_is _ _
    refine Vals5.Steps.run rfl (Vals5.Stable.is _) ?_ ?_
    · intro a W hS pre old K hK
      have e82 := pre 19 82 _ (by kernel_rfl) rfl rfl
      clear pre old
      simp only [Vals5.fits, Array.getD_eq_getD_getElem?, List.getElem?_toArray, List.getElem?_cons_zero, List.getElem?_cons_succ, Option.getD_some] at e82
      go_simp
      refine hK _ _ hS (Below.refl _ _) ?_
      exact fits_is _ _
    refine Vals5.Steps.run rfl (Vals5.Stable.is _) ?_ ?_
    · intro a W hS pre old K hK
      have e81 := pre 18 81 _ (by kernel_rfl) rfl rfl
      have e83 := pre 20 83 _ (by kernel_rfl) rfl rfl
      clear pre old
      simp only [Vals5.fits, Array.getD_eq_getD_getElem?, List.getElem?_toArray, List.getElem?_cons_zero, List.getElem?_cons_succ, Option.getD_some] at e81 e83
      go_simp
      refine hK _ _ hS (Below.refl _ _) ?_
      exact fits_is _ _
    refine Vals5.Steps.run rfl (Vals5.Stable.is _) ?_ ?_
    · intro a W hS pre old K hK
      have e84 := pre 21 84 _ (by kernel_rfl) rfl rfl
      clear pre old
      simp only [Vals5.fits, Array.getD_eq_getD_getElem?, List.getElem?_toArray, List.getElem?_cons_zero, List.getElem?_cons_succ, Option.getD_some] at e84
      go_simp
      refine hK _ _ hS (Below.refl _ _) ?_
      exact fits_is _ _
    refine Vals5.Steps.run rfl (Vals5.Stable.is _) ?_ ?_
    · intro a W hS pre old K hK
      have e17 := old 17 _ (by kernel_rfl) rfl
      clear pre old
      simp only [Vals5.fits, Array.getD_eq_getD_getElem?, List.getElem?_toArray, List.getElem?_cons_zero, List.getElem?_cons_succ, Option.getD_some] at e17
      go_simp
      refine hK _ _ hS (Below.refl _ _) ?_
      exact fits_is _ _
    refine Vals5.Steps.run rfl (Vals5.Stable.is _) ?_ ?_
    · intro a W hS pre old K hK
      have e86 := pre 23 86 _ (by kernel_rfl) rfl rfl
      clear pre old
      simp only [Vals5.fits, Array.getD_eq_getD_getElem?, List.getElem?_toArray, List.getElem?_cons_zero, List.getElem?_cons_succ, Option.getD_some] at e86
      go_simp
      refine hK _ _ hS (Below.refl _ _) ?_
      exact fits_is _ _
    refine Vals5.Steps.run rfl (Vals5.Stable.is _) ?_ ?_
    · intro a W hS pre old K hK
      have e85 := pre 22 85 _ (by kernel_rfl) rfl rfl
      have e87 := pre 24 87 _ (by kernel_rfl) rfl rfl
      clear pre old
      simp only [Vals5.fits, Array.getD_eq_getD_getElem?, List.getElem?_toArray, List.getElem?_cons_zero, List.getElem?_cons_succ, Option.getD_some] at e85 e87
      go_simp
      refine hK _ _ hS (Below.refl _ _) ?_
      exact fits_is _ _
    refine Vals5.Steps.run rfl (Vals5.Stable.is _) ?_ ?_
    · intro a W hS pre old K hK
      have e88 := pre 25 88 _ (by kernel_rfl) rfl rfl
      clear pre old
      simp only [Vals5.fits, Array.getD_eq_getD_getElem?, List.getElem?_toArray, List.getElem?_cons_zero, List.getElem?_cons_succ, Option.getD_some] at e88
      go_simp
      refine hK _ _ hS (Below.refl _ _) ?_
      exact fits_is _ _
    refine Vals5.Steps.run rfl (Vals5.Stable.is _) ?_ ?_
    · intro a W hS pre old K hK
      have e18 := old 18 _ (by kernel_rfl) rfl
      clear pre old
      simp only [Vals5.fits, Array.getD_eq_getD_getElem?, List.getElem?_toArray, List.getElem?_cons_zero, List.getElem?_cons_succ, Option.getD_some] at e18
      go_simp
      refine hK _ _ hS (Below.refl _ _) ?_
      exact fits_is _ _
    refine Vals5.Steps.run rfl (Vals5.Stable.is _) ?_ ?_
    · intro a W hS pre old K hK
      have e90 := pre 27 90 _ (by kernel_rfl) rfl rfl
      clear pre old
      simp only [Vals5.fits, Array.getD_eq_getD_getElem?, List.getElem?_toArray, List.getElem?_cons_zero, List.getElem?_cons_succ, Option.getD_some] at e90
      go_simp
      refine hK _ _ hS (Below.refl _ _) ?_
      exact fits_is _ _
    refine Vals5.Steps.run rfl (Vals5.Stable.is _) ?_ ?_
    · intro a W hS pre old K hK
      have e89 := pre 26 89 _ (by kernel_rfl) rfl rfl
      have e91 := pre 28 91 _ (by kernel_rfl) rfl rfl
      clear pre old
      simp only [Vals5.fits, Array.getD_eq_getD_getElem?, List.getElem?_toArray, List.getElem?_cons_zero, List.getElem?_cons_succ, Option.getD_some] at e89 e91
      go_simp
      refine hK _ _ hS (Below.refl _ _) ?_
      exact fits_is _ _
    refine Vals5.Steps.run rfl (Vals5.Stable.is _) ?_ ?_
    · intro a W hS pre old K hK
      have e92 := pre 29 92 _ (by kernel_rfl) rfl rfl
      clear pre old
      simp only [Vals5.fits, Array.getD_eq_getD_getElem?, List.getElem?_toArray, List.getElem?_cons_zero, List.getElem?_cons_succ, Option.getD_some] at e92
      go_simp
      refine hK _ _ hS (Below.refl _ _) ?_
      exact fits_is _ _
    refine Vals5.Steps.run rfl (Vals5.Stable.is _) ?_ ?_
    · intro a W hS pre old K hK
      have e1 := old 1 _ (by kernel_rfl) rfl
      clear pre old
      simp only [Vals5.fits, Array.getD_eq_getD_getElem?, List.getElem?_toArray, List.getElem?_cons_zero, List.getElem?_cons_succ, Option.getD_some] at e1
      go_simp
      refine hK _ _ hS (Below.refl _ _) ?_
      exact fits_is _ _
    refine Vals5.Steps.run rfl (Vals5.Stable.is _) ?_ ?_
    · intro a W hS pre old K hK
      have e94 := pre 31 94 _ (by kernel_rfl) rfl rfl
      clear pre old
      simp only [Vals5.fits, Array.getD_eq_getD_getElem?, List.getElem?_toArray, List.getElem?_cons_zero, List.getElem?_cons_succ, Option.getD_some] at e94
      go_simp
      refine hK _ _ hS (Below.refl _ _) ?_
      exact fits_is _ _
    refine Vals5.Steps.run rfl (Vals5.Stable.is _) ?_ ?_
    · intro a W hS pre old K hK
      have e93 := pre 30 93 _ (by kernel_rfl) rfl rfl
      have e95 := pre 32 95 _ (by kernel_rfl) rfl rfl
      clear pre old
      simp only [Vals5.fits, Array.getD_eq_getD_getElem?, List.getElem?_toArray, List.getElem?_cons_zero, List.getElem?_cons_succ, Option.getD_some] at e93 e95
      go_simp
      refine hK _ _ hS (Below.refl _ _) ?_
      exact fits_is _ _
    refine Vals5.Steps.run rfl (Vals5.Stable.is _) ?_ ?_
    · intro a W hS pre old K hK
      have e96 := pre 33 96 _ (by kernel_rfl) rfl rfl
      clear pre old
      simp only [Vals5.fits, Array.getD_eq_getD_getElem?, List.getElem?_toArray, List.getElem?_cons_zero, List.getElem?_cons_succ, Option.getD_some] at e96
      go_simp
      refine hK _ _ hS (Below.refl _ _) ?_
      exact fits_is _ _
    refine Vals5.Steps.run rfl (Vals5.Stable.is _) ?_ ?_
    · intro a W hS pre old K hK
      have e3 := old 3 _ (by kernel_rfl) rfl
      clear pre old
      simp only [Vals5.fits, Array.getD_eq_getD_getElem?, List.getElem?_toArray, List.getElem?_cons_zero, List.getElem?_cons_succ, Option.getD_some] at e3
      go_simp
      refine hK _ _ hS (Below.refl _ _) ?_
      exact fits_is _ _
    refine Vals5.Steps.run rfl (Vals5.Stable.is _) ?_ ?_
    · intro a W hS pre old K hK
      clear pre old
      go_simp
      refine (share_c 7 24 _).mono ?_
      rintro e w' ⟨rfl, hb'⟩
      obtain ⟨q0, q1, q2, q3, q4, q5, q6, q7⟩ := hS
      refine hK _ _ ⟨q0.keep hb', q1.keep hb', q2.keep hb', q3.keep hb', q4.keep hb', q5.keep hb', q6.keep hb', q7.keep hb'⟩ hb' ?_
      exact fits_is _ _
    refine Vals5.Steps.run rfl (Vals5.Stable.is _) ?_ ?_
    · intro a W hS pre old K hK
      clear pre old
      go_simp
      refine (share_c 21 40 _).mono ?_
      rintro e w' ⟨rfl, hb'⟩
      obtain ⟨q0, q1, q2, q3, q4, q5, q6, q7⟩ := hS
      refine hK _ _ ⟨q0.keep hb', q1.keep hb', q2.keep hb', q3.keep hb', q4.keep hb', q5.keep hb', q6.keep hb', q7.keep hb'⟩ hb' ?_
      exact fits_is _ _
    refine Vals5.Steps.run rfl (Vals5.Stable.is _) ?_ ?_
    · intro a W hS pre old K hK
      clear pre old
      go_simp
      refine (share_c 7 40 _).mono ?_
      rintro e w' ⟨rfl, hb'⟩
      obtain ⟨q0, q1, q2, q3, q4, q5, q6, q7⟩ := hS
      refine hK _ _ ⟨q0.keep hb', q1.keep hb', q2.keep hb', q3.keep hb', q4.keep hb', q5.keep hb', q6.keep hb', q7.keep hb'⟩ hb' ?_
      exact fits_is _ _
    refine Vals5.Steps.run rfl (Vals5.Stable.is _) ?_ ?_
    · intro a W hS pre old K hK
      clear pre old
      go_simp
      refine (share_c 1 120 _).mono ?_
      rintro e w' ⟨rfl, hb'⟩
      obtain ⟨q0, q1, q2, q3, q4, q5, q6, q7⟩ := hS
      refine hK _ _ ⟨q0.keep hb', q1.keep hb', q2.keep hb', q3.keep hb', q4.keep hb', q5.keep hb', q6.keep hb', q7.keep hb'⟩ hb' ?_
      exact fits_is _ _
    refine Vals5.Steps.run rfl ShP.stable ?_ ?_
    · intro a W hS pre old K hK
      have e99 := pre 36 99 _ (by kernel_rfl) rfl rfl
      have e100 := pre 37 100 _ (by kernel_rfl) rfl rfl
      have e101 := pre 38 101 _ (by kernel_rfl) rfl rfl
      have e102 := pre 39 102 _ (by kernel_rfl) rfl rfl
      clear pre old
      simp only [Vals5.fits, Array.getD_eq_getD_getElem?, List.getElem?_toArray, List.getElem?_cons_zero, List.getElem?_cons_succ, Option.getD_some] at e99 e100 e101 e102
      obtain ⟨q0, q1, q2, q3, q4, q5, q6, q7⟩ := hS
      go_simp
      have hb' : Below W.heap.size W (W.alloc (.cells #[.int .i64 7, .int .i64 24, .int .i64 21, .int .i64 40, .int .i64 7, .int .i64 40, .int .i64 1, .int .i64 120] 41)) := (Below.refl _ _).alloc (Nat.le_refl _) _
      exact hK _ _ ⟨q0.keep hb', q1.keep hb', q2.keep hb', q3.keep hb', q4.keep hb', q5.keep hb', q6.keep hb', q7.keep hb'⟩ hb' ⟨_, rfl, FrO.lit (Blk.new _ _ _)⟩
    refine Vals5.Steps.run rfl (Vals5.Stable.is _) ?_ ?_
    · intro a W hS pre old K hK
      have e98 := pre 35 98 _ (by kernel_rfl) rfl rfl
      have f103 := pre 40 103 _ (by kernel_rfl) rfl rfl
      clear pre old
      simp only [Vals5.fits, Array.getD_eq_getD_getElem?, List.getElem?_toArray, List.getElem?_cons_zero, List.getElem?_cons_succ, Option.getD_some] at e98
      obtain ⟨gN, hv, hf⟩ := f103
      simp only [Array.getD_eq_getD_getElem?] at hv
      obtain ⟨q0, q1, q2, q3, q4, q5, q6, q7⟩ := hS
      have hC := c_same (some ⟨gS, 0, none⟩) (some ⟨gN, 0, none⟩) W q6 hf
      go_simp
      refine hC.mono ?_
      rintro e w' ⟨rfl, hb'⟩
      refine hK _ _ ⟨q0.keep hb', q1.keep hb', q2.keep hb', q3.keep hb', q4.keep hb', q5.keep hb', q6.keep hb', q7.keep hb'⟩ hb' ?_
      exact fits_is _ _
    refine Vals5.Steps.run rfl (Vals5.Stable.is _) ?_ ?_
    · intro a W hS pre old K hK
      have e97 := pre 34 97 _ (by kernel_rfl) rfl rfl
      have e104 := pre 41 104 _ (by kernel_rfl) rfl rfl
      clear pre old
      simp only [Vals5.fits, Array.getD_eq_getD_getElem?, List.getElem?_toArray, List.getElem?_cons_zero, List.getElem?_cons_succ, Option.getD_some] at e97 e104
      go_simp
      refine hK _ _ hS (Below.refl _ _) ?_
      exact fits_is _ _
    refine Vals5.Steps.run rfl (Vals5.Stable.is _) ?_ ?_
    · intro a W hS pre old K hK
      have e105 := pre 42 105 _ (by kernel_rfl) rfl rfl
      clear pre old
      simp only [Vals5.fits, Array.getD_eq_getD_getElem?, List.getElem?_toArray, List.getElem?_cons_zero, List.getElem?_cons_succ, Option.getD_some] at e105
      go_simp
      refine hK _ _ hS (Below.refl _ _) ?_
      exact fits_is _ _
    refine Vals5.Steps.run rfl (Vals5.Stable.is _) ?_ ?_
    · intro a W hS pre old K hK
      have e5 := old 5 _ (by kernel_rfl) rfl
      clear pre old
      simp only [Vals5.fits, Array.getD_eq_getD_getElem?, List.getElem?_toArray, List.getElem?_cons_zero, List.getElem?_cons_succ, Option.getD_some] at e5
      have hS9 := hS
      obtain ⟨q0, q1, q2, q3, q4, q5, q6, q7⟩ := hS9
      have x0 := q0.cell 0
      have y0 := q0.cell 1
      have x1 := q1.cell 0
      have y1 := q1.cell 1
      have x2 := q2.cell 0
      have y2 := q2.cell 1
      have x3 := q3.cell 0
      have y3 := q3.cell 1
      have x4 := q4.cell 0
      have y4 := q4.cell 1
      have x5 := q5.cell 0
      have y5 := q5.cell 1
      simp only [List.getElem?_toArray, List.getElem?_cons_zero, List.getElem?_cons_succ] at x0 y0 x1 y1 x2 y2 x3 y3 x4 y4 x5 y5
      go_simp
      refine hK _ _ hS (Below.refl _ _) ?_
      exact fits_is _ _
    refine Vals5.Steps.run rfl (Vals5.Stable.is _) ?_ ?_
    · intro a W hS pre old K hK
      clear pre old
      go_simp
      refine (share_c 47 210 _).mono ?_
      rintro e w' ⟨rfl, hb'⟩
      obtain ⟨q0, q1, q2, q3, q4, q5, q6, q7⟩ := hS
      refine hK _ _ ⟨q0.keep hb', q1.keep hb', q2.keep hb', q3.keep hb', q4.keep hb', q5.keep hb', q6.keep hb', q7.keep hb'⟩ hb' ?_
      exact fits_is _ _
    refine Vals5.Steps.run rfl (Vals5.Stable.is _) ?_ ?_
    · intro a W hS pre old K hK
      have e107 := pre 44 107 _ (by kernel_rfl) rfl rfl
      have e108 := pre 45 108 _ (by kernel_rfl) rfl rfl
      clear pre old
      simp only [Vals5.fits, Array.getD_eq_getD_getElem?, List.getElem?_toArray, List.getElem?_cons_zero, List.getElem?_cons_succ, Option.getD_some] at e107 e108
      have hq := eqSh 47 210
      go_simp
      refine hK _ _ hS (Below.refl _ _) ?_
      exact fits_is _ _
    refine Vals5.Steps.run rfl (Vals5.Stable.is _) ?_ ?_
    · intro a W hS pre old K hK
      have e106 := pre 43 106 _ (by kernel_rfl) rfl rfl
      have e109 := pre 46 109 _ (by kernel_rfl) rfl rfl
      clear pre old
      simp only [Vals5.fits, Array.getD_eq_getD_getElem?, List.getElem?_toArray, List.getElem?_cons_zero, List.getElem?_cons_succ, Option.getD_some] at e106 e109
      go_simp
      refine hK _ _ hS (Below.refl _ _) ?_
      exact fits_is _ _
    refine Vals5.Steps.run rfl (Vals5.Stable.is _) ?_ ?_
    · intro a W hS pre old K hK
      have e110 := pre 47 110 _ (by kernel_rfl) rfl rfl
      clear pre old
      simp only [Vals5.fits, Array.getD_eq_getD_getElem?, List.getElem?_toArray, List.getElem?_cons_zero, List.getElem?_cons_succ, Option.getD_some] at e110
      go_simp
      refine hK _ _ hS (Below.refl _ _) ?_
      exact fits_is _ _
    refine Vals5.Steps.run rfl (Vals5.Stable.is _) ?_ ?_
    · intro a W hS pre old K hK
      have e6 := old 6 _ (by kernel_rfl) rfl
      clear pre old
      simp only [Vals5.fits, Array.getD_eq_getD_getElem?, List.getElem?_toArray, List.getElem?_cons_zero, List.getElem?_cons_succ, Option.getD_some] at e6
      have hS9 := hS
      obtain ⟨q0, q1, q2, q3, q4, q5, q6, q7⟩ := hS9
      have x0 := q0.cell 0
      have y0 := q0.cell 1
      have x1 := q1.cell 0
      have y1 := q1.cell 1
      have x2 := q2.cell 0
      have y2 := q2.cell 1
      have x3 := q3.cell 0
      have y3 := q3.cell 1
      have x4 := q4.cell 0
      have y4 := q4.cell 1
      have x5 := q5.cell 0
      have y5 := q5.cell 1
      simp only [List.getElem?_toArray, List.getElem?_cons_zero, List.getElem?_cons_succ] at x0 y0 x1 y1 x2 y2 x3 y3 x4 y4 x5 y5
      go_simp
      refine hK _ _ hS (Below.refl _ _) ?_
      exact fits_is _ _
    refine Vals5.Steps.run rfl (Vals5.Stable.is _) ?_ ?_
    · intro a W hS pre old K hK
      clear pre old
      go_simp
      refine (share_c 11 15 _).mono ?_
      rintro e w' ⟨rfl, hb'⟩
      obtain ⟨q0, q1, q2, q3, q4, q5, q6, q7⟩ := hS
      refine hK _ _ ⟨q0.keep hb', q1.keep hb', q2.keep hb', q3.keep hb', q4.keep hb', q5.keep hb', q6.keep hb', q7.keep hb'⟩ hb' ?_
      exact fits_is _ _
    refine Vals5.Steps.run rfl (Vals5.Stable.is _) ?_ ?_
    · intro a W hS pre old K hK
      have e112 := pre 49 112 _ (by kernel_rfl) rfl rfl
      have e113 := pre 50 113 _ (by kernel_rfl) rfl rfl
      clear pre old
      simp only [Vals5.fits, Array.getD_eq_getD_getElem?, List.getElem?_toArray, List.getElem?_cons_zero, List.getElem?_cons_succ, Option.getD_some] at e112 e113
      have hq := eqSh 11 15
      go_simp
      refine hK _ _ hS (Below.refl _ _) ?_
      exact fits_is _ _
    refine Vals5.Steps.run rfl (Vals5.Stable.is _) ?_ ?_
    · intro a W hS pre old K hK
      have e111 := pre 48 111 _ (by kernel_rfl) rfl rfl
      have e114 := pre 51 114 _ (by kernel_rfl) rfl rfl
      clear pre old
      simp only [Vals5.fits, Array.getD_eq_getD_getElem?, List.getElem?_toArray, List.getElem?_cons_zero, List.getElem?_cons_succ, Option.getD_some] at e111 e114
      go_simp
      refine hK _ _ hS (Below.refl _ _) ?_
      exact fits_is _ _
    refine Vals5.Steps.run rfl (Vals5.Stable.is _) ?_ ?_
    · intro a W hS pre old K hK
      have e115 := pre 52 115 _ (by kernel_rfl) rfl rfl
      clear pre old
      simp only [Vals5.fits, Array.getD_eq_getD_getElem?, List.getElem?_toArray, List.getElem?_cons_zero, List.getElem?_cons_succ, Option.getD_some] at e115
      go_simp
      refine hK _ _ hS (Below.refl _ _) ?_
      exact fits_is _ _
    refine Vals5.Steps.run rfl (Vals5.Stable.is _) ?_ ?_
    · intro a W hS pre old K hK
      have e8 := old 8 _ (by kernel_rfl) rfl
      clear pre old
      simp only [Vals5.fits, Array.getD_eq_getD_getElem?, List.getElem?_toArray, List.getElem?_cons_zero, List.getElem?_cons_succ, Option.getD_some] at e8
      go_simp
      refine hK _ _ hS (Below.refl _ _) ?_
      exact fits_is _ _
    refine Vals5.Steps.run rfl (Vals5.Stable.is _) ?_ ?_
    · intro a W hS pre old K hK
      have e117 := pre 54 117 _ (by kernel_rfl) rfl rfl
      clear pre old
      simp only [Vals5.fits, Array.getD_eq_getD_getElem?, List.getElem?_toArray, List.getElem?_cons_zero, List.getElem?_cons_succ, Option.getD_some] at e117
      go_simp
      refine hK _ _ hS (Below.refl _ _) ?_
      exact fits_is _ _
    refine Vals5.Steps.run rfl (Vals5.Stable.is _) ?_ ?_
    · intro a W hS pre old K hK
      have e116 := pre 53 116 _ (by kernel_rfl) rfl rfl
      have e118 := pre 55 118 _ (by kernel_rfl) rfl rfl
      clear pre old
      simp only [Vals5.fits, Array.getD_eq_getD_getElem?, List.getElem?_toArray, List.getElem?_cons_zero, List.getElem?_cons_succ, Option.getD_some] at e116 e118
      go_simp
      refine hK _ _ hS (Below.refl _ _) ?_
      exact fits_is _ _
    refine Vals5.Steps.run rfl (Vals5.Stable.is _) ?_ ?_
    · intro a W hS pre old K hK
      have e119 := pre 56 119 _ (by kernel_rfl) rfl rfl
      clear pre old
      simp only [Vals5.fits, Array.getD_eq_getD_getElem?, List.getElem?_toArray, List.getElem?_cons_zero, List.getElem?_cons_succ, Option.getD_some] at e119
      go_simp
      refine hK _ _ hS (Below.refl _ _) ?_
      exact fits_is _ _
    refine Vals5.Steps.run rfl (Vals5.Stable.is _) ?_ ?_
    · intro a W hS pre old K hK
      have e10 := old 10 _ (by kernel_rfl) rfl
      clear pre old
      simp only [Vals5.fits, Array.getD_eq_getD_getElem?, List.getElem?_toArray, List.getElem?_cons_zero, List.getElem?_cons_succ, Option.getD_some] at e10
      have hS9 := hS
      obtain ⟨q0, q1, q2, q3, q4, q5, q6, q7⟩ := hS9
      have x0 := q0.cell 0
      have y0 := q0.cell 1
      have x1 := q1.cell 0
      have y1 := q1.cell 1
      have x2 := q2.cell 0
      have y2 := q2.cell 1
      have x3 := q3.cell 0
      have y3 := q3.cell 1
      have x4 := q4.cell 0
      have y4 := q4.cell 1
      have x5 := q5.cell 0
      have y5 := q5.cell 1
      simp only [List.getElem?_toArray, List.getElem?_cons_zero, List.getElem?_cons_succ] at x0 y0 x1 y1 x2 y2 x3 y3 x4 y4 x5 y5
      go_simp
      refine hK _ _ hS (Below.refl _ _) ?_
      exact fits_is _ _
    refine Vals5.Steps.run rfl (Vals5.Stable.is _) ?_ ?_
    · intro a W hS pre old K hK
      clear pre old
      go_simp
      refine (share_c 540 1 _).mono ?_
      rintro e w' ⟨rfl, hb'⟩
      obtain ⟨q0, q1, q2, q3, q4, q5, q6, q7⟩ := hS
      refine hK _ _ ⟨q0.keep hb', q1.keep hb', q2.keep hb', q3.keep hb', q4.keep hb', q5.keep hb', q6.keep hb', q7.keep hb'⟩ hb' ?_
      exact fits_is _ _
    refine Vals5.Steps.run rfl (Vals5.Stable.is _) ?_ ?_
    · intro a W hS pre old K hK
      have e121 := pre 58 121 _ (by kernel_rfl) rfl rfl
      have e122 := pre 59 122 _ (by kernel_rfl) rfl rfl
      clear pre old
      simp only [Vals5.fits, Array.getD_eq_getD_getElem?, List.getElem?_toArray, List.getElem?_cons_zero, List.getElem?_cons_succ, Option.getD_some] at e121 e122
      have hq := eqSh 540 1
      go_simp
      refine hK _ _ hS (Below.refl _ _) ?_
      exact fits_is _ _
    refine Vals5.Steps.run rfl (Vals5.Stable.is _) ?_ ?_
    · intro a W hS pre old K hK
      have e120 := pre 57 120 _ (by kernel_rfl) rfl rfl
      have e123 := pre 60 123 _ (by kernel_rfl) rfl rfl
      clear pre old
      simp only [Vals5.fits, Array.getD_eq_getD_getElem?, List.getElem?_toArray, List.getElem?_cons_zero, List.getElem?_cons_succ, Option.getD_some] at e120 e123
      go_simp
      refine hK _ _ hS (Below.refl _ _) ?_
      exact fits_is _ _
    refine Vals5.Steps.run rfl (Vals5.Stable.is _) ?_ ?_
    · intro a W hS pre old K hK
      have e124 := pre 61 124 _ (by kernel_rfl) rfl rfl
      clear pre old
      simp only [Vals5.fits, Array.getD_eq_getD_getElem?, List.getElem?_toArray, List.getElem?_cons_zero, List.getElem?_cons_succ, Option.getD_some] at e124
      go_simp
      refine hK _ _ hS (Below.refl _ _) ?_
      exact fits_is _ _
    refine Vals5.Steps.run rfl (Vals5.Stable.is _) ?_ ?_
    · intro a W hS pre old K hK
      have e11 := old 11 _ (by kernel_rfl) rfl
      clear pre old
      simp only [Vals5.fits, Array.getD_eq_getD_getElem?, List.getElem?_toArray, List.getElem?_cons_zero, List.getElem?_cons_succ, Option.getD_some] at e11
      have hS9 := hS
      obtain ⟨q0, q1, q2, q3, q4, q5, q6, q7⟩ := hS9
      have x0 := q0.cell 0
      have y0 := q0.cell 1
      have x1 := q1.cell 0
      have y1 := q1.cell 1
      have x2 := q2.cell 0
      have y2 := q2.cell 1
      have x3 := q3.cell 0
      have y3 := q3.cell 1
      have x4 := q4.cell 0
      have y4 := q4.cell 1
      have x5 := q5.cell 0
      have y5 := q5.cell 1
      simp only [List.getElem?_toArray, List.getElem?_cons_zero, List.getElem?_cons_succ] at x0 y0 x1 y1 x2 y2 x3 y3 x4 y4 x5 y5
      go_simp
      refine hK _ _ hS (Below.refl _ _) ?_
      exact fits_is _ _
    refine Vals5.Steps.run rfl (Vals5.Stable.is _) ?_ ?_
    · intro a W hS pre old K hK
      clear pre old
      go_simp
      refine (share_c 720 1 _).mono ?_
      rintro e w' ⟨rfl, hb'⟩
      obtain ⟨q0, q1, q2, q3, q4, q5, q6, q7⟩ := hS
      refine hK _ _ ⟨q0.keep hb', q1.keep hb', q2.keep hb', q3.keep hb', q4.keep hb', q5.keep hb', q6.keep hb', q7.keep hb'⟩ hb' ?_
      exact fits_is _ _
    refine Vals5.Steps.run rfl (Vals5.Stable.is _) ?_ ?_
    · intro a W hS pre old K hK
      have e126 := pre 63 126 _ (by kernel_rfl) rfl rfl
      have e127 := pre 64 127 _ (by kernel_rfl) rfl rfl
      clear pre old
      simp only [Vals5.fits, Array.getD_eq_getD_getElem?, List.getElem?_toArray, List.getElem?_cons_zero, List.getElem?_cons_succ, Option.getD_some] at e126 e127
      have hq := eqSh 720 1
      go_simp
      refine hK _ _ hS (Below.refl _ _) ?_
      exact fits_is _ _
    refine Vals5.Steps.run rfl (Vals5.Stable.is _) ?_ ?_
    · intro a W hS pre old K hK
      have e125 := pre 62 125 _ (by kernel_rfl) rfl rfl
      have e128 := pre 65 128 _ (by kernel_rfl) rfl rfl
      clear pre old
      simp only [Vals5.fits, Array.getD_eq_getD_getElem?, List.getElem?_toArray, List.getElem?_cons_zero, List.getElem?_cons_succ, Option.getD_some] at e125 e128
      go_simp
      refine hK _ _ hS (Below.refl _ _) ?_
      exact fits_is _ _
    refine Vals5.Steps.run rfl (Vals5.Stable.is _) ?_ ?_
    · intro a W hS pre old K hK
      have e129 := pre 66 129 _ (by kernel_rfl) rfl rfl
      clear pre old
      simp only [Vals5.fits, Array.getD_eq_getD_getElem?, List.getElem?_toArray, List.getElem?_cons_zero, List.getElem?_cons_succ, Option.getD_some] at e129
      go_simp
      refine hK _ _ hS (Below.refl _ _) ?_
      exact fits_is _ _
    refine Vals5.Steps.run rfl (Vals5.Stable.is _) ?_ ?_
    · intro a W hS pre old K hK
      have e13 := old 13 _ (by kernel_rfl) rfl
      clear pre old
      simp only [Vals5.fits, Array.getD_eq_getD_getElem?, List.getElem?_toArray, List.getElem?_cons_zero, List.getElem?_cons_succ, Option.getD_some] at e13
      have hS9 := hS
      obtain ⟨q0, q1, q2, q3, q4, q5, q6, q7⟩ := hS9
      have x0 := q0.cell 0
      have y0 := q0.cell 1
      have x1 := q1.cell 0
      have y1 := q1.cell 1
      have x2 := q2.cell 0
      have y2 := q2.cell 1
      have x3 := q3.cell 0
      have y3 := q3.cell 1
      have x4 := q4.cell 0
      have y4 := q4.cell 1
      have x5 := q5.cell 0
      have y5 := q5.cell 1
      simp only [List.getElem?_toArray, List.getElem?_cons_zero, List.getElem?_cons_succ] at x0 y0 x1 y1 x2 y2 x3 y3 x4 y4 x5 y5
      go_simp
      refine hK _ _ hS (Below.refl _ _) ?_
      exact fits_is _ _
    refine Vals5.Steps.run rfl (Vals5.Stable.is _) ?_ ?_
    · intro a W hS pre old K hK
      clear pre old
      go_simp
      refine hK _ _ hS (Below.refl _ _) ?_
      exact fits_is _ _
    refine Vals5.Steps.run rfl (Vals5.Stable.is _) ?_ ?_
    · intro a W hS pre old K hK
      have e131 := pre 68 131 _ (by kernel_rfl) rfl rfl
      have e132 := pre 69 132 _ (by kernel_rfl) rfl rfl
      clear pre old
      simp only [Vals5.fits, Array.getD_eq_getD_getElem?, List.getElem?_toArray, List.getElem?_cons_zero, List.getElem?_cons_succ, Option.getD_some] at e131 e132
      have hq := eqSp 1 3
      go_simp
      refine hK _ _ hS (Below.refl _ _) ?_
      exact fits_is _ _
    refine Vals5.Steps.run rfl (Vals5.Stable.is _) ?_ ?_
    · intro a W hS pre old K hK
      have e130 := pre 67 130 _ (by kernel_rfl) rfl rfl
      have e133 := pre 70 133 _ (by kernel_rfl) rfl rfl
      clear pre old
      simp only [Vals5.fits, Array.getD_eq_getD_getElem?, List.getElem?_toArray, List.getElem?_cons_zero, List.getElem?_cons_succ, Option.getD_some] at e130 e133
      go_simp
      refine hK _ _ hS (Below.refl _ _) ?_
      exact fits_is _ _
    refine Vals5.Steps.run rfl (Vals5.Stable.is _) ?_ ?_
    · intro a W hS pre old K hK
      have e134 := pre 71 134 _ (by kernel_rfl) rfl rfl
      clear pre old
      simp only [Vals5.fits, Array.getD_eq_getD_getElem?, List.getElem?_toArray, List.getElem?_cons_zero, List.getElem?_cons_succ, Option.getD_some] at e134
      go_simp
      refine hK _ _ hS (Below.refl _ _) ?_
      exact fits_is _ _
    refine Vals5.Steps.run rfl (Vals5.Stable.is _) ?_ ?_
    · intro a W hS pre old K hK
      have e15 := old 15 _ (by kernel_rfl) rfl
      clear pre old
      simp only [Vals5.fits, Array.getD_eq_getD_getElem?, List.getElem?_toArray, List.getElem?_cons_zero, List.getElem?_cons_succ, Option.getD_some] at e15
      go_simp
      refine hK _ _ hS (Below.refl _ _) ?_
      exact fits_is _ _
    refine Vals5.Steps.run rfl (Vals5.Stable.is _) ?_ ?_
    · intro a W hS pre old K hK
      have e136 := pre 73 136 _ (by kernel_rfl) rfl rfl
      clear pre old
      simp only [Vals5.fits, Array.getD_eq_getD_getElem?, List.getElem?_toArray, List.getElem?_cons_zero, List.getElem?_cons_succ, Option.getD_some] at e136
      go_simp
      refine hK _ _ hS (Below.refl _ _) ?_
      exact fits_is _ _
    refine Vals5.Steps.run rfl (Vals5.Stable.is _) ?_ ?_
    · intro a W hS pre old K hK
      have e135 := pre 72 135 _ (by kernel_rfl) rfl rfl
      have e137 := pre 74 137 _ (by kernel_rfl) rfl rfl
      clear pre old
      simp only [Vals5.fits, Array.getD_eq_getD_getElem?, List.getElem?_toArray, List.getElem?_cons_zero, List.getElem?_cons_succ, Option.getD_some] at e135 e137
      go_simp
      refine hK _ _ hS (Below.refl _ _) ?_
      exact fits_is _ _
    refine Vals5.Steps.run rfl (Vals5.Stable.is _) ?_ ?_
    · intro a W hS pre old K hK
      have e138 := pre 75 138 _ (by kernel_rfl) rfl rfl
      clear pre old
      simp only [Vals5.fits, Array.getD_eq_getD_getElem?, List.getElem?_toArray, List.getElem?_cons_zero, List.getElem?_cons_succ, Option.getD_some] at e138
      go_simp
      refine hK _ _ hS (Below.refl _ _) ?_
      exact fits_is _ _
    refine Vals5.Steps.run rfl (Vals5.Stable.is _) ?_ ?_
    · intro a W hS pre old K hK
      have e16 := old 16 _ (by kernel_rfl) rfl
      clear pre old
      simp only [Vals5.fits, Array.getD_eq_getD_getElem?, List.getElem?_toArray, List.getElem?_cons_zero, List.getElem?_cons_succ, Option.getD_some] at e16
      have hS9 := hS
      obtain ⟨q0, q1, q2, q3, q4, q5, q6, q7⟩ := hS9
      have x0 := q0.cell 0
      have y0 := q0.cell 1
      have x1 := q1.cell 0
      have y1 := q1.cell 1
      have x2 := q2.cell 0
      have y2 := q2.cell 1
      have x3 := q3.cell 0
      have y3 := q3.cell 1
      have x4 := q4.cell 0
      have y4 := q4.cell 1
      have x5 := q5.cell 0
      have y5 := q5.cell 1
      simp only [List.getElem?_toArray, List.getElem?_cons_zero, List.getElem?_cons_succ] at x0 y0 x1 y1 x2 y2 x3 y3 x4 y4 x5 y5
      go_simp
      refine hK _ _ hS (Below.refl _ _) ?_
      exact fits_is _ _
    refine Vals5.Steps.run rfl (Vals5.Stable.is _) ?_ ?_
    · intro a W hS pre old K hK
      clear pre old
      go_simp
      refine (share_c 6 5 _).mono ?_
      rintro e w' ⟨rfl, hb'⟩
      obtain ⟨q0, q1, q2, q3, q4, q5, q6, q7⟩ := hS
      refine hK _ _ ⟨q0.keep hb', q1.keep hb', q2.keep hb', q3.keep hb', q4.keep hb', q5.keep hb', q6.keep hb', q7.keep hb'⟩ hb' ?_
      exact fits_is _ _
    refine Vals5.Steps.run rfl (Vals5.Stable.is _) ?_ ?_
    · intro a W hS pre old K hK
      have e140 := pre 77 140 _ (by kernel_rfl) rfl rfl
      have e141 := pre 78 141 _ (by kernel_rfl) rfl rfl
      clear pre old
      simp only [Vals5.fits, Array.getD_eq_getD_getElem?, List.getElem?_toArray, List.getElem?_cons_zero, List.getElem?_cons_succ, Option.getD_some] at e140 e141
      have hq := eqSh 6 5
      go_simp
      refine hK _ _ hS (Below.refl _ _) ?_
      exact fits_is _ _
    refine Vals5.Steps.run rfl (Vals5.Stable.is _) ?_ ?_
    · intro a W hS pre old K hK
      have e139 := pre 76 139 _ (by kernel_rfl) rfl rfl
      have e142 := pre 79 142 _ (by kernel_rfl) rfl rfl
      clear pre old
      simp only [Vals5.fits, Array.getD_eq_getD_getElem?, List.getElem?_toArray, List.getElem?_cons_zero, List.getElem?_cons_succ, Option.getD_some] at e139 e142
      go_simp
      refine hK _ _ hS (Below.refl _ _) ?_
      exact fits_is _ _
    exact Vals5.Steps.nil
  case hend =>
    rintro X ⟨_, _, _, _, _, _, _, hs9⟩
    simp only [Vals5.All, List.getLast_cons_cons, List.getLast_singleton]
    rintro u103 -
    simp only [Vals.putAll, List.setIfInBounds_toArray, List.set_cons_zero, List.set_cons_succ]
    intro K hK
    go_simp
    refine hK _ _ ?_
    clear hK K
    go_wp2_with fail
    go_ret
    exact ⟨rfl, hs9.1⟩
end Td
end Go.Proofs.Ytgkdidnmndmlhaa
