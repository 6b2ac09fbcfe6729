import Derived.Test.YtolkngbpmhdjkaaAwk
/- The examples of the chapter: GasKnown. -/
namespace Go.Proofs.Ytolkngbpmhdjkaa
open Go.RowKit
namespace Td
set_option linter.unusedSimpArgs false
set_option linter.unusedVariables false
attribute [local go_sem] Oper.semAt_some
theorem ek_1 : levelA exS [] 0 = ((0, 40), 0) := by decide +kernel
theorem ek_2 : levelA exS [] 10 = ((10, 70), 0) := by decide +kernel
theorem ek_3 : levelA exS [⟨20, 1, 6⟩] 20 = ((4, 8), 0) := by decide +kernel
theorem ek_4 : untilA exS [⟨20, 1, 6⟩] 20 = (20, 0) := by decide +kernel
theorem ek_5 : holdsA exS ⟨20, 1, 2⟩ = (22, 0) := by decide +kernel
theorem ek_6 : holdsA exS ⟨20, 1, 9⟩ = (-1, 0) := by decide +kernel
theorem ek_7 : fewestA exS ⟨20, 1, 9⟩ 30 = ([], 9) := by decide +kernel
theorem kn1_c (m : Sl) (w : World) (h : SAt w m exS) : Calls Try.prog 17 #[.agg (sV exS m), .slice none 0 0, .int .i64 0] w fun e w' => e = .returned (.tuple #[.agg #[.int .i64 0, .int .i64 40], .int .i64 0]) ∧ Below w.heap.size w w' := by
  have h := level_c exS m none [] 0 0 w h (Nat.le_refl _) (by decide) (fun h => absurd rfl h)
  rw [ek_1] at h
  exact h
theorem kn2_c (m : Sl) (w : World) (h : SAt w m exS) : Calls Try.prog 17 #[.agg (sV exS m), .slice none 0 0, .int .i64 10] w fun e w' => e = .returned (.tuple #[.agg #[.int .i64 10, .int .i64 70], .int .i64 0]) ∧ Below w.heap.size w w' := by
  have h := level_c exS m none [] 0 10 w h (Nat.le_refl _) (by decide) (fun h => absurd rfl h)
  rw [ek_2] at h
  exact h
theorem kn3_c (m : Sl) (g : Nat) (w : World) (h : SAt w m exS) (hr : Blk w g 61 (rV ⟨20, 1, 6⟩)) : Calls Try.prog 17 #[.agg (sV exS m), .slice (some ⟨g, 0, none⟩) 1 1, .int .i64 20] w fun e w' => e = .returned (.tuple #[.agg #[.int .i64 4, .int .i64 8], .int .i64 0]) ∧ Below w.heap.size w w' := by
  have h := level_c exS m (some ⟨g, 0, none⟩) [⟨20, 1, 6⟩] 1 20 w h (Nat.le_refl _) (by decide) (RdAt.one hr)
  rw [ek_3] at h
  exact h
theorem kn4_c (m : Sl) (g : Nat) (w : World) (h : SAt w m exS) (hr : Blk w g 61 (rV ⟨20, 1, 6⟩)) : Calls Try.prog 19 #[.agg (sV exS m), .slice (some ⟨g, 0, none⟩) 1 1, .int .i64 20] w fun e w' => e = .returned (.tuple #[.int .i64 20, .int .i64 0]) ∧ Below w.heap.size w w' := by
  have h := until2_c exS m (some ⟨g, 0, none⟩) [⟨20, 1, 6⟩] 1 20 w h (Nat.le_refl _) (by decide) (RdAt.one hr)
  rw [ek_4] at h
  exact h
theorem kn5_c (m : Sl) (w : World) (h : SAt w m exS) : Calls Try.prog 25 #[.agg (sV exS m), .int .i64 1, .int .i64 2, .int .i64 20] w fun e w' => e = .returned (.tuple #[.int .i64 22, .int .i64 0]) ∧ Below w.heap.size w w' := by
  have h := holds2_c exS m ⟨20, 1, 2⟩ w h
  rw [ek_5] at h
  exact h
theorem kn6_c (m : Sl) (w : World) (h : SAt w m exS) : Calls Try.prog 25 #[.agg (sV exS m), .int .i64 1, .int .i64 9, .int .i64 20] w fun e w' => e = .returned (.tuple #[.int .i64 (-1), .int .i64 0]) ∧ Below w.heap.size w w' := by
  have h := holds2_c exS m ⟨20, 1, 9⟩ w h
  rw [ek_6] at h
  exact h
theorem kn7_c (m : Sl) (w : World) (h : SAt w m exS) : Calls Try.prog 27 #[.agg (sV exS m), .int .i64 1, .int .i64 9, .int .i64 20, .int .i64 30] w fun e w' => (∃ v, e = .returned (.tuple #[v, .int .i64 9]) ∧ Lv w' v []) ∧ Below w.heap.size w w' := by
  have h := fewest2_c exS m ⟨20, 1, 9⟩ 30 w h
  rw [ek_7] at h
  exact h
set_option maxRecDepth 100000 in
set_option maxHeartbeats 8000000 in
theorem known_c (w : World) : Calls Try.prog 6 #[] w fun e w' => e = .returned (.bool true) ∧ Below w.heap.size w w' := by
  have hs := Since.refl w
  go_enter Try.func6, Try.ntmps6
  go_wp2_with fail
  refine (space_c _).mono ?_
  rintro e v1 ⟨⟨m1, rfl, hsa1⟩, hb1⟩
  replace hs := hs.keep hb1
  have HSA1 := Lib.hid hsa1
  clear hsa1 hb1
  go_wp2_with fail
  refine (kn1_c m1 _ HSA1.out).mono ?_
  rintro e v2 ⟨rfl, hb2⟩
  replace hs := hs.keep hb2
  replace HSA1 := Lib.hid (HSA1.out.keep hb2)
  clear hb2
  clear HSA1
  go_wp2_with fail
  have hq2 : Below v2.heap.size v2 (v2.alloc (.cells #[.int .i64 0, .int .i64 40] 23)) := (Below.refl _ _).alloc (Nat.le_refl _) _
  replace hs := hs.keep hq2
  have HX := Lib.hid (Blk.new v2 23 #[.int .i64 0, .int .i64 40])
  obtain ⟨kHX, hkHX⟩ : ∃ k, v2.heap.size = k := ⟨_, rfl⟩
  obtain ⟨u2, hu2⟩ : ∃ u, v2.alloc (.cells #[.int .i64 0, .int .i64 40] 23) = u := ⟨_, rfl⟩
  rw [hu2] at hs HX  ⊢
  rw [hkHX] at HX ⊢
  clear hu2 hkHX hq2
  go_wp2_with fail
  refine (space_c _).mono ?_
  rintro e v3 ⟨⟨m3, rfl, hsa3⟩, hb3⟩
  replace hs := hs.keep hb3
  replace HX := Lib.hid (HX.out.keep hb3)
  have HSA3 := Lib.hid hsa3
  clear hsa3 hb3
  go_wp2_with fail
  refine (kn2_c m3 _ HSA3.out).mono ?_
  rintro e v4 ⟨rfl, hb4⟩
  replace hs := hs.keep hb4
  replace HX := Lib.hid (HX.out.keep hb4)
  replace HSA3 := Lib.hid (HSA3.out.keep hb4)
  clear hb4
  clear HSA3
  go_wp2_with fail
  have hq4 : Below v4.heap.size v4 (v4.alloc (.cells #[.int .i64 10, .int .i64 70] 23)) := (Below.refl _ _).alloc (Nat.le_refl _) _
  replace hs := hs.keep hq4
  replace HX := Lib.hid (HX.out.keep hq4)
  have HY := Lib.hid (Blk.new v4 23 #[.int .i64 10, .int .i64 70])
  obtain ⟨kHY, hkHY⟩ : ∃ k, v4.heap.size = k := ⟨_, rfl⟩
  obtain ⟨u4, hu4⟩ : ∃ u, v4.alloc (.cells #[.int .i64 10, .int .i64 70] 23) = u := ⟨_, rfl⟩
  rw [hu4] at hs HY HX ⊢
  rw [hkHY] at HY ⊢
  clear hu4 hkHY hq4
  go_wp2_with fail
  refine (space_c _).mono ?_
  rintro e v5 ⟨⟨m5, rfl, hsa5⟩, hb5⟩
  replace hs := hs.keep hb5
  replace HX := Lib.hid (HX.out.keep hb5)
  replace HY := Lib.hid (HY.out.keep hb5)
  have HSA5 := Lib.hid hsa5
  clear hsa5 hb5
  go_wp2_with fail
  refine (read2_c _ _).mono ?_
  rintro e v6 ⟨⟨rfl, hr6⟩, hb6⟩
  replace hs := hs.keep hb6
  replace HX := Lib.hid (HX.out.keep hb6)
  replace HY := Lib.hid (HY.out.keep hb6)
  replace HSA5 := Lib.hid (HSA5.out.keep hb6)
  have HRD6 := Lib.hid hr6
  clear hr6 hb6
  go_wp2_with fail
  refine (kn3_c m5 _ _ HSA5.out HRD6.out).mono ?_
  rintro e v7 ⟨rfl, hb7⟩
  replace hs := hs.keep hb7
  replace HX := Lib.hid (HX.out.keep hb7)
  replace HY := Lib.hid (HY.out.keep hb7)
  replace HSA5 := Lib.hid (HSA5.out.keep hb7)
  replace HRD6 := Lib.hid (HRD6.out.keep hb7)
  clear hb7
  clear HSA5 HRD6
  go_wp2_with fail
  have hq7 : Below v7.heap.size v7 (v7.alloc (.cells #[.int .i64 4, .int .i64 8] 23)) := (Below.refl _ _).alloc (Nat.le_refl _) _
  replace hs := hs.keep hq7
  replace HX := Lib.hid (HX.out.keep hq7)
  replace HY := Lib.hid (HY.out.keep hq7)
  have HZ := Lib.hid (Blk.new v7 23 #[.int .i64 4, .int .i64 8])
  obtain ⟨kHZ, hkHZ⟩ : ∃ k, v7.heap.size = k := ⟨_, rfl⟩
  obtain ⟨u7, hu7⟩ : ∃ u, v7.alloc (.cells #[.int .i64 4, .int .i64 8] 23) = u := ⟨_, rfl⟩
  rw [hu7] at hs HZ HX HY ⊢
  rw [hkHZ] at HZ ⊢
  clear hu7 hkHZ hq7
  go_wp2_with fail
  refine (space_c _).mono ?_
  rintro e v8 ⟨⟨m8, rfl, hsa8⟩, hb8⟩
  replace hs := hs.keep hb8
  replace HX := Lib.hid (HX.out.keep hb8)
  replace HY := Lib.hid (HY.out.keep hb8)
  replace HZ := Lib.hid (HZ.out.keep hb8)
  have HSA8 := Lib.hid hsa8
  clear hsa8 hb8
  go_wp2_with fail
  refine (read2_c _ _).mono ?_
  rintro e v9 ⟨⟨rfl, hr9⟩, hb9⟩
  replace hs := hs.keep hb9
  replace HX := Lib.hid (HX.out.keep hb9)
  replace HY := Lib.hid (HY.out.keep hb9)
  replace HZ := Lib.hid (HZ.out.keep hb9)
  replace HSA8 := Lib.hid (HSA8.out.keep hb9)
  have HRD9 := Lib.hid hr9
  clear hr9 hb9
  go_wp2_with fail
  refine (kn4_c m8 _ _ HSA8.out HRD9.out).mono ?_
  rintro e v10 ⟨rfl, hb10⟩
  replace hs := hs.keep hb10
  replace HX := Lib.hid (HX.out.keep hb10)
  replace HY := Lib.hid (HY.out.keep hb10)
  replace HZ := Lib.hid (HZ.out.keep hb10)
  replace HSA8 := Lib.hid (HSA8.out.keep hb10)
  replace HRD9 := Lib.hid (HRD9.out.keep hb10)
  clear hb10
  clear HSA8 HRD9
  go_wp2_with fail
  refine (space_c _).mono ?_
  rintro e v11 ⟨⟨m11, rfl, hsa11⟩, hb11⟩
  replace hs := hs.keep hb11
  replace HX := Lib.hid (HX.out.keep hb11)
  replace HY := Lib.hid (HY.out.keep hb11)
  replace HZ := Lib.hid (HZ.out.keep hb11)
  have HSA11 := Lib.hid hsa11
  clear hsa11 hb11
  go_wp2_with fail
  refine (kn5_c m11 _ HSA11.out).mono ?_
  rintro e v12 ⟨rfl, hb12⟩
  replace hs := hs.keep hb12
  replace HX := Lib.hid (HX.out.keep hb12)
  replace HY := Lib.hid (HY.out.keep hb12)
  replace HZ := Lib.hid (HZ.out.keep hb12)
  replace HSA11 := Lib.hid (HSA11.out.keep hb12)
  clear hb12
  clear HSA11
  go_wp2_with fail
  refine (space_c _).mono ?_
  rintro e v13 ⟨⟨m13, rfl, hsa13⟩, hb13⟩
  replace hs := hs.keep hb13
  replace HX := Lib.hid (HX.out.keep hb13)
  replace HY := Lib.hid (HY.out.keep hb13)
  replace HZ := Lib.hid (HZ.out.keep hb13)
  have HSA13 := Lib.hid hsa13
  clear hsa13 hb13
  go_wp2_with fail
  refine (kn6_c m13 _ HSA13.out).mono ?_
  rintro e v14 ⟨rfl, hb14⟩
  replace hs := hs.keep hb14
  replace HX := Lib.hid (HX.out.keep hb14)
  replace HY := Lib.hid (HY.out.keep hb14)
  replace HZ := Lib.hid (HZ.out.keep hb14)
  replace HSA13 := Lib.hid (HSA13.out.keep hb14)
  clear hb14
  clear HSA13
  go_wp2_with fail
  refine (space_c _).mono ?_
  rintro e v15 ⟨⟨m15, rfl, hsa15⟩, hb15⟩
  replace hs := hs.keep hb15
  replace HX := Lib.hid (HX.out.keep hb15)
  replace HY := Lib.hid (HY.out.keep hb15)
  replace HZ := Lib.hid (HZ.out.keep hb15)
  have HSA15 := Lib.hid hsa15
  clear hsa15 hb15
  go_wp2_with fail
  refine (kn7_c m15 _ HSA15.out).mono ?_
  rintro e v16 ⟨⟨v13, rfl, -⟩, hb16⟩
  replace hs := hs.keep hb16
  replace HX := Lib.hid (HX.out.keep hb16)
  replace HY := Lib.hid (HY.out.keep hb16)
  replace HZ := Lib.hid (HZ.out.keep hb16)
  replace HSA15 := Lib.hid (HSA15.out.keep hb16)
  clear hb16
  clear HSA15
  go_wp2_with fail
  refine Vals6.regionAll (fun X => Blk X kHX 23 #[.int .i64 0, .int .i64 40] ∧ Blk X kHY 23 #[.int .i64 10, .int .i64 70] ∧ Blk X kHZ 23 #[.int .i64 4, .int .i64 8] ∧ Since w X) [some 52, some 53, some 54, some 55, some 56, some 57, some 58, some 59, some 60, some 61, some 62, some 63, some 64, some 65, some 66, some 67, some 68, some 69, some 70, some 71, some 72, some 73, some 74, some 75, some 76, some 77, some 78, some 79, some 80, some 81, some 82, some 83, some 84, some 85, some 86, some 87, some 88, some 89, some 90, some 91, some 92, some 93, some 94, some 95, some 96, some 97, some 98, some 99, some 100, some 101, some 102, some 103, some 104, some 105, some 106, some 107] [.is (.int .i64 0), .is (.bool true), .is (.bool true), .is (.int .i64 0), .is (.bool true), .is (.bool true), .is (.bool true), .is (.int .i64 0), .is (.bool true), .is (.bool true), .is (.bool true), .is (.int .i64 0), .is (.bool true), .is (.bool true), .is (.bool true), .is (.int .i64 0), .is (.bool true), .is (.bool true), .is (.bool true), .is (.int .i64 0), .is (.bool true), .is (.bool true), .is (.bool true), .is (.int .i64 9), .is (.bool true), .is (.bool true), .is (.bool true), .is (.agg #[.int .i64 0, .int .i64 40]), .is (.agg #[.int .i64 0, .int .i64 40]), .is (.bool true), .is (.bool true), .is (.bool true), .is (.agg #[.int .i64 10, .int .i64 70]), .is (.agg #[.int .i64 10, .int .i64 70]), .is (.bool true), .is (.bool true), .is (.bool true), .is (.agg #[.int .i64 4, .int .i64 8]), .is (.agg #[.int .i64 4, .int .i64 8]), .is (.bool true), .is (.bool true), .is (.bool true), .is (.int .i64 20), .is (.bool true), .is (.bool true), .is (.bool true), .is (.int .i64 22), .is (.bool true), .is (.bool true), .is (.bool true), .is (.int .i64 (-1)), .is (.bool true), .is (.bool true), .is (.bool true), .is (.bool true), .is (.bool true)] (by kernel_rfl) rfl rfl (by kernel_rfl) (by kernel_rfl) (by kernel_rfl) (by kernel_rfl) (by kernel_rfl) (by kernel_rfl) (by kernel_rfl) (⟨HX.out.drew, HY.out.drew, HZ.out.drew, hs.drew⟩) ?_ ?_
  · refine Vals5.Steps.run (by kernel_rfl) (Vals5.Stable.is _) ?_ ?_
    · intro a W hS pre old K hK
      have e2 : a.tmps.getD 2 undef = .int .i64 0 := old 2 _ (by kernel_rfl) rfl
      clear pre old
      simp only [Array.getD_eq_getD_getElem?] at e2
      go_simp
      exact hK _ _ hS (Below.refl _ _) rfl
    refine Vals5.Steps.run (by kernel_rfl) (Vals5.Stable.is _) ?_ ?_
    · intro a W hS pre old K hK
      have e52 : a.tmps.getD 52 undef = .int .i64 0 := pre 0 52 _ (by kernel_rfl) rfl rfl
      clear pre old
      simp only [Array.getD_eq_getD_getElem?] at e52
      go_simp
      exact hK _ _ hS (Below.refl _ _) rfl
    refine Vals5.Steps.run (by kernel_rfl) (Vals5.Stable.is _) ?_ ?_
    · intro a W hS pre old K hK
      have e53 : a.tmps.getD 53 undef = .bool true := pre 1 53 _ (by kernel_rfl) rfl rfl
      clear pre old
      simp only [Array.getD_eq_getD_getElem?] at e53
      go_simp
      exact hK _ _ hS (Below.refl _ _) rfl
    refine Vals5.Steps.run (by kernel_rfl) (Vals5.Stable.is _) ?_ ?_
    · intro a W hS pre old K hK
      have e4 : a.tmps.getD 4 undef = .int .i64 0 := old 4 _ (by kernel_rfl) rfl
      clear pre old
      simp only [Array.getD_eq_getD_getElem?] at e4
      go_simp
      exact hK _ _ hS (Below.refl _ _) rfl
    refine Vals5.Steps.run (by kernel_rfl) (Vals5.Stable.is _) ?_ ?_
    · intro a W hS pre old K hK
      have e55 : a.tmps.getD 55 undef = .int .i64 0 := pre 3 55 _ (by kernel_rfl) rfl rfl
      clear pre old
      simp only [Array.getD_eq_getD_getElem?] at e55
      go_simp
      exact hK _ _ hS (Below.refl _ _) rfl
    refine Vals5.Steps.run (by kernel_rfl) (Vals5.Stable.is _) ?_ ?_
    · intro a W hS pre old K hK
      have e54 : a.tmps.getD 54 undef = .bool true := pre 2 54 _ (by kernel_rfl) rfl rfl
      have e56 : a.tmps.getD 56 undef = .bool true := pre 4 56 _ (by kernel_rfl) rfl rfl
      clear pre old
      simp only [Array.getD_eq_getD_getElem?] at e54 e56
      go_simp
      exact hK _ _ hS (Below.refl _ _) rfl
    refine Vals5.Steps.run (by kernel_rfl) (Vals5.Stable.is _) ?_ ?_
    · intro a W hS pre old K hK
      have e57 : a.tmps.getD 57 undef = .bool true := pre 5 57 _ (by kernel_rfl) rfl rfl
      clear pre old
      simp only [Array.getD_eq_getD_getElem?] at e57
      go_simp
      exact hK _ _ hS (Below.refl _ _) rfl
    refine Vals5.Steps.run (by kernel_rfl) (Vals5.Stable.is _) ?_ ?_
    · intro a W hS pre old K hK
      have e6 : a.tmps.getD 6 undef = .int .i64 0 := old 6 _ (by kernel_rfl) rfl
      clear pre old
      simp only [Array.getD_eq_getD_getElem?] at e6
      go_simp
      exact hK _ _ hS (Below.refl _ _) rfl
    refine Vals5.Steps.run (by kernel_rfl) (Vals5.Stable.is _) ?_ ?_
    · intro a W hS pre old K hK
      have e59 : a.tmps.getD 59 undef = .int .i64 0 := pre 7 59 _ (by kernel_rfl) rfl rfl
      clear pre old
      simp only [Array.getD_eq_getD_getElem?] at e59
      go_simp
      exact hK _ _ hS (Below.refl _ _) rfl
    refine Vals5.Steps.run (by kernel_rfl) (Vals5.Stable.is _) ?_ ?_
    · intro a W hS pre old K hK
      have e58 : a.tmps.getD 58 undef = .bool true := pre 6 58 _ (by kernel_rfl) rfl rfl
      have e60 : a.tmps.getD 60 undef = .bool true := pre 8 60 _ (by kernel_rfl) rfl rfl
      clear pre old
      simp only [Array.getD_eq_getD_getElem?] at e58 e60
      go_simp
      exact hK _ _ hS (Below.refl _ _) rfl
    refine Vals5.Steps.run (by kernel_rfl) (Vals5.Stable.is _) ?_ ?_
    · intro a W hS pre old K hK
      have e61 : a.tmps.getD 61 undef = .bool true := pre 9 61 _ (by kernel_rfl) rfl rfl
      clear pre old
      simp only [Array.getD_eq_getD_getElem?] at e61
      go_simp
      exact hK _ _ hS (Below.refl _ _) rfl
    refine Vals5.Steps.run (by kernel_rfl) (Vals5.Stable.is _) ?_ ?_
    · intro a W hS pre old K hK
      have e8 : a.tmps.getD 8 undef = .int .i64 0 := old 8 _ (by kernel_rfl) rfl
      clear pre old
      simp only [Array.getD_eq_getD_getElem?] at e8
      go_simp
      exact hK _ _ hS (Below.refl _ _) rfl
    refine Vals5.Steps.run (by kernel_rfl) (Vals5.Stable.is _) ?_ ?_
    · intro a W hS pre old K hK
      have e63 : a.tmps.getD 63 undef = .int .i64 0 := pre 11 63 _ (by kernel_rfl) rfl rfl
      clear pre old
      simp only [Array.getD_eq_getD_getElem?] at e63
      go_simp
      exact hK _ _ hS (Below.refl _ _) rfl
    refine Vals5.Steps.run (by kernel_rfl) (Vals5.Stable.is _) ?_ ?_
    · intro a W hS pre old K hK
      have e62 : a.tmps.getD 62 undef = .bool true := pre 10 62 _ (by kernel_rfl) rfl rfl
      have e64 : a.tmps.getD 64 undef = .bool true := pre 12 64 _ (by kernel_rfl) rfl rfl
      clear pre old
      simp only [Array.getD_eq_getD_getElem?] at e62 e64
      go_simp
      exact hK _ _ hS (Below.refl _ _) rfl
    refine Vals5.Steps.run (by kernel_rfl) (Vals5.Stable.is _) ?_ ?_
    · intro a W hS pre old K hK
      have e65 : a.tmps.getD 65 undef = .bool true := pre 13 65 _ (by kernel_rfl) rfl rfl
      clear pre old
      simp only [Array.getD_eq_getD_getElem?] at e65
      go_simp
      exact hK _ _ hS (Below.refl _ _) rfl
    refine Vals5.Steps.run (by kernel_rfl) (Vals5.Stable.is _) ?_ ?_
    · intro a W hS pre old K hK
      have e10 : a.tmps.getD 10 undef = .int .i64 0 := old 10 _ (by kernel_rfl) rfl
      clear pre old
      simp only [Array.getD_eq_getD_getElem?] at e10
      go_simp
      exact hK _ _ hS (Below.refl _ _) rfl
    refine Vals5.Steps.run (by kernel_rfl) (Vals5.Stable.is _) ?_ ?_
    · intro a W hS pre old K hK
      have e67 : a.tmps.getD 67 undef = .int .i64 0 := pre 15 67 _ (by kernel_rfl) rfl rfl
      clear pre old
      simp only [Array.getD_eq_getD_getElem?] at e67
      go_simp
      exact hK _ _ hS (Below.refl _ _) rfl
    refine Vals5.Steps.run (by kernel_rfl) (Vals5.Stable.is _) ?_ ?_
    · intro a W hS pre old K hK
      have e66 : a.tmps.getD 66 undef = .bool true := pre 14 66 _ (by kernel_rfl) rfl rfl
      have e68 : a.tmps.getD 68 undef = .bool true := pre 16 68 _ (by kernel_rfl) rfl rfl
      clear pre old
      simp only [Array.getD_eq_getD_getElem?] at e66 e68
      go_simp
      exact hK _ _ hS (Below.refl _ _) rfl
    refine Vals5.Steps.run (by kernel_rfl) (Vals5.Stable.is _) ?_ ?_
    · intro a W hS pre old K hK
      have e69 : a.tmps.getD 69 undef = .bool true := pre 17 69 _ (by kernel_rfl) rfl rfl
      clear pre old
      simp only [Array.getD_eq_getD_getElem?] at e69
      go_simp
      exact hK _ _ hS (Below.refl _ _) rfl
    refine Vals5.Steps.run (by kernel_rfl) (Vals5.Stable.is _) ?_ ?_
    · intro a W hS pre old K hK
      have e12 : a.tmps.getD 12 undef = .int .i64 0 := old 12 _ (by kernel_rfl) rfl
      clear pre old
      simp only [Array.getD_eq_getD_getElem?] at e12
      go_simp
      exact hK _ _ hS (Below.refl _ _) rfl
    refine Vals5.Steps.run (by kernel_rfl) (Vals5.Stable.is _) ?_ ?_
    · intro a W hS pre old K hK
      have e71 : a.tmps.getD 71 undef = .int .i64 0 := pre 19 71 _ (by kernel_rfl) rfl rfl
      clear pre old
      simp only [Array.getD_eq_getD_getElem?] at e71
      go_simp
      exact hK _ _ hS (Below.refl _ _) rfl
    refine Vals5.Steps.run (by kernel_rfl) (Vals5.Stable.is _) ?_ ?_
    · intro a W hS pre old K hK
      have e70 : a.tmps.getD 70 undef = .bool true := pre 18 70 _ (by kernel_rfl) rfl rfl
      have e72 : a.tmps.getD 72 undef = .bool true := pre 20 72 _ (by kernel_rfl) rfl rfl
      clear pre old
      simp only [Array.getD_eq_getD_getElem?] at e70 e72
      go_simp
      exact hK _ _ hS (Below.refl _ _) rfl
    refine Vals5.Steps.run (by kernel_rfl) (Vals5.Stable.is _) ?_ ?_
    · intro a W hS pre old K hK
      have e73 : a.tmps.getD 73 undef = .bool true := pre 21 73 _ (by kernel_rfl) rfl rfl
      clear pre old
      simp only [Array.getD_eq_getD_getElem?] at e73
      go_simp
      exact hK _ _ hS (Below.refl _ _) rfl
    refine Vals5.Steps.run (by kernel_rfl) (Vals5.Stable.is _) ?_ ?_
    · intro a W hS pre old K hK
      have e14 : a.tmps.getD 14 undef = .int .i64 9 := old 14 _ (by kernel_rfl) rfl
      clear pre old
      simp only [Array.getD_eq_getD_getElem?] at e14
      go_simp
      exact hK _ _ hS (Below.refl _ _) rfl
    refine Vals5.Steps.run (by kernel_rfl) (Vals5.Stable.is _) ?_ ?_
    · intro a W hS pre old K hK
      have e75 : a.tmps.getD 75 undef = .int .i64 9 := pre 23 75 _ (by kernel_rfl) rfl rfl
      clear pre old
      simp only [Array.getD_eq_getD_getElem?] at e75
      go_simp
      exact hK _ _ hS (Below.refl _ _) rfl
    refine Vals5.Steps.run (by kernel_rfl) (Vals5.Stable.is _) ?_ ?_
    · intro a W hS pre old K hK
      have e74 : a.tmps.getD 74 undef = .bool true := pre 22 74 _ (by kernel_rfl) rfl rfl
      have e76 : a.tmps.getD 76 undef = .bool true := pre 24 76 _ (by kernel_rfl) rfl rfl
      clear pre old
      simp only [Array.getD_eq_getD_getElem?] at e74 e76
      go_simp
      exact hK _ _ hS (Below.refl _ _) rfl
    refine Vals5.Steps.run (by kernel_rfl) (Vals5.Stable.is _) ?_ ?_
    · intro a W hS pre old K hK
      have e77 : a.tmps.getD 77 undef = .bool true := pre 25 77 _ (by kernel_rfl) rfl rfl
      clear pre old
      simp only [Array.getD_eq_getD_getElem?] at e77
      go_simp
      exact hK _ _ hS (Below.refl _ _) rfl
    refine Vals5.Steps.run (by kernel_rfl) (Vals5.Stable.is _) ?_ ?_
    · intro a W hS pre old K hK
      have e1 : a.tmps.getD 1 undef = .pointer (some ⟨kHX, 0, none⟩) := old 1 _ (by kernel_rfl) rfl
      clear pre old
      simp only [Array.getD_eq_getD_getElem?] at e1
      have hS9 := hS
      obtain ⟨l1, l2, l3, _⟩ := hS9
      have x0 := l1.cell 0
      have x1 := l1.cell 1
      have y0 := l2.cell 0
      have y1 := l2.cell 1
      have z0 := l3.cell 0
      have z1 := l3.cell 1
      simp only [List.getElem?_toArray, List.getElem?_cons_zero, List.getElem?_cons_succ] at x0 x1 y0 y1 z0 z1
      go_simp
      exact hK _ _ hS (Below.refl _ _) rfl
    refine Vals5.Steps.run (by kernel_rfl) (Vals5.Stable.is _) ?_ ?_
    · intro a W hS pre old K hK
      clear pre old
      go_simp
      refine (span_c 0 40 _).mono ?_
      rintro e w' ⟨rfl, hb'⟩
      obtain ⟨h1, h2, h3, h4⟩ := hS
      exact hK _ _ ⟨h1.keep hb', h2.keep hb', h3.keep hb', h4.keep hb'⟩ hb' rfl
    refine Vals5.Steps.run (by kernel_rfl) (Vals5.Stable.is _) ?_ ?_
    · intro a W hS pre old K hK
      have e79 : a.tmps.getD 79 undef = .agg #[.int .i64 0, .int .i64 40] := pre 27 79 _ (by kernel_rfl) rfl rfl
      have e80 : a.tmps.getD 80 undef = .agg #[.int .i64 0, .int .i64 40] := pre 28 80 _ (by kernel_rfl) rfl rfl
      clear pre old
      simp only [Array.getD_eq_getD_getElem?] at e79 e80
      have hq := eqSpan 0 40
      go_simp
      exact hK _ _ hS (Below.refl _ _) rfl
    refine Vals5.Steps.run (by kernel_rfl) (Vals5.Stable.is _) ?_ ?_
    · intro a W hS pre old K hK
      have e78 : a.tmps.getD 78 undef = .bool true := pre 26 78 _ (by kernel_rfl) rfl rfl
      have e81 : a.tmps.getD 81 undef = .bool true := pre 29 81 _ (by kernel_rfl) rfl rfl
      clear pre old
      simp only [Array.getD_eq_getD_getElem?] at e78 e81
      go_simp
      exact hK _ _ hS (Below.refl _ _) rfl
    refine Vals5.Steps.run (by kernel_rfl) (Vals5.Stable.is _) ?_ ?_
    · intro a W hS pre old K hK
      have e82 : a.tmps.getD 82 undef = .bool true := pre 30 82 _ (by kernel_rfl) rfl rfl
      clear pre old
      simp only [Array.getD_eq_getD_getElem?] at e82
      go_simp
      exact hK _ _ hS (Below.refl _ _) rfl
    refine Vals5.Steps.run (by kernel_rfl) (Vals5.Stable.is _) ?_ ?_
    · intro a W hS pre old K hK
      have e3 : a.tmps.getD 3 undef = .pointer (some ⟨kHY, 0, none⟩) := old 3 _ (by kernel_rfl) rfl
      clear pre old
      simp only [Array.getD_eq_getD_getElem?] at e3
      have hS9 := hS
      obtain ⟨l1, l2, l3, _⟩ := hS9
      have x0 := l1.cell 0
      have x1 := l1.cell 1
      have y0 := l2.cell 0
      have y1 := l2.cell 1
      have z0 := l3.cell 0
      have z1 := l3.cell 1
      simp only [List.getElem?_toArray, List.getElem?_cons_zero, List.getElem?_cons_succ] at x0 x1 y0 y1 z0 z1
      go_simp
      exact hK _ _ hS (Below.refl _ _) rfl
    refine Vals5.Steps.run (by kernel_rfl) (Vals5.Stable.is _) ?_ ?_
    · intro a W hS pre old K hK
      clear pre old
      go_simp
      refine (span_c 10 70 _).mono ?_
      rintro e w' ⟨rfl, hb'⟩
      obtain ⟨h1, h2, h3, h4⟩ := hS
      exact hK _ _ ⟨h1.keep hb', h2.keep hb', h3.keep hb', h4.keep hb'⟩ hb' rfl
    refine Vals5.Steps.run (by kernel_rfl) (Vals5.Stable.is _) ?_ ?_
    · intro a W hS pre old K hK
      have e84 : a.tmps.getD 84 undef = .agg #[.int .i64 10, .int .i64 70] := pre 32 84 _ (by kernel_rfl) rfl rfl
      have e85 : a.tmps.getD 85 undef = .agg #[.int .i64 10, .int .i64 70] := pre 33 85 _ (by kernel_rfl) rfl rfl
      clear pre old
      simp only [Array.getD_eq_getD_getElem?] at e84 e85
      have hq := eqSpan 10 70
      go_simp
      exact hK _ _ hS (Below.refl _ _) rfl
    refine Vals5.Steps.run (by kernel_rfl) (Vals5.Stable.is _) ?_ ?_
    · intro a W hS pre old K hK
      have e83 : a.tmps.getD 83 undef = .bool true := pre 31 83 _ (by kernel_rfl) rfl rfl
      have e86 : a.tmps.getD 86 undef = .bool true := pre 34 86 _ (by kernel_rfl) rfl rfl
      clear pre old
      simp only [Array.getD_eq_getD_getElem?] at e83 e86
      go_simp
      exact hK _ _ hS (Below.refl _ _) rfl
    refine Vals5.Steps.run (by kernel_rfl) (Vals5.Stable.is _) ?_ ?_
    · intro a W hS pre old K hK
      have e87 : a.tmps.getD 87 undef = .bool true := pre 35 87 _ (by kernel_rfl) rfl rfl
      clear pre old
      simp only [Array.getD_eq_getD_getElem?] at e87
      go_simp
      exact hK _ _ hS (Below.refl _ _) rfl
    refine Vals5.Steps.run (by kernel_rfl) (Vals5.Stable.is _) ?_ ?_
    · intro a W hS pre old K hK
      have e5 : a.tmps.getD 5 undef = .pointer (some ⟨kHZ, 0, none⟩) := old 5 _ (by kernel_rfl) rfl
      clear pre old
      simp only [Array.getD_eq_getD_getElem?] at e5
      have hS9 := hS
      obtain ⟨l1, l2, l3, _⟩ := hS9
      have x0 := l1.cell 0
      have x1 := l1.cell 1
      have y0 := l2.cell 0
      have y1 := l2.cell 1
      have z0 := l3.cell 0
      have z1 := l3.cell 1
      simp only [List.getElem?_toArray, List.getElem?_cons_zero, List.getElem?_cons_succ] at x0 x1 y0 y1 z0 z1
      go_simp
      exact hK _ _ hS (Below.refl _ _) rfl
    refine Vals5.Steps.run (by kernel_rfl) (Vals5.Stable.is _) ?_ ?_
    · intro a W hS pre old K hK
      clear pre old
      go_simp
      refine (span_c 4 8 _).mono ?_
      rintro e w' ⟨rfl, hb'⟩
      obtain ⟨h1, h2, h3, h4⟩ := hS
      exact hK _ _ ⟨h1.keep hb', h2.keep hb', h3.keep hb', h4.keep hb'⟩ hb' rfl
    refine Vals5.Steps.run (by kernel_rfl) (Vals5.Stable.is _) ?_ ?_
    · intro a W hS pre old K hK
      have e89 : a.tmps.getD 89 undef = .agg #[.int .i64 4, .int .i64 8] := pre 37 89 _ (by kernel_rfl) rfl rfl
      have e90 : a.tmps.getD 90 undef = .agg #[.int .i64 4, .int .i64 8] := pre 38 90 _ (by kernel_rfl) rfl rfl
      clear pre old
      simp only [Array.getD_eq_getD_getElem?] at e89 e90
      have hq := eqSpan 4 8
      go_simp
      exact hK _ _ hS (Below.refl _ _) rfl
    refine Vals5.Steps.run (by kernel_rfl) (Vals5.Stable.is _) ?_ ?_
    · intro a W hS pre old K hK
      have e88 : a.tmps.getD 88 undef = .bool true := pre 36 88 _ (by kernel_rfl) rfl rfl
      have e91 : a.tmps.getD 91 undef = .bool true := pre 39 91 _ (by kernel_rfl) rfl rfl
      clear pre old
      simp only [Array.getD_eq_getD_getElem?] at e88 e91
      go_simp
      exact hK _ _ hS (Below.refl _ _) rfl
    refine Vals5.Steps.run (by kernel_rfl) (Vals5.Stable.is _) ?_ ?_
    · intro a W hS pre old K hK
      have e92 : a.tmps.getD 92 undef = .bool true := pre 40 92 _ (by kernel_rfl) rfl rfl
      clear pre old
      simp only [Array.getD_eq_getD_getElem?] at e92
      go_simp
      exact hK _ _ hS (Below.refl _ _) rfl
    refine Vals5.Steps.run (by kernel_rfl) (Vals5.Stable.is _) ?_ ?_
    · intro a W hS pre old K hK
      have e7 : a.tmps.getD 7 undef = .int .i64 20 := old 7 _ (by kernel_rfl) rfl
      clear pre old
      simp only [Array.getD_eq_getD_getElem?] at e7
      go_simp
      exact hK _ _ hS (Below.refl _ _) rfl
    refine Vals5.Steps.run (by kernel_rfl) (Vals5.Stable.is _) ?_ ?_
    · intro a W hS pre old K hK
      have e94 : a.tmps.getD 94 undef = .int .i64 20 := pre 42 94 _ (by kernel_rfl) rfl rfl
      clear pre old
      simp only [Array.getD_eq_getD_getElem?] at e94
      go_simp
      exact hK _ _ hS (Below.refl _ _) rfl
    refine Vals5.Steps.run (by kernel_rfl) (Vals5.Stable.is _) ?_ ?_
    · intro a W hS pre old K hK
      have e93 : a.tmps.getD 93 undef = .bool true := pre 41 93 _ (by kernel_rfl) rfl rfl
      have e95 : a.tmps.getD 95 undef = .bool true := pre 43 95 _ (by kernel_rfl) rfl rfl
      clear pre old
      simp only [Array.getD_eq_getD_getElem?] at e93 e95
      go_simp
      exact hK _ _ hS (Below.refl _ _) rfl
    refine Vals5.Steps.run (by kernel_rfl) (Vals5.Stable.is _) ?_ ?_
    · intro a W hS pre old K hK
      have e96 : a.tmps.getD 96 undef = .bool true := pre 44 96 _ (by kernel_rfl) rfl rfl
      clear pre old
      simp only [Array.getD_eq_getD_getElem?] at e96
      go_simp
      exact hK _ _ hS (Below.refl _ _) rfl
    refine Vals5.Steps.run (by kernel_rfl) (Vals5.Stable.is _) ?_ ?_
    · intro a W hS pre old K hK
      have e9 : a.tmps.getD 9 undef = .int .i64 22 := old 9 _ (by kernel_rfl) rfl
      clear pre old
      simp only [Array.getD_eq_getD_getElem?] at e9
      go_simp
      exact hK _ _ hS (Below.refl _ _) rfl
    refine Vals5.Steps.run (by kernel_rfl) (Vals5.Stable.is _) ?_ ?_
    · intro a W hS pre old K hK
      have e98 : a.tmps.getD 98 undef = .int .i64 22 := pre 46 98 _ (by kernel_rfl) rfl rfl
      clear pre old
      simp only [Array.getD_eq_getD_getElem?] at e98
      go_simp
      exact hK _ _ hS (Below.refl _ _) rfl
    refine Vals5.Steps.run (by kernel_rfl) (Vals5.Stable.is _) ?_ ?_
    · intro a W hS pre old K hK
      have e97 : a.tmps.getD 97 undef = .bool true := pre 45 97 _ (by kernel_rfl) rfl rfl
      have e99 : a.tmps.getD 99 undef = .bool true := pre 47 99 _ (by kernel_rfl) rfl rfl
      clear pre old
      simp only [Array.getD_eq_getD_getElem?] at e97 e99
      go_simp
      exact hK _ _ hS (Below.refl _ _) rfl
    refine Vals5.Steps.run (by kernel_rfl) (Vals5.Stable.is _) ?_ ?_
    · intro a W hS pre old K hK
      have e100 : a.tmps.getD 100 undef = .bool true := pre 48 100 _ (by kernel_rfl) rfl rfl
      clear pre old
      simp only [Array.getD_eq_getD_getElem?] at e100
      go_simp
      exact hK _ _ hS (Below.refl _ _) rfl
    refine Vals5.Steps.run (by kernel_rfl) (Vals5.Stable.is _) ?_ ?_
    · intro a W hS pre old K hK
      have e11 : a.tmps.getD 11 undef = .int .i64 (-1) := old 11 _ (by kernel_rfl) rfl
      clear pre old
      simp only [Array.getD_eq_getD_getElem?] at e11
      go_simp
      exact hK _ _ hS (Below.refl _ _) rfl
    refine Vals5.Steps.run (by kernel_rfl) (Vals5.Stable.is _) ?_ ?_
    · intro a W hS pre old K hK
      have e102 : a.tmps.getD 102 undef = .int .i64 (-1) := pre 50 102 _ (by kernel_rfl) rfl rfl
      clear pre old
      simp only [Array.getD_eq_getD_getElem?] at e102
      go_simp
      exact hK _ _ hS (Below.refl _ _) rfl
    refine Vals5.Steps.run (by kernel_rfl) (Vals5.Stable.is _) ?_ ?_
    · intro a W hS pre old K hK
      have e101 : a.tmps.getD 101 undef = .bool true := pre 49 101 _ (by kernel_rfl) rfl rfl
      have e103 : a.tmps.getD 103 undef = .bool true := pre 51 103 _ (by kernel_rfl) rfl rfl
      clear pre old
      simp only [Array.getD_eq_getD_getElem?] at e101 e103
      go_simp
      exact hK _ _ hS (Below.refl _ _) rfl
    refine Vals5.Steps.run (by kernel_rfl) (Vals5.Stable.is _) ?_ ?_
    · intro a W hS pre old K hK
      have e104 : a.tmps.getD 104 undef = .bool true := pre 52 104 _ (by kernel_rfl) rfl rfl
      clear pre old
      simp only [Array.getD_eq_getD_getElem?] at e104
      go_simp
      exact hK _ _ hS (Below.refl _ _) rfl
    refine Vals5.Steps.run (by kernel_rfl) (Vals5.Stable.is _) ?_ ?_
    · intro a W hS pre old K hK
      clear pre old
      go_simp
      refine (awake_c _).mono ?_
      rintro e w' ⟨rfl, hb'⟩
      obtain ⟨h1, h2, h3, h4⟩ := hS
      exact hK _ _ ⟨h1.keep hb', h2.keep hb', h3.keep hb', h4.keep hb'⟩ hb' rfl
    refine Vals5.Steps.run (by kernel_rfl) (Vals5.Stable.is _) ?_ ?_
    · intro a W hS pre old K hK
      have e105 : a.tmps.getD 105 undef = .bool true := pre 53 105 _ (by kernel_rfl) rfl rfl
      have e106 : a.tmps.getD 106 undef = .bool true := pre 54 106 _ (by kernel_rfl) rfl rfl
      clear pre old
      simp only [Array.getD_eq_getD_getElem?] at e105 e106
      go_simp
      exact hK _ _ hS (Below.refl _ _) rfl
    exact Vals5.Steps.nil
  rintro X ⟨_, _, _, hs9⟩
  simp only [Vals5.All, List.getLast_cons_cons, List.getLast_singleton]
  simp only [Vals.putAll, List.setIfInBounds_toArray, List.set_cons_zero, List.set_cons_succ]
  intro K hK
  go_simp
  refine hK _ _ ?_
  clear hK K
  go_wp2_with fail
  go_ret
  exact ⟨rfl, hs9.1⟩
end Td
end Go.Proofs.Ytolkngbpmhdjkaa
