import Derived.Test.YtgkdidnmndmlhaaLeaf
/- The checks of heaps, plans and shares. -/
namespace Go.Proofs.Ytgkdidnmndmlhaa
open Go.RowKit
namespace Td
set_option linter.unusedSimpArgs false
set_option linter.unusedVariables false
/-- the cells of a heap, a plan, a fraction. -/
abbrev gV (P lo hi : Int) : Array Value := #[.int .i64 P, .int .i64 lo, .int .i64 hi]
abbrev lV (fi pa fa se to : Int) : Array Value := #[.int .i64 fi, .int .i64 pa, .int .i64 fa, .int .i64 se, .int .i64 to]
abbrev fV (s : Int × Int) : Array Value := #[.int .i64 s.1, .int .i64 s.2]
theorem within1_c (lo hi n : Int) (g : Nat) (ty : TypeId) (w : World) (h : Blk w g ty #[.int .i64 n]) :
    Calls Try.prog 46 #[.int .i64 lo, .int .i64 hi, .slice (some ⟨g, 0, none⟩) 1 1] w fun e w' => e = .returned (.bool (wi lo hi n)) ∧ w = w' := by
  have := withins_c (some ⟨g, 0, none⟩) [n] 1 lo hi w (by simp) (InAt.one h)
  rwa [wl_one] at this
theorem span1_c (lo hi : Int) (p : Int × Int) (g : Nat) (ty : TypeId) (w : World) (h : Blk w g ty #[.int .i64 p.1, .int .i64 p.2]) :
    Calls Try.prog 47 #[.int .i64 lo, .int .i64 hi, .slice (some ⟨g, 0, none⟩) 1 1] w fun e w' => e = .returned (.bool (wi lo hi p.1 && wi lo hi p.2)) ∧ Below w.heap.size w w' := by
  have := spansWithin_c (some ⟨g, 0, none⟩) [p] 1 lo hi w (by simp) (SpAt.one h)
  rwa [sw_one] at this
theorem turned1_c (p : Int × Int) (g : Nat) (ty : TypeId) (w : World) (h : Blk w g ty #[.int .i64 p.1, .int .i64 p.2]) :
    Calls Try.prog 48 #[.slice (some ⟨g, 0, none⟩) 1 1] w fun e w' => e = .returned (.bool (decide (p.2 < p.1))) ∧ Below w.heap.size w w' := by
  have := turned_c (some ⟨g, 0, none⟩) [p] 1 w (by simp) (SpAt.one h)
  rwa [tn_one] at this
set_option maxHeartbeats 1000000 in
theorem Check_c (P lo hi : Int) (w : World) :
    Calls Try.prog 17 #[.agg (gV P lo hi)] w fun e w' => e = .returned (.int .i64 (chkE P lo hi)) ∧ Below w.heap.size w w' := by
  have hs0 := (Since.refl w).alloc (.cells (gV P lo hi) 25)
  have HB := Lib.hid (Blk.new w 25 (gV P lo hi))
  have HW := Lib.hid (Blk.new1 w (.cells (gV P lo hi) 25) 3 #[.int .i64 P])
  have hs1 := hs0.alloc (.cells #[.int .i64 P] 3)
  by_cases h1 : wi 1 20 P = true
  · by_cases h2 : (wi 0 P lo && wi 0 P hi) = true
    · have h2' := h2
      rw [Bool.and_eq_true] at h2'
      have HV : Hid (chkE P lo hi = if hi < lo then 2 else 0) := by show _ = _; unfold chkE; rw [if_pos ⟨h1, h2'⟩]
      have H1 := Lib.hid h1
      have H2 := Lib.hid h2
      clear h1 h2 h2'
      go_enter Try.func17, Try.ntmps17
      go_wp2_with fail
      refine (within1_c _ _ _ _ _ _ HW.out).mono ?_
      rintro e w' ⟨rfl, rfl⟩
      rw [H1.out]
      have HS := Lib.hid (Blk.new1 (w.alloc (.cells (gV P lo hi) 25)) (.cells #[.int .i64 P] 3) 23 #[.int .i64 lo, .int .i64 hi])
      have hs2 := hs1.alloc (.cells #[.int .i64 lo, .int .i64 hi] 23)
      have HB2 := Lib.hid ((HB.out.alloc (.cells #[.int .i64 P] 3)).alloc (.cells #[.int .i64 lo, .int .i64 hi] 23))
      go_wp2_with fail
      refine (span1_c 0 P (lo, hi) _ _ _ (by have := HS.out; rw [World.size_alloc] at this; exact this)).mono ?_
      rintro e w' ⟨rfl, hb⟩
      rw [H2.out]
      have HB3 := Lib.hid (HB2.out.keep hb)
      have hs3 := hs2.keep hb
      have c0 := HB3.out.cell 0
      have c1 := HB3.out.cell 1
      have c2 := HB3.out.cell 2
      simp only [List.getElem?_toArray, List.getElem?_cons_zero, List.getElem?_cons_succ] at c0 c1 c2
      clear hb
      go_wp2_with fail
      have HT := Lib.hid (Blk.new w' 23 #[.int .i64 lo, .int .i64 hi])
      have hs4 := hs3.alloc (.cells #[.int .i64 lo, .int .i64 hi] 23)
      refine (turned1_c (lo, hi) _ _ _ HT.out).mono ?_
      rintro e w4 ⟨rfl, hb4⟩
      have hs5 := hs4.keep hb4
      clear c0 c1 c2
      by_cases hh : hi < lo
      · have HV2 : Hid (chkE P lo hi = 2) := by show _ = _; rw [HV.out, if_pos hh]
        rw [show decide ((lo, hi).2 < (lo, hi).1) = true from decide_eq_true hh]
        clear hh
        go_wp2_with fail
        go_ret
        exact ⟨by rw [HV2.out]; rfl, hs5.1⟩
      · have HV2 : Hid (chkE P lo hi = 0) := by show _ = _; rw [HV.out, if_neg hh]
        rw [show decide ((lo, hi).2 < (lo, hi).1) = false from decide_eq_false hh]
        clear hh
        go_wp2_with fail
        go_ret
        exact ⟨by rw [HV2.out]; rfl, hs5.1⟩
    · have HV : Hid (chkE P lo hi = 7) := by show _ = _; unfold chkE; rw [if_neg (fun e => h2 (by rw [e.2.1, e.2.2]; rfl))]
      have H1 := Lib.hid h1
      have H2 := Lib.hid (Bool.eq_false_iff.2 h2)
      clear h1 h2
      go_enter Try.func17, Try.ntmps17
      go_wp2_with fail
      refine (within1_c _ _ _ _ _ _ HW.out).mono ?_
      rintro e w' ⟨rfl, rfl⟩
      rw [H1.out]
      have HS := Lib.hid (Blk.new1 (w.alloc (.cells (gV P lo hi) 25)) (.cells #[.int .i64 P] 3) 23 #[.int .i64 lo, .int .i64 hi])
      have hs2 := hs1.alloc (.cells #[.int .i64 lo, .int .i64 hi] 23)
      go_wp2_with fail
      refine (span1_c 0 P (lo, hi) _ _ _ (by have := HS.out; rw [World.size_alloc] at this; exact this)).mono ?_
      rintro e w' ⟨rfl, hb⟩
      rw [H2.out]
      go_wp2_with fail
      go_ret
      exact ⟨by rw [HV.out]; rfl, (hs2.keep hb).1⟩
  · have HV : Hid (chkE P lo hi = 7) := by show _ = _; unfold chkE; rw [if_neg (fun e => h1 e.1)]
    have H1 := Lib.hid (Bool.eq_false_iff.2 h1)
    clear h1
    go_enter Try.func17, Try.ntmps17
    go_wp2_with fail
    refine (within1_c _ _ _ _ _ _ HW.out).mono ?_
    rintro e w' ⟨rfl, rfl⟩
    rw [H1.out]
    go_wp2_with fail
    go_ret
    exact ⟨by rw [HV.out]; rfl, hs1.1⟩
end Td
end Go.Proofs.Ytgkdidnmndmlhaa
