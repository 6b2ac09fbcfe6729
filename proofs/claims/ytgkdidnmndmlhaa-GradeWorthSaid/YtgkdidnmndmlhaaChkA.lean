import Derived.Test.YtgkdidnmndmlhaaLeaf
/- The checks of heaps, plans and shares. -/
namespace Go.Proofs.Ytgkdidnmndmlhaa
open Go.RowKit
namespace Td
set_option linter.unusedSimpArgs false
set_option linter.unusedVariables false
/-- the cells of a heap, a plan, a fraction. -/
abbrev gV (P lo hi : Int) : Array Value := #[.int .i64 P, .int .i64 lo, .int .i64 hi]
abbrev lV (fi pa fa se to : Int) : Array Value := #[.int .i64 fi, .int .i64 pa, .int .i64 fa, .int .i64 se, .int .i64 to]
abbrev fV (s : Int × Int) : Array Value := #[.int .i64 s.1, .int .i64 s.2]
theorem within1_c (lo hi n : Int) (g : Nat) (ty : TypeId) (w : World) (h : Blk w g ty #[.int .i64 n]) :
    Calls Try.prog 46 #[.int .i64 lo, .int .i64 hi, .slice (some ⟨g, 0, none⟩) 1 1] w fun e w' => e = .returned (.bool (wi lo hi n)) ∧ w = w' := by
  have := withins_c (some ⟨g, 0, none⟩) [n] 1 lo hi w (by simp) (InAt.one h)
  rwa [wl_one] at this
theorem span1_c (lo hi : Int) (p : Int × Int) (g : Nat) (ty : TypeId) (w : World) (h : Blk w g ty #[.int .i64 p.1, .int .i64 p.2]) :
    Calls Try.prog 47 #[.int .i64 lo, .int .i64 hi, .slice (some ⟨g, 0, none⟩) 1 1] w fun e w' => e = .returned (.bool (wi lo hi p.1 && wi lo hi p.2)) ∧ Below w.heap.size w w' := by
  have := spansWithin_c (some ⟨g, 0, none⟩) [p] 1 lo hi w (by simp) (SpAt.one h)
  rwa [sw_one] at this
theorem turned1_c (p : Int × Int) (g : Nat) (ty : TypeId) (w : World) (h : Blk w g ty #[.int .i64 p.1, .int .i64 p.2]) :
    Calls Try.prog 48 #[.slice (some ⟨g, 0, none⟩) 1 1] w fun e w' => e = .returned (.bool (decide (p.2 < p.1))) ∧ Below w.heap.size w w' := by
  have := turned_c (some ⟨g, 0, none⟩) [p] 1 w (by simp) (SpAt.one h)
  rwa [tn_one] at this
set_option maxHeartbeats 1000000 in
theorem Check_c (P lo hi : Int) (w : World) :
    Calls Try.prog 17 #[.agg (gV P lo hi)] w fun e w' => e = .returned (.int .i64 (chkE P lo hi)) ∧ Below w.heap.size w w' := by
  have hs0 := (Since.refl w).alloc (.cells (gV P lo hi) 25)
  have HB := Lib.hid (Blk.new w 25 (gV P lo hi))
  have HW := Lib.hid (Blk.new1 w (.cells (gV P lo hi) 25) 3 #[.int .i64 P])
  have hs1 := hs0.alloc (.cells #[.int .i64 P] 3)
  by_cases h1 : wi 1 20 P = true
  · by_cases h2 : (wi 0 P lo && wi 0 P hi) = true
    · have h2' := h2
      rw [Bool.and_eq_true] at h2'
      have HV : Hid (chkE P lo hi = if hi < lo then 2 else 0) := by show _ = _; unfold chkE; rw [if_pos ⟨h1, h2'⟩]
      have H1 := Lib.hid h1
      have H2 := Lib.hid h2
      clear h1 h2 h2'
      go_enter Try.func17, Try.ntmps17
      go_wp2_with fail
      refine (within1_c _ _ _ _ _ _ HW.out).mono ?_
      rintro e w' ⟨rfl, rfl⟩
      rw [H1.out]
      have HS := Lib.hid (Blk.new1 (w.alloc (.cells (gV P lo hi) 25)) (.cells #[.int .i64 P] 3) 23 #[.int .i64 lo, .int .i64 hi])
      have hs2 := hs1.alloc (.cells #[.int .i64 lo, .int .i64 hi] 23)
      have HB2 := Lib.hid ((HB.out.alloc (.cells #[.int .i64 P] 3)).alloc (.cells #[.int .i64 lo, .int .i64 hi] 23))
      go_wp2_with fail
      refine (span1_c 0 P (lo, hi) _ _ _ (by have := HS.out; rw [World.size_alloc] at this; exact this)).mono ?_
      rintro e w' ⟨rfl, hb⟩
      rw [H2.out]
      have HB3 := Lib.hid (HB2.out.keep hb)
      have hs3 := hs2.keep hb
      have c0 := HB3.out.cell 0
      have c1 := HB3.out.cell 1
      have c2 := HB3.out.cell 2
      simp only [List.getElem?_toArray, List.getElem?_cons_zero, List.getElem?_cons_succ] at c0 c1 c2
      clear hb
      go_wp2_with fail
      have HT := Lib.hid (Blk.new w' 23 #[.int .i64 lo, .int .i64 hi])
      have hs4 := hs3.alloc (.cells #[.int .i64 lo, .int .i64 hi] 23)
      refine (turned1_c (lo, hi) _ _ _ HT.out).mono ?_
      rintro e w4 ⟨rfl, hb4⟩
      have hs5 := hs4.keep hb4
      clear c0 c1 c2
      by_cases hh : hi < lo
      · have HV2 : Hid (chkE P lo hi = 2) := by show _ = _; rw [HV.out, if_pos hh]
        rw [show decide ((lo, hi).2 < (lo, hi).1) = true from decide_eq_true hh]
        clear hh
        go_wp2_with fail
        go_ret
        exact ⟨by rw [HV2.out]; rfl, hs5.1⟩
      · have HV2 : Hid (chkE P lo hi = 0) := by show _ = _; rw [HV.out, if_neg hh]
        rw [show decide ((lo, hi).2 < (lo, hi).1) = false from decide_eq_false hh]
        clear hh
        go_wp2_with fail
        go_ret
        exact ⟨by rw [HV2.out]; rfl, hs5.1⟩
    · have HV : Hid (chkE P lo hi = 7) := by show _ = _; unfold chkE; rw [if_neg (fun e => h2 (by rw [e.2.1, e.2.2]; rfl))]
      have H1 := Lib.hid h1
      have H2 := Lib.hid (Bool.eq_false_iff.2 h2)
      clear h1 h2
      go_enter Try.func17, Try.ntmps17
      go_wp2_with fail
      refine (within1_c _ _ _ _ _ _ HW.out).mono ?_
      rintro e w' ⟨rfl, rfl⟩
      rw [H1.out]
      have HS := Lib.hid (Blk.new1 (w.alloc (.cells (gV P lo hi) 25)) (.cells #[.int .i64 P] 3) 23 #[.int .i64 lo, .int .i64 hi])
      have hs2 := hs1.alloc (.cells #[.int .i64 lo, .int .i64 hi] 23)
      go_wp2_with fail
      refine (span1_c 0 P (lo, hi) _ _ _ (by have := HS.out; rw [World.size_alloc] at this; exact this)).mono ?_
      rintro e w' ⟨rfl, hb⟩
      rw [H2.out]
      go_wp2_with fail
      go_ret
      exact ⟨by rw [HV.out]; rfl, (hs2.keep hb).1⟩
  · have HV : Hid (chkE P lo hi = 7) := by show _ = _; unfold chkE; rw [if_neg (fun e => h1 e.1)]
    have H1 := Lib.hid (Bool.eq_false_iff.2 h1)
    clear h1
    go_enter Try.func17, Try.ntmps17
    go_wp2_with fail
    refine (within1_c _ _ _ _ _ _ HW.out).mono ?_
    rintro e w' ⟨rfl, rfl⟩
    rw [H1.out]
    go_wp2_with fail
    go_ret
    exact ⟨by rw [HV.out]; rfl, hs1.1⟩
end Td
end Go.Proofs.Ytgkdidnmndmlhaa
/- The checks of plans and shares. -/
namespace Go.Proofs.Ytgkdidnmndmlhaa
open Go.RowKit
namespace Td
set_option linter.unusedSimpArgs false
set_option linter.unusedVariables false
theorem Blk.newS {w : World} {t : TypeId} {cs : Array Value} {n : Nat} (h : w.heap.size = n) : Blk (w.alloc (.cells cs t)) n t cs := h ▸ Blk.new w t cs
theorem wrapI {x : Int} (h : I64 x) : IntKind.i64.wrap x = x := IntWalk.i64_in _ h
theorem Blk.gcells {w : World} {g : Nat} {t : TypeId} {a b c : Int} (k : Blk w g t (gV a b c)) : w.cell? ⟨g, 0, none⟩ = some (.int .i64 a) ∧ w.cell? ⟨g, 1, none⟩ = some (.int .i64 b) ∧ w.cell? ⟨g, 2, none⟩ = some (.int .i64 c) := ⟨k.cell 0, k.cell 1, k.cell 2⟩
theorem Blk.lcells {w : World} {g : Nat} {t : TypeId} {a b c d e : Int} (k : Blk w g t (lV a b c d e)) : w.cell? ⟨g, 0, none⟩ = some (.int .i64 a) ∧ w.cell? ⟨g, 1, none⟩ = some (.int .i64 b) ∧ w.cell? ⟨g, 2, none⟩ = some (.int .i64 c) ∧ w.cell? ⟨g, 3, none⟩ = some (.int .i64 d) ∧ w.cell? ⟨g, 4, none⟩ = some (.int .i64 e) := ⟨k.cell 0, k.cell 1, k.cell 2, k.cell 3, k.cell 4⟩
theorem Blk.fcells {w : World} {g : Nat} {t : TypeId} {s : Int × Int} (k : Blk w g t (fV s)) : w.cell? ⟨g, 0, none⟩ = some (.int .i64 s.1) ∧ w.cell? ⟨g, 1, none⟩ = some (.int .i64 s.2) := ⟨k.cell 0, k.cell 1⟩
set_option maxHeartbeats 2000000 in
theorem planFits_c (P lo hi fi pa fa se to : Int) (w : World) (hP : 1 ≤ P) (hP1 : P ≤ 20) :
    Calls Try.prog 60 #[.agg (gV P lo hi), .agg (lV fi pa fa se to)] w fun e w' => e = .returned (.bool (fits P fi pa fa se to)) ∧ Below w.heap.size w w' := by
  have hs0 := ((Since.refl w).alloc (.cells (gV P lo hi) 25)).alloc (.cells (lV fi pa fa se to) 38)
  cases h0 : wi 1 P fi
  · have HV : Hid (fits P fi pa fa se to = false) := by show _ = _; unfold fits; simp only [h0, Bool.true_and, Bool.and_true, Bool.false_and, Bool.and_false]
    have H0 := Lib.hid h0
    clear h0 hP hP1
    go_enter Try.func60, Try.ntmps60
    have hs1 := hs0.alloc (.cells #[.int .i64 fi] 3)
    go_wp2_with fail
    refine (within1_c _ _ _ _ 3 _ (Blk.newS (by simp))).mono ?_
    rintro e w' ⟨rfl, rfl⟩
    rw [H0.out]
    go_wp2_with fail
    go_ret
    exact ⟨by rw [HV.out]; rfl, hs1.1⟩
  · cases h1 : wi 0 fi pa
    · have HV : Hid (fits P fi pa fa se to = false) := by show _ = _; unfold fits; simp only [h0, h1, Bool.true_and, Bool.and_true, Bool.false_and, Bool.and_false]
      have H0 := Lib.hid h0
      have H1 := Lib.hid h1
      clear h0 h1 hP hP1
      go_enter Try.func60, Try.ntmps60
      have hs1 := hs0.alloc (.cells #[.int .i64 fi] 3)
      go_wp2_with fail
      refine (within1_c _ _ _ _ 3 _ (Blk.newS (by simp))).mono ?_
      rintro e w' ⟨rfl, rfl⟩
      rw [H0.out]
      have hs2 := hs1.alloc (.cells #[.int .i64 pa] 3)
      go_wp2_with fail
      refine (within1_c _ _ _ _ 3 _ (Blk.newS (by simp))).mono ?_
      rintro e w' ⟨rfl, rfl⟩
      rw [H1.out]
      go_wp2_with fail
      go_ret
      exact ⟨by rw [HV.out]; rfl, hs2.1⟩
    · cases h2 : wi (pa + 1) (fi + 1) fa
      · have HV : Hid (fits P fi pa fa se to = false) := by show _ = _; unfold fits; simp only [h0, h1, h2, Bool.true_and, Bool.and_true, Bool.false_and, Bool.and_false]
        have H0 := Lib.hid h0
        have H1 := Lib.hid h1
        have H2 := Lib.hid h2
        have e1 : IntKind.i64.wrap (pa + 1) = pa + 1 := wrapI (by have a0 := wi_iff.1 h0; have a1 := wi_iff.1 h1; unfold I64; omega)
        have e2 : IntKind.i64.wrap (fi + 1) = fi + 1 := wrapI (by have a0 := wi_iff.1 h0; unfold I64; omega)
        clear h0 h1 h2 hP hP1
        go_enter Try.func60, Try.ntmps60
        have hs1 := hs0.alloc (.cells #[.int .i64 fi] 3)
        go_wp2_with fail
        refine (within1_c _ _ _ _ 3 _ (Blk.newS (by simp))).mono ?_
        rintro e w' ⟨rfl, rfl⟩
        rw [H0.out]
        have hs2 := hs1.alloc (.cells #[.int .i64 pa] 3)
        go_wp2_with fail
        refine (within1_c _ _ _ _ 3 _ (Blk.newS (by simp))).mono ?_
        rintro e w' ⟨rfl, rfl⟩
        rw [H1.out]
        have hs3 := hs2.alloc (.cells #[.int .i64 fa] 3)
        go_wp2_with fail
        refine (within1_c _ _ _ _ 3 _ (Blk.newS (by simp))).mono ?_
        rintro e w' ⟨rfl, rfl⟩
        rw [H2.out]
        go_wp2_with fail
        go_ret
        exact ⟨by rw [HV.out]; rfl, hs3.1⟩
      · cases h3 : wi 0 (P - fi) se
        · have HV : Hid (fits P fi pa fa se to = false) := by show _ = _; unfold fits; simp only [h0, h1, h2, h3, Bool.true_and, Bool.and_true, Bool.false_and, Bool.and_false]
          have H0 := Lib.hid h0
          have H1 := Lib.hid h1
          have H2 := Lib.hid h2
          have H3 := Lib.hid h3
          have e1 : IntKind.i64.wrap (pa + 1) = pa + 1 := wrapI (by have a0 := wi_iff.1 h0; have a1 := wi_iff.1 h1; unfold I64; omega)
          have e2 : IntKind.i64.wrap (fi + 1) = fi + 1 := wrapI (by have a0 := wi_iff.1 h0; unfold I64; omega)
          have e3 : IntKind.i64.wrap (P - fi) = P - fi := wrapI (by have a0 := wi_iff.1 h0; unfold I64; omega)
          clear h0 h1 h2 h3 hP hP1
          go_enter Try.func60, Try.ntmps60
          have hs1 := hs0.alloc (.cells #[.int .i64 fi] 3)
          go_wp2_with fail
          refine (within1_c _ _ _ _ 3 _ (Blk.newS (by simp))).mono ?_
          rintro e w' ⟨rfl, rfl⟩
          rw [H0.out]
          have hs2 := hs1.alloc (.cells #[.int .i64 pa] 3)
          go_wp2_with fail
          refine (within1_c _ _ _ _ 3 _ (Blk.newS (by simp))).mono ?_
          rintro e w' ⟨rfl, rfl⟩
          rw [H1.out]
          have hs3 := hs2.alloc (.cells #[.int .i64 fa] 3)
          go_wp2_with fail
          refine (within1_c _ _ _ _ 3 _ (Blk.newS (by simp))).mono ?_
          rintro e w' ⟨rfl, rfl⟩
          rw [H2.out]
          have hs4 := hs3.alloc (.cells #[.int .i64 se] 3)
          go_wp2_with fail
          refine (within1_c _ _ _ _ 3 _ (Blk.newS (by simp))).mono ?_
          rintro e w' ⟨rfl, rfl⟩
          rw [H3.out]
          go_wp2_with fail
          go_ret
          exact ⟨by rw [HV.out]; rfl, hs4.1⟩
        · cases h4 : wi 0 P to
          · have HV : Hid (fits P fi pa fa se to = false) := by show _ = _; unfold fits; simp only [h0, h1, h2, h3, h4, Bool.true_and, Bool.and_true, Bool.false_and, Bool.and_false]
            have H0 := Lib.hid h0
            have H1 := Lib.hid h1
            have H2 := Lib.hid h2
            have H3 := Lib.hid h3
            have H4 := Lib.hid h4
            have e1 : IntKind.i64.wrap (pa + 1) = pa + 1 := wrapI (by have a0 := wi_iff.1 h0; have a1 := wi_iff.1 h1; unfold I64; omega)
            have e2 : IntKind.i64.wrap (fi + 1) = fi + 1 := wrapI (by have a0 := wi_iff.1 h0; unfold I64; omega)
            have e3 : IntKind.i64.wrap (P - fi) = P - fi := wrapI (by have a0 := wi_iff.1 h0; unfold I64; omega)
            clear h0 h1 h2 h3 h4 hP hP1
            go_enter Try.func60, Try.ntmps60
            have hs1 := hs0.alloc (.cells #[.int .i64 fi] 3)
            go_wp2_with fail
            refine (within1_c _ _ _ _ 3 _ (Blk.newS (by simp))).mono ?_
            rintro e w' ⟨rfl, rfl⟩
            rw [H0.out]
            have hs2 := hs1.alloc (.cells #[.int .i64 pa] 3)
            go_wp2_with fail
            refine (within1_c _ _ _ _ 3 _ (Blk.newS (by simp))).mono ?_
            rintro e w' ⟨rfl, rfl⟩
            rw [H1.out]
            have hs3 := hs2.alloc (.cells #[.int .i64 fa] 3)
            go_wp2_with fail
            refine (within1_c _ _ _ _ 3 _ (Blk.newS (by simp))).mono ?_
            rintro e w' ⟨rfl, rfl⟩
            rw [H2.out]
            have hs4 := hs3.alloc (.cells #[.int .i64 se] 3)
            go_wp2_with fail
            refine (within1_c _ _ _ _ 3 _ (Blk.newS (by simp))).mono ?_
            rintro e w' ⟨rfl, rfl⟩
            rw [H3.out]
            have hs5 := hs4.alloc (.cells #[.int .i64 to] 3)
            go_wp2_with fail
            refine (within1_c _ _ _ _ 3 _ (Blk.newS (by simp))).mono ?_
            rintro e w' ⟨rfl, rfl⟩
            rw [H4.out]
            go_wp2_with fail
            go_ret
            exact ⟨by rw [HV.out]; rfl, hs5.1⟩
          · have HV : Hid (fits P fi pa fa se to = true) := by show _ = _; unfold fits; simp only [h0, h1, h2, h3, h4, Bool.true_and, Bool.and_true, Bool.false_and, Bool.and_false]
            have H0 := Lib.hid h0
            have H1 := Lib.hid h1
            have H2 := Lib.hid h2
            have H3 := Lib.hid h3
            have H4 := Lib.hid h4
            have e1 : IntKind.i64.wrap (pa + 1) = pa + 1 := wrapI (by have a0 := wi_iff.1 h0; have a1 := wi_iff.1 h1; unfold I64; omega)
            have e2 : IntKind.i64.wrap (fi + 1) = fi + 1 := wrapI (by have a0 := wi_iff.1 h0; unfold I64; omega)
            have e3 : IntKind.i64.wrap (P - fi) = P - fi := wrapI (by have a0 := wi_iff.1 h0; unfold I64; omega)
            clear h0 h1 h2 h3 h4 hP hP1
            go_enter Try.func60, Try.ntmps60
            have hs1 := hs0.alloc (.cells #[.int .i64 fi] 3)
            go_wp2_with fail
            refine (within1_c _ _ _ _ 3 _ (Blk.newS (by simp))).mono ?_
            rintro e w' ⟨rfl, rfl⟩
            rw [H0.out]
            have hs2 := hs1.alloc (.cells #[.int .i64 pa] 3)
            go_wp2_with fail
            refine (within1_c _ _ _ _ 3 _ (Blk.newS (by simp))).mono ?_
            rintro e w' ⟨rfl, rfl⟩
            rw [H1.out]
            have hs3 := hs2.alloc (.cells #[.int .i64 fa] 3)
            go_wp2_with fail
            refine (within1_c _ _ _ _ 3 _ (Blk.newS (by simp))).mono ?_
            rintro e w' ⟨rfl, rfl⟩
            rw [H2.out]
            have hs4 := hs3.alloc (.cells #[.int .i64 se] 3)
            go_wp2_with fail
            refine (within1_c _ _ _ _ 3 _ (Blk.newS (by simp))).mono ?_
            rintro e w' ⟨rfl, rfl⟩
            rw [H3.out]
            have hs5 := hs4.alloc (.cells #[.int .i64 to] 3)
            go_wp2_with fail
            refine (within1_c _ _ _ _ 3 _ (Blk.newS (by simp))).mono ?_
            rintro e w' ⟨rfl, rfl⟩
            rw [H4.out]
            go_wp2_with fail
            go_ret
            exact ⟨by rw [HV.out]; rfl, hs5.1⟩
set_option maxHeartbeats 1000000 in
theorem shareFits_c (s : Int × Int) (w : World) :
    Calls Try.prog 75 #[.agg (fV s)] w fun e w' => e = .returned (.bool (shrE s)) ∧ Below w.heap.size w w' := by
  have hs0 := (Since.refl w).alloc (.cells (fV s) 41)
  cases h0 : wi 1 1000000 s.2
  · have HV : Hid (shrE s = false) := by show _ = _; unfold shrE; simp only [h0, Bool.false_and]
    have H0 := Lib.hid h0
    clear h0
    go_enter Try.func75, Try.ntmps75
    have hs1 := hs0.alloc (.cells #[.int .i64 s.2] 3)
    go_wp2_with fail
    refine (within1_c _ _ _ _ 3 _ (Blk.newS (by simp))).mono ?_
    rintro e w' ⟨rfl, rfl⟩
    rw [H0.out]
    go_wp2_with fail
    go_ret
    exact ⟨by rw [HV.out]; rfl, hs1.1⟩
  · have HV : Hid (shrE s = wi 0 s.2 s.1) := by show _ = _; unfold shrE; simp only [h0, Bool.true_and]
    have H0 := Lib.hid h0
    clear h0
    go_enter Try.func75, Try.ntmps75
    have hs1 := hs0.alloc (.cells #[.int .i64 s.2] 3)
    go_wp2_with fail
    refine (within1_c _ _ _ _ 3 _ (Blk.newS (by simp))).mono ?_
    rintro e w' ⟨rfl, rfl⟩
    rw [H0.out]
    have hs2 := hs1.alloc (.cells #[.int .i64 s.1] 3)
    go_wp2_with fail
    refine (within1_c _ _ _ _ 3 _ (Blk.newS (by simp))).mono ?_
    rintro e w' ⟨rfl, rfl⟩
    cases h1 : wi 0 s.2 s.1
    · have H1 := Lib.hid h1
      clear h1
      go_wp2_with fail
      go_ret
      exact ⟨by rw [HV.out, H1.out]; rfl, hs2.1⟩
    · have H1 := Lib.hid h1
      clear h1
      go_wp2_with fail
      go_ret
      exact ⟨by rw [HV.out, H1.out]; rfl, hs2.1⟩
set_option maxHeartbeats 2000000 in
theorem CheckPlan_c (P lo hi fi pa fa se to : Int) (w : World) :
    Calls Try.prog 25 #[.agg (gV P lo hi), .agg (lV fi pa fa se to)] w fun e w' => e = .returned (.int .i64 (chkP P lo hi fi pa fa se to)) ∧ Below w.heap.size w w' := by
  have hs0 := ((Since.refl w).alloc (.cells (gV P lo hi) 25)).alloc (.cells (lV fi pa fa se to) 38)
  have HG := Lib.hid ((Blk.new w 25 (gV P lo hi)).alloc (.cells (lV fi pa fa se to) 38))
  have HL := Lib.hid (Blk.new1 w (.cells (gV P lo hi) 25) 38 (lV fi pa fa se to))
  go_enter Try.func25, Try.ntmps25
  go_wp2_with fail
  refine (Check_c P lo hi _).mono ?_
  rintro e w1 ⟨rfl, hb1⟩
  have hs1 := hs0.keep hb1
  have HG1 := Lib.hid (HG.out.keep hb1)
  have HL1 := Lib.hid (HL.out.keep hb1)
  clear HG HL hb1
  by_cases hc : chkE P lo hi = 0
  · obtain ⟨hP, hP1, -⟩ := chkE_ok.1 hc
    have HV : Hid (chkP P lo hi fi pa fa se to = planE P fi pa fa se to) := by show _ = _; unfold chkP; rw [if_pos hc]
    rw [hc]
    clear hc
    obtain ⟨c0, c1, c2⟩ := HG1.out.gcells
    obtain ⟨d0, d1, d2, d3, d4⟩ := HL1.out.lcells
    go_wp2_with fail
    refine (planFits_c P lo hi fi pa fa se to _ hP hP1).mono ?_
    rintro e w2 ⟨rfl, hb2⟩
    have hs2 := hs1.keep hb2
    have HL2 := Lib.hid (HL1.out.keep hb2)
    clear c0 c1 c2 d0 d1 d2 d3 d4 HL1 HG1 hb2
    cases hf : fits P fi pa fa se to
    · have HV2 : Hid (planE P fi pa fa se to = 7) := by show _ = _; unfold planE; rw [hf]; rfl
      clear hf
      go_wp2_with fail
      go_ret
      exact ⟨by rw [HV.out, HV2.out]; rfl, hs2.1⟩
    · obtain ⟨d0, d1, d2, d3, d4⟩ := HL2.out.lcells
      have hpa : -1 ≤ pa ∧ pa ≤ 100 := by
        unfold fits at hf
        simp only [Bool.and_eq_true, wi_iff] at hf
        omega
      have e1 : IntKind.i64.wrap (pa + 1) = pa + 1 := wrapI (by unfold I64; omega)
      have HV2 : Hid (planE P fi pa fa se to = if (se = 0 ∧ (fa ≠ pa + 1 ∨ to ≠ 0)) ∨ (se ≠ 0 ∧ (fa = pa + 1 ∨ to < pa)) then 2 else 0) := by show _ = _; unfold planE; rw [if_pos hf]
      clear hf hpa
      by_cases hs : se = 0
      · have q0 : (se == 0) = true := by simpa using hs
        have q0' : (se != 0) = false := by simpa using hs
        have HS := Lib.hid hs
        clear hs
        by_cases hd : fa = pa + 1
        · have q1 : (fa == pa + 1) = true := by simpa using hd
          have HD := Lib.hid hd
          clear hd
          by_cases ht : to = 0
          · have q2 : (to != 0) = false := by simpa using ht
            have HV3 : Hid (planE P fi pa fa se to = 0) := by show _ = _; rw [HV2.out, if_neg]; have := HS.out; have := HD.out; omega
            clear ht
            go_wp2_with fail
            go_ret
            exact ⟨by rw [HV.out, HV3.out]; rfl, hs2.1⟩
          · have q2 : (to != 0) = true := by simpa using ht
            have HV3 : Hid (planE P fi pa fa se to = 2) := by show _ = _; rw [HV2.out, if_pos]; have := HS.out; have := HD.out; omega
            clear ht
            go_wp2_with fail
            go_ret
            exact ⟨by rw [HV.out, HV3.out]; rfl, hs2.1⟩
        · have q1 : (fa == pa + 1) = false := by simpa using hd
          have HV3 : Hid (planE P fi pa fa se to = 2) := by show _ = _; rw [HV2.out, if_pos]; have := HS.out; omega
          clear hd
          go_wp2_with fail
          go_ret
          exact ⟨by rw [HV.out, HV3.out]; rfl, hs2.1⟩
      · have q0 : (se == 0) = false := by simpa using hs
        have q0' : (se != 0) = true := by simpa using hs
        have HS := Lib.hid hs
        clear hs
        by_cases hd : fa = pa + 1
        · have q1 : (fa == pa + 1) = true := by simpa using hd
          have HV3 : Hid (planE P fi pa fa se to = 2) := by show _ = _; rw [HV2.out, if_pos]; have := HS.out; omega
          clear hd
          go_wp2_with fail
          go_ret
          exact ⟨by rw [HV.out, HV3.out]; rfl, hs2.1⟩
        · have q1 : (fa == pa + 1) = false := by simpa using hd
          have HD := Lib.hid hd
          clear hd
          by_cases ht : to < pa
          · have HV3 : Hid (planE P fi pa fa se to = 2) := by show _ = _; rw [HV2.out, if_pos]; have := HS.out; omega
            go_wp2_with fail
            go_ret
            exact ⟨by rw [HV.out, HV3.out]; rfl, hs2.1⟩
          · have HV3 : Hid (planE P fi pa fa se to = 0) := by show _ = _; rw [HV2.out, if_neg]; have := HS.out; have := HD.out; omega
            go_wp2_with fail
            go_ret
            exact ⟨by rw [HV.out, HV3.out]; rfl, hs2.1⟩
  · have HV : Hid (chkP P lo hi fi pa fa se to = chkE P lo hi) := by show _ = _; unfold chkP; rw [if_neg hc]
    have hc' : (chkE P lo hi != 0) = true := by simpa using hc
    clear hc
    go_wp2_with fail
    go_ret
    exact ⟨by rw [HV.out]; rfl, hs1.1⟩
end Td
end Go.Proofs.Ytgkdidnmndmlhaa
