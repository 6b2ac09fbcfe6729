import Derived.Test.YtccacinnelmnpaaWidA
/- GasWider: with wider spans, and instruments that can be wrong by more, no range of Level is narrower, and no torch may burn longer. -/
namespace Go.Proofs.Ytccacinnelmnpaa
open Go.RowKit
namespace Td
set_option linter.unusedSimpArgs false
set_option linter.unusedVariables false
attribute [local go_sem] Oper.semAt_some
theorem Sp2.cell {w W : World} {s : Spc} {m : Sl} {t : TypeId} {xs : Array Value} (h : Sp2 w s m t xs W) {g : Nat} (hg : w.heap.size + 1 < g) (j : Nat) (v : Value) : Sp2 w s m t xs (W.setCell ⟨g, j, none⟩ v) :=
  ⟨⟨⟨h.sp.sn.1.setCell (p := ⟨g, j, none⟩) (by simp; omega) _, by simpa using h.sp.sn.2⟩, h.sp.bk.far (by omega) _ _⟩, h.bx.far (by omega) _ _⟩
theorem max_if (a b : Int) : (if a < b then b else a) = max a b := by split <;> omega
set_option maxRecDepth 100000 in
set_option maxHeartbeats 8000000 in
theorem gasWider_c (s : Spc) (m : Sl) (A : Option Addr) (l : List Rd) (c x0 x1 x2 x3 nw : Nat) (w : World) (hsa : SAt w m s) (hrd : RdAt w A l) (hc : l.length ≤ c) (hcM : c ≤ 9223372036854775807) (hx0 : x0 ≤ 255) (hx1 : x1 ≤ 255) (hx2 : x2 ≤ 255) (hx3 : x3 ≤ 255) (hnw : nw ≤ 255) :
    Calls Try.prog 13 #[.agg (sV s m), .slice A l.length c, .agg #[.int .u8 (x0 : Int), .int .u8 (x1 : Int), .int .u8 (x2 : Int), .int .u8 (x3 : Int), .int .u8 (nw : Int)]] w fun e w' => e = .returned (.bool true) ∧ Below w.heap.size w w' := by
  have hS := Sp2.start w s m 80 #[.int .u8 (x0 : Int), .int .u8 (x1 : Int), .int .u8 (x2 : Int), .int .u8 (x3 : Int), .int .u8 (nw : Int)]
  obtain ⟨c0, c1, c2, c3, c4, c5, c6, c7, c8⟩ := hS.sp.bk.space
  go_enter Try.func13, Try.ntmps13
  go_wp2_with fail
  refine (readings_c s m A l c _ (hsa.keep hS.sp.sn.1) (hrd.keep hS.sp.sn.1) (by omega)).mono ?_
  rintro e w1 ⟨rfl, hb1⟩
  have hS1 := hS.keep hb1
  clear c0 c1 c2 c3 c4 c5 c6 c7 c8 hS hb1
  by_cases hr0 : rdgE s l = 0
  · obtain ⟨hck, hrs⟩ := rdg_ok hr0
    have hs := chk_ok hck
    obtain ⟨h12, hro⟩ := rdsE_ok.1 hrs
    rw [hr0]
    obtain ⟨mi, hmi⟩ : ∃ mi, nw % 61 = mi := ⟨_, rfl⟩
    have hmi2 : mi < 61 := by rw [← hmi]; exact Nat.mod_lt _ (by omega)
    have hem : ((nw : Int) % (61 : Int)) = (mi : Int) := by omega
    have htm : ((nw : Int).tmod (61 : Int) = (mi : Int)) := by rw [Int.tmod_eq_emod_of_nonneg (by omega)]; exact hem
    have hw8 : IntKind.i64.wrap (nw : Int) = (nw : Int) := IntWalk.i64_in _ (by omega)
    have hv0 : IntKind.i64.wrap (x0 : Int) = (x0 : Int) := IntWalk.i64_in _ (by omega)
    have hv1 : IntKind.i64.wrap (x1 : Int) = (x1 : Int) := IntWalk.i64_in _ (by omega)
    have hv2 : IntKind.i64.wrap (x2 : Int) = (x2 : Int) := IntWalk.i64_in _ (by omega)
    have hwi : wi 0 60 (mi : Int) = true := wi_iff.2 (by omega)
    obtain ⟨b1, b2, b3, b4, b5, b6, b7, b8, b9, b10, b11, _, _, _, _, _⟩ := id hs
    obtain ⟨d0, hd0⟩ : ∃ d, s.s0 - (x0 : Int) = d := ⟨_, rfl⟩
    obtain ⟨u0, hu0⟩ : ∃ u, s.s1 + (x0 : Int) = u := ⟨_, rfl⟩
    have HD0 : Hid (IntKind.i64.wrap (s.s0 - (x0 : Int)) = d0) := by show _ = _; rw [IntWalk.i64_in _ (by omega), hd0]
    have HU0 : Hid (IntKind.i64.wrap (s.s1 + (x0 : Int)) = u0) := by show _ = _; rw [IntWalk.i64_in _ (by omega), hu0]
    have HDU0 : Hid (s.s0 - (x0 : Int) = d0 ∧ s.s1 + (x0 : Int) = u0) := ⟨hd0, hu0⟩
    clear hd0 hu0
    obtain ⟨d1, hd1⟩ : ∃ d, s.r0 - (x1 : Int) = d := ⟨_, rfl⟩
    obtain ⟨u1, hu1⟩ : ∃ u, s.r1 + (x1 : Int) = u := ⟨_, rfl⟩
    have HD1 : Hid (IntKind.i64.wrap (s.r0 - (x1 : Int)) = d1) := by show _ = _; rw [IntWalk.i64_in _ (by omega), hd1]
    have HU1 : Hid (IntKind.i64.wrap (s.r1 + (x1 : Int)) = u1) := by show _ = _; rw [IntWalk.i64_in _ (by omega), hu1]
    have HDU1 : Hid (s.r0 - (x1 : Int) = d1 ∧ s.r1 + (x1 : Int) = u1) := ⟨hd1, hu1⟩
    clear hd1 hu1
    obtain ⟨d2, hd2⟩ : ∃ d, s.b0 - (x2 : Int) = d := ⟨_, rfl⟩
    obtain ⟨u2, hu2⟩ : ∃ u, s.b1 + (x2 : Int) = u := ⟨_, rfl⟩
    have HD2 : Hid (IntKind.i64.wrap (s.b0 - (x2 : Int)) = d2) := by show _ = _; rw [IntWalk.i64_in _ (by omega), hd2]
    have HU2 : Hid (IntKind.i64.wrap (s.b1 + (x2 : Int)) = u2) := by show _ = _; rw [IntWalk.i64_in _ (by omega), hu2]
    have HDU2 : Hid (s.b0 - (x2 : Int) = d2 ∧ s.b1 + (x2 : Int) = u2) := ⟨hd2, hu2⟩
    clear hd2 hu2
    have HRO := Lib.hid hro
    have HCK := Lib.hid hck
    have HRS := Lib.hid hrs
    have HS_ := Lib.hid hs
    have HWI := Lib.hid hwi
    clear hr0 hmi hro hck hrs hs hwi
    have hgw := hS1.lt
    have hS := hS1.alloc (.cells (sV s m) 27)
    have HWB := Blk.new w1 27 (sV s m)
    obtain ⟨gW, hgW⟩ : ∃ gW, w1.heap.size = gW := ⟨_, rfl⟩
    obtain ⟨c0, c1, c2, c3, c4, c5, c6, c7, c8⟩ := hS1.sp.bk.space
    have y4 := hS1.bx.cell 4
    simp only [List.getElem?_toArray, List.getElem?_cons_zero, List.getElem?_cons_succ] at y4
    go_upto_region 5 with fail
    rw [hgW] at HWB hgw
    clear hem htm hw8 c0 c1 c2 c3 c4 c5 c6 c7 c8 y4 hS1
    refine wp_region_list ?_
    obtain ⟨c0, c1, c2, c3, c4, c5, c6, c7, c8⟩ := hS.sp.bk.space
    have y0 := hS.bx.cell 0
    have y1 := hS.bx.cell 1
    have y2 := hS.bx.cell 2
    have y3 := hS.bx.cell 3
    have y4 := hS.bx.cell 4
    simp only [List.getElem?_toArray, List.getElem?_cons_zero, List.getElem?_cons_succ] at y0 y1 y2 y3 y4
    refine wpList_plain rfl (fun K hK => ?_)
    go_simp
    refine hK _ _ ?_
    clear hK K
    refine wpList_plain rfl (fun K hK => ?_)
    go_simp
    refine hK _ _ ?_
    clear hK K
    refine wpList_plain rfl (fun K hK => ?_)
    go_simp
    refine hK _ _ ?_
    clear hK K
    refine wpList_plain rfl (fun K hK => ?_)
    go_simp
    refine hK _ _ ?_
    clear hK K
    refine wpList_plain rfl (fun K hK => ?_)
    go_simp
    refine hK _ _ ?_
    clear hK K
    refine wpList_plain rfl (fun K hK => ?_)
    go_simp
    refine hK _ _ ?_
    clear hK K
    refine wpList_plain rfl (fun K hK => ?_)
    have hw9 := HD0.out
    go_simp
    clear hw9
    refine hK _ _ ?_
    clear hK K
    refine wpList_plain rfl (fun K hK => ?_)
    go_simp
    rw [max_if]
    refine hK _ _ ?_
    clear hK K
    refine wpList_plain rfl (fun K hK => ?_)
    go_simp
    refine hK _ _ ?_
    clear hK K
    refine wpList_plain rfl (fun K hK => ?_)
    go_simp
    refine hK _ _ ?_
    clear hK K
    refine wpList_plain rfl (fun K hK => ?_)
    go_simp
    refine hK _ _ ?_
    clear hK K
    refine wpList_plain rfl (fun K hK => ?_)
    go_simp
    refine hK _ _ ?_
    clear hK K
    refine wpList_plain rfl (fun K hK => ?_)
    go_simp
    refine hK _ _ ?_
    clear hK K
    refine wpList_plain rfl (fun K hK => ?_)
    go_simp
    refine hK _ _ ?_
    clear hK K
    refine wpList_plain rfl (fun K hK => ?_)
    have hw9 := HU0.out
    go_simp
    clear hw9
    refine hK _ _ ?_
    clear hK K
    refine wpList_plain rfl (fun K hK => ?_)
    go_simp
    rw [min_if]
    refine hK _ _ ?_
    clear hK K
    clear c0 c1 c2 c3 c4 c5 c6 c7 c8 y0 y1 y2 y3 y4
    go_wp2_with fail
    refine (span_c (max 0 d0) (min 200 u0) _).mono ?_
    rintro e wz ⟨rfl, hbz⟩
    have hS := hS.keep hbz
    have HWB := HWB.keep hbz
    have w0 := HWB.cell 0
    have w1 := HWB.cell 1
    have f0 := HWB.frozen 0
    simp only [List.getElem?_toArray, List.getElem?_cons_zero, List.getElem?_cons_succ] at w0 w1
    have HW2 := HWB.set 0 (.int .i64 (max 0 d0))
    simp only [List.setIfInBounds_toArray, List.set_cons_zero, List.set_cons_succ] at HW2
    have v1 := HW2.cell 1
    have f1 := HW2.frozen 1
    have f1b := HWB.frozen 1
    simp only [List.getElem?_toArray, List.getElem?_cons_zero, List.getElem?_cons_succ] at v1
    have HW3 := HW2.set 1 (.int .i64 (min 200 u0))
    simp only [List.setIfInBounds_toArray, List.set_cons_zero, List.set_cons_succ] at HW3
    have hS := (hS.cell hgw 0 (.int .i64 (max 0 d0))).cell hgw 1 (.int .i64 (min 200 u0))
    obtain ⟨c0, c1, c2, c3, c4, c5, c6, c7, c8⟩ := hS.sp.bk.space
    have y0 := hS.bx.cell 0
    have y1 := hS.bx.cell 1
    have y2 := hS.bx.cell 2
    have y3 := hS.bx.cell 3
    have y4 := hS.bx.cell 4
    simp only [List.getElem?_toArray, List.getElem?_cons_zero, List.getElem?_cons_succ] at y0 y1 y2 y3 y4
    go_upto_region 6 with fail
    clear c0 c1 c2 c3 c4 c5 c6 c7 c8 w0 w1 f0 v1 f1 f1b HW2 HWB y0 y1 y2 y3 y4
    have HWB := HW3
    clear HW3
    obtain ⟨W5, hW5⟩ : ∃ W5, (wz.setCell ⟨gW, 0, none⟩ (.int .i64 (max 0 d0))).setCell ⟨gW, 1, none⟩ (.int .i64 (min 200 u0)) = W5 := ⟨_, rfl⟩
    rw [hW5] at hS HWB ⊢
    clear hW5 hbz
    refine wp_region_list ?_
    obtain ⟨c0, c1, c2, c3, c4, c5, c6, c7, c8⟩ := hS.sp.bk.space
    have y0 := hS.bx.cell 0
    have y1 := hS.bx.cell 1
    have y2 := hS.bx.cell 2
    have y3 := hS.bx.cell 3
    have y4 := hS.bx.cell 4
    simp only [List.getElem?_toArray, List.getElem?_cons_zero, List.getElem?_cons_succ] at y0 y1 y2 y3 y4
    refine wpList_plain rfl (fun K hK => ?_)
    go_simp
    refine hK _ _ ?_
    clear hK K
    refine wpList_plain rfl (fun K hK => ?_)
    go_simp
    refine hK _ _ ?_
    clear hK K
    refine wpList_plain rfl (fun K hK => ?_)
    go_simp
    refine hK _ _ ?_
    clear hK K
    refine wpList_plain rfl (fun K hK => ?_)
    go_simp
    refine hK _ _ ?_
    clear hK K
    refine wpList_plain rfl (fun K hK => ?_)
    go_simp
    refine hK _ _ ?_
    clear hK K
    refine wpList_plain rfl (fun K hK => ?_)
    go_simp
    refine hK _ _ ?_
    clear hK K
    refine wpList_plain rfl (fun K hK => ?_)
    have hw9 := HD1.out
    go_simp
    clear hw9
    refine hK _ _ ?_
    clear hK K
    refine wpList_plain rfl (fun K hK => ?_)
    go_simp
    rw [max_if]
    refine hK _ _ ?_
    clear hK K
    refine wpList_plain rfl (fun K hK => ?_)
    go_simp
    refine hK _ _ ?_
    clear hK K
    refine wpList_plain rfl (fun K hK => ?_)
    go_simp
    refine hK _ _ ?_
    clear hK K
    refine wpList_plain rfl (fun K hK => ?_)
    go_simp
    refine hK _ _ ?_
    clear hK K
    refine wpList_plain rfl (fun K hK => ?_)
    go_simp
    refine hK _ _ ?_
    clear hK K
    refine wpList_plain rfl (fun K hK => ?_)
    go_simp
    refine hK _ _ ?_
    clear hK K
    refine wpList_plain rfl (fun K hK => ?_)
    go_simp
    refine hK _ _ ?_
    clear hK K
    refine wpList_plain rfl (fun K hK => ?_)
    have hw9 := HU1.out
    go_simp
    clear hw9
    refine hK _ _ ?_
    clear hK K
    refine wpList_plain rfl (fun K hK => ?_)
    go_simp
    rw [min_if]
    refine hK _ _ ?_
    clear hK K
    clear c0 c1 c2 c3 c4 c5 c6 c7 c8 y0 y1 y2 y3 y4
    go_wp2_with fail
    refine (span_c (max (-20) d1) (min 20 u1) _).mono ?_
    rintro e wz ⟨rfl, hbz⟩
    have hS := hS.keep hbz
    have HWB := HWB.keep hbz
    have w2 := HWB.cell 2
    have w3 := HWB.cell 3
    have f2 := HWB.frozen 2
    simp only [List.getElem?_toArray, List.getElem?_cons_zero, List.getElem?_cons_succ] at w2 w3
    have HW2 := HWB.set 2 (.int .i64 (max (-20) d1))
    simp only [List.setIfInBounds_toArray, List.set_cons_zero, List.set_cons_succ] at HW2
    have v3 := HW2.cell 3
    have f3 := HW2.frozen 3
    have f3b := HWB.frozen 3
    simp only [List.getElem?_toArray, List.getElem?_cons_zero, List.getElem?_cons_succ] at v3
    have HW3 := HW2.set 3 (.int .i64 (min 20 u1))
    simp only [List.setIfInBounds_toArray, List.set_cons_zero, List.set_cons_succ] at HW3
    have hS := (hS.cell hgw 2 (.int .i64 (max (-20) d1))).cell hgw 3 (.int .i64 (min 20 u1))
    obtain ⟨c0, c1, c2, c3, c4, c5, c6, c7, c8⟩ := hS.sp.bk.space
    have y0 := hS.bx.cell 0
    have y1 := hS.bx.cell 1
    have y2 := hS.bx.cell 2
    have y3 := hS.bx.cell 3
    have y4 := hS.bx.cell 4
    simp only [List.getElem?_toArray, List.getElem?_cons_zero, List.getElem?_cons_succ] at y0 y1 y2 y3 y4
    go_upto_region 7 with fail
    clear c0 c1 c2 c3 c4 c5 c6 c7 c8 w2 w3 f2 v3 f3 f3b HW2 HWB y0 y1 y2 y3 y4
    have HWB := HW3
    clear HW3
    obtain ⟨W6, hW6⟩ : ∃ W6, (wz.setCell ⟨gW, 2, none⟩ (.int .i64 (max (-20) d1))).setCell ⟨gW, 3, none⟩ (.int .i64 (min 20 u1)) = W6 := ⟨_, rfl⟩
    rw [hW6] at hS HWB ⊢
    clear hW6 hbz
    refine wp_region_list ?_
    obtain ⟨c0, c1, c2, c3, c4, c5, c6, c7, c8⟩ := hS.sp.bk.space
    have y0 := hS.bx.cell 0
    have y1 := hS.bx.cell 1
    have y2 := hS.bx.cell 2
    have y3 := hS.bx.cell 3
    have y4 := hS.bx.cell 4
    simp only [List.getElem?_toArray, List.getElem?_cons_zero, List.getElem?_cons_succ] at y0 y1 y2 y3 y4
    refine wpList_plain rfl (fun K hK => ?_)
    go_simp
    refine hK _ _ ?_
    clear hK K
    refine wpList_plain rfl (fun K hK => ?_)
    go_simp
    refine hK _ _ ?_
    clear hK K
    refine wpList_plain rfl (fun K hK => ?_)
    go_simp
    refine hK _ _ ?_
    clear hK K
    refine wpList_plain rfl (fun K hK => ?_)
    go_simp
    refine hK _ _ ?_
    clear hK K
    refine wpList_plain rfl (fun K hK => ?_)
    go_simp
    refine hK _ _ ?_
    clear hK K
    refine wpList_plain rfl (fun K hK => ?_)
    go_simp
    refine hK _ _ ?_
    clear hK K
    refine wpList_plain rfl (fun K hK => ?_)
    have hw9 := HD2.out
    go_simp
    clear hw9
    refine hK _ _ ?_
    clear hK K
    refine wpList_plain rfl (fun K hK => ?_)
    go_simp
    rw [max_if]
    refine hK _ _ ?_
    clear hK K
    refine wpList_plain rfl (fun K hK => ?_)
    go_simp
    refine hK _ _ ?_
    clear hK K
    refine wpList_plain rfl (fun K hK => ?_)
    go_simp
    refine hK _ _ ?_
    clear hK K
    refine wpList_plain rfl (fun K hK => ?_)
    go_simp
    refine hK _ _ ?_
    clear hK K
    refine wpList_plain rfl (fun K hK => ?_)
    go_simp
    refine hK _ _ ?_
    clear hK K
    refine wpList_plain rfl (fun K hK => ?_)
    go_simp
    refine hK _ _ ?_
    clear hK K
    refine wpList_plain rfl (fun K hK => ?_)
    go_simp
    refine hK _ _ ?_
    clear hK K
    refine wpList_plain rfl (fun K hK => ?_)
    have hw9 := HU2.out
    go_simp
    clear hw9
    refine hK _ _ ?_
    clear hK K
    refine wpList_plain rfl (fun K hK => ?_)
    go_simp
    rw [min_if]
    refine hK _ _ ?_
    clear hK K
    clear c0 c1 c2 c3 c4 c5 c6 c7 c8 y0 y1 y2 y3 y4
    go_wp2_with fail
    refine (span_c (max (-20) d2) (min 20 u2) _).mono ?_
    rintro e wz ⟨rfl, hbz⟩
    have hS := hS.keep hbz
    have HWB := HWB.keep hbz
    have w4 := HWB.cell 4
    have w5 := HWB.cell 5
    have f4 := HWB.frozen 4
    simp only [List.getElem?_toArray, List.getElem?_cons_zero, List.getElem?_cons_succ] at w4 w5
    have HW2 := HWB.set 4 (.int .i64 (max (-20) d2))
    simp only [List.setIfInBounds_toArray, List.set_cons_zero, List.set_cons_succ] at HW2
    have v5 := HW2.cell 5
    have f5 := HW2.frozen 5
    have f5b := HWB.frozen 5
    simp only [List.getElem?_toArray, List.getElem?_cons_zero, List.getElem?_cons_succ] at v5
    have HW3 := HW2.set 5 (.int .i64 (min 20 u2))
    simp only [List.setIfInBounds_toArray, List.set_cons_zero, List.set_cons_succ] at HW3
    have hS := (hS.cell hgw 4 (.int .i64 (max (-20) d2))).cell hgw 5 (.int .i64 (min 20 u2))
    obtain ⟨c0, c1, c2, c3, c4, c5, c6, c7, c8⟩ := hS.sp.bk.space
    go_upto_region 8 with fail
    clear c0 c1 c2 c3 c4 c5 c6 c7 c8 w4 w5 f4 v5 f5 f5b HW2 HWB
    have HWB := HW3
    clear HW3
    obtain ⟨W7, hW7⟩ : ∃ W7, (wz.setCell ⟨gW, 4, none⟩ (.int .i64 (max (-20) d2))).setCell ⟨gW, 5, none⟩ (.int .i64 (min 20 u2)) = W7 := ⟨_, rfl⟩
    rw [hW7] at hS HWB ⊢
    clear hW7 hbz
    have w8 := HWB.cell 8
    have f8 := HWB.frozen 8
    simp only [List.getElem?_toArray, List.getElem?_cons_zero, List.getElem?_cons_succ] at w8
    have HW8 := HWB.set 8 (.slice none 0 0)
    simp only [List.setIfInBounds_toArray, List.set_cons_zero, List.set_cons_succ] at HW8
    have hS := hS.cell hgw 8 (.slice none 0 0)
    go_wp2_with fail
    clear w8 f8 HWB
    obtain ⟨wc, hwc⟩ : ∃ wc : Value → Array Value, (fun v => #[.int .i64 (max 0 d0), .int .i64 (min 200 u0), .int .i64 (max (-20) d1), .int .i64 (min 20 u1), .int .i64 (max (-20) d2), .int .i64 (min 20 u2), .int .i64 s.lim, .slice m.A s.blows.length m.c, v]) = wc := ⟨_, rfl⟩
    have HWC := Lib.hid hwc
    have hw0 : Blk (W7.setCell ⟨gW, 8, none⟩ (.slice none 0 0)) gW 27 (wc (.slice none 0 0)) := by rw [← hwc]; exact HW8
    have HSET : Hid (∀ a b, (wc a).setIfInBounds 8 b = wc b) := fun a b => by rw [← hwc]; rfl
    have HC8 : Hid (∀ v, (wc v)[8]? = some v) := fun v => by rw [← hwc]; rfl
    clear hwc HW8
    go_loopw [9] (fun i wr => ∃ k : Nat, ∃ tv : Value, k ≤ s.tools.length ∧ i = .int .i64 k ∧ Sp2 w s m 80 #[.int .u8 (x0 : Int), .int .u8 (x1 : Int), .int .u8 (x2 : Int), .int .u8 (x3 : Int), .int .u8 (nw : Int)] wr ∧ Hid (Blk wr gW 27 (wc tv)) ∧ Hid (OwT wr (gW + 1) tv ((s.tools.map (wdT (x3 : Int))).take k))) (fun i _ => s.tools.length - (intOf i).toNat)
    case atStart => exact ⟨0, .slice none 0 0, Nat.zero_le _, rfl, hS, hw0, ⟨rfl, .inl ⟨rfl, rfl⟩⟩⟩
    case round =>
      clear hS hw0
      obtain ⟨k, tv, hk, rfl, hS, HWB, HOW⟩ := hrel
      have ht3 := HS_.out.t3
      by_cases hkl : k < s.tools.length
      · have hki : (k : Int) < (s.tools.length : Int) := by omega
        obtain ⟨at', hT, q0, q1⟩ := hsa.tl.get hkl
        have heb := HS_.out.er _ (List.getElem_mem hkl)
        have HTA := Lib.hid hT
        have HQ0 := Lib.hid q0
        have HQ1 := Lib.hid q1
        have HKI := Lib.hid hki
        have HW8 : Hid (IntKind.i64.wrap (x3 : Int) = (x3 : Int)) := IntWalk.i64_in _ (by omega)
        have HW9 : Hid (IntKind.i64.wrap (s.tools[k].err + (x3 : Int)) = s.tools[k].err + (x3 : Int)) := IntWalk.i64_in _ (by omega)
        have HNX : Hid ((s.tools.map (wdT (x3 : Int))).take (k + 1) = (s.tools.map (wdT (x3 : Int))).take k ++ [wdT (x3 : Int) s.tools[k]]) := by
          show _ = _
          rw [List.take_succ_eq_append_getElem (by rw [List.length_map]; exact hkl), List.getElem_map]
        obtain ⟨L, hL⟩ : ∃ L, (s.tools.map (wdT (x3 : Int))).take k = L := ⟨_, rfl⟩
        have HLL : Hid (L.length ≤ 3) := by show _ ≤ _; rw [← hL]; have := List.length_take_le k (s.tools.map (wdT (x3 : Int))); omega
        rw [hL] at HOW HNX
        clear hT q0 q1 hL
        obtain ⟨c0, c1, c2, c3, c4, c5, c6, c7, c8⟩ := hS.sp.bk.space
        rw [HTA.out] at c8
        go_wp2_with fail
        clear c0 c1 c2 c3 c4 c5 c6 c7 c8
        refine Vals9.region (Tw w s m 80 #[.int .u8 (x0 : Int), .int .u8 (x1 : Int), .int .u8 (x2 : Int), .int .u8 (x3 : Int), .int .u8 (nw : Int)] gW wc tv L (wdT (x3 : Int) s.tools[k])) [some 90, some 91, some 92, some 93, some 94, some 95, some 96, some 97, some 98, some 99, some 100, some 101, some 102, some 103, some 104, some 105, some 106, some 107, some 108, some 109, some 110, some 111, some 112, none] [.is ?_, .any, .is ?_, .is ?_, .is ?_, .is ?_, .is ?_, .is ?_, .is ?_, .is ?_, .is ?_, .is ?_, .is ?_, .is ?_, .is ?_, .is ?_, .is ?_, .is ?_, .is (.int .i64 (min 50 (s.tools[k].err + (x3 : Int)))), .is ?_, .any, .any, .is ?_, .any] (by kernel_rfl) (by kernel_rfl) (by kernel_rfl) (by kernel_rfl) (by kernel_rfl) (by kernel_rfl) (Tw.start hS hgw HWB.out HOW.out) ?hsteps ?hfin
        case hsteps =>
          refine Vals9.Steps.run rfl ?_ ?_
          · intro a W σ hJ pre K hK
            have e8 := pre.2.2 8 _ (by kernel_rfl) rfl
            clear pre
            simp only [Array.getD_eq_getD_getElem?, List.getElem?_toArray, List.getElem?_cons_zero, List.getElem?_cons_succ, Option.getD_some] at e8
            go_simp
            exact hK _ hJ
          refine Vals9.Steps.mark rfl ?_ ?_
          · intro a W σ hJ hn pre K hK
            have e90 := pre.1 0 90 _ (by kernel_rfl) rfl rfl
            simp only [Array.getD_eq_getD_getElem?, List.getElem?_toArray, List.getElem?_cons_zero, List.getElem?_cons_succ, Option.getD_some] at e90
            have wb := hJ.wb (hJ.no23 (hJ.no21a hn))
            have w8 := wb.cell 8
            rw [HC8.out] at w8
            go_simp
            exact hK _ _ (hJ.look hn)
          refine Vals9.Steps.run rfl ?_ ?_
          · intro a W σ hJ pre K hK
            have e3 := pre.2.2 3 _ (by kernel_rfl) rfl
            clear pre
            simp only [Array.getD_eq_getD_getElem?, List.getElem?_toArray, List.getElem?_cons_zero, List.getElem?_cons_succ, Option.getD_some] at e3
            go_simp
            exact hK _ hJ
          refine Vals9.Steps.run rfl ?_ ?_
          · intro a W σ hJ pre K hK
            have e92 := pre.1 2 92 _ (by kernel_rfl) rfl rfl
            clear pre
            simp only [Array.getD_eq_getD_getElem?, List.getElem?_toArray, List.getElem?_cons_zero, List.getElem?_cons_succ, Option.getD_some] at e92
            have hS9 := hJ
            obtain ⟨c0, c1, c2, c3, c4, c5, c6, c7, c8⟩ := hS9.h2.sp.bk.space
            have y0 := hS9.h2.bx.cell 0
            have y1 := hS9.h2.bx.cell 1
            have y2 := hS9.h2.bx.cell 2
            have y3 := hS9.h2.bx.cell 3
            have y4 := hS9.h2.bx.cell 4
            simp only [List.getElem?_toArray, List.getElem?_cons_zero, List.getElem?_cons_succ] at y0 y1 y2 y3 y4
            rw [HTA.out] at c8
            have q0 := keep_cell hS9.h2.sp.sn.1 HQ0.out
            have q1 := keep_cell hS9.h2.sp.sn.1 HQ1.out
            go_simp
            exact hK _ hJ
          refine Vals9.Steps.run rfl ?_ ?_
          · intro a W σ hJ pre K hK
            have e9 := pre.2.2 9 _ (by kernel_rfl) rfl
            clear pre
            simp only [Array.getD_eq_getD_getElem?, List.getElem?_toArray, List.getElem?_cons_zero, List.getElem?_cons_succ, Option.getD_some] at e9
            go_simp
            exact hK _ hJ
          refine Vals9.Steps.run rfl ?_ ?_
          · intro a W σ hJ pre K hK
            have e93 := pre.1 3 93 _ (by kernel_rfl) rfl rfl
            have e94 := pre.1 4 94 _ (by kernel_rfl) rfl rfl
            clear pre
            simp only [Array.getD_eq_getD_getElem?, List.getElem?_toArray, List.getElem?_cons_zero, List.getElem?_cons_succ, Option.getD_some] at e93 e94
            have hki := HKI.out
            go_simp
            exact hK _ hJ
          refine Vals9.Steps.run rfl ?_ ?_
          · intro a W σ hJ pre K hK
            have e95 := pre.1 5 95 _ (by kernel_rfl) rfl rfl
            clear pre
            simp only [Array.getD_eq_getD_getElem?, List.getElem?_toArray, List.getElem?_cons_zero, List.getElem?_cons_succ, Option.getD_some] at e95
            go_simp
            exact hK _ hJ
          refine Vals9.Steps.run rfl ?_ ?_
          · intro a W σ hJ pre K hK
            have e96 := pre.1 6 96 _ (by kernel_rfl) rfl rfl
            clear pre
            simp only [Array.getD_eq_getD_getElem?, List.getElem?_toArray, List.getElem?_cons_zero, List.getElem?_cons_succ, Option.getD_some] at e96
            have hS9 := hJ
            obtain ⟨c0, c1, c2, c3, c4, c5, c6, c7, c8⟩ := hS9.h2.sp.bk.space
            have y0 := hS9.h2.bx.cell 0
            have y1 := hS9.h2.bx.cell 1
            have y2 := hS9.h2.bx.cell 2
            have y3 := hS9.h2.bx.cell 3
            have y4 := hS9.h2.bx.cell 4
            simp only [List.getElem?_toArray, List.getElem?_cons_zero, List.getElem?_cons_succ] at y0 y1 y2 y3 y4
            rw [HTA.out] at c8
            have q0 := keep_cell hS9.h2.sp.sn.1 HQ0.out
            have q1 := keep_cell hS9.h2.sp.sn.1 HQ1.out
            go_simp
            exact hK _ hJ
          refine Vals9.Steps.run rfl ?_ ?_
          · intro a W σ hJ pre K hK
            have e3 := pre.2.2 3 _ (by kernel_rfl) rfl
            clear pre
            simp only [Array.getD_eq_getD_getElem?, List.getElem?_toArray, List.getElem?_cons_zero, List.getElem?_cons_succ, Option.getD_some] at e3
            go_simp
            exact hK _ hJ
          refine Vals9.Steps.run rfl ?_ ?_
          · intro a W σ hJ pre K hK
            have e98 := pre.1 8 98 _ (by kernel_rfl) rfl rfl
            clear pre
            simp only [Array.getD_eq_getD_getElem?, List.getElem?_toArray, List.getElem?_cons_zero, List.getElem?_cons_succ, Option.getD_some] at e98
            have hS9 := hJ
            obtain ⟨c0, c1, c2, c3, c4, c5, c6, c7, c8⟩ := hS9.h2.sp.bk.space
            have y0 := hS9.h2.bx.cell 0
            have y1 := hS9.h2.bx.cell 1
            have y2 := hS9.h2.bx.cell 2
            have y3 := hS9.h2.bx.cell 3
            have y4 := hS9.h2.bx.cell 4
            simp only [List.getElem?_toArray, List.getElem?_cons_zero, List.getElem?_cons_succ] at y0 y1 y2 y3 y4
            rw [HTA.out] at c8
            have q0 := keep_cell hS9.h2.sp.sn.1 HQ0.out
            have q1 := keep_cell hS9.h2.sp.sn.1 HQ1.out
            go_simp
            exact hK _ hJ
          refine Vals9.Steps.run rfl ?_ ?_
          · intro a W σ hJ pre K hK
            have e9 := pre.2.2 9 _ (by kernel_rfl) rfl
            clear pre
            simp only [Array.getD_eq_getD_getElem?, List.getElem?_toArray, List.getElem?_cons_zero, List.getElem?_cons_succ, Option.getD_some] at e9
            go_simp
            exact hK _ hJ
          refine Vals9.Steps.run rfl ?_ ?_
          · intro a W σ hJ pre K hK
            have e99 := pre.1 9 99 _ (by kernel_rfl) rfl rfl
            have e100 := pre.1 10 100 _ (by kernel_rfl) rfl rfl
            clear pre
            simp only [Array.getD_eq_getD_getElem?, List.getElem?_toArray, List.getElem?_cons_zero, List.getElem?_cons_succ, Option.getD_some] at e99 e100
            have hki := HKI.out
            go_simp
            exact hK _ hJ
          refine Vals9.Steps.run rfl ?_ ?_
          · intro a W σ hJ pre K hK
            have e101 := pre.1 11 101 _ (by kernel_rfl) rfl rfl
            clear pre
            simp only [Array.getD_eq_getD_getElem?, List.getElem?_toArray, List.getElem?_cons_zero, List.getElem?_cons_succ, Option.getD_some] at e101
            go_simp
            exact hK _ hJ
          refine Vals9.Steps.run rfl ?_ ?_
          · intro a W σ hJ pre K hK
            have e102 := pre.1 12 102 _ (by kernel_rfl) rfl rfl
            clear pre
            simp only [Array.getD_eq_getD_getElem?, List.getElem?_toArray, List.getElem?_cons_zero, List.getElem?_cons_succ, Option.getD_some] at e102
            have hS9 := hJ
            obtain ⟨c0, c1, c2, c3, c4, c5, c6, c7, c8⟩ := hS9.h2.sp.bk.space
            have y0 := hS9.h2.bx.cell 0
            have y1 := hS9.h2.bx.cell 1
            have y2 := hS9.h2.bx.cell 2
            have y3 := hS9.h2.bx.cell 3
            have y4 := hS9.h2.bx.cell 4
            simp only [List.getElem?_toArray, List.getElem?_cons_zero, List.getElem?_cons_succ] at y0 y1 y2 y3 y4
            rw [HTA.out] at c8
            have q0 := keep_cell hS9.h2.sp.sn.1 HQ0.out
            have q1 := keep_cell hS9.h2.sp.sn.1 HQ1.out
            go_simp
            exact hK _ hJ
          refine Vals9.Steps.run rfl ?_ ?_
          · intro a W σ hJ pre K hK
            have e5 := pre.2.2 5 _ (by kernel_rfl) rfl
            clear pre
            simp only [Array.getD_eq_getD_getElem?, List.getElem?_toArray, List.getElem?_cons_zero, List.getElem?_cons_succ, Option.getD_some] at e5
            go_simp
            exact hK _ hJ
          refine Vals9.Steps.run rfl ?_ ?_
          · intro a W σ hJ pre K hK
            have e104 := pre.1 14 104 _ (by kernel_rfl) rfl rfl
            clear pre
            simp only [Array.getD_eq_getD_getElem?, List.getElem?_toArray, List.getElem?_cons_zero, List.getElem?_cons_succ, Option.getD_some] at e104
            have hS9 := hJ
            obtain ⟨c0, c1, c2, c3, c4, c5, c6, c7, c8⟩ := hS9.h2.sp.bk.space
            have y0 := hS9.h2.bx.cell 0
            have y1 := hS9.h2.bx.cell 1
            have y2 := hS9.h2.bx.cell 2
            have y3 := hS9.h2.bx.cell 3
            have y4 := hS9.h2.bx.cell 4
            simp only [List.getElem?_toArray, List.getElem?_cons_zero, List.getElem?_cons_succ] at y0 y1 y2 y3 y4
            rw [HTA.out] at c8
            have q0 := keep_cell hS9.h2.sp.sn.1 HQ0.out
            have q1 := keep_cell hS9.h2.sp.sn.1 HQ1.out
            go_simp
            exact hK _ hJ
          refine Vals9.Steps.run rfl ?_ ?_
          · intro a W σ hJ pre K hK
            have e105 := pre.1 15 105 _ (by kernel_rfl) rfl rfl
            clear pre
            simp only [Array.getD_eq_getD_getElem?, List.getElem?_toArray, List.getElem?_cons_zero, List.getElem?_cons_succ, Option.getD_some] at e105
            have hw8 := HW8.out
            go_simp
            exact hK _ hJ
          refine Vals9.Steps.run rfl ?_ ?_
          · intro a W σ hJ pre K hK
            have e103 := pre.1 13 103 _ (by kernel_rfl) rfl rfl
            have e106 := pre.1 16 106 _ (by kernel_rfl) rfl rfl
            clear pre
            simp only [Array.getD_eq_getD_getElem?, List.getElem?_toArray, List.getElem?_cons_zero, List.getElem?_cons_succ, Option.getD_some] at e103 e106
            have hw9 := HW9.out
            go_simp
            exact hK _ hJ
          refine Vals9.Steps.run rfl ?_ ?_
          · intro a W σ hJ pre K hK
            have e107 := pre.1 17 107 _ (by kernel_rfl) rfl rfl
            clear pre
            simp only [Array.getD_eq_getD_getElem?, List.getElem?_toArray, List.getElem?_cons_zero, List.getElem?_cons_succ, Option.getD_some] at e107
            go_simp
            rw [min_if]
            exact hK _ hJ
          refine Vals9.Steps.run rfl ?_ ?_
          · intro a W σ hJ pre K hK
            have e97 := pre.1 7 97 _ (by kernel_rfl) rfl rfl
            have e108 := pre.1 18 108 _ (by kernel_rfl) rfl rfl
            clear pre
            simp only [Array.getD_eq_getD_getElem?, List.getElem?_toArray, List.getElem?_cons_zero, List.getElem?_cons_succ, Option.getD_some] at e97 e108
            go_simp
            exact hK _ hJ
          refine Vals9.Steps.mark rfl ?_ ?_
          · intro a W σ hJ hn pre K hK
            have e109 := pre.1 19 109 _ (by kernel_rfl) rfl rfl
            simp only [Array.getD_eq_getD_getElem?, List.getElem?_toArray, List.getElem?_cons_zero, List.getElem?_cons_succ, Option.getD_some] at e109
            go_simp
            exact hK _ _ (hJ.build hn)
          refine Vals9.Steps.mark rfl ?_ ?_
          · intro a W σ hJ hn pre K hK
            obtain ⟨v91, s91, e91⟩ := pre.2.1 1 (by kernel_rfl) rfl
            replace e91 : a.tmps.getD 91 undef = v91 := e91 91 rfl
            obtain ⟨v110, s110, e110⟩ := pre.2.1 20 (by kernel_rfl) rfl
            replace e110 : a.tmps.getD 110 undef = v110 := e110 110 rfl
            simp only [Array.getD_eq_getD_getElem?, List.getElem?_toArray, List.getElem?_cons_zero, List.getElem?_cons_succ, Option.getD_some] at e91 e110
            obtain rfl := hJ.lk _ s91
            obtain ⟨g, hg0, hgb⟩ := hJ.bs _ s110 hn
            subst hg0
            refine wp_append_tl (.tmp 91) (.tmp 110) rfl (B := gW + 1) (g := g) (l := L) (t := wdT (x3 : Int) s.tools[k]) (by go_simp) (by go_simp) (hJ.ow hn) hgb (by have := HLL.out; omega) (by have := hJ.lt; omega) ?_
            intro v' w' ho2 hg2 _
            exact hK _ _ (hJ.append hn ⟨_, s91⟩ ⟨_, s110⟩ hg2 ho2)
          refine Vals9.Steps.run rfl ?_ ?_
          · intro a W σ hJ pre K hK
            have e8 := pre.2.2 8 _ (by kernel_rfl) rfl
            clear pre
            simp only [Array.getD_eq_getD_getElem?, List.getElem?_toArray, List.getElem?_cons_zero, List.getElem?_cons_succ, Option.getD_some] at e8
            go_simp
            exact hK _ hJ
          refine Vals9.Steps.mark rfl ?_ ?_
          · intro a W σ hJ hn pre K hK
            obtain ⟨v111, s111, e111⟩ := pre.2.1 21 (by kernel_rfl) rfl
            replace e111 : a.tmps.getD 111 undef = v111 := e111 111 rfl
            have e112 := pre.1 22 112 _ (by kernel_rfl) rfl rfl
            simp only [Array.getD_eq_getD_getElem?, List.getElem?_toArray, List.getElem?_cons_zero, List.getElem?_cons_succ, Option.getD_some] at e111 e112
            obtain ⟨TA1, tc1, hv1, _, _, _⟩ := own_tl (hJ.ap _ s111)
            obtain ⟨tn, htn⟩ : ∃ tn, (L ++ [wdT (x3 : Int) s.tools[k]]).length = tn := ⟨_, rfl⟩
            rw [htn] at hv1
            clear htn
            subst hv1
            have wb := hJ.wb hn
            have w8 := wb.cell 8
            have f8 := wb.frozen 8
            rw [HC8.out] at w8
            go_simp
            exact hK _ _ (hJ.turn hn s111 HSET.out)
          exact Vals9.Steps.nil
        case hfin =>
          intro Y σ hJ
          simp only [Vals9.All]
          intro v91 h91 v110 h110 v111 h111 v23 h23
          simp only [Vals.putAll, List.setIfInBounds_toArray, List.set_cons_zero, List.set_cons_succ]
          have hS2 := hJ.h2
          have HWB2 := Lib.hid (hJ.wn _ _ h23 h111)
          have HOW2 : Hid (OwT Y (gW + 1) v111 ((s.tools.map (wdT (x3 : Int))).take (k + 1))) := by show OwT _ _ _ _; rw [HNX.out]; exact hJ.ap _ h111
          clear hJ h91 h110 h111 h23
          go_wp2_with fail
          go_roundw
          case rel => exact ⟨k + 1, v111, by omega, by go_num, hS2, HWB2, HOW2⟩
          case measure => simp [intOf]; omega
      · have hke : k = s.tools.length := by omega
        have hki : ¬ (k : Int) < (s.tools.length : Int) := by omega
        rw [List.take_of_length_le (by rw [List.length_map]; omega)] at HOW
        obtain ⟨TA, tc, htv, hTl, htc1, htc2⟩ := own_tl HOW.out
        subst htv
        have hs := HS_.out
        have hS' : SAt wr ⟨m.A, m.c, TA, tc⟩ (wdS s (x0 : Int) (x1 : Int) (x2 : Int) (x3 : Int)) := ⟨(hsa.keep hS.sp.sn.1).bl, hTl, hsa.bc, htc1, hsa.cM, htc2, fun t ht => by
          obtain ⟨u, hu, rfl⟩ := List.mem_map.1 ht
          exact hsa.nm u hu⟩
        have hsV : wc (.slice TA (s.tools.map (wdT (x3 : Int))).length tc) = sV (wdS s (x0 : Int) (x1 : Int) (x2 : Int) (x3 : Int)) ⟨m.A, m.c, TA, tc⟩ := by
          rw [← HWC.out, ← HDU0.out.1, ← HDU0.out.2, ← HDU1.out.1, ← HDU1.out.2, ← HDU2.out.1, ← HDU2.out.2]
          rfl
        have HWB2 := HWB.out
        rw [hsV] at HWB2
        have hck' := chk_wd (x0 := (x0 : Int)) (x1 := (x1 : Int)) (x2 := (x2 : Int)) (x3 := (x3 : Int)) (by omega) (by omega) (by omega) (by omega) HCK.out
        have hs' := chk_ok hck'
        have hwd := wid_wd hs (x0 := (x0 : Int)) (x1 := (x1 : Int)) (x2 := (x2 : Int)) (x3 := (x3 : Int)) (by omega) (by omega) (by omega)
        have hles := les_wd hs (x0 := (x0 : Int)) (x1 := (x1 : Int)) (x2 := (x2 : Int)) (x3 := (x3 : Int)) (by omega) HRO.out
        have hrs' : rdsE (wdS s (x0 : Int) (x1 : Int) (x2 : Int) (x3 : Int)).tools.length l = 0 := by
          show rdsE (s.tools.map (wdT (x3 : Int))).length l = 0
          rw [List.length_map]
          exact HRS.out
        have hlim : (wdS s (x0 : Int) (x1 : Int) (x2 : Int) (x3 : Int)).lim = s.lim := rfl
        obtain ⟨S', hS'e⟩ : ∃ S', wdS s (x0 : Int) (x1 : Int) (x2 : Int) (x3 : Int) = S' := ⟨_, rfl⟩
        obtain ⟨M', hM'e⟩ : ∃ M' : Sl, (⟨m.A, m.c, TA, tc⟩ : Sl) = M' := ⟨_, rfl⟩
        rw [hS'e, hM'e] at hS' HWB2
        rw [hS'e] at hck' hs' hwd hles hrs' hlim
        clear hS'e hM'e hsV HWB HOW hTl
        obtain ⟨LA, hLA⟩ : ∃ LA, levelA s l (mi : Int) = LA := ⟨_, rfl⟩
        obtain ⟨LB, hLB⟩ : ∃ LB, levelA S' l (mi : Int) = LB := ⟨_, rfl⟩
        obtain ⟨UA, hUA⟩ : ∃ UA, untilA s l (mi : Int) = UA := ⟨_, rfl⟩
        obtain ⟨UB, hUB⟩ : ∃ UB, untilA S' l (mi : Int) = UB := ⟨_, rfl⟩
        have hL1 := fun (W : World) (hW : Sp2 w s m 80 #[.int .u8 (x0 : Int), .int .u8 (x1 : Int), .int .u8 (x2 : Int), .int .u8 (x3 : Int), .int .u8 (nw : Int)] W) => level_c s m A l c (mi : Int) W (hsa.keep hW.sp.sn.1) hc hcM (hrd.keep hW.sp.sn.1)
        have hL2 := fun (W : World) (hW : Sp2 w s m 80 #[.int .u8 (x0 : Int), .int .u8 (x1 : Int), .int .u8 (x2 : Int), .int .u8 (x3 : Int), .int .u8 (nw : Int)] W) (h' : SAt W M' S') => level_c S' M' A l c (mi : Int) W h' hc hcM (hrd.keep hW.sp.sn.1)
        have hU1 := fun (W : World) (hW : Sp2 w s m 80 #[.int .u8 (x0 : Int), .int .u8 (x1 : Int), .int .u8 (x2 : Int), .int .u8 (x3 : Int), .int .u8 (nw : Int)] W) => until2_c s m A l c (mi : Int) W (hsa.keep hW.sp.sn.1) hc hcM (hrd.keep hW.sp.sn.1)
        have hU2 := fun (W : World) (hW : Sp2 w s m 80 #[.int .u8 (x0 : Int), .int .u8 (x1 : Int), .int .u8 (x2 : Int), .int .u8 (x3 : Int), .int .u8 (nw : Int)] W) (h' : SAt W M' S') => until2_c S' M' A l c (mi : Int) W h' hc hcM (hrd.keep hW.sp.sn.1)
        rw [hLA] at hL1
        rw [hLB] at hL2
        rw [hUA] at hU1
        rw [hUB] at hU2
        have HNot : Hid ((LA.2 = 9 ∧ UA.2 = 9 ∧ LB.2 = 0 ∧ UB.2 = 0) ∨ (LA.2 = 9 ∧ UA.2 = 9 ∧ LB.2 = 9 ∧ UB.2 = 9) ∨ (LA.2 = 0 ∧ UA.2 = 0 ∧ LB.2 = 0 ∧ UB.2 = 0 ∧ LB.1.1 ≤ LA.1.1 ∧ LA.1.2 ≤ LB.1.2 ∧ UB.1 ≤ UA.1)) := by
          show _ ∨ _
          rw [← hLA, ← hLB, ← hUA, ← hUB, level_of HCK.out HRS.out HWI.out, level_of hck' hrs' HWI.out, until_of HCK.out HRS.out HWI.out, until_of hck' hrs' HWI.out]
          cases hx : now s l (mi : Int) with
          | none =>
            cases hy : now S' l (mi : Int) with
            | none => exact .inr (.inl ⟨rfl, rfl, rfl, rfl⟩)
            | some b => exact .inl ⟨rfl, rfl, rfl, rfl⟩
          | some a =>
            cases hy : now S' l (mi : Int) with
            | none =>
              have := now_none hs hs' hwd hles hy
              rw [hx] at this
              cases this
            | some b =>
              obtain ⟨h1, h2⟩ := now_wide hs hs' hwd hles hx hy
              exact .inr (.inr ⟨rfl, rfl, rfl, rfl, h1, h2, until_mono hs hs' hwd hlim hles hx hy⟩)
        obtain ⟨⟨a0, a1⟩, ea⟩ := LA
        obtain ⟨⟨b0', b1'⟩, eb⟩ := LB
        obtain ⟨n, en⟩ := UA
        obtain ⟨k', ek⟩ := UB
        dsimp only at hL1 hL2 hU1 hU2
        clear hLA hLB hUA hUB hck' hs' hwd hles hrs' hlim hs ht3 hke b1 b2 b3 b4 b5 b6 b7 b8 b9 b10 b11
        have hS1 := hS
        obtain ⟨c0, c1, c2, c3, c4, c5, c6, c7, c8⟩ := hS1.sp.bk.space
        go_wp2_with fail
        refine (hL1 _ hS1).mono ?_
        rintro e w2 ⟨rfl, hb2⟩
        have hq2 : Below w2.heap.size w2 (w2.alloc (.cells #[.int .i64 a0, .int .i64 a1] 23)) := (Below.refl _ _).alloc (Nat.le_refl _) _
        have hS2 := (hS1.keep hb2).keep hq2
        have hw2' := (hS'.keep hb2).keep hq2
        have hW2 := (HWB2.keep hb2).keep hq2
        have hSa := Blk.new w2 23 #[.int .i64 a0, .int .i64 a1]
        clear c0 c1 c2 c3 c4 c5 c6 c7 c8 hS1 hS' HWB2 hb2 hq2 hL1
        obtain ⟨e0, e1, e2, e3, e4, e5, e6, e7, e8⟩ := hW2.space
        go_wp2_with fail
        obtain ⟨ga, hga⟩ : ∃ ga, w2.heap.size = ga := ⟨_, rfl⟩
        rw [hga] at hSa ⊢
        clear hga
        refine (hL2 _ hS2 hw2').mono ?_
        rintro e w3 ⟨rfl, hb3⟩
        have hq3 : Below w3.heap.size w3 (w3.alloc (.cells #[.int .i64 b0', .int .i64 b1'] 23)) := (Below.refl _ _).alloc (Nat.le_refl _) _
        have hS3 := (hS2.keep hb3).keep hq3
        have hw3' := (hw2'.keep hb3).keep hq3
        have hW3 := (hW2.keep hb3).keep hq3
        have hSa3 := (hSa.keep hb3).keep hq3
        have hSb := Blk.new w3 23 #[.int .i64 b0', .int .i64 b1']
        clear e0 e1 e2 e3 e4 e5 e6 e7 e8 hS2 hw2' hW2 hb3 hq3 hL2 hSa
        obtain ⟨c0, c1, c2, c3, c4, c5, c6, c7, c8⟩ := hS3.sp.bk.space
        go_wp2_with fail
        obtain ⟨gb, hgb⟩ : ∃ gb, w3.heap.size = gb := ⟨_, rfl⟩
        rw [hgb] at hSb ⊢
        clear hgb
        refine (hU1 _ hS3).mono ?_
        rintro e w4 ⟨rfl, hb4⟩
        have hS4 := hS3.keep hb4
        have hw4' := hw3'.keep hb4
        have hW4 := hW3.keep hb4
        have hSa4 := hSa3.keep hb4
        have hSb4 := hSb.keep hb4
        clear c0 c1 c2 c3 c4 c5 c6 c7 c8 hS3 hw3' hW3 hb4 hU1 hSa3 hSb
        obtain ⟨e0, e1, e2, e3, e4, e5, e6, e7, e8⟩ := hW4.space
        go_wp2_with fail
        refine (hU2 _ hS4 hw4').mono ?_
        rintro e w5 ⟨rfl, hb5⟩
        have hS5 := hS4.keep hb5
        have hSa5 := hSa4.keep hb5
        have hSb5 := hSb4.keep hb5
        clear e0 e1 e2 e3 e4 e5 e6 e7 e8 hS4 hw4' hW4 hb5 hU2 hSa4 hSb4
        have z0 := hSa5.cell 0
        have z1 := hSa5.cell 1
        have t0 := hSb5.cell 0
        have t1 := hSb5.cell 1
        simp only [List.getElem?_toArray, List.getElem?_cons_zero, List.getElem?_cons_succ] at z0 z1 t0 t1
        rcases HNot.out with ⟨rfl, rfl, rfl, rfl⟩ | ⟨rfl, rfl, rfl, rfl⟩ | ⟨rfl, rfl, rfl, rfl, h5, h6, h7⟩
        · clear HNot
          go_wp2_with fail
          refine (awake_c _).mono ?_
          rintro e w6 ⟨rfl, hb6⟩
          go_wp2_with fail
          go_ret
          exact ⟨rfl, (hS5.keep hb6).sp.sn.1⟩
        · clear HNot
          go_wp2_with fail
          refine (awake_c _).mono ?_
          rintro e w6 ⟨rfl, hb6⟩
          go_wp2_with fail
          go_ret
          exact ⟨rfl, (hS5.keep hb6).sp.sn.1⟩
        · clear HNot
          go_wp2_with fail
          refine (awake_c _).mono ?_
          rintro e w6 ⟨rfl, hb6⟩
          go_wp2_with fail
          go_ret
          exact ⟨rfl, (hS5.keep hb6).sp.sn.1⟩
  · have hr0' : (rdgE s l == 0) = false := by simpa using hr0
    have hr1 : (rdgE s l != 0) = true := by simpa using hr0
    go_wp2_with fail
    refine (awake_c _).mono ?_
    rintro e w2 ⟨rfl, hb2⟩
    go_wp2_with fail
    go_ret
    exact ⟨rfl, (hS1.keep hb2).sp.sn.1⟩
end Td
end Go.Proofs.Ytccacinnelmnpaa
