import Derived.Test.YtgkdidnmndmlhaaRefs0
import Derived.Test.YtgkdidnmndmlhaaChkA
import Derived.Test.YtgkdidnmndmlhaaShr
/- The reference: heaps, plans, shares. -/
namespace Go.Proofs.Ytgkdidnmndmlhaa
open Go.RowKit
namespace Td
set_option linter.unusedSimpArgs false
set_option linter.unusedVariables false
attribute [local go_sem] Oper.semAt_some
theorem spr_chk {P lo hi : Int} (h : wi 1 20 P = true) : spr 0 P [(lo, hi)] = chkE P lo hi := by
  unfold spr chkE
  rw [sw_one, tn_one]
  cases ha : wi 0 P lo <;> cases hb : wi 0 P hi <;> simp [h]
set_option maxHeartbeats 1000000 in
theorem rCheck_c (P lo hi : Int) (w : World) :
    Calls Try.prog 18 #[.agg (gV P lo hi)] w fun e w' => e = .returned (.int .i64 (chkE P lo hi)) ∧ Below w.heap.size w w' := by
  have hs0 := (Since.refl w).alloc (.cells (gV P lo hi) 25)
  obtain ⟨c0, c1, c2⟩ := (Blk.new w 25 (gV P lo hi)).gcells
  cases h0 : wi 1 20 P
  · have HV : Hid (chkE P lo hi = 7) := by show _ = _; unfold chkE; rw [if_neg (by rw [h0]; rintro ⟨h, -⟩; cases h)]
    have H0 := Lib.hid h0
    clear h0
    go_enter Try.func18, Try.ntmps18
    go_wp2_with fail
    refine (rin_c _ _ _ _).mono ?_
    rintro e w' ⟨rfl, rfl⟩
    rw [H0.out]
    go_wp2_with fail
    go_ret
    exact ⟨by rw [HV.out]; rfl, hs0.1⟩
  · have HV := Lib.hid (spr_chk (lo := lo) (hi := hi) h0)
    have H0 := Lib.hid h0
    clear h0
    go_enter Try.func18, Try.ntmps18
    go_wp2_with fail
    refine (rin_c _ _ _ _).mono ?_
    rintro e w' ⟨rfl, rfl⟩
    rw [H0.out]
    go_wp2_with fail
    refine (range_c (lo, hi) 0 P _).mono ?_
    rintro e w' ⟨rfl, hb⟩
    rw [HV.out]
    have hs1 := hs0.keep hb
    clear c0 c1 c2 hb
    go_wp2_with fail
    go_ret
    exact ⟨rfl, hs1.1⟩
set_option maxHeartbeats 1000000 in
theorem rLess_c (s t : Nat × Nat) (w : World) (hs : Sm s) (ht : Sm t) :
    Calls Try.prog 44 #[.agg (fV (ip s)), .agg (fV (ip t))] w fun e w' => e = .returned (.bool (lt' s t)) ∧ Below w.heap.size w w' := by
  have hs0 := ((Since.refl w).alloc (.cells (fV (ip s)) 41)).alloc (.cells (fV (ip t)) 41)
  obtain ⟨c0, c1⟩ := ((Blk.new w 41 (fV (ip s))).alloc (.cells (fV (ip t)) 41)).fcells
  obtain ⟨d0, d1⟩ := (Blk.new1 w (.cells (fV (ip s)) 41) 41 (fV (ip t))).fcells
  have m1 := hs.mul ht
  have m2 := ht.mul hs
  have HV : Hid (lt' s t = decide (((s.1 * t.2 : Nat) : Int) < ((t.1 * s.2 : Nat) : Int))) := by show _ = _; unfold lt'; congr 1; rw [Int.ofNat_lt]
  have p1 : (s.1 : Int) * (t.2 : Int) = ((s.1 * t.2 : Nat) : Int) := by push_cast; rfl
  have p2 : (t.1 : Int) * (s.2 : Int) = ((t.1 * s.2 : Nat) : Int) := by push_cast; rfl
  have e1 : IntKind.i64.wrap ((s.1 : Int) * (t.2 : Int)) = (s.1 : Int) * (t.2 : Int) := wrapI (by rw [p1]; unfold I64; omega)
  have e2 : IntKind.i64.wrap ((t.1 : Int) * (s.2 : Int)) = (t.1 : Int) * (s.2 : Int) := wrapI (by rw [p2]; unfold I64; omega)
  have HV2 : Hid (lt' s t = decide ((s.1 : Int) * (t.2 : Int) < (t.1 : Int) * (s.2 : Int))) := by show _ = _; rw [HV.out, p1, p2]
  clear p1 p2 HV m1 m2 hs ht
  go_enter Try.func44, Try.ntmps44
  go_wp2_with fail
  go_ret
  exact ⟨by rw [HV2.out]; rfl, hs0.1⟩
set_option maxHeartbeats 1000000 in
theorem at_c (P lo hi b : Int) (w : World) : Calls Try.prog 43 #[.agg (gV P lo hi), .int .i64 b] w fun e w' => e = .returned (.agg (gV P b b)) ∧ Below w.heap.size w w' := by
  have hs0 := ((Since.refl w).alloc (.cells (gV P lo hi) 25)).alloc (.cells (gV 0 0 0) 25)
  obtain ⟨c0, c1, c2⟩ := ((Blk.new w 25 (gV P lo hi)).alloc (.cells (gV 0 0 0) 25)).gcells
  have HR := Lib.hid (Blk.new1 w (.cells (gV P lo hi) 25) 25 (gV 0 0 0))
  go_enter Try.func43, Try.ntmps43
  go_wp2_with (refine wpList_store_row rfl 25 _ _ rfl (w.heap.size + 1) (gV P b b) rfl (by first | rfl | (simp; done)) 25 _ HR.out (by kernel_rfl) rfl (by simp [Value.oneCell']) ?_)
  (refine bodyPost_ret (v := .agg _) ?_ rfl ⟨rfl, ?_⟩; exact (results_cell_row Try.results43 _ _ (w.heap.size + 1) 25 _ (0, 0) _ rfl (HR.out.row _) Try.underlying25 rfl (by kernel_rfl)))
  exact (hs0.row (by omega) _).1
set_option maxHeartbeats 4000000 in
theorem rPlan_c (P lo hi fi pa fa se to : Int) (w : World) :
    Calls Try.prog 26 #[.agg (gV P lo hi), .agg (lV fi pa fa se to)] w fun e w' => e = .returned (.int .i64 (chkP P lo hi fi pa fa se to)) ∧ Below w.heap.size w w' := by
  have hs0 := ((Since.refl w).alloc (.cells (gV P lo hi) 25)).alloc (.cells (lV fi pa fa se to) 38)
  have HG := Lib.hid ((Blk.new w 25 (gV P lo hi)).alloc (.cells (lV fi pa fa se to) 38))
  have HL := Lib.hid (Blk.new1 w (.cells (gV P lo hi) 25) 38 (lV fi pa fa se to))
  obtain ⟨c0, c1, c2⟩ := HG.out.gcells
  go_enter Try.func26, Try.ntmps26
  go_wp2_with fail
  refine (rCheck_c P lo hi _).mono ?_
  rintro e w1 ⟨rfl, hb1⟩
  have hs1 := hs0.keep hb1
  have HG1 := Lib.hid (HG.out.keep hb1)
  have HL1 := Lib.hid (HL.out.keep hb1)
  clear HG HL hb1 c0 c1 c2
  by_cases hc : chkE P lo hi = 0
  · obtain ⟨hP, hP1, -⟩ := chkE_ok.1 hc
    have HV : Hid (chkP P lo hi fi pa fa se to = planE P fi pa fa se to) := by show _ = _; unfold chkP; rw [if_pos hc]
    rw [hc]
    clear hc
    obtain ⟨c0, c1, c2⟩ := HG1.out.gcells
    obtain ⟨d0, d1, d2, d3, d4⟩ := HL1.out.lcells
    have HNo : Hid (fits P fi pa fa se to = false → planE P fi pa fa se to = 7) := fun h => by unfold planE; rw [h]; rfl
    cases h0 : wi 1 P fi
    · have HV2 : Hid (planE P fi pa fa se to = 7) := HNo.out (by unfold fits; rw [h0]; simp)
      have H0 := Lib.hid h0
      clear h0
      go_wp2_with fail
      refine (rin_c _ _ _ _).mono ?_
      rintro e w' ⟨rfl, rfl⟩
      rw [H0.out]
      clear c0 c1 c2 d0 d1 d2 d3 d4
      go_wp2_with fail
      go_ret
      exact ⟨by rw [HV.out, HV2.out]; rfl, hs1.1⟩
    · have H0 := Lib.hid h0
      cases h1 : wi 0 fi pa
      · have HV2 : Hid (planE P fi pa fa se to = 7) := HNo.out (by unfold fits; rw [h1]; simp)
        have H1 := Lib.hid h1
        clear h0 h1
        go_wp2_with fail
        refine (rin_c _ _ _ _).mono ?_
        rintro e w' ⟨rfl, rfl⟩
        rw [H0.out]
        go_wp2_with fail
        refine (rin_c _ _ _ _).mono ?_
        rintro e w' ⟨rfl, rfl⟩
        rw [H1.out]
        clear c0 c1 c2 d0 d1 d2 d3 d4
        go_wp2_with fail
        go_ret
        exact ⟨by rw [HV.out, HV2.out]; rfl, hs1.1⟩
      · have H1 := Lib.hid h1
        cases h2 : wi (pa + 1) (fi + 1) fa
        · have HV2 : Hid (planE P fi pa fa se to = 7) := HNo.out (by unfold fits; rw [h2]; simp)
          have H2 := Lib.hid h2
          have e1 : IntKind.i64.wrap (pa + 1) = pa + 1 := wrapI (by have a0 := wi_iff.1 h0; have a1 := wi_iff.1 h1; unfold I64; omega)
          have e2 : IntKind.i64.wrap (fi + 1) = fi + 1 := wrapI (by have a0 := wi_iff.1 h0; unfold I64; omega)
          clear h0 h1 h2
          go_wp2_with fail
          refine (rin_c _ _ _ _).mono ?_
          rintro e w' ⟨rfl, rfl⟩
          rw [H0.out]
          go_wp2_with fail
          refine (rin_c _ _ _ _).mono ?_
          rintro e w' ⟨rfl, rfl⟩
          rw [H1.out]
          go_wp2_with fail
          refine (rin_c _ _ _ _).mono ?_
          rintro e w' ⟨rfl, rfl⟩
          rw [H2.out]
          clear c0 c1 c2 d0 d1 d2 d3 d4
          go_wp2_with fail
          go_ret
          exact ⟨by rw [HV.out, HV2.out]; rfl, hs1.1⟩
        · have H2 := Lib.hid h2
          cases h3 : wi 0 (P - fi) se
          · have HV2 : Hid (planE P fi pa fa se to = 7) := HNo.out (by unfold fits; rw [h3]; simp)
            have H3 := Lib.hid h3
            have e1 : IntKind.i64.wrap (pa + 1) = pa + 1 := wrapI (by have a0 := wi_iff.1 h0; have a1 := wi_iff.1 h1; unfold I64; omega)
            have e2 : IntKind.i64.wrap (fi + 1) = fi + 1 := wrapI (by have a0 := wi_iff.1 h0; unfold I64; omega)
            have e3 : IntKind.i64.wrap (P - fi) = P - fi := wrapI (by have a0 := wi_iff.1 h0; unfold I64; omega)
            clear h0 h1 h2 h3
            go_wp2_with fail
            refine (rin_c _ _ _ _).mono ?_
            rintro e w' ⟨rfl, rfl⟩
            rw [H0.out]
            go_wp2_with fail
            refine (rin_c _ _ _ _).mono ?_
            rintro e w' ⟨rfl, rfl⟩
            rw [H1.out]
            go_wp2_with fail
            refine (rin_c _ _ _ _).mono ?_
            rintro e w' ⟨rfl, rfl⟩
            rw [H2.out]
            go_wp2_with fail
            refine (rin_c _ _ _ _).mono ?_
            rintro e w' ⟨rfl, rfl⟩
            rw [H3.out]
            clear c0 c1 c2 d0 d1 d2 d3 d4
            go_wp2_with fail
            go_ret
            exact ⟨by rw [HV.out, HV2.out]; rfl, hs1.1⟩
          · have H3 := Lib.hid h3
            cases h4 : wi 0 P to
            · have HV2 : Hid (planE P fi pa fa se to = 7) := HNo.out (by unfold fits; rw [h4]; simp)
              have H4 := Lib.hid h4
              have e1 : IntKind.i64.wrap (pa + 1) = pa + 1 := wrapI (by have a0 := wi_iff.1 h0; have a1 := wi_iff.1 h1; unfold I64; omega)
              have e2 : IntKind.i64.wrap (fi + 1) = fi + 1 := wrapI (by have a0 := wi_iff.1 h0; unfold I64; omega)
              have e3 : IntKind.i64.wrap (P - fi) = P - fi := wrapI (by have a0 := wi_iff.1 h0; unfold I64; omega)
              clear h0 h1 h2 h3 h4
              go_wp2_with fail
              refine (rin_c _ _ _ _).mono ?_
              rintro e w' ⟨rfl, rfl⟩
              rw [H0.out]
              go_wp2_with fail
              refine (rin_c _ _ _ _).mono ?_
              rintro e w' ⟨rfl, rfl⟩
              rw [H1.out]
              go_wp2_with fail
              refine (rin_c _ _ _ _).mono ?_
              rintro e w' ⟨rfl, rfl⟩
              rw [H2.out]
              go_wp2_with fail
              refine (rin_c _ _ _ _).mono ?_
              rintro e w' ⟨rfl, rfl⟩
              rw [H3.out]
              go_wp2_with fail
              refine (rin_c _ _ _ _).mono ?_
              rintro e w' ⟨rfl, rfl⟩
              rw [H4.out]
              clear c0 c1 c2 d0 d1 d2 d3 d4
              go_wp2_with fail
              go_ret
              exact ⟨by rw [HV.out, HV2.out]; rfl, hs1.1⟩
            · have H4 := Lib.hid h4
              have hf : fits P fi pa fa se to = true := by unfold fits; rw [h0, h1, h2, h3, h4]; rfl
              have e1 : IntKind.i64.wrap (pa + 1) = pa + 1 := wrapI (by have a0 := wi_iff.1 h0; have a1 := wi_iff.1 h1; unfold I64; omega)
              have e2 : IntKind.i64.wrap (fi + 1) = fi + 1 := wrapI (by have a0 := wi_iff.1 h0; unfold I64; omega)
              have e3 : IntKind.i64.wrap (P - fi) = P - fi := wrapI (by have a0 := wi_iff.1 h0; unfold I64; omega)
              have HV2 : Hid (planE P fi pa fa se to = if (se = 0 ∧ (fa ≠ pa + 1 ∨ to ≠ 0)) ∨ (se ≠ 0 ∧ (fa = pa + 1 ∨ to < pa)) then 2 else 0) := by show _ = _; unfold planE; rw [if_pos hf]
              clear hf h0 h1 h2 h3 h4
              go_wp2_with fail
              refine (rin_c _ _ _ _).mono ?_
              rintro e w' ⟨rfl, rfl⟩
              rw [H0.out]
              go_wp2_with fail
              refine (rin_c _ _ _ _).mono ?_
              rintro e w' ⟨rfl, rfl⟩
              rw [H1.out]
              go_wp2_with fail
              refine (rin_c _ _ _ _).mono ?_
              rintro e w' ⟨rfl, rfl⟩
              rw [H2.out]
              go_wp2_with fail
              refine (rin_c _ _ _ _).mono ?_
              rintro e w' ⟨rfl, rfl⟩
              rw [H3.out]
              go_wp2_with fail
              refine (rin_c _ _ _ _).mono ?_
              rintro e w' ⟨rfl, rfl⟩
              rw [H4.out]
              clear c0 c1 c2
              by_cases hs : se = 0
              · have q0 : (se == 0) = true := by simpa using hs
                have q0' : (se != 0) = false := by simpa using hs
                have HS := Lib.hid hs
                clear hs
                by_cases hd : fa = pa + 1
                · have q1 : (fa == pa + 1) = true := by simpa using hd
                  have HD := Lib.hid hd
                  clear hd
                  by_cases ht : to = 0
                  · have q2 : (to != 0) = false := by simpa using ht
                    have HV3 : Hid (planE P fi pa fa se to = 0) := by show _ = _; rw [HV2.out, if_neg]; have := HS.out; have := HD.out; omega
                    clear ht
                    go_wp2_with fail
                    go_ret
                    exact ⟨by rw [HV.out, HV3.out]; rfl, hs1.1⟩
                  · have q2 : (to != 0) = true := by simpa using ht
                    have HV3 : Hid (planE P fi pa fa se to = 2) := by show _ = _; rw [HV2.out, if_pos]; have := HS.out; have := HD.out; omega
                    clear ht
                    go_wp2_with fail
                    go_ret
                    exact ⟨by rw [HV.out, HV3.out]; rfl, hs1.1⟩
                · have q1 : (fa == pa + 1) = false := by simpa using hd
                  have HV3 : Hid (planE P fi pa fa se to = 2) := by show _ = _; rw [HV2.out, if_pos]; have := HS.out; omega
                  clear hd
                  go_wp2_with fail
                  go_ret
                  exact ⟨by rw [HV.out, HV3.out]; rfl, hs1.1⟩
              · have q0 : (se == 0) = false := by simpa using hs
                have q0' : (se != 0) = true := by simpa using hs
                have HS := Lib.hid hs
                clear hs
                by_cases hd : fa = pa + 1
                · have q1 : (fa == pa + 1) = true := by simpa using hd
                  have HV3 : Hid (planE P fi pa fa se to = 2) := by show _ = _; rw [HV2.out, if_pos]; have := HS.out; omega
                  clear hd
                  go_wp2_with fail
                  go_ret
                  exact ⟨by rw [HV.out, HV3.out]; rfl, hs1.1⟩
                · have q1 : (fa == pa + 1) = false := by simpa using hd
                  have HD := Lib.hid hd
                  clear hd
                  by_cases ht : to < pa
                  · have HV3 : Hid (planE P fi pa fa se to = 2) := by show _ = _; rw [HV2.out, if_pos]; have := HS.out; omega
                    go_wp2_with fail
                    go_ret
                    exact ⟨by rw [HV.out, HV3.out]; rfl, hs1.1⟩
                  · have HV3 : Hid (planE P fi pa fa se to = 0) := by show _ = _; rw [HV2.out, if_neg]; have := HS.out; have := HD.out; omega
                    go_wp2_with fail
                    go_ret
                    exact ⟨by rw [HV.out, HV3.out]; rfl, hs1.1⟩
  · have HV : Hid (chkP P lo hi fi pa fa se to = chkE P lo hi) := by show _ = _; unfold chkP; rw [if_neg hc]
    have hc' : (chkE P lo hi != 0) = true := by simpa using hc
    clear hc
    go_wp2_with fail
    go_ret
    exact ⟨by rw [HV.out]; rfl, hs1.1⟩
end Td
end Go.Proofs.Ytgkdidnmndmlhaa
