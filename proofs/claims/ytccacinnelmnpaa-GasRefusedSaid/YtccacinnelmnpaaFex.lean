import Derived.Test.YtccacinnelmnpaaFew
/- Fewest. -/
namespace Go.Proofs.Ytccacinnelmnpaa
open Go.RowKit
namespace Td
set_option linter.unusedSimpArgs false
set_option linter.unusedVariables false
attribute [local go_sem] Oper.semAt_some
set_option maxRecDepth 100000 in
set_option maxHeartbeats 4000000 in
theorem fewest2_c (s : Spc) (m : Sl) (r : Rd) (to : Int) (w : World) (hsa : SAt w m s) :
    Calls Try.prog 27 #[.agg (sV s m), .int .i64 r.tool, .int .i64 r.shown, .int .i64 r.min, .int .i64 to] w fun e w' => (∃ v, e = .returned (.tuple #[v, .int .i64 (fewestA s r to).2]) ∧ Lv w' v (fewestA s r to).1) ∧ Below w.heap.size w w' := by
  have hsn0 := (Since.refl w).alloc (.cells (sV s m) 27)
  have HS0 := Lib.hid (Blk.new w 27 (sV s m))
  obtain ⟨c0, c1, c2, c3, c4, c5, c6, c7, c8⟩ := HS0.out.space
  go_enter Try.func27, Try.ntmps27
  go_wp2_with fail
  refine (check_c s m _ (hsa.keep hsn0.1)).mono ?_
  rintro e w2 ⟨rfl, hb2⟩
  have hsn2 := hsn0.keep hb2
  have HS2 := Lib.hid (HS0.out.keep hb2)
  clear c0 c1 c2 c3 c4 c5 c6 c7 c8 hsn0 HS0
  by_cases h1 : (chk s).2.2 = 0
  · have hs := chk_ok h1
    rw [h1]
    have hsn3 := hsn2.alloc (.cells (rV r) 61)
    have HS3 := Lib.hid (HS2.out.alloc (.cells (rV r) 61))
    have HR3 := Lib.hid (Blk.new w2 61 (rV r))
    obtain ⟨c0, c1, c2, c3, c4, c5, c6, c7, c8⟩ := HS3.out.space
    go_wp2_with fail
    refine (readingFault_c s m r _ (by have := hs.t3; omega)).mono ?_
    rintro e w3 ⟨rfl, hb3⟩
    have hsn4 := hsn3.keep hb3
    have HS4 := Lib.hid (HS3.out.keep hb3)
    have HR4 := Lib.hid (HR3.out.keep hb3)
    clear c0 c1 c2 c3 c4 c5 c6 c7 c8
    by_cases h2 : rdE s.tools.length r = 0
    · have hr := rdE_ok.1 h2
      have hE2 : toolE2 s r = 0 := by simp [toolE2, h1, h2]
      rw [h2]
      clear h1 h2
      go_wp2_with fail
      refine (within_c _ _ _ _ _ _ (Blk.new _ _ _)).mono ?_
      rintro e w4 ⟨rfl, hb4⟩
      have hsn5 := (hsn4.alloc _).keep hb4
      have HS5 := Lib.hid ((HS4.out.alloc _).keep hb4)
      have HR5 := Lib.hid ((HR4.out.alloc _).keep hb4)
      clear HS4 HR4 HS3 HR3
      rcases Bool.eq_false_or_eq_true (wi 0 60 to) with h3 | h3
      · rw [h3]
        obtain ⟨t0, t1⟩ := wi_iff.1 h3
        by_cases h4 : to < r.min
        · have HV : Hid (fewestA s r to = ([], 2)) := by show _ = _; simp [fewestA, fewestE, hE2, h3, h4]
          clear h3 hE2
          go_wp2_with fail
          go_ret2
          exact ⟨⟨_, by rw [HV.out]; rfl, by rw [HV.out]; exact Lv.nil _⟩, hsn5.1⟩
        · have h4' : ¬ to < r.min := h4
          obtain ⟨c0, c1, c2, c3, c4, c5, c6, c7, c8⟩ := HS5.out.space
          have hsn6 := hsn5.alloc (.cells (wV s m none) 93)
          have HR6 := Lib.hid (HR5.out.alloc (.cells (wV s m none) 93))
          have r0 := HR6.out.cell 0
          have r1 := HR6.out.cell 1
          have r2 := HR6.out.cell 2
          simp only [List.getElem?_toArray, List.getElem?_cons_zero, List.getElem?_cons_succ] at r0 r1 r2
          dsimp only [wV] at r0 r1 r2
          have HW6 := Lib.hid (Blk.new w4 93 (wV s m none))
          have hH := holds_c s m r _ hs (hsa.keep hsn6.1) hr
          have H3 := Lib.hid h3
          have HE2 := Lib.hid hE2
          clear h3 hE2
          go_wp2_with fail
          refine hH.mono ?_
          rintro e w5 ⟨rfl, hb5⟩
          have hsn7 := hsn6.keep hb5
          have HR7 := Lib.hid (HR6.out.keep hb5)
          have HW7 := Lib.hid (HW6.out.keep hb5)
          clear hH c0 c1 c2 c3 c4 c5 c6 c7 c8 r0 r1 r2 HR6 HW6 HR5
          by_cases h5 : hol s r < r.min
          · have HV : Hid (fewestA s r to = ([], 9)) := by show _ = _; simp [fewestA, fewestE, HE2.out, H3.out, eq_false (show ¬ to < r.min by omega), h5]
            go_wp2_with fail
            go_ret2
            exact ⟨⟨_, by rw [HV.out]; rfl, by rw [HV.out]; exact Lv.nil _⟩, hsn7.1⟩
          · have HV : Hid (fewestA s r to = (few s r to, 0)) := by show _ = _; simp [fewestA, fewestE, HE2.out, H3.out, eq_false (show ¬ to < r.min by omega), eq_false (show ¬ hol s r < r.min by omega)]
            have h5' : ¬ hol s r < r.min := h5
            obtain ⟨n, hn⟩ : ∃ n : Nat, to = (n : Int) := ⟨to.toNat, by omega⟩
            subst hn
            obtain ⟨d0, d1, d2, d3, d4, d5, d6, d7, d8, d9⟩ := HW7.out.watch
            have r0 := HR7.out.cell 0
            have r1 := HR7.out.cell 1
            have r2 := HR7.out.cell 2
            simp only [List.getElem?_toArray, List.getElem?_cons_zero, List.getElem?_cons_succ] at r0 r1 r2
            have hF := fewest_c s m r n w5 hs (hsa.keep hsn7.1) hr (by omega) (by omega) (by omega)
            go_wp2_with fail
            refine hF.mono ?_
            rintro e w6 ⟨⟨v, rfl, hv⟩, hb6⟩
            have HVV := Lib.hid hv
            clear hv hF
            go_wp2_with fail
            go_ret2
            exact ⟨⟨_, by rw [HV.out]; rfl, by rw [HV.out]; exact HVV.out⟩, (hsn7.keep hb6).1⟩
      · rw [h3]
        have HV : Hid (fewestA s r to = ([], 7)) := by show _ = _; simp [fewestA, fewestE, hE2, h3]
        clear h3 hE2
        go_wp2_with fail
        go_ret2
        exact ⟨⟨_, by rw [HV.out]; rfl, by rw [HV.out]; exact Lv.nil _⟩, hsn5.1⟩
    · have HV : Hid (fewestA s r to = ([], rdE s.tools.length r)) := by show _ = _; simp [fewestA, fewestE, toolE2, h1, h2]
      have h2' : (rdE s.tools.length r != 0) = true := by simpa using h2
      clear h1 h2
      go_wp2_with fail
      go_ret2
      exact ⟨⟨_, by rw [HV.out]; rfl, by rw [HV.out]; exact Lv.nil _⟩, hsn4.1⟩
  · have HV : Hid (fewestA s r to = ([], (chk s).2.2)) := by show _ = _; simp [fewestA, fewestE, toolE2, h1]
    have h1' : ((chk s).2.2 != 0) = true := by simpa using h1
    clear h1
    go_wp2_with fail
    go_ret2
    exact ⟨⟨_, by rw [HV.out]; rfl, by rw [HV.out]; exact Lv.nil _⟩, hsn2.1⟩
end Td
end Go.Proofs.Ytccacinnelmnpaa
