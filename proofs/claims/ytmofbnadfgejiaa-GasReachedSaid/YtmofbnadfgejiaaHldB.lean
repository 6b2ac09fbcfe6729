import Derived.Test.YtmofbnadfgejiaaHldA
/- The reference: what is asked of an instrument; Holds. -/
namespace Go.Proofs.Ytmofbnadfgejiaa
open Go.RowKit
namespace Td
set_option linter.unusedSimpArgs false
set_option linter.unusedVariables false
attribute [local go_sem] Oper.semAt_some
/-- the error of a space, an instrument, what it shows and two minutes. -/
def tooE (s : Spc) (tool shown fr to : Int) : Int :=
  if (chk s).2.2 ≠ 0 then (chk s).2.2 else if wi 0 ((s.tools.length : Int) - 1) tool then (if wi (-50) 250 shown && (wi 0 60 fr && wi 0 60 to) then 0 else 7) else 4
theorem tooE_same (s : Spc) (r : Rd) : tooE s r.tool r.shown r.min r.min = toolE2 s r := by
  unfold tooE toolE2 rdE
  by_cases h1 : (chk s).2.2 = 0
  · simp only [h1, ne_eq, not_true_eq_false, if_false, bne_self_eq_false, Bool.false_eq_true, Bool.and_self]
    rw [Bool.and_comm]
  · simp [h1]
set_option maxRecDepth 100000 in
set_option maxHeartbeats 8000000 in
theorem tooled_c (s : Spc) (m : Sl) (tool shown fr to : Int) (w : World) (hsa : SAt w m s) :
    Calls Try.prog 61 #[.agg (sV s m), .int .i64 tool, .int .i64 shown, .int .i64 fr, .int .i64 to] w fun e w' => e = .returned (.int .i64 (tooE s tool shown fr to)) ∧ Below w.heap.size w w' := by
  have hS0 := Sp.start w s m
  have HW : Hid (tooE s tool shown fr to = _) := Lib.hid (by unfold tooE; rfl)
  obtain ⟨c0, c1, c2, c3, c4, c5, c6, c7, c8⟩ := hS0.bk.space
  go_enter Try.func61, Try.ntmps61
  go_wp2_with fail
  refine (rcheck_c s m _ (hsa.keep hS0.sn.1)).mono ?_
  rintro e w1 ⟨rfl, hb1⟩
  have hS1 := hS0.keep hb1
  clear c0 c1 c2 c3 c4 c5 c6 c7 c8 hS0 hb1
  obtain ⟨p1, hp1⟩ : ∃ p, (chk s).1 = p := ⟨_, rfl⟩
  obtain ⟨p2, hp2⟩ : ∃ p, (chk s).2.1 = p := ⟨_, rfl⟩
  rw [hp1, hp2]
  clear hp1 hp2
  by_cases hr0 : (chk s).2.2 = 0
  · have hs := chk_ok hr0
    have hn := And.intro hs.t1 hs.t3
    have hW2 := HW.out
    rw [if_neg (by simpa using hr0)] at hW2
    rw [hr0]
    have HW2 := Lib.hid hW2
    obtain ⟨n, hnn⟩ : ∃ n, s.tools.length = n := ⟨_, rfl⟩
    rw [hnn] at HW2 hn
    have hw1 : IntKind.i64.wrap ((n : Int) - 1) = (n : Int) - 1 := IntWalk.i64_in _ (by omega)
    obtain ⟨c0, c1, c2, c3, c4, c5, c6, c7, c8⟩ := hS1.bk.space
    rw [hnn] at c8
    clear hr0 hW2 HW hnn
    go_wp2_with fail
    refine (rin_c 0 _ tool _).mono ?_
    rintro e w' ⟨rfl, rfl⟩
    clear c0 c1 c2 c3 c4 c5 c6 c7 c8 hw1
    rcases Bool.eq_false_or_eq_true (wi 0 ((n : Int) - 1) tool) with h1 | h1
    · have hW3 := HW2.out
      rw [if_pos h1] at hW3
      have HW3 := Lib.hid hW3
      rw [h1]
      clear h1 hW3 HW2
      go_wp2_with fail
      refine (rin_c (-50) 250 shown _).mono ?_
      rintro e w' ⟨rfl, rfl⟩
      rcases Bool.eq_false_or_eq_true (wi (-50) 250 shown) with h2 | h2
      · rw [h2]
        have hW4 := HW3.out
        rw [h2, Bool.true_and] at hW4
        have HW4 := Lib.hid hW4
        clear h2 hW4 HW3
        go_wp2_with fail
        refine (rin_c 0 60 fr _).mono ?_
        rintro e w' ⟨rfl, rfl⟩
        rcases Bool.eq_false_or_eq_true (wi 0 60 fr) with h3 | h3
        · rw [h3]
          have hW5 := HW4.out
          rw [h3, Bool.true_and] at hW5
          have HW5 := Lib.hid hW5
          clear h3 hW5 HW4
          go_wp2_with fail
          refine (rin_c 0 60 to _).mono ?_
          rintro e w' ⟨rfl, rfl⟩
          rcases Bool.eq_false_or_eq_true (wi 0 60 to) with h4 | h4
          · rw [h4]
            have hW6 := HW5.out
            rw [if_pos h4] at hW6
            have HV := Lib.hid hW6
            clear h4 hW6 HW5
            go_wp2_with fail
            go_ret
            exact ⟨by rw [HV.out]; rfl, hS1.sn.1⟩
          · rw [h4]
            have hW6 := HW5.out
            rw [if_neg (by rw [h4]; decide)] at hW6
            have HV := Lib.hid hW6
            clear h4 hW6 HW5
            go_wp2_with fail
            go_ret
            exact ⟨by rw [HV.out]; rfl, hS1.sn.1⟩
        · rw [h3]
          have hW5 := HW4.out
          rw [if_neg (by rw [h3]; simp)] at hW5
          have HV := Lib.hid hW5
          clear h3 hW5 HW4
          go_wp2_with fail
          go_ret
          exact ⟨by rw [HV.out]; rfl, hS1.sn.1⟩
      · rw [h2]
        have hW4 := HW3.out
        rw [if_neg (by rw [h2]; simp)] at hW4
        have HV := Lib.hid hW4
        clear h2 hW4 HW3
        go_wp2_with fail
        go_ret
        exact ⟨by rw [HV.out]; rfl, hS1.sn.1⟩
    · have hW3 := HW2.out
      rw [if_neg (by rw [h1]; decide)] at hW3
      rw [h1]
      have HV := Lib.hid hW3
      clear h1 hW3 HW2
      go_wp2_with fail
      go_ret
      exact ⟨by rw [HV.out]; rfl, hS1.sn.1⟩
  · have hW2 := HW.out
    rw [if_pos hr0] at hW2
    have HV := Lib.hid hW2
    have hr1 : ((chk s).2.2 == 0) = false := by simpa using hr0
    have hr2 : ((chk s).2.2 != 0) = true := by simpa using hr0
    obtain ⟨E, hE⟩ : ∃ E, (chk s).2.2 = E := ⟨_, rfl⟩
    rw [hE] at hr0 hr1 hr2 HV ⊢
    clear hW2 HW hE
    go_wp2_with fail
    go_ret
    exact ⟨by rw [HV.out]; rfl, hS1.sn.1⟩
theorem holdsA_eq (s : Spc) (r : Rd) : holdsA s r = if toolE2 s r = 0 then (hol s r, 0) else (0, toolE2 s r) := rfl
set_option maxRecDepth 100000 in
set_option maxHeartbeats 8000000 in
theorem rHolds_c (s : Spc) (m : Sl) (r : Rd) (w : World) (hsa : SAt w m s) :
    Calls Try.prog 26 #[.agg (sV s m), .int .i64 r.tool, .int .i64 r.shown, .int .i64 r.min] w fun e w' => e = .returned (.tuple #[.int .i64 (holdsA s r).1, .int .i64 (holdsA s r).2]) ∧ Below w.heap.size w w' := by
  have hS0 := Sp.start w s m
  have HT := Lib.hid (tooE_same s r)
  have HA := Lib.hid (holdsA_eq s r)
  obtain ⟨c0, c1, c2, c3, c4, c5, c6, c7, c8⟩ := hS0.bk.space
  obtain ⟨E, hE⟩ : ∃ E, tooE s r.tool r.shown r.min r.min = E := ⟨_, rfl⟩
  have hC := fun w => tooled_c s m r.tool r.shown r.min r.min w
  rw [hE] at hC HT
  clear hE
  go_enter Try.func26, Try.ntmps26
  go_wp2_with fail
  refine (hC _ (hsa.keep hS0.sn.1)).mono ?_
  rintro e w1 ⟨rfl, hb1⟩
  have hS1 := hS0.keep hb1
  clear c0 c1 c2 c3 c4 c5 c6 c7 c8 hS0 hb1 hC
  by_cases h0 : E = 0
  · subst h0
    have hA := HA.out
    rw [if_pos HT.out.symm] at hA
    have ⟨hck, hrd⟩ : (chk s).2.2 = 0 ∧ rdE s.tools.length r = 0 := by
      have h := HT.out.symm
      unfold toolE2 at h
      by_cases h1 : (chk s).2.2 = 0
      · rw [h1] at h; exact ⟨h1, by simpa using h⟩
      · rw [if_pos (by simpa using h1)] at h; exact absurd h h1
    have hR := rholds_c s m r w1 (chk_ok hck) (hsa.keep hS1.sn.1) (rdE_ok.1 hrd)
    obtain ⟨u, hu⟩ : ∃ u, hol s r = u := ⟨_, rfl⟩
    rw [hu] at hA hR
    have HV := Lib.hid hA
    obtain ⟨c0, c1, c2, c3, c4, c5, c6, c7, c8⟩ := hS1.bk.space
    clear hA HA HT hck hrd hu
    go_wp2_with fail
    refine hR.mono ?_
    rintro e w2 ⟨rfl, hb2⟩
    have hS2 := hS1.keep hb2
    clear c0 c1 c2 c3 c4 c5 c6 c7 c8 hR
    go_wp2_with fail
    go_ret2
    exact ⟨by rw [HV.out]; rfl, hS2.sn.1⟩
  · have hA := HA.out
    rw [if_neg (by rw [← HT.out]; exact h0), ← HT.out] at hA
    have HV := Lib.hid hA
    have hr1 : (E == 0) = false := by simpa using h0
    have hr2 : (E != 0) = true := by simpa using h0
    clear hA HA HT
    go_wp2_with fail
    go_ret2
    exact ⟨by rw [HV.out]; rfl, hS1.sn.1⟩
end Td
end Go.Proofs.Ytmofbnadfgejiaa
