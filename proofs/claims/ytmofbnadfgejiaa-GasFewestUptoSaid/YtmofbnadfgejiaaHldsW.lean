import Derived.Test.YtmofbnadfgejiaaHldD
import Derived.Test.YtmofbnadfgejiaaAwak
/- GasHolds: Holds and Fewest return what the reference does. -/
namespace Go.Proofs.Ytmofbnadfgejiaa
open Go.RowKit
namespace Td
set_option linter.unusedSimpArgs false
set_option linter.unusedVariables false
attribute [local go_sem] Oper.semAt_some
theorem fewest_len (s : Spc) (r : Rd) (to : Int) : (fewestA s r to).1.length ≤ 1000 := by
  unfold fewestA
  by_cases h : fewestE s r to = 0
  · rw [if_pos h]
    have h2 := fewE_is s r to
    rw [h] at h2
    have h3 : tooE s r.tool r.shown r.min to = 0 := by
      by_cases h4 : tooE s r.tool r.shown r.min to = 0
      · exact h4
      · rw [if_pos h4] at h2; exact absurd h2.symm h4
    obtain ⟨_, _, h5, h6⟩ := tooE_zero h3
    exact Nat.le_trans tab_len (by omega)
  · rw [if_neg h]
    exact Nat.zero_le _
set_option maxRecDepth 100000 in
set_option maxHeartbeats 8000000 in
theorem gasHolds_c (s : Spc) (m : Sl) (n0 n1 n2 n3 : Int) (w : World) (hsa : SAt w m s) :
    Calls Try.prog 5 #[.agg (sV s m), .agg #[.int .i64 n0, .int .i64 n1, .int .i64 n2, .int .i64 n3]] w fun e w' => e = .returned (.bool true) ∧ Below w.heap.size w w' := by
  have hS0 := Sp2.start w s m 42 #[.int .i64 n0, .int .i64 n1, .int .i64 n2, .int .i64 n3]
  have hH1 := fun (W : World) (hW : Sp2 w s m 42 #[.int .i64 n0, .int .i64 n1, .int .i64 n2, .int .i64 n3] W) => holds2_c s m ⟨n2, n0, n1⟩ W (hsa.keep hW.sp.sn.1)
  have hH2 := fun (W : World) (hW : Sp2 w s m 42 #[.int .i64 n0, .int .i64 n1, .int .i64 n2, .int .i64 n3] W) => rHolds_c s m ⟨n2, n0, n1⟩ W (hsa.keep hW.sp.sn.1)
  have hF1 := fun (W : World) (hW : Sp2 w s m 42 #[.int .i64 n0, .int .i64 n1, .int .i64 n2, .int .i64 n3] W) => fewest2_c s m ⟨n2, n0, n1⟩ n3 W (hsa.keep hW.sp.sn.1)
  have hF2 := fun (W : World) (hW : Sp2 w s m 42 #[.int .i64 n0, .int .i64 n1, .int .i64 n2, .int .i64 n3] W) => rfewest_c s m ⟨n2, n0, n1⟩ n3 W (hsa.keep hW.sp.sn.1)
  have hfl := fewest_len s ⟨n2, n0, n1⟩ n3
  dsimp only at hH1 hH2 hF1 hF2
  obtain ⟨HA, hHA⟩ : ∃ H, holdsA s ⟨n2, n0, n1⟩ = H := ⟨_, rfl⟩
  obtain ⟨FA, hFA⟩ : ∃ H, fewestA s ⟨n2, n0, n1⟩ n3 = H := ⟨_, rfl⟩
  rw [hHA] at hH1 hH2
  rw [hFA] at hF1 hF2 hfl
  obtain ⟨hv, he⟩ := HA
  obtain ⟨fl, fe⟩ := FA
  dsimp only at hH1 hH2 hF1 hF2 hfl
  clear hHA hFA
  obtain ⟨c0, c1, c2, c3, c4, c5, c6, c7, c8⟩ := hS0.sp.bk.space
  have y0 := hS0.bx.cell 0
  have y1 := hS0.bx.cell 1
  have y2 := hS0.bx.cell 2
  have y3 := hS0.bx.cell 3
  simp only [List.getElem?_toArray, List.getElem?_cons_zero, List.getElem?_cons_succ] at y0 y1 y2 y3
  go_enter Try.func5, Try.ntmps5
  go_wp2_with fail
  refine (hH1 _ hS0).mono ?_
  rintro e w1 ⟨rfl, hb1⟩
  have hS1 := hS0.keep hb1
  clear c0 c1 c2 c3 c4 c5 c6 c7 c8 y0 y1 y2 y3 hS0 hb1 hH1
  obtain ⟨c0, c1, c2, c3, c4, c5, c6, c7, c8⟩ := hS1.sp.bk.space
  have y0 := hS1.bx.cell 0
  have y1 := hS1.bx.cell 1
  have y2 := hS1.bx.cell 2
  have y3 := hS1.bx.cell 3
  simp only [List.getElem?_toArray, List.getElem?_cons_zero, List.getElem?_cons_succ] at y0 y1 y2 y3
  go_wp2_with fail
  refine (hH2 _ hS1).mono ?_
  rintro e w2 ⟨rfl, hb2⟩
  have hS2 := hS1.keep hb2
  clear c0 c1 c2 c3 c4 c5 c6 c7 c8 y0 y1 y2 y3 hS1 hb2 hH2
  obtain ⟨c0, c1, c2, c3, c4, c5, c6, c7, c8⟩ := hS2.sp.bk.space
  have y0 := hS2.bx.cell 0
  have y1 := hS2.bx.cell 1
  have y2 := hS2.bx.cell 2
  have y3 := hS2.bx.cell 3
  simp only [List.getElem?_toArray, List.getElem?_cons_zero, List.getElem?_cons_succ] at y0 y1 y2 y3
  go_wp2_with fail
  refine (hF1 _ hS2).mono ?_
  rintro e w3 ⟨⟨v1, rfl, A1, k1, rfl, hI1⟩, hb3⟩
  have hS3 := hS2.keep hb3
  clear c0 c1 c2 c3 c4 c5 c6 c7 c8 y0 y1 y2 y3 hS2 hb3 hF1
  obtain ⟨c0, c1, c2, c3, c4, c5, c6, c7, c8⟩ := hS3.sp.bk.space
  have y0 := hS3.bx.cell 0
  have y1 := hS3.bx.cell 1
  have y2 := hS3.bx.cell 2
  have y3 := hS3.bx.cell 3
  simp only [List.getElem?_toArray, List.getElem?_cons_zero, List.getElem?_cons_succ] at y0 y1 y2 y3
  go_wp2_with fail
  refine (hF2 _ hS3).mono ?_
  rintro e w4 ⟨⟨v2, rfl, A2, k2, rfl, hI2⟩, hb4⟩
  have hS4 := hS3.keep hb4
  have hI3 := hI1.keep hb4
  clear c0 c1 c2 c3 c4 c5 c6 c7 c8 y0 y1 y2 y3 hS3 hb4 hF2 hI1
  go_wp2_with fail
  refine (ints_c A1 A2 fl fl k1 k2 _ hfl hfl hI3 hI2).mono ?_
  rintro e w5 ⟨rfl, hb5⟩
  have hS5 := hS4.keep hb5
  have hdt : decide (fl = fl) = true := decide_eq_true rfl
  clear hI3 hI2
  go_wp2_with fail
  refine (awake_c _).mono ?_
  rintro e w6 ⟨rfl, hb6⟩
  go_wp2_with fail
  go_ret
  exact ⟨rfl, (hS5.keep hb6).sp.sn.1⟩
end Td
end Go.Proofs.Ytmofbnadfgejiaa
