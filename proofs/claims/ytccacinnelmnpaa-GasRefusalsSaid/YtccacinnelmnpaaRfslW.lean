import Derived.Test.YtccacinnelmnpaaRflW
/- GasRefusals: Refusal returns what the reference does. -/
namespace Go.Proofs.Ytccacinnelmnpaa
open Go.RowKit
namespace Td
set_option linter.unusedSimpArgs false
set_option linter.unusedVariables false
attribute [local go_sem] Oper.semAt_some
theorem refusal_len2 (s : Spc) (l : List Rd) (mi : Int) : (refusalA s l mi).1.length ≤ 1000 := by
  unfold refusalA
  split
  · rename_i h
    obtain ⟨_, _, _, h0, h1⟩ := watE_ok h
    split
    · simp
    · unfold tru
      simp
      omega
  · simp
set_option maxRecDepth 100000 in
set_option maxHeartbeats 8000000 in
theorem gasRefusals_c (s : Spc) (m : Sl) (A : Option Addr) (l : List Rd) (c : Nat) (mi : Int) (w : World) (hsa : SAt w m s) (hrd : RdAt w A l) (hc : l.length ≤ c) (hcM : c ≤ 9223372036854775807) :
    Calls Try.prog 4 #[.agg (sV s m), .slice A l.length c, .int .i64 mi] w fun e w' => e = .returned (.bool true) ∧ Below w.heap.size w w' := by
  have hS0 := Sp.start w s m
  have hR1 := fun (W : World) (hW : Sp w s m W) => refusal_c s m A l c mi W (hsa.keep hW.sn.1) hc hcM (hrd.keep hW.sn.1)
  have hR2 := fun (W : World) (hW : Sp w s m W) => rrefusal_c s m A l c mi W (hsa.keep hW.sn.1) (hrd.keep hW.sn.1) (by omega)
  have hrl := refusal_len2 s l mi
  obtain ⟨RF, hRF⟩ : ∃ RF, refusalA s l mi = RF := ⟨_, rfl⟩
  rw [hRF] at hR1 hR2 hrl
  obtain ⟨TL, er⟩ := RF
  dsimp only at hR1 hR2 hrl
  clear hRF
  obtain ⟨c0, c1, c2, c3, c4, c5, c6, c7, c8⟩ := hS0.bk.space
  go_enter Try.func4, Try.ntmps4
  go_wp2_with fail
  refine (hR1 _ hS0).mono ?_
  rintro e w1 ⟨⟨g1, n1, rfl, hn1, hI1⟩, hb1⟩
  subst hn1
  have hS1 := hS0.keep hb1
  clear c0 c1 c2 c3 c4 c5 c6 c7 c8 hS0 hb1 hR1
  obtain ⟨c0, c1, c2, c3, c4, c5, c6, c7, c8⟩ := hS1.bk.space
  go_wp2_with fail
  refine (hR2 _ hS1).mono ?_
  rintro e w2 ⟨⟨v2, rfl, g2, n2, rfl, hI2⟩, hb2⟩
  have hS2 := hS1.keep hb2
  have hI3 := hI1.keep hb2
  clear c0 c1 c2 c3 c4 c5 c6 c7 c8 hS1 hb2 hR2 hI1
  go_wp2_with fail
  refine (ints_c g1 g2 TL TL TL.length n2 _ hrl hrl hI3 hI2).mono ?_
  rintro e w3 ⟨rfl, hb3⟩
  have hS3 := hS2.keep hb3
  have hdt : decide (TL = TL) = true := decide_eq_true rfl
  clear hI3 hI2
  go_wp2_with fail
  refine (awake_c _).mono ?_
  rintro e w4 ⟨rfl, hb4⟩
  go_wp2_with fail
  go_ret
  exact ⟨rfl, (hS3.keep hb4).sn.1⟩
end Td
end Go.Proofs.Ytccacinnelmnpaa
