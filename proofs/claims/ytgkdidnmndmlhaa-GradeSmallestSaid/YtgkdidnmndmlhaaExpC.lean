import Derived.Test.YtgkdidnmndmlhaaExpA
/- The exported function Smallest. -/
namespace Go.Proofs.Ytgkdidnmndmlhaa
open Go.RowKit
namespace Td
set_option linter.unusedSimpArgs false
set_option linter.unusedVariables false
attribute [local go_sem] Oper.semAt_some
/-- what Smallest answers. -/
def smaA (P lo hi pass : Int) (x : Int × Int) : Int × Int :=
  if chkE P lo hi = 0 then
    if wi 0 P pass = true then
      if shrE x = true then
        if smF (okS P.toNat lo.toNat hi.toNat pass.toNat (shr x.1.toNat x.2.toNat)) P.toNat = 0 then (0, 9)
        else ((smF (okS P.toNat lo.toNat hi.toNat pass.toNat (shr x.1.toNat x.2.toNat)) P.toNat : Int), 0)
      else (0, 6)
    else (0, 7)
  else (0, chkE P lo hi)
set_option maxRecDepth 100000 in
set_option maxHeartbeats 2000000 in
theorem Smallest_c (P lo hi pass : Int) (x : Int × Int) (w : World) :
    Calls Try.prog 31 #[.agg (gV P lo hi), .int .i64 pass, .agg (fV x)] w fun e w' => e = .returned (.tuple #[.int .i64 (smaA P lo hi pass x).1, .int .i64 (smaA P lo hi pass x).2]) ∧ Below w.heap.size w w' := by
  have hs0 := ((Since.refl w).alloc (.cells (gV P lo hi) 25)).alloc (.cells (fV x) 41)
  have HX := Lib.hid (Blk.new1 w (.cells (gV P lo hi) 25) 41 (fV x))
  have HG := Lib.hid ((Blk.new w 25 (gV P lo hi)).alloc (.cells (fV x) 41))
  obtain ⟨c0, c1, c2⟩ := HG.out.gcells
  go_enter Try.func31, Try.ntmps31
  go_wp2_with fail
  refine (look_c P lo hi _).mono ?_
  rintro e w1 ⟨hb1, ⟨hc, g, rfl, hg⟩ | ⟨hc, rfl⟩⟩
  · have hs1 := hs0.keep hb1
    have HX1 := Lib.hid (HX.out.keep hb1)
    have HG1 := Lib.hid (HG.out.keep hb1)
    clear c0 c1 c2
    obtain ⟨c0, c1, c2⟩ := HG1.out.gcells
    have HC := Lib.hid hc
    have hs2 := hs1.alloc (.cells #[.int .i64 pass] 3)
    have HX2 := Lib.hid (HX1.out.alloc (.cells #[.int .i64 pass] 3))
    have HQ2 := Lib.hid (hg.alloc (.cells #[.int .i64 pass] 3))
    obtain ⟨f0, f1⟩ := HX2.out.fcells
    obtain ⟨a1, a2, a3, a4, a5⟩ := chkE_ok.1 hc
    clear hc hb1
    cases h0 : wi 0 P pass
    · have HV : Hid (smaA P lo hi pass x = (0, 7)) := by show _ = _; unfold smaA; rw [if_pos HC.out, if_neg (by rw [h0]; intro h; cases h)]
      have H0 := Lib.hid h0
      clear h0 a1 a2 a3 a4 a5 hg
      go_wp2_with fail
      refine (within1_c _ _ _ _ 3 _ (Blk.newS (by simp))).mono ?_
      rintro e w' ⟨rfl, rfl⟩
      rw [H0.out]
      go_wp2_with fail
      go_ret2
      exact ⟨by rw [HV.out]; rfl, hs2.1⟩
    · have H0 := Lib.hid h0
      have hw0 := wi_iff.1 h0
      cases h1 : shrE x
      · have HV : Hid (smaA P lo hi pass x = (0, 6)) := by show _ = _; unfold smaA; rw [if_pos HC.out, if_pos h0, if_neg (by rw [h1]; intro h; cases h)]
        have H1 := Lib.hid h1
        clear h0 h1 a1 a2 a3 a4 a5 hg hw0
        go_wp2_with fail
        refine (within1_c _ _ _ _ 3 _ (Blk.newS (by simp))).mono ?_
        rintro e w' ⟨rfl, rfl⟩
        rw [H0.out]
        go_wp2_with fail
        refine (shareFits_c x _).mono ?_
        rintro e w3 ⟨rfl, hb3⟩
        rw [H1.out]
        have hs3 := hs2.keep hb3
        clear f0 f1 c0 c1 c2 hb3
        go_wp2_with fail
        go_ret2
        exact ⟨by rw [HV.out]; rfl, hs3.1⟩
      · have H1 := Lib.hid h1
        obtain ⟨xo, xi⟩ := x
        have hx : 1 ≤ xi ∧ xi ≤ 1000000 ∧ 0 ≤ xo ∧ xo ≤ xi := by
          have h2 := h1
          unfold shrE at h2
          rw [Bool.and_eq_true] at h2
          have k1 := wi_iff.1 h2.1
          have k2 := wi_iff.1 h2.2
          simp only at k1 k2
          omega
        have HV0 : Hid (smaA P lo hi pass (xo, xi) = if smF (okS P.toNat lo.toNat hi.toNat pass.toNat (shr xo.toNat xi.toNat)) P.toNat = 0 then (0, 9) else ((smF (okS P.toNat lo.toNat hi.toNat pass.toNat (shr xo.toNat xi.toNat)) P.toNat : Int), 0)) := by show _ = _; unfold smaA; rw [if_pos HC.out, if_pos h0, if_pos h1]
        clear h0 h1
        obtain ⟨P, rfl⟩ : ∃ P' : Nat, P = P' := ⟨P.toNat, by omega⟩
        obtain ⟨lo, rfl⟩ : ∃ P' : Nat, lo = P' := ⟨lo.toNat, by omega⟩
        obtain ⟨hi, rfl⟩ : ∃ P' : Nat, hi = P' := ⟨hi.toNat, by omega⟩
        obtain ⟨pass, rfl⟩ : ∃ P' : Nat, pass = P' := ⟨pass.toNat, by omega⟩
        obtain ⟨xo, rfl⟩ : ∃ P' : Nat, xo = P' := ⟨xo.toNat, by omega⟩
        obtain ⟨xi, rfl⟩ : ∃ P' : Nat, xi = P' := ⟨xi.toNat, by omega⟩
        simp only [Int.toNat_natCast] at HV0
        have hsm : Sm (shr xo xi) := by have := shr_le xo xi; exact ⟨by omega, by omega⟩
        have hb1 : lo ≤ hi := by omega
        have hb2 : hi ≤ P := by omega
        have hb3 : P ≤ 20 := by omega
        have hb4 : pass ≤ P := by omega
        have HSO : Hid (∀ W, Calls Try.prog 54 #[.int .i64 xo, .int .i64 xi] W fun e w' => e = .returned (.agg (fV (ip (shr xo xi)))) ∧ Below W.heap.size W w') := fun W => shareOf_c xo xi W (by omega) (by omega) (by omega)
        have HSM : Hid (∀ W, Blk W g 97 (hpV (P : Int) (lo : Int) (hi : Int)) → Calls Try.prog 76 #[hpP g, .int .i64 pass, .agg (fV (ip (shr xo xi)))] W fun e w' => e = .returned (.tuple #[.int .i64 (smF (okS P lo hi pass (shr xo xi)) P), .bool (decide (smF (okS P lo hi pass (shr xo xi)) P ≠ 0))]) ∧ Below W.heap.size W w') := fun W hW => smallest_c g P lo hi pass _ W hW hb1 hb2 hb3 hb4 hsm
        obtain ⟨q, hq⟩ : ∃ q, ip (shr xo xi) = q := ⟨_, rfl⟩
        obtain ⟨m, hm⟩ : ∃ m, smF (okS P lo hi pass (shr xo xi)) P = m := ⟨_, rfl⟩
        rw [hq, hm] at HSM
        rw [hq] at HSO
        rw [hm] at HV0
        clear hq hm hsm hb1 hb2 hb3 hb4 hw0 hx a1 a2 a3 a4 a5 hg
        go_wp2_with fail
        refine (within1_c _ _ _ _ 3 _ (Blk.newS (by simp))).mono ?_
        rintro e w' ⟨rfl, rfl⟩
        rw [H0.out]
        go_wp2_with fail
        refine (shareFits_c (_, _) _).mono ?_
        rintro e w3 ⟨rfl, hb3⟩
        rw [H1.out]
        have hs3 := hs2.keep hb3
        have HX3 := Lib.hid (HX2.out.keep hb3)
        have HQ3 := Lib.hid (HQ2.out.keep hb3)
        clear f0 f1 c0 c1 c2 hb3
        obtain ⟨f0, f1⟩ := HX3.out.fcells
        go_wp2_with fail
        refine (HSO.out _).mono ?_
        rintro e w4 ⟨rfl, hb4⟩
        have hs4 := hs3.keep hb4
        have HQ4 := Lib.hid (HQ3.out.keep hb4)
        clear f0 f1 hb4
        go_wp2_with fail
        refine (HSM.out _ HQ4.out).mono ?_
        rintro e w5 ⟨rfl, hb5⟩
        have hs5 := hs4.keep hb5
        clear hb5
        by_cases hz : m = 0
        · have HV : Hid (smaA P lo hi pass (xo, xi) = (0, 9)) := by show _ = _; rw [HV0.out, if_pos hz]
          rw [show decide (m ≠ 0) = false from decide_eq_false (by omega)]
          clear hz
          go_wp2_with fail
          go_ret2
          exact ⟨by rw [HV.out]; rfl, hs5.1⟩
        · have HV : Hid (smaA P lo hi pass (xo, xi) = ((m : Int), 0)) := by show _ = _; rw [HV0.out, if_neg hz]
          rw [show decide (m ≠ 0) = true from decide_eq_true (by omega)]
          clear hz
          go_wp2_with fail
          go_ret2
          exact ⟨by rw [HV.out]; rfl, hs5.1⟩
  · have hs1 := hs0.keep hb1
    have HV : Hid (smaA P lo hi pass x = (0, chkE P lo hi)) := by show _ = _; unfold smaA; rw [if_neg hc]
    obtain ⟨e, he⟩ : ∃ e, chkE P lo hi = e := ⟨_, rfl⟩
    rw [he] at HV hc ⊢
    have hc' : (e != 0) = true := by simpa using hc
    clear c0 c1 c2 he hc
    go_wp2_with fail
    go_ret2
    exact ⟨by rw [HV.out]; rfl, hs1.1⟩
end Td
end Go.Proofs.Ytgkdidnmndmlhaa
