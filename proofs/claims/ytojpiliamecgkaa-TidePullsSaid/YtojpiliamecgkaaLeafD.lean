import Derived.Test.YtojpiliamecgkaaLeafC
namespace Go.Proofs.Ytojpiliamecgkaa
open Go.RowKit
namespace Td
set_option linter.unusedSimpArgs false
set_option linter.unusedVariables false
/-- the error of one span. -/
def spE (lo hi : Int) (p : Int × Int) : Int := if wi lo hi p.1 && wi lo hi p.2 then if p.2 < p.1 then 2 else 0 else 7
set_option maxHeartbeats 1000000 in
theorem spread_c (A : Option Addr) (p : Int × Int) (c : Nat) (lo hi : Int) (w : World) (hp : SpAt w A [p]) :
    Calls Try.prog 75 #[.slice A 1 c, .int .i64 lo, .int .i64 hi] w fun e w' => e = .returned (.int .i64 (spE lo hi p)) ∧ Below w.heap.size w w' := by
  obtain ⟨ad, hA, c0, c1⟩ := hp.get (k := 0) (by simp)
  subst hA
  simp only [Nat.zero_mul, List.getElem_cons_zero] at c0 c1
  have e0 : ad.add 0 = ad := by simp [Addr.add]
  rw [e0] at c0 c1
  go_enter Try.func75, Try.ntmps75
  go_wp2
  go_loopw [7, 8] (fun t i wr => ∃ n, wr = w.drewN n ∧ ((i = .int .i64 0 ∧ t = .bool false) ∨ (i = .int .i64 1 ∧ t = .bool (decide (p.2 < p.1)) ∧ Hid ((wi lo hi p.1 && wi lo hi p.2) = true)))) (fun _ i _ => 1 - (intOf i).toNat)
  case atStart => exact ⟨0, rfl, .inl ⟨rfl, rfl⟩⟩
  case round =>
    obtain ⟨nd, rfl, ⟨rfl, rfl⟩ | ⟨rfl, rfl, H⟩⟩ := hrel
    · cases h1 : wi lo hi p.1
      · have HV : Hid (spE lo hi p = 7) := by show _ = _; simp [spE, h1]
        have H1 := Lib.hid h1
        clear h1
        go_wp2_with fail
        refine (rwithin_c _ _ _ _).mono ?_
        rintro e w' ⟨rfl, rfl⟩
        rw [H1.out]
        go_wp2_with fail
        go_ret
        exact ⟨ret_int HV.out.symm, bdrew (Below.refl _ _) _⟩
      · cases h2 : wi lo hi p.2
        · have HV : Hid (spE lo hi p = 7) := by show _ = _; simp [spE, h1, h2]
          have H1 := Lib.hid h1
          have H2 := Lib.hid h2
          clear h1 h2
          go_wp2_with fail
          refine (rwithin_c _ _ _ _).mono ?_
          rintro e w' ⟨rfl, rfl⟩
          rw [H1.out]
          go_wp2_with fail
          refine (rwithin_c _ _ _ _).mono ?_
          rintro e w' ⟨rfl, rfl⟩
          rw [H2.out]
          go_wp2_with fail
          go_ret
          exact ⟨ret_int HV.out.symm, bdrew (Below.refl _ _) _⟩
        · have HV : Hid ((wi lo hi p.1 && wi lo hi p.2) = true) := by show _ = _; rw [h1, h2]; rfl
          have H1 := Lib.hid h1
          have H2 := Lib.hid h2
          clear h1 h2
          go_wp2_with fail
          refine (rwithin_c _ _ _ _).mono ?_
          rintro e w' ⟨rfl, rfl⟩
          rw [H1.out]
          go_wp2_with fail
          refine (rwithin_c _ _ _ _).mono ?_
          rintro e w' ⟨rfl, rfl⟩
          rw [H2.out]
          go_wp2_with fail
          go_quiet (fail)
          go_wp2_with fail
          go_roundw
          case rel => exact ⟨_, rfl, .inr ⟨rfl, rfl, (by first | exact HV | exact Lib.hid rfl)⟩⟩
          case measure => simp [intOf]
    · by_cases h : p.2 < p.1
      · have HV : Hid (spE lo hi p = 2) := by show _ = _; simp [spE, H.out, h]
        have h' : decide (p.2 < p.1) = true := by simpa using h
        go_wp2_with fail
        go_ret
        exact ⟨ret_int HV.out.symm, bdrew (Below.refl _ _) _⟩
      · have HV : Hid (spE lo hi p = 0) := by show _ = _; simp [spE, H.out, h]
        have h' : decide (p.2 < p.1) = false := by simpa using h
        go_wp2_with fail
        go_ret
        exact ⟨ret_int HV.out.symm, bdrew (Below.refl _ _) _⟩
theorem range_c (p : Int × Int) (lo hi : Int) (w : World) :
    Calls Try.prog 49 #[.agg #[.int .i64 p.1, .int .i64 p.2], .int .i64 lo, .int .i64 hi] w fun e w' => e = .returned (.int .i64 (spE lo hi p)) ∧ Below w.heap.size w w' := by
  go_enter Try.func49, Try.ntmps49
  go_wp2_with fail
  refine (spread_c _ p _ lo hi _ (SpAt.one (Blk.new1 _ _ _ _))).mono ?_
  rintro e w' ⟨rfl, hb⟩
  go_wp2_with fail
  go_ret
  exact ⟨rfl, bjoin hb (((Below.refl _ _).alloc (Nat.le_refl _) _).alloc (by simp) _) (by simp; omega)⟩
/-! ### the worst of some errors -/
def worstStep (out e : Int) : Int := if e = 7 ∨ (e = 2 ∧ out = 0) then e else out
def worstE (l : List Int) : Int := l.foldl worstStep 0
theorem worstE_snoc (l : List Int) (e : Int) : worstE (l ++ [e]) = worstStep (worstE l) e := by simp [worstE]
set_option maxHeartbeats 1000000 in
theorem worst_c (A : Option Addr) (l : List Int) (c : Nat) (w : World) (hl : l.length ≤ 1000) (hp : InAt w A l) :
    Calls Try.prog 48 #[.slice A l.length c] w fun e w' => e = .returned (.int .i64 (worstE l)) ∧ w = w' := by
  go_enter Try.func48, Try.ntmps48
  go_wp2
  go_loop [3, 4] (fun t i => ∃ k : Nat, k ≤ l.length ∧ i = .int .i64 k ∧ t = .int .i64 (worstE (l.take k))) (fun _ i => l.length - (intOf i).toNat)
  case atStart => exact ⟨0, Nat.zero_le _, rfl, rfl⟩
  case round =>
    obtain ⟨k, hk, rfl, rfl⟩ := hrel
    by_cases hlt : k < l.length
    · obtain ⟨ad, hA, c0⟩ := hp.get hlt
      subst hA
      have HT : Hid (worstE (l.take (k + 1)) = worstStep (worstE (l.take k)) l[k]) := by
        show _ = _
        rw [List.take_succ_eq_append_getElem hlt, worstE_snoc]
      have e2 : ∀ a : Nat, ((a : Nat) : Int) + 1 = ((a + 1 : Nat) : Int) := fun a => by omega
      clear e2
      by_cases h7 : l[k] = 7
      · have HS : Hid (worstStep (worstE (l.take k)) l[k] = l[k]) := by show _ = _; simp [worstStep, h7]
        have h7' : ((l[k] : Int) == 7) = true := by simpa using h7
        have H7 := Lib.hid h7
        clear h7
        go_wp2_with fail
        go_round
        case rel => exact ⟨k + 1, by omega, by go_num, by rw [HT.out, HS.out]⟩
        case measure => simp [intOf]; omega
      · by_cases h2 : l[k] = 2
        · by_cases h0 : worstE (l.take k) = 0
          · have HS : Hid (worstStep (worstE (l.take k)) l[k] = l[k]) := by show _ = _; simp [worstStep, h2, h0]
            have h7' : ((l[k] : Int) == 7) = false := by simpa using h7
            have h2' : ((l[k] : Int) == 2) = true := by simpa using h2
            have h0' : ((worstE (l.take k) : Int) == 0) = true := by simpa using h0
            clear h7 h2 h0
            go_wp2_with fail
            go_round
            case rel => exact ⟨k + 1, by omega, by go_num, by rw [HT.out, HS.out]⟩
            case measure => simp [intOf]; omega
          · have HS : Hid (worstStep (worstE (l.take k)) l[k] = worstE (l.take k)) := by show _ = _; simp [worstStep, h2, h0]
            have h7' : ((l[k] : Int) == 7) = false := by simpa using h7
            have h2' : ((l[k] : Int) == 2) = true := by simpa using h2
            have h0' : ((worstE (l.take k) : Int) == 0) = false := by simpa using h0
            clear h7 h2 h0
            go_wp2_with fail
            go_round
            case rel => exact ⟨k + 1, by omega, by go_num, by rw [HT.out, HS.out]⟩
            case measure => simp [intOf]; omega
        · have HS : Hid (worstStep (worstE (l.take k)) l[k] = worstE (l.take k)) := by show _ = _; simp [worstStep, h2, h7]
          have h7' : ((l[k] : Int) == 7) = false := by simpa using h7
          have h2' : ((l[k] : Int) == 2) = false := by simpa using h2
          clear h7 h2
          go_wp2_with fail
          go_round
          case rel => exact ⟨k + 1, by omega, by go_num, by rw [HT.out, HS.out]⟩
          case measure => simp [intOf]; omega
    · have HV : Hid (worstE (l.take k) = worstE l) := by show _ = _; rw [List.take_of_length_le (by omega)]
      go_wp2_with fail
      go_ret
      exact ⟨ret_int HV.out, rfl⟩
end Td
end Go.Proofs.Ytojpiliamecgkaa
