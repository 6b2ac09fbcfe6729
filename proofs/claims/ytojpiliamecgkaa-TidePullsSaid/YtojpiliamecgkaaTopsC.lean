import Derived.Test.YtojpiliamecgkaaTopsB
namespace Go.Proofs.Ytojpiliamecgkaa
open Go.RowKit
namespace Td
set_option linter.unusedSimpArgs false
set_option linter.unusedVariables false
set_option maxRecDepth 100000 in
set_option maxHeartbeats 4000000 in
theorem first_c (b : Bch) (s : Shp) (A : Option Addr) (c : Nat) (day : Int) (w : World) (hp : TsAt w A b.ts) :
    Calls Try.prog 26 #[.agg (bV b A c), .agg (sV s), .int .i64 day] w fun e w' => e = .returned (firstV b s day) ∧ Below w.heap.size w w' := by
  have hs0 := ((Since.refl w).alloc (.cells (bV b A c) 26)).alloc (.cells (sV s) 28)
  have HB0 := Lib.hid ((Blk.new w 26 (bV b A c)).alloc (.cells (sV s) 28))
  have HS0 := Lib.hid (Blk.new1 w (.cells (bV b A c) 26) 28 (sV s))
  go_enter Try.func26, Try.ntmps26
  go_wp2_with fail
  refine (check_c b s A c _ (hp.keep hs0.1)).mono ?_
  rintro e w1 ⟨rfl, hb1⟩
  have hs1 := hs0.keep hb1
  have HB1 := Lib.hid (HB0.out.keep hb1)
  have HS1 := Lib.hid (HS0.out.keep hb1)
  clear hs0 HB0 HS0
  by_cases hk : (chk b s).2.2 = 0
  · obtain ⟨hB, hS⟩ := chk_ok.1 hk
    rw [hk]
    rcases Bool.eq_false_or_eq_true (wi 0 40000 day) with hd | hd
    · have HV : Hid (firstV b s day = .tuple #[.int .i64 (earl (firstFrom (doesB b s) (frm b.ts day) (b.ts.length - frm b.ts day))).1, .int .i64 (earl (firstFrom (doesB b s) (frm b.ts day) (b.ts.length - frm b.ts day))).2.1, .int .i64 (earl (firstFrom (doesB b s) (frm b.ts day) (b.ts.length - frm b.ts day))).2.2]) := by show _ = _; simp [firstV, hk, hd]
      clear hk
      go_wp2_with fail
      refine (within_c _ _ _ _ _ _ (Blk.new _ _ _)).mono ?_
      rintro e w' ⟨rfl, hb'⟩
      have hs1 := (hs1.alloc _).keep hb'
      have HB1 := Lib.hid ((HB1.out.alloc _).keep hb')
      have HS1 := Lib.hid ((HS1.out.alloc _).keep hb')
      rw [hd]
      clear hd
      go_wp2_with fail
      have hl12 : b.ts.length ≤ 12 := hB.n1
      have hp1 := hp.keep hs1.1
      obtain ⟨c0, c1, c2, c3, c4, c5⟩ := HB1.out.beach
      obtain ⟨d0, d1, d2⟩ := HS1.out.ship
      go_loop [12] (fun i => ∃ k : Nat, k ≤ b.ts.length ∧ i = .int .i64 k ∧ Hid (∀ j (h : j < b.ts.length), j < k → b.ts[j].day < day)) (fun i => b.ts.length - (intOf i).toNat)
      case atStart => exact ⟨0, Nat.zero_le _, rfl, fun j _ h => absurd h (by omega)⟩
      case round =>
        obtain ⟨k, hk, rfl, H0⟩ := hrel
        by_cases hlt : k < b.ts.length
        · obtain ⟨ad, hA, hat⟩ := hp1.get hlt
          subst hA
          obtain ⟨t0, _, _, _, _⟩ := hat
          by_cases hday : b.ts[k].day < day
          · have HD := Lib.hid hday
            go_wp2_with fail
            go_round
            case rel =>
              refine ⟨k + 1, by omega, by go_num, fun j h hj => ?_⟩
              rcases Nat.lt_or_ge j k with h1 | h1
              · exact H0.out j h h1
              · obtain rfl : j = k := by omega
                exact HD.out
            case measure => simp [intOf]; omega
          · have HF : Hid (frm b.ts day = k) := frm_eq hk H0.out (fun _ => hday)
            rw [HF.out] at HV
            clear HF
            go_wp2_with fail
            refine (earliest_c b (some ad) c s k b.ts.length _ hp1 hB hS (by omega) (by omega)).mono ?_
            rintro e w2 ⟨rfl, hb2⟩
            have hs3 := hs1.keep hb2
            go_wp2_with fail
            go_ret3
            exact ⟨by rw [HV.out]; first | done | rfl, hs3.1⟩
        · have HF : Hid (frm b.ts day = k) := frm_eq hk H0.out (fun h => absurd h hlt)
          rw [HF.out] at HV
          clear HF
          go_wp2_with fail
          refine (earliest_c b A c s k b.ts.length _ hp1 hB hS (by omega) (by omega)).mono ?_
          rintro e w2 ⟨rfl, hb2⟩
          have hs3 := hs1.keep hb2
          go_wp2_with fail
          go_ret3
          exact ⟨by rw [HV.out]; first | done | rfl, hs3.1⟩
    · have HV : Hid (firstV b s day = .tuple #[.int .i64 0, .int .i64 0, .int .i64 7]) := by show _ = _; simp [firstV, hk, hd]
      clear hk
      go_wp2_with fail
      refine (within_c _ _ _ _ _ _ (Blk.new _ _ _)).mono ?_
      rintro e w' ⟨rfl, hb'⟩
      have hs1 := (hs1.alloc _).keep hb'
      have HB1 := Lib.hid ((HB1.out.alloc _).keep hb')
      have HS1 := Lib.hid ((HS1.out.alloc _).keep hb')
      rw [hd]
      clear hd
      go_wp2_with fail
      go_ret3
      exact ⟨by rw [HV.out]; first | done | rfl, hs1.1⟩
  · have HV : Hid (firstV b s day = .tuple #[.int .i64 0, .int .i64 0, .int .i64 (chk b s).2.2]) := by show _ = _; simp [firstV, hk]
    have hc' : ((chk b s).2.2 != 0) = true := by simpa using hk
    clear hk
    go_wp2_with fail
    go_ret3
    exact ⟨by rw [HV.out]; first | done | rfl, hs1.1⟩
end Td
end Go.Proofs.Ytojpiliamecgkaa
