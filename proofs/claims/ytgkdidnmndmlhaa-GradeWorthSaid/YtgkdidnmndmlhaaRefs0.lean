import Derived.Test.YtgkdidnmndmlhaaLeaf
/- The reference: numbers and spans within a span. -/
namespace Go.Proofs.Ytgkdidnmndmlhaa
open Go.RowKit
namespace Td
set_option linter.unusedSimpArgs false
set_option linter.unusedVariables false
attribute [local go_sem] Oper.semAt_some
theorem rin_c (lo hi n : Int) (w : World) : Calls Try.prog 49 #[.int .i64 n, .int .i64 lo, .int .i64 hi] w fun e w' => e = .returned (.bool (wi lo hi n)) ∧ w = w' := by
  by_cases h1 : lo ≤ n <;> by_cases h2 : n ≤ hi
  all_goals
    have hv : wi lo hi n = (decide (lo ≤ n) && decide (n ≤ hi)) := rfl
    simp only [h1, h2, decide_true, decide_false, Bool.and_true, Bool.and_false] at hv
    have HV := Lib.hid hv
    clear hv
    go_enter Try.func49, Try.ntmps49
    go_wp2
    go_ret
    exact ⟨ret_bool HV.out.symm, rfl⟩
theorem rwithin_c (lo hi n : Int) (w : World) : Calls Try.prog 93 #[.int .i64 n, .int .i64 lo, .int .i64 hi] w fun e w' => e = .returned (.bool (wi lo hi n)) ∧ w = w' := by
  by_cases h1 : lo ≤ n <;> by_cases h2 : n ≤ hi
  all_goals
    have hv : wi lo hi n = (decide (lo ≤ n) && decide (n ≤ hi)) := rfl
    simp only [h1, h2, decide_true, decide_false, Bool.and_true, Bool.and_false] at hv
    have HV := Lib.hid hv
    clear hv
    go_enter Try.func93, Try.ntmps93
    go_wp2
    go_ret
    exact ⟨ret_bool HV.out.symm, rfl⟩
/-- the error of spans. -/
def spr (lo hi : Int) (l : List (Int × Int)) : Int := if sw lo hi l then (if tn l then 2 else 0) else 7
theorem sw_next {lo hi : Int} {l : List (Int × Int)} {k : Nat} (hk : k < l.length) : sw lo hi (l.take (k + 1)) = (sw lo hi (l.take k) && (wi lo hi l[k].1 && wi lo hi l[k].2)) := by
  unfold sw
  rw [List.take_succ_eq_append_getElem hk, List.all_append]
  simp
theorem tn_next {l : List (Int × Int)} {k : Nat} (hk : k < l.length) : tn (l.take (k + 1)) = (tn (l.take k) || decide (l[k].2 < l[k].1)) := by
  unfold tn
  rw [List.take_succ_eq_append_getElem hk, List.any_append]
  simp
set_option maxRecDepth 100000 in
set_option maxHeartbeats 4000000 in
theorem spread_c (A : Option Addr) (l : List (Int × Int)) (c : Nat) (lo hi : Int) (w : World) (hl : l.length ≤ 1000) (hp : SpAt w A l) :
    Calls Try.prog 81 #[.slice A l.length c, .int .i64 lo, .int .i64 hi] w fun e w' => e = .returned (.int .i64 (spr lo hi l)) ∧ Below w.heap.size w w' := by
  go_enter Try.func81, Try.ntmps81
  go_wp2_with fail
  go_loopw [7, 8] (fun b i wr => ∃ (k : Nat) (bv : Bool), k ≤ l.length ∧ i = .int .i64 k ∧ b = .bool bv ∧ Since w wr ∧ Hid (bv = tn (l.take k)) ∧ Hid (sw lo hi (l.take k) = true)) (fun _ i _ => l.length - (intOf i).toNat)
  case atStart => exact ⟨0, false, Nat.zero_le _, rfl, rfl, Since.refl _, rfl, rfl⟩
  case round =>
    obtain ⟨k, bv, hk, rfl, rfl, hsn, HT, HS⟩ := hrel
    by_cases hlt : k < l.length
    · obtain ⟨ad, hA, c0, c1⟩ := hp.get hlt
      subst hA
      have k0 := keep_cell hsn.1 c0
      have k1 := keep_cell hsn.1 c1
      have HTN := Lib.hid (tn_next hlt)
      have HSN := Lib.hid (sw_next (lo := lo) (hi := hi) hlt)
      clear c0 c1
      have HNo : Hid ((wi lo hi l[k].1 && wi lo hi l[k].2) = false → spr lo hi l = 7) := fun h => by
        unfold spr
        rw [if_neg (by rw [sw_at hlt h]; decide)]
      go_wp2_with fail
      refine (rwithin_c lo hi l[k].1 _).mono ?_
      rintro e w' ⟨rfl, rfl⟩
      rcases Bool.eq_false_or_eq_true (wi lo hi l[k].1) with h1 | h1
      · have H1 := Lib.hid h1
        rw [h1]
        clear h1
        go_wp2_with fail
        refine (rwithin_c lo hi l[k].2 _).mono ?_
        rintro e w' ⟨rfl, rfl⟩
        rcases Bool.eq_false_or_eq_true (wi lo hi l[k].2) with h2 | h2
        · have H2 := Lib.hid h2
          rw [h2]
          clear h2
          have HSk : Hid (sw lo hi (l.take (k + 1)) = true) := by show _ = _; rw [HSN.out, HS.out, H1.out, H2.out]; rfl
          cases bv
          · by_cases h3 : l[k].2 < l[k].1
            · have HT2 : Hid (true = tn (l.take (k + 1))) := by show _ = _; rw [HTN.out, ← HT.out]; simp [h3]
              go_wp2_with fail
              go_quiet (fail)
              go_wp2_with fail
              go_roundw
              case rel => exact ⟨k + 1, true, by omega, by go_num, rfl, ⟨bdrew hsn.1 _, hsn.2⟩, HT2, HSk⟩
              case measure => simp [intOf]; omega
            · have HT2 : Hid (false = tn (l.take (k + 1))) := by show _ = _; rw [HTN.out, ← HT.out]; simp [h3]
              have h3' : decide (l[k].2 < l[k].1) = false := decide_eq_false h3
              go_wp2_with fail
              go_quiet (fail)
              go_wp2_with fail
              go_roundw
              case rel => exact ⟨k + 1, false, by omega, by go_num, rfl, ⟨bdrew hsn.1 _, hsn.2⟩, HT2, HSk⟩
              case measure => simp [intOf]; omega
          · have HT2 : Hid (true = tn (l.take (k + 1))) := by show _ = _; rw [HTN.out, ← HT.out]; rfl
            go_wp2_with fail
            go_quiet (fail)
            go_wp2_with fail
            go_roundw
            case rel => exact ⟨k + 1, true, by omega, by go_num, rfl, ⟨bdrew hsn.1 _, hsn.2⟩, HT2, HSk⟩
            case measure => simp [intOf]; omega
        · rw [h2]
          have HV := Lib.hid (HNo.out (by rw [H1.out, h2]; rfl))
          clear h2
          go_wp2_with fail
          go_ret
          exact ⟨ret_int HV.out.symm, hsn.1⟩
      · rw [h1]
        have HV := Lib.hid (HNo.out (by rw [h1]; rfl))
        clear h1
        go_wp2_with fail
        go_ret
        exact ⟨ret_int HV.out.symm, hsn.1⟩
    · obtain rfl : k = l.length := by omega
      rw [List.take_length] at HT HS
      cases bv
      · have HV : Hid (0 = spr lo hi l) := by show _ = _; unfold spr; rw [if_pos HS.out, ← HT.out]; rfl
        go_wp2_with fail
        go_ret
        exact ⟨ret_int HV.out, hsn.1⟩
      · have HV : Hid (2 = spr lo hi l) := by show _ = _; unfold spr; rw [if_pos HS.out, ← HT.out]; rfl
        go_wp2_with fail
        go_ret
        exact ⟨ret_int HV.out, hsn.1⟩
theorem range_c (p : Int × Int) (lo hi : Int) (w : World) :
    Calls Try.prog 50 #[.agg #[.int .i64 p.1, .int .i64 p.2], .int .i64 lo, .int .i64 hi] w fun e w' => e = .returned (.int .i64 (spr lo hi [p])) ∧ Below w.heap.size w w' := by
  have hs0 := ((Since.refl w).alloc (.cells #[.int .i64 p.1, .int .i64 p.2] 23)).alloc (.cells #[.int .i64 p.1, .int .i64 p.2] 23)
  go_enter Try.func50, Try.ntmps50
  go_wp2_with fail
  refine (spread_c _ [p] _ lo hi _ (by simp) (SpAt.one (Blk.new1 _ _ _ _))).mono ?_
  rintro e w' ⟨rfl, hb⟩
  go_wp2_with fail
  go_ret
  exact ⟨rfl, (hs0.keep hb).1⟩
end Td
end Go.Proofs.Ytgkdidnmndmlhaa
