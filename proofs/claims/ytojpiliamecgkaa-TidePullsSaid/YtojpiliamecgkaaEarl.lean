import Derived.Test.YtojpiliamecgkaaView
import Derived.Test.YtojpiliamecgkaaPlainB
import Derived.Deep.LoopGhost
namespace Go.Proofs.Ytojpiliamecgkaa
open Go.RowKit
namespace Td
set_option linter.unusedSimpArgs false
set_option linter.unusedVariables false
theorem lift_bd {s : Shp} (hs : ShpOk s) {n : Int} (h0 : 0 ≤ n) (h1 : n ≤ 40) : -10000 ≤ -s.sink * n ∧ -s.sink * n ≤ 10000 := by
  have hm1 : 0 ≤ s.sink * n := Int.mul_nonneg hs.k0 h0
  have hm2 : s.sink * n ≤ 50 * 40 := Int.mul_le_mul hs.k1 h1 h0 (by omega)
  rw [Int.neg_mul]; omega
set_option maxHeartbeats 1000000 in
theorem does_c (b : Bch) (A : Option Addr) (c : Nat) (s : Shp) (i n : Nat) (w : World) (hp : TsAt w A b.ts) (hb : BchOk b) (hs : ShpOk s) (hi : i < b.ts.length) (hn : n ≤ 40) :
    Calls Try.prog 59 #[.agg (shV b A c s), .int .i64 i, .int .i64 n] w fun e w' => e = .returned (.bool (doesB b s i n)) ∧ Below w.heap.size w w' := by
  have HB := Lib.hid (Blk.new w 95 (shV b A c s))
  have hs0 := (Since.refl w).alloc (.cells (shV b A c s) 95)
  have HL := Lib.hid (lift_bd hs (n := n) (by omega) (by omega))
  go_enter Try.func59, Try.ntmps59
  go_wp2_with (refine wpList_load_row rfl 95 _ rfl (w.heap.size) rfl 95 (shV b A c s) (0, 0) _ HB.out Try.underlying95 rfl (by kernel_rfl) ?_)
  refine (on_c b A c s i n _ (hp.keep hs0.1) hi (by have := hb.n1; omega) hs.k0 hs.k1 (by omega) (by omega)).mono ?_
  rintro e w1 ⟨rfl, hb1⟩
  have hs1 := hs0.keep hb1
  go_wp2_with fail
  refine (surely_c b A c s (bx b s i) _ _ (bx_ok hb hs hi) HL.out.1 HL.out.2).mono ?_
  rintro e w2 ⟨rfl, hb2⟩
  have hs2 := hs1.keep hb2
  go_wp2_with fail
  go_ret
  exact ⟨rfl, hs2.1⟩
set_option maxRecDepth 100000 in
set_option maxHeartbeats 4000000 in
theorem earliest_c (b : Bch) (A : Option Addr) (c : Nat) (s : Shp) (f t : Nat) (w : World) (hp : TsAt w A b.ts) (hb : BchOk b) (hs : ShpOk s) (hft : f ≤ t) (ht : t ≤ b.ts.length) :
    Calls Try.prog 61 #[.int .i64 f, .int .i64 t, .func (.func 59) #[.agg (shV b A c s)] #[]] w fun e w' => e = .returned (.tuple #[.int .i64 (earl (firstFrom (doesB b s) f (t - f))).1, .int .i64 (earl (firstFrom (doesB b s) f (t - f))).2.1, .int .i64 (earl (firstFrom (doesB b s) f (t - f))).2.2]) ∧ Below w.heap.size w w' := by
  have ht12 : t ≤ 12 := by have := hb.n1; omega
  go_enter Try.func61, Try.ntmps61
  go_wp2
  go_step3
  go_wp2
  go_step3
  go_wp2
  go_loopg [6, 7, 8, 9] (t - f) (fun g s6 s7 s8 s9 wx => ∃ i : Nat, f ≤ i ∧ i + g = t ∧ s9 = .int .i64 i ∧ s6 = .int .i64 0 ∧ s7 = .int .i64 0 ∧ s8 = .int .i64 9 ∧ Aside (firstFrom (doesB b s) i (t - i) = firstFrom (doesB b s) f (t - f)) ∧ Since w wx)
  case atStart => exact ⟨f, by omega, by omega, rfl, rfl, rfl, rfl, rfl, Since.refl _⟩
  case round =>
    obtain ⟨i, hfi, hig, rfl, rfl, rfl, rfl, HI, hsn⟩ := hrel
    cases gk with
    | zero =>
      have hkz : ¬ ((i : Int) < (t : Int)) := by omega
      have hv : Hid (firstFrom (doesB b s) f (t - f) = none) := by
        show _ = _
        rw [← HI.out, show t - i = 0 by omega]; rfl
      go_wp2
      go_ret3
      exact ⟨by rw [hv.out]; rfl, hsn.1⟩
    | succ g =>
      have hkz : (i : Int) < (t : Int) := by omega
      have hit : i < b.ts.length := by omega
      go_wp2
      go_loopg [6, 7, 8, 10, 17] 41 (fun g2 s6 s7 s8 s10 s17 wy => ∃ n : Nat, n + g2 = 41 ∧ s17 = .int .i64 n ∧ s6 = .int .i64 0 ∧ s7 = .int .i64 0 ∧ s8 = .int .i64 9 ∧ Aside (∀ j, j < n → doesB b s i j = false) ∧ Since w wy)
      case atStart => exact ⟨0, by omega, rfl, rfl, rfl, rfl, fun j h => absurd h (by omega), hsn⟩
      case round =>
        obtain ⟨n, hng, rfl, rfl, rfl, rfl, HN, hsy⟩ := hrel
        cases gk with
        | zero =>
          obtain rfl : n = 41 := by omega
          have hstep : Aside (firstFrom (doesB b s) (i + 1) (t - (i + 1)) = firstFrom (doesB b s) f (t - f)) := by
            show _ = _
            rw [← HI.out, show t - i = (t - (i + 1)) + 1 by omega, firstFrom_step (leastOf_none HN.out)]
          go_wp2
          go_roundg g
          case measure => omega
          case rel => exact ⟨i + 1, by omega, by omega, by first | rfl | go_num, rfl, rfl, rfl, hstep, hsy⟩
        | succ g2 =>
          have hnz : (n : Int) < 41 := by omega
          have hn40 : n ≤ 40 := by omega
          rcases Bool.eq_false_or_eq_true (doesB b s i n) with h | h
          · have hv : Aside (firstFrom (doesB b s) f (t - f) = some (i, n)) := by
              show _ = _
              rw [← HI.out, show t - i = (t - (i + 1)) + 1 by omega, firstFrom_hit (leastOf_some (by omega) HN.out h)]
            have HD : Aside (doesB b s i n = true) := h
            clear h
            go_wp2_with fail
            refine (does_c b A c s i n _ (hp.keep hsy.1) hb hs hit hn40).mono ?_
            rintro e w1 ⟨rfl, hb1⟩
            rw [HD.out]
            have hs1 := hsy.keep hb1
            go_wp2_with fail
            first
              | (go_ret3; exact ⟨by rw [hv.out]; rfl, hs1.1⟩)
              | (rw [Exit.noGoto_ret]; go_ret3; exact ⟨by rw [hv.out]; rfl, hs1.1⟩)
          · have HD : Aside (doesB b s i n = false) := h
            clear h
            go_wp2_with fail
            refine (does_c b A c s i n _ (hp.keep hsy.1) hb hs hit hn40).mono ?_
            rintro e w1 ⟨rfl, hb1⟩
            rw [HD.out]
            have hs1 := hsy.keep hb1
            go_wp2_with fail
            go_roundg g2
            case measure => omega
            case rel =>
              refine ⟨n + 1, by omega, by first | rfl | go_num, rfl, rfl, rfl, fun j hj => ?_, hs1⟩
              rcases Nat.lt_or_ge j n with h1 | h1
              · exact HN.out j h1
              · obtain rfl : j = n := by omega
                exact HD.out
end Td
end Go.Proofs.Ytojpiliamecgkaa
