import Derived.Test.YtojpiliamecgkaaLeafB
namespace Go.Proofs.Ytojpiliamecgkaa
open Go.RowKit
namespace Td
set_option linter.unusedSimpArgs false
set_option linter.unusedVariables false
theorem PuAt.one {w : World} {g : Nat} {t : TypeId} {p : Pul} (h : Blk w g t #[.int .i64 p.tide, .int .i64 p.bal]) : PuAt w (some ⟨g, 0, none⟩) [p] := fun _ => ⟨_, rfl, fun i q hq => by
  rw [add_new]
  match i, hq with
  | 0, hq =>
    obtain rfl : p = q := by simpa using hq
    exact ⟨h.cell 0, h.cell 1⟩
  | i + 1, hq => simp at hq⟩
theorem near_c (lo hi n by_ : Int) (w : World) (a0 : -100000 ≤ n) (a1 : n ≤ 100000) (b0 : 0 ≤ by_) (b1 : by_ ≤ 100000) : Calls Try.prog 44 #[.agg #[.int .i64 lo, .int .i64 hi], .int .i64 n, .int .i64 by_] w fun e w' => e = .returned (.agg #[.int .i64 (max lo (n - by_)), .int .i64 (min hi (n + by_))]) ∧ Below w.heap.size w w' := by
  rcases (by omega : (lo < n - by_ ∧ max lo (n - by_) = n - by_) ∨ (¬ lo < n - by_ ∧ max lo (n - by_) = lo)) with ⟨h1, hx⟩ | ⟨h1, hx⟩ <;> rcases (by omega : (n + by_ < hi ∧ min hi (n + by_) = n + by_) ∨ (¬ n + by_ < hi ∧ min hi (n + by_) = hi)) with ⟨h2, hn⟩ | ⟨h2, hn⟩
  all_goals
    rw [hx, hn]
    clear hx hn
    go_enter Try.func44, Try.ntmps44
    go_wp2_with fail
    refine (span_c _ _ _).mono ?_
    rintro e w' ⟨rfl, hb⟩
    have HB := Lib.hid ((Blk.new1 w (.cells #[.int .i64 lo, .int .i64 hi] 23) 23 #[.int .i64 0, .int .i64 0]).keep hb)
    go_wp2_with (refine wpList_store_row rfl 23 _ _ rfl (w.heap.size + 1) _ rfl rfl 23 _ HB.out (by kernel_rfl) rfl (by simp [Value.oneCell']) ?_)
    (refine bodyPost_ret (v := .agg _) ?_ rfl ⟨rfl, ?_⟩; exact (results_cell_row Try.results44 _ _ (w.heap.size + 1) 23 _ (0, 0) _ rfl (HB.out.row _) Try.underlying23 rfl (by kernel_rfl)))
    exact below_setRow (bjoin hb (((Below.refl _ _).alloc (Nat.le_refl _) _).alloc (by simp) _) (by simp; omega)) (by omega) _
end Td
end Go.Proofs.Ytojpiliamecgkaa
