import Derived.Test.YtccacinnelmnpaaNm
/- Levels: held, between, after, common; where a space starts. -/
namespace Go.Proofs.Ytccacinnelmnpaa
open Go.RowKit
namespace Td
set_option linter.unusedSimpArgs false
set_option linter.unusedVariables false
/-- the cells of some levels. -/
def lV (o : Option (Int × Int)) : Array Value := match o with
  | some x => #[.int .i64 x.1, .int .i64 x.2, .bool true]
  | none => #[.int .i64 0, .int .i64 0, .bool false]
theorem lV_size (o : Option (Int × Int)) : (lV o).size = 3 := by cases o <;> rfl
theorem held_c (n : Int) (w : World) : Calls Try.prog 84 #[.int .i64 n] w fun e w' => e = .returned (.int .i64 (hld n)) ∧ w = w' := by
  rcases (by omega : (n < 0 ∧ min n 200 = n ∧ max 0 n = 0) ∨ (¬ n < 0 ∧ n < 200 ∧ min n 200 = n ∧ max 0 n = n) ∨ (n = 200 ∧ min n 200 = 200 ∧ max 0 (200 : Int) = 200) ∨ (200 < n ∧ ¬ n < 200 ∧ min n 200 = 200 ∧ max 0 (200 : Int) = 200)) with ⟨h1, h2, h3⟩ | ⟨h0, h1, h2, h3⟩ | ⟨rfl, h2, h3⟩ | ⟨h1, h0, h2, h3⟩
  · have HV : Hid (0 = hld n) := by show _ = _; unfold hld; rw [h2, h3]
    clear h2 h3
    have h4 : n < 200 := by omega
    go_enter Try.func84, Try.ntmps84
    go_wp2
    go_ret
    exact ⟨ret_int HV.out, rfl⟩
  · have HV : Hid (n = hld n) := by show _ = _; unfold hld; rw [h2, h3]
    clear h2 h3
    by_cases h5 : 0 < n
    · go_enter Try.func84, Try.ntmps84
      go_wp2
      go_ret
      exact ⟨ret_int HV.out, rfl⟩
    · obtain rfl : n = 0 := by omega
      go_enter Try.func84, Try.ntmps84
      go_wp2
      go_ret
      exact ⟨ret_int HV.out, rfl⟩
  · go_enter Try.func84, Try.ntmps84
    go_wp2
    go_ret
    exact ⟨rfl, rfl⟩
  · have HV : Hid (200 = hld n) := by show _ = _; unfold hld; rw [h2, h3]
    clear h2 h3
    go_enter Try.func84, Try.ntmps84
    go_wp2
    go_ret
    exact ⟨ret_int HV.out, rfl⟩
theorem between_c (lo hi : Int) (w : World) : Calls Try.prog 85 #[.int .i64 lo, .int .i64 hi] w fun e w' => e = .returned (.agg (lV (btw lo hi))) ∧ Below w.heap.size w w' := by
  have HB := Lib.hid (Blk.new w 95 #[.int .i64 0, .int .i64 0, .bool false])
  by_cases h : hi < lo
  · have HV : Hid (lV (btw lo hi) = #[.int .i64 0, .int .i64 0, .bool false]) := by show _ = _; simp [btw, h, lV]
    go_enter Try.func85, Try.ntmps85
    go_wp2_with (refine wpList_store_row rfl 95 _ _ rfl (w.heap.size) _ rfl rfl 95 _ HB.out (by kernel_rfl) rfl (by simp [Value.oneCell']) ?_)
    rw [HV.out]
    (refine bodyPost_ret (v := .agg _) ?_ rfl ⟨rfl, ?_⟩; exact (results_cell_row Try.results85 _ _ (w.heap.size) 95 _ (0, 0) _ rfl (HB.out.row _) Try.underlying95 rfl (by kernel_rfl)))
    exact below_setRow ((Below.refl _ _).alloc (Nat.le_refl _) _) (by omega) _
  · have HV : Hid (lV (btw lo hi) = #[.int .i64 lo, .int .i64 hi, .bool true]) := by show _ = _; simp [btw, h, lV]
    go_enter Try.func85, Try.ntmps85
    go_wp2_with (refine wpList_store_row rfl 95 _ _ rfl (w.heap.size) _ rfl rfl 95 _ HB.out (by kernel_rfl) rfl (by simp [Value.oneCell']) ?_)
    rw [HV.out]
    (refine bodyPost_ret (v := .agg _) ?_ rfl ⟨rfl, ?_⟩; exact (results_cell_row Try.results85 _ _ (w.heap.size) 95 _ (0, 0) _ rfl (HB.out.row _) Try.underlying95 rfl (by kernel_rfl)))
    exact below_setRow ((Below.refl _ _).alloc (Nat.le_refl _) _) (by omega) _
end Td
end Go.Proofs.Ytccacinnelmnpaa
