import Derived.Test.YtgkdidnmndmlhaaAwa
import Derived.Test.YtgkdidnmndmlhaaSam
/- The calls of the examples. -/
namespace Go.Proofs.Ytgkdidnmndmlhaa
open Go.RowKit
namespace Td
set_option linter.unusedSimpArgs false
set_option linter.unusedVariables false
attribute [local go_sem] Oper.semAt_some
theorem InAt.ints {w : World} {g : Nat} {ty : TypeId} (l : List Int) (h : Blk w g ty (l.map (Value.int .i64)).toArray) : InAt w (some ⟨g, 0, none⟩) l := fun _ => ⟨_, rfl, fun i q hq => by
  rw [add_new, h.cell i, List.getElem?_toArray, List.getElem?_map, hq]
  rfl⟩
theorem FrB.of {w : World} {g : Nat} {t : TypeId} {l : List (Nat × Nat)} (h : Blk w g t (flS l).toArray) : FrB w g l := fun i s hs => by
  obtain ⟨e1, e2⟩ := flS_get l i s hs
  rw [h.cell, h.cell, List.getElem?_toArray, List.getElem?_toArray]
  exact ⟨e1, e2⟩
theorem FrO.of {w : World} {g : Nat} {t : TypeId} {l : List (Nat × Nat)} (h : Blk w g t (flS l).toArray) : FrO w (some ⟨g, 0, none⟩) l := fun _ => ⟨g, rfl, FrB.of h⟩
theorem y_way : wayA 5 6 = (0, 7) := by decide +kernel
theorem y_pass : pasA 10 2 4 3 0 1 0 0 = ((1, 6), (7, 15), 0) := by decide +kernel
theorem y_small : smaA 10 2 4 0 (33, 100) = (5, 0) := by decide +kernel
theorem y_small2 : smaA 10 2 4 0 (0, 1) = (9, 0) := by decide +kernel
theorem y_left : lefA 10 2 4 3 0 = ((2, 4), 0) := by decide +kernel
theorem y_left2 : lefA 10 2 4 8 0 = ((2, 2), 0) := by decide +kernel
theorem y_worst : worA 10 2 4 3 0 1 0 0 = (2, (14, 15), 0) := by decide +kernel
set_option maxHeartbeats 1000000 in
theorem One_c (w : World) : Calls Try.prog 38 #[] w fun e w' => e = .returned (.agg (lV 3 0 1 0 0)) ∧ Below w.heap.size w w' := by
  have HR := Lib.hid (Blk.new w 38 (lV 0 0 0 0 0))
  have hs0 := (Since.refl w).alloc (.cells (lV 0 0 0 0 0) 38)
  go_enter Try.func38, Try.ntmps38
  go_wp2_with (refine wpList_store_row rfl 38 _ _ rfl (w.heap.size) (lV 3 0 1 0 0) rfl (by first | rfl | (simp; done)) 38 _ HR.out (by kernel_rfl) rfl (by simp [Value.oneCell']) ?_)
  (refine bodyPost_ret (v := .agg _) ?_ rfl ⟨rfl, ?_⟩; exact (results_cell_row Try.results38 _ _ (w.heap.size) 38 _ (0, 0) _ rfl (HR.out.row _) Try.underlying38 rfl (by kernel_rfl)))
  exact (hs0.row (by omega) _).1
theorem c_way (w : World) : Calls Try.prog 19 #[.int .i64 10, .int .i64 3] w fun e w' => e = .returned (.tuple #[.int .i64 120, .int .i64 0]) ∧ Below w.heap.size w w' := by
  have := Ways_c 10 3 w
  rw [x_ways] at this
  exact this
theorem c_pass (w : World) : Calls Try.prog 27 #[.agg (gV 10 2 4), .agg (lV 3 0 2 3 1)] w fun e w' => e = .returned (.tuple #[.agg (fV (47, 210)), .agg (fV (11, 15)), .int .i64 0]) ∧ Below w.heap.size w w' := by
  have := Passes_c 10 2 4 3 0 2 3 1 w
  rw [x_pass] at this
  exact this
theorem c_small (w : World) : Calls Try.prog 31 #[.agg (gV 10 2 4), .int .i64 0, .agg (fV (1, 3))] w fun e w' => e = .returned (.tuple #[.int .i64 4, .int .i64 0]) ∧ Below w.heap.size w w' := by
  have := Smallest_c 10 2 4 0 (1, 3) w
  rw [x_small] at this
  exact this
theorem c_left (w : World) : Calls Try.prog 33 #[.agg (gV 10 2 4), .int .i64 3, .int .i64 1] w fun e w' => e = .returned (.tuple #[.agg (fV (1, 3)), .int .i64 0]) ∧ Below w.heap.size w w' := by
  have := Left_c 10 2 4 3 1 w
  rw [x_left] at this
  exact this
theorem c_worst (w : World) : Calls Try.prog 29 #[.agg (gV 10 2 4), .agg (lV 3 0 2 3 1)] w fun e w' => e = .returned (.tuple #[.int .i64 2, .agg (fV (6, 5)), .int .i64 0]) ∧ Below w.heap.size w w' := by
  have := Worst_c 10 2 4 3 0 2 3 1 w
  rw [x_worst] at this
  exact this
theorem c_plan (w : World) : Calls Try.prog 25 #[.agg (gV 10 2 4), .agg (lV 3 0 2 0 0)] w fun e w' => e = .returned (.int .i64 2) ∧ Below w.heap.size w w' := by
  have := CheckPlan_c 10 2 4 3 0 2 0 0 w
  rw [x_plan] at this
  exact this
theorem k_way (w : World) : Calls Try.prog 19 #[.int .i64 5, .int .i64 6] w fun e w' => e = .returned (.tuple #[.int .i64 0, .int .i64 7]) ∧ Below w.heap.size w w' := by
  have := Ways_c 5 6 w
  rw [y_way] at this
  exact this
theorem k_pass (w : World) : Calls Try.prog 27 #[.agg (gV 10 2 4), .agg (lV 3 0 1 0 0)] w fun e w' => e = .returned (.tuple #[.agg (fV (1, 6)), .agg (fV (7, 15)), .int .i64 0]) ∧ Below w.heap.size w w' := by
  have := Passes_c 10 2 4 3 0 1 0 0 w
  rw [y_pass] at this
  exact this
theorem k_small (w : World) : Calls Try.prog 31 #[.agg (gV 10 2 4), .int .i64 0, .agg (fV (33, 100))] w fun e w' => e = .returned (.tuple #[.int .i64 5, .int .i64 0]) ∧ Below w.heap.size w w' := by
  have := Smallest_c 10 2 4 0 (33, 100) w
  rw [y_small] at this
  exact this
theorem k_small2 (w : World) : Calls Try.prog 31 #[.agg (gV 10 2 4), .int .i64 0, .agg (fV (0, 1))] w fun e w' => e = .returned (.tuple #[.int .i64 9, .int .i64 0]) ∧ Below w.heap.size w w' := by
  have := Smallest_c 10 2 4 0 (0, 1) w
  rw [y_small2] at this
  exact this
theorem k_left (w : World) : Calls Try.prog 33 #[.agg (gV 10 2 4), .int .i64 3, .int .i64 0] w fun e w' => e = .returned (.tuple #[.agg (fV (2, 4)), .int .i64 0]) ∧ Below w.heap.size w w' := by
  have := Left_c 10 2 4 3 0 w
  rw [y_left] at this
  exact this
theorem k_left2 (w : World) : Calls Try.prog 33 #[.agg (gV 10 2 4), .int .i64 8, .int .i64 0] w fun e w' => e = .returned (.tuple #[.agg (fV (2, 2)), .int .i64 0]) ∧ Below w.heap.size w w' := by
  have := Left_c 10 2 4 8 0 w
  rw [y_left2] at this
  exact this
theorem k_worst (w : World) : Calls Try.prog 29 #[.agg (gV 10 2 4), .agg (lV 3 0 1 0 0)] w fun e w' => e = .returned (.tuple #[.int .i64 2, .agg (fV (14, 15)), .int .i64 0]) ∧ Below w.heap.size w w' := by
  have := Worst_c 10 2 4 3 0 1 0 0 w
  rw [y_worst] at this
  exact this
theorem c_price (g : Nat) (ty : TypeId) (w : World) (h : Blk w g ty #[.int .i64 900, .int .i64 600, .int .i64 300, .int .i64 0]) : Calls Try.prog 35 #[.agg (gV 10 2 4), .slice (some ⟨g, 0, none⟩) 4 4] w fun e w' => e = .returned (.tuple #[.agg (fV (540, 1)), .agg (fV (720, 1)), .int .i64 0]) ∧ Below w.heap.size w w' := by
  have := Price_c 10 2 4 (some ⟨g, 0, none⟩) [900, 600, 300, 0] 4 w (InAt.ints [900, 600, 300, 0] h)
  rw [x_price] at this
  exact this
def exL : List (Nat × Nat) := [(7, 24), (21, 40), (7, 40), (1, 120)]
theorem c_shows (w : World) : Calls Try.prog 21 #[.agg (gV 10 2 4), .int .i64 3, .int .i64 3] w fun e w' => (∃ g, e = .returned (.tuple #[.slice (some ⟨g, 0, none⟩) 4 4, .int .i64 0]) ∧ FrO w' (some ⟨g, 0, none⟩) exL) ∧ Below w.heap.size w w' := by
  refine (Shows_c 10 2 4 3 3 w).mono ?_
  rintro e w' ⟨hb, ⟨-, g, he, -, hB⟩ | ⟨h, -⟩⟩
  · rw [show (3 : Int).toNat = 3 from rfl] at he
    refine ⟨⟨g, he, ?_⟩, hb⟩
    rw [show (10 : Int).toNat = 10 from rfl, show (3 : Int).toNat = 3 from rfl, x_shows] at hB
    exact FrO.of hB
  · exact absurd x_showsE h
theorem c_same (A B : Option Addr) (w : World) (ha : FrO w A exL) (hb : FrO w B exL) : Calls Try.prog 23 #[.slice A 4 4, .slice B 4 4] w fun e w' => e = .returned (.bool true) ∧ Below w.heap.size w w' := by
  have := Same_c A B exL exL 4 4 w ha hb (by decide)
  rw [show decide (exL = exL) = true from decide_eq_true rfl] at this
  exact this
theorem FrO.lit {w : World} {g : Nat} {ty : TypeId} (h : Blk w g ty #[.int .i64 7, .int .i64 24, .int .i64 21, .int .i64 40, .int .i64 7, .int .i64 40, .int .i64 1, .int .i64 120]) : FrO w (some ⟨g, 0, none⟩) exL := FrO.of (l := exL) h
theorem eqSh (a b : Int) (w : World) : (Op.equalIn 10000 41 (.agg #[.int .i64 a, .int .i64 b]) (.agg #[.int .i64 a, .int .i64 b])).run Try.prog w = .ok true w := by go_simp
theorem eqSp (a b : Int) (w : World) : (Op.equalIn 10000 23 (.agg #[.int .i64 a, .int .i64 b]) (.agg #[.int .i64 a, .int .i64 b])).run Try.prog w = .ok true w := by go_simp
def ShP (v : Value) (X : World) : Prop := ∃ g, v = .slice (some ⟨g, 0, none⟩) 4 4 ∧ FrO X (some ⟨g, 0, none⟩) exL
theorem ShP.stable : Vals5.Stable (.has ShP) := fun v w w' h hb => by
  obtain ⟨g, e, k⟩ := h
  exact ⟨g, e, k.keep hb⟩
end Td
end Go.Proofs.Ytgkdidnmndmlhaa
