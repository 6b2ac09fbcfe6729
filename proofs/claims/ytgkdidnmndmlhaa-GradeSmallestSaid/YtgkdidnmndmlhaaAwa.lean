import Derived.Test.YtgkdidnmndmlhaaShw
import Derived.Test.YtgkdidnmndmlhaaExpB
import Derived.Test.YtgkdidnmndmlhaaExpC
import Derived.Test.YtgkdidnmndmlhaaExpD
import Derived.Test.YtgkdidnmndmlhaaExpF
/- The examples of Awake; the heap and the plan of the chapter. -/
namespace Go.Proofs.Ytgkdidnmndmlhaa
open Go.RowKit
namespace Td
set_option linter.unusedSimpArgs false
set_option linter.unusedVariables false
attribute [local go_sem] Oper.semAt_some
theorem x_ways : wayA 10 3 = (120, 0) := by decide +kernel
theorem x_shows : shwL 10 3 3 = [(7, 24), (21, 40), (7, 40), (1, 120)] := by decide +kernel
theorem x_showsE : shwE 10 2 4 3 3 = 0 := by decide +kernel
theorem x_pass : pasA 10 2 4 3 0 2 3 1 = ((47, 210), (11, 15), 0) := by decide +kernel
theorem x_small : smaA 10 2 4 0 (1, 3) = (4, 0) := by decide +kernel
theorem x_price : priA 10 2 4 [900, 600, 300, 0] = ((540, 1), (720, 1), 0) := by decide +kernel
theorem x_left : lefA 10 2 4 3 1 = ((1, 3), 0) := by decide +kernel
theorem x_worst : worA 10 2 4 3 0 2 3 1 = (2, (6, 5), 0) := by decide +kernel
theorem x_plan : chkP 10 2 4 3 0 2 0 0 = 2 := by decide +kernel
set_option maxHeartbeats 1000000 in
theorem Heap_c (w : World) : Calls Try.prog 37 #[] w fun e w' => e = .returned (.agg (gV 10 2 4)) ∧ Below w.heap.size w w' := by
  have HR := Lib.hid (Blk.new w 25 (gV 0 0 0))
  have hs0 := (Since.refl w).alloc (.cells (gV 0 0 0) 25)
  go_enter Try.func37, Try.ntmps37
  go_wp2_with (refine wpList_store_row rfl 25 _ _ rfl (w.heap.size) (gV 10 2 4) rfl (by first | rfl | (simp; done)) 25 _ HR.out (by kernel_rfl) rfl (by simp [Value.oneCell']) ?_)
  (refine bodyPost_ret (v := .agg _) ?_ rfl ⟨rfl, ?_⟩; exact (results_cell_row Try.results37 _ _ (w.heap.size) 25 _ (0, 0) _ rfl (HR.out.row _) Try.underlying25 rfl (by kernel_rfl)))
  exact (hs0.row (by omega) _).1
set_option maxHeartbeats 1000000 in
theorem Two_c (w : World) : Calls Try.prog 59 #[] w fun e w' => e = .returned (.agg (lV 3 0 2 3 1)) ∧ Below w.heap.size w w' := by
  have HR := Lib.hid (Blk.new w 38 (lV 0 0 0 0 0))
  have hs0 := (Since.refl w).alloc (.cells (lV 0 0 0 0 0) 38)
  go_enter Try.func59, Try.ntmps59
  go_wp2_with (refine wpList_store_row rfl 38 _ _ rfl (w.heap.size) (lV 3 0 2 3 1) rfl (by first | rfl | (simp; done)) 38 _ HR.out (by kernel_rfl) rfl (by simp [Value.oneCell']) ?_)
  (refine bodyPost_ret (v := .agg _) ?_ rfl ⟨rfl, ?_⟩; exact (results_cell_row Try.results59 _ _ (w.heap.size) 38 _ (0, 0) _ rfl (HR.out.row _) Try.underlying38 rfl (by kernel_rfl)))
  exact (hs0.row (by omega) _).1
set_option maxHeartbeats 1000000 in
theorem share_c (a b : Int) (w : World) : Calls Try.prog 39 #[.int .i64 a, .int .i64 b] w fun e w' => e = .returned (.agg (fV (a, b))) ∧ Below w.heap.size w w' := by
  have HR := Lib.hid (Blk.new w 41 (fV (0, 0)))
  have hs0 := (Since.refl w).alloc (.cells (fV (0, 0)) 41)
  go_enter Try.func39, Try.ntmps39
  go_wp2_with (refine wpList_store_row rfl 41 _ _ rfl (w.heap.size) (fV (a, b)) rfl (by first | rfl | (simp; done)) 41 _ HR.out (by kernel_rfl) rfl (by simp [Value.oneCell']) ?_)
  (refine bodyPost_ret (v := .agg _) ?_ rfl ⟨rfl, ?_⟩; exact (results_cell_row Try.results39 _ _ (w.heap.size) 41 _ (0, 0) _ rfl (HR.out.row _) Try.underlying41 rfl (by kernel_rfl)))
  exact (hs0.row (by omega) _).1
end Td
end Go.Proofs.Ytgkdidnmndmlhaa
