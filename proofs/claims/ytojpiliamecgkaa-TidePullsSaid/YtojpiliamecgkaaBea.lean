import Derived.Test.YtojpiliamecgkaaInts
namespace Go.Proofs.Ytojpiliamecgkaa
open Go.RowKit
namespace Td
set_option linter.unusedSimpArgs false
set_option linter.unusedVariables false
/-- the beach and the ship of the examples. -/
def exB : Bch := ⟨20, 25, 6000, 12000, 50, [⟨3, 500, 520, -10, 20⟩, ⟨17, 560, 590, -10, 20⟩]⟩
def exS : Shp := ⟨300, 310, 5⟩
theorem TsAt.two {w : World} {g : Nat} {t : TypeId} {p r : Tid} (h : Blk w g t #[.int .i64 p.day, .int .i64 p.hlo, .int .i64 p.hhi, .int .i64 p.wlo, .int .i64 p.whi, .int .i64 r.day, .int .i64 r.hlo, .int .i64 r.hhi, .int .i64 r.wlo, .int .i64 r.whi]) : TsAt w (some ⟨g, 0, none⟩) [p, r] := fun _ => ⟨_, rfl, fun i q hq => by
  rw [add_new]
  match i, hq with
  | 0, hq =>
    obtain rfl : p = q := by simpa using hq
    exact ⟨h.cell 0, h.cell 1, h.cell 2, h.cell 3, h.cell 4⟩
  | 1, hq =>
    obtain rfl : r = q := by simpa using hq
    exact ⟨h.cell 5, h.cell 6, h.cell 7, h.cell 8, h.cell 9⟩
  | i + 2, hq => simp at hq⟩
/-- what Beach comes to. -/
def BeachIs (w : World) (e : Ending) (w' : World) : Prop := (∃ g, e = .returned (.agg (bV exB (some ⟨g, 0, none⟩) 2)) ∧ TsAt w' (some ⟨g, 0, none⟩) exB.ts) ∧ Below w.heap.size w w'
set_option maxRecDepth 100000 in
set_option maxHeartbeats 4000000 in
theorem beach_c (w : World) : Calls Try.prog 34 #[] w (BeachIs w) := by
  have hs0 := (Since.refl w).alloc (.cells #[.int .i64 0, .int .i64 0, .int .i64 0, .int .i64 0, .int .i64 0, .slice none 0 0] 26)
  have HR0 := Lib.hid (Blk.new w 26 #[.int .i64 0, .int .i64 0, .int .i64 0, .int .i64 0, .int .i64 0, .slice none 0 0])
  go_enter Try.func34, Try.ntmps34
  go_wp2_with fail
  refine (span_c 20 25 _).mono ?_
  rintro e w1 ⟨rfl, hb1⟩
  go_wp2_with fail
  refine (span_c 6000 12000 _).mono ?_
  rintro e w2 ⟨rfl, hb2⟩
  go_wp2_with fail
  refine (span_c 500 520 _).mono ?_
  rintro e w3 ⟨rfl, hb3⟩
  go_wp2_with fail
  refine (span_c (-10) 20 _).mono ?_
  rintro e w4 ⟨rfl, hb4⟩
  go_wp2_with fail
  refine (span_c 560 590 _).mono ?_
  rintro e w5 ⟨rfl, hb5⟩
  go_wp2_with fail
  refine (span_c (-10) 20 _).mono ?_
  rintro e w6 ⟨rfl, hb6⟩
  have hs6 := (((((hs0.keep hb1).keep hb2).keep hb3).keep hb4).keep hb5).keep hb6
  have HR6 := Lib.hid (((((((HR0.out.keep hb1).keep hb2).keep hb3).keep hb4).keep hb5).keep hb6).alloc (.cells #[.int .i64 3, .int .i64 500, .int .i64 520, .int .i64 (-10), .int .i64 20, .int .i64 17, .int .i64 560, .int .i64 590, .int .i64 (-10), .int .i64 20] 67))
  have hs7 := hs6.alloc (.cells #[.int .i64 3, .int .i64 500, .int .i64 520, .int .i64 (-10), .int .i64 20, .int .i64 17, .int .i64 560, .int .i64 590, .int .i64 (-10), .int .i64 20] 67)
  have hz : w.heap.size < w6.heap.size := by
    have := (((((HR0.out.keep hb1).keep hb2).keep hb3).keep hb4).keep hb5).keep hb6
    exact this.lt
  clear hs0 HR0 hb1 hb2 hb3 hb4 hb5 hb6 hs6
  go_wp2_with (refine wpList_store_row rfl 26 _ _ rfl (w.heap.size) _ rfl rfl 26 _ HR6.out (by kernel_rfl) rfl (by simp [Value.oneCell']) ?_)
  refine bodyPost_ret (v := .agg (bV exB (some ⟨w6.heap.size, 0, none⟩) 2)) ?_ rfl ⟨⟨w6.heap.size, rfl, ?_⟩, ?_⟩
  · exact (results_cell_row Try.results34 _ _ (w.heap.size) 26 (bV exB (some ⟨w6.heap.size, 0, none⟩) 2) (0, 0) _ rfl (HR6.out.row _) Try.underlying26 rfl (by kernel_rfl))
  · exact TsAt.two (p := ⟨3, 500, 520, -10, 20⟩) (r := ⟨17, 560, 590, -10, 20⟩) ((Blk.new w6 67 #[.int .i64 3, .int .i64 500, .int .i64 520, .int .i64 (-10), .int .i64 20, .int .i64 17, .int .i64 560, .int .i64 590, .int .i64 (-10), .int .i64 20]).rowFar (g' := w.heap.size) (by omega) _)
  · exact (hs7.row (by omega) _).1
set_option maxHeartbeats 1000000 in
theorem ship_c (w : World) : Calls Try.prog 35 #[] w fun e w' => e = .returned (.agg (sV exS)) ∧ Below w.heap.size w w' := by
  have hs0 := (Since.refl w).alloc (.cells #[.int .i64 0, .int .i64 0, .int .i64 0] 28)
  have HR0 := Lib.hid (Blk.new w 28 #[.int .i64 0, .int .i64 0, .int .i64 0])
  go_enter Try.func35, Try.ntmps35
  go_wp2_with fail
  refine (span_c 300 310 _).mono ?_
  rintro e w1 ⟨rfl, hb1⟩
  have hs1 := hs0.keep hb1
  have HR1 := Lib.hid (HR0.out.keep hb1)
  go_wp2_with (refine wpList_store_row rfl 28 _ _ rfl (w.heap.size) _ rfl rfl 28 _ HR1.out (by kernel_rfl) rfl (by simp [Value.oneCell']) ?_)
  (refine bodyPost_ret (v := .agg _) ?_ rfl ⟨rfl, ?_⟩; exact (results_cell_row Try.results35 _ _ (w.heap.size) 28 _ (0, 0) _ rfl (HR1.out.row _) Try.underlying28 rfl (by kernel_rfl)))
  exact (hs1.row (by omega) _).1
end Td
end Go.Proofs.Ytojpiliamecgkaa
