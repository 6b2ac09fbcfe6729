import Derived.Test.YtojpiliamecgkaaLeaf
namespace Go.Proofs.Ytojpiliamecgkaa
open Go.RowKit
namespace Td
set_option linter.unusedSimpArgs false
set_option linter.unusedVariables false
/-- the cells of a view in the block g. -/
theorem Blk.view {w : World} {g : Nat} {t : TypeId} {b : Bch} {A : Option Addr} {c : Nat} {s : Shp} {x : Box} {lift : Int} (h : Blk w g t (vwV b A c s x lift)) :
    (w.cell? ⟨g, 0, none⟩ = some (.int .i64 b.slo) ∧ w.cell? ⟨g, 1, none⟩ = some (.int .i64 b.shi) ∧ w.cell? ⟨g, 2, none⟩ = some (.int .i64 b.mlo) ∧ w.cell? ⟨g, 3, none⟩ = some (.int .i64 b.mhi) ∧ w.cell? ⟨g, 4, none⟩ = some (.int .i64 b.bite) ∧ w.cell? ⟨g, 5, none⟩ = some (.slice A b.ts.length c)) ∧
    (w.cell? ⟨g, 6, none⟩ = some (.int .i64 s.dlo) ∧ w.cell? ⟨g, 7, none⟩ = some (.int .i64 s.dhi) ∧ w.cell? ⟨g, 8, none⟩ = some (.int .i64 s.sink)) ∧
    (w.cell? ⟨g, 9, none⟩ = some (.int .i64 x.slo) ∧ w.cell? ⟨g, 10, none⟩ = some (.int .i64 x.shi) ∧ w.cell? ⟨g, 11, none⟩ = some (.int .i64 x.dlo) ∧ w.cell? ⟨g, 12, none⟩ = some (.int .i64 x.dhi) ∧ w.cell? ⟨g, 13, none⟩ = some (.int .i64 x.hlo) ∧ w.cell? ⟨g, 14, none⟩ = some (.int .i64 x.hhi) ∧ w.cell? ⟨g, 15, none⟩ = some (.int .i64 x.wlo) ∧ w.cell? ⟨g, 16, none⟩ = some (.int .i64 x.whi)) ∧
    w.cell? ⟨g, 17, none⟩ = some (.int .i64 lift) :=
  ⟨⟨h.cell 0, h.cell 1, h.cell 2, h.cell 3, h.cell 4, h.cell 5⟩, ⟨h.cell 6, h.cell 7, h.cell 8⟩, ⟨h.cell 9, h.cell 10, h.cell 11, h.cell 12, h.cell 13, h.cell 14, h.cell 15, h.cell 16⟩, h.cell 17⟩
theorem reach1_c (b : Bch) (A : Option Addr) (c : Nat) (s : Shp) (x : Box) (lift sl dr he wn : Int) (g : Nat) (w : World) (hg : Blk w g 101 (vwV b A c s x lift)) (ht : TrOk sl dr he wn) (l0 : -10000 ≤ lift) (l1 : lift ≤ 10000) :
    Calls Try.prog 79 #[.agg (trV sl dr he wn), .pointer (some ⟨g, 0, none⟩)] w fun e w' => e = .returned (.int .i64 (pl sl dr he wn lift)) ∧ Below w.heap.size w w' := by
  have HG := Lib.hid (hg.alloc (.cells (trV sl dr he wn) 45))
  clear hg
  go_enter Try.func79, Try.ntmps79
  go_wp2_with (refine wpList_load_row rfl 101 _ rfl g rfl 101 (vwV b A c s x lift) (0, 0) _ HG.out Try.underlying101 rfl (by kernel_rfl) ?_)
  refine (place_c b A c s x lift sl dr he wn _ ht l0 l1).mono ?_
  rintro e w' ⟨rfl, hb⟩
  go_wp2_with fail
  go_ret
  exact ⟨rfl, bjoin hb ((Below.refl _ _).alloc (Nat.le_refl _) _) (by simp)⟩
theorem one_c (n : Int) (w : World) : Calls Try.prog 67 #[.int .i64 n] w fun e w' => e = .returned (.agg #[.int .i64 n, .int .i64 n]) ∧ Below w.heap.size w w' := by
  go_enter Try.func67, Try.ntmps67
  go_wp2
  exact bodyPost_ret (v := .agg #[.int .i64 n, .int .i64 n]) (by simp [results, Try.results67, go_sem]) rfl ⟨rfl, (Below.refl _ _).alloc (Nat.le_refl _) _⟩
theorem span_c (a n : Int) (w : World) : Calls Try.prog 36 #[.int .i64 a, .int .i64 n] w fun e w' => e = .returned (.agg #[.int .i64 a, .int .i64 n]) ∧ Below w.heap.size w w' := by
  go_enter Try.func36, Try.ntmps36
  go_wp2
  exact bodyPost_ret (v := .agg #[.int .i64 a, .int .i64 n]) (by simp [results, Try.results36, go_sem]) rfl ⟨rfl, (Below.refl _ _).alloc (Nat.le_refl _) _⟩
def rgE (lo hi n : Int) : Int := if wi lo hi n then 0 else 7
theorem ranged_c (lo hi n : Int) (w : World) : Calls Try.prog 50 #[.int .i64 n, .int .i64 lo, .int .i64 hi] w fun e w' => e = .returned (.int .i64 (rgE lo hi n)) ∧ w = w' := by
  cases h : wi lo hi n
  all_goals
    have H := Lib.hid h
    clear h
    go_enter Try.func50, Try.ntmps50
    go_wp2_with fail
    refine (in_c _ _ _ _).mono ?_
    rintro e w' ⟨rfl, rfl⟩
    rw [H.out]
    go_wp2_with fail
    go_ret
    exact ⟨ret_int (by unfold rgE; rw [H.out]; rfl), rfl⟩
theorem inside_c (n lo hi : Int) (w : World) : Calls Try.prog 40 #[.int .i64 n, .agg #[.int .i64 lo, .int .i64 hi]] w fun e w' => e = .returned (.bool (wi lo hi n)) ∧ Below w.heap.size w w' := by
  by_cases h1 : lo ≤ n <;> by_cases h2 : n ≤ hi
  all_goals
    have hv : wi lo hi n = (decide (lo ≤ n) && decide (n ≤ hi)) := rfl
    simp only [h1, h2, decide_true, decide_false, Bool.and_true, Bool.and_false] at hv
    have HV := Lib.hid hv
    clear hv
    go_enter Try.func40, Try.ntmps40
    go_wp2
    go_ret
    exact ⟨ret_bool HV.out.symm, (Below.refl _ _).alloc (Nat.le_refl _) _⟩
end Td
end Go.Proofs.Ytojpiliamecgkaa
