import Derived.Test.YtojpiliamecgkaaReach
namespace Go.Proofs.Ytojpiliamecgkaa
open Go.RowKit
namespace Td
set_option linter.unusedSimpArgs false
set_option linter.unusedVariables false
set_option maxRecDepth 100000 in
set_option maxHeartbeats 2000000 in
theorem reach_c (b : Bch) (A : Option Addr) (c : Nat) (s : Shp) (x : Box) (lift : Int) (w : World) (hok : BoxOk x) (l0 : -10000 ≤ lift) (l1 : lift ≤ 10000) :
    Calls Try.prog 55 #[.agg (vwV b A c s x lift)] w fun e w' => e = .returned (.agg #[.int .i64 (rlo x lift), .int .i64 (rhi x lift)]) ∧ Below w.heap.size w w' := by
  have hge : w.heap.size ≤ w.heap.size + 1 := by omega
  go_enter Try.func55, Try.ntmps55
  go_wp2_with fail
  refine (corners_c x _).mono ?_
  rintro e w1 ⟨rfl, hw1⟩
  have hB1 : Below w.heap.size w w1 := by
    rw [← hw1]
    exact (((Below.refl _ _).alloc (Nat.le_refl _) _).alloc (by simp) _).alloc (by simp; omega) _
  have bV := ((Blk.new w 101 (vwV b A c s x lift)).alloc (.cells #[.int .i64 0, .int .i64 0] 23)).alloc (.cells (boxV x) 99)
  have bR := (Blk.new1 w (.cells (vwV b A c s x lift) 101) 23 #[.int .i64 0, .int .i64 0]).alloc (.cells (boxV x) 99)
  have bX := Blk.new2 w (.cells (vwV b A c s x lift) 101) (.cells #[.int .i64 0, .int .i64 0] 23) 99 (boxV x)
  have hz : ((w.alloc (.cells (vwV b A c s x lift) 101)).alloc (.cells #[.int .i64 0, .int .i64 0] 23)).heap.size = w.heap.size + 1 + 1 := by simp
  rw [hw1] at bV bR bX
  rw [hz]
  have BR := Lib.hid bR
  clear hw1 bR hz
  go_wp2_with fail
  refine (bounds_c b A c s x x lift _ _ _ bX bV hok l0 l1).mono ?_
  rintro e w2 ⟨rfl, hb2⟩
  have BR2 := Lib.hid (BR.out.keep hb2)
  have hB2 := bjoin hb2 hB1 hB1.size
  go_wp2_with (refine wpList_store_row rfl 23 _ _ rfl (w.heap.size + 1) _ rfl rfl 23 _ BR2.out (by kernel_rfl) rfl (by simp [Value.oneCell']) ?_)
  (refine bodyPost_ret (v := .agg _) ?_ rfl ⟨rfl, ?_⟩; exact (results_cell_row Try.results55 _ _ (w.heap.size + 1) 23 _ (0, 0) _ rfl (BR2.out.row _) Try.underlying23 rfl (by kernel_rfl)))
  exact below_setRow hB2 hge _
set_option maxRecDepth 100000 in
set_option maxHeartbeats 2000000 in
theorem surely_c (b : Bch) (A : Option Addr) (c : Nat) (s : Shp) (x : Box) (lift : Int) (w : World) (hok : BoxOk x) (l0 : -10000 ≤ lift) (l1 : lift ≤ 10000) :
    Calls Try.prog 64 #[.agg (vwV b A c s x lift)] w fun e w' => e = .returned (.bool (sur b.mlo b.mhi x lift)) ∧ Below w.heap.size w w' := by
  have HB := Lib.hid (Blk.new w 101 (vwV b A c s x lift))
  have hs0 := (Since.refl w).alloc (.cells (vwV b A c s x lift) 101)
  have HV : Hid (sur b.mlo b.mhi x lift = (decide (b.mlo ≤ rlo x lift) && decide (rhi x lift ≤ b.mhi))) := by rfl
  by_cases h1 : b.mlo ≤ rlo x lift <;> by_cases h2 : rhi x lift ≤ b.mhi
  all_goals
    have HW := Lib.hid HV.out
    have hv2 := HV.out
    simp only [h1, h2, decide_true, decide_false, Bool.and_true, Bool.and_false] at hv2
    have HV2 := Lib.hid hv2
    clear hv2 HW
    go_enter Try.func64, Try.ntmps64
    go_wp2_with (refine wpList_load_row rfl 101 _ rfl (w.heap.size) rfl 101 (vwV b A c s x lift) (0, 0) _ HB.out Try.underlying101 rfl (by kernel_rfl) ?_)
    refine (reach_c b A c s x lift _ hok l0 l1).mono ?_
    rintro e w1 ⟨rfl, hb1⟩
    have HB1 := Lib.hid (HB.out.keep hb1)
    have hl := HB1.out.lt
    have c2 := HB1.out.cell 2
    have c3 := HB1.out.cell 3
    have hs1 := hs0.keep hb1
    simp only [List.getElem?_toArray, List.getElem?_cons_zero, List.getElem?_cons_succ] at c2 c3
    go_wp2_with fail
    go_ret
    first
      | exact ⟨ret_bool HV2.out.symm, (hs1.alloc _).1⟩
      | exact ⟨ret_bool (by rw [HV2.out]; exact decide_eq_false (by omega)), (hs1.alloc _).1⟩
abbrev view0 : Array Value := #[.int .i64 0, .int .i64 0, .int .i64 0, .int .i64 0, .int .i64 0, .slice none 0 0, .int .i64 0, .int .i64 0, .int .i64 0, .int .i64 0, .int .i64 0, .int .i64 0, .int .i64 0, .int .i64 0, .int .i64 0, .int .i64 0, .int .i64 0, .int .i64 0]
theorem tAt_get {b : Bch} {i : Nat} (h : i < b.ts.length) : b.ts[i] = tAt b i := (tAt_eq h).symm
set_option maxRecDepth 100000 in
set_option maxHeartbeats 4000000 in
theorem on_c (b : Bch) (A : Option Addr) (c : Nat) (s : Shp) (i : Nat) (bal : Int) (w : World) (hp : TsAt w A b.ts) (hi : i < b.ts.length) (hl : b.ts.length ≤ 1000) (k0 : 0 ≤ s.sink) (k1 : s.sink ≤ 50) (n0 : 0 ≤ bal) (n1 : bal ≤ 100) :
    Calls Try.prog 54 #[.agg (shV b A c s), .agg #[.int .i64 i, .int .i64 bal]] w fun e w' => e = .returned (.agg (vwV b A c s (bx b s i) (-s.sink * bal))) ∧ Below w.heap.size w w' := by
  obtain ⟨ad, hA, hat⟩ := hp.get hi
  rw [tAt_get hi] at hat
  subst hA
  have hm1 : 0 ≤ s.sink * bal := Int.mul_nonneg k0 n0
  have hm2 : s.sink * bal ≤ 50 * 100 := Int.mul_le_mul k1 n1 n0 (by omega)
  have hm3 : -s.sink * bal = -(s.sink * bal) := Int.neg_mul _ _
  have HM3 := Lib.hid hm3
  have hm4 : -5000 ≤ -s.sink * bal ∧ -s.sink * bal ≤ 0 := by omega
  obtain ⟨m5, m6⟩ := hm4
  have hb3 : Below w.heap.size w (((w.alloc (.cells (shV b (some ad) c s) 95)).alloc (.cells #[.int .i64 i, .int .i64 bal] 49)).alloc (.cells view0 101)) := (((Below.refl _ _).alloc (Nat.le_refl _) _).alloc (by simp) _).alloc (by simp; omega) _
  obtain ⟨c0, c1, c2, c3, c4⟩ := hat.keep hb3
  have HS := Lib.hid (((Blk.new w 95 (shV b (some ad) c s)).alloc (.cells #[.int .i64 i, .int .i64 bal] 49)).alloc (.cells view0 101))
  have HR := Lib.hid (Blk.new2 w (.cells (shV b (some ad) c s) 95) (.cells #[.int .i64 i, .int .i64 bal] 49) 101 view0)
  have hge : w.heap.size ≤ w.heap.size + 1 + 1 := by omega
  have hb4 := hb3.alloc (by simp; omega) (.cells (tV (tAt b i)) 67)
  have HS4 := Lib.hid (HS.out.alloc (.cells (tV (tAt b i)) 67))
  have HR4 := Lib.hid (HR.out.alloc (.cells (tV (tAt b i)) 67))
  clear hm1 hm2 hm3 HS HR
  go_enter Try.func54, Try.ntmps54
  go_wp2_with (first | (refine wpList_load_row rfl 95 _ rfl (w.heap.size) rfl 95 (shV b (some ad) c s) (0, 0) _ HS4.out Try.underlying95 rfl (by kernel_rfl) ?_) | (refine wpList_store_row rfl 101 _ _ rfl (w.heap.size + 1 + 1) _ rfl rfl 101 _ HR4.out (by kernel_rfl) rfl (by simp [Value.oneCell']) ?_))
  (refine bodyPost_ret (v := .agg _) ?_ rfl ⟨rfl, ?_⟩; exact (results_cell_row Try.results54 _ _ (w.heap.size + 1 + 1) 101 _ (0, 0) _ rfl (HR4.out.row _) Try.underlying101 rfl (by kernel_rfl)))
  exact below_setRow hb4 hge _
end Td
end Go.Proofs.Ytojpiliamecgkaa
