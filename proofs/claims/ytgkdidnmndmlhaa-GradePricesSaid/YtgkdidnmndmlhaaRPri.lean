import Derived.Test.YtgkdidnmndmlhaaRPrc
import Derived.Test.YtgkdidnmndmlhaaAwk
/- The law GradePrices: what it returns. -/
namespace Go.Proofs.Ytgkdidnmndmlhaa
open Go.RowKit
namespace Td
set_option linter.unusedSimpArgs false
set_option linter.unusedVariables false
attribute [local go_sem] Oper.semAt_some
set_option maxRecDepth 100000 in
set_option maxHeartbeats 4000000 in
theorem gradePrices_c (P lo hi : Int) (A : Option Addr) (xs : List Int) (c : Nat) (w : World) (hp : InAt w A xs) :
    Calls Try.prog 6 #[.agg (gV P lo hi), .slice A xs.length c] w fun e w' => e = .returned (.bool true) ∧ Below w.heap.size w w' := by
  have hs := (Since.refl w).alloc (.cells (gV P lo hi) 25)
  have HG := Lib.hid (Blk.new w 25 (gV P lo hi))
  have HP := Lib.hid hp
  have HPC := Lib.hid (fun W (h : InAt W A xs) => Price_c P lo hi A xs c W h)
  have HRC := Lib.hid (fun W (h : InAt W A xs) => rPrice_c P lo hi A xs c W h)
  obtain ⟨⟨uA, uB, E⟩, hV⟩ : ∃ V, priA P lo hi xs = V := ⟨_, rfl⟩
  rw [hV] at HPC HRC
  obtain ⟨n, hn⟩ : ∃ n, xs.length = n := ⟨_, rfl⟩
  rw [hn] at HPC HRC ⊢
  have HEA := Lib.hid (eqSh uA.1 uA.2)
  have HEB := Lib.hid (eqSh uB.1 uB.2)
  obtain ⟨c0, c1, c2⟩ := HG.out.gcells
  clear hV hn hp
  go_enter Try.func6, Try.ntmps6
  go_wp2_with fail
  refine (HPC.out _ (HP.out.keep hs.1)).mono ?_
  rintro e v1 ⟨rfl, hb⟩
  replace hs := hs.keep hb
  replace HG := Lib.hid (HG.out.keep hb)
  clear hb
  clear c0 c1 c2
  have hz1 := Lib.hid ((Blk.new v1 41 (fV (0, 0))).alloc (.cells (fV (0, 0)) 41))
  have hz2 := Lib.hid ((Blk.new1 v1 (.cells (fV (0, 0)) 41) 41 (fV (0, 0))).rowFar (g' := v1.heap.size) (by omega) (fV uA))
  have hq : Below v1.heap.size v1 ((((v1.alloc (.cells (fV (0, 0)) 41)).alloc (.cells (fV (0, 0)) 41)).setRow v1.heap.size (fV uA)).setRow (v1.heap.size + 1) (fV uB)) := (((((Since.refl v1).alloc (.cells (fV (0, 0)) 41)).alloc (.cells (fV (0, 0)) 41)).row (g := v1.heap.size) (Nat.le_refl _) (fV uA)).row (g := v1.heap.size + 1) (by omega) (fV uB)).1
  have H5 := Lib.hid ((hz1.out.row (fV uA)).rowFar (g' := v1.heap.size + 1) (by omega) (fV uB))
  have H6 := Lib.hid (hz2.out.row (fV uB))
  replace hs := hs.keep hq
  replace HG := Lib.hid (HG.out.keep hq)
  obtain ⟨c0, c1, c2⟩ := HG.out.gcells
  go_wp2_with (first | (refine wpList_store_row rfl 41 _ _ rfl (v1.heap.size) _ rfl rfl 41 _ hz1.out (by kernel_rfl) rfl (by simp [Value.oneCell']) ?_) | (refine wpList_store_row rfl 41 _ _ rfl (v1.heap.size + 1) _ rfl rfl 41 _ hz2.out (by kernel_rfl) rfl (by simp [Value.oneCell']) ?_))
  obtain ⟨kH5, hk⟩ : ∃ k, v1.heap.size = k := ⟨_, rfl⟩
  obtain ⟨v2, hu⟩ : ∃ u, (((v1.alloc (.cells (fV (0, 0)) 41)).alloc (.cells (fV (0, 0)) 41)).setRow v1.heap.size (fV uA)).setRow (v1.heap.size + 1) (fV uB) = u := ⟨_, rfl⟩
  rw [hu] at hs HG H5 H6 ⊢
  rw [hk] at H5 H6 ⊢
  clear hu hk hq hz1 hz2 c0 c1 c2
  refine (HRC.out _ (HP.out.keep hs.1)).mono ?_
  rintro e v3 ⟨rfl, hb⟩
  replace hs := hs.keep hb
  replace HG := Lib.hid (HG.out.keep hb)
  replace H5 := Lib.hid (H5.out.keep hb)
  replace H6 := Lib.hid (H6.out.keep hb)
  clear hb
  have hz1 := Lib.hid ((Blk.new v3 41 (fV (0, 0))).alloc (.cells (fV (0, 0)) 41))
  have hz2 := Lib.hid ((Blk.new1 v3 (.cells (fV (0, 0)) 41) 41 (fV (0, 0))).rowFar (g' := v3.heap.size) (by omega) (fV uA))
  have hq : Below v3.heap.size v3 ((((v3.alloc (.cells (fV (0, 0)) 41)).alloc (.cells (fV (0, 0)) 41)).setRow v3.heap.size (fV uA)).setRow (v3.heap.size + 1) (fV uB)) := (((((Since.refl v3).alloc (.cells (fV (0, 0)) 41)).alloc (.cells (fV (0, 0)) 41)).row (g := v3.heap.size) (Nat.le_refl _) (fV uA)).row (g := v3.heap.size + 1) (by omega) (fV uB)).1
  have H8 := Lib.hid ((hz1.out.row (fV uA)).rowFar (g' := v3.heap.size + 1) (by omega) (fV uB))
  have H9 := Lib.hid (hz2.out.row (fV uB))
  replace hs := hs.keep hq
  replace HG := Lib.hid (HG.out.keep hq)
  replace H5 := Lib.hid (H5.out.keep hq)
  replace H6 := Lib.hid (H6.out.keep hq)
  obtain ⟨a0, a1⟩ := H5.out.fcells
  obtain ⟨b0, b1⟩ := H6.out.fcells
  obtain ⟨d0, d1⟩ := H8.out.fcells
  obtain ⟨f0, f1⟩ := H9.out.fcells
  have hq1 := HEA.out
  have hq2 := HEB.out
  go_wp2_with (first | (refine wpList_store_row rfl 41 _ _ rfl (v3.heap.size) _ rfl rfl 41 _ hz1.out (by kernel_rfl) rfl (by simp [Value.oneCell']) ?_) | (refine wpList_store_row rfl 41 _ _ rfl (v3.heap.size + 1) _ rfl rfl 41 _ hz2.out (by kernel_rfl) rfl (by simp [Value.oneCell']) ?_))
  obtain ⟨v4, hu⟩ : ∃ u, (((v3.alloc (.cells (fV (0, 0)) 41)).alloc (.cells (fV (0, 0)) 41)).setRow v3.heap.size (fV uA)).setRow (v3.heap.size + 1) (fV uB) = u := ⟨_, rfl⟩
  rw [hu] at hs HG H5 H6 H8 H9 ⊢
  clear hu hq hz1 hz2 a0 a1 b0 b1 d0 d1 f0 f1 hq1 hq2
  refine (awake_c _).mono ?_
  rintro e v5 ⟨rfl, hb⟩
  replace hs := hs.keep hb
  clear hb
  go_wp2_with fail
  go_ret
  exact ⟨rfl, hs.1⟩
end Td
end Go.Proofs.Ytgkdidnmndmlhaa
