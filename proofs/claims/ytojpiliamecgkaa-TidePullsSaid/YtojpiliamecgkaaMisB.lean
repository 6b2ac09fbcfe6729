import Derived.Test.YtojpiliamecgkaaMis
import Derived.Test.YtojpiliamecgkaaView
namespace Go.Proofs.Ytojpiliamecgkaa
open Go.RowKit
namespace Td
set_option linter.unusedSimpArgs false
set_option linter.unusedVariables false
/-- the place of the first truth beyond the marks. -/
def mAt (mlo mhi : Int) (x : Box) (lift : Int) : Int := pl (m0 mlo mhi x lift) (m1 mlo mhi x lift) (m2 mlo mhi x lift) (m3 mlo mhi x lift) lift
/-- what Misses comes to. -/
def missesV (b : Bch) (s : Shp) (tide bal : Int) : Value :=
  if stepE b s tide bal = 0 then
    if sur b.mlo b.mhi (bx b s tide.toNat) (-s.sink * bal) then .tuple #[.agg (trV 0 0 0 0), .int .i64 0, .int .i64 9]
    else .tuple #[.agg (trV (m0 b.mlo b.mhi (bx b s tide.toNat) (-s.sink * bal)) (m1 b.mlo b.mhi (bx b s tide.toNat) (-s.sink * bal)) (m2 b.mlo b.mhi (bx b s tide.toNat) (-s.sink * bal)) (m3 b.mlo b.mhi (bx b s tide.toNat) (-s.sink * bal))), .int .i64 (mAt b.mlo b.mhi (bx b s tide.toNat) (-s.sink * bal)), .int .i64 0]
  else .tuple #[.agg (trV 0 0 0 0), .int .i64 0, .int .i64 (stepE b s tide bal)]
set_option maxRecDepth 100000 in
set_option maxHeartbeats 4000000 in
theorem misses_c (b : Bch) (s : Shp) (A : Option Addr) (c : Nat) (tide bal : Int) (w : World) (hp : TsAt w A b.ts) :
    Calls Try.prog 28 #[.agg (bV b A c), .agg (sV s), .int .i64 tide, .int .i64 bal] w fun e w' => e = .returned (missesV b s tide bal) ∧ Below w.heap.size w w' := by
  have hs0 := ((((Since.refl w).alloc (.cells (bV b A c) 26)).alloc (.cells (sV s) 28)).alloc (.cells (trV 0 0 0 0) 45)).alloc (.cells #[.int .i64 tide, .int .i64 bal] 49)
  have HR0 := Lib.hid ((Blk.new2 w (.cells (bV b A c) 26) (.cells (sV s) 28) 45 (trV 0 0 0 0)).alloc (.cells #[.int .i64 tide, .int .i64 bal] 49))
  have HP0 := Lib.hid (Blk.new3 w (.cells (bV b A c) 26) (.cells (sV s) 28) (.cells (trV 0 0 0 0) 45) 49 #[.int .i64 tide, .int .i64 bal])
  go_enter Try.func28, Try.ntmps28
  go_wp2_with fail
  refine (look_c b s A c tide bal _ (hp.keep hs0.1)).mono ?_
  rintro e w1 ⟨rfl, hb1⟩
  have hs1 := hs0.keep hb1
  have HR1 := Lib.hid (HR0.out.keep hb1)
  have HP1 := Lib.hid (HP0.out.keep hb1)
  clear HR0 HP0 hs0
  have hz := HP1.out.lt
  by_cases hc : stepE b s tide bal = 0
  · obtain ⟨hk, ⟨r0, r1⟩, r2, r3⟩ := stepE_ok hc
    obtain ⟨hB, hS⟩ := chk_ok.1 hk
    rw [lookV_yes hk, hc]
    have HC := Lib.hid hc
    clear hc hk
    obtain ⟨i, rfl⟩ : ∃ i : Nat, tide = i := ⟨tide.toNat, by omega⟩
    have hi : i < b.ts.length := by omega
    have hl : b.ts.length ≤ 1000 := by have := hB.n1; omega
    have HL := Lib.hid (lift_bd hS r2 r3)
    have HOK := Lib.hid (bx_ok hB hS hi)
    have hs2 := hs1.alloc (.cells (shV b A c s) 95)
    have HR2 := Lib.hid (HR1.out.alloc (.cells (shV b A c s) 95))
    have HP2 := Lib.hid (HP1.out.alloc (.cells (shV b A c s) 95))
    have HL2 := Lib.hid (Blk.new w1 95 (shV b A c s))
    clear HR1 HP1
    go_wp2_with (first | (refine wpList_load_row rfl 95 _ rfl (w1.heap.size) rfl 95 (shV b A c s) (0, 0) _ HL2.out Try.underlying95 rfl (by kernel_rfl) ?_) | (refine wpList_load_row rfl 49 _ rfl (w.heap.size + 1 + 1 + 1) rfl 49 (#[.int .i64 i, .int .i64 bal]) (0, 0) _ HP2.out Try.underlying49 rfl (by kernel_rfl) ?_))
    refine (on_c b A c s i bal _ (hp.keep hs2.1) hi hl hS.k0 hS.k1 r2 (by omega)).mono ?_
    rintro e w2 ⟨rfl, hb2⟩
    have hs3 := (hs2.keep hb2).alloc (.cells (vwV b A c s (bx b s i) (-s.sink * bal)) 101)
    have HR3 := Lib.hid ((HR2.out.keep hb2).alloc (.cells (vwV b A c s (bx b s i) (-s.sink * bal)) 101))
    have HV3 := Lib.hid (Blk.new w2 101 (vwV b A c s (bx b s i) (-s.sink * bal)))
    have HVs : Hid (missesV b s (i : Int) bal = if sur b.mlo b.mhi (bx b s i) (-s.sink * bal) then .tuple #[.agg (trV 0 0 0 0), .int .i64 0, .int .i64 9]
        else .tuple #[.agg (trV (m0 b.mlo b.mhi (bx b s i) (-s.sink * bal)) (m1 b.mlo b.mhi (bx b s i) (-s.sink * bal)) (m2 b.mlo b.mhi (bx b s i) (-s.sink * bal)) (m3 b.mlo b.mhi (bx b s i) (-s.sink * bal))), .int .i64 (mAt b.mlo b.mhi (bx b s i) (-s.sink * bal)), .int .i64 0]) := by
      show _ = _
      unfold missesV
      rw [if_pos HC.out, Int.toNat_natCast]
    obtain ⟨y, hy⟩ : ∃ y, bx b s i = y := ⟨_, rfl⟩
    obtain ⟨lb, hlb⟩ : ∃ lb, -s.sink * bal = lb := ⟨_, rfl⟩
    rw [hy, hlb] at HVs HV3 hs3 HR3 ⊢
    rw [hy] at HOK
    rw [hlb] at HL
    clear hy hlb hs2 HR2 HP2 HL2
    go_wp2_with (first | (refine wpList_load_row rfl 101 _ rfl (w2.heap.size) rfl 101 (vwV b A c s y lb) (0, 0) _ HV3.out Try.underlying101 rfl (by kernel_rfl) ?_))
    refine (surely_c b A c s y lb _ HOK.out HL.out.1 HL.out.2).mono ?_
    rintro e w3 ⟨rfl, hb3⟩
    have hs4 := hs3.keep hb3
    have HR4 := Lib.hid (HR3.out.keep hb3)
    have HV4 := Lib.hid (HV3.out.keep hb3)
    have hzv := HV3.out.lt
    clear hs3 HR3 HV3
    cases hsu : sur b.mlo b.mhi y lb
    · have HE : Hid (missesV b s (i : Int) bal = .tuple #[.agg (trV (m0 b.mlo b.mhi y lb) (m1 b.mlo b.mhi y lb) (m2 b.mlo b.mhi y lb) (m3 b.mlo b.mhi y lb)), .int .i64 (mAt b.mlo b.mhi y lb), .int .i64 0]) := by show _ = _; rw [HVs.out, hsu]; rfl
      have HS := Lib.hid hsu
      have HM := Lib.hid (mis_spec HOK.out hsu)
      clear hsu HVs
      go_wp2_with (first | (refine wpList_load_row rfl 101 _ rfl (w2.heap.size) rfl 101 (vwV b A c s y lb) (0, 0) _ HV4.out Try.underlying101 rfl (by kernel_rfl) ?_))
      refine (firstMiss_c b A c s y lb _ HOK.out HL.out.1 HL.out.2 HS.out).mono ?_
      rintro e w4 ⟨rfl, hb4⟩
      have hs5 := hs4.keep hb4
      have HR5 := Lib.hid (HR4.out.keep hb4)
      have HV5 := Lib.hid (HV4.out.keep hb4)
      go_wp2_with (refine wpList_store_row rfl 45 _ _ rfl (w.heap.size + 1 + 1) _ rfl rfl 45 _ HR5.out (by kernel_rfl) rfl (by simp [Value.oneCell']) ?_)
      have hgv : w.heap.size + 1 + 1 < w2.heap.size := by have := hb2.size; simp at this; omega
      have hs6 := hs5.row (g := w.heap.size + 1 + 1) (by omega) (trV (m0 b.mlo b.mhi y lb) (m1 b.mlo b.mhi y lb) (m2 b.mlo b.mhi y lb) (m3 b.mlo b.mhi y lb))
      have HR6 := HR5.out.row (trV (m0 b.mlo b.mhi y lb) (m1 b.mlo b.mhi y lb) (m2 b.mlo b.mhi y lb) (m3 b.mlo b.mhi y lb))
      have HV6 := HV5.out.rowFar (g' := w.heap.size + 1 + 1) (by omega) (trV (m0 b.mlo b.mhi y lb) (m1 b.mlo b.mhi y lb) (m2 b.mlo b.mhi y lb) (m3 b.mlo b.mhi y lb))
      have HT : Hid (TrOk (m0 b.mlo b.mhi y lb) (m1 b.mlo b.mhi y lb) (m2 b.mlo b.mhi y lb) (m3 b.mlo b.mhi y lb)) := by
        obtain ⟨a0, a1, _, _, _, b0, b1, _, _, _, c0, c1, _, _, _, d0, d1, _, _, _⟩ := HM.out
        obtain ⟨_, _, _, _, _, _, _, _, _, _, _, _⟩ := HOK.out
        refine ⟨?_, ?_, ?_, ?_, ?_, ?_, ?_, ?_⟩ <;> omega
      obtain ⟨W, hW⟩ : ∃ W, w4.setRow (w.heap.size + 1 + 1) (trV (m0 b.mlo b.mhi y lb) (m1 b.mlo b.mhi y lb) (m2 b.mlo b.mhi y lb) (m3 b.mlo b.mhi y lb)) = W := ⟨_, rfl⟩
      rw [hW] at hs6 HR6 HV6 ⊢
      clear hs5 HR5 HV5 hs4 HR4 HV4
      refine wp_region_held_drew (S := fun X => Blk X (w.heap.size + 1 + 1) 45 (trV (m0 b.mlo b.mhi y lb) (m1 b.mlo b.mhi y lb) (m2 b.mlo b.mhi y lb) (m3 b.mlo b.mhi y lb)) ∧ Blk X w2.heap.size 101 (vwV b A c s y lb) ∧ Since w X) (by kernel_rfl) ?_ (fun hHeld => ?_)
      · exact ⟨HR6.drew, HV6.drew, hs6.drew⟩
      ((refine wpAnyH_take (i := 0) (v := .agg (trV (m0 b.mlo b.mhi y lb) (m1 b.mlo b.mhi y lb) (m2 b.mlo b.mhi y lb) (m3 b.mlo b.mhi y lb))) rfl (by kernel_rfl) (by kernel_rfl) (by kernel_rfl) (fun _ _ _ h => h) (Or.inl ⟨rfl, fun W hW => exec_load_row 45 _ rfl (w.heap.size + 1 + 1) rfl 45 _ (0, 0) _ hW.1 Try.underlying45 rfl (by kernel_rfl)⟩) (by assumption) ?_); try simp only [Act.put, List.getElem_toArray, List.getElem_cons_succ, List.getElem_cons_zero, List.setIfInBounds_toArray, List.set_cons_zero, List.set_cons_succ])
      ((refine wpAnyH_take (i := 1) (v := .agg (vwV b A c s y lb)) rfl (by kernel_rfl) (by kernel_rfl) (by kernel_rfl) (fun _ _ _ h => h) (Or.inl ⟨rfl, fun W hW => exec_load_row 101 _ rfl (w2.heap.size) rfl 101 _ (0, 0) _ hW.2.1 Try.underlying101 rfl (by kernel_rfl)⟩) (by assumption) ?_); try simp only [Act.put, List.getElem_toArray, List.getElem_cons_succ, List.getElem_cons_zero, List.setIfInBounds_toArray, List.set_cons_zero, List.set_cons_succ])
      ((refine wpAnyH_take (i := 2) (v := .agg (trV (m0 b.mlo b.mhi y lb) (m1 b.mlo b.mhi y lb) (m2 b.mlo b.mhi y lb) (m3 b.mlo b.mhi y lb))) rfl (by kernel_rfl) (by kernel_rfl) (by kernel_rfl) (fun _ _ _ h => h) (Or.inl ⟨rfl, fun W hW => exec_load_row 45 _ rfl (w.heap.size + 1 + 1) rfl 45 _ (0, 0) _ hW.1 Try.underlying45 rfl (by kernel_rfl)⟩) (by assumption) ?_); try simp only [Act.put, List.getElem_toArray, List.getElem_cons_succ, List.getElem_cons_zero, List.setIfInBounds_toArray, List.set_cons_zero, List.set_cons_succ])
      ((refine wpAnyH_ready (rs := [3]) (by kernel_rfl) (by simp) (AllReadyH.cons rfl (fun K hK => ?_) AllReadyH.nil)))
      go_simp
      refine (place_c b A c s y lb _ _ _ _ _ HT.out HL.out.1 HL.out.2).mono ?_
      rintro e w5 ⟨rfl, hb5⟩
      refine hK.out _ _ ?_ (fun hHeld => ?_)
      · obtain ⟨a1, a2, a3⟩ := hHeld
        exact ⟨a1.keep hb5, a2.keep hb5, a3.keep hb5⟩
      clear hK K
      try simp only [Act.put, List.getElem_toArray, List.getElem_cons_succ, List.getElem_cons_zero, List.setIfInBounds_toArray, List.set_cons_zero, List.set_cons_succ]
      ((refine wpAnyH_ready (rs := [4]) (by kernel_rfl) (by simp) (AllReadyH.cons rfl (fun K hK => ?_) AllReadyH.nil)))
      obtain ⟨a1, a2, a3⟩ := hHeld
      refine Eq.mpr (if_pos (show Region.wanted _ _ = true from by kernel_rfl)) ?_
      refine wp_store_row 45 _ _ rfl (w.heap.size + 1 + 1) (trV (m0 b.mlo b.mhi y lb) (m1 b.mlo b.mhi y lb) (m2 b.mlo b.mhi y lb) (m3 b.mlo b.mhi y lb)) rfl rfl 45 _ a1 (by kernel_rfl) rfl (by simp [Value.oneCell']) ?_
      refine hK.out _ _ ?_ (fun hHeld => ?_)
      · exact ⟨a1.row _, a2.rowFar (by omega) _, a3.row (by omega) _⟩
      clear hK K
      try simp only [Act.put, List.getElem_toArray, List.getElem_cons_succ, List.getElem_cons_zero, List.setIfInBounds_toArray, List.set_cons_zero, List.set_cons_succ]
      ((refine wpAnyH_ready (rs := [5]) (by kernel_rfl) (by simp) (AllReadyH.cons rfl (fun K hK => ?_) AllReadyH.nil)))
      go_simp
      refine hK.out _ _ ?_ (fun hHeld => ?_)
      · exact hHeld
      clear hK K
      try simp only [Act.put, List.getElem_toArray, List.getElem_cons_succ, List.getElem_cons_zero, List.setIfInBounds_toArray, List.set_cons_zero, List.set_cons_succ]
      ((refine wpAnyH_ready (rs := [6]) (by kernel_rfl) (by simp) (AllReadyH.cons rfl (fun K hK => ?_) AllReadyH.nil)))
      go_simp
      refine hK.out _ _ ?_ (fun hHeld => ?_)
      · exact hHeld
      clear hK K
      try simp only [Act.put, List.getElem_toArray, List.getElem_cons_succ, List.getElem_cons_zero, List.setIfInBounds_toArray, List.set_cons_zero, List.set_cons_succ]
      refine wpAnyH_done (by kernel_rfl) ?_ _
      go_wp2_with fail
      obtain ⟨a1, a2, a3⟩ := hHeld
      refine bodyPost_ret (results_cell_tmp2 Try.results28 _ _ (w.heap.size + 1 + 1) 45 _ (0, 0) _ rfl a1 Try.underlying45 rfl (by kernel_rfl)) rfl ⟨?_, a3.1⟩
      rw [HE.out]
      rfl
    · have HE : Hid (missesV b s (i : Int) bal = .tuple #[.agg (trV 0 0 0 0), .int .i64 0, .int .i64 9]) := by show _ = _; rw [HVs.out, hsu]; rfl
      clear hsu HVs
      go_wp2_with (refine wpList_store_row rfl 45 _ _ rfl (w.heap.size + 1 + 1) _ rfl rfl 45 _ HR4.out (by kernel_rfl) rfl (by simp [Value.oneCell']) ?_)
      refine bodyPost_ret (results_cell_tmp2 Try.results28 _ _ (w.heap.size + 1 + 1) 45 _ (0, 0) _ rfl (HR4.out.row _) Try.underlying45 rfl (by kernel_rfl)) rfl ⟨?_, ?_⟩
      · rw [HE.out]; rfl
      · exact (hs4.row (by omega) _).1
  · have HV : Hid (missesV b s tide bal = .tuple #[.agg (trV 0 0 0 0), .int .i64 0, .int .i64 (stepE b s tide bal)]) := by show _ = _; simp [missesV, hc]
    have hc' : (stepE b s tide bal != 0) = true := by simpa using hc
    clear hc
    rcases lookV_some b s A c tide bal with hL | hL
    all_goals
      rw [hL]
      clear hL
      go_wp2_with (refine wpList_store_row rfl 45 _ _ rfl (w.heap.size + 1 + 1) _ rfl rfl 45 _ (HR1.out.alloc _) (by kernel_rfl) rfl (by simp [Value.oneCell']) ?_)
      refine bodyPost_ret (results_cell_tmp2 Try.results28 _ _ (w.heap.size + 1 + 1) 45 _ (0, 0) _ rfl ((HR1.out.alloc _).row _) Try.underlying45 rfl (by kernel_rfl)) rfl ⟨?_, ?_⟩
      · rw [HV.out]; rfl
      · exact ((hs1.alloc _).row (by omega) _).1
end Td
end Go.Proofs.Ytojpiliamecgkaa
