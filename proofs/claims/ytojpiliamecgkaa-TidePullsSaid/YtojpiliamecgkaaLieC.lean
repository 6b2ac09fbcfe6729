import Derived.Test.YtojpiliamecgkaaLieB
namespace Go.Proofs.Ytojpiliamecgkaa
open Go.RowKit
namespace Td
set_option linter.unusedSimpArgs false
set_option linter.unusedVariables false
theorem pullsFrom_zero {n : Nat} : ∀ {ps : List Pul} {prev : Int}, pullsFrom n prev ps = 0 → ∀ j (h : j < ps.length), PuOk n ps[j]
  | [], _, _, j, h => absurd h (by simp)
  | p :: ps, prev, hz, j, h => by
    unfold pullsFrom at hz
    by_cases he : pullAtE n prev p = 0
    · rw [if_neg (by simp [he])] at hz
      match j, h with
      | 0, _ =>
        unfold pullAtE at he
        by_cases hr : runE n p.tide p.bal = 0
        · obtain ⟨⟨a, c⟩, d, e⟩ := runE_zero.1 hr
          exact ⟨a, c, d, e⟩
        · rw [if_pos hr] at he; exact absurd he hr
      | j + 1, h => exact pullsFrom_zero hz j (by simpa using h)
    · rw [if_pos he] at hz; exact absurd hz he
theorem pullsE_zero {n : Nat} {run : Pul} {ps : List Pul} (h : pullsE n run ps = 0) : ps.length ≤ 6 ∧ ∀ j (h : j < ps.length), PuOk n ps[j] := by
  unfold pullsE at h
  by_cases h6 : 6 < ps.length
  · rw [if_pos h6] at h; cases h
  · rw [if_neg h6] at h
    exact ⟨by omega, pullsFrom_zero h⟩
/-- what Lies comes to. -/
def liesV (b : Bch) (s : Shp) (run : Pul) (ps : List Pul) : Value :=
  if stepE b s run.tide run.bal = 0 then
    if pullsE b.ts.length run ps = 0 then .tuple #[.agg #[.int .i64 (lieLo b s run ps), .int .i64 (lieHi b s run ps)], .int .i64 0]
    else .tuple #[.agg #[.int .i64 0, .int .i64 0], .int .i64 (pullsE b.ts.length run ps)]
  else .tuple #[.agg #[.int .i64 0, .int .i64 0], .int .i64 (stepE b s run.tide run.bal)]
set_option maxRecDepth 100000 in
set_option maxHeartbeats 4000000 in
theorem tlies_c (b : Bch) (s : Shp) (A : Option Addr) (c : Nat) (run : Pul) (P : Option Addr) (ps : List Pul) (pc : Nat) (w : World) (hp : TsAt w A b.ts) (hq : PuAt w P ps) :
    Calls Try.prog 30 #[.agg (bV b A c), .agg (sV s), .agg (puV run), .slice P ps.length pc] w fun e w' => e = .returned (liesV b s run ps) ∧ Below w.heap.size w w' := by
  have hs0 := ((((Since.refl w).alloc (.cells (bV b A c) 26)).alloc (.cells (sV s) 28)).alloc (.cells (puV run) 49)).alloc (.cells #[.int .i64 0, .int .i64 0] 23)
  have HP0 := Lib.hid ((Blk.new2 w (.cells (bV b A c) 26) (.cells (sV s) 28) 49 (puV run)).alloc (.cells #[.int .i64 0, .int .i64 0] 23))
  have HR0 := Lib.hid (Blk.new3 w (.cells (bV b A c) 26) (.cells (sV s) 28) (.cells (puV run) 49) 23 #[.int .i64 0, .int .i64 0])
  go_enter Try.func30, Try.ntmps30
  go_wp2_with fail
  refine (look_c b s A c run.tide run.bal _ (hp.keep hs0.1)).mono ?_
  rintro e w1 ⟨rfl, hb1⟩
  have hs1 := hs0.keep hb1
  have HR1 := Lib.hid (HR0.out.keep hb1)
  have HP1 := Lib.hid (HP0.out.keep hb1)
  clear HR0 HP0 hs0
  have hz := HR1.out.lt
  by_cases hc : stepE b s run.tide run.bal = 0
  · obtain ⟨hk, hr1, hr2, hr3⟩ := stepE_ok hc
    obtain ⟨hB, hS⟩ := chk_ok.1 hk
    have hl : b.ts.length ≤ 1000 := by have := hB.n1; omega
    rw [lookV_yes hk, hc]
    have HC := Lib.hid hc
    clear hc
    have hs2 := hs1.alloc (.cells (shV b A c s) 95)
    have HR2 := Lib.hid (HR1.out.alloc (.cells (shV b A c s) 95))
    have HP2 := Lib.hid (HP1.out.alloc (.cells (shV b A c s) 95))
    have HL2 := Lib.hid (Blk.new w1 95 (shV b A c s))
    clear HR1 HP1
    go_wp2_with (first | (refine wpList_load_row rfl 95 _ rfl (w1.heap.size) rfl 95 (shV b A c s) (0, 0) _ HL2.out Try.underlying95 rfl (by kernel_rfl) ?_) | (refine wpList_load_row rfl 49 _ rfl (w.heap.size + 1 + 1) rfl 49 (puV run) (0, 0) _ HP2.out Try.underlying49 rfl (by kernel_rfl) ?_))
    refine (pullsFault_c b A c s run P ps pc _ hl (hq.keep hs2.1)).mono ?_
    rintro e w2 ⟨rfl, hb2⟩
    have hs3 := hs2.keep hb2
    have HR3 := Lib.hid (HR2.out.keep hb2)
    have HP3 := Lib.hid (HP2.out.keep hb2)
    have HL3 := Lib.hid (HL2.out.keep hb2)
    by_cases hpz : pullsE b.ts.length run ps = 0
    · obtain ⟨h6, hpo⟩ := pullsE_zero hpz
      have HV : Hid (liesV b s run ps = .tuple #[.agg #[.int .i64 (lieLo b s run ps), .int .i64 (lieHi b s run ps)], .int .i64 0]) := by show _ = _; simp [liesV, HC.out, hpz]
      rw [hpz]
      clear hpz
      have HPO := Lib.hid hpo
      clear hpo
      go_wp2_with (first | (refine wpList_load_row rfl 95 _ rfl (w1.heap.size) rfl 95 (shV b A c s) (0, 0) _ HL3.out Try.underlying95 rfl (by kernel_rfl) ?_) | (refine wpList_load_row rfl 49 _ rfl (w.heap.size + 1 + 1) rfl 49 (puV run) (0, 0) _ HP3.out Try.underlying49 rfl (by kernel_rfl) ?_))
      refine (lies_c b A c s run P ps pc _ (hp.keep hs3.1) hB hS ⟨hr1.1, hr1.2, hr2, hr3⟩ HPO.out (by omega) (hq.keep hs3.1)).mono ?_
      rintro e w3 ⟨rfl, hb3⟩
      have hs4 := hs3.keep hb3
      have HR4 := Lib.hid (HR3.out.keep hb3)
      go_wp2_with (refine wpList_store_row rfl 23 _ _ rfl (w.heap.size + 1 + 1 + 1) _ rfl rfl 23 _ HR4.out (by kernel_rfl) rfl (by simp [Value.oneCell']) ?_)
      refine bodyPost_ret (results_cell_tmp Try.results30 _ _ (w.heap.size + 1 + 1 + 1) 23 _ (0, 0) _ rfl (HR4.out.row _) Try.underlying23 rfl (by kernel_rfl)) rfl ⟨?_, ?_⟩
      · rw [HV.out]; rfl
      · exact (hs4.row (by omega) _).1
    · have HV : Hid (liesV b s run ps = .tuple #[.agg #[.int .i64 0, .int .i64 0], .int .i64 (pullsE b.ts.length run ps)]) := by show _ = _; simp [liesV, HC.out, hpz]
      have hc' : (pullsE b.ts.length run ps != 0) = true := by simpa using hpz
      clear hpz
      go_wp2_with (refine wpList_store_row rfl 23 _ _ rfl (w.heap.size + 1 + 1 + 1) _ rfl rfl 23 _ HR3.out (by kernel_rfl) rfl (by simp [Value.oneCell']) ?_)
      refine bodyPost_ret (results_cell_tmp Try.results30 _ _ (w.heap.size + 1 + 1 + 1) 23 _ (0, 0) _ rfl (HR3.out.row _) Try.underlying23 rfl (by kernel_rfl)) rfl ⟨?_, ?_⟩
      · rw [HV.out]; rfl
      · exact (hs3.row (by omega) _).1
  · have HV : Hid (liesV b s run ps = .tuple #[.agg #[.int .i64 0, .int .i64 0], .int .i64 (stepE b s run.tide run.bal)]) := by show _ = _; simp [liesV, hc]
    have hc' : (stepE b s run.tide run.bal != 0) = true := by simpa using hc
    clear hc
    rcases lookV_some b s A c run.tide run.bal with hL | hL
    all_goals
      rw [hL]
      clear hL
      go_wp2_with (refine wpList_store_row rfl 23 _ _ rfl (w.heap.size + 1 + 1 + 1) _ rfl rfl 23 _ (HR1.out.alloc _) (by kernel_rfl) rfl (by simp [Value.oneCell']) ?_)
      refine bodyPost_ret (results_cell_tmp Try.results30 _ _ (w.heap.size + 1 + 1 + 1) 23 _ (0, 0) _ rfl ((HR1.out.alloc _).row _) Try.underlying23 rfl (by kernel_rfl)) rfl ⟨?_, ?_⟩
      · rw [HV.out]; rfl
      · exact ((hs1.alloc _).row (by omega) _).1
/-- what Later comes to. -/
def laterV (b : Bch) (s : Shp) (run : Pul) (target : Int) : Value :=
  if stepE b s run.tide run.bal = 0 then .tuple #[.int .i64 (later b s run target (run.tide.toNat + 1) (b.ts.length - (run.tide.toNat + 1))).1, .int .i64 (later b s run target (run.tide.toNat + 1) (b.ts.length - (run.tide.toNat + 1))).2]
  else .tuple #[.int .i64 0, .int .i64 (stepE b s run.tide run.bal)]
theorem later_hit {b : Bch} {s : Shp} {run : Pul} {target : Int} {i k : Nat} (h : target ≤ lieLo b s run [⟨i, 0⟩]) : later b s run target i (k + 1) = ((i : Int), 0) := by simp [later, h]
theorem later_step {b : Bch} {s : Shp} {run : Pul} {target : Int} {i k : Nat} (h : ¬ target ≤ lieLo b s run [⟨i, 0⟩]) : later b s run target i (k + 1) = later b s run target (i + 1) k := by simp [later, h]
set_option maxRecDepth 100000 in
set_option maxHeartbeats 4000000 in
theorem later_c (b : Bch) (s : Shp) (A : Option Addr) (c : Nat) (run : Pul) (target : Int) (w : World) (hp : TsAt w A b.ts) :
    Calls Try.prog 32 #[.agg (bV b A c), .agg (sV s), .agg (puV run), .int .i64 target] w fun e w' => e = .returned (laterV b s run target) ∧ Below w.heap.size w w' := by
  have hs0 := (((Since.refl w).alloc (.cells (bV b A c) 26)).alloc (.cells (sV s) 28)).alloc (.cells (puV run) 49)
  have HP0 := Lib.hid (Blk.new2 w (.cells (bV b A c) 26) (.cells (sV s) 28) 49 (puV run))
  go_enter Try.func32, Try.ntmps32
  go_wp2_with fail
  refine (look_c b s A c run.tide run.bal _ (hp.keep hs0.1)).mono ?_
  rintro e w1 ⟨rfl, hb1⟩
  have hs1 := hs0.keep hb1
  have HP1 := Lib.hid (HP0.out.keep hb1)
  clear HP0 hs0
  have hz := HP1.out.lt
  by_cases hc : stepE b s run.tide run.bal = 0
  · obtain ⟨hk, hr1, hr2, hr3⟩ := stepE_ok hc
    obtain ⟨hB, hS⟩ := chk_ok.1 hk
    have hl : b.ts.length ≤ 12 := hB.n1
    have HV : Hid (laterV b s run target = .tuple #[.int .i64 (later b s run target (run.tide.toNat + 1) (b.ts.length - (run.tide.toNat + 1))).1, .int .i64 (later b s run target (run.tide.toNat + 1) (b.ts.length - (run.tide.toNat + 1))).2]) := by show _ = _; simp [laterV, hc]
    rw [lookV_yes hk, hc]
    clear hc hk
    obtain ⟨rt, rb⟩ := run
    simp only at hr1 hr2 hr3
    obtain ⟨hr0, hr1⟩ := hr1
    obtain ⟨i, rfl⟩ : ∃ i : Nat, rt = i := ⟨rt.toNat, by omega⟩
    simp only [Int.toNat_natCast] at HV
    have hs2 := hs1.alloc (.cells (shV b A c s) 95)
    have HP2 := Lib.hid (HP1.out.alloc (.cells (shV b A c s) 95))
    have HL2 := Lib.hid (Blk.new w1 95 (shV b A c s))
    clear HP1 hs1
    obtain ⟨p0, p1⟩ := HP2.out.pull
    simp only at p0 p1
    go_wp2_with fail
    obtain ⟨gl, hgl⟩ : ∃ gl, w1.heap.size = gl := ⟨_, rfl⟩
    obtain ⟨W0, hW0⟩ : ∃ W0, w1.alloc (.cells (shV b A c s) 95) = W0 := ⟨_, rfl⟩
    rw [hW0] at hs2 HP2 HL2 p0 p1 ⊢
    rw [hgl] at HL2 hz ⊢
    clear hW0 hgl hb1 p0 p1
    go_loopw [12] (fun i' wr => ∃ k : Nat, i < k ∧ k ≤ b.ts.length ∧ i' = .int .i64 k ∧ Since W0 wr ∧ Hid (later b s ⟨(i : Int), rb⟩ target k (b.ts.length - k) = later b s ⟨(i : Int), rb⟩ target (i + 1) (b.ts.length - (i + 1)))) (fun i' _ => b.ts.length - (intOf i').toNat)
    case atStart => exact ⟨i + 1, by omega, by omega, by go_num, Since.refl _, rfl⟩
    case round =>
      obtain ⟨k, hik, hk, rfl, hsn, HR⟩ := hrel
      have hsw := hs2.keep hsn.1
      have HP3 := Lib.hid (HP2.out.keep hsn.1)
      have HL3 := Lib.hid (HL2.out.keep hsn.1)
      obtain ⟨l0, l1, l2, l3, l4, l5, l6, l7, l8⟩ := HL3.out.shore
      by_cases hlt : k < b.ts.length
      · have hpz : PuAt (wr.alloc (.cells #[.int .i64 (k : Int), .int .i64 0] 49)) (some ⟨wr.heap.size, 0, none⟩) [⟨(k : Int), 0⟩] := PuAt.one (p := ⟨(k : Int), 0⟩) (Blk.new _ _ _)
        have HPZ := Lib.hid hpz
        clear hpz
        go_wp2_with (first | (refine wpList_load_row rfl 95 _ rfl (gl) rfl 95 (shV b A c s) (0, 0) _ HL3.out Try.underlying95 rfl (by kernel_rfl) ?_) | (refine wpList_load_row rfl 49 _ rfl (w.heap.size + 1 + 1) rfl 49 (puV ⟨(i : Int), rb⟩) (0, 0) _ HP3.out Try.underlying49 rfl (by kernel_rfl) ?_))
        have hs3 := hsn.alloc (.cells #[.int .i64 (k : Int), .int .i64 0] 49)
        refine (lies_c b A c s ⟨(i : Int), rb⟩ _ [⟨(k : Int), 0⟩] 1 _ (hp.keep (hs2.keep hs3.1).1) hB hS ⟨hr0, hr1, hr2, hr3⟩ ?_ (by simp) HPZ.out).mono ?_
        · intro j hj
          obtain rfl : j = 0 := by simpa using hj
          exact ⟨by simp, by simp; omega, by simp, by simp⟩
        rintro e w3 ⟨rfl, hb3⟩
        have hs4 := hs3.keep hb3
        have hf : ∀ (a c : Int) (W : World), (Instr.field 23 (.agg #[.int .i64 a, .int .i64 c]) 0).run Try.prog W = .ok (.int .i64 a) W := fun _ _ _ => by kernel_rfl
        by_cases ht : target ≤ lieLo b s ⟨(i : Int), rb⟩ [⟨(k : Int), 0⟩]
        · have HE : Hid (later b s ⟨(i : Int), rb⟩ target (i + 1) (b.ts.length - (i + 1)) = ((k : Int), 0)) := by
            show _ = _
            rw [← HR.out, show b.ts.length - k = (b.ts.length - (k + 1)) + 1 by omega, later_hit ht]
          go_wp2_with fail
          go_ret2
          exact ⟨by rw [HV.out, HE.out]; first | done | rfl, (hs2.keep hs4.1).1⟩
        · have HE : Hid (later b s ⟨(i : Int), rb⟩ target (k + 1) (b.ts.length - (k + 1)) = later b s ⟨(i : Int), rb⟩ target (i + 1) (b.ts.length - (i + 1))) := by
            show _ = _
            rw [← HR.out, show b.ts.length - k = (b.ts.length - (k + 1)) + 1 by omega, later_step ht]
          go_wp2_with fail
          go_roundw
          case rel => exact ⟨k + 1, by omega, by omega, by go_num, hs4, HE⟩
          case measure => simp [intOf]; omega
      · have HE : Hid (later b s ⟨(i : Int), rb⟩ target (i + 1) (b.ts.length - (i + 1)) = (0, 9)) := by
          show _ = _
          rw [← HR.out, show b.ts.length - k = 0 by omega]; rfl
        go_wp2_with fail
        go_ret2
        exact ⟨by rw [HV.out, HE.out]; first | done | rfl, hsw.1⟩
  · have HV : Hid (laterV b s run target = .tuple #[.int .i64 0, .int .i64 (stepE b s run.tide run.bal)]) := by show _ = _; simp [laterV, hc]
    have hc' : (stepE b s run.tide run.bal != 0) = true := by simpa using hc
    clear hc
    rcases lookV_some b s A c run.tide run.bal with hL | hL
    all_goals
      rw [hL]
      clear hL
      go_wp2_with fail
      go_ret2
      exact ⟨by rw [HV.out]; first | done | rfl, (hs1.alloc _).1⟩
end Td
end Go.Proofs.Ytojpiliamecgkaa
