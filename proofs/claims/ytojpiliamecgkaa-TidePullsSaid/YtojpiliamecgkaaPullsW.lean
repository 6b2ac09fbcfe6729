import Derived.Test.YtojpiliamecgkaaPullsL
/- The reference's Later; the walk of TidePulls. -/
namespace Go.Proofs.Ytojpiliamecgkaa
open Go.RowKit
namespace Td
set_option linter.unusedSimpArgs false
set_option linter.unusedVariables false
theorem plan_nil (b : Bch) (s : Shp) (run : Pul) : planE b s run [] = stepE b s run.tide run.bal := by
  unfold planE
  split
  · rename_i h; rw [h]; rfl
  · rfl
theorem rlies_one {b : Bch} {s : Shp} {i0 : Nat} {rb : Int} (h0 : stepE b s (i0 : Int) rb = 0) {k : Nat} (hk : i0 < k) (hl : k < b.ts.length) : rliesV b s ⟨(i0 : Int), rb⟩ [⟨(k : Int), 0⟩] = .tuple #[.agg #[.int .i64 (lieLo b s ⟨(i0 : Int), rb⟩ [⟨(k : Int), 0⟩]), .int .i64 (lieHi b s ⟨(i0 : Int), rb⟩ [⟨(k : Int), 0⟩])], .int .i64 0] := by
  have hr : runE b.ts.length (k : Int) 0 = 0 := runE_ok (by omega) (by omega) (by omega) (by omega)
  have hp : planE b s ⟨(i0 : Int), rb⟩ [⟨(k : Int), 0⟩] = 0 := by
    unfold planE
    rw [if_pos h0]
    unfold pullsE
    rw [if_neg (by simp)]
    unfold pullsFrom pullAtE
    simp only
    rw [hr]
    rw [if_neg (show ¬ (0 : Int) ≠ 0 by omega), if_neg (show ¬ (k : Int) ≤ (i0 : Int) by omega), if_neg (by omega)]
    rfl
  unfold rliesV
  rw [if_pos hp]
theorem lies_two (b : Bch) (s : Shp) (run : Pul) (ps : List Pul) : ∃ x y e : Int, liesV b s run ps = .tuple #[.agg #[.int .i64 x, .int .i64 y], .int .i64 e] ∧ rliesV b s run ps = .tuple #[.agg #[.int .i64 x, .int .i64 y], .int .i64 e] := by
  unfold liesV rliesV planE
  by_cases h0 : stepE b s run.tide run.bal = 0
  · by_cases h1 : pullsE b.ts.length run ps = 0
    · simp only [h0, h1, if_true]
      exact ⟨_, _, _, rfl, rfl⟩
    · simp only [h0, h1, if_true, if_false]
      exact ⟨_, _, _, rfl, rfl⟩
  · simp only [h0, if_false]
    exact ⟨_, _, _, rfl, rfl⟩
theorem later_two (b : Bch) (s : Shp) (run : Pul) (target : Int) : ∃ n e : Int, laterV b s run target = .tuple #[.int .i64 n, .int .i64 e] := by
  unfold laterV
  split
  · exact ⟨_, _, rfl⟩
  · exact ⟨_, _, rfl⟩
set_option maxRecDepth 100000 in
set_option maxHeartbeats 8000000 in
theorem rlater_c (b : Bch) (s : Shp) (A : Option Addr) (c : Nat) (run : Pul) (target : Int) (w : World) (hp : TsAt w A b.ts) :
    Calls Try.prog 33 #[.agg (bV b A c), .agg (sV s), .agg (puV run), .int .i64 target] w fun e w' => e = .returned (laterV b s run target) ∧ Below w.heap.size w w' := by
  have HE0 := Lib.hid (RPs.start w b A c s run none [] hp (fun h => absurd rfl h))
  go_enter Try.func33, Try.ntmps33
  obtain ⟨⟨c0, c1, c2, c3, c4, c5⟩, ⟨d0, d1, d2⟩, ⟨r0, r1⟩, _, _, _⟩ := HE0.out
  go_wp2_with fail
  refine (rplan_c b s A c run none [] 0 _ HE0.out.ts HE0.out.pq).mono ?_
  rintro e w1 ⟨rfl, hb⟩
  rw [plan_nil]
  have HE1 := Lib.hid (HE0.out.keep hb)
  clear HE0 hb c0 c1 c2 c3 c4 c5 d0 d1 d2 r0 r1
  obtain ⟨⟨c0, c1, c2, c3, c4, c5⟩, ⟨d0, d1, d2⟩, ⟨r0, r1⟩, _, _, _⟩ := HE1.out
  by_cases h0 : stepE b s run.tide run.bal = 0
  · obtain ⟨hk, ⟨hr0, hr1⟩, hr2, hr3⟩ := stepE_ok h0
    obtain ⟨hB, hS⟩ := chk_ok.1 hk
    have hl12 : b.ts.length ≤ 12 := hB.n1
    have HV : Hid (laterV b s run target = .tuple #[.int .i64 (later b s run target (run.tide.toNat + 1) (b.ts.length - (run.tide.toNat + 1))).1, .int .i64 (later b s run target (run.tide.toNat + 1) (b.ts.length - (run.tide.toNat + 1))).2]) := by show _ = _; simp [laterV, h0]
    obtain ⟨rt, rb⟩ := run
    simp only at hr0 hr1 hr2 hr3 r0 r1 h0
    obtain ⟨i, rfl⟩ : ∃ i : Nat, rt = i := ⟨rt.toNat, by omega⟩
    have H0 := Lib.hid h0
    simp only [Int.toNat_natCast] at HV
    simp only [h0]
    clear h0 hk
    go_wp2_with fail
    clear c0 c1 c2 c3 c4 c5 d0 d1 d2 r0 r1
    go_loopw [11, 12, 13] (fun i' _ _ wr => ∃ k : Nat, i < k ∧ k ≤ b.ts.length ∧ i' = .int .i64 k ∧ RPs w.heap.size (w.heap.size + 1) (w.heap.size + 1 + 1) b A c s ⟨(i : Int), rb⟩ none [] w wr ∧ Hid (later b s ⟨(i : Int), rb⟩ target k (b.ts.length - k) = later b s ⟨(i : Int), rb⟩ target (i + 1) (b.ts.length - (i + 1)))) (fun i' _ _ _ => b.ts.length - (intOf i').toNat)
    case atStart => exact ⟨i + 1, by omega, by omega, by go_num, HE1.out, rfl⟩
    case round =>
      obtain ⟨k, hik, hk, rfl, hE, HR⟩ := hrel
      obtain ⟨⟨c0, c1, c2, c3, c4, c5⟩, ⟨d0, d1, d2⟩, ⟨r0, r1⟩, _, _, _⟩ := id hE
      by_cases hlt : k < b.ts.length
      · have HPZ : Hid (PuAt (wr.alloc (.cells #[.int .i64 (k : Int), .int .i64 0] 49)) (some ⟨wr.heap.size, 0, none⟩) [⟨(k : Int), 0⟩]) := PuAt.one (p := ⟨(k : Int), 0⟩) (Blk.new _ _ _)
        have HE2 := Lib.hid (hE.keep ((Below.refl _ _).alloc (Nat.le_refl _) (.cells #[.int .i64 (k : Int), .int .i64 0] 49)))
        go_wp2_with fail
        refine (rlies_c b s A c ⟨(i : Int), rb⟩ _ [⟨(k : Int), 0⟩] 1 _ HE2.out.ts HPZ.out).mono ?_
        rintro e w3 ⟨rfl, hb⟩
        rw [rlies_one H0.out hik hlt]
        have HE3 := Lib.hid (HE2.out.keep (hb.alloc hb.size (.cells #[.int .i64 (lieLo b s ⟨(i : Int), rb⟩ [⟨(k : Int), 0⟩]), .int .i64 (lieHi b s ⟨(i : Int), rb⟩ [⟨(k : Int), 0⟩])] 23)))
        clear HE2 HPZ hb c0 c1 c2 c3 c4 c5 d0 d1 d2 r0 r1
        by_cases ht : target ≤ lieLo b s ⟨(i : Int), rb⟩ [⟨(k : Int), 0⟩]
        · have HE : Hid (later b s ⟨(i : Int), rb⟩ target (i + 1) (b.ts.length - (i + 1)) = ((k : Int), 0)) := by
            show _ = _
            rw [← HR.out, show b.ts.length - k = (b.ts.length - (k + 1)) + 1 by omega, later_hit ht]
          clear HR
          go_wp2_with fail
          go_ret2
          exact ⟨by rw [HV.out, HE.out]; first | done | rfl, HE3.out.sn.1⟩
        · have HE : Hid (later b s ⟨(i : Int), rb⟩ target (k + 1) (b.ts.length - (k + 1)) = later b s ⟨(i : Int), rb⟩ target (i + 1) (b.ts.length - (i + 1))) := by
            show _ = _
            rw [← HR.out, show b.ts.length - k = (b.ts.length - (k + 1)) + 1 by omega, later_step ht]
          clear HR
          go_wp2_with fail
          go_roundw
          case rel => exact ⟨k + 1, by omega, by omega, by go_num, HE3.out, HE.out⟩
          case measure => simp [intOf]; omega
      · have HE : Hid (later b s ⟨(i : Int), rb⟩ target (i + 1) (b.ts.length - (i + 1)) = (0, 9)) := by
          show _ = _
          rw [← HR.out, show b.ts.length - k = 0 by omega]
          rfl
        clear HR
        go_wp2_with fail
        go_ret2
        exact ⟨by rw [HV.out, HE.out]; first | done | rfl, hE.sn.1⟩
  · have HV : Hid (laterV b s run target = .tuple #[.int .i64 0, .int .i64 (stepE b s run.tide run.bal)]) := by show _ = _; simp [laterV, h0]
    have hne : ((stepE b s run.tide run.bal : Int) != 0) = true := by simpa using h0
    clear h0
    go_wp2_with fail
    go_ret2
    exact ⟨by rw [HV.out]; first | done | rfl, HE1.out.sn.1⟩
set_option maxRecDepth 100000 in
set_option maxHeartbeats 8000000 in
theorem tidePulls_c (b : Bch) (s : Shp) (A : Option Addr) (c : Nat) (run : Pul) (P : Option Addr) (ps : List Pul) (pc : Nat) (g : Int) (w : World) (hp : TsAt w A b.ts) (hq : PuAt w P ps) :
    Calls Try.prog 6 #[.agg (bV b A c), .agg (sV s), .agg #[.int .i64 run.tide, .int .i64 run.bal, .slice P ps.length pc, .int .i64 g]] w fun e w' => e = .returned (.bool true) ∧ Below w.heap.size w w' := by
  have hs0 := (((Since.refl w).alloc (.cells (bV b A c) 26)).alloc (.cells (sV s) 28)).alloc (.cells #[.int .i64 run.tide, .int .i64 run.bal, .slice P ps.length pc, .int .i64 g] 52)
  have hx := Blk.new2 w (.cells (bV b A c) 26) (.cells (sV s) 28) 52 #[.int .i64 run.tide, .int .i64 run.bal, .slice P ps.length pc, .int .i64 g]
  have HE0 : Hid (RPs w.heap.size (w.heap.size + 1) (w.heap.size + 1 + 1) b A c s run P ps w (((w.alloc (.cells (bV b A c) 26)).alloc (.cells (sV s) 28)).alloc (.cells #[.int .i64 run.tide, .int .i64 run.bal, .slice P ps.length pc, .int .i64 g] 52))) :=
    ⟨(((Blk.new w 26 (bV b A c)).alloc (.cells (sV s) 28)).alloc _).beach, ((Blk.new1 w (.cells (bV b A c) 26) 28 (sV s)).alloc _).ship, ⟨hx.cell 0, hx.cell 1⟩, hp.keep hs0.1, hq.keep hs0.1, hs0⟩
  have HX0 := Lib.hid hx
  clear hs0 hx
  obtain ⟨x, y, e0, L1, L2⟩ := lies_two b s run ps
  obtain ⟨n, e1, L3⟩ := later_two b s run g
  go_enter Try.func6, Try.ntmps6
  obtain ⟨⟨c0, c1, c2, c3, c4, c5⟩, ⟨d0, d1, d2⟩, ⟨r0, r1⟩, _, _, _⟩ := HE0.out
  have x2 := HX0.out.cell 2
  have x3 := HX0.out.cell 3
  go_wp2_with fail
  refine (tlies_c b s A c run P ps pc _ HE0.out.ts HE0.out.pq).mono ?_
  rintro e w1 ⟨rfl, hb⟩
  rw [L1]
  have hbn := hb.alloc hb.size (.cells #[.int .i64 x, .int .i64 y] 23)
  have HE1 := Lib.hid (HE0.out.keep hbn)
  have HX1 := Lib.hid (HX0.out.keep hbn)
  have HA1 := Lib.hid (show C2 w1.heap.size x y _ from (Blk.new w1 23 #[.int .i64 x, .int .i64 y]).span)
  clear HE0 HX0 hb hbn c0 c1 c2 c3 c4 c5 d0 d1 d2 r0 r1 x2 x3
  obtain ⟨⟨c0, c1, c2, c3, c4, c5⟩, ⟨d0, d1, d2⟩, ⟨r0, r1⟩, _, _, _⟩ := HE1.out
  have x2 := HX1.out.cell 2
  have x3 := HX1.out.cell 3
  go_wp2_with fail
  obtain ⟨gA, hg⟩ : ∃ gA, w1.heap.size = gA := ⟨_, rfl⟩
  rw [hg] at HA1 ⊢
  clear hg
  refine (rlies_c b s A c run P ps pc _ HE1.out.ts HE1.out.pq).mono ?_
  rintro e w2 ⟨rfl, hb⟩
  rw [L2]
  have hbn := hb.alloc hb.size (.cells #[.int .i64 x, .int .i64 y] 23)
  have HE2 := Lib.hid (HE1.out.keep hbn)
  have HX2 := Lib.hid (HX1.out.keep hbn)
  obtain ⟨A0, A1⟩ := HA1.out.keep hbn
  obtain ⟨B0, B1⟩ := show C2 w2.heap.size x y _ from (Blk.new w2 23 #[.int .i64 x, .int .i64 y]).span
  clear HE1 HX1 HA1 hb hbn c0 c1 c2 c3 c4 c5 d0 d1 d2 r0 r1 x2 x3
  obtain ⟨⟨c0, c1, c2, c3, c4, c5⟩, ⟨d0, d1, d2⟩, ⟨r0, r1⟩, _, _, _⟩ := HE2.out
  have x2 := HX2.out.cell 2
  have x3 := HX2.out.cell 3
  go_wp2_with fail
  refine (later_c b s A c run g _ HE2.out.ts).mono ?_
  rintro e w3 ⟨rfl, hb⟩
  rw [L3]
  have HE3 := Lib.hid (HE2.out.keep hb)
  have HX3 := Lib.hid (HX2.out.keep hb)
  clear HE2 HX2 hb c0 c1 c2 c3 c4 c5 d0 d1 d2 r0 r1 x2 x3 A0 A1 B0 B1
  obtain ⟨⟨c0, c1, c2, c3, c4, c5⟩, ⟨d0, d1, d2⟩, ⟨r0, r1⟩, _, _, _⟩ := HE3.out
  have x2 := HX3.out.cell 2
  have x3 := HX3.out.cell 3
  go_wp2_with fail
  refine (rlater_c b s A c run g _ HE3.out.ts).mono ?_
  rintro e w4 ⟨rfl, hb⟩
  rw [L3]
  have HE4 := Lib.hid (HE3.out.keep hb)
  clear HE3 HX3 hb c0 c1 c2 c3 c4 c5 d0 d1 d2 r0 r1 x2 x3
  go_wp2_with fail
  refine (awake_c _).mono ?_
  rintro e w5 ⟨rfl, hb⟩
  go_wp2_with fail
  go_ret
  exact ⟨rfl, (HE4.out.keep hb).sn.1⟩
end Td
end Go.Proofs.Ytojpiliamecgkaa
