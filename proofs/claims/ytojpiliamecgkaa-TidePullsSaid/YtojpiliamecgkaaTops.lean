import Derived.Test.YtojpiliamecgkaaEarl
import Derived.Test.YtojpiliamecgkaaPlainC
namespace Go.Proofs.Ytojpiliamecgkaa
open Go.RowKit
namespace Td
set_option linter.unusedSimpArgs false
set_option linter.unusedVariables false
/-- what Stops comes to. -/
def stopsV (b : Bch) (s : Shp) (tide bal : Int) : Value :=
  if stepE b s tide bal = 0 then .tuple #[.agg #[.int .i64 (rlo (bx b s tide.toNat) (-s.sink * bal)), .int .i64 (rhi (bx b s tide.toNat) (-s.sink * bal))], .int .i64 0]
  else .tuple #[.agg #[.int .i64 0, .int .i64 0], .int .i64 (stepE b s tide bal)]
theorem stepE_chk {b : Bch} {s : Shp} {tide bal : Int} (h : (chk b s).2.2 ≠ 0) : stepE b s tide bal = (chk b s).2.2 := by simp [stepE, h]
theorem stepE_run {b : Bch} {s : Shp} {tide bal : Int} (h : (chk b s).2.2 = 0) : stepE b s tide bal = runE b.ts.length tide bal := by simp [stepE, h]
theorem runE_zero {n : Nat} {tide bal : Int} : runE n tide bal = 0 ↔ (0 ≤ tide ∧ tide < n) ∧ 0 ≤ bal ∧ bal ≤ 40 := by
  unfold runE
  cases h1 : wi 0 ((n : Int) - 1) tide with
  | false =>
    have := wi_no.1 h1
    simp; omega
  | true =>
    have := wi_iff.1 h1
    cases h2 : wi 0 40 bal with
    | false =>
      have := wi_no.1 h2
      simp; omega
    | true =>
      have := wi_iff.1 h2
      simp; omega
theorem lookV_no {b : Bch} {s : Shp} {A : Option Addr} {c : Nat} {tide bal : Int} (h : (chk b s).2.2 ≠ 0) : lookV b s A c tide bal = .tuple #[.agg shore0, .int .i64 (stepE b s tide bal)] := by simp [lookV, h, stepE]
theorem lookV_yes {b : Bch} {s : Shp} {A : Option Addr} {c : Nat} {tide bal : Int} (h : (chk b s).2.2 = 0) : lookV b s A c tide bal = .tuple #[.agg (shV b A c s), .int .i64 (stepE b s tide bal)] := by simp [lookV, h, stepE]
abbrev shoreZ : Array Value := #[.int .i64 0, .int .i64 0, .int .i64 0, .int .i64 0, .int .i64 0, .slice none 0 0, .int .i64 0, .int .i64 0, .int .i64 0]
/-- what look comes to, where there is an error: some shore. -/
theorem lookV_some (b : Bch) (s : Shp) (A : Option Addr) (c : Nat) (tide bal : Int) : lookV b s A c tide bal = .tuple #[.agg (shV b A c s), .int .i64 (stepE b s tide bal)] ∨ lookV b s A c tide bal = .tuple #[.agg shoreZ, .int .i64 (stepE b s tide bal)] := by
  by_cases h : (chk b s).2.2 = 0
  · exact .inl (lookV_yes h)
  · exact .inr (lookV_no h)
set_option maxRecDepth 100000 in
set_option maxHeartbeats 4000000 in
theorem stops_c (b : Bch) (s : Shp) (A : Option Addr) (c : Nat) (tide bal : Int) (w : World) (hp : TsAt w A b.ts) :
    Calls Try.prog 18 #[.agg (bV b A c), .agg (sV s), .int .i64 tide, .int .i64 bal] w fun e w' => e = .returned (stopsV b s tide bal) ∧ Below w.heap.size w w' := by
  have hs0 := ((((Since.refl w).alloc (.cells (bV b A c) 26)).alloc (.cells (sV s) 28)).alloc (.cells #[.int .i64 0, .int .i64 0] 23)).alloc (.cells #[.int .i64 tide, .int .i64 bal] 49)
  have HR0 := Lib.hid ((Blk.new2 w (.cells (bV b A c) 26) (.cells (sV s) 28) 23 #[.int .i64 0, .int .i64 0]).alloc (.cells #[.int .i64 tide, .int .i64 bal] 49))
  have HP0 := Lib.hid (Blk.new3 w (.cells (bV b A c) 26) (.cells (sV s) 28) (.cells #[.int .i64 0, .int .i64 0] 23) 49 #[.int .i64 tide, .int .i64 bal])
  go_enter Try.func18, Try.ntmps18
  go_wp2_with fail
  refine (look_c b s A c tide bal _ (hp.keep hs0.1)).mono ?_
  rintro e w1 ⟨rfl, hb1⟩
  have hs1 := hs0.keep hb1
  have HR1 := Lib.hid (HR0.out.keep hb1)
  have HP1 := Lib.hid (HP0.out.keep hb1)
  clear HR0 HP0 hs0
  have hz := HP1.out.lt
  by_cases hc : stepE b s tide bal = 0
  · have hk : (chk b s).2.2 = 0 := Classical.byContradiction fun h => h (by rw [← stepE_chk (tide := tide) (bal := bal) h]; exact hc)
    have HV : Hid (stopsV b s tide bal = .tuple #[.agg #[.int .i64 (rlo (bx b s tide.toNat) (-s.sink * bal)), .int .i64 (rhi (bx b s tide.toNat) (-s.sink * bal))], .int .i64 0]) := by show _ = _; simp [stopsV, hc]
    obtain ⟨hB, hS⟩ := chk_ok.1 hk
    have hr := hc
    rw [stepE_run hk, runE_zero] at hr
    obtain ⟨⟨r0, r1⟩, r2, r3⟩ := hr
    obtain ⟨i, rfl⟩ : ∃ i : Nat, tide = i := ⟨tide.toNat, by omega⟩
    rw [Int.toNat_natCast] at HV
    rw [lookV_yes hk, hc]
    clear hc hk
    have hi : i < b.ts.length := by omega
    have hl : b.ts.length ≤ 1000 := by have := hB.n1; omega
    have HL := Lib.hid (lift_bd hS r2 r3)
    have hs2 := hs1.alloc (.cells (shV b A c s) 95)
    have HR2 := Lib.hid (HR1.out.alloc (.cells (shV b A c s) 95))
    have HP2 := Lib.hid (HP1.out.alloc (.cells (shV b A c s) 95))
    have HL2 := Lib.hid (Blk.new w1 95 (shV b A c s))
    clear HR1 HP1
    go_wp2_with (first | (refine wpList_load_row rfl 95 _ rfl (w1.heap.size) rfl 95 (shV b A c s) (0, 0) _ HL2.out Try.underlying95 rfl (by kernel_rfl) ?_) | (refine wpList_load_row rfl 49 _ rfl (w.heap.size + 1 + 1 + 1) rfl 49 (#[.int .i64 i, .int .i64 bal]) (0, 0) _ HP2.out Try.underlying49 rfl (by kernel_rfl) ?_))
    refine (on_c b A c s i bal _ (hp.keep hs2.1) hi hl hS.k0 hS.k1 r2 (by omega)).mono ?_
    rintro e w2 ⟨rfl, hb2⟩
    have hs3 := hs2.keep hb2
    have HR3 := Lib.hid (HR2.out.keep hb2)
    go_wp2_with fail
    refine (reach_c b A c s (bx b s i) _ _ (bx_ok hB hS hi) HL.out.1 HL.out.2).mono ?_
    rintro e w3 ⟨rfl, hb3⟩
    have hs4 := hs3.keep hb3
    have HR4 := Lib.hid (HR3.out.keep hb3)
    go_wp2_with (refine wpList_store_row rfl 23 _ _ rfl (w.heap.size + 1 + 1) _ rfl rfl 23 _ HR4.out (by kernel_rfl) rfl (by simp [Value.oneCell']) ?_)
    refine bodyPost_ret (results_cell_tmp Try.results18 _ _ (w.heap.size + 1 + 1) 23 _ (0, 0) _ rfl (HR4.out.row _) Try.underlying23 rfl (by kernel_rfl)) rfl ⟨?_, ?_⟩
    · rw [HV.out]; rfl
    · exact (hs4.row (by omega) _).1
  · have HV : Hid (stopsV b s tide bal = .tuple #[.agg #[.int .i64 0, .int .i64 0], .int .i64 (stepE b s tide bal)]) := by show _ = _; simp [stopsV, hc]
    have hc' : (stepE b s tide bal != 0) = true := by simpa using hc
    clear hc
    rcases lookV_some b s A c tide bal with hL | hL
    all_goals
      rw [hL]
      clear hL
      go_wp2_with (refine wpList_store_row rfl 23 _ _ rfl (w.heap.size + 1 + 1) _ rfl rfl 23 _ (HR1.out.alloc _) (by kernel_rfl) rfl (by simp [Value.oneCell']) ?_)
      refine bodyPost_ret (results_cell_tmp Try.results18 _ _ (w.heap.size + 1 + 1) 23 _ (0, 0) _ rfl ((HR1.out.alloc _).row _) Try.underlying23 rfl (by kernel_rfl)) rfl ⟨?_, ?_⟩
      · rw [HV.out]; rfl
      · exact ((hs1.alloc _).row (by omega) _).1
end Td
end Go.Proofs.Ytojpiliamecgkaa
