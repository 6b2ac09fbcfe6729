import Derived.Test.YtojpiliamecgkaaTops
namespace Go.Proofs.Ytojpiliamecgkaa
open Go.RowKit
namespace Td
set_option linter.unusedSimpArgs false
set_option linter.unusedVariables false
theorem stepE_ok {b : Bch} {s : Shp} {tide bal : Int} (hc : stepE b s tide bal = 0) : (chk b s).2.2 = 0 ∧ (0 ≤ tide ∧ tide < b.ts.length) ∧ 0 ≤ bal ∧ bal ≤ 40 := by
  have hk : (chk b s).2.2 = 0 := Classical.byContradiction fun h => h (by rw [← stepE_chk (tide := tide) (bal := bal) h]; exact hc)
  exact ⟨hk, by rw [stepE_run hk, runE_zero] at hc; exact hc⟩
/-- what Least comes to. -/
def leastV (b : Bch) (s : Shp) (tide : Int) : Value :=
  if stepE b s tide 0 = 0 then .tuple #[.int .i64 (earl (firstFrom (doesB b s) tide.toNat 1)).2.1, .int .i64 (earl (firstFrom (doesB b s) tide.toNat 1)).2.2]
  else .tuple #[.int .i64 0, .int .i64 (stepE b s tide 0)]
set_option maxRecDepth 100000 in
set_option maxHeartbeats 4000000 in
theorem tleast_c (b : Bch) (s : Shp) (A : Option Addr) (c : Nat) (tide : Int) (w : World) (hp : TsAt w A b.ts) :
    Calls Try.prog 24 #[.agg (bV b A c), .agg (sV s), .int .i64 tide] w fun e w' => e = .returned (leastV b s tide) ∧ Below w.heap.size w w' := by
  have hs0 := ((Since.refl w).alloc (.cells (bV b A c) 26)).alloc (.cells (sV s) 28)
  go_enter Try.func24, Try.ntmps24
  go_wp2_with fail
  refine (look_c b s A c tide 0 _ (hp.keep hs0.1)).mono ?_
  rintro e w1 ⟨rfl, hb1⟩
  have hs1 := hs0.keep hb1
  clear hs0
  by_cases hc : stepE b s tide 0 = 0
  · have hk : (chk b s).2.2 = 0 := Classical.byContradiction fun h => h (by rw [← stepE_chk (tide := tide) (bal := 0) h]; exact hc)
    have HV : Hid (leastV b s tide = .tuple #[.int .i64 (earl (firstFrom (doesB b s) tide.toNat 1)).2.1, .int .i64 (earl (firstFrom (doesB b s) tide.toNat 1)).2.2]) := by show _ = _; simp [leastV, hc]
    obtain ⟨hB, hS⟩ := chk_ok.1 hk
    have hr := hc
    rw [stepE_run hk, runE_zero] at hr
    obtain ⟨⟨r0, r1⟩, r2, r3⟩ := hr
    obtain ⟨i, rfl⟩ : ∃ i : Nat, tide = i := ⟨tide.toNat, by omega⟩
    rw [Int.toNat_natCast] at HV
    rw [lookV_yes hk, hc]
    clear hc hk
    have hi : i < b.ts.length := by omega
    have hl : i ≤ 12 := by have := hB.n1; omega
    have hs2 := hs1.alloc (.cells (shV b A c s) 95)
    have HL2 := Lib.hid (Blk.new w1 95 (shV b A c s))
    go_wp2_with (first | (refine wpList_load_row rfl 95 _ rfl (w1.heap.size) rfl 95 (shV b A c s) (0, 0) _ HL2.out Try.underlying95 rfl (by kernel_rfl) ?_))
    rw [show ((i : Int) + 1) = ((i + 1 : Nat) : Int) from by omega]
    refine (earliest_c b A c s i (i + 1) _ (hp.keep hs2.1) hB hS (by omega) (by omega)).mono ?_
    rintro e w2 ⟨rfl, hb2⟩
    have hs3 := hs2.keep hb2
    rw [show i + 1 - i = 1 from by omega]
    go_wp2_with fail
    go_ret2
    exact ⟨by rw [HV.out]; first | done | rfl, hs3.1⟩
  · have HV : Hid (leastV b s tide = .tuple #[.int .i64 0, .int .i64 (stepE b s tide 0)]) := by show _ = _; simp [leastV, hc]
    have hc' : (stepE b s tide 0 != 0) = true := by simpa using hc
    clear hc
    rcases lookV_some b s A c tide 0 with hL | hL
    all_goals
      rw [hL]
      clear hL
      go_wp2_with fail
      go_ret2
      exact ⟨by rw [HV.out]; first | done | rfl, (hs1.alloc _).1⟩
/-- how many tides are before a day. -/
def frm (ts : List Tid) (day : Int) : Nat := (ts.takeWhile fun t => decide (t.day < day)).length
theorem frm_eq {day : Int} : ∀ {ts : List Tid} {k : Nat}, k ≤ ts.length → (∀ j (h : j < ts.length), j < k → ts[j].day < day) → (∀ h : k < ts.length, ¬ ts[k].day < day) → frm ts day = k
  | [], k, h, _, _ => by simp at h; simp [frm, h]
  | t :: ts, 0, _, _, h2 => by
    have := h2 (by simp)
    simp [frm, List.takeWhile, show ¬ t.day < day from this]
  | t :: ts, k + 1, h, h1, h2 => by
    have h0 := h1 0 (by simp) (by omega)
    have ih := frm_eq (day := day) (ts := ts) (k := k) (by simpa using h) (fun j hj hk => by have := h1 (j + 1) (by simpa using hj) (by omega); simpa using this) (fun hk => by have := h2 (by simpa using hk); simpa using this)
    have h0' : t.day < day := by simpa using h0
    unfold frm at ih ⊢
    simp [List.takeWhile, h0', ih]
/-- what First comes to. -/
def firstV (b : Bch) (s : Shp) (day : Int) : Value :=
  if (chk b s).2.2 = 0 then
    if wi 0 40000 day then .tuple #[.int .i64 (earl (firstFrom (doesB b s) (frm b.ts day) (b.ts.length - frm b.ts day))).1, .int .i64 (earl (firstFrom (doesB b s) (frm b.ts day) (b.ts.length - frm b.ts day))).2.1, .int .i64 (earl (firstFrom (doesB b s) (frm b.ts day) (b.ts.length - frm b.ts day))).2.2]
    else .tuple #[.int .i64 0, .int .i64 0, .int .i64 7]
  else .tuple #[.int .i64 0, .int .i64 0, .int .i64 (chk b s).2.2]
end Td
end Go.Proofs.Ytojpiliamecgkaa
