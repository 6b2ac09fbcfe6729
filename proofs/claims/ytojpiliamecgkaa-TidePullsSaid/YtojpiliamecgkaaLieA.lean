import Derived.Test.YtojpiliamecgkaaTopsC
namespace Go.Proofs.Ytojpiliamecgkaa
open Go.RowKit
namespace Td
set_option linter.unusedSimpArgs false
set_option linter.unusedVariables false
abbrev puV (p : Pul) : Array Value := #[.int .i64 p.tide, .int .i64 p.bal]
theorem Blk.pull {w : World} {g : Nat} {t : TypeId} {p : Pul} (h : Blk w g t (puV p)) : w.cell? ⟨g, 0, none⟩ = some (.int .i64 p.tide) ∧ w.cell? ⟨g, 1, none⟩ = some (.int .i64 p.bal) := ⟨h.cell 0, h.cell 1⟩
theorem Blk.shore {w : World} {g : Nat} {t : TypeId} {b : Bch} {A : Option Addr} {c : Nat} {s : Shp} (h : Blk w g t (shV b A c s)) :
    w.cell? ⟨g, 0, none⟩ = some (.int .i64 b.slo) ∧ w.cell? ⟨g, 1, none⟩ = some (.int .i64 b.shi) ∧ w.cell? ⟨g, 2, none⟩ = some (.int .i64 b.mlo) ∧ w.cell? ⟨g, 3, none⟩ = some (.int .i64 b.mhi) ∧ w.cell? ⟨g, 4, none⟩ = some (.int .i64 b.bite) ∧ w.cell? ⟨g, 5, none⟩ = some (.slice A b.ts.length c) ∧
    w.cell? ⟨g, 6, none⟩ = some (.int .i64 s.dlo) ∧ w.cell? ⟨g, 7, none⟩ = some (.int .i64 s.dhi) ∧ w.cell? ⟨g, 8, none⟩ = some (.int .i64 s.sink) :=
  ⟨h.cell 0, h.cell 1, h.cell 2, h.cell 3, h.cell 4, h.cell 5, h.cell 6, h.cell 7, h.cell 8⟩
theorem pullsFrom_at {n : Nat} {prev : Int} {ps : List Pul} {k : Nat} (hk : k < ps.length) : pullsFrom n prev (ps.drop k) = if pullAtE n prev ps[k] ≠ 0 then pullAtE n prev ps[k] else pullsFrom n ps[k].tide (ps.drop (k + 1)) := by
  rw [List.drop_eq_getElem_cons hk]
  rfl
theorem pullsFrom_end {n : Nat} {prev : Int} {ps : List Pul} {k : Nat} (hk : ps.length ≤ k) : pullsFrom n prev (ps.drop k) = 0 := by
  rw [List.drop_eq_nil_of_le hk]
  rfl
set_option maxRecDepth 100000 in
set_option maxHeartbeats 4000000 in
theorem pullsFault_c (b : Bch) (A : Option Addr) (c : Nat) (s : Shp) (run : Pul) (P : Option Addr) (ps : List Pul) (pc : Nat) (w : World) (hl : b.ts.length ≤ 1000) (hq : PuAt w P ps) :
    Calls Try.prog 69 #[.agg (shV b A c s), .agg (puV run), .slice P ps.length pc] w fun e w' => e = .returned (.int .i64 (pullsE b.ts.length run ps)) ∧ Below w.heap.size w w' := by
  by_cases h6 : 6 < ps.length
  · have HV : Hid (pullsE b.ts.length run ps = 3) := by show _ = _; simp [pullsE, h6]
    go_enter Try.func69, Try.ntmps69
    go_wp2_with fail
    go_ret
    exact ⟨ret_int HV.out.symm, ((Below.refl _ _).alloc (Nat.le_refl _) _).alloc (by simp) _⟩
  · have HV : Hid (pullsE b.ts.length run ps = pullsFrom b.ts.length run.tide (ps.drop 0)) := by show _ = _; simp [pullsE, h6]
    have hs0 := ((Since.refl w).alloc (.cells (shV b A c s) 95)).alloc (.cells (puV run) 49)
    have HB0 := Lib.hid ((Blk.new w 95 (shV b A c s)).alloc (.cells (puV run) 49))
    go_enter Try.func69, Try.ntmps69
    go_wp2_with fail
    obtain ⟨W0, hW0⟩ : ∃ W0, (w.alloc (.cells (shV b A c s) 95)).alloc (.cells (puV run) 49) = W0 := ⟨_, rfl⟩
    rw [hW0] at hs0 HB0 ⊢
    clear hW0
    go_loopw [7, 9, 10, 18] (fun p _ _ i wr => ∃ (k : Nat) (prev : Int), k ≤ ps.length ∧ i = .int .i64 k ∧ p = .int .i64 prev ∧ Since W0 wr ∧ Hid (pullsE b.ts.length run ps = pullsFrom b.ts.length prev (ps.drop k))) (fun _ _ _ i _ => ps.length - (intOf i).toNat)
    case atStart => exact ⟨0, run.tide, Nat.zero_le _, rfl, rfl, Since.refl _, HV⟩
    case round =>
      clear HV
      obtain ⟨k, prev, hk, rfl, rfl, hsn, HV⟩ := hrel
      have hsw := hs0.keep (hsn.1)
      by_cases hlt : k < ps.length
      · obtain ⟨ad, hA, c0, c1⟩ := hq.get hlt
        subst hA
        have c0' := keep_cell hsw.1 c0
        have c1' := keep_cell hsw.1 c1
        clear c0 c1
        have HS := Lib.hid (pullsFrom_at (n := b.ts.length) (prev := prev) hlt)
        have HB1 := Lib.hid ((HB0.out.keep hsn.1).alloc (.cells (puV ps[k]) 49))
        have hs1 := hsn.alloc (.cells (puV ps[k]) 49)
        have HP1 := Lib.hid (Blk.new wr 49 (puV ps[k]))
        go_wp2_with (first | (refine wpList_load_row rfl 95 _ rfl (w.heap.size) rfl 95 (shV b A c s) (0, 0) _ HB1.out Try.underlying95 rfl (by kernel_rfl) ?_))
        refine (fault_c b s A c ps[k].tide ps[k].bal _ hl).mono ?_
        rintro e w2 ⟨rfl, hb2⟩
        have hs2 := hs1.keep hb2
        obtain ⟨d0, d1⟩ := (HP1.out.keep hb2).pull
        by_cases he : runE b.ts.length ps[k].tide ps[k].bal = 0
        · rw [he]
          by_cases ht : ps[k].tide ≤ prev
          · have HE : Hid (pullsE b.ts.length run ps = 2) := by show _ = _; rw [HV.out, HS.out]; simp [pullAtE, he, ht]
            go_wp2_with fail
            go_ret
            exact ⟨ret_int HE.out.symm, (hs0.keep hs2.1).1⟩
          · have HE : Hid (pullsE b.ts.length run ps = pullsFrom b.ts.length ps[k].tide (ps.drop (k + 1))) := by show _ = _; rw [HV.out, HS.out]; simp [pullAtE, he, ht]
            go_wp2_with fail
            go_roundw
            case rel => exact ⟨k + 1, ps[k].tide, by omega, by go_num, rfl, hs2, HE⟩
            case measure => simp [intOf]; omega
        · have HE : Hid (pullsE b.ts.length run ps = runE b.ts.length ps[k].tide ps[k].bal) := by show _ = _; rw [HV.out, HS.out]; simp [pullAtE, he]
          have he' : (runE b.ts.length ps[k].tide ps[k].bal != 0) = true := by simpa using he
          clear he
          go_wp2_with fail
          go_ret
          exact ⟨ret_int HE.out.symm, (hs0.keep hs2.1).1⟩
      · have HE : Hid (pullsE b.ts.length run ps = 0) := by show _ = _; rw [HV.out, pullsFrom_end (by omega)]
        go_wp2_with fail
        go_ret
        exact ⟨ret_int HE.out.symm, hsw.1⟩
end Td
end Go.Proofs.Ytojpiliamecgkaa
