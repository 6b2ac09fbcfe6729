import Derived.Test.YtojpiliamecgkaaRefA
import Derived.Test.YtojpiliamecgkaaLieC
import Derived.Test.YtojpiliamecgkaaEnv
import Derived.Test.YtojpiliamecgkaaVals6
import Derived.Test.YtojpiliamecgkaaVals9
/- The reference's error of a run and pulls. -/
namespace Go.Proofs.Ytojpiliamecgkaa
open Go.RowKit
namespace Td
set_option linter.unusedSimpArgs false
set_option linter.unusedVariables false
def planE (b : Bch) (s : Shp) (run : Pul) (ps : List Pul) : Int := if stepE b s run.tide run.bal = 0 then pullsE b.ts.length run ps else stepE b s run.tide run.bal
/-- what a function over a beach, a ship, a run and pulls holds in memory. -/
structure RPs (gb gs gr : Nat) (b : Bch) (A : Option Addr) (c : Nat) (s : Shp) (run : Pul) (P : Option Addr) (ps : List Pul) (w X : World) : Prop where
  sb : SB gb b A c X
  ss : SS gs s X
  r : C2 gr run.tide run.bal X
  ts : TsAt X A b.ts
  pq : PuAt X P ps
  sn : Since w X
section
variable {gb gs gr : Nat} {b : Bch} {A : Option Addr} {c : Nat} {s : Shp} {run : Pul} {P : Option Addr} {ps : List Pul} {w X Y : World}
theorem RPs.keep (h : RPs gb gs gr b A c s run P ps w X) (hb : Below X.heap.size X Y) : RPs gb gs gr b A c s run P ps w Y := ⟨h.sb.keep hb, h.ss.keep hb, h.r.keep hb, h.ts.keep hb, h.pq.keep hb, h.sn.keep hb⟩
theorem RPs.drew (h : RPs gb gs gr b A c s run P ps w X) : RPs gb gs gr b A c s run P ps w X.drew := h.keep ((Below.refl _ _).drew)
theorem RPs.start (w : World) (b : Bch) (A : Option Addr) (c : Nat) (s : Shp) (run : Pul) (P : Option Addr) (ps : List Pul) (hp : TsAt w A b.ts) (hq : PuAt w P ps) :
    RPs w.heap.size (w.heap.size + 1) (w.heap.size + 1 + 1) b A c s run P ps w (((w.alloc (.cells (bV b A c) 26)).alloc (.cells (sV s) 28)).alloc (.cells (puV run) 49)) := by
  have hs0 := (((Since.refl w).alloc (.cells (bV b A c) 26)).alloc (.cells (sV s) 28)).alloc (.cells (puV run) 49)
  exact ⟨(((Blk.new w 26 (bV b A c)).alloc (.cells (sV s) 28)).alloc _).beach, ((Blk.new1 w (.cells (bV b A c) 26) 28 (sV s)).alloc _).ship, (Blk.new2 w (.cells (bV b A c) 26) (.cells (sV s) 28) 49 (puV run)).pull, hp.keep hs0.1, hq.keep hs0.1, hs0⟩
end
set_option maxRecDepth 100000 in
set_option maxHeartbeats 8000000 in
theorem rplan_c (b : Bch) (s : Shp) (A : Option Addr) (c : Nat) (run : Pul) (P : Option Addr) (ps : List Pul) (pc : Nat) (w : World) (hp : TsAt w A b.ts) (hq : PuAt w P ps) :
    Calls Try.prog 71 #[.agg (bV b A c), .agg (sV s), .agg (puV run), .slice P ps.length pc] w fun e w' => e = .returned (.int .i64 (planE b s run ps)) ∧ Below w.heap.size w w' := by
  have HE0 := Lib.hid (RPs.start w b A c s run P ps hp hq)

  go_enter Try.func71, Try.ntmps71
  obtain ⟨⟨c0, c1, c2, c3, c4, c5⟩, ⟨d0, d1, d2⟩, ⟨r0, r1⟩, _, _, _⟩ := HE0.out
  go_wp2_with fail
  refine (step_c b s A c run.tide run.bal _ HE0.out.ts).mono ?_
  rintro e w1 ⟨rfl, hb⟩
  have hE1 := HE0.out.keep hb
  clear HE0 hb c0 c1 c2 c3 c4 c5 d0 d1 d2 r0 r1
  obtain ⟨⟨c0, c1, c2, c3, c4, c5⟩, ⟨d0, d1, d2⟩, ⟨r0, r1⟩, _, _, _⟩ := id hE1
  by_cases h0 : stepE b s run.tide run.bal = 0
  · obtain ⟨hk, hr1, hr2, hr3⟩ := stepE_ok h0
    have hPL : planE b s run ps = pullsE b.ts.length run ps := by unfold planE; rw [if_pos h0]
    rw [h0]
    by_cases h6 : 6 < ps.length
    · have HV : Hid (planE b s run ps = 3) := by show _ = _; rw [hPL]; unfold pullsE; rw [if_pos h6]
      clear hPL h0
      go_wp2_with fail
      go_loopw [9, 10, 11] (fun e _ i wr => e = .int .i64 3 ∧ (∃ k : Nat, k ≤ ps.length ∧ i = .int .i64 k) ∧ Since w wr) (fun _ _ i _ => ps.length - (intOf i).toNat)
      case atStart => exact ⟨rfl, ⟨0, Nat.zero_le _, rfl⟩, hE1.sn⟩
      case round =>
        obtain ⟨rfl, ⟨k, hk, rfl⟩, hsw⟩ := hrel
        by_cases hlt : k < ps.length
        all_goals
          go_wp2_with fail
          go_ret
          exact ⟨ret_int (by rw [HV.out]), hsw.1⟩
    · have HV : Hid (planE b s run ps = pullsFrom b.ts.length run.tide ps) := by show _ = _; rw [hPL]; unfold pullsE; rw [if_neg h6]
      clear hPL h0
      go_wp2_with fail
      clear c0 c1 c2 c3 c4 c5 d0 d1 d2 r0 r1
      obtain ⟨F, hF⟩ : ∃ F, pullsFrom b.ts.length run.tide ps = F := ⟨_, rfl⟩
      rw [hF] at HV
      go_loopw [9, 10, 11] (fun e l i wr => ∃ (k : Nat) (ev last : Int), k ≤ ps.length ∧ i = .int .i64 k ∧ e = .int .i64 ev ∧ l = .int .i64 last ∧ RPs w.heap.size (w.heap.size + 1) (w.heap.size + 1 + 1) b A c s run P ps w wr ∧ Hid ((ev = 0 ∧ pullsFrom b.ts.length last (ps.drop k) = F) ∨ (ev ≠ 0 ∧ ev = F))) (fun _ _ i _ => ps.length - (intOf i).toNat)
      case atStart => exact ⟨0, 0, run.tide, Nat.zero_le _, rfl, rfl, rfl, hE1, .inl ⟨rfl, by simpa using hF⟩⟩
      case round =>
        obtain ⟨k, ev, last, hkl, rfl, rfl, rfl, hE, HI⟩ := hrel
        by_cases hlt : k < ps.length
        · by_cases hev : ev = 0
          · subst hev
            have hI : pullsFrom b.ts.length last (ps.drop k) = F := by
              rcases HI.out with ⟨_, h⟩ | ⟨h, _⟩
              · exact h
              · exact absurd rfl h
            rw [List.drop_eq_getElem_cons hlt] at hI
            obtain ⟨ad, hA, _⟩ := hE.pq.get hlt
            subst hA
            obtain ⟨E, hEE⟩ : ∃ E, stepE b s ps[k].tide ps[k].bal = E := ⟨_, rfl⟩
            have HE := Lib.hid hEE
            rw [stepE_run hk] at hEE
            unfold pullsFrom pullAtE at hI
            rw [hEE] at hI
            have HF := Lib.hid hI
            clear hEE hI HI
            go_wp2_with fail
            refine Vals9.region (fun _ X => RPs (w.heap.size) (w.heap.size + 1) (w.heap.size + 1 + 1) b A c s run (some ad) ps w X) [some 38, some 39, some 40, some 41, some 42, some 43, some 44, some 45, some 46, some 47, some 48, some 49, some 50, some 9] [.is (.agg (bV b A c)), .is (.agg (sV s)), .is (.slice (some ad) ps.length pc), .is (.int .i64 (k : Int)), .is (.pointer (some (ad.add (k * 2)))), .is (.pointer (some (ad.add (k * 2)))), .is (.int .i64 ps[k].tide), .is (.slice (some ad) ps.length pc), .is (.int .i64 (k : Int)), .is (.pointer (some (ad.add (k * 2)))), .is (.pointer (some (at_ (ad.add (k * 2)) 1))), .is (.int .i64 ps[k].bal), .is (.int .i64 E), .is (.int .i64 E)] (by kernel_rfl) (by kernel_rfl) (by kernel_rfl) (by kernel_rfl) (by kernel_rfl) (by kernel_rfl) (hE.drew) ?_ ?_
            · refine Vals9.Steps.run (by kernel_rfl) ?_ ?_
              · intro a W σ hJ pre K hK
                have e4 : a.tmps.getD 4 undef = .pointer (some ⟨w.heap.size, 0, none⟩) := pre.2.2 4 _ (by kernel_rfl) rfl
                clear pre
                simp only [Array.getD_eq_getD_getElem?] at e4
                have hS9 := hJ
                obtain ⟨⟨s0, s1, s2, s3, s4, s5⟩, ⟨d0, d1, d2⟩, ⟨r0, r1⟩, ts, pq, sn⟩ := hS9
                obtain ⟨ad', hA', y0, y1⟩ := pq.get hlt
                obtain rfl : ad = ad' := by simpa using hA'
                go_simp
                exact hK _ hJ
              refine Vals9.Steps.run (by kernel_rfl) ?_ ?_
              · intro a W σ hJ pre K hK
                have e5 : a.tmps.getD 5 undef = .pointer (some ⟨w.heap.size + 1, 0, none⟩) := pre.2.2 5 _ (by kernel_rfl) rfl
                clear pre
                simp only [Array.getD_eq_getD_getElem?] at e5
                have hS9 := hJ
                obtain ⟨⟨s0, s1, s2, s3, s4, s5⟩, ⟨d0, d1, d2⟩, ⟨r0, r1⟩, ts, pq, sn⟩ := hS9
                obtain ⟨ad', hA', y0, y1⟩ := pq.get hlt
                obtain rfl : ad = ad' := by simpa using hA'
                go_simp
                exact hK _ hJ
              refine Vals9.Steps.run (by kernel_rfl) ?_ ?_
              · intro a W σ hJ pre K hK
                have e3 : a.tmps.getD 3 undef = .slice (some ad) ps.length pc := pre.2.2 3 _ (by kernel_rfl) rfl
                clear pre
                simp only [Array.getD_eq_getD_getElem?] at e3
                go_simp
                exact hK _ hJ
              refine Vals9.Steps.run (by kernel_rfl) ?_ ?_
              · intro a W σ hJ pre K hK
                have e11 : a.tmps.getD 11 undef = .int .i64 (k : Int) := pre.2.2 11 _ (by kernel_rfl) rfl
                clear pre
                simp only [Array.getD_eq_getD_getElem?] at e11
                go_simp
                exact hK _ hJ
              refine Vals9.Steps.run (by kernel_rfl) ?_ ?_
              · intro a W σ hJ pre K hK
                have e40 : a.tmps.getD 40 undef = .slice (some ad) ps.length pc := pre.1 2 40 _ (by kernel_rfl) rfl rfl
                have e41 : a.tmps.getD 41 undef = .int .i64 (k : Int) := pre.1 3 41 _ (by kernel_rfl) rfl rfl
                clear pre
                simp only [Array.getD_eq_getD_getElem?] at e40 e41
                go_simp
                exact hK _ hJ
              refine Vals9.Steps.run (by kernel_rfl) ?_ ?_
              · intro a W σ hJ pre K hK
                have e42 : a.tmps.getD 42 undef = .pointer (some (ad.add (k * 2))) := pre.1 4 42 _ (by kernel_rfl) rfl rfl
                clear pre
                simp only [Array.getD_eq_getD_getElem?] at e42
                go_simp
                exact hK _ hJ
              refine Vals9.Steps.run (by kernel_rfl) ?_ ?_
              · intro a W σ hJ pre K hK
                have e43 : a.tmps.getD 43 undef = .pointer (some (ad.add (k * 2))) := pre.1 5 43 _ (by kernel_rfl) rfl rfl
                clear pre
                simp only [Array.getD_eq_getD_getElem?] at e43
                have hS9 := hJ
                obtain ⟨⟨s0, s1, s2, s3, s4, s5⟩, ⟨d0, d1, d2⟩, ⟨r0, r1⟩, ts, pq, sn⟩ := hS9
                obtain ⟨ad', hA', y0, y1⟩ := pq.get hlt
                obtain rfl : ad = ad' := by simpa using hA'
                go_simp
                exact hK _ hJ
              refine Vals9.Steps.run (by kernel_rfl) ?_ ?_
              · intro a W σ hJ pre K hK
                have e3 : a.tmps.getD 3 undef = .slice (some ad) ps.length pc := pre.2.2 3 _ (by kernel_rfl) rfl
                clear pre
                simp only [Array.getD_eq_getD_getElem?] at e3
                go_simp
                exact hK _ hJ
              refine Vals9.Steps.run (by kernel_rfl) ?_ ?_
              · intro a W σ hJ pre K hK
                have e11 : a.tmps.getD 11 undef = .int .i64 (k : Int) := pre.2.2 11 _ (by kernel_rfl) rfl
                clear pre
                simp only [Array.getD_eq_getD_getElem?] at e11
                go_simp
                exact hK _ hJ
              refine Vals9.Steps.run (by kernel_rfl) ?_ ?_
              · intro a W σ hJ pre K hK
                have e45 : a.tmps.getD 45 undef = .slice (some ad) ps.length pc := pre.1 7 45 _ (by kernel_rfl) rfl rfl
                have e46 : a.tmps.getD 46 undef = .int .i64 (k : Int) := pre.1 8 46 _ (by kernel_rfl) rfl rfl
                clear pre
                simp only [Array.getD_eq_getD_getElem?] at e45 e46
                go_simp
                exact hK _ hJ
              refine Vals9.Steps.run (by kernel_rfl) ?_ ?_
              · intro a W σ hJ pre K hK
                have e47 : a.tmps.getD 47 undef = .pointer (some (ad.add (k * 2))) := pre.1 9 47 _ (by kernel_rfl) rfl rfl
                clear pre
                simp only [Array.getD_eq_getD_getElem?] at e47
                go_simp
                exact hK _ hJ
              refine Vals9.Steps.run (by kernel_rfl) ?_ ?_
              · intro a W σ hJ pre K hK
                have e48 : a.tmps.getD 48 undef = .pointer (some (at_ (ad.add (k * 2)) 1)) := pre.1 10 48 _ (by kernel_rfl) rfl rfl
                clear pre
                simp only [Array.getD_eq_getD_getElem?] at e48
                have hS9 := hJ
                obtain ⟨⟨s0, s1, s2, s3, s4, s5⟩, ⟨d0, d1, d2⟩, ⟨r0, r1⟩, ts, pq, sn⟩ := hS9
                obtain ⟨ad', hA', y0, y1⟩ := pq.get hlt
                obtain rfl : ad = ad' := by simpa using hA'
                go_simp
                exact hK _ hJ
              refine Vals9.Steps.run (by kernel_rfl) ?_ ?_
              · intro a W σ hJ pre K hK
                have e38 : a.tmps.getD 38 undef = .agg (bV b A c) := pre.1 0 38 _ (by kernel_rfl) rfl rfl
                have e39 : a.tmps.getD 39 undef = .agg (sV s) := pre.1 1 39 _ (by kernel_rfl) rfl rfl
                have e44 : a.tmps.getD 44 undef = .int .i64 ps[k].tide := pre.1 6 44 _ (by kernel_rfl) rfl rfl
                have e49 : a.tmps.getD 49 undef = .int .i64 ps[k].bal := pre.1 11 49 _ (by kernel_rfl) rfl rfl
                clear pre
                simp only [Array.getD_eq_getD_getElem?] at e38 e39 e44 e49
                go_simp
                refine (step_c b s A c ps[k].tide ps[k].bal _ hJ.ts).mono ?_
                rintro e w' ⟨rfl, hb'⟩
                rw [HE.out]
                exact hK _ (hJ.keep hb')
              refine Vals9.Steps.run (by kernel_rfl) ?_ ?_
              · intro a W σ hJ pre K hK
                have e50 : a.tmps.getD 50 undef = .int .i64 E := pre.1 12 50 _ (by kernel_rfl) rfl rfl
                clear pre
                simp only [Array.getD_eq_getD_getElem?] at e50
                go_simp
                exact hK _ hJ
              exact Vals9.Steps.nil
            · intro X σ hE2
              simp only [Vals9.All]
              simp only [Vals.putAll, List.setIfInBounds_toArray, List.set_cons_zero, List.set_cons_succ]
              clear hE
              obtain ⟨ad', hA', y0, y1⟩ := hE2.pq.get hlt
              obtain rfl : ad = ad' := by simpa using hA'
              by_cases hE0 : E = 0
              · subst hE0
                by_cases htl : ps[k].tide ≤ last
                · have hFe : F = 2 := by have := HF.out; simp [htl] at this; exact this.symm
                  go_wp2_with fail
                  go_roundw
                  case rel => exact ⟨k + 1, 2, _, by omega, by go_num, rfl, rfl, hE2, .inr ⟨by decide, hFe.symm⟩⟩
                  case measure => simp [intOf]; omega
                · have hFe : pullsFrom b.ts.length ps[k].tide (ps.drop (k + 1)) = F := by have := HF.out; simp [htl] at this; exact this
                  go_wp2_with fail
                  go_roundw
                  case rel => exact ⟨k + 1, 0, _, by omega, by go_num, rfl, rfl, hE2, .inl ⟨rfl, hFe⟩⟩
                  case measure => simp [intOf]; omega
              · have hFe : F = E := by have := HF.out; simp [hE0] at this; exact this.symm
                have hb : ((E : Int) == 0) = false := by simpa using hE0
                go_wp2_with fail
                go_roundw
                case rel => exact ⟨k + 1, E, _, by omega, by go_num, rfl, rfl, hE2, .inr ⟨hE0, hFe.symm⟩⟩
                case measure => simp [intOf]; omega
          · have hFe : ev = F := by
              rcases HI.out with ⟨h, _⟩ | ⟨_, h⟩
              · exact absurd h hev
              · exact h
            have hb : ((ev : Int) == 0) = false := by simpa using hev
            clear HI
            go_wp2_with fail
            go_ret
            exact ⟨ret_int (by rw [HV.out, hFe]), hE.sn.1⟩
        · have hFe : ev = F := by
            rcases HI.out with ⟨h, h2⟩ | ⟨_, h⟩
            · rw [List.drop_eq_nil_of_le (by omega)] at h2
              rw [h, ← h2]; rfl
            · exact h
          clear HI
          go_wp2_with fail
          go_ret
          exact ⟨ret_int (by rw [HV.out, hFe]), hE.sn.1⟩
  · have HV : Hid (planE b s run ps = stepE b s run.tide run.bal) := by show _ = _; unfold planE; rw [if_neg h0]
    have hb : ((stepE b s run.tide run.bal : Int) == 0) = false := by simpa using h0
    clear h0
    go_wp2_with fail
    go_loopw [9, 10, 11] (fun e _ i wr => e = .int .i64 (stepE b s run.tide run.bal) ∧ (∃ k : Nat, k ≤ ps.length ∧ i = .int .i64 k) ∧ Since w wr) (fun _ _ i _ => ps.length - (intOf i).toNat)
    case atStart => exact ⟨rfl, ⟨0, Nat.zero_le _, rfl⟩, hE1.sn⟩
    case round =>
      obtain ⟨rfl, ⟨k, hk, rfl⟩, hsw⟩ := hrel
      by_cases hlt : k < ps.length
      all_goals
        go_wp2_with fail
        go_ret
        exact ⟨ret_int (by rw [HV.out]), hsw.1⟩
end Td
end Go.Proofs.Ytojpiliamecgkaa
