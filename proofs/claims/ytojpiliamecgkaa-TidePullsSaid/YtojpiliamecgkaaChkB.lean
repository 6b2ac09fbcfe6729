import Derived.Test.YtojpiliamecgkaaChkA
import Derived.Deep.RegionHeld3
namespace Go.Proofs.Ytojpiliamecgkaa
open Go.RowKit
namespace Td
set_option linter.unusedSimpArgs false
set_option linter.unusedVariables false
abbrev S5 (a : Addr) (t : Tid) (X : World) : Prop :=
  X.cell? a = some (.int .i64 t.day) ∧ X.cell? (at_ a 1) = some (.int .i64 t.hlo) ∧ X.cell? (at_ a 2) = some (.int .i64 t.hhi) ∧ X.cell? (at_ a 3) = some (.int .i64 t.wlo) ∧ X.cell? (at_ a 4) = some (.int .i64 t.whi)
theorem TidAt.s5 {w : World} {a : Addr} {t : Tid} (h : TidAt w a t) : S5 a t w := ⟨h.c0, h.c1, h.c2, h.c3, h.c4⟩
theorem S5.keep {w w' : World} {a : Addr} {t : Tid} (h : S5 a t w) (hb : Below w.heap.size w w') : S5 a t w' :=
  ⟨keep_cell hb h.1, keep_cell hb h.2.1, keep_cell hb h.2.2.1, keep_cell hb h.2.2.2.1, keep_cell hb h.2.2.2.2⟩
theorem S5.alloc {w : World} {a : Addr} {t : Tid} (h : S5 a t w) (o : Obj) : S5 a t (w.alloc o) := h.keep ((Below.refl _ _).alloc (Nat.le_refl _) _)
theorem S5.drew {w : World} {a : Addr} {t : Tid} (h : S5 a t w) : S5 a t w.drew := h
/-- the worst error of a tide by itself. -/
def tw (t : Tid) : Int := worstE [rgE 0 40000 t.day, spE 0 1500 (t.hlo, t.hhi), spE (-200) 200 (t.wlo, t.whi)]
theorem tidE_tw (p : Int) (t : Tid) : tidE p t = if tw t = 0 ∧ t.day < p then 2 else tw t := by
  have hA : (wi 0 40000 t.day && sw 0 1500 [(t.hlo, t.hhi)] && sw (-200) 200 [(t.wlo, t.whi)]) = (wi 0 40000 t.day && (wi 0 1500 t.hlo && wi 0 1500 t.hhi) && (wi (-200) 200 t.wlo && wi (-200) 200 t.whi)) := by
    simp [sw]
  have hB : (tn [(t.hlo, t.hhi), (t.wlo, t.whi)] || decide (t.day < p)) = (decide (t.hhi < t.hlo) || decide (t.whi < t.wlo) || decide (t.day < p)) := by
    simp [tn]
  unfold tidE tw spE rgE
  rw [hA, hB]
  clear hA hB
  by_cases h6 : t.day < p <;> by_cases h4 : t.hhi < t.hlo <;> by_cases h5 : t.whi < t.wlo <;> cases wi 0 40000 t.day <;> cases (wi 0 1500 t.hlo && wi 0 1500 t.hhi) <;> cases (wi (-200) 200 t.wlo && wi (-200) 200 t.whi) <;> simp [h4, h5, h6, worstE, worstStep]
theorem tw_day {t : Tid} (h : tw t = 0) : 0 ≤ t.day := by
  cases hw : wi 0 40000 t.day with
  | true => exact (wi_iff.1 hw).1
  | false =>
    exfalso
    revert h
    unfold tw spE rgE
    rw [hw]
    cases (wi 0 1500 t.hlo && wi 0 1500 t.hhi) <;> cases (wi (-200) 200 t.wlo && wi (-200) 200 t.whi) <;> (try by_cases h4 : t.hhi < t.hlo) <;> (try by_cases h5 : t.whi < t.wlo) <;> simp_all [worstE, worstStep]
theorem InAt.three {w : World} {g : Nat} {ty : TypeId} {a b c : Int} (h : Blk w g ty #[.int .i64 a, .int .i64 b, .int .i64 c]) : InAt w (some ⟨g, 0, none⟩) [a, b, c] := fun _ => ⟨_, rfl, fun i q hq => by
  rw [add_new]
  match i, hq with
  | 0, hq => obtain rfl : a = q := by simpa using hq
             exact h.cell 0
  | 1, hq => obtain rfl : b = q := by simpa using hq
             exact h.cell 1
  | 2, hq => obtain rfl : c = q := by simpa using hq
             exact h.cell 2
  | i + 3, hq => simp at hq⟩
set_option maxRecDepth 100000 in
set_option maxHeartbeats 2000000 in
theorem rtide_c (A : Option Addr) (ts : List Tid) (c i : Nat) (w : World) (hp : TsAt w A ts) (hi : i < ts.length) (hl : ts.length ≤ 1000) :
    Calls Try.prog 52 #[.slice A ts.length c, .int .i64 i] w fun e w' => e = .returned (.int .i64 (tidAtE ts i)) ∧ Below w.heap.size w w' := by
  obtain ⟨ad, hA, hat⟩ := hp.get hi
  subst hA
  have hS := hat.s5
  clear hat
  go_enter Try.func52, Try.ntmps52
  go_wp2_with fail
  go_region_held3 (fun X => S5 (ad.add (i * 5)) ts[i] X ∧ Since w X)
    (first | with_reducible assumption | with_reducible exact ⟨hS.drew, (Since.refl w).drew⟩ | (obtain ⟨s0, s1⟩ := ‹S5 _ _ _ ∧ Since _ _›; first | with_reducible exact ⟨s0.keep hb', s1.keep hb'⟩ | with_reducible exact ⟨s0.alloc _, s1.alloc _⟩))
    (first
      | (go_at_call 50; refine (ranged_c _ _ _ _).mono ?_; rintro e w' ⟨rfl, rfl⟩)
      | (go_at_call 49; (with_reducible refine (range_c (ts[i].hlo, ts[i].hhi) 0 1500 _).mono ?_); rintro e w' ⟨rfl, hb'⟩)
      | (go_at_call 49; (with_reducible refine (range_c (ts[i].wlo, ts[i].whi) (-200) 200 _).mono ?_); rintro e w' ⟨rfl, hb'⟩)
      | (go_at_call 48; refine (worst_c _ [rgE 0 40000 ts[i].day, spE 0 1500 (ts[i].hlo, ts[i].hhi), spE (-200) 200 (ts[i].wlo, ts[i].whi)] _ _ (by simp) (InAt.three (Blk.new _ _ _))).mono ?_; rintro e w'' ⟨rfl, rfl⟩))
  have HT : Hid (worstE [rgE 0 40000 ts[i].day, spE 0 1500 (ts[i].hlo, ts[i].hhi), spE (-200) 200 (ts[i].wlo, ts[i].whi)] = tw ts[i]) := by rfl
  rw [HT.out]
  obtain ⟨hS1, hs1⟩ := ‹S5 _ _ _ ∧ Since _ _›
  obtain ⟨c0, c1, c2, c3, c4⟩ := hS1
  clear HT
  by_cases hz : tw ts[i] = 0
  · by_cases h0 : i = 0
    · have HV : Hid (tidAtE ts i = 0) := by
        show _ = _
        rw [tidAtE_eq hi, tidE_tw, if_neg, hz]
        have := tw_day hz
        subst h0
        simp [prevDay]; omega
      have hg : decide ((0 : Int) < (i : Int)) = false := decide_eq_false (by omega)
      clear hg
      subst h0
      rw [hz]
      go_wp2_with fail
      go_quiet (fail)
      go_wp2_with fail
      go_ret
      exact ⟨ret_int HV.out.symm, bdrew hs1.1 _⟩
    · obtain ⟨j, rfl⟩ : ∃ j, i = j + 1 := ⟨i - 1, by omega⟩
      obtain ⟨ad', hA', hatj⟩ := hp.get (show j < ts.length by omega)
      obtain rfl : ad = ad' := by simpa using hA'
      obtain ⟨d0, d1, d2, d3, d4⟩ := (hatj.keep hs1.1).s5
      have hg : decide ((0 : Int) < ((j + 1 : Nat) : Int)) = true := decide_eq_true (by omega)
      have hgt : (0 : Int) < ((j + 1 : Nat) : Int) := by omega
      rw [hz]
      by_cases h6 : ts[j + 1].day < ts[j].day
      · have HV : Hid (tidAtE ts (j + 1) = 2) := by
          show _ = _
          rw [tidAtE_eq hi, tidE_tw, if_pos]
          exact ⟨hz, by simpa [prevDay, List.getElem?_eq_getElem (show j < ts.length by omega)] using h6⟩
        go_wp2_with fail
        go_quiet (fail)
        go_wp2_with fail
        go_ret
        exact ⟨ret_int HV.out.symm, bdrew hs1.1 _⟩
      · have HV : Hid (tidAtE ts (j + 1) = 0) := by
          show _ = _
          rw [tidAtE_eq hi, tidE_tw, if_neg, hz]
          simp [prevDay, List.getElem?_eq_getElem (show j < ts.length by omega)]; omega
        go_wp2_with fail
        go_quiet (fail)
        go_wp2_with fail
        go_ret
        exact ⟨ret_int HV.out.symm, bdrew hs1.1 _⟩
  · have HV : Hid (tidAtE ts i = tw ts[i]) := by
      show _ = _
      rw [tidAtE_eq hi, tidE_tw, if_neg (by simp [hz])]
    have hz' : (tw ts[i] == 0) = false := by simpa using hz
    clear hz
    go_wp2_with fail
    go_quiet (fail)
    go_wp2_with fail
    go_ret
    exact ⟨ret_int HV.out.symm, bdrew hs1.1 _⟩
theorem beach_w (b : Bch) : worstE [spE 1 200 (b.slo, b.shi), spE (-2000000) 2000000 (b.mlo, b.mhi), rgE 0 200 b.bite] = beachE b := by
  have hA : (sw 1 200 [(b.slo, b.shi)] && sw (-2000000) 2000000 [(b.mlo, b.mhi)] && wi 0 200 b.bite) = ((wi 1 200 b.slo && wi 1 200 b.shi) && (wi (-2000000) 2000000 b.mlo && wi (-2000000) 2000000 b.mhi) && wi 0 200 b.bite) := by
    simp [sw]
  have hB : tn [(b.slo, b.shi), (b.mlo, b.mhi)] = (decide (b.shi < b.slo) || decide (b.mhi < b.mlo)) := by
    simp [tn]
  unfold beachE spE rgE
  rw [hA, hB]
  clear hA hB
  by_cases h4 : b.shi < b.slo <;> by_cases h5 : b.mhi < b.mlo <;> cases wi 0 200 b.bite <;> cases (wi 1 200 b.slo && wi 1 200 b.shi) <;> cases (wi (-2000000) 2000000 b.mlo && wi (-2000000) 2000000 b.mhi) <;> simp [h4, h5, worstE, worstStep]
theorem ship_w (s : Shp) : worstE [spE 0 1500 (s.dlo, s.dhi), rgE 0 50 s.sink] = shipE s := by
  have hA : (sw 0 1500 [(s.dlo, s.dhi)] && wi 0 50 s.sink) = ((wi 0 1500 s.dlo && wi 0 1500 s.dhi) && wi 0 50 s.sink) := by
    simp [sw]
  have hB : tn [(s.dlo, s.dhi)] = decide (s.dhi < s.dlo) := by
    simp [tn]
  unfold shipE spE rgE
  rw [hA, hB]
  clear hA hB
  by_cases h4 : s.dhi < s.dlo <;> cases wi 0 50 s.sink <;> cases (wi 0 1500 s.dlo && wi 0 1500 s.dhi) <;> simp [h4, worstE, worstStep]
end Td
end Go.Proofs.Ytojpiliamecgkaa
