import Derived.Test.YtojpiliamecgkaaChkB
namespace Go.Proofs.Ytojpiliamecgkaa
open Go.RowKit
namespace Td
set_option linter.unusedSimpArgs false
set_option linter.unusedVariables false
abbrev SB (g : Nat) (b : Bch) (A : Option Addr) (c : Nat) (X : World) : Prop :=
  X.cell? ⟨g, 0, none⟩ = some (.int .i64 b.slo) ∧ X.cell? ⟨g, 1, none⟩ = some (.int .i64 b.shi) ∧ X.cell? ⟨g, 2, none⟩ = some (.int .i64 b.mlo) ∧ X.cell? ⟨g, 3, none⟩ = some (.int .i64 b.mhi) ∧ X.cell? ⟨g, 4, none⟩ = some (.int .i64 b.bite) ∧ X.cell? ⟨g, 5, none⟩ = some (.slice A b.ts.length c)
theorem SB.keep {g : Nat} {b : Bch} {A : Option Addr} {c : Nat} {w w' : World} (h : SB g b A c w) (hb : Below w.heap.size w w') : SB g b A c w' :=
  ⟨keep_cell hb h.1, keep_cell hb h.2.1, keep_cell hb h.2.2.1, keep_cell hb h.2.2.2.1, keep_cell hb h.2.2.2.2.1, keep_cell hb h.2.2.2.2.2⟩
theorem SB.alloc {g : Nat} {b : Bch} {A : Option Addr} {c : Nat} {w : World} (h : SB g b A c w) (o : Obj) : SB g b A c (w.alloc o) := h.keep ((Below.refl _ _).alloc (Nat.le_refl _) _)
theorem SB.drew {g : Nat} {b : Bch} {A : Option Addr} {c : Nat} {w : World} (h : SB g b A c w) : SB g b A c w.drew := h
abbrev SS (g : Nat) (s : Shp) (X : World) : Prop :=
  X.cell? ⟨g, 0, none⟩ = some (.int .i64 s.dlo) ∧ X.cell? ⟨g, 1, none⟩ = some (.int .i64 s.dhi) ∧ X.cell? ⟨g, 2, none⟩ = some (.int .i64 s.sink)
theorem SS.keep {g : Nat} {s : Shp} {w w' : World} (h : SS g s w) (hb : Below w.heap.size w w') : SS g s w' :=
  ⟨keep_cell hb h.1, keep_cell hb h.2.1, keep_cell hb h.2.2⟩
theorem SS.alloc {g : Nat} {s : Shp} {w : World} (h : SS g s w) (o : Obj) : SS g s (w.alloc o) := h.keep ((Below.refl _ _).alloc (Nat.le_refl _) _)
theorem SS.drew {g : Nat} {s : Shp} {w : World} (h : SS g s w) : SS g s w.drew := h
set_option maxRecDepth 100000 in
set_option maxHeartbeats 4000000 in
theorem rcheck_c (b : Bch) (s : Shp) (A : Option Addr) (c : Nat) (w : World) (hp : TsAt w A b.ts) :
    Calls Try.prog 17 #[.agg (bV b A c), .agg (sV s)] w fun e w' => e = .returned (.tuple #[.int .i64 (chk b s).1, .int .i64 (chk b s).2.1, .int .i64 (chk b s).2.2]) ∧ Below w.heap.size w w' := by
  have hs0 := ((Since.refl w).alloc (.cells (bV b A c) 26)).alloc (.cells (sV s) 28)
  have HB0 : SB w.heap.size b A c ((w.alloc (.cells (bV b A c) 26)).alloc (.cells (sV s) 28)) := ((Blk.new w 26 (bV b A c)).alloc (.cells (sV s) 28)).beach
  have HS0 : SS (w.heap.size + 1) s ((w.alloc (.cells (bV b A c) 26)).alloc (.cells (sV s) 28)) := (Blk.new1 w (.cells (bV b A c) 26) 28 (sV s)).ship
  go_enter Try.func17, Try.ntmps17
  go_wp2_with fail
  obtain ⟨W, hW⟩ : ∃ W, (w.alloc (.cells (bV b A c) 26)).alloc (.cells (sV s) 28) = W := ⟨_, rfl⟩
  rw [hW] at hs0 HB0 HS0 ⊢
  clear hW
  go_region_held3 (fun X => SB w.heap.size b A c X ∧ SS (w.heap.size + 1) s X ∧ Since w X)
    (first | with_reducible assumption | with_reducible exact ⟨HB0.drew, HS0.drew, hs0.drew⟩ | (obtain ⟨s0, s1, s2⟩ := ‹SB _ _ _ _ _ ∧ SS _ _ _ ∧ Since _ _›; first | with_reducible exact ⟨s0.keep hb', s1.keep hb', s2.keep hb'⟩ | with_reducible exact ⟨s0.alloc _, s1.alloc _, s2.alloc _⟩))
    (first
      | (go_at_call 50; refine (ranged_c _ _ _ _).mono ?_; rintro e w' ⟨rfl, rfl⟩)
      | (go_at_call 49; (with_reducible refine (range_c (b.slo, b.shi) 1 200 _).mono ?_); rintro e w' ⟨rfl, hb'⟩)
      | (go_at_call 49; (with_reducible refine (range_c (b.mlo, b.mhi) (-2000000) 2000000 _).mono ?_); rintro e w' ⟨rfl, hb'⟩)
      | (go_at_call 48; refine (worst_c _ [spE 1 200 (b.slo, b.shi), spE (-2000000) 2000000 (b.mlo, b.mhi), rgE 0 200 b.bite] _ _ (by simp) (InAt.three (Blk.new _ _ _))).mono ?_; rintro e w'' ⟨rfl, rfl⟩))
  rw [beach_w]
  obtain ⟨HB1, HS1, hs1⟩ := ‹SB _ _ _ _ _ ∧ SS _ _ _ ∧ Since _ _›
  by_cases h1 : beachE b = 0
  · rw [h1]
    have HBk := Lib.hid HB1
    have HSk := Lib.hid HS1
    clear HS1
    obtain ⟨c0, c1, c2, c3, c4, c5⟩ := HB1
    go_wp2_with fail
    refine (in_c _ _ _ _).mono ?_
    rintro e w' ⟨rfl, rfl⟩
    rcases Bool.eq_false_or_eq_true (wi 1 12 b.ts.length) with h12 | h12
    · rw [h12]
      have hl12 : b.ts.length ≤ 12 := by have := (wi_iff.1 h12).2; omega
      have H12 := Lib.hid h12
      clear h12
      go_wp2_with fail
      clear c0 c1 c2 c3 c4 c5
      go_loopw [8] (fun i wr => ∃ k : Nat, k ≤ b.ts.length ∧ i = .int .i64 k ∧ Since w wr ∧ Hid (SB w.heap.size b A c wr) ∧ Hid (SS (w.heap.size + 1) s wr) ∧ Hid (∀ j, j < k → tidAtE b.ts j = 0)) (fun i _ => b.ts.length - (intOf i).toNat)
      case atStart => exact ⟨0, Nat.zero_le _, rfl, hs1, HBk, HSk, fun j h => absurd h (by omega)⟩
      case round =>
        clear HBk HSk hs1 hb'
        obtain ⟨k, hk, rfl, hsn, HB2, HS2, H0⟩ := hrel
        obtain ⟨c0, c1, c2, c3, c4, c5⟩ := HB2.out
        by_cases hlt : k < b.ts.length
        · go_wp2_with fail
          refine (rtide_c A b.ts c k _ (hp.keep hsn.1) hlt (by omega)).mono ?_
          rintro e w3 ⟨rfl, hb3⟩
          have hs3 := hsn.keep hb3
          by_cases he : tidAtE b.ts k = 0
          · have HE := Lib.hid he
            rw [he]
            clear he
            go_wp2_with fail
            go_roundw
            case rel =>
              refine ⟨k + 1, by omega, by go_num, hs3, HB2.out.keep hb3, HS2.out.keep hb3, fun j hj => ?_⟩
              rcases Nat.lt_or_ge j k with h1 | h1
              · exact H0.out j h1
              · obtain rfl : j = k := by omega
                exact HE.out
            case measure => simp [intOf]; omega
          · have HV : Hid (chk b s = (2, (k : Int), tidAtE b.ts k)) := by
              show _ = _
              have := tidesE_at H12.out hlt H0.out he
              simp [chk, h1, this, he]
            have he' : (tidAtE b.ts k != 0) = true := by simpa using he
            clear he
            go_wp2_with fail
            go_ret3
            exact ⟨by rw [HV.out]; rfl, hs3.1⟩
        · have HT := Lib.hid (tidesE_ok H12.out (fun j hj => H0.out j (by omega)))
          go_wp2_with fail
          clear c0 c1 c2 c3 c4 c5
          have HS3 := HS2.out
          go_region_held3 (fun X => SS (w.heap.size + 1) s X ∧ Since w X)
            (first | with_reducible assumption | with_reducible exact ⟨HS3.drew, hsn.drew⟩ | (obtain ⟨s1, s2⟩ := ‹SS _ _ _ ∧ Since _ _›; first | with_reducible exact ⟨s1.keep hb', s2.keep hb'⟩ | with_reducible exact ⟨s1.alloc _, s2.alloc _⟩))
            (first
              | (go_at_call 50; refine (ranged_c _ _ _ _).mono ?_; rintro e w' ⟨rfl, rfl⟩)
              | (go_at_call 49; (with_reducible refine (range_c (s.dlo, s.dhi) 0 1500 _).mono ?_); rintro e w' ⟨rfl, hb'⟩)
              | (go_at_call 48; refine (worst_c _ [spE 0 1500 (s.dlo, s.dhi), rgE 0 50 s.sink] _ _ (by simp) (InAt.pair (Blk.new _ _ _))).mono ?_; rintro e w'' ⟨rfl, rfl⟩))
          rw [ship_w]
          obtain ⟨HS4, hs4⟩ := ‹SS _ _ _ ∧ Since _ _›
          by_cases h3 : shipE s = 0
          · have HV : Hid (chk b s = (0, 0, 0)) := by show _ = _; simp [chk, h1, HT.out, h3]
            rw [h3]
            go_wp2_with fail
            go_ret3
            exact ⟨by rw [HV.out]; rfl, hs4.1⟩
          · have HV : Hid (chk b s = (3, 0, shipE s)) := by show _ = _; simp [chk, h1, HT.out, h3]
            have h3' : (shipE s != 0) = true := by simpa using h3
            clear h3
            go_wp2_with fail
            go_ret3
            exact ⟨by rw [HV.out]; rfl, hs4.1⟩
    · have HV : Hid (chk b s = (2, 0, 3)) := by show _ = _; simp [chk, h1, tidesE_long h12]
      rw [h12]
      clear h12
      go_wp2_with fail
      go_ret3
      exact ⟨by rw [HV.out]; rfl, hs1.1⟩
  · have HV : Hid (chk b s = (1, 0, beachE b)) := by show _ = _; simp [chk, h1]
    have h1' : (beachE b != 0) = true := by simpa using h1
    clear h1
    go_wp2_with fail
    go_ret3
    exact ⟨by rw [HV.out]; rfl, hs1.1⟩
end Td
end Go.Proofs.Ytojpiliamecgkaa
