import Derived.Test.YtojpiliamecgkaaLeafD
namespace Go.Proofs.Ytojpiliamecgkaa
open Go.RowKit
namespace Td
set_option linter.unusedSimpArgs false
set_option linter.unusedVariables false
theorem Blk.beach {w : World} {g : Nat} {t : TypeId} {b : Bch} {A : Option Addr} {c : Nat} (h : Blk w g t (bV b A c)) :
    w.cell? ⟨g, 0, none⟩ = some (.int .i64 b.slo) ∧ w.cell? ⟨g, 1, none⟩ = some (.int .i64 b.shi) ∧ w.cell? ⟨g, 2, none⟩ = some (.int .i64 b.mlo) ∧ w.cell? ⟨g, 3, none⟩ = some (.int .i64 b.mhi) ∧ w.cell? ⟨g, 4, none⟩ = some (.int .i64 b.bite) ∧ w.cell? ⟨g, 5, none⟩ = some (.slice A b.ts.length c) :=
  ⟨h.cell 0, h.cell 1, h.cell 2, h.cell 3, h.cell 4, h.cell 5⟩
theorem Blk.ship {w : World} {g : Nat} {t : TypeId} {s : Shp} (h : Blk w g t (sV s)) :
    w.cell? ⟨g, 0, none⟩ = some (.int .i64 s.dlo) ∧ w.cell? ⟨g, 1, none⟩ = some (.int .i64 s.dhi) ∧ w.cell? ⟨g, 2, none⟩ = some (.int .i64 s.sink) :=
  ⟨h.cell 0, h.cell 1, h.cell 2⟩
set_option maxHeartbeats 1000000 in
theorem beachFault_c (b : Bch) (A : Option Addr) (c : Nat) (w : World) :
    Calls Try.prog 45 #[.agg (bV b A c)] w fun e w' => e = .returned (.int .i64 (beachE b)) ∧ Below w.heap.size w w' := by
  have hs0 := (Since.refl w).alloc (.cells (bV b A c) 26)
  have HB0 := Lib.hid (Blk.new w 26 (bV b A c))
  go_enter Try.func45, Try.ntmps45
  go_wp2_with fail
  refine (spansWithin_c _ [(b.slo, b.shi)] _ 1 200 _ (by simp) (SpAt.one (p := (b.slo, b.shi)) (Blk.new1 _ _ _ _))).mono ?_
  rintro e w1 ⟨rfl, hb1⟩
  have hs1 := (hs0.alloc _).keep hb1
  have HB1 := Lib.hid ((HB0.out.alloc _).keep hb1)
  obtain ⟨c0, c1, c2, c3, c4, c5⟩ := HB1.out.beach
  go_wp2_with fail
  · have h1 : sw 1 200 [(b.slo, b.shi)] = true := by assumption
    clear c0 c1 c2 c3 c4 c5
    refine (spansWithin_c _ [(b.mlo, b.mhi)] _ (-2000000) 2000000 _ (by simp) (SpAt.one (p := (b.mlo, b.mhi)) (Blk.new _ _ _))).mono ?_
    rintro e w2 ⟨rfl, hb2⟩
    have hs2 := (hs1.alloc _).keep hb2
    have HB2 := Lib.hid ((HB1.out.alloc _).keep hb2)
    obtain ⟨c0, c1, c2, c3, c4, c5⟩ := HB2.out.beach
    go_wp2_with fail
    · have h2 : sw (-2000000) 2000000 [(b.mlo, b.mhi)] = true := by assumption
      rcases Bool.eq_false_or_eq_true (wi 0 200 b.bite) with h3 | h3
      · refine (within_c _ _ _ _ _ _ (Blk.new _ _ _)).mono ?_
        rintro e w' ⟨rfl, hb'⟩
        have hs' := (hs2.alloc _).keep hb'
        have HB' := Lib.hid ((HB2.out.alloc _).keep hb')
        clear c0 c1 c2 c3 c4 c5
        obtain ⟨c0, c1, c2, c3, c4, c5⟩ := HB'.out.beach
        rw [h3]
        go_wp2_with fail
        clear c0 c1 c2 c3 c4 c5
        refine (turned_c _ [(b.slo, b.shi), (b.mlo, b.mhi)] _ _ (by simp) (SpAt.two (p := (b.slo, b.shi)) (r := (b.mlo, b.mhi)) (Blk.new _ _ _))).mono ?_
        rintro e w3 ⟨rfl, hb3⟩
        have hs3 := (hs'.alloc _).keep hb3
        rcases Bool.eq_false_or_eq_true (tn [(b.slo, b.shi), (b.mlo, b.mhi)]) with h4 | h4
        all_goals
          rw [h4]
          go_wp2_with fail
          go_ret
          exact ⟨ret_int (by unfold beachE; rw [h1, h2, h3, h4]; rfl), hs3.1⟩
      · refine (within_c _ _ _ _ _ _ (Blk.new _ _ _)).mono ?_
        rintro e w' ⟨rfl, hb'⟩
        have hs' := (hs2.alloc _).keep hb'
        rw [h3]
        go_wp2_with fail
        go_ret
        exact ⟨ret_int (by unfold beachE; rw [h1, h2, h3]; rfl), hs'.1⟩
    · have h2 : sw (-2000000) 2000000 [(b.mlo, b.mhi)] = false := Bool.eq_false_iff.2 (by assumption)
      go_ret
      exact ⟨ret_int (by unfold beachE; rw [h1, h2]; rfl), hs2.1⟩
  · have h1 : sw 1 200 [(b.slo, b.shi)] = false := Bool.eq_false_iff.2 (by assumption)
    go_ret
    exact ⟨ret_int (by unfold beachE; rw [h1]; rfl), hs1.1⟩
set_option maxHeartbeats 1000000 in
theorem shipFault_c (s : Shp) (w : World) :
    Calls Try.prog 47 #[.agg (sV s)] w fun e w' => e = .returned (.int .i64 (shipE s)) ∧ Below w.heap.size w w' := by
  have hs0 := (Since.refl w).alloc (.cells (sV s) 28)
  have HB0 := Lib.hid (Blk.new w 28 (sV s))
  go_enter Try.func47, Try.ntmps47
  go_wp2_with fail
  refine (spansWithin_c _ [(s.dlo, s.dhi)] _ 0 1500 _ (by simp) (SpAt.one (p := (s.dlo, s.dhi)) (Blk.new1 _ _ _ _))).mono ?_
  rintro e w1 ⟨rfl, hb1⟩
  have hs1 := (hs0.alloc _).keep hb1
  have HB1 := Lib.hid ((HB0.out.alloc _).keep hb1)
  obtain ⟨c0, c1, c2⟩ := HB1.out.ship
  go_wp2_with fail
  · have h1 : sw 0 1500 [(s.dlo, s.dhi)] = true := by assumption
    rcases Bool.eq_false_or_eq_true (wi 0 50 s.sink) with h3 | h3
    · refine (within_c _ _ _ _ _ _ (Blk.new _ _ _)).mono ?_
      rintro e w' ⟨rfl, hb'⟩
      have hs1 := (hs1.alloc _).keep hb'
      have HB' := Lib.hid ((HB1.out.alloc _).keep hb')
      clear c0 c1 c2
      obtain ⟨c0, c1, c2⟩ := HB'.out.ship
      rw [h3]
      go_wp2_with fail
      clear c0 c1 c2
      refine (turned_c _ [(s.dlo, s.dhi)] _ _ (by simp) (SpAt.one (p := (s.dlo, s.dhi)) (Blk.new _ _ _))).mono ?_
      rintro e w3 ⟨rfl, hb3⟩
      have hs3 := (hs1.alloc _).keep hb3
      rcases Bool.eq_false_or_eq_true (tn [(s.dlo, s.dhi)]) with h4 | h4
      all_goals
        rw [h4]
        go_wp2_with fail
        go_ret
        exact ⟨ret_int (by unfold shipE; rw [h1, h3, h4]; rfl), hs3.1⟩
    · refine (within_c _ _ _ _ _ _ (Blk.new _ _ _)).mono ?_
      rintro e w' ⟨rfl, hb'⟩
      have hs1 := (hs1.alloc _).keep hb'
      rw [h3]
      go_wp2_with fail
      go_ret
      exact ⟨ret_int (by unfold shipE; rw [h1, h3]; rfl), hs1.1⟩
  · have h1 : sw 0 1500 [(s.dlo, s.dhi)] = false := Bool.eq_false_iff.2 (by assumption)
    go_ret
    exact ⟨ret_int (by unfold shipE; rw [h1]; rfl), hs1.1⟩
theorem Blk.tid {w : World} {g : Nat} {ty : TypeId} {t : Tid} (h : Blk w g ty #[.int .i64 t.day, .int .i64 t.hlo, .int .i64 t.hhi, .int .i64 t.wlo, .int .i64 t.whi]) :
    w.cell? ⟨g, 0, none⟩ = some (.int .i64 t.day) ∧ w.cell? ⟨g, 1, none⟩ = some (.int .i64 t.hlo) ∧ w.cell? ⟨g, 2, none⟩ = some (.int .i64 t.hhi) ∧ w.cell? ⟨g, 3, none⟩ = some (.int .i64 t.wlo) ∧ w.cell? ⟨g, 4, none⟩ = some (.int .i64 t.whi) :=
  ⟨h.cell 0, h.cell 1, h.cell 2, h.cell 3, h.cell 4⟩
abbrev tV (t : Tid) : Array Value := #[.int .i64 t.day, .int .i64 t.hlo, .int .i64 t.hhi, .int .i64 t.wlo, .int .i64 t.whi]
theorem prevDay_succ {ts : List Tid} {k : Nat} (h : k < ts.length) : prevDay ts (k + 1) = ts[k].day := by simp [prevDay, List.getElem?_eq_getElem h]
set_option maxRecDepth 100000 in
set_option maxHeartbeats 2000000 in
theorem tidesFault_c (A : Option Addr) (ts : List Tid) (c : Nat) (w : World) (hp : TsAt w A ts) :
    Calls Try.prog 46 #[.slice A ts.length c] w fun e w' => e = .returned (.tuple #[.int .i64 (tidesE ts).1, .int .i64 (tidesE ts).2]) ∧ Below w.heap.size w w' := by
  rcases Bool.eq_false_or_eq_true (wi 1 12 ts.length) with h12 | h12
  · go_enter Try.func46, Try.ntmps46
    go_wp2_with fail
    refine (within_c _ _ _ _ _ _ (Blk.new _ _ _)).mono ?_
    rintro e w0 ⟨rfl, hb0⟩
    have hsn0 := ((Since.refl w).alloc _).keep hb0
    have hpw := hp
    rw [h12]
    have hl12 : ts.length ≤ 12 := by have := (wi_iff.1 h12).2; omega
    have H12 := Lib.hid h12
    clear h12
    go_wp2_with fail
    go_loopw [4, 5, 6, 14] (fun d _ _ i wr => ∃ k : Nat, k ≤ ts.length ∧ i = .int .i64 k ∧ d = .int .i64 (prevDay ts k) ∧ Since w wr ∧ Hid (∀ j, j < k → tidAtE ts j = 0)) (fun _ _ _ i _ => ts.length - (intOf i).toNat)
    case atStart => exact ⟨0, Nat.zero_le _, rfl, rfl, hsn0, fun j h => absurd h (by omega)⟩
    case round =>
      obtain ⟨k, hk, rfl, rfl, hsn, H0⟩ := hrel
      by_cases hlt : k < ts.length
      · obtain ⟨ad, hA, hat⟩ := hpw.get hlt
        subst hA
        obtain ⟨c0, c1, c2, c3, c4⟩ := hat.keep hsn.1
        clear hat
        have hs0 := hsn.alloc (.cells (tV ts[k]) 67)
        have HB0 := Lib.hid (Blk.new wr 67 (tV ts[k]))
        have HP := Lib.hid (prevDay_succ hlt)
        have HE := Lib.hid (tidAtE_eq hlt)
        go_wp2_with fail
        refine (within_c _ _ _ _ _ _ (Blk.new1 _ _ _ _)).mono ?_
        rintro e w' ⟨rfl, hb'⟩
        have hs0 := (hs0.alloc _).keep hb'
        have HB0 := Lib.hid ((HB0.out.alloc _).keep hb')
        rcases Bool.eq_false_or_eq_true (wi 0 40000 ts[k].day) with h1 | h1
        · rw [h1]
          obtain ⟨e0, e1, e2, e3, e4⟩ := HB0.out.tid
          go_wp2_with fail
          refine (spansWithin_c _ [(ts[k].hlo, ts[k].hhi)] _ 0 1500 _ (by simp) (SpAt.one (p := (ts[k].hlo, ts[k].hhi)) (Blk.new _ _ _))).mono ?_
          rintro e w1 ⟨rfl, hb1⟩
          clear e0 e1 e2 e3 e4
          have hs1 := (hs0.alloc _).keep hb1
          have HB1 := Lib.hid ((HB0.out.alloc _).keep hb1)
          obtain ⟨d0, d1, d2, d3, d4⟩ := HB1.out.tid
          rcases Bool.eq_false_or_eq_true (sw 0 1500 [(ts[k].hlo, ts[k].hhi)]) with h2 | h2
          · rw [h2]
            go_wp2_with fail
            refine (spansWithin_c _ [(ts[k].wlo, ts[k].whi)] _ (-200) 200 _ (by simp) (SpAt.one (p := (ts[k].wlo, ts[k].whi)) (Blk.new _ _ _))).mono ?_
            rintro e w2 ⟨rfl, hb2⟩
            have hs2 := (hs1.alloc _).keep hb2
            have HB2 := Lib.hid ((HB1.out.alloc _).keep hb2)
            clear d0 d1 d2 d3 d4
            obtain ⟨d0, d1, d2, d3, d4⟩ := HB2.out.tid
            rcases Bool.eq_false_or_eq_true (sw (-200) 200 [(ts[k].wlo, ts[k].whi)]) with h3 | h3
            · rw [h3]
              go_wp2_with fail
              refine (turned_c _ [(ts[k].hlo, ts[k].hhi), (ts[k].wlo, ts[k].whi)] _ _ (by simp) (SpAt.two (p := (ts[k].hlo, ts[k].hhi)) (r := (ts[k].wlo, ts[k].whi)) (Blk.new _ _ _))).mono ?_
              rintro e w3 ⟨rfl, hb3⟩
              have hs3 := (hs2.alloc _).keep hb3
              have HB3 := Lib.hid ((HB2.out.alloc _).keep hb3)
              clear d0 d1 d2 d3 d4
              obtain ⟨d0, d1, d2, d3, d4⟩ := HB3.out.tid
              rcases Bool.eq_false_or_eq_true (tn [(ts[k].hlo, ts[k].hhi), (ts[k].wlo, ts[k].whi)]) with h4 | h4
              · have HT : Hid (tidAtE ts k = 2) := by show _ = _; rw [HE.out]; unfold tidE; rw [h1, h2, h3, h4]; rfl
                rw [h4]
                go_wp2_with fail
                have HV := Lib.hid (tidesE_at H12.out hlt H0.out (by rw [HT.out]; decide))
                go_ret2
                exact ⟨by rw [HV.out, HT.out]; rfl, hs3.1⟩
              · rw [h4]
                by_cases h5 : ts[k].day < prevDay ts k
                · have HT : Hid (tidAtE ts k = 2) := by show _ = _; rw [HE.out]; unfold tidE; rw [h1, h2, h3, h4]; simp [h5]
                  go_wp2_with fail
                  have HV := Lib.hid (tidesE_at H12.out hlt H0.out (by rw [HT.out]; decide))
                  go_ret2
                  exact ⟨by rw [HV.out, HT.out]; rfl, hs3.1⟩
                · have HT : Hid (tidAtE ts k = 0) := by show _ = _; rw [HE.out]; unfold tidE; rw [h1, h2, h3, h4]; simp; omega
                  go_wp2_with fail
                  go_roundw
                  case rel =>
                    refine ⟨k + 1, by omega, by go_num, by rw [HP.out], hs3, fun j hj => ?_⟩
                    rcases Nat.lt_or_ge j k with h1 | h1
                    · exact H0.out j h1
                    · obtain rfl : j = k := by omega
                      exact HT.out
                  case measure => simp [intOf]; omega
            · have HT : Hid (tidAtE ts k = 7) := by show _ = _; rw [HE.out]; unfold tidE; rw [h1, h2, h3]; rfl
              rw [h3]
              go_wp2_with fail
              have HV := Lib.hid (tidesE_at H12.out hlt H0.out (by rw [HT.out]; decide))
              go_ret2
              exact ⟨by rw [HV.out, HT.out]; rfl, hs2.1⟩
          · have HT : Hid (tidAtE ts k = 7) := by show _ = _; rw [HE.out]; unfold tidE; rw [h1, h2]; rfl
            rw [h2]
            go_wp2_with fail
            have HV := Lib.hid (tidesE_at H12.out hlt H0.out (by rw [HT.out]; decide))
            go_ret2
            exact ⟨by rw [HV.out, HT.out]; rfl, hs1.1⟩
        · have HT : Hid (tidAtE ts k = 7) := by show _ = _; rw [HE.out]; unfold tidE; rw [h1]; rfl
          rw [h1]
          go_wp2_with fail
          have HV := Lib.hid (tidesE_at H12.out hlt H0.out (by rw [HT.out]; decide))
          go_ret2
          exact ⟨by rw [HV.out, HT.out]; rfl, hs0.1⟩
      · have HV := Lib.hid (tidesE_ok H12.out (fun j hj => H0.out j (by omega)))
        go_wp2_with fail
        go_ret2
        exact ⟨by rw [HV.out]; rfl, hsn.1⟩
  · have HV := Lib.hid (tidesE_long h12)
    go_enter Try.func46, Try.ntmps46
    go_wp2_with fail
    refine (within_c _ _ _ _ _ _ (Blk.new _ _ _)).mono ?_
    rintro e w' ⟨rfl, hb'⟩
    have hs' := ((Since.refl w).alloc _).keep hb'
    rw [h12]
    clear h12
    go_wp2_with fail
    go_ret2
    exact ⟨by rw [HV.out]; rfl, hs'.1⟩
set_option maxHeartbeats 1000000 in
theorem check_c (b : Bch) (s : Shp) (A : Option Addr) (c : Nat) (w : World) (hp : TsAt w A b.ts) :
    Calls Try.prog 16 #[.agg (bV b A c), .agg (sV s)] w fun e w' => e = .returned (.tuple #[.int .i64 (chk b s).1, .int .i64 (chk b s).2.1, .int .i64 (chk b s).2.2]) ∧ Below w.heap.size w w' := by
  have hs0 := ((Since.refl w).alloc (.cells (bV b A c) 26)).alloc (.cells (sV s) 28)
  have HB0 := Lib.hid ((Blk.new w 26 (bV b A c)).alloc (.cells (sV s) 28))
  have HS0 := Lib.hid (Blk.new1 w (.cells (bV b A c) 26) 28 (sV s))
  go_enter Try.func16, Try.ntmps16
  go_wp2_with fail
  refine (beachFault_c b A c _).mono ?_
  rintro e w1 ⟨rfl, hb1⟩
  have hs1 := hs0.keep hb1
  have HB1 := Lib.hid (HB0.out.keep hb1)
  have HS1 := Lib.hid (HS0.out.keep hb1)
  obtain ⟨c0, c1, c2, c3, c4, c5⟩ := HB1.out.beach
  by_cases h1 : beachE b = 0
  · rw [h1]
    go_wp2_with fail
    refine (tidesFault_c A b.ts c _ (hp.keep hs1.1)).mono ?_
    rintro e w2 ⟨rfl, hb2⟩
    have hs2 := hs1.keep hb2
    have HB2 := Lib.hid (HB1.out.keep hb2)
    obtain ⟨d0, d1, d2⟩ := (HS1.out.keep hb2).ship
    clear c0 c1 c2 c3 c4 c5
    by_cases h2 : (tidesE b.ts).2 = 0
    · rw [h2]
      go_wp2_with fail
      refine (shipFault_c s _).mono ?_
      rintro e w3 ⟨rfl, hb3⟩
      have hs3 := hs2.keep hb3
      by_cases h3 : shipE s = 0
      · have HV : Hid (chk b s = (0, 0, 0)) := by show _ = _; simp [chk, h1, h2, h3]
        rw [h3]
        go_wp2_with fail
        go_ret3
        exact ⟨by rw [HV.out]; rfl, hs3.1⟩
      · have HV : Hid (chk b s = (3, 0, shipE s)) := by show _ = _; simp [chk, h1, h2, h3]
        have h3' : (shipE s != 0) = true := by simpa using h3
        clear h3
        go_wp2_with fail
        go_ret3
        exact ⟨by rw [HV.out]; rfl, hs3.1⟩
    · have HV : Hid (chk b s = (2, (tidesE b.ts).1, (tidesE b.ts).2)) := by show _ = _; simp [chk, h1, h2]
      have h2' : ((tidesE b.ts).2 != 0) = true := by simpa using h2
      clear h2
      go_wp2_with fail
      go_ret3
      exact ⟨by rw [HV.out]; rfl, hs2.1⟩
  · have HV : Hid (chk b s = (1, 0, beachE b)) := by show _ = _; simp [chk, h1]
    have h1' : (beachE b != 0) = true := by simpa using h1
    clear h1
    go_wp2_with fail
    go_ret3
    exact ⟨by rw [HV.out]; rfl, hs1.1⟩
end Td
end Go.Proofs.Ytojpiliamecgkaa
