import Derived.Test.YtojpiliamecgkaaPulledA
namespace Go.Proofs.Ytojpiliamecgkaa
open Go.RowKit
namespace Td
set_option linter.unusedSimpArgs false
set_option linter.unusedVariables false
set_option maxRecDepth 100000 in
set_option maxHeartbeats 16000000 in
theorem tidePulled_c (b : Bch) (s : Shp) (A : Option Addr) (c : Nat) (P : Option Addr) (l : List Int) (pc : Nat) (P2 : Option Addr) (l2 : List Int) (cz : Nat) (g : Int) (w : World) (hp : TsAt w A b.ts) (g0 : -2147483648 ≤ g) (g1 : g ≤ 2147483647) (hu : U16At w P l) (ho : U16Ok l) (hu2 : U16At w P2 l2) (ho2 : U16Ok l2) :
    Calls Try.prog 12 #[.agg (bV b A c), .agg (sV s), .agg #[.slice P l.length pc, .slice P2 l2.length cz, .int .i32 g]] w fun e w' => e = .returned (.bool true) ∧ Below w.heap.size w w' := by
  obtain ⟨xs, hxs⟩ : ∃ xs : List Value, xs = [.slice P l.length pc, .slice P2 l2.length cz, .int .i32 g] := ⟨_, rfl⟩
  have hs0 := (((Since.refl w).alloc (.cells (bV b A c) 26)).alloc (.cells (sV s) 28)).alloc (.cells #[.slice P l.length pc, .slice P2 l2.length cz, .int .i32 g] 76)
  have hE0 : Env w.heap.size (w.heap.size + 1) (w.heap.size + 1 + 1) b A c s xs P l w (((w.alloc (.cells (bV b A c) 26)).alloc (.cells (sV s) 28)).alloc (.cells #[.slice P l.length pc, .slice P2 l2.length cz, .int .i32 g] 76)) := by
    refine ⟨(((Blk.new w 26 (bV b A c)).alloc (.cells (sV s) 28)).alloc _).beach, ((Blk.new1 w (.cells (bV b A c) 26) 28 (sV s)).alloc _).ship, fun j v hj => ?_, hp.keep hs0.1, hu.keep hs0.1, hs0⟩
    subst hxs
    rw [(Blk.new2 w (.cells (bV b A c) 26) (.cells (sV s) 28) 76 #[.slice P l.length pc, .slice P2 l2.length cz, .int .i32 g]).cell j]
    simpa using hj
  have HX : Hid (xs = [.slice P l.length pc, .slice P2 l2.length cz, .int .i32 g]) := hxs
  have HE0 := Lib.hid hE0
  have HU0 := Lib.hid (hu2.keep hs0.1)
  clear hE0 hxs hs0
  by_cases hk : (chk b s).2.2 = 0
  · obtain ⟨hB, hS⟩ := chk_ok.1 hk
    have HD : Hid (decide ((chk b s).2.2 = 0) = true) := decide_eq_true hk
    have hl12 : b.ts.length ≤ 12 := hB.n1
    have hl1 : 1 ≤ b.ts.length := hB.n0
    have HCP : Hid (∀ W : World, TsAt W A b.ts → U16At W P l → _) := fun W (h1 : TsAt W A b.ts) (h2 : U16At W P l) => plan_c2 b A c P l pc W h1 hl1 hl12 h2 ho
    have hrk := planRun_ok (l := l) hl1
    obtain ⟨hpok, hpe, hp6⟩ := plan_ok (l := l) hl1
    generalize planRun b.ts.length l = run at *
    generalize planPs b.ts.length l = ps at *
    have hpok' : ∀ p ∈ ps, PuOk b.ts.length p := fun p hp => (hpok p hp).1
    clear hpok
    obtain ⟨rt, rb⟩ := run
    obtain ⟨i0, rfl⟩ : ∃ i : Nat, rt = i := ⟨rt.toNat, by have := hrk.t0; simp only at this; omega⟩
    have hi0 : i0 < b.ts.length := by have := hrk.t1; simp only at this; omega
    have hrb0 : 0 ≤ rb := hrk.b0
    have hrb1 : rb ≤ 40 := hrk.b1
    have HSO := Lib.hid hS
    obtain ⟨sl, dr, he, wn, hT0, htk, _, _, _, _, _⟩ := trt_ok hB hS l2 hi0
    obtain ⟨N, hN⟩ : ∃ N, pl sl dr he wn (-s.sink * rb) = N := ⟨_, rfl⟩
    have hNR : plR b s l2 ⟨(i0 : Int), rb⟩ = N := (plR_of hT0).trans hN
    have HN := Lib.hid hN
    have HT0 := Lib.hid hT0
    obtain ⟨a0, a1, L1, hin0⟩ : ∃ a0 a1 : Int, liesV b s ⟨(i0 : Int), rb⟩ ps = .tuple #[.agg #[.int .i64 a0, .int .i64 a1], .int .i64 0] ∧ (lieLo b s ⟨(i0 : Int), rb⟩ ps = a0 ∧ lieHi b s ⟨(i0 : Int), rb⟩ ps = a1) := ⟨_, _, liesV_ok hk hrk hpe, rfl, rfl⟩
    have HIN : Hid (wi a0 a1 (liesK b s l2 ⟨(i0 : Int), rb⟩ ps) = true) := by
      show _ = _
      rw [wi_iff, ← hin0.1, ← hin0.2]
      exact liesK_in hB hS l2 hrk ps.length ps rfl hpok'
    clear hN
    have hS0 := hS.k0
    have hS1 := hS.k1
    go_enter Try.func12, Try.ntmps12
    go_wp2_with fail
    refine (valid_c b s A c _ HE0.out.ts).mono ?_
    rintro e w1 ⟨rfl, hb1⟩
    rw [HD.out]
    have HE1 := Lib.hid (HE0.out.keep hb1)
    have HU1 := Lib.hid (HU0.out.keep hb1)
    clear HE0 HU0 hb1
    obtain ⟨⟨c0, c1, c2, c3, c4, c5⟩, ⟨d0, d1, d2⟩, sx, _, _, _⟩ := HE1.out
    rw [HX.out] at sx
    have x0 := sx 0 _ rfl
    have x1 := sx 1 _ rfl
    have x2 := sx 2 _ rfl
    clear sx
    go_wp2_with fail
    refine (HCP.out _ HE1.out.ts HE1.out.us).mono ?_
    rintro e w2 ⟨⟨Q, qc, rfl, hq, hqc⟩, hb2⟩
    have hbn := hb2.alloc hb2.size (.cells (puV ⟨(i0 : Int), rb⟩) 49)
    have HE3 : Hid (PuS w.heap.size (w.heap.size + 1) (w.heap.size + 1 + 1) w2.heap.size b A c s xs P l P2 l2 (i0 : Int) rb Q ps w (w2.alloc (.cells (puV ⟨(i0 : Int), rb⟩) 49))) := ⟨HE1.out.keep hbn, HU1.out.keep hbn, (Blk.new w2 49 (puV ⟨(i0 : Int), rb⟩)).pull, hq.keep ((Below.refl _ _).alloc (Nat.le_refl _) _)⟩
    clear HE1 HU1 hb2 hbn hq c0 c1 c2 c3 c4 c5 d0 d1 d2 x0 x1 x2
    obtain ⟨⟨⟨c0, c1, c2, c3, c4, c5⟩, ⟨d0, d1, d2⟩, sx, _, _, _⟩, _, ⟨r0, r1⟩, _⟩ := HE3.out
    rw [HX.out] at sx
    have x0 := sx 0 _ rfl
    have x1 := sx 1 _ rfl
    have x2 := sx 2 _ rfl
    clear sx
    go_wp2_with fail
    obtain ⟨gR, hgR⟩ : ∃ gR, w2.heap.size = gR := ⟨_, rfl⟩
    rw [hgR] at HE3 ⊢
    clear hgR
    refine (tlies_c b s A c ⟨(i0 : Int), rb⟩ Q ps qc _ HE3.out.e.ts HE3.out.p).mono ?_
    rintro e w4 ⟨rfl, hb⟩
    rw [L1]
    have HE5 := Lib.hid (HE3.out.keep (hb.alloc hb.size (.cells #[.int .i64 a0, .int .i64 a1] 23)))
    have HA5 := Lib.hid (show C2 w4.heap.size a0 a1 _ from (Blk.new w4 23 #[.int .i64 a0, .int .i64 a1]).span)
    clear HE3 hb
    clear c0 c1 c2 c3 c4 c5 d0 d1 d2 r0 r1 x0 x1 x2
    go_wp2_with fail
    obtain ⟨gA, hgA⟩ : ∃ gA, w4.heap.size = gA := ⟨_, rfl⟩
    rw [hgA] at HA5 ⊢
    clear hgA
    refine Vals9.region (fun _ X => PuS (w.heap.size) (w.heap.size + 1) (w.heap.size + 1 + 1) gR b A c s xs P l P2 l2 (i0 : Int) rb Q ps w X ∧ C2 gA a0 a1 X) [some 54, some 55, some 56, some 57, some 58, some 59, some 60, some 61, some 62, some 63, some 64, some 13] [.is (.agg (sV s)), .is (.agg (bV b A c)), .is (.agg (sV s)), .is (.pointer (some ⟨gR, 0, none⟩)), .is (.int .i64 (i0 : Int)), .is (.pointer (some ⟨w.heap.size + 1 + 1, 1, none⟩)), .is (.slice P2 l2.length cz), .is (.agg (trV sl dr he wn)), .is (.pointer (some ⟨gR, 1, none⟩)), .is (.int .i64 rb), .is (.int .i64 N), .is (.int .i64 N)] (by kernel_rfl) (by kernel_rfl) (by kernel_rfl) (by kernel_rfl) (by kernel_rfl) (by kernel_rfl) (⟨HE5.out.drew, HA5.out.drew⟩) ?_ ?_
    · refine Vals9.Steps.run (by kernel_rfl) ?_ ?_
      · intro a W σ hJ pre K hK
        have e4 : a.tmps.getD 4 undef = .pointer (some ⟨w.heap.size + 1, 0, none⟩) := pre.2.2 4 _ (by kernel_rfl) rfl
        clear pre
        simp only [Array.getD_eq_getD_getElem?] at e4
        have hS9 := hJ
        obtain ⟨⟨⟨s0, s1, s2, s3, s4, s5⟩, ⟨d0, d1, d2⟩, sx, ts, us, sn⟩, uu, ⟨r0, r1⟩, pq⟩ := hS9.1
        rw [HX.out] at sx
        have x0 := sx 0 _ rfl
        have x1 := sx 1 _ rfl
        have x2 := sx 2 _ rfl
        clear sx
        go_simp
        exact hK _ hJ
      refine Vals9.Steps.run (by kernel_rfl) ?_ ?_
      · intro a W σ hJ pre K hK
        have e3 : a.tmps.getD 3 undef = .pointer (some ⟨w.heap.size, 0, none⟩) := pre.2.2 3 _ (by kernel_rfl) rfl
        clear pre
        simp only [Array.getD_eq_getD_getElem?] at e3
        have hS9 := hJ
        obtain ⟨⟨⟨s0, s1, s2, s3, s4, s5⟩, ⟨d0, d1, d2⟩, sx, ts, us, sn⟩, uu, ⟨r0, r1⟩, pq⟩ := hS9.1
        rw [HX.out] at sx
        have x0 := sx 0 _ rfl
        have x1 := sx 1 _ rfl
        have x2 := sx 2 _ rfl
        clear sx
        go_simp
        exact hK _ hJ
      refine Vals9.Steps.run (by kernel_rfl) ?_ ?_
      · intro a W σ hJ pre K hK
        have e4 : a.tmps.getD 4 undef = .pointer (some ⟨w.heap.size + 1, 0, none⟩) := pre.2.2 4 _ (by kernel_rfl) rfl
        clear pre
        simp only [Array.getD_eq_getD_getElem?] at e4
        have hS9 := hJ
        obtain ⟨⟨⟨s0, s1, s2, s3, s4, s5⟩, ⟨d0, d1, d2⟩, sx, ts, us, sn⟩, uu, ⟨r0, r1⟩, pq⟩ := hS9.1
        rw [HX.out] at sx
        have x0 := sx 0 _ rfl
        have x1 := sx 1 _ rfl
        have x2 := sx 2 _ rfl
        clear sx
        go_simp
        exact hK _ hJ
      refine Vals9.Steps.run (by kernel_rfl) ?_ ?_
      · intro a W σ hJ pre K hK
        have e9 : a.tmps.getD 9 undef = .pointer (some ⟨gR, 0, none⟩) := pre.2.2 9 _ (by kernel_rfl) rfl
        clear pre
        simp only [Array.getD_eq_getD_getElem?] at e9
        go_simp
        exact hK _ hJ
      refine Vals9.Steps.run (by kernel_rfl) ?_ ?_
      · intro a W σ hJ pre K hK
        have e57 : a.tmps.getD 57 undef = .pointer (some ⟨gR, 0, none⟩) := pre.1 3 57 _ (by kernel_rfl) rfl rfl
        clear pre
        simp only [Array.getD_eq_getD_getElem?] at e57
        have hS9 := hJ
        obtain ⟨⟨⟨s0, s1, s2, s3, s4, s5⟩, ⟨d0, d1, d2⟩, sx, ts, us, sn⟩, uu, ⟨r0, r1⟩, pq⟩ := hS9.1
        rw [HX.out] at sx
        have x0 := sx 0 _ rfl
        have x1 := sx 1 _ rfl
        have x2 := sx 2 _ rfl
        clear sx
        go_simp
        exact hK _ hJ
      refine Vals9.Steps.run (by kernel_rfl) ?_ ?_
      · intro a W σ hJ pre K hK
        have e5 : a.tmps.getD 5 undef = .pointer (some ⟨w.heap.size + 1 + 1, 0, none⟩) := pre.2.2 5 _ (by kernel_rfl) rfl
        clear pre
        simp only [Array.getD_eq_getD_getElem?] at e5
        go_simp
        exact hK _ hJ
      refine Vals9.Steps.run (by kernel_rfl) ?_ ?_
      · intro a W σ hJ pre K hK
        have e59 : a.tmps.getD 59 undef = .pointer (some ⟨w.heap.size + 1 + 1, 1, none⟩) := pre.1 5 59 _ (by kernel_rfl) rfl rfl
        clear pre
        simp only [Array.getD_eq_getD_getElem?] at e59
        have hS9 := hJ
        obtain ⟨⟨⟨s0, s1, s2, s3, s4, s5⟩, ⟨d0, d1, d2⟩, sx, ts, us, sn⟩, uu, ⟨r0, r1⟩, pq⟩ := hS9.1
        rw [HX.out] at sx
        have x0 := sx 0 _ rfl
        have x1 := sx 1 _ rfl
        have x2 := sx 2 _ rfl
        clear sx
        go_simp
        exact hK _ hJ
      refine Vals9.Steps.run (by kernel_rfl) ?_ ?_
      · intro a W σ hJ pre K hK
        have e55 : a.tmps.getD 55 undef = .agg (bV b A c) := pre.1 1 55 _ (by kernel_rfl) rfl rfl
        have e56 : a.tmps.getD 56 undef = .agg (sV s) := pre.1 2 56 _ (by kernel_rfl) rfl rfl
        have e58 : a.tmps.getD 58 undef = .int .i64 (i0 : Int) := pre.1 4 58 _ (by kernel_rfl) rfl rfl
        have e60 : a.tmps.getD 60 undef = .slice P2 l2.length cz := pre.1 6 60 _ (by kernel_rfl) rfl rfl
        clear pre
        simp only [Array.getD_eq_getD_getElem?] at e55 e56 e58 e60
        go_simp
        obtain ⟨hE, hA⟩ := hJ
        refine (truth_c2 b s A c i0 P2 l2 cz _ hE.e.ts hB hS hi0 hE.u ho2 HT0.out).mono ?_
        rintro e w' ⟨rfl, hb'⟩
        exact hK _ ⟨hE.keep hb', hA.keep hb'⟩
      refine Vals9.Steps.run (by kernel_rfl) ?_ ?_
      · intro a W σ hJ pre K hK
        have e9 : a.tmps.getD 9 undef = .pointer (some ⟨gR, 0, none⟩) := pre.2.2 9 _ (by kernel_rfl) rfl
        clear pre
        simp only [Array.getD_eq_getD_getElem?] at e9
        go_simp
        exact hK _ hJ
      refine Vals9.Steps.run (by kernel_rfl) ?_ ?_
      · intro a W σ hJ pre K hK
        have e62 : a.tmps.getD 62 undef = .pointer (some ⟨gR, 1, none⟩) := pre.1 8 62 _ (by kernel_rfl) rfl rfl
        clear pre
        simp only [Array.getD_eq_getD_getElem?] at e62
        have hS9 := hJ
        obtain ⟨⟨⟨s0, s1, s2, s3, s4, s5⟩, ⟨d0, d1, d2⟩, sx, ts, us, sn⟩, uu, ⟨r0, r1⟩, pq⟩ := hS9.1
        rw [HX.out] at sx
        have x0 := sx 0 _ rfl
        have x1 := sx 1 _ rfl
        have x2 := sx 2 _ rfl
        clear sx
        go_simp
        exact hK _ hJ
      refine Vals9.Steps.run (by kernel_rfl) ?_ ?_
      · intro a W σ hJ pre K hK
        have e54 : a.tmps.getD 54 undef = .agg (sV s) := pre.1 0 54 _ (by kernel_rfl) rfl rfl
        have e61 : a.tmps.getD 61 undef = .agg (trV sl dr he wn) := pre.1 7 61 _ (by kernel_rfl) rfl rfl
        have e63 : a.tmps.getD 63 undef = .int .i64 rb := pre.1 9 63 _ (by kernel_rfl) rfl rfl
        clear pre
        simp only [Array.getD_eq_getD_getElem?] at e54 e61 e63
        go_simp
        obtain ⟨hE, hA⟩ := hJ
        refine (stop_c s sl dr he wn rb _ htk hS.k0 hS.k1 hrb0 (by omega)).mono ?_
        rintro e w' ⟨rfl, hb'⟩
        rw [HN.out]
        exact hK _ ⟨hE.keep hb', hA.keep hb'⟩
      refine Vals9.Steps.run (by kernel_rfl) ?_ ?_
      · intro a W σ hJ pre K hK
        have e64 : a.tmps.getD 64 undef = .int .i64 N := pre.1 10 64 _ (by kernel_rfl) rfl rfl
        clear pre
        simp only [Array.getD_eq_getD_getElem?] at e64
        go_simp
        exact hK _ hJ
      exact Vals9.Steps.nil
    · rintro X6 σ ⟨hE6, hA6⟩
      simp only [Vals9.All]
      simp only [Vals.putAll, List.setIfInBounds_toArray, List.set_cons_zero, List.set_cons_succ]
      clear HE5 HA5
      go_wp2_with fail
      go_loopw [14, 15, 16] (fun lv i _ wr => ∃ k : Nat, k ≤ ps.length ∧ i = .int .i64 k ∧ lv = .int .i64 (liesK b s l2 ⟨(i0 : Int), rb⟩ (ps.take k)) ∧ PuS w.heap.size (w.heap.size + 1) (w.heap.size + 1 + 1) gR b A c s xs P l P2 l2 (i0 : Int) rb Q ps w wr ∧ C2 gA a0 a1 wr) (fun _ i _ _ => ps.length - (intOf i).toNat)
      case atStart => exact ⟨0, Nat.zero_le _, rfl, by simp [liesK, hNR], hE6, hA6⟩
      case round =>
        obtain ⟨k, hkl, rfl, rfl, hE, hA⟩ := hrel
        by_cases hlt : k < ps.length
        · obtain ⟨ad, hQ, _⟩ := hE.p.get hlt
          subst hQ
          have hpk := hpok' _ (List.getElem_mem hlt)
          obtain ⟨i, hi⟩ : ∃ i : Nat, ps[k].tide = i := ⟨ps[k].tide.toNat, by have := hpk.t0; omega⟩
          have hil : i < b.ts.length := by have := hpk.t1; omega
          clear htk HT0 HN
          obtain ⟨sl, dr, he, wn, hT1, htk1, htk2, hh0, hh1, hb0, hb1⟩ := trt_ok hB hS l2 hil
          obtain ⟨v, hv⟩ : ∃ v, pl sl dr (he + b.bite) wn (-s.sink * ps[k].bal) = v := ⟨_, rfl⟩
          have hPP : plP b s l2 ps[k] = v := (plP_of hi hT1).trans hv
          have HT1 := Lib.hid hT1
          have HPV := Lib.hid hv
          have HLK : Hid (liesK b s l2 ⟨(i0 : Int), rb⟩ (ps.take (k + 1)) = max (liesK b s l2 ⟨(i0 : Int), rb⟩ (ps.take k)) v) := by
            show _ = _
            rw [List.take_succ_eq_append_getElem hlt, liesK_snoc, hPP]
          clear hT1 hv hPP
          generalize liesK b s l2 ⟨(i0 : Int), rb⟩ (ps.take k) = lk at *
          have hwr : wr.heap.size = wr.heap.size := rfl
          go_wp2_with fail
          refine Vals6.regionAll (fun X => (PuS (w.heap.size) (w.heap.size + 1) (w.heap.size + 1 + 1) gR b A c s xs P l P2 l2 (i0 : Int) rb (some ad) ps w X ∧ C2 gA a0 a1 X) ∧ Since wr X) [some 72, some 73, some 74, some 75, some 76, some 77, some 78, some 79, some 80, some 81, some 16] [.is (.agg (bV b A c)), .is (.agg (sV s)), .is (.slice (some ad) ps.length qc), .is (.int .i64 (k : Int)), .is (.pointer (some (ad.add (k * 2)))), .is (.pointer (some (ad.add (k * 2)))), .is (.int .i64 (i : Int)), .is (.pointer (some ⟨w.heap.size + 1 + 1, 1, none⟩)), .is (.slice P2 l2.length cz), .is (.agg (trV sl dr he wn)), .has (NewT wr.heap.size)] (by kernel_rfl) rfl rfl (by kernel_rfl) (by kernel_rfl) (by kernel_rfl) (by kernel_rfl) (by kernel_rfl) (by kernel_rfl) (by kernel_rfl) (⟨⟨hE.drew, hA.drew⟩, (Since.refl wr).drew⟩) ?_ ?_
          · refine Vals5.Steps.run (by kernel_rfl) (Vals5.Stable.is _) ?_ ?_
            · intro a W hS pre old K hK
              have e3 : a.tmps.getD 3 undef = .pointer (some ⟨w.heap.size, 0, none⟩) := old 3 _ (by kernel_rfl) rfl
              clear pre old
              simp only [Array.getD_eq_getD_getElem?] at e3
              have hS9 := hS
              obtain ⟨hS9, _⟩ := hS9
              obtain ⟨⟨⟨s0, s1, s2, s3, s4, s5⟩, ⟨d0, d1, d2⟩, sx, ts, us, sn⟩, uu, ⟨r0, r1⟩, pq⟩ := hS9.1
              rw [HX.out] at sx
              have x0 := sx 0 _ rfl
              have x1 := sx 1 _ rfl
              have x2 := sx 2 _ rfl
              clear sx
              obtain ⟨ad', hA', y0, y1⟩ := pq.get hlt
              obtain rfl : ad = ad' := by simpa using hA'
              rw [hi] at y0
              go_simp
              exact hK _ _ hS (Below.refl _ _) rfl
            refine Vals5.Steps.run (by kernel_rfl) (Vals5.Stable.is _) ?_ ?_
            · intro a W hS pre old K hK
              have e4 : a.tmps.getD 4 undef = .pointer (some ⟨w.heap.size + 1, 0, none⟩) := old 4 _ (by kernel_rfl) rfl
              clear pre old
              simp only [Array.getD_eq_getD_getElem?] at e4
              have hS9 := hS
              obtain ⟨hS9, _⟩ := hS9
              obtain ⟨⟨⟨s0, s1, s2, s3, s4, s5⟩, ⟨d0, d1, d2⟩, sx, ts, us, sn⟩, uu, ⟨r0, r1⟩, pq⟩ := hS9.1
              rw [HX.out] at sx
              have x0 := sx 0 _ rfl
              have x1 := sx 1 _ rfl
              have x2 := sx 2 _ rfl
              clear sx
              obtain ⟨ad', hA', y0, y1⟩ := pq.get hlt
              obtain rfl : ad = ad' := by simpa using hA'
              rw [hi] at y0
              go_simp
              exact hK _ _ hS (Below.refl _ _) rfl
            refine Vals5.Steps.run (by kernel_rfl) (Vals5.Stable.is _) ?_ ?_
            · intro a W hS pre old K hK
              have e10 : a.tmps.getD 10 undef = .slice (some ad) ps.length qc := old 10 _ (by kernel_rfl) rfl
              clear pre old
              simp only [Array.getD_eq_getD_getElem?] at e10
              go_simp
              exact hK _ _ hS (Below.refl _ _) rfl
            refine Vals5.Steps.run (by kernel_rfl) (Vals5.Stable.is _) ?_ ?_
            · intro a W hS pre old K hK
              have e15 : a.tmps.getD 15 undef = .int .i64 (k : Int) := old 15 _ (by kernel_rfl) rfl
              clear pre old
              simp only [Array.getD_eq_getD_getElem?] at e15
              go_simp
              exact hK _ _ hS (Below.refl _ _) rfl
            refine Vals5.Steps.run (by kernel_rfl) (Vals5.Stable.is _) ?_ ?_
            · intro a W hS pre old K hK
              have e74 : a.tmps.getD 74 undef = .slice (some ad) ps.length qc := pre 2 74 _ (by kernel_rfl) rfl rfl
              have e75 : a.tmps.getD 75 undef = .int .i64 (k : Int) := pre 3 75 _ (by kernel_rfl) rfl rfl
              clear pre old
              simp only [Array.getD_eq_getD_getElem?] at e74 e75
              go_simp
              exact hK _ _ hS (Below.refl _ _) rfl
            refine Vals5.Steps.run (by kernel_rfl) (Vals5.Stable.is _) ?_ ?_
            · intro a W hS pre old K hK
              have e76 : a.tmps.getD 76 undef = .pointer (some (ad.add (k * 2))) := pre 4 76 _ (by kernel_rfl) rfl rfl
              clear pre old
              simp only [Array.getD_eq_getD_getElem?] at e76
              go_simp
              exact hK _ _ hS (Below.refl _ _) rfl
            refine Vals5.Steps.run (by kernel_rfl) (Vals5.Stable.is _) ?_ ?_
            · intro a W hS pre old K hK
              have e77 : a.tmps.getD 77 undef = .pointer (some (ad.add (k * 2))) := pre 5 77 _ (by kernel_rfl) rfl rfl
              clear pre old
              simp only [Array.getD_eq_getD_getElem?] at e77
              have hS9 := hS
              obtain ⟨hS9, _⟩ := hS9
              obtain ⟨⟨⟨s0, s1, s2, s3, s4, s5⟩, ⟨d0, d1, d2⟩, sx, ts, us, sn⟩, uu, ⟨r0, r1⟩, pq⟩ := hS9.1
              rw [HX.out] at sx
              have x0 := sx 0 _ rfl
              have x1 := sx 1 _ rfl
              have x2 := sx 2 _ rfl
              clear sx
              obtain ⟨ad', hA', y0, y1⟩ := pq.get hlt
              obtain rfl : ad = ad' := by simpa using hA'
              rw [hi] at y0
              go_simp
              exact hK _ _ hS (Below.refl _ _) rfl
            refine Vals5.Steps.run (by kernel_rfl) (Vals5.Stable.is _) ?_ ?_
            · intro a W hS pre old K hK
              have e5 : a.tmps.getD 5 undef = .pointer (some ⟨w.heap.size + 1 + 1, 0, none⟩) := old 5 _ (by kernel_rfl) rfl
              clear pre old
              simp only [Array.getD_eq_getD_getElem?] at e5
              go_simp
              exact hK _ _ hS (Below.refl _ _) rfl
            refine Vals5.Steps.run (by kernel_rfl) (Vals5.Stable.is _) ?_ ?_
            · intro a W hS pre old K hK
              have e79 : a.tmps.getD 79 undef = .pointer (some ⟨w.heap.size + 1 + 1, 1, none⟩) := pre 7 79 _ (by kernel_rfl) rfl rfl
              clear pre old
              simp only [Array.getD_eq_getD_getElem?] at e79
              have hS9 := hS
              obtain ⟨hS9, _⟩ := hS9
              obtain ⟨⟨⟨s0, s1, s2, s3, s4, s5⟩, ⟨d0, d1, d2⟩, sx, ts, us, sn⟩, uu, ⟨r0, r1⟩, pq⟩ := hS9.1
              rw [HX.out] at sx
              have x0 := sx 0 _ rfl
              have x1 := sx 1 _ rfl
              have x2 := sx 2 _ rfl
              clear sx
              obtain ⟨ad', hA', y0, y1⟩ := pq.get hlt
              obtain rfl : ad = ad' := by simpa using hA'
              rw [hi] at y0
              go_simp
              exact hK _ _ hS (Below.refl _ _) rfl
            refine Vals5.Steps.run (by kernel_rfl) (Vals5.Stable.is _) ?_ ?_
            · intro a W hS pre old K hK
              have e72 : a.tmps.getD 72 undef = .agg (bV b A c) := pre 0 72 _ (by kernel_rfl) rfl rfl
              have e73 : a.tmps.getD 73 undef = .agg (sV s) := pre 1 73 _ (by kernel_rfl) rfl rfl
              have e78 : a.tmps.getD 78 undef = .int .i64 (i : Int) := pre 6 78 _ (by kernel_rfl) rfl rfl
              have e80 : a.tmps.getD 80 undef = .slice P2 l2.length cz := pre 8 80 _ (by kernel_rfl) rfl rfl
              clear pre old
              simp only [Array.getD_eq_getD_getElem?] at e72 e73 e78 e80
              go_simp
              obtain ⟨hE, hsw⟩ := hS
              refine (truth_c2 b s A c i P2 l2 cz _ hE.1.e.ts hB HSO.out hil hE.1.u ho2 HT1.out).mono ?_
              rintro e w' ⟨rfl, hb'⟩
              exact hK _ _ ⟨⟨hE.1.keep hb', hE.2.keep hb'⟩, hsw.keep hb'⟩ hb' rfl
            refine Vals5.Steps.run (by kernel_rfl) (NewT.stable _) ?_ ?_
            · intro a W hS pre old K hK
              clear pre old
              go_simp
              obtain ⟨hE, hsw⟩ := hS
              have hb' : Below W.heap.size W (W.alloc (.cells (trV 0 0 0 0) 45)) := (Below.refl _ _).alloc (Nat.le_refl _) _
              exact hK _ _ ⟨⟨hE.1.keep hb', hE.2.keep hb'⟩, hsw.keep hb'⟩ hb' ⟨_, rfl, hsw.2, Blk.new _ _ _⟩
            exact Vals5.Steps.nil
          · intro X ⟨⟨hE2, hA2⟩, hsw⟩
            simp only [Vals5.All, List.getLast_cons_cons, List.getLast_singleton]
            rintro v16 ⟨gT, rfl, hgT, hBT⟩
            simp only [Vals.putAll, List.setIfInBounds_toArray, List.set_cons_zero, List.set_cons_succ]
            intro K hK
            refine wp_store_row 45 _ _ rfl gT (trV sl dr he wn) rfl rfl 45 _ hBT (by kernel_rfl) rfl (by simp [Value.oneCell']) ?_
            refine hK _ _ ?_
            clear hK K
            have hsw2 := hsw.row hgT (trV sl dr he wn)
            have hB2 := hBT.row (trV sl dr he wn)
            have hsw3 : Since wr ((X.setRow gT (trV sl dr he wn)).setCell ⟨gT, 2, none⟩ (.int .i64 (he + b.bite))) := ⟨hsw2.1.setCell hgT _, by simpa using hsw2.2⟩
            have hB3 := hB2.set 2 (.int .i64 (he + b.bite))
            have hC3 : C4 gT sl dr (he + b.bite) wn ((X.setRow gT (trV sl dr he wn)).setCell ⟨gT, 2, none⟩ (.int .i64 (he + b.bite))) := ⟨hB3.cell 0, hB3.cell 1, hB3.cell 2, hB3.cell 3⟩
            have hE3 := hE.keep hsw3.1
            have hA3 := hA.keep hsw3.1
            obtain ⟨⟨⟨_, _, _, _, c4, _⟩, _, _, _, _, _⟩, _, _, _⟩ := hE.keep hsw2.1
            have q2 := hB2.cell 2
            have f2 := hB2.frozen 2
            clear hE2 hA2 hsw hBT hB3 hsw2
            go_wp2_with fail
            clear c4 q2 f2 hB2
            refine Vals6.regionAll (fun X => (PuS (w.heap.size) (w.heap.size + 1) (w.heap.size + 1 + 1) gR b A c s xs P l P2 l2 (i0 : Int) rb (some ad) ps w X ∧ C2 gA a0 a1 X) ∧ C4 gT sl dr (he + b.bite) wn X) [some 88, some 89, some 90, some 91, some 92, some 93, some 94, some 95, some 96, some 97] [.is (.int .i64 lk), .is (.agg (sV s)), .is (.agg (trV sl dr (he + b.bite) wn)), .is (.slice (some ad) ps.length qc), .is (.int .i64 (k : Int)), .is (.pointer (some (ad.add (k * 2)))), .is (.pointer (some (at_ (ad.add (k * 2)) 1))), .is (.int .i64 ps[k].bal), .is (.int .i64 v), .is (.int .i64 (max lk v))] (by kernel_rfl) rfl rfl (by kernel_rfl) (by kernel_rfl) (by kernel_rfl) (by kernel_rfl) (by kernel_rfl) (by kernel_rfl) (by kernel_rfl) (⟨⟨hE3.drew, hA3.drew⟩, hC3.drew⟩) ?_ ?_
            · refine Vals5.Steps.run (by kernel_rfl) (Vals5.Stable.is _) ?_ ?_
              · intro a W hS pre old K hK
                have e14 : a.tmps.getD 14 undef = .int .i64 lk := old 14 _ (by kernel_rfl) rfl
                clear pre old
                simp only [Array.getD_eq_getD_getElem?] at e14
                go_simp
                exact hK _ _ hS (Below.refl _ _) rfl
              refine Vals5.Steps.run (by kernel_rfl) (Vals5.Stable.is _) ?_ ?_
              · intro a W hS pre old K hK
                have e4 : a.tmps.getD 4 undef = .pointer (some ⟨w.heap.size + 1, 0, none⟩) := old 4 _ (by kernel_rfl) rfl
                clear pre old
                simp only [Array.getD_eq_getD_getElem?] at e4
                have hS9 := hS
                obtain ⟨hS9, ⟨t0, t1, t2, t3⟩⟩ := hS9
                obtain ⟨⟨⟨s0, s1, s2, s3, s4, s5⟩, ⟨d0, d1, d2⟩, sx, ts, us, sn⟩, uu, ⟨r0, r1⟩, pq⟩ := hS9.1
                rw [HX.out] at sx
                have x0 := sx 0 _ rfl
                have x1 := sx 1 _ rfl
                have x2 := sx 2 _ rfl
                clear sx
                obtain ⟨ad', hA', y0, y1⟩ := pq.get hlt
                obtain rfl : ad = ad' := by simpa using hA'
                go_simp
                exact hK _ _ hS (Below.refl _ _) rfl
              refine Vals5.Steps.run (by kernel_rfl) (Vals5.Stable.is _) ?_ ?_
              · intro a W hS pre old K hK
                have e16 : a.tmps.getD 16 undef = .pointer (some ⟨gT, 0, none⟩) := old 16 _ (by kernel_rfl) rfl
                clear pre old
                simp only [Array.getD_eq_getD_getElem?] at e16
                have hS9 := hS
                obtain ⟨hS9, ⟨t0, t1, t2, t3⟩⟩ := hS9
                obtain ⟨⟨⟨s0, s1, s2, s3, s4, s5⟩, ⟨d0, d1, d2⟩, sx, ts, us, sn⟩, uu, ⟨r0, r1⟩, pq⟩ := hS9.1
                rw [HX.out] at sx
                have x0 := sx 0 _ rfl
                have x1 := sx 1 _ rfl
                have x2 := sx 2 _ rfl
                clear sx
                obtain ⟨ad', hA', y0, y1⟩ := pq.get hlt
                obtain rfl : ad = ad' := by simpa using hA'
                go_simp
                exact hK _ _ hS (Below.refl _ _) rfl
              refine Vals5.Steps.run (by kernel_rfl) (Vals5.Stable.is _) ?_ ?_
              · intro a W hS pre old K hK
                have e10 : a.tmps.getD 10 undef = .slice (some ad) ps.length qc := old 10 _ (by kernel_rfl) rfl
                clear pre old
                simp only [Array.getD_eq_getD_getElem?] at e10
                go_simp
                exact hK _ _ hS (Below.refl _ _) rfl
              refine Vals5.Steps.run (by kernel_rfl) (Vals5.Stable.is _) ?_ ?_
              · intro a W hS pre old K hK
                have e15 : a.tmps.getD 15 undef = .int .i64 (k : Int) := old 15 _ (by kernel_rfl) rfl
                clear pre old
                simp only [Array.getD_eq_getD_getElem?] at e15
                go_simp
                exact hK _ _ hS (Below.refl _ _) rfl
              refine Vals5.Steps.run (by kernel_rfl) (Vals5.Stable.is _) ?_ ?_
              · intro a W hS pre old K hK
                have e91 : a.tmps.getD 91 undef = .slice (some ad) ps.length qc := pre 3 91 _ (by kernel_rfl) rfl rfl
                have e92 : a.tmps.getD 92 undef = .int .i64 (k : Int) := pre 4 92 _ (by kernel_rfl) rfl rfl
                clear pre old
                simp only [Array.getD_eq_getD_getElem?] at e91 e92
                go_simp
                exact hK _ _ hS (Below.refl _ _) rfl
              refine Vals5.Steps.run (by kernel_rfl) (Vals5.Stable.is _) ?_ ?_
              · intro a W hS pre old K hK
                have e93 : a.tmps.getD 93 undef = .pointer (some (ad.add (k * 2))) := pre 5 93 _ (by kernel_rfl) rfl rfl
                clear pre old
                simp only [Array.getD_eq_getD_getElem?] at e93
                go_simp
                exact hK _ _ hS (Below.refl _ _) rfl
              refine Vals5.Steps.run (by kernel_rfl) (Vals5.Stable.is _) ?_ ?_
              · intro a W hS pre old K hK
                have e94 : a.tmps.getD 94 undef = .pointer (some (at_ (ad.add (k * 2)) 1)) := pre 6 94 _ (by kernel_rfl) rfl rfl
                clear pre old
                simp only [Array.getD_eq_getD_getElem?] at e94
                have hS9 := hS
                obtain ⟨hS9, ⟨t0, t1, t2, t3⟩⟩ := hS9
                obtain ⟨⟨⟨s0, s1, s2, s3, s4, s5⟩, ⟨d0, d1, d2⟩, sx, ts, us, sn⟩, uu, ⟨r0, r1⟩, pq⟩ := hS9.1
                rw [HX.out] at sx
                have x0 := sx 0 _ rfl
                have x1 := sx 1 _ rfl
                have x2 := sx 2 _ rfl
                clear sx
                obtain ⟨ad', hA', y0, y1⟩ := pq.get hlt
                obtain rfl : ad = ad' := by simpa using hA'
                go_simp
                exact hK _ _ hS (Below.refl _ _) rfl
              refine Vals5.Steps.run (by kernel_rfl) (Vals5.Stable.is _) ?_ ?_
              · intro a W hS pre old K hK
                have e89 : a.tmps.getD 89 undef = .agg (sV s) := pre 1 89 _ (by kernel_rfl) rfl rfl
                have e90 : a.tmps.getD 90 undef = .agg (trV sl dr (he + b.bite) wn) := pre 2 90 _ (by kernel_rfl) rfl rfl
                have e95 : a.tmps.getD 95 undef = .int .i64 ps[k].bal := pre 7 95 _ (by kernel_rfl) rfl rfl
                clear pre old
                simp only [Array.getD_eq_getD_getElem?] at e89 e90 e95
                go_simp
                obtain ⟨⟨hE, hA⟩, hC⟩ := hS
                refine (stop_c s sl dr (he + b.bite) wn ps[k].bal _ htk2 hS0 hS1 hpk.b0 (by have := hpk.b1; omega)).mono ?_
                rintro e w' ⟨rfl, hb'⟩
                rw [HPV.out]
                exact hK _ _ ⟨⟨hE.keep hb', hA.keep hb'⟩, hC.keep hb'⟩ hb' rfl
              refine Vals5.Steps.run (by kernel_rfl) (Vals5.Stable.is _) ?_ ?_
              · intro a W hS pre old K hK
                have e88 : a.tmps.getD 88 undef = .int .i64 lk := pre 0 88 _ (by kernel_rfl) rfl rfl
                have e96 : a.tmps.getD 96 undef = .int .i64 v := pre 8 96 _ (by kernel_rfl) rfl rfl
                clear pre old
                simp only [Array.getD_eq_getD_getElem?] at e88 e96
                rcases (by omega : (lk < v ∧ max lk v = v) ∨ (¬ lk < v ∧ max lk v = lk)) with ⟨h2, hn⟩ | ⟨h2, hn⟩
                · go_simp
                  exact hK _ _ hS (Below.refl _ _) (by show _ = _; rw [hn])
                · go_simp
                  exact hK _ _ hS (Below.refl _ _) (by show _ = _; rw [hn])
              exact Vals5.Steps.nil
            · rintro X7 ⟨⟨hE7, hA7⟩, hC7⟩
              simp only [Vals5.All, List.getLast_cons_cons, List.getLast_singleton]
              simp only [Vals.putAll, List.setIfInBounds_toArray, List.set_cons_zero, List.set_cons_succ]
              intro K hK
              go_simp
              refine hK _ _ ?_
              clear hK K
              go_wp2_with fail
              go_roundw
              case rel => exact ⟨k + 1, by omega, by go_num, by rw [HLK.out], hE7, hA7⟩
              case measure => simp [intOf]; omega
        · rw [List.take_of_length_le (by omega)]
          have HE8 := Lib.hid hE
          obtain ⟨A0, A1⟩ := id hA
          have hwg : IntKind.i64.wrap g = g := IntWalk.i64_in _ (by omega)
          generalize liesK b s l2 ⟨(i0 : Int), rb⟩ ps = LK at *
          go_wp2_with fail
          refine (inside_c _ _ _ _).mono ?_
          rintro e w9 ⟨rfl, hb⟩
          rw [HIN.out]
          have HE9 := Lib.hid (HE8.out.keep hb)
          have hA9 := hA.keep hb
          clear HE8 hE hA hb A0 A1 hE6 hA6
          by_cases hps : ps = []
          · subst hps
            obtain ⟨⟨⟨c0, c1, c2, c3, c4, c5⟩, ⟨d0, d1, d2⟩, sx, _, _, _⟩, _, ⟨r0, r1⟩, _⟩ := HE9.out
            rw [HX.out] at sx
            have x0 := sx 0 _ rfl
            have x1 := sx 1 _ rfl
            have x2 := sx 2 _ rfl
            clear sx
            go_wp2_with fail
            refine (later_c b s A c ⟨(i0 : Int), rb⟩ g _ HE9.out.e.ts).mono ?_
            rintro e w12 ⟨rfl, hb⟩
            have HE12 := Lib.hid (HE9.out.keep hb)
            clear hb
            clear c0 c1 c2 c3 c4 c5 d0 d1 d2 r0 r1 x0 x1 x2
            rcases laterV_two hk hrk g with hL | ⟨q, hq1, hq2, hL, hq3⟩
            · rw [hL]
              go_wp2_with fail
              refine (awake_c _).mono ?_
              rintro e w13 ⟨rfl, hb⟩
              go_wp2_with fail
              go_ret
              exact ⟨rfl, (HE12.out.e.keep hb).sn.1⟩
            · rw [hL]
              have hend := later_end hB HSO.out l2 hrk hq2 hq3
              clear hL hq3
              simp only at hq1
              clear htk HT0 HN
              obtain ⟨sl, dr, he, wn, hT1, htk1, htk2, hh0, hh1, hb0, hb1⟩ := trt_ok hB HSO.out l2 hq2
              have hPP := plP_of (p := ⟨(q : Int), 0⟩) rfl hT1
              simp only at hPP
              rw [hPP, hNR] at hend
              obtain ⟨v, hv⟩ : ∃ v, pl sl dr (he + b.bite) wn (-s.sink * 0) = v := ⟨_, rfl⟩
              rw [hv] at hend
              have HPV := Lib.hid hv
              have HT1 := Lib.hid hT1
              clear hT1 hv hPP
              obtain ⟨⟨⟨c0, c1, c2, c3, c4, c5⟩, ⟨d0, d1, d2⟩, sx, _, _, _⟩, _, ⟨r0, r1⟩, _⟩ := HE12.out
              rw [HX.out] at sx
              have x0 := sx 0 _ rfl
              have x1 := sx 1 _ rfl
              have x2 := sx 2 _ rfl
              clear sx
              go_wp2_with fail
              refine (truth_c2 b s A c q P2 l2 cz _ HE12.out.e.ts hB HSO.out hq2 HE12.out.u ho2 HT1.out).mono ?_
              rintro e w13 ⟨rfl, hb⟩
              clear c0 c1 c2 c3 c4 c5 d0 d1 d2 r0 r1 x0 x1 x2
              have HE13 := Lib.hid ((HE12.out.keep hb).alloc (.cells (trV sl dr he wn) 45))
              have HE14 := Lib.hid ((HE12.out.keep hb).alloc (.cells (trV sl dr (he + b.bite) wn) 45))
              have hT14 : C4 w13.heap.size sl dr (he + b.bite) wn (w13.alloc (.cells (trV sl dr (he + b.bite) wn) 45)) := (Blk.new w13 45 (trV sl dr (he + b.bite) wn)).tr
              obtain ⟨⟨⟨_, _, _, _, c4, _⟩, _, _, _, _, _⟩, _, _, _⟩ := HE13.out
              obtain ⟨⟨_, ⟨d0, d1, d2⟩, _, _, _, _⟩, _, _, _⟩ := HE14.out
              obtain ⟨t0, t1, t2, t3⟩ := hT14
              go_wp2_with fail
              refine (stop_c s sl dr (he + b.bite) wn 0 _ htk2 HSO.out.k0 HSO.out.k1 (by omega) (by omega)).mono ?_
              rintro e w15 ⟨rfl, hb'⟩
              rw [HPV.out]
              have HE15 := Lib.hid (HE14.out.keep hb')
              clear c4 d0 d1 d2 t0 t1 t2 t3
              rcases (by omega : (N < v ∧ max N v = v) ∨ (¬ N < v ∧ max N v = N)) with ⟨h2, hn⟩ | ⟨h2, hn⟩
              all_goals
                rw [hn] at hend
                go_wp2_with fail
                refine (awake_c _).mono ?_
                rintro e w16 ⟨rfl, hb''⟩
                go_wp2_with fail
                go_ret
                exact ⟨rfl, (HE15.out.e.keep hb'').sn.1⟩
          · obtain ⟨m, hm⟩ : ∃ m, ps.length = m + 1 := ⟨ps.length - 1, by have := List.length_pos_iff.2 hps; omega⟩
            have hmq : m ≤ qc := by omega
            have hm1 : (ps.length : Int) - 1 = (m : Int) := by omega
            have hm2 : IntKind.i64.wrap ((ps.length : Int) - 1) = (m : Int) := by rw [hm1]; exact IntWalk.i64_in _ (by omega)
            have hpos : (0 : Int) < (ps.length : Int) := by omega
            obtain ⟨j1, j2⟩ := lie_init (s := s) (run := ⟨(i0 : Int), rb⟩) hB hps
            obtain ⟨b0, b1, LL, hbl, hbh⟩ : ∃ b0 b1 : Int, liesV b s ⟨(i0 : Int), rb⟩ ps.dropLast = .tuple #[.agg #[.int .i64 b0, .int .i64 b1], .int .i64 0] ∧ b0 ≤ a0 ∧ b1 ≤ a1 := ⟨_, _, liesV_ok hk hrk (pullsE_init hpe), by rw [← hin0.1]; exact j1, by rw [← hin0.2]; exact j2⟩
            have hdl : ps.dropLast.length = m := by simp [hm]
            have HM1 := Lib.hid hm1
            have HM2 := Lib.hid hm2
            clear hm hm1 hm2
            have HLL : Hid (∀ W : World, TsAt W A b.ts → PuAt W Q ps → Calls Try.prog 30 #[.agg (bV b A c), .agg (sV s), .agg (puV ⟨(i0 : Int), rb⟩), .slice Q m qc] W fun e w' => e = .returned (.tuple #[.agg #[.int .i64 b0, .int .i64 b1], .int .i64 0]) ∧ Below W.heap.size W w') := fun W h1 h2 => by
              have := tlies_c b s A c ⟨(i0 : Int), rb⟩ Q ps.dropLast qc W h1 h2.init
              rw [hdl, LL] at this
              exact this
            obtain ⟨A0, A1⟩ := id hA9
            go_wp2_with fail
            clear A0 A1
            obtain ⟨X9, hX9⟩ : ∃ X9, w9 = X9 := ⟨_, rfl⟩
            rw [hX9] at HE9 hA9 ⊢
            clear hX9
            refine Vals9.region (Fill X9 23 #[.int .i64 b0, .int .i64 b1] 12 13) [some 110, some 111, some 112, some 113, some 114, some 115, some 116, some 117, some 118, some 109, some 119, some 120, some 17, none, some 18] [.is (.agg (bV b A c)), .is (.agg (sV s)), .is (.agg (puV ⟨(i0 : Int), rb⟩)), .is (.slice Q ps.length qc), .is (.slice Q ps.length qc), .is (.int .i64 (ps.length : Int)), .is (.int .i64 (m : Int)), .is (.slice Q m qc), .is (.tuple #[.agg #[.int .i64 b0, .int .i64 b1], .int .i64 0]), .is (.tuple #[.agg #[.int .i64 b0, .int .i64 b1], .int .i64 0]), .is (.agg #[.int .i64 b0, .int .i64 b1]), .is (.int .i64 0), .any, .any, .is (.int .i64 0)] (by kernel_rfl) (by kernel_rfl) (by kernel_rfl) (by kernel_rfl) (by kernel_rfl) (by kernel_rfl) (Fill.start _ _ _ _ _) ?_ ?_
            · refine Vals9.Steps.run (by kernel_rfl) ?_ ?_
              · intro a W σ hJ pre K hK
                have e3 : a.tmps.getD 3 undef = .pointer (some ⟨w.heap.size, 0, none⟩) := pre.2.2 3 _ (by kernel_rfl) rfl
                clear pre
                simp only [Array.getD_eq_getD_getElem?] at e3
                have hS9 := hJ
                obtain ⟨⟨⟨s0, s1, s2, s3, s4, s5⟩, ⟨d0, d1, d2⟩, _, _, _, _⟩, _, ⟨r0, r1⟩, _⟩ := HE9.out.keep hS9.sn.1
                go_simp
                exact hK _ hJ
              refine Vals9.Steps.run (by kernel_rfl) ?_ ?_
              · intro a W σ hJ pre K hK
                have e4 : a.tmps.getD 4 undef = .pointer (some ⟨w.heap.size + 1, 0, none⟩) := pre.2.2 4 _ (by kernel_rfl) rfl
                clear pre
                simp only [Array.getD_eq_getD_getElem?] at e4
                have hS9 := hJ
                obtain ⟨⟨⟨s0, s1, s2, s3, s4, s5⟩, ⟨d0, d1, d2⟩, _, _, _, _⟩, _, ⟨r0, r1⟩, _⟩ := HE9.out.keep hS9.sn.1
                go_simp
                exact hK _ hJ
              refine Vals9.Steps.run (by kernel_rfl) ?_ ?_
              · intro a W σ hJ pre K hK
                have e9 : a.tmps.getD 9 undef = .pointer (some ⟨gR, 0, none⟩) := pre.2.2 9 _ (by kernel_rfl) rfl
                clear pre
                simp only [Array.getD_eq_getD_getElem?] at e9
                have hS9 := hJ
                obtain ⟨⟨⟨s0, s1, s2, s3, s4, s5⟩, ⟨d0, d1, d2⟩, _, _, _, _⟩, _, ⟨r0, r1⟩, _⟩ := HE9.out.keep hS9.sn.1
                go_simp
                exact hK _ hJ
              refine Vals9.Steps.run (by kernel_rfl) ?_ ?_
              · intro a W σ hJ pre K hK
                have e10 : a.tmps.getD 10 undef = .slice Q ps.length qc := pre.2.2 10 _ (by kernel_rfl) rfl
                clear pre
                simp only [Array.getD_eq_getD_getElem?] at e10
                go_simp
                exact hK _ hJ
              refine Vals9.Steps.run (by kernel_rfl) ?_ ?_
              · intro a W σ hJ pre K hK
                have e10 : a.tmps.getD 10 undef = .slice Q ps.length qc := pre.2.2 10 _ (by kernel_rfl) rfl
                clear pre
                simp only [Array.getD_eq_getD_getElem?] at e10
                go_simp
                exact hK _ hJ
              refine Vals9.Steps.run (by kernel_rfl) ?_ ?_
              · intro a W σ hJ pre K hK
                have e114 : a.tmps.getD 114 undef = .slice Q ps.length qc := pre.1 4 114 _ (by kernel_rfl) rfl rfl
                clear pre
                simp only [Array.getD_eq_getD_getElem?] at e114
                go_simp
                exact hK _ hJ
              refine Vals9.Steps.run (by kernel_rfl) ?_ ?_
              · intro a W σ hJ pre K hK
                have e115 : a.tmps.getD 115 undef = .int .i64 (ps.length : Int) := pre.1 5 115 _ (by kernel_rfl) rfl rfl
                clear pre
                simp only [Array.getD_eq_getD_getElem?] at e115
                go_simp
                first | exact hK _ hJ | (rw [HM1.out]; exact hK _ hJ) | (rw [HM2.out]; exact hK _ hJ)
              refine Vals9.Steps.run (by kernel_rfl) ?_ ?_
              · intro a W σ hJ pre K hK
                have e113 : a.tmps.getD 113 undef = .slice Q ps.length qc := pre.1 3 113 _ (by kernel_rfl) rfl rfl
                have e116 : a.tmps.getD 116 undef = .int .i64 (m : Int) := pre.1 6 116 _ (by kernel_rfl) rfl rfl
                clear pre
                simp only [Array.getD_eq_getD_getElem?] at e113 e116
                go_simp
                first | exact hK _ hJ | (simp only [hmq, if_true]; exact hK _ hJ)
              refine Vals9.Steps.run (by kernel_rfl) ?_ ?_
              · intro a W σ hJ pre K hK
                have e110 : a.tmps.getD 110 undef = .agg (bV b A c) := pre.1 0 110 _ (by kernel_rfl) rfl rfl
                have e111 : a.tmps.getD 111 undef = .agg (sV s) := pre.1 1 111 _ (by kernel_rfl) rfl rfl
                have e112 : a.tmps.getD 112 undef = .agg (puV ⟨(i0 : Int), rb⟩) := pre.1 2 112 _ (by kernel_rfl) rfl rfl
                have e117 : a.tmps.getD 117 undef = .slice Q m qc := pre.1 7 117 _ (by kernel_rfl) rfl rfl
                clear pre
                simp only [Array.getD_eq_getD_getElem?] at e110 e111 e112 e117
                go_simp
                refine (HLL.out _ (HE9.out.e.ts.keep hJ.sn.1) (HE9.out.p.keep hJ.sn.1)).mono ?_
                rintro e w' ⟨rfl, hb'⟩
                exact hK _ (hJ.keep hb')
              refine Vals9.Steps.run (by kernel_rfl) ?_ ?_
              · intro a W σ hJ pre K hK
                have e118 : a.tmps.getD 118 undef = .tuple #[.agg #[.int .i64 b0, .int .i64 b1], .int .i64 0] := pre.1 8 118 _ (by kernel_rfl) rfl rfl
                clear pre
                simp only [Array.getD_eq_getD_getElem?] at e118
                go_simp
                exact hK _ hJ
              refine Vals9.Steps.run (by kernel_rfl) ?_ ?_
              · intro a W σ hJ pre K hK
                have e109 : a.tmps.getD 109 undef = .tuple #[.agg #[.int .i64 b0, .int .i64 b1], .int .i64 0] := pre.1 9 109 _ (by kernel_rfl) rfl rfl
                clear pre
                simp only [Array.getD_eq_getD_getElem?] at e109
                go_simp
                exact hK _ hJ
              refine Vals9.Steps.run (by kernel_rfl) ?_ ?_
              · intro a W σ hJ pre K hK
                have e109 : a.tmps.getD 109 undef = .tuple #[.agg #[.int .i64 b0, .int .i64 b1], .int .i64 0] := pre.1 9 109 _ (by kernel_rfl) rfl rfl
                clear pre
                simp only [Array.getD_eq_getD_getElem?] at e109
                go_simp
                exact hK _ hJ
              refine Vals9.Steps.mark (by kernel_rfl) ?_ ?_
              · intro a W σ hJ hn pre K hK
                go_simp
                exact hK _ _ (hJ.new (by decide) hn _ rfl)
              refine Vals9.Steps.mark (by kernel_rfl) ?_ ?_
              · intro a W σ hJ hn pre K hK
                obtain ⟨v17, s17, e17⟩ := pre.2.1 12 (by kernel_rfl) rfl
                replace e17 : a.tmps.getD 17 undef = v17 := e17 17 rfl
                have e119 : a.tmps.getD 119 undef = .agg #[.int .i64 b0, .int .i64 b1] := pre.1 10 119 _ (by kernel_rfl) rfl rfl
                simp only [Array.getD_eq_getD_getElem?] at e17 e119
                obtain ⟨g, ds, h1, h2, h3, h4, _⟩ := hJ.a _ s17
                subst h1
                refine wp_store_row 23 _ _ rfl g #[.int .i64 b0, .int .i64 b1] (by go_simp) (by go_simp) 23 ds h4 (by kernel_rfl) h3 (by simp [Value.oneCell']) ?_
                exact hK _ _ (hJ.store (by decide) s17)
              refine Vals9.Steps.run (by kernel_rfl) ?_ ?_
              · intro a W σ hJ pre K hK
                have e120 : a.tmps.getD 120 undef = .int .i64 0 := pre.1 11 120 _ (by kernel_rfl) rfl rfl
                clear pre
                simp only [Array.getD_eq_getD_getElem?] at e120
                go_simp
                exact hK _ hJ
              exact Vals9.Steps.nil
            · intro X σ hJ
              simp only [Vals9.All]
              intro v12 h12 v13 h13
              obtain ⟨gL, ds, rfl, hgL, _, hBL, hds⟩ := hJ.a v12 h12
              obtain rfl := hds v13 h13
              have HE10 := Lib.hid (HE9.out.keep hJ.sn.1)
              obtain ⟨A0, A1⟩ := hA9.keep hJ.sn.1
              obtain ⟨B0, B1⟩ := hBL.span
              clear hJ hA9 HE9 hds
              simp only [Vals.putAll, List.setIfInBounds_toArray, List.set_cons_zero, List.set_cons_succ]
              obtain ⟨⟨⟨c0, c1, c2, c3, c4, c5⟩, ⟨d0, d1, d2⟩, sx, _, _, _⟩, _, ⟨r0, r1⟩, _⟩ := HE10.out
              rw [HX.out] at sx
              have x0 := sx 0 _ rfl
              have x1 := sx 1 _ rfl
              have x2 := sx 2 _ rfl
              clear sx
              go_wp2_with fail
              refine (later_c b s A c ⟨(i0 : Int), rb⟩ g _ HE10.out.e.ts).mono ?_
              rintro e w12 ⟨rfl, hb⟩
              have HE12 := Lib.hid (HE10.out.keep hb)
              clear hb
              clear c0 c1 c2 c3 c4 c5 d0 d1 d2 r0 r1 x0 x1 x2
              rcases laterV_two hk hrk g with hL | ⟨q, hq1, hq2, hL, hq3⟩
              · rw [hL]
                go_wp2_with fail
                refine (awake_c _).mono ?_
                rintro e w13 ⟨rfl, hb⟩
                go_wp2_with fail
                go_ret
                exact ⟨rfl, (HE12.out.e.keep hb).sn.1⟩
              · rw [hL]
                have hend := later_end hB HSO.out l2 hrk hq2 hq3
                clear hL hq3
                simp only at hq1
                clear htk HT0 HN
                obtain ⟨sl, dr, he, wn, hT1, htk1, htk2, hh0, hh1, hb0, hb1⟩ := trt_ok hB HSO.out l2 hq2
                have hPP := plP_of (p := ⟨(q : Int), 0⟩) rfl hT1
                simp only at hPP
                rw [hPP, hNR] at hend
                obtain ⟨v, hv⟩ : ∃ v, pl sl dr (he + b.bite) wn (-s.sink * 0) = v := ⟨_, rfl⟩
                rw [hv] at hend
                have HPV := Lib.hid hv
                have HT1 := Lib.hid hT1
                clear hT1 hv hPP
                obtain ⟨⟨⟨c0, c1, c2, c3, c4, c5⟩, ⟨d0, d1, d2⟩, sx, _, _, _⟩, _, ⟨r0, r1⟩, _⟩ := HE12.out
                rw [HX.out] at sx
                have x0 := sx 0 _ rfl
                have x1 := sx 1 _ rfl
                have x2 := sx 2 _ rfl
                clear sx
                go_wp2_with fail
                refine (truth_c2 b s A c q P2 l2 cz _ HE12.out.e.ts hB HSO.out hq2 HE12.out.u ho2 HT1.out).mono ?_
                rintro e w13 ⟨rfl, hb⟩
                clear c0 c1 c2 c3 c4 c5 d0 d1 d2 r0 r1 x0 x1 x2
                have HE13 := Lib.hid ((HE12.out.keep hb).alloc (.cells (trV sl dr he wn) 45))
                have HE14 := Lib.hid ((HE12.out.keep hb).alloc (.cells (trV sl dr (he + b.bite) wn) 45))
                have hT14 : C4 w13.heap.size sl dr (he + b.bite) wn (w13.alloc (.cells (trV sl dr (he + b.bite) wn) 45)) := (Blk.new w13 45 (trV sl dr (he + b.bite) wn)).tr
                obtain ⟨⟨⟨_, _, _, _, c4, _⟩, _, _, _, _, _⟩, _, _, _⟩ := HE13.out
                obtain ⟨⟨_, ⟨d0, d1, d2⟩, _, _, _, _⟩, _, _, _⟩ := HE14.out
                obtain ⟨t0, t1, t2, t3⟩ := hT14
                go_wp2_with fail
                refine (stop_c s sl dr (he + b.bite) wn 0 _ htk2 HSO.out.k0 HSO.out.k1 (by omega) (by omega)).mono ?_
                rintro e w15 ⟨rfl, hb'⟩
                rw [HPV.out]
                have HE15 := Lib.hid (HE14.out.keep hb')
                clear c4 d0 d1 d2 t0 t1 t2 t3
                rcases (by omega : (N < v ∧ max N v = v) ∨ (¬ N < v ∧ max N v = N)) with ⟨h2, hn⟩ | ⟨h2, hn⟩
                all_goals
                  rw [hn] at hend
                  go_wp2_with fail
                  refine (awake_c _).mono ?_
                  rintro e w16 ⟨rfl, hb''⟩
                  go_wp2_with fail
                  go_ret
                  exact ⟨rfl, (HE15.out.e.keep hb'').sn.1⟩
  · have HD : Hid (decide ((chk b s).2.2 = 0) = false) := decide_eq_false hk
    have hne : ((chk b s).2.2 != 0) = true := by simpa using hk
    have HL := Lib.hid (fun (W : World) (h : TsAt W A b.ts) => by have := tlies_c b s A c ⟨0, 0⟩ none [] 0 W h (fun h => absurd rfl h); rw [liesV_bad hk] at this; exact this)
    clear hk
    go_enter Try.func12, Try.ntmps12
    go_wp2_with fail
    refine (valid_c b s A c _ HE0.out.ts).mono ?_
    rintro e w1 ⟨rfl, hb1⟩
    rw [HD.out]
    have HE1 := Lib.hid (HE0.out.keep hb1)
    clear HE0 hb1
    obtain ⟨⟨c0, c1, c2, c3, c4, c5⟩, ⟨d0, d1, d2⟩, _, _, _, _⟩ := HE1.out
    go_wp2_with fail
    refine (HL.out _ HE1.out.ts).mono ?_
    rintro e w2 ⟨rfl, hb⟩
    have HE2 := Lib.hid ((HE1.out.keep hb).alloc (.cells #[.int .i64 0, .int .i64 0] 23))
    clear c0 c1 c2 c3 c4 c5 d0 d1 d2
    go_wp2_with fail
    refine (awake_c _).mono ?_
    rintro e w3 ⟨rfl, hb3⟩
    go_wp2_with fail
    go_ret
    exact ⟨rfl, (HE2.out.keep hb3).sn.1⟩
end Td
end Go.Proofs.Ytojpiliamecgkaa
