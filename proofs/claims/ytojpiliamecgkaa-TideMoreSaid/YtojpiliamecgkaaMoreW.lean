import Derived.Test.YtojpiliamecgkaaMoreA
import Derived.Test.YtojpiliamecgkaaVals6
import Derived.Test.YtojpiliamecgkaaLieC
namespace Go.Proofs.Ytojpiliamecgkaa
open Go.RowKit
namespace Td
set_option linter.unusedSimpArgs false
set_option linter.unusedVariables false
theorem Row.drew {w : World} {g : Nat} {ps : List Pul} (h : Row w g ps) : Row w.drew g ps := h
theorem Row.farCell {w : World} {g : Nat} {ps : List Pul} (h : Row w g ps) {g' : Nat} (hne : g' ≠ g) (i : Nat) (u : Value) : Row (w.setCell ⟨g', i, none⟩ u) g ps := by
  obtain ⟨cs, h, hc⟩ := h
  exact ⟨cs, h.far hne i u, hc⟩
set_option maxRecDepth 100000 in
set_option maxHeartbeats 16000000 in
theorem tideMore_c (b : Bch) (s : Shp) (A : Option Addr) (c : Nat) (P : Option Addr) (l : List Int) (pc n0 n1 : Nat) (w : World) (hp : TsAt w A b.ts) (h0 : n0 ≤ 255) (h1 : n1 ≤ 255) (hu : U16At w P l) (ho : U16Ok l) :
    Calls Try.prog 13 #[.agg (bV b A c), .agg (sV s), .agg #[.slice P l.length pc, .int .u8 n0, .int .u8 n1]] w fun e w' => e = .returned (.bool true) ∧ Below w.heap.size w w' := by
  obtain ⟨xs, hxs⟩ : ∃ xs : List Value, xs = [.slice P l.length pc, .int .u8 n0, .int .u8 n1] := ⟨_, rfl⟩
  have hE0 : Env w.heap.size (w.heap.size + 1) (w.heap.size + 1 + 1) b A c s xs P l w (((w.alloc (.cells (bV b A c) 26)).alloc (.cells (sV s) 28)).alloc (.cells #[.slice P l.length pc, .int .u8 n0, .int .u8 n1] 81)) := by
    have hs0 := (((Since.refl w).alloc (.cells (bV b A c) 26)).alloc (.cells (sV s) 28)).alloc (.cells #[.slice P l.length pc, .int .u8 n0, .int .u8 n1] 81)
    refine ⟨(((Blk.new w 26 (bV b A c)).alloc (.cells (sV s) 28)).alloc _).beach, ((Blk.new1 w (.cells (bV b A c) 26) 28 (sV s)).alloc _).ship, fun j v hj => ?_, hp.keep hs0.1, hu.keep hs0.1, hs0⟩
    subst hxs
    rw [(Blk.new2 w (.cells (bV b A c) 26) (.cells (sV s) 28) 81 #[.slice P l.length pc, .int .u8 n0, .int .u8 n1]).cell j]
    simpa using hj
  have HX : Hid (xs = [.slice P l.length pc, .int .u8 n0, .int .u8 n1]) := hxs
  have HE0 := Lib.hid hE0
  clear hE0 hxs
  by_cases hk : (chk b s).2.2 = 0
  · obtain ⟨hB, hS⟩ := chk_ok.1 hk
    have HD : Hid (decide ((chk b s).2.2 = 0) = true) := decide_eq_true hk
    have hl12 : b.ts.length ≤ 12 := hB.n1
    have hl1 : 1 ≤ b.ts.length := hB.n0
    have HCP : Hid (∀ W : World, TsAt W A b.ts → U16At W P l → _) := fun W (h1 : TsAt W A b.ts) (h2 : U16At W P l) => plan_c b A c P l pc W h1 hl1 hl12 h2 ho
    have hrk := planRun_ok (l := l) hl1
    obtain ⟨hpok, hpe, hp6⟩ := plan_ok (l := l) hl1
    generalize planRun b.ts.length l = run at *
    generalize planPs b.ts.length l = ps at *
    have hpok' : ∀ p ∈ ps, PuOk b.ts.length p := fun p hp => (hpok p hp).1
    clear hpok
    go_enter Try.func13, Try.ntmps13
    go_wp2_with fail
    refine (valid_c b s A c _ HE0.out.ts).mono ?_
    rintro e w1 ⟨rfl, hb1⟩
    rw [HD.out]
    have HE1 := Lib.hid (HE0.out.keep hb1)
    clear HE0 hb1
    obtain ⟨⟨c0, c1, c2, c3, c4, c5⟩, ⟨d0, d1, d2⟩, sx, _, _, _⟩ := HE1.out
    rw [HX.out] at sx
    have x0 := sx 0 _ rfl
    have x1 := sx 1 _ rfl
    have x2 := sx 2 _ rfl
    clear sx
    go_wp2_with fail
    refine (HCP.out _ HE1.out.ts HE1.out.us).mono ?_
    rintro e w2 ⟨⟨Q, qc, rfl, hq⟩, hb2⟩
    have HE3 := Lib.hid ((HE1.out.keep hb2).alloc (.cells (puV run) 49))
    have HR3 := Lib.hid (show C2 w2.heap.size run.tide run.bal _ from (Blk.new w2 49 (puV run)).pull)
    have HP3 := Lib.hid (hq.keep ((Below.refl _ _).alloc (Nat.le_refl _) (.cells (puV run) 49)))
    clear HE1 hb2 hq c0 c1 c2 c3 c4 c5 d0 d1 d2 x0 x1 x2
    go_wp2_with fail
    obtain ⟨gR, hgR⟩ : ∃ gR, w2.heap.size = gR := ⟨_, rfl⟩
    obtain ⟨X3, hX3⟩ : ∃ X3, w2.alloc (.cells (puV run) 49) = X3 := ⟨_, rfl⟩
    rw [hgR] at HR3 ⊢
    rw [hX3] at HE3 HR3 HP3 ⊢
    clear hX3 hgR
    refine Vals9.region (Cp X3 run ps) [some 37, some 38, some 39, some 40, some 9, none, some 10] [.is (.agg (puV run)), .any, .is (.slice Q ps.length qc), .any, .any, .any, .any] (by kernel_rfl) (by kernel_rfl) (by kernel_rfl) (by kernel_rfl) (by kernel_rfl) (by kernel_rfl) (Cp.start X3 run ps) ?_ ?_
    · refine Vals9.Steps.run (by kernel_rfl) ?_ ?_
      · intro a W σ hJ pre K hK
        have e7 : a.tmps.getD 7 undef = .pointer (some ⟨gR, 0, none⟩) := pre.2.2 7 _ (by kernel_rfl) rfl
        clear pre
        simp only [Array.getD_eq_getD_getElem?] at e7
        have hS9 := hJ
        obtain ⟨r0, r1⟩ := HR3.out.keep hS9.sn.1
        go_simp
        exact hK _ hJ
      refine Vals9.Steps.mark (by kernel_rfl) ?_ ?_
      · intro a W σ hJ hn pre K hK
        go_simp
        exact hK _ _ hJ.build
      refine Vals9.Steps.run (by kernel_rfl) ?_ ?_
      · intro a W σ hJ pre K hK
        have e8 : a.tmps.getD 8 undef = .slice Q ps.length qc := pre.2.2 8 _ (by kernel_rfl) rfl
        clear pre
        simp only [Array.getD_eq_getD_getElem?] at e8
        go_simp
        exact hK _ hJ
      refine Vals9.Steps.mark (by kernel_rfl) ?_ ?_
      · intro a W σ hJ hn pre K hK
        obtain ⟨v38, s38, e38⟩ := pre.2.1 1 (by kernel_rfl) rfl
        replace e38 : a.tmps.getD 38 undef = v38 := e38 38 rfl
        have e39 : a.tmps.getD 39 undef = .slice Q ps.length qc := pre.1 2 39 _ (by kernel_rfl) rfl rfl
        simp only [Array.getD_eq_getD_getElem?] at e38 e39
        obtain ⟨g, h1, h2, h3, h4⟩ := hJ.e _ s38 hn
        subst h1
        refine wp_copy_puls (.tmp 38) (.tmp 39) rfl X3.heap.size g Q ps qc (by go_simp) (by go_simp) h2 h3 (HP3.out.keep hJ.sn.1) (by omega) ?_
        intro g' cap w' k2 k3 k4
        exact hK _ _ (hJ.append s38 hn rfl k2 k3 k4)
      refine Vals9.Steps.mark (by kernel_rfl) ?_ ?_
      · intro a W σ hJ hn pre K hK
        go_simp
        exact hK _ _ (hJ.new (by cases h5 : σ 5 with | none => rfl | some y => exact absurd hn (by obtain ⟨v, hv⟩ := hJ.s y h5; simp [hv])))
      refine Vals9.Steps.mark (by kernel_rfl) ?_ ?_
      · intro a W σ hJ hn pre K hK
        obtain ⟨v9, s9, e9⟩ := pre.2.1 4 (by kernel_rfl) rfl
        replace e9 : a.tmps.getD 9 undef = v9 := e9 9 rfl
        have e37 : a.tmps.getD 37 undef = .agg (puV run) := pre.1 0 37 _ (by kernel_rfl) rfl rfl
        simp only [Array.getD_eq_getD_getElem?] at e9 e37
        obtain ⟨g, cs, h1, h2, h3, h4, _⟩ := hJ.a _ s9
        subst h1
        obtain ⟨v3, s40, _⟩ := pre.2.1 3 (by kernel_rfl) rfl
        refine wp_store_row 49 _ _ rfl g (puV run) (by go_simp) (by go_simp) 49 cs h4 (by kernel_rfl) h3 (by simp [Value.oneCell']) ?_
        exact hK _ _ (hJ.store ⟨_, s40⟩ s9).1
      refine Vals9.Steps.mark (by kernel_rfl) ?_ ?_
      · intro a W σ hJ hn pre K hK
        obtain ⟨v40, s40, e40⟩ := pre.2.1 3 (by kernel_rfl) rfl
        replace e40 : a.tmps.getD 40 undef = v40 := e40 40 rfl
        simp only [Array.getD_eq_getD_getElem?] at e40
        go_simp
        exact hK _ _ (hJ.give hn s40)
      exact Vals9.Steps.nil
    · intro X4 σ hJ
      simp only [Vals9.All]
      intro v1 _ v3 h3 v4 h4 v5 h5 v6 h6
      obtain ⟨g3, cap, rfl, hg3, hrow, hne⟩ := hJ.r v3 h3
      obtain ⟨gM, cs, rfl, hgM, _, hBM, hcs⟩ := hJ.a v4 h4
      obtain rfl := hcs v5 h5
      have h36 := hJ.z v6 h6
      rw [h3] at h36
      obtain rfl := Option.some.inj h36
      have hneq : gM ≠ g3 := fun e => hne _ h4 (by rw [e])
      have hsn4 := hJ.sn
      clear hJ h3 h4 h5 h6 h36 hcs hne
      simp only [Vals.putAll, List.setIfInBounds_toArray, List.set_cons_zero, List.set_cons_succ]
      have HE4 := Lib.hid (HE3.out.keep hsn4.1)
      obtain ⟨k, hkk⟩ : ∃ k, n0 % (ps.length + 1) = k := ⟨_, rfl⟩
      have hkl : k < ps.length + 1 := by rw [← hkk]; exact Nat.mod_lt _ (by omega)
      have htm : ((n0 : Int)).tmod ((ps.length : Int) + 1) = (k : Int) := by
        rw [Int.tmod_eq_emod_of_nonneg (by omega), ← hkk]
        exact (Int.natCast_emod n0 (ps.length + 1)).symm
      have hlz : (((ps.length : Int) + 1) == 0) = false := by rw [beq_eq_false_iff_ne]; omega
      have hw0 : IntKind.i64.wrap (n0 : Int) = n0 := IntWalk.i64_in _ (by omega)
      have hw1 : IntKind.i64.wrap (n1 : Int) = n1 := IntWalk.i64_in _ (by omega)
      have hwk : IntKind.i64.wrap (k : Int) = k := IntWalk.i64_in _ (by omega)
      clear hkk
      rcases Nat.eq_zero_or_pos k with h0k | h0k
      · subst h0k
        obtain ⟨⟨c0, c1, c2, c3, c4, c5⟩, ⟨d0, d1, d2⟩, sx, _, _, _⟩ := HE4.out
        rw [HX.out] at sx
        have x0 := sx 0 _ rfl
        have x1 := sx 1 _ rfl
        have x2 := sx 2 _ rfl
        clear sx
        obtain ⟨m0, m1⟩ := hBM.pull
        have f1 := hBM.frozen 1
        have q0 := hrk.b0
        have q1 := hrk.b1
        rcases (by omega : (run.bal + n1 < 40 ∧ min 40 (run.bal + n1) = run.bal + n1) ∨ (¬ run.bal + n1 < 40 ∧ min 40 (run.bal + n1) = 40)) with ⟨h2, hn⟩ | ⟨h2, hn⟩
        · have hmore : moreP run n1 = ⟨run.tide, (run.bal + (n1 : Int))⟩ := by simp only [moreP, hn]
          have hsn8 : Since X3 (X4.setCell ⟨gM, 1, none⟩ (.int .i64 (run.bal + (n1 : Int)))) := ⟨hsn4.1.setCell hgM _, by simpa using hsn4.2⟩
          have HE8 := Lib.hid (HE3.out.keep hsn8.1)
          have HR8 := Lib.hid (HR3.out.keep hsn8.1)
          have HP8 := Lib.hid (HP3.out.keep hsn8.1)
          have HM8 : Hid (C2 gM run.tide (run.bal + (n1 : Int)) (X4.setCell ⟨gM, 1, none⟩ (.int .i64 (run.bal + (n1 : Int))))) := ⟨(hBM.set 1 _).cell 0, (hBM.set 1 _).cell 1⟩
          have HQ8 : Hid (PuAt (X4.setCell ⟨gM, 1, none⟩ (.int .i64 (run.bal + (n1 : Int)))) (some ⟨g3, 0, none⟩) ps) := (hrow.farCell hneq 1 _).at
          have hmk : PuOk b.ts.length ⟨run.tide, (run.bal + (n1 : Int))⟩ := hmore ▸ moreP_ok hrk (by omega)
          have hpe2 : pullsE b.ts.length ⟨run.tide, (run.bal + (n1 : Int))⟩ ps = 0 := hpe
          obtain ⟨a0, a1, e0, e1, u0, u1, v0, v1, y0, y1, L1, L2, S1, S2, S3, S4, q1, q2, q3, q4⟩ := more_vals hk hrk hmk hpe hpe2 (hmore ▸ lad_run (n := 0) (by omega) q1)
          have HC10 : Hid (∀ W : World, TsAt W A b.ts → PuAt W (some ⟨g3, 0, none⟩) ps → Calls Try.prog 30 #[.agg (bV b A c), .agg (sV s), .agg #[.int .i64 run.tide, .int .i64 (run.bal + (n1 : Int))], .slice (some ⟨g3, 0, none⟩) ps.length cap] W fun e w' => e = .returned (.tuple #[.agg #[.int .i64 e0, .int .i64 e1], .int .i64 0]) ∧ Below W.heap.size W w') := fun W h1 h2 => by
            have := tlies_c b s A c ⟨run.tide, (run.bal + (n1 : Int))⟩ (some ⟨g3, 0, none⟩) ps cap W h1 h2
            rw [L2] at this
            exact this
          clear L2 hmk hpe2
          clear hmore hn
          obtain ⟨⟨C0, C1, C2_, C3, C4_, C5⟩, ⟨D0, D1, D2⟩, _, _, _, _⟩ := HE8.out
          obtain ⟨R0, R1⟩ := HR8.out
          obtain ⟨M0, M1⟩ := HM8.out
          go_wp2_with fail
          clear c0 c1 c2 c3 c4 c5 d0 d1 d2 x0 x1 x2 m0 m1 f1 C0 C1 C2_ C3 C4_ C5 D0 D1 D2 R0 R1 M0 M1 HE4
          refine (tlies_c b s A c run Q ps qc _ HE8.out.ts HP8.out).mono ?_
          rintro e w9 ⟨rfl, hb⟩
          rw [L1]
          have hbn := hb.alloc hb.size (.cells #[.int .i64 a0, .int .i64 a1] 23)
          have HE9 := Lib.hid (HE8.out.keep hbn)
          have HR9 := Lib.hid (HR8.out.keep hbn)
          have HM9 := Lib.hid (HM8.out.keep hbn)
          have HP9 := Lib.hid (HP8.out.keep hbn)
          have HQ9 := Lib.hid (HQ8.out.keep hbn)
          have SA9 := Lib.hid (show C2 w9.heap.size a0 a1 _ from (Blk.new w9 23 #[.int .i64 a0, .int .i64 a1]).span)
          clear hb hbn HE8 HR8 HM8 HP8 HQ8
          obtain ⟨⟨c0, c1, c2, c3, c4, c5⟩, ⟨d0, d1, d2⟩, _, _, _, _⟩ := HE9.out
          obtain ⟨r0, r1⟩ := HR9.out
          obtain ⟨m0, m1⟩ := HM9.out
          go_wp2_with fail
          obtain ⟨gSA, hg⟩ : ∃ gSA, w9.heap.size = gSA := ⟨_, rfl⟩
          rw [hg] at SA9 ⊢
          clear hg
          refine (HC10.out _ HE9.out.ts HQ9.out).mono ?_
          rintro e w10 ⟨rfl, hb⟩
          have hbn := hb.alloc hb.size (.cells #[.int .i64 e0, .int .i64 e1] 23)
          have HE10 := Lib.hid (HE9.out.keep hbn)
          have HR10 := Lib.hid (HR9.out.keep hbn)
          have HM10 := Lib.hid (HM9.out.keep hbn)
          have HP10 := Lib.hid (HP9.out.keep hbn)
          have HQ10 := Lib.hid (HQ9.out.keep hbn)
          have SA10 := Lib.hid (SA9.out.keep hbn)
          have SB10 := Lib.hid (show C2 w10.heap.size e0 e1 _ from (Blk.new w10 23 #[.int .i64 e0, .int .i64 e1]).span)
          clear c0 c1 c2 c3 c4 c5 d0 d1 d2 r0 r1 m0 m1
          clear hb hbn HE9 HR9 HM9 HP9 HQ9 SA9
          obtain ⟨⟨c0, c1, c2, c3, c4, c5⟩, ⟨d0, d1, d2⟩, _, _, _, _⟩ := HE10.out
          obtain ⟨r0, r1⟩ := HR10.out
          obtain ⟨m0, m1⟩ := HM10.out
          have hw11 := Blk.new1 w10 (.cells #[.int .i64 e0, .int .i64 e1] 23) 28 #[.int .i64 s.dlo, .int .i64 s.dhi, .int .i64 0]
          have hbL : Below (w10.alloc (.cells #[.int .i64 e0, .int .i64 e1] 23)).heap.size (w10.alloc (.cells #[.int .i64 e0, .int .i64 e1] 23)) ((w10.alloc (.cells #[.int .i64 e0, .int .i64 e1] 23)).alloc (.cells #[.int .i64 s.dlo, .int .i64 s.dhi, .int .i64 0] 28)) := (Below.refl _ _).alloc (Nat.le_refl _) _
          have HE11 := Lib.hid (HE10.out.keep hbL)
          have HR11 := Lib.hid (HR10.out.keep hbL)
          have HM11 := Lib.hid (HM10.out.keep hbL)
          have HP11 := Lib.hid (HP10.out.keep hbL)
          have HQ11 := Lib.hid (HQ10.out.keep hbL)
          have SA11 := Lib.hid (SA10.out.keep hbL)
          have SB11 := Lib.hid (SB10.out.keep hbL)
          have HL11 : Hid (SS (w10.heap.size + 1) (light s) ((w10.alloc (.cells #[.int .i64 e0, .int .i64 e1] 23)).alloc (.cells #[.int .i64 s.dlo, .int .i64 s.dhi, .int .i64 0] 28))) := ⟨hw11.cell 0, hw11.cell 1, hw11.cell 2⟩
          obtain ⟨⟨C0, C1, C2_, C3, C4_, C5⟩, _, _, _, _, _⟩ := HE11.out
          obtain ⟨R0, R1⟩ := HR11.out
          obtain ⟨M0, M1⟩ := HM11.out
          obtain ⟨l0, l1, l2⟩ := HL11.out
          go_wp2_with fail
          obtain ⟨gL, hgL⟩ : ∃ gL, w10.heap.size + 1 = gL := ⟨_, rfl⟩
          obtain ⟨gB, hgB⟩ : ∃ gB, w10.heap.size = gB := ⟨_, rfl⟩
          obtain ⟨X11, hX11⟩ : ∃ X11, ((w10.alloc (.cells #[.int .i64 e0, .int .i64 e1] 23)).alloc (.cells #[.int .i64 s.dlo, .int .i64 s.dhi, .int .i64 0] 28)) = X11 := ⟨_, rfl⟩
          clear hw11 hbL c0 c1 c2 c3 c4 c5 d0 d1 d2 r0 r1 m0 m1 C0 C1 C2_ C3 C4_ C5 R0 R1 M0 M1 l0 l1 l2 HE10 HR10 HM10 HP10 HQ10 SA10 SB10
          rw [hX11] at HE11 HR11 HM11 HP11 HQ11 HL11 SA11 SB11 ⊢
          rw [hgL] at HL11 ⊢
          rw [hgB] at SB11 ⊢
          clear hX11 hgL hgB
          refine (stops_c b (light s) A c run.tide run.bal _ HE11.out.ts).mono ?_
          rintro e w12 ⟨rfl, hb⟩
          rw [S1]
          have hbn := hb.alloc hb.size (.cells #[.int .i64 u0, .int .i64 u1] 23)
          have HE12 := Lib.hid (HE11.out.keep hbn)
          have HR12 := Lib.hid (HR11.out.keep hbn)
          have HM12 := Lib.hid (HM11.out.keep hbn)
          have HP12 := Lib.hid (HP11.out.keep hbn)
          have HQ12 := Lib.hid (HQ11.out.keep hbn)
          have HL12 := Lib.hid (HL11.out.keep hbn)
          have SA12 := Lib.hid (SA11.out.keep hbn)
          have SB12 := Lib.hid (SB11.out.keep hbn)
          have SC12 := Lib.hid (show C2 w12.heap.size u0 u1 _ from (Blk.new w12 23 #[.int .i64 u0, .int .i64 u1]).span)
          clear hb hbn HE11 HR11 HM11 HP11 HQ11 HL11 SA11 SB11
          obtain ⟨⟨c0, c1, c2, c3, c4, c5⟩, ⟨d0, d1, d2⟩, _, _, _, _⟩ := HE12.out
          obtain ⟨r0, r1⟩ := HR12.out
          obtain ⟨m0, m1⟩ := HM12.out
          obtain ⟨l0, l1, l2⟩ := HL12.out
          go_wp2_with fail
          obtain ⟨gSC, hg⟩ : ∃ gSC, w12.heap.size = gSC := ⟨_, rfl⟩
          rw [hg] at SC12 ⊢
          clear hg
          refine (stops_c b (light s) A c run.tide (run.bal + (n1 : Int)) _ HE12.out.ts).mono ?_
          rintro e w13 ⟨rfl, hb⟩
          rw [S2]
          have hbn := hb.alloc hb.size (.cells #[.int .i64 u0, .int .i64 u1] 23)
          have HE13 := Lib.hid (HE12.out.keep hbn)
          have HR13 := Lib.hid (HR12.out.keep hbn)
          have HM13 := Lib.hid (HM12.out.keep hbn)
          have HP13 := Lib.hid (HP12.out.keep hbn)
          have HQ13 := Lib.hid (HQ12.out.keep hbn)
          have HL13 := Lib.hid (HL12.out.keep hbn)
          have SA13 := Lib.hid (SA12.out.keep hbn)
          have SB13 := Lib.hid (SB12.out.keep hbn)
          have SC13 := Lib.hid (SC12.out.keep hbn)
          have SD13 := Lib.hid (show C2 w13.heap.size u0 u1 _ from (Blk.new w13 23 #[.int .i64 u0, .int .i64 u1]).span)
          clear c0 c1 c2 c3 c4 c5 d0 d1 d2 r0 r1 m0 m1 l0 l1 l2
          clear hb hbn HE12 HR12 HM12 HP12 HQ12 HL12 SA12 SB12 SC12
          obtain ⟨⟨c0, c1, c2, c3, c4, c5⟩, ⟨d0, d1, d2⟩, _, _, _, _⟩ := HE13.out
          obtain ⟨r0, r1⟩ := HR13.out
          obtain ⟨m0, m1⟩ := HM13.out
          obtain ⟨l0, l1, l2⟩ := HL13.out
          go_wp2_with fail
          obtain ⟨gSD, hg⟩ : ∃ gSD, w13.heap.size = gSD := ⟨_, rfl⟩
          rw [hg] at SD13 ⊢
          clear hg
          refine (stops_c b s A c run.tide run.bal _ HE13.out.ts).mono ?_
          rintro e w14 ⟨rfl, hb⟩
          rw [S3]
          have hbn := hb.alloc hb.size (.cells #[.int .i64 v0, .int .i64 v1] 23)
          have HE14 := Lib.hid (HE13.out.keep hbn)
          have HR14 := Lib.hid (HR13.out.keep hbn)
          have HM14 := Lib.hid (HM13.out.keep hbn)
          have HP14 := Lib.hid (HP13.out.keep hbn)
          have HQ14 := Lib.hid (HQ13.out.keep hbn)
          have HL14 := Lib.hid (HL13.out.keep hbn)
          have SA14 := Lib.hid (SA13.out.keep hbn)
          have SB14 := Lib.hid (SB13.out.keep hbn)
          have SC14 := Lib.hid (SC13.out.keep hbn)
          have SD14 := Lib.hid (SD13.out.keep hbn)
          have SF14 := Lib.hid (show C2 w14.heap.size v0 v1 _ from (Blk.new w14 23 #[.int .i64 v0, .int .i64 v1]).span)
          clear c0 c1 c2 c3 c4 c5 d0 d1 d2 r0 r1 m0 m1 l0 l1 l2
          clear hb hbn HE13 HR13 HM13 HP13 HQ13 HL13 SA13 SB13 SC13 SD13
          obtain ⟨⟨c0, c1, c2, c3, c4, c5⟩, ⟨d0, d1, d2⟩, _, _, _, _⟩ := HE14.out
          obtain ⟨r0, r1⟩ := HR14.out
          obtain ⟨m0, m1⟩ := HM14.out
          obtain ⟨l0, l1, l2⟩ := HL14.out
          go_wp2_with fail
          obtain ⟨gSF, hg⟩ : ∃ gSF, w14.heap.size = gSF := ⟨_, rfl⟩
          rw [hg] at SF14 ⊢
          clear hg
          refine (stops_c b s A c run.tide (run.bal + (n1 : Int)) _ HE14.out.ts).mono ?_
          rintro e w15 ⟨rfl, hb⟩
          rw [S4]
          have hbn := hb.alloc hb.size (.cells #[.int .i64 y0, .int .i64 y1] 23)
          have HE15 := Lib.hid (HE14.out.keep hbn)
          have HR15 := Lib.hid (HR14.out.keep hbn)
          have HM15 := Lib.hid (HM14.out.keep hbn)
          have HP15 := Lib.hid (HP14.out.keep hbn)
          have HQ15 := Lib.hid (HQ14.out.keep hbn)
          have HL15 := Lib.hid (HL14.out.keep hbn)
          have SA15 := Lib.hid (SA14.out.keep hbn)
          have SB15 := Lib.hid (SB14.out.keep hbn)
          have SC15 := Lib.hid (SC14.out.keep hbn)
          have SD15 := Lib.hid (SD14.out.keep hbn)
          have SF15 := Lib.hid (SF14.out.keep hbn)
          have SG15 := Lib.hid (show C2 w15.heap.size y0 y1 _ from (Blk.new w15 23 #[.int .i64 y0, .int .i64 y1]).span)
          clear c0 c1 c2 c3 c4 c5 d0 d1 d2 r0 r1 m0 m1 l0 l1 l2
          clear hb hbn HE14 HR14 HM14 HP14 HQ14 HL14 SA14 SB14 SC14 SD14 SF14
          obtain ⟨⟨c0, c1, c2, c3, c4, c5⟩, ⟨d0, d1, d2⟩, _, _, _, _⟩ := HE15.out
          obtain ⟨r0, r1⟩ := HR15.out
          obtain ⟨m0, m1⟩ := HM15.out
          obtain ⟨l0, l1, l2⟩ := HL15.out
          obtain ⟨sa0, sa1⟩ := SA15.out
          obtain ⟨sb0, sb1⟩ := SB15.out
          obtain ⟨sc0, sc1⟩ := SC15.out
          obtain ⟨sd0, sd1⟩ := SD15.out
          obtain ⟨sf0, sf1⟩ := SF15.out
          obtain ⟨sg0, sg1⟩ := SG15.out
          go_wp2_with fail
          refine (awake_c _).mono ?_
          rintro e w17 ⟨rfl, hb⟩
          go_wp2_with fail
          go_ret
          exact ⟨rfl, (HE15.out.keep hb).sn.1⟩
        · have hmore : moreP run n1 = ⟨run.tide, 40⟩ := by simp only [moreP, hn]
          have hsn8 : Since X3 (X4.setCell ⟨gM, 1, none⟩ (.int .i64 40)) := ⟨hsn4.1.setCell hgM _, by simpa using hsn4.2⟩
          have HE8 := Lib.hid (HE3.out.keep hsn8.1)
          have HR8 := Lib.hid (HR3.out.keep hsn8.1)
          have HP8 := Lib.hid (HP3.out.keep hsn8.1)
          have HM8 : Hid (C2 gM run.tide 40 (X4.setCell ⟨gM, 1, none⟩ (.int .i64 40))) := ⟨(hBM.set 1 _).cell 0, (hBM.set 1 _).cell 1⟩
          have HQ8 : Hid (PuAt (X4.setCell ⟨gM, 1, none⟩ (.int .i64 40)) (some ⟨g3, 0, none⟩) ps) := (hrow.farCell hneq 1 _).at
          have hmk : PuOk b.ts.length ⟨run.tide, 40⟩ := hmore ▸ moreP_ok hrk (by omega)
          have hpe2 : pullsE b.ts.length ⟨run.tide, 40⟩ ps = 0 := hpe
          obtain ⟨a0, a1, e0, e1, u0, u1, v0, v1, y0, y1, L1, L2, S1, S2, S3, S4, q1, q2, q3, q4⟩ := more_vals hk hrk hmk hpe hpe2 (hmore ▸ lad_run (n := 0) (by omega) q1)
          have HC10 : Hid (∀ W : World, TsAt W A b.ts → PuAt W (some ⟨g3, 0, none⟩) ps → Calls Try.prog 30 #[.agg (bV b A c), .agg (sV s), .agg #[.int .i64 run.tide, .int .i64 40], .slice (some ⟨g3, 0, none⟩) ps.length cap] W fun e w' => e = .returned (.tuple #[.agg #[.int .i64 e0, .int .i64 e1], .int .i64 0]) ∧ Below W.heap.size W w') := fun W h1 h2 => by
            have := tlies_c b s A c ⟨run.tide, 40⟩ (some ⟨g3, 0, none⟩) ps cap W h1 h2
            rw [L2] at this
            exact this
          clear L2 hmk hpe2
          clear hmore hn
          obtain ⟨⟨C0, C1, C2_, C3, C4_, C5⟩, ⟨D0, D1, D2⟩, _, _, _, _⟩ := HE8.out
          obtain ⟨R0, R1⟩ := HR8.out
          obtain ⟨M0, M1⟩ := HM8.out
          go_wp2_with fail
          clear c0 c1 c2 c3 c4 c5 d0 d1 d2 x0 x1 x2 m0 m1 f1 C0 C1 C2_ C3 C4_ C5 D0 D1 D2 R0 R1 M0 M1 HE4
          refine (tlies_c b s A c run Q ps qc _ HE8.out.ts HP8.out).mono ?_
          rintro e w9 ⟨rfl, hb⟩
          rw [L1]
          have hbn := hb.alloc hb.size (.cells #[.int .i64 a0, .int .i64 a1] 23)
          have HE9 := Lib.hid (HE8.out.keep hbn)
          have HR9 := Lib.hid (HR8.out.keep hbn)
          have HM9 := Lib.hid (HM8.out.keep hbn)
          have HP9 := Lib.hid (HP8.out.keep hbn)
          have HQ9 := Lib.hid (HQ8.out.keep hbn)
          have SA9 := Lib.hid (show C2 w9.heap.size a0 a1 _ from (Blk.new w9 23 #[.int .i64 a0, .int .i64 a1]).span)
          clear hb hbn HE8 HR8 HM8 HP8 HQ8
          obtain ⟨⟨c0, c1, c2, c3, c4, c5⟩, ⟨d0, d1, d2⟩, _, _, _, _⟩ := HE9.out
          obtain ⟨r0, r1⟩ := HR9.out
          obtain ⟨m0, m1⟩ := HM9.out
          go_wp2_with fail
          obtain ⟨gSA, hg⟩ : ∃ gSA, w9.heap.size = gSA := ⟨_, rfl⟩
          rw [hg] at SA9 ⊢
          clear hg
          refine (HC10.out _ HE9.out.ts HQ9.out).mono ?_
          rintro e w10 ⟨rfl, hb⟩
          have hbn := hb.alloc hb.size (.cells #[.int .i64 e0, .int .i64 e1] 23)
          have HE10 := Lib.hid (HE9.out.keep hbn)
          have HR10 := Lib.hid (HR9.out.keep hbn)
          have HM10 := Lib.hid (HM9.out.keep hbn)
          have HP10 := Lib.hid (HP9.out.keep hbn)
          have HQ10 := Lib.hid (HQ9.out.keep hbn)
          have SA10 := Lib.hid (SA9.out.keep hbn)
          have SB10 := Lib.hid (show C2 w10.heap.size e0 e1 _ from (Blk.new w10 23 #[.int .i64 e0, .int .i64 e1]).span)
          clear c0 c1 c2 c3 c4 c5 d0 d1 d2 r0 r1 m0 m1
          clear hb hbn HE9 HR9 HM9 HP9 HQ9 SA9
          obtain ⟨⟨c0, c1, c2, c3, c4, c5⟩, ⟨d0, d1, d2⟩, _, _, _, _⟩ := HE10.out
          obtain ⟨r0, r1⟩ := HR10.out
          obtain ⟨m0, m1⟩ := HM10.out
          have hw11 := Blk.new1 w10 (.cells #[.int .i64 e0, .int .i64 e1] 23) 28 #[.int .i64 s.dlo, .int .i64 s.dhi, .int .i64 0]
          have hbL : Below (w10.alloc (.cells #[.int .i64 e0, .int .i64 e1] 23)).heap.size (w10.alloc (.cells #[.int .i64 e0, .int .i64 e1] 23)) ((w10.alloc (.cells #[.int .i64 e0, .int .i64 e1] 23)).alloc (.cells #[.int .i64 s.dlo, .int .i64 s.dhi, .int .i64 0] 28)) := (Below.refl _ _).alloc (Nat.le_refl _) _
          have HE11 := Lib.hid (HE10.out.keep hbL)
          have HR11 := Lib.hid (HR10.out.keep hbL)
          have HM11 := Lib.hid (HM10.out.keep hbL)
          have HP11 := Lib.hid (HP10.out.keep hbL)
          have HQ11 := Lib.hid (HQ10.out.keep hbL)
          have SA11 := Lib.hid (SA10.out.keep hbL)
          have SB11 := Lib.hid (SB10.out.keep hbL)
          have HL11 : Hid (SS (w10.heap.size + 1) (light s) ((w10.alloc (.cells #[.int .i64 e0, .int .i64 e1] 23)).alloc (.cells #[.int .i64 s.dlo, .int .i64 s.dhi, .int .i64 0] 28))) := ⟨hw11.cell 0, hw11.cell 1, hw11.cell 2⟩
          obtain ⟨⟨C0, C1, C2_, C3, C4_, C5⟩, _, _, _, _, _⟩ := HE11.out
          obtain ⟨R0, R1⟩ := HR11.out
          obtain ⟨M0, M1⟩ := HM11.out
          obtain ⟨l0, l1, l2⟩ := HL11.out
          go_wp2_with fail
          obtain ⟨gL, hgL⟩ : ∃ gL, w10.heap.size + 1 = gL := ⟨_, rfl⟩
          obtain ⟨gB, hgB⟩ : ∃ gB, w10.heap.size = gB := ⟨_, rfl⟩
          obtain ⟨X11, hX11⟩ : ∃ X11, ((w10.alloc (.cells #[.int .i64 e0, .int .i64 e1] 23)).alloc (.cells #[.int .i64 s.dlo, .int .i64 s.dhi, .int .i64 0] 28)) = X11 := ⟨_, rfl⟩
          clear hw11 hbL c0 c1 c2 c3 c4 c5 d0 d1 d2 r0 r1 m0 m1 C0 C1 C2_ C3 C4_ C5 R0 R1 M0 M1 l0 l1 l2 HE10 HR10 HM10 HP10 HQ10 SA10 SB10
          rw [hX11] at HE11 HR11 HM11 HP11 HQ11 HL11 SA11 SB11 ⊢
          rw [hgL] at HL11 ⊢
          rw [hgB] at SB11 ⊢
          clear hX11 hgL hgB
          refine (stops_c b (light s) A c run.tide run.bal _ HE11.out.ts).mono ?_
          rintro e w12 ⟨rfl, hb⟩
          rw [S1]
          have hbn := hb.alloc hb.size (.cells #[.int .i64 u0, .int .i64 u1] 23)
          have HE12 := Lib.hid (HE11.out.keep hbn)
          have HR12 := Lib.hid (HR11.out.keep hbn)
          have HM12 := Lib.hid (HM11.out.keep hbn)
          have HP12 := Lib.hid (HP11.out.keep hbn)
          have HQ12 := Lib.hid (HQ11.out.keep hbn)
          have HL12 := Lib.hid (HL11.out.keep hbn)
          have SA12 := Lib.hid (SA11.out.keep hbn)
          have SB12 := Lib.hid (SB11.out.keep hbn)
          have SC12 := Lib.hid (show C2 w12.heap.size u0 u1 _ from (Blk.new w12 23 #[.int .i64 u0, .int .i64 u1]).span)
          clear hb hbn HE11 HR11 HM11 HP11 HQ11 HL11 SA11 SB11
          obtain ⟨⟨c0, c1, c2, c3, c4, c5⟩, ⟨d0, d1, d2⟩, _, _, _, _⟩ := HE12.out
          obtain ⟨r0, r1⟩ := HR12.out
          obtain ⟨m0, m1⟩ := HM12.out
          obtain ⟨l0, l1, l2⟩ := HL12.out
          go_wp2_with fail
          obtain ⟨gSC, hg⟩ : ∃ gSC, w12.heap.size = gSC := ⟨_, rfl⟩
          rw [hg] at SC12 ⊢
          clear hg
          refine (stops_c b (light s) A c run.tide 40 _ HE12.out.ts).mono ?_
          rintro e w13 ⟨rfl, hb⟩
          rw [S2]
          have hbn := hb.alloc hb.size (.cells #[.int .i64 u0, .int .i64 u1] 23)
          have HE13 := Lib.hid (HE12.out.keep hbn)
          have HR13 := Lib.hid (HR12.out.keep hbn)
          have HM13 := Lib.hid (HM12.out.keep hbn)
          have HP13 := Lib.hid (HP12.out.keep hbn)
          have HQ13 := Lib.hid (HQ12.out.keep hbn)
          have HL13 := Lib.hid (HL12.out.keep hbn)
          have SA13 := Lib.hid (SA12.out.keep hbn)
          have SB13 := Lib.hid (SB12.out.keep hbn)
          have SC13 := Lib.hid (SC12.out.keep hbn)
          have SD13 := Lib.hid (show C2 w13.heap.size u0 u1 _ from (Blk.new w13 23 #[.int .i64 u0, .int .i64 u1]).span)
          clear c0 c1 c2 c3 c4 c5 d0 d1 d2 r0 r1 m0 m1 l0 l1 l2
          clear hb hbn HE12 HR12 HM12 HP12 HQ12 HL12 SA12 SB12 SC12
          obtain ⟨⟨c0, c1, c2, c3, c4, c5⟩, ⟨d0, d1, d2⟩, _, _, _, _⟩ := HE13.out
          obtain ⟨r0, r1⟩ := HR13.out
          obtain ⟨m0, m1⟩ := HM13.out
          obtain ⟨l0, l1, l2⟩ := HL13.out
          go_wp2_with fail
          obtain ⟨gSD, hg⟩ : ∃ gSD, w13.heap.size = gSD := ⟨_, rfl⟩
          rw [hg] at SD13 ⊢
          clear hg
          refine (stops_c b s A c run.tide run.bal _ HE13.out.ts).mono ?_
          rintro e w14 ⟨rfl, hb⟩
          rw [S3]
          have hbn := hb.alloc hb.size (.cells #[.int .i64 v0, .int .i64 v1] 23)
          have HE14 := Lib.hid (HE13.out.keep hbn)
          have HR14 := Lib.hid (HR13.out.keep hbn)
          have HM14 := Lib.hid (HM13.out.keep hbn)
          have HP14 := Lib.hid (HP13.out.keep hbn)
          have HQ14 := Lib.hid (HQ13.out.keep hbn)
          have HL14 := Lib.hid (HL13.out.keep hbn)
          have SA14 := Lib.hid (SA13.out.keep hbn)
          have SB14 := Lib.hid (SB13.out.keep hbn)
          have SC14 := Lib.hid (SC13.out.keep hbn)
          have SD14 := Lib.hid (SD13.out.keep hbn)
          have SF14 := Lib.hid (show C2 w14.heap.size v0 v1 _ from (Blk.new w14 23 #[.int .i64 v0, .int .i64 v1]).span)
          clear c0 c1 c2 c3 c4 c5 d0 d1 d2 r0 r1 m0 m1 l0 l1 l2
          clear hb hbn HE13 HR13 HM13 HP13 HQ13 HL13 SA13 SB13 SC13 SD13
          obtain ⟨⟨c0, c1, c2, c3, c4, c5⟩, ⟨d0, d1, d2⟩, _, _, _, _⟩ := HE14.out
          obtain ⟨r0, r1⟩ := HR14.out
          obtain ⟨m0, m1⟩ := HM14.out
          obtain ⟨l0, l1, l2⟩ := HL14.out
          go_wp2_with fail
          obtain ⟨gSF, hg⟩ : ∃ gSF, w14.heap.size = gSF := ⟨_, rfl⟩
          rw [hg] at SF14 ⊢
          clear hg
          refine (stops_c b s A c run.tide 40 _ HE14.out.ts).mono ?_
          rintro e w15 ⟨rfl, hb⟩
          rw [S4]
          have hbn := hb.alloc hb.size (.cells #[.int .i64 y0, .int .i64 y1] 23)
          have HE15 := Lib.hid (HE14.out.keep hbn)
          have HR15 := Lib.hid (HR14.out.keep hbn)
          have HM15 := Lib.hid (HM14.out.keep hbn)
          have HP15 := Lib.hid (HP14.out.keep hbn)
          have HQ15 := Lib.hid (HQ14.out.keep hbn)
          have HL15 := Lib.hid (HL14.out.keep hbn)
          have SA15 := Lib.hid (SA14.out.keep hbn)
          have SB15 := Lib.hid (SB14.out.keep hbn)
          have SC15 := Lib.hid (SC14.out.keep hbn)
          have SD15 := Lib.hid (SD14.out.keep hbn)
          have SF15 := Lib.hid (SF14.out.keep hbn)
          have SG15 := Lib.hid (show C2 w15.heap.size y0 y1 _ from (Blk.new w15 23 #[.int .i64 y0, .int .i64 y1]).span)
          clear c0 c1 c2 c3 c4 c5 d0 d1 d2 r0 r1 m0 m1 l0 l1 l2
          clear hb hbn HE14 HR14 HM14 HP14 HQ14 HL14 SA14 SB14 SC14 SD14 SF14
          obtain ⟨⟨c0, c1, c2, c3, c4, c5⟩, ⟨d0, d1, d2⟩, _, _, _, _⟩ := HE15.out
          obtain ⟨r0, r1⟩ := HR15.out
          obtain ⟨m0, m1⟩ := HM15.out
          obtain ⟨l0, l1, l2⟩ := HL15.out
          obtain ⟨sa0, sa1⟩ := SA15.out
          obtain ⟨sb0, sb1⟩ := SB15.out
          obtain ⟨sc0, sc1⟩ := SC15.out
          obtain ⟨sd0, sd1⟩ := SD15.out
          obtain ⟨sf0, sf1⟩ := SF15.out
          obtain ⟨sg0, sg1⟩ := SG15.out
          go_wp2_with fail
          refine (awake_c _).mono ?_
          rintro e w17 ⟨rfl, hb⟩
          go_wp2_with fail
          go_ret
          exact ⟨rfl, (HE15.out.keep hb).sn.1⟩
      · obtain ⟨j, rfl⟩ : ∃ j, k = j + 1 := ⟨k - 1, by omega⟩
        have hjl : j < ps.length := by omega
        have htm2 : ((n0 : Int)).tmod ((ps.length : Int) + 1) = (j : Int) + 1 := by rw [htm]; omega
        have hwk2 : IntKind.i64.wrap ((j : Int) + 1) = (j : Int) + 1 := IntWalk.i64_in _ (by omega)
        have hwj : IntKind.i64.wrap (j : Int) = (j : Int) := IntWalk.i64_in _ (by omega)
        have hkz : (((j : Int) + 1) == 0) = false := by rw [beq_eq_false_iff_ne]; omega
        clear htm hwk h0k hkl
        have hpj := hpok' _ (List.getElem_mem hjl)
        have hbal0 := hpj.b0
        have hbal1 := hpj.b1
        have hmj : (moreP ps[j] n1).bal = min 40 (ps[j].bal + n1) := rfl
        have HRW := Lib.hid hrow
        obtain ⟨csr, hBr, hcr⟩ := hrow
        obtain ⟨_, hy2⟩ := pulVals_two (List.getElem?_eq_getElem hjl)
        have yb : X4.drew.cell? ⟨g3, j * 2 + 1, none⟩ = some (.int .i64 ps[j].bal) := (hBr.cell _).trans (hcr _ _ hy2)
        have fz : X4.drew.frozen? ⟨g3, j * 2 + 1, none⟩ = false := hBr.frozen _
        clear hBr hcr hy2
        generalize hbb : ps[j].bal = bal at *
        obtain ⟨mb, hmb⟩ : ∃ mb, (moreP ps[j] n1).bal = mb := ⟨_, rfl⟩
        rw [hmb] at hmj
        have hwb : IntKind.i64.wrap (bal + (n1 : Int)) = bal + (n1 : Int) := IntWalk.i64_in _ (by omega)
        obtain ⟨⟨c0, c1, c2, c3, c4, c5⟩, ⟨d0, d1, d2⟩, sx, _, _, _⟩ := HE4.out
        rw [HX.out] at sx
        have x0 := sx 0 _ rfl
        have x1 := sx 1 _ rfl
        have x2 := sx 2 _ rfl
        clear sx
        go_wp2_with fail
        clear c0 c1 c2 c3 c4 c5 d0 d1 d2 x0 x1 x2
        refine Vals6.regionAll (fun X => X = X4.drew) [some 58, some 59, some 60, some 61, some 62, some 63, some 64, some 65, some 66, some 67, some 68, some 69, some 70, some 71, some 72, some 73] [.is (.slice (some ⟨g3, 0, none⟩) ps.length cap), .is (.int .i64 ((j : Int) + 1)), .is (.int .i64 (j : Int)), .is (.slice (some ⟨g3, 0, none⟩) ps.length cap), .is (.int .i64 ((j : Int) + 1)), .is (.int .i64 (j : Int)), .is (.pointer (some ⟨g3, j * 2, none⟩)), .is (.pointer (some ⟨g3, j * 2 + 1, none⟩)), .is (.int .i64 bal), .is (.pointer (some ⟨w.heap.size + 1 + 1, 2, none⟩)), .is (.int .u8 (n1 : Int)), .is (.int .i64 (n1 : Int)), .is (.int .i64 (bal + (n1 : Int))), .is (.int .i64 mb), .is (.pointer (some ⟨g3, j * 2, none⟩)), .is (.pointer (some ⟨g3, j * 2 + 1, none⟩))] (by kernel_rfl) rfl rfl (by kernel_rfl) (by kernel_rfl) (by kernel_rfl) (by kernel_rfl) (by kernel_rfl) (by kernel_rfl) (by kernel_rfl) (rfl) ?_ ?_
        · refine Vals5.Steps.run (by kernel_rfl) (Vals5.Stable.is _) ?_ ?_
          · intro a W hS pre old K hK
            obtain rfl := hS
            have e10 : a.tmps.getD 10 undef = .slice (some ⟨g3, 0, none⟩) ps.length cap := old 10 _ (by kernel_rfl) rfl
            clear pre old
            simp only [Array.getD_eq_getD_getElem?] at e10
            go_simp
            exact hK _ _ rfl (Below.refl _ _) rfl
          refine Vals5.Steps.run (by kernel_rfl) (Vals5.Stable.is _) ?_ ?_
          · intro a W hS pre old K hK
            obtain rfl := hS
            have e11 : a.tmps.getD 11 undef = .int .i64 ((j : Int) + 1) := old 11 _ (by kernel_rfl) rfl
            clear pre old
            simp only [Array.getD_eq_getD_getElem?] at e11
            go_simp
            exact hK _ _ rfl (Below.refl _ _) rfl
          refine Vals5.Steps.run (by kernel_rfl) (Vals5.Stable.is _) ?_ ?_
          · intro a W hS pre old K hK
            obtain rfl := hS
            have e59 : a.tmps.getD 59 undef = .int .i64 ((j : Int) + 1) := pre 1 59 _ (by kernel_rfl) rfl rfl
            clear pre old
            simp only [Array.getD_eq_getD_getElem?] at e59
            go_simp
            first | exact hK _ _ rfl (Below.refl _ _) rfl | (rw [Int.add_sub_cancel]; exact hK _ _ rfl (Below.refl _ _) rfl) | (rw [Int.add_sub_cancel, hwj]; exact hK _ _ rfl (Below.refl _ _) rfl)
          refine Vals5.Steps.run (by kernel_rfl) (Vals5.Stable.is _) ?_ ?_
          · intro a W hS pre old K hK
            obtain rfl := hS
            have e10 : a.tmps.getD 10 undef = .slice (some ⟨g3, 0, none⟩) ps.length cap := old 10 _ (by kernel_rfl) rfl
            clear pre old
            simp only [Array.getD_eq_getD_getElem?] at e10
            go_simp
            exact hK _ _ rfl (Below.refl _ _) rfl
          refine Vals5.Steps.run (by kernel_rfl) (Vals5.Stable.is _) ?_ ?_
          · intro a W hS pre old K hK
            obtain rfl := hS
            have e11 : a.tmps.getD 11 undef = .int .i64 ((j : Int) + 1) := old 11 _ (by kernel_rfl) rfl
            clear pre old
            simp only [Array.getD_eq_getD_getElem?] at e11
            go_simp
            exact hK _ _ rfl (Below.refl _ _) rfl
          refine Vals5.Steps.run (by kernel_rfl) (Vals5.Stable.is _) ?_ ?_
          · intro a W hS pre old K hK
            obtain rfl := hS
            have e62 : a.tmps.getD 62 undef = .int .i64 ((j : Int) + 1) := pre 4 62 _ (by kernel_rfl) rfl rfl
            clear pre old
            simp only [Array.getD_eq_getD_getElem?] at e62
            go_simp
            first | exact hK _ _ rfl (Below.refl _ _) rfl | (rw [Int.add_sub_cancel]; exact hK _ _ rfl (Below.refl _ _) rfl) | (rw [Int.add_sub_cancel, hwj]; exact hK _ _ rfl (Below.refl _ _) rfl)
          refine Vals5.Steps.run (by kernel_rfl) (Vals5.Stable.is _) ?_ ?_
          · intro a W hS pre old K hK
            obtain rfl := hS
            have e61 : a.tmps.getD 61 undef = .slice (some ⟨g3, 0, none⟩) ps.length cap := pre 3 61 _ (by kernel_rfl) rfl rfl
            have e63 : a.tmps.getD 63 undef = .int .i64 (j : Int) := pre 5 63 _ (by kernel_rfl) rfl rfl
            clear pre old
            simp only [Array.getD_eq_getD_getElem?] at e61 e63
            go_simp
            first | exact hK _ _ rfl (Below.refl _ _) rfl | (rw [add_new]; exact hK _ _ rfl (Below.refl _ _) rfl)
          refine Vals5.Steps.run (by kernel_rfl) (Vals5.Stable.is _) ?_ ?_
          · intro a W hS pre old K hK
            obtain rfl := hS
            have e64 : a.tmps.getD 64 undef = .pointer (some ⟨g3, j * 2, none⟩) := pre 6 64 _ (by kernel_rfl) rfl rfl
            clear pre old
            simp only [Array.getD_eq_getD_getElem?] at e64
            go_simp
            exact hK _ _ rfl (Below.refl _ _) rfl
          refine Vals5.Steps.run (by kernel_rfl) (Vals5.Stable.is _) ?_ ?_
          · intro a W hS pre old K hK
            obtain rfl := hS
            have e65 : a.tmps.getD 65 undef = .pointer (some ⟨g3, j * 2 + 1, none⟩) := pre 7 65 _ (by kernel_rfl) rfl rfl
            clear pre old
            simp only [Array.getD_eq_getD_getElem?] at e65
            obtain ⟨_, _, sx, _, _, _⟩ := HE4.out.drew
            rw [HX.out] at sx
            have x2 := sx 2 _ rfl
            go_simp
            exact hK _ _ rfl (Below.refl _ _) rfl
          refine Vals5.Steps.run (by kernel_rfl) (Vals5.Stable.is _) ?_ ?_
          · intro a W hS pre old K hK
            obtain rfl := hS
            have e5 : a.tmps.getD 5 undef = .pointer (some ⟨w.heap.size + 1 + 1, 0, none⟩) := old 5 _ (by kernel_rfl) rfl
            clear pre old
            simp only [Array.getD_eq_getD_getElem?] at e5
            go_simp
            exact hK _ _ rfl (Below.refl _ _) rfl
          refine Vals5.Steps.run (by kernel_rfl) (Vals5.Stable.is _) ?_ ?_
          · intro a W hS pre old K hK
            obtain rfl := hS
            have e67 : a.tmps.getD 67 undef = .pointer (some ⟨w.heap.size + 1 + 1, 2, none⟩) := pre 9 67 _ (by kernel_rfl) rfl rfl
            clear pre old
            simp only [Array.getD_eq_getD_getElem?] at e67
            obtain ⟨_, _, sx, _, _, _⟩ := HE4.out.drew
            rw [HX.out] at sx
            have x2 := sx 2 _ rfl
            go_simp
            exact hK _ _ rfl (Below.refl _ _) rfl
          refine Vals5.Steps.run (by kernel_rfl) (Vals5.Stable.is _) ?_ ?_
          · intro a W hS pre old K hK
            obtain rfl := hS
            have e68 : a.tmps.getD 68 undef = .int .u8 (n1 : Int) := pre 10 68 _ (by kernel_rfl) rfl rfl
            clear pre old
            simp only [Array.getD_eq_getD_getElem?] at e68
            go_simp
            exact hK _ _ rfl (Below.refl _ _) rfl
          refine Vals5.Steps.run (by kernel_rfl) (Vals5.Stable.is _) ?_ ?_
          · intro a W hS pre old K hK
            obtain rfl := hS
            have e66 : a.tmps.getD 66 undef = .int .i64 bal := pre 8 66 _ (by kernel_rfl) rfl rfl
            have e69 : a.tmps.getD 69 undef = .int .i64 (n1 : Int) := pre 11 69 _ (by kernel_rfl) rfl rfl
            clear pre old
            simp only [Array.getD_eq_getD_getElem?] at e66 e69
            go_simp
            exact hK _ _ rfl (Below.refl _ _) rfl
          refine Vals5.Steps.run (by kernel_rfl) (Vals5.Stable.is _) ?_ ?_
          · intro a W hS pre old K hK
            obtain rfl := hS
            have e70 : a.tmps.getD 70 undef = .int .i64 (bal + (n1 : Int)) := pre 12 70 _ (by kernel_rfl) rfl rfl
            clear pre old
            simp only [Array.getD_eq_getD_getElem?] at e70
            rcases (by omega : (bal + n1 < 40 ∧ mb = bal + n1) ∨ (¬ bal + n1 < 40 ∧ mb = 40)) with ⟨h2, hn⟩ | ⟨h2, hn⟩
            · go_simp
              exact hK _ _ rfl (Below.refl _ _) (by show _ = _; rw [hn])
            · go_simp
              exact hK _ _ rfl (Below.refl _ _) (by show _ = _; rw [hn])
          refine Vals5.Steps.run (by kernel_rfl) (Vals5.Stable.is _) ?_ ?_
          · intro a W hS pre old K hK
            obtain rfl := hS
            have e58 : a.tmps.getD 58 undef = .slice (some ⟨g3, 0, none⟩) ps.length cap := pre 0 58 _ (by kernel_rfl) rfl rfl
            have e60 : a.tmps.getD 60 undef = .int .i64 (j : Int) := pre 2 60 _ (by kernel_rfl) rfl rfl
            clear pre old
            simp only [Array.getD_eq_getD_getElem?] at e58 e60
            go_simp
            first | exact hK _ _ rfl (Below.refl _ _) rfl | (rw [add_new]; exact hK _ _ rfl (Below.refl _ _) rfl)
          refine Vals5.Steps.run (by kernel_rfl) (Vals5.Stable.is _) ?_ ?_
          · intro a W hS pre old K hK
            obtain rfl := hS
            have e72 : a.tmps.getD 72 undef = .pointer (some ⟨g3, j * 2, none⟩) := pre 14 72 _ (by kernel_rfl) rfl rfl
            clear pre old
            simp only [Array.getD_eq_getD_getElem?] at e72
            go_simp
            exact hK _ _ rfl (Below.refl _ _) rfl
          exact Vals5.Steps.nil
        · intro X hS
          obtain rfl := hS
          simp only [Vals5.All]
          intro K hK
          clear hmj
          simp only [Vals.putAll, List.setIfInBounds_toArray, List.set_cons_zero, List.set_cons_succ]
          go_simp
          refine hK _ _ ?_
          clear hK K
          have hsn8 : Since X3 ((X4.setCell ⟨g3, j * 2 + 1, none⟩ (.int .i64 mb)).drew) := Since.drew ⟨hsn4.1.setCell hg3 _, by simpa using hsn4.2⟩
          have HE8 := Lib.hid (HE3.out.keep hsn8.1)
          have HR8 := Lib.hid (HR3.out.keep hsn8.1)
          have HP8 := Lib.hid (HP3.out.keep hsn8.1)
          have HM8 : Hid (C2 gM run.tide run.bal ((X4.setCell ⟨g3, j * 2 + 1, none⟩ (.int .i64 mb)).drew)) := (hBM.far (Ne.symm hneq) _ _).drew.pull
          have HQ8 : Hid (PuAt ((X4.setCell ⟨g3, j * 2 + 1, none⟩ (.int .i64 mb)).drew) (some ⟨g3, 0, none⟩) (moreAt ps j n1)) := by rw [← hmb]; exact (HRW.out.more hjl n1).drew.at
          have hmk : PuOk b.ts.length run := hrk
          have hpe2 : pullsE b.ts.length run (moreAt ps j n1) = 0 := pullsE_more (by omega) hpe
          obtain ⟨a0, a1, e0, e1, u0, u1, v0, v1, y0, y1, L1, L2, S1, S2, S3, S4, q1, q2, q3, q4⟩ := more_vals hk hrk hmk hpe hpe2 (lad_at (n := b.ts.length) (by omega) hpok')
          have HC10 : Hid (∀ W : World, TsAt W A b.ts → PuAt W (some ⟨g3, 0, none⟩) (moreAt ps j n1) → Calls Try.prog 30 #[.agg (bV b A c), .agg (sV s), .agg #[.int .i64 run.tide, .int .i64 run.bal], .slice (some ⟨g3, 0, none⟩) ps.length cap] W fun e w' => e = .returned (.tuple #[.agg #[.int .i64 e0, .int .i64 e1], .int .i64 0]) ∧ Below W.heap.size W w') := fun W h1 h2 => by
            have := tlies_c b s A c run (some ⟨g3, 0, none⟩) (moreAt ps j n1) cap W h1 h2
            rw [L2] at this
            simpa [moreAt] using this
          clear L2 hmk hpe2
          clear yb fz hmb HRW
          obtain ⟨⟨c0, c1, c2, c3, c4, c5⟩, ⟨d0, d1, d2⟩, _, _, _, _⟩ := HE8.out
          obtain ⟨r0, r1⟩ := HR8.out
          obtain ⟨m0, m1⟩ := HM8.out
          go_wp2_with fail
          clear c0 c1 c2 c3 c4 c5 d0 d1 d2 r0 r1 m0 m1 HE4
          refine (tlies_c b s A c run Q ps qc _ HE8.out.ts HP8.out).mono ?_
          rintro e w9 ⟨rfl, hb⟩
          rw [L1]
          have hbn := hb.alloc hb.size (.cells #[.int .i64 a0, .int .i64 a1] 23)
          have HE9 := Lib.hid (HE8.out.keep hbn)
          have HR9 := Lib.hid (HR8.out.keep hbn)
          have HM9 := Lib.hid (HM8.out.keep hbn)
          have HP9 := Lib.hid (HP8.out.keep hbn)
          have HQ9 := Lib.hid (HQ8.out.keep hbn)
          have SA9 := Lib.hid (show C2 w9.heap.size a0 a1 _ from (Blk.new w9 23 #[.int .i64 a0, .int .i64 a1]).span)
          clear hb hbn HE8 HR8 HM8 HP8 HQ8
          obtain ⟨⟨c0, c1, c2, c3, c4, c5⟩, ⟨d0, d1, d2⟩, _, _, _, _⟩ := HE9.out
          obtain ⟨r0, r1⟩ := HR9.out
          obtain ⟨m0, m1⟩ := HM9.out
          go_wp2_with fail
          obtain ⟨gSA, hg⟩ : ∃ gSA, w9.heap.size = gSA := ⟨_, rfl⟩
          rw [hg] at SA9 ⊢
          clear hg
          refine (HC10.out _ HE9.out.ts HQ9.out).mono ?_
          rintro e w10 ⟨rfl, hb⟩
          have hbn := hb.alloc hb.size (.cells #[.int .i64 e0, .int .i64 e1] 23)
          have HE10 := Lib.hid (HE9.out.keep hbn)
          have HR10 := Lib.hid (HR9.out.keep hbn)
          have HM10 := Lib.hid (HM9.out.keep hbn)
          have HP10 := Lib.hid (HP9.out.keep hbn)
          have HQ10 := Lib.hid (HQ9.out.keep hbn)
          have SA10 := Lib.hid (SA9.out.keep hbn)
          have SB10 := Lib.hid (show C2 w10.heap.size e0 e1 _ from (Blk.new w10 23 #[.int .i64 e0, .int .i64 e1]).span)
          clear c0 c1 c2 c3 c4 c5 d0 d1 d2 r0 r1 m0 m1
          clear hb hbn HE9 HR9 HM9 HP9 HQ9 SA9
          obtain ⟨⟨c0, c1, c2, c3, c4, c5⟩, ⟨d0, d1, d2⟩, _, _, _, _⟩ := HE10.out
          obtain ⟨r0, r1⟩ := HR10.out
          obtain ⟨m0, m1⟩ := HM10.out
          have hw11 := Blk.new1 w10 (.cells #[.int .i64 e0, .int .i64 e1] 23) 28 #[.int .i64 s.dlo, .int .i64 s.dhi, .int .i64 0]
          have hbL : Below (w10.alloc (.cells #[.int .i64 e0, .int .i64 e1] 23)).heap.size (w10.alloc (.cells #[.int .i64 e0, .int .i64 e1] 23)) ((w10.alloc (.cells #[.int .i64 e0, .int .i64 e1] 23)).alloc (.cells #[.int .i64 s.dlo, .int .i64 s.dhi, .int .i64 0] 28)) := (Below.refl _ _).alloc (Nat.le_refl _) _
          have HE11 := Lib.hid (HE10.out.keep hbL)
          have HR11 := Lib.hid (HR10.out.keep hbL)
          have HM11 := Lib.hid (HM10.out.keep hbL)
          have HP11 := Lib.hid (HP10.out.keep hbL)
          have HQ11 := Lib.hid (HQ10.out.keep hbL)
          have SA11 := Lib.hid (SA10.out.keep hbL)
          have SB11 := Lib.hid (SB10.out.keep hbL)
          have HL11 : Hid (SS (w10.heap.size + 1) (light s) ((w10.alloc (.cells #[.int .i64 e0, .int .i64 e1] 23)).alloc (.cells #[.int .i64 s.dlo, .int .i64 s.dhi, .int .i64 0] 28))) := ⟨hw11.cell 0, hw11.cell 1, hw11.cell 2⟩
          obtain ⟨⟨C0, C1, C2_, C3, C4_, C5⟩, _, _, _, _, _⟩ := HE11.out
          obtain ⟨R0, R1⟩ := HR11.out
          obtain ⟨M0, M1⟩ := HM11.out
          obtain ⟨l0, l1, l2⟩ := HL11.out
          go_wp2_with fail
          obtain ⟨gL, hgL⟩ : ∃ gL, w10.heap.size + 1 = gL := ⟨_, rfl⟩
          obtain ⟨gB, hgB⟩ : ∃ gB, w10.heap.size = gB := ⟨_, rfl⟩
          obtain ⟨X11, hX11⟩ : ∃ X11, ((w10.alloc (.cells #[.int .i64 e0, .int .i64 e1] 23)).alloc (.cells #[.int .i64 s.dlo, .int .i64 s.dhi, .int .i64 0] 28)) = X11 := ⟨_, rfl⟩
          clear hw11 hbL c0 c1 c2 c3 c4 c5 d0 d1 d2 r0 r1 m0 m1 C0 C1 C2_ C3 C4_ C5 R0 R1 M0 M1 l0 l1 l2 HE10 HR10 HM10 HP10 HQ10 SA10 SB10
          rw [hX11] at HE11 HR11 HM11 HP11 HQ11 HL11 SA11 SB11 ⊢
          rw [hgL] at HL11 ⊢
          rw [hgB] at SB11 ⊢
          clear hX11 hgL hgB
          refine (stops_c b (light s) A c run.tide run.bal _ HE11.out.ts).mono ?_
          rintro e w12 ⟨rfl, hb⟩
          rw [S1]
          have hbn := hb.alloc hb.size (.cells #[.int .i64 u0, .int .i64 u1] 23)
          have HE12 := Lib.hid (HE11.out.keep hbn)
          have HR12 := Lib.hid (HR11.out.keep hbn)
          have HM12 := Lib.hid (HM11.out.keep hbn)
          have HP12 := Lib.hid (HP11.out.keep hbn)
          have HQ12 := Lib.hid (HQ11.out.keep hbn)
          have HL12 := Lib.hid (HL11.out.keep hbn)
          have SA12 := Lib.hid (SA11.out.keep hbn)
          have SB12 := Lib.hid (SB11.out.keep hbn)
          have SC12 := Lib.hid (show C2 w12.heap.size u0 u1 _ from (Blk.new w12 23 #[.int .i64 u0, .int .i64 u1]).span)
          clear hb hbn HE11 HR11 HM11 HP11 HQ11 HL11 SA11 SB11
          obtain ⟨⟨c0, c1, c2, c3, c4, c5⟩, ⟨d0, d1, d2⟩, _, _, _, _⟩ := HE12.out
          obtain ⟨r0, r1⟩ := HR12.out
          obtain ⟨m0, m1⟩ := HM12.out
          obtain ⟨l0, l1, l2⟩ := HL12.out
          go_wp2_with fail
          obtain ⟨gSC, hg⟩ : ∃ gSC, w12.heap.size = gSC := ⟨_, rfl⟩
          rw [hg] at SC12 ⊢
          clear hg
          refine (stops_c b (light s) A c run.tide run.bal _ HE12.out.ts).mono ?_
          rintro e w13 ⟨rfl, hb⟩
          rw [S2]
          have hbn := hb.alloc hb.size (.cells #[.int .i64 u0, .int .i64 u1] 23)
          have HE13 := Lib.hid (HE12.out.keep hbn)
          have HR13 := Lib.hid (HR12.out.keep hbn)
          have HM13 := Lib.hid (HM12.out.keep hbn)
          have HP13 := Lib.hid (HP12.out.keep hbn)
          have HQ13 := Lib.hid (HQ12.out.keep hbn)
          have HL13 := Lib.hid (HL12.out.keep hbn)
          have SA13 := Lib.hid (SA12.out.keep hbn)
          have SB13 := Lib.hid (SB12.out.keep hbn)
          have SC13 := Lib.hid (SC12.out.keep hbn)
          have SD13 := Lib.hid (show C2 w13.heap.size u0 u1 _ from (Blk.new w13 23 #[.int .i64 u0, .int .i64 u1]).span)
          clear c0 c1 c2 c3 c4 c5 d0 d1 d2 r0 r1 m0 m1 l0 l1 l2
          clear hb hbn HE12 HR12 HM12 HP12 HQ12 HL12 SA12 SB12 SC12
          obtain ⟨⟨c0, c1, c2, c3, c4, c5⟩, ⟨d0, d1, d2⟩, _, _, _, _⟩ := HE13.out
          obtain ⟨r0, r1⟩ := HR13.out
          obtain ⟨m0, m1⟩ := HM13.out
          obtain ⟨l0, l1, l2⟩ := HL13.out
          go_wp2_with fail
          obtain ⟨gSD, hg⟩ : ∃ gSD, w13.heap.size = gSD := ⟨_, rfl⟩
          rw [hg] at SD13 ⊢
          clear hg
          refine (stops_c b s A c run.tide run.bal _ HE13.out.ts).mono ?_
          rintro e w14 ⟨rfl, hb⟩
          rw [S3]
          have hbn := hb.alloc hb.size (.cells #[.int .i64 v0, .int .i64 v1] 23)
          have HE14 := Lib.hid (HE13.out.keep hbn)
          have HR14 := Lib.hid (HR13.out.keep hbn)
          have HM14 := Lib.hid (HM13.out.keep hbn)
          have HP14 := Lib.hid (HP13.out.keep hbn)
          have HQ14 := Lib.hid (HQ13.out.keep hbn)
          have HL14 := Lib.hid (HL13.out.keep hbn)
          have SA14 := Lib.hid (SA13.out.keep hbn)
          have SB14 := Lib.hid (SB13.out.keep hbn)
          have SC14 := Lib.hid (SC13.out.keep hbn)
          have SD14 := Lib.hid (SD13.out.keep hbn)
          have SF14 := Lib.hid (show C2 w14.heap.size v0 v1 _ from (Blk.new w14 23 #[.int .i64 v0, .int .i64 v1]).span)
          clear c0 c1 c2 c3 c4 c5 d0 d1 d2 r0 r1 m0 m1 l0 l1 l2
          clear hb hbn HE13 HR13 HM13 HP13 HQ13 HL13 SA13 SB13 SC13 SD13
          obtain ⟨⟨c0, c1, c2, c3, c4, c5⟩, ⟨d0, d1, d2⟩, _, _, _, _⟩ := HE14.out
          obtain ⟨r0, r1⟩ := HR14.out
          obtain ⟨m0, m1⟩ := HM14.out
          obtain ⟨l0, l1, l2⟩ := HL14.out
          go_wp2_with fail
          obtain ⟨gSF, hg⟩ : ∃ gSF, w14.heap.size = gSF := ⟨_, rfl⟩
          rw [hg] at SF14 ⊢
          clear hg
          refine (stops_c b s A c run.tide run.bal _ HE14.out.ts).mono ?_
          rintro e w15 ⟨rfl, hb⟩
          rw [S4]
          have hbn := hb.alloc hb.size (.cells #[.int .i64 y0, .int .i64 y1] 23)
          have HE15 := Lib.hid (HE14.out.keep hbn)
          have HR15 := Lib.hid (HR14.out.keep hbn)
          have HM15 := Lib.hid (HM14.out.keep hbn)
          have HP15 := Lib.hid (HP14.out.keep hbn)
          have HQ15 := Lib.hid (HQ14.out.keep hbn)
          have HL15 := Lib.hid (HL14.out.keep hbn)
          have SA15 := Lib.hid (SA14.out.keep hbn)
          have SB15 := Lib.hid (SB14.out.keep hbn)
          have SC15 := Lib.hid (SC14.out.keep hbn)
          have SD15 := Lib.hid (SD14.out.keep hbn)
          have SF15 := Lib.hid (SF14.out.keep hbn)
          have SG15 := Lib.hid (show C2 w15.heap.size y0 y1 _ from (Blk.new w15 23 #[.int .i64 y0, .int .i64 y1]).span)
          clear c0 c1 c2 c3 c4 c5 d0 d1 d2 r0 r1 m0 m1 l0 l1 l2
          clear hb hbn HE14 HR14 HM14 HP14 HQ14 HL14 SA14 SB14 SC14 SD14 SF14
          obtain ⟨⟨c0, c1, c2, c3, c4, c5⟩, ⟨d0, d1, d2⟩, _, _, _, _⟩ := HE15.out
          obtain ⟨r0, r1⟩ := HR15.out
          obtain ⟨m0, m1⟩ := HM15.out
          obtain ⟨l0, l1, l2⟩ := HL15.out
          obtain ⟨sa0, sa1⟩ := SA15.out
          obtain ⟨sb0, sb1⟩ := SB15.out
          obtain ⟨sc0, sc1⟩ := SC15.out
          obtain ⟨sd0, sd1⟩ := SD15.out
          obtain ⟨sf0, sf1⟩ := SF15.out
          obtain ⟨sg0, sg1⟩ := SG15.out
          go_wp2_with fail
          refine (awake_c _).mono ?_
          rintro e w17 ⟨rfl, hb⟩
          go_wp2_with fail
          go_ret
          exact ⟨rfl, (HE15.out.keep hb).sn.1⟩
  · have HD : Hid (decide ((chk b s).2.2 = 0) = false) := decide_eq_false hk
    clear hk
    go_enter Try.func13, Try.ntmps13
    go_wp2_with fail
    refine (valid_c b s A c _ HE0.out.ts).mono ?_
    rintro e w1 ⟨rfl, hb1⟩
    rw [HD.out]
    have HE1 := Lib.hid (HE0.out.keep hb1)
    clear HE0 hb1
    go_wp2_with fail
    refine (awake_c _).mono ?_
    rintro e w3 ⟨rfl, hb3⟩
    go_wp2_with fail
    go_ret
    exact ⟨rfl, (HE1.out.keep hb3).sn.1⟩
end Td
end Go.Proofs.Ytojpiliamecgkaa
