import Derived.Test.YtojpiliamecgkaaNarrowA
import Derived.Test.YtojpiliamecgkaaVals6
import Derived.Test.YtojpiliamecgkaaLieC
import Derived.Deep.AppendLies
namespace Go.Proofs.Ytojpiliamecgkaa
open Go.RowKit
namespace Td
set_option linter.unusedSimpArgs false
set_option linter.unusedVariables false
theorem Try.infoTide2 : (Try.prog.info? 67).map (fun i => (i.zero, i.size, i.bytes)) = some (some (.agg #[.int .i64 0, .int .i64 0, .int .i64 0, .int .i64 0, .int .i64 0]), 5, 40) := by kernel_rfl
set_option maxRecDepth 100000 in
set_option maxHeartbeats 16000000 in
theorem tideNarrow_c (b : Bch) (s : Shp) (A : Option Addr) (c : Nat) (P : Option Addr) (l : List Int) (pc : Nat) (P2 : Option Addr) (l2 : List Int) (cz : Nat) (g : Int) (w : World) (hp : TsAt w A b.ts) (g0 : -2147483648 ≤ g) (g1 : g ≤ 2147483647) (hu : U16At w P l) (ho : U16Ok l) (hu2 : U16At w P2 l2) (ho2 : U16Ok l2) :
    Calls Try.prog 14 #[.agg (bV b A c), .agg (sV s), .agg #[.slice P l.length pc, .slice P2 l2.length cz, .int .i32 g]] w fun e w' => e = .returned (.bool true) ∧ Below w.heap.size w w' := by
  obtain ⟨xs, hxs⟩ : ∃ xs : List Value, xs = [.slice P l.length pc, .slice P2 l2.length cz, .int .i32 g] := ⟨_, rfl⟩
  have hs0 := (((Since.refl w).alloc (.cells (bV b A c) 26)).alloc (.cells (sV s) 28)).alloc (.cells #[.slice P l.length pc, .slice P2 l2.length cz, .int .i32 g] 76)
  have hE0 : Env w.heap.size (w.heap.size + 1) (w.heap.size + 1 + 1) b A c s xs P l w (((w.alloc (.cells (bV b A c) 26)).alloc (.cells (sV s) 28)).alloc (.cells #[.slice P l.length pc, .slice P2 l2.length cz, .int .i32 g] 76)) := by
    refine ⟨(((Blk.new w 26 (bV b A c)).alloc (.cells (sV s) 28)).alloc _).beach, ((Blk.new1 w (.cells (bV b A c) 26) 28 (sV s)).alloc _).ship, fun j v hj => ?_, hp.keep hs0.1, hu.keep hs0.1, hs0⟩
    subst hxs
    rw [(Blk.new2 w (.cells (bV b A c) 26) (.cells (sV s) 28) 76 #[.slice P l.length pc, .slice P2 l2.length cz, .int .i32 g]).cell j]
    simpa using hj
  have HX : Hid (xs = [.slice P l.length pc, .slice P2 l2.length cz, .int .i32 g]) := hxs
  have HE0 := Lib.hid hE0
  have HU0 := Lib.hid (hu2.keep hs0.1)
  clear hE0 hxs hs0
  by_cases hk : (chk b s).2.2 = 0
  · obtain ⟨hB, hS⟩ := chk_ok.1 hk
    have HD : Hid (decide ((chk b s).2.2 = 0) = true) := decide_eq_true hk
    have hl12 : b.ts.length ≤ 12 := hB.n1
    have hl1 : 1 ≤ b.ts.length := hB.n0
    have HCP : Hid (∀ W : World, TsAt W A b.ts → U16At W P l → _) := fun W (h1 : TsAt W A b.ts) (h2 : U16At W P l) => plan_c2 b A c P l pc W h1 hl1 hl12 h2 ho
    have hrk := planRun_ok (l := l) hl1
    obtain ⟨hpok, hpe, hp6⟩ := plan_ok (l := l) hl1
    generalize planRun b.ts.length l = run at *
    generalize planPs b.ts.length l = ps at *
    have hpok' : ∀ p ∈ ps, PuOk b.ts.length p := fun p hp => (hpok p hp).1
    clear hpok
    obtain ⟨rt, rb⟩ := run
    obtain ⟨i0, rfl⟩ : ∃ i : Nat, rt = i := ⟨rt.toNat, by have := hrk.t0; simp only at this; omega⟩
    have hi0 : i0 < b.ts.length := by have := hrk.t1; simp only at this; omega
    have hrb0 : 0 ≤ rb := hrk.b0
    have hrb1 : rb ≤ 40 := hrk.b1
    have HSO := Lib.hid hS
    have HTU : Hid (∀ W : World, U16At W P2 l2 → Calls Try.prog 43 #[.slice P2 l2.length cz, .int .i64 4] W fun e w' => e = .returned (.int .i64 (turnV l2 4)) ∧ W = w') := fun W h => turn_c P2 l2 cz 4 W (by omega) h ho2
    have hbd := turnV_bd ho2 4
    obtain ⟨ky, hK⟩ : ∃ ky, turnV l2 4 % 50 = ky := ⟨_, rfl⟩
    have hK0 : 0 ≤ ky ∧ ky < 50 := by omega
    obtain ⟨hK0, hK1⟩ := hK0
    have htK : (turnV l2 4).tmod 50 = ky := by rw [Int.tmod_eq_emod_of_nonneg hbd.1]; exact hK
    clear hK
    obtain ⟨⟨hSL0, hSL1⟩, ⟨hDR0, hDR1⟩, _, _⟩ := trt_bd hB hS l2 (i := 0) (by omega)
    have hBs0 := hB.s0
    have hBs2 := hB.s2
    have hSd0 := hS.d0
    have hSd2 := hS.d2
    have HSL : Hid ((trt b s l2 0).1 = (trt b s l2 0).1) := rfl
    obtain ⟨SL, hSL⟩ : ∃ SL, (trt b s l2 0).1 = SL := ⟨_, rfl⟩
    obtain ⟨DR, hDR⟩ : ∃ DR, (trt b s l2 0).2.1 = DR := ⟨_, rfl⟩
    have HTR : Hid (∀ i, i < b.ts.length → ∃ he wn : Int, truthV (bx b s i) i l2 = (SL, DR, he, wn) ∧ (∀ (h : i < b.ts.length) k, nrI b s l2 k i = nrT b.ts[i] he wn k) ∧ 0 ≤ he ∧ he ≤ 1500 ∧ -200 ≤ wn ∧ wn ≤ 200) := fun i hi => by
      obtain ⟨he, wn, h1, h2, h3⟩ := trt_ok2 hB hS l2 hi
      rw [hSL, hDR] at h1
      exact ⟨he, wn, h1, fun _ => h2, h3⟩
    rw [hSL] at hSL0 hSL1
    rw [hDR] at hDR0 hDR1
    have HSLD : Hid ((trt b s l2 0).1 = SL ∧ (trt b s l2 0).2.1 = DR) := ⟨hSL, hDR⟩
    obtain ⟨n, hnr⟩ : ∃ n : Nat, rb = n := ⟨rb.toNat, by omega⟩
    obtain ⟨a0, a1, b0, b1, u0, u1, v0, v1, L, M, L1, L2, ST1, ST2, hL, hM', ⟨hn0, hn1⟩, ⟨hr0, hr1⟩, hmem0, hLn, hMn⟩ := narrow_vals hk l2 hK0 hrk hpok' hpe n
    have hlen : (nrB b s l2 ky).ts.length = b.ts.length := by simp only [nrB]; rw [nrTs_len]
    have HMEM := Lib.hid hmem0
    have HTK : Hid ((nrTs b s l2 ky).take b.ts.length = nrTs b s l2 ky) := List.take_of_length_le (by rw [nrTs_len]; omega)
    have ebv : ∀ gr cap : Nat, bV (nrB b s l2 ky) (some ⟨gr, 0, none⟩) cap = #[.int .i64 (max b.slo (SL - ky)), .int .i64 (min b.shi (SL + ky)), .int .i64 (max (-2000000) (b.mlo - ky)), .int .i64 (min 2000000 (b.mhi + ky)), .int .i64 b.bite, .slice (some ⟨gr, 0, none⟩) b.ts.length cap] := fun gr cap => by simp only [bV, hlen]; simp only [nrB, hSL]
    have esv : sV (nrS b s l2 ky) = #[.int .i64 (max s.dlo (DR - ky)), .int .i64 (min s.dhi (DR + ky)), .int .i64 s.sink] := by simp only [sV, nrS, hDR]
    have HLA := Lib.hid (fun (gr cap : Nat) (W : World) (Q : Option Addr) (qc : Nat) (h : TsAt W (some ⟨gr, 0, none⟩) (nrB b s l2 ky).ts) (h2 : PuAt W Q ps) => by have := tlies_c (nrB b s l2 ky) (nrS b s l2 ky) (some ⟨gr, 0, none⟩) cap ⟨(i0 : Int), rb⟩ Q ps qc W h h2; rw [ebv, esv, L2] at this; exact this)
    have HSTA := Lib.hid (fun (gr cap : Nat) (W : World) (h : TsAt W (some ⟨gr, 0, none⟩) (nrB b s l2 ky).ts) => by have := stops_c (nrB b s l2 ky) (nrS b s l2 ky) (some ⟨gr, 0, none⟩) cap (i0 : Int) rb W h; rw [ebv, esv, ST2] at this; exact this)
    have HC : Hid (∀ W : World, TsAt W A b.ts → Calls Try.prog 20 #[.agg (bV b A c), .agg (sV s), .int .i64 rb] W fun e w' => (∃ P pc, e = .returned (.tuple #[.slice P L.length pc, .int .i64 0]) ∧ InAt w' P L) ∧ Below W.heap.size W w') := fun W hW => by
      rw [hnr]
      refine (ashore_c b s A c (n : Int) W hW).mono ?_
      rintro e w' ⟨h1, h2⟩
      have h0 : stepE b s 0 (n : Int) = 0 := by rw [stepE_run hk, runE_zero]; omega
      rcases h1 with ⟨h9, _⟩ | ⟨_, v, he, hv⟩
      · exact absurd h0 h9
      · rw [Int.toNat_natCast, hL] at hv
        obtain ⟨P, pc, rfl, hin⟩ := hv.slice
        exact ⟨⟨P, pc, he, hin⟩, h2⟩
    have HC2A : Hid (∀ (gr cap : Nat) (W : World), TsAt W (some ⟨gr, 0, none⟩) (nrB b s l2 ky).ts → Calls Try.prog 20 #[.agg #[.int .i64 (max b.slo (SL - ky)), .int .i64 (min b.shi (SL + ky)), .int .i64 (max (-2000000) (b.mlo - ky)), .int .i64 (min 2000000 (b.mhi + ky)), .int .i64 b.bite, .slice (some ⟨gr, 0, none⟩) b.ts.length cap], .agg #[.int .i64 (max s.dlo (DR - ky)), .int .i64 (min s.dhi (DR + ky)), .int .i64 s.sink], .int .i64 rb] W fun e w' => (∃ P pc, e = .returned (.tuple #[.slice P M.length pc, .int .i64 0]) ∧ InAt w' P M) ∧ Below W.heap.size W w') := fun gr cap W hW => by
      rw [hnr, ← ebv, ← esv]
      refine (ashore_c (nrB b s l2 ky) (nrS b s l2 ky) (some ⟨gr, 0, none⟩) cap (n : Int) W hW).mono ?_
      rintro e w' ⟨h1, h2⟩
      have h0 : stepE (nrB b s l2 ky) (nrS b s l2 ky) 0 (n : Int) = 0 := by rw [stepE_run (nr_ok hk l2 hK0), runE_zero, hlen]; omega
      rcases h1 with ⟨h9, _⟩ | ⟨_, v, he, hv⟩
      · exact absurd h0 h9
      · rw [Int.toNat_natCast, hM'] at hv
        obtain ⟨P, pc, rfl, hin⟩ := hv.slice
        exact ⟨⟨P, pc, he, hin⟩, h2⟩
    have hmb0 := hB.m0
    have hmb1 := hB.m1
    have hmb2 := hB.m2
    have hwm1 : IntKind.i64.wrap (b.mlo - ky) = b.mlo - ky := IntWalk.i64_in _ (by omega)
    have hwm2 : IntKind.i64.wrap (b.mhi + ky) = b.mhi + ky := IntWalk.i64_in _ (by omega)
    clear hL hM' L2 ST2 hmem0 ebv esv
    clear hnr
    have HSO := Lib.hid hS
    clear hSL hDR HSL
    have hS0 := hS.k0
    have hS1 := hS.k1
    go_enter Try.func14, Try.ntmps14
    go_wp2_with fail
    refine (valid_c b s A c _ HE0.out.ts).mono ?_
    rintro e w1 ⟨rfl, hb1⟩
    rw [HD.out]
    have HE1 := Lib.hid (HE0.out.keep hb1)
    have HU1 := Lib.hid (HU0.out.keep hb1)
    clear HE0 HU0 hb1
    obtain ⟨⟨c0, c1, c2, c3, c4, c5⟩, ⟨d0, d1, d2⟩, sx, _, _, _⟩ := HE1.out
    rw [HX.out] at sx
    have x0 := sx 0 _ rfl
    have x1 := sx 1 _ rfl
    have x2 := sx 2 _ rfl
    clear sx
    go_wp2_with fail
    refine (HCP.out _ HE1.out.ts HE1.out.us).mono ?_
    rintro e w2 ⟨⟨Q, qc, rfl, hq, hqc⟩, hb2⟩
    have hbn := hb2.alloc hb2.size (.cells (puV ⟨(i0 : Int), rb⟩) 49)
    have HE3 : Hid (PuS w.heap.size (w.heap.size + 1) (w.heap.size + 1 + 1) w2.heap.size b A c s xs P l P2 l2 (i0 : Int) rb Q ps w (w2.alloc (.cells (puV ⟨(i0 : Int), rb⟩) 49))) := ⟨HE1.out.keep hbn, HU1.out.keep hbn, (Blk.new w2 49 (puV ⟨(i0 : Int), rb⟩)).pull, hq.keep ((Below.refl _ _).alloc (Nat.le_refl _) _)⟩
    clear HE1 HU1 hb2 hbn hq c0 c1 c2 c3 c4 c5 d0 d1 d2 x0 x1 x2
    obtain ⟨⟨⟨c0, c1, c2, c3, c4, c5⟩, ⟨d0, d1, d2⟩, sx, _, _, _⟩, _, ⟨r0, r1⟩, _⟩ := HE3.out
    rw [HX.out] at sx
    have x0 := sx 0 _ rfl
    have x1 := sx 1 _ rfl
    have x2 := sx 2 _ rfl
    clear sx
    go_wp2_with fail
    obtain ⟨gR, hgR⟩ : ∃ gR, w2.heap.size = gR := ⟨_, rfl⟩
    rw [hgR] at HE3 ⊢
    clear hgR
    refine (HTU.out _ HE3.out.u).mono ?_
    rintro e w' ⟨rfl, rfl⟩
    go_wp2_with fail
    clear c0 c1 c2 c3 c4 c5 d0 d1 d2 r0 r1 x0 x1 x2
    obtain ⟨X3, hX3⟩ : ∃ X3, w2.alloc (.cells (puV ⟨(i0 : Int), rb⟩) 49) = X3 := ⟨_, rfl⟩
    rw [hX3] at HE3 ⊢
    clear hX3
    refine Vals9.region (Cp2 X3 (bV b A c) (sV s)) [some 43, some 44, some 10, some 11, none, none] [.is (.agg (bV b A c)), .is (.agg (sV s)), .any, .any, .any, .any] (by kernel_rfl) (by kernel_rfl) (by kernel_rfl) (by kernel_rfl) (by kernel_rfl) (by kernel_rfl) (Cp2.start X3 _ _) ?_ ?_
    · refine Vals9.Steps.run (by kernel_rfl) ?_ ?_
      · intro a W σ hJ pre K hK
        have e3 : a.tmps.getD 3 undef = .pointer (some ⟨w.heap.size, 0, none⟩) := pre.2.2 3 _ (by kernel_rfl) rfl
        clear pre
        simp only [Array.getD_eq_getD_getElem?] at e3
        have hS9 := hJ
        obtain ⟨⟨⟨s0, s1, s2, s3, s4, s5⟩, ⟨d0, d1, d2⟩, sx, ts, us, sn⟩, uu, ⟨r0, r1⟩, pq⟩ := HE3.out.keep hS9.sn.1
        go_simp
        exact hK _ hJ
      refine Vals9.Steps.run (by kernel_rfl) ?_ ?_
      · intro a W σ hJ pre K hK
        have e4 : a.tmps.getD 4 undef = .pointer (some ⟨w.heap.size + 1, 0, none⟩) := pre.2.2 4 _ (by kernel_rfl) rfl
        clear pre
        simp only [Array.getD_eq_getD_getElem?] at e4
        have hS9 := hJ
        obtain ⟨⟨⟨s0, s1, s2, s3, s4, s5⟩, ⟨d0, d1, d2⟩, sx, ts, us, sn⟩, uu, ⟨r0, r1⟩, pq⟩ := HE3.out.keep hS9.sn.1
        go_simp
        exact hK _ hJ
      refine Vals9.Steps.mark (by kernel_rfl) ?_ ?_
      · intro a W σ hJ hn pre K hK
        go_simp
        exact hK _ _ (hJ.newB hn _ rfl)
      refine Vals9.Steps.mark (by kernel_rfl) ?_ ?_
      · intro a W σ hJ hn pre K hK
        go_simp
        exact hK _ _ (hJ.newS hn _ rfl)
      refine Vals9.Steps.mark (by kernel_rfl) ?_ ?_
      · intro a W σ hJ hn pre K hK
        obtain ⟨v10, s10, e10⟩ := pre.2.1 2 (by kernel_rfl) rfl
        replace e10 : a.tmps.getD 10 undef = v10 := e10 10 rfl
        have e43 : a.tmps.getD 43 undef = .agg (bV b A c) := pre.1 0 43 _ (by kernel_rfl) rfl rfl
        simp only [Array.getD_eq_getD_getElem?] at e10 e43
        obtain ⟨g, zs, h1, h2, h3, h4, _, _⟩ := hJ.m _ s10
        subst h1
        refine wp_store_row 26 _ _ rfl g (bV b A c) (by go_simp) (by go_simp) 26 zs h4 (by kernel_rfl) h3 (by simp [Value.oneCell']) ?_
        exact hK _ _ (hJ.stB rfl s10)
      refine Vals9.Steps.mark (by kernel_rfl) ?_ ?_
      · intro a W σ hJ hn pre K hK
        obtain ⟨v11, s11, e11⟩ := pre.2.1 3 (by kernel_rfl) rfl
        replace e11 : a.tmps.getD 11 undef = v11 := e11 11 rfl
        have e44 : a.tmps.getD 44 undef = .agg (sV s) := pre.1 1 44 _ (by kernel_rfl) rfl rfl
        simp only [Array.getD_eq_getD_getElem?] at e11 e44
        obtain ⟨g, zs, h1, h2, h3, h4, _⟩ := hJ.s _ s11
        subst h1
        refine wp_store_row 28 _ _ rfl g (sV s) (by go_simp) (by go_simp) 28 zs h4 (by kernel_rfl) h3 (by simp [Value.oneCell']) ?_
        exact hK _ _ (hJ.stS rfl s11)
      exact Vals9.Steps.nil
    · intro X5 σ hJ
      simp only [Vals9.All]
      intro v2 h2 v3 h3 v4 h4 v5 h5
      obtain ⟨gM, zs, rfl, hgM, _, hBM, hcb, hne⟩ := hJ.m v2 h2
      obtain ⟨gS, zs2, rfl, hgS, _, hBS, hcs⟩ := hJ.s v3 h3
      obtain rfl := hcb v4 h4
      obtain rfl := hcs v5 h5
      have hneq : gS ≠ gM := fun e => hne _ h3 (by rw [e])
      have hsn5 := hJ.sn
      clear hJ h2 h3 h4 h5 hcb hcs hne
      simp only [Vals.putAll, List.setIfInBounds_toArray, List.set_cons_zero, List.set_cons_succ]
      have m5 := hBM.cell 5
      have fm5 := hBM.frozen 5
      go_wp2_with fail
      have hBS6 : Blk (X5.setCell ⟨gM, 5, none⟩ (.slice none 0 0)) gS 28 (sV s) := hBS.far (Ne.symm hneq) _ _
      have hBM6 := hBM.set 5 (.slice none 0 0)
      have hsn6 : Since X3 (X5.setCell ⟨gM, 5, none⟩ (.slice none 0 0)) := ⟨hsn5.1.setCell hgM _, by simpa using hsn5.2⟩
      obtain ⟨X6, hX6⟩ : ∃ X6, X5.setCell ⟨gM, 5, none⟩ (.slice none 0 0) = X6 := ⟨_, rfl⟩
      rw [hX6] at hBS6 hBM6 hsn6 ⊢
      clear hX6 m5 fm5 hBM hBS hsn5
      have hMz := hBM6.lt
      have hSz := hBS6.lt
      have hz3 := hsn6.2
      obtain ⟨z, hz⟩ : ∃ z, X6.heap.size = z := ⟨_, rfl⟩
      rw [hz] at hMz hSz hz3
      obtain ⟨ti, hti, hi1⟩ := Option.map_eq_some_iff.1 Try.infoTide2
      simp only [Prod.mk.injEq] at hi1
      obtain ⟨hz0, hz1, hz2⟩ := hi1
      have HI := Lib.hid hti
      have HZ0 := Lib.hid hz0
      have HZ1 := Lib.hid hz1
      have HZ2 := Lib.hid hz2
      clear hti hz0 hz1 hz2
      go_loopw [12, 13] (fun i _ wr => ∃ (k : Nat) (v : Value) (p0 p1 e0 e1 : Int), k ≤ b.ts.length ∧ i = .int .i64 k ∧ Since X3 wr ∧ Blk wr gM 26 #[.int .i64 p0, .int .i64 p1, .int .i64 b.mlo, .int .i64 b.mhi, .int .i64 b.bite, v] ∧ Blk wr gS 28 #[.int .i64 e0, .int .i64 e1, .int .i64 s.sink] ∧ z ≤ wr.heap.size ∧ Hid (wr.ownsRow z 67 5 v k (tidVals ((nrTs b s l2 ky).take k))) ∧ Hid (0 < k → p0 = max b.slo (SL - ky) ∧ p1 = min b.shi (SL + ky) ∧ e0 = max s.dlo (DR - ky) ∧ e1 = min s.dhi (DR + ky))) (fun i _ _ => b.ts.length - (intOf i).toNat)
      case atStart => exact ⟨0, _, _, _, _, _, Nat.zero_le _, rfl, hsn6, hBM6, hBS6, by omega, World.ownsRow_nil _ _ _ _, fun h => absurd h (by omega)⟩
      case round =>
        obtain ⟨k, v, p0, p1, e0, e1, hk7, rfl, hsn, hM, hSS, hsz, HO, HP⟩ := hrel
        have HEr := Lib.hid (HE3.out.keep hsn.1)
        by_cases hlt : k < b.ts.length
        · obtain ⟨ad, hA, _⟩ := HEr.out.e.ts.get hlt
          subst hA
          obtain ⟨he, wn, hT, hNI, hhe0, hhe1, hwn0, hwn1⟩ := HTR.out k hlt
          have HT := Lib.hid hT
          have HNI := Lib.hid (hNI hlt ky)
          clear hT hNI HP
          have hto := hB.ts k hlt
          have hh0 := hto.h0
          have hh2 := hto.h2
          obtain ⟨⟨⟨c0, c1, c2, c3, c4, c5⟩, ⟨d0, d1, d2⟩, sx, _, _, _⟩, _, ⟨r0, r1⟩, _⟩ := HEr.out
          rw [HX.out] at sx
          have x0 := sx 0 _ rfl
          have x1 := sx 1 _ rfl
          have x2 := sx 2 _ rfl
          clear sx
          go_wp2_with fail
          refine (truth_c2 b s (some ad) c k P2 l2 cz _ HEr.out.e.ts hB HSO.out hlt HEr.out.u ho2 HT.out).mono ?_
          rintro e w3 ⟨rfl, hb⟩
          clear c0 c1 c2 c3 c4 c5 d0 d1 d2 r0 r1 x0 x1 x2
          have hbn := hb.alloc hb.size (.cells (trV SL DR he wn) 45)
          have hT10 : C4 w3.heap.size SL DR he wn (w3.alloc (.cells (trV SL DR he wn) 45)) := (Blk.new w3 45 (trV SL DR he wn)).tr
          have hgT := hb.size
          have hM10 := hM.keep hbn
          have hS10 := hSS.keep hbn
          have hO10 := Lib.hid (own_keep HO.out hbn)
          have hsn10 := hsn.keep hbn
          have hsz10 := Nat.le_trans hsz hbn.size
          have HOT : Hid (∀ q, Value.ownBlock v = some q → q < w3.heap.size) := fun q hq => by
            have := (HO.out.lt q hq).2
            omega
          clear hb hbn
          go_wp2_with fail
          obtain ⟨gT, hgTe⟩ : ∃ gT, w3.heap.size = gT := ⟨_, rfl⟩
          rw [hgTe] at hT10 hgT HOT ⊢
          obtain ⟨X10, hX10⟩ : ∃ X10, w3.alloc (.cells (trV SL DR he wn) 45) = X10 := ⟨_, rfl⟩
          rw [hX10] at hT10 hM10 hS10 hO10 hsn10 hsz10 ⊢
          clear hX10 hgTe
          have hMT : gM ≠ gT := by omega
          have hST : gS ≠ gT := by omega
          refine Vals9.region (N11 X3 gM gS gT z #[.int .i64 p0, .int .i64 p1, .int .i64 b.mlo, .int .i64 b.mhi, .int .i64 b.bite, v] #[.int .i64 (max b.slo (SL - ky)), .int .i64 (min b.shi (SL + ky)), .int .i64 b.mlo, .int .i64 b.mhi, .int .i64 b.bite, v] #[.int .i64 e0, .int .i64 e1, .int .i64 s.sink] #[.int .i64 (max s.dlo (DR - ky)), .int .i64 (min s.dhi (DR + ky)), .int .i64 s.sink] SL DR he wn v k (tidVals ((nrTs b s l2 ky).take k))) [some 59, some 60, some 61, some 62, some 63, some 64, some 65, some 66, some 67, some 68, some 69, some 70, some 71, none, some 72, none] [.is (.pointer (some ⟨w.heap.size, 0, none⟩)), .is (.agg #[.int .i64 b.slo, .int .i64 b.shi]), .is (.pointer (some ⟨gT, 0, none⟩)), .is (.int .i64 SL), .is (.int .i64 ky), .is (.agg #[.int .i64 (max b.slo (SL - ky)), .int .i64 (min b.shi (SL + ky))]), .is (.pointer (some ⟨w.heap.size + 1, 0, none⟩)), .is (.agg #[.int .i64 s.dlo, .int .i64 s.dhi]), .is (.pointer (some ⟨gT, 1, none⟩)), .is (.int .i64 DR), .is (.int .i64 ky), .is (.agg #[.int .i64 (max s.dlo (DR - ky)), .int .i64 (min s.dhi (DR + ky))]), .is (.pointer (some ⟨gM, 0, none⟩)), .any, .is (.pointer (some ⟨gS, 0, none⟩)), .any] (by kernel_rfl) (by kernel_rfl) (by kernel_rfl) (by kernel_rfl) (by kernel_rfl) (by kernel_rfl) (N11.start hsn10 hM10 hS10 hT10 hsz10 hO10.out) ?_ ?_
          · refine Vals9.Steps.run (by kernel_rfl) ?_ ?_
            · intro a W σ hJ pre K hK
              have e3 : a.tmps.getD 3 undef = .pointer (some ⟨w.heap.size, 0, none⟩) := pre.2.2 3 _ (by kernel_rfl) rfl
              clear pre
              simp only [Array.getD_eq_getD_getElem?] at e3
              go_simp
              exact hK _ hJ
            refine Vals9.Steps.run (by kernel_rfl) ?_ ?_
            · intro a W σ hJ pre K hK
              have e59 : a.tmps.getD 59 undef = .pointer (some ⟨w.heap.size, 0, none⟩) := pre.1 0 59 _ (by kernel_rfl) rfl rfl
              clear pre
              simp only [Array.getD_eq_getD_getElem?] at e59
              have hS9 := hJ
              obtain ⟨⟨⟨s0, s1, s2, s3, s4, s5⟩, ⟨d0, d1, d2⟩, sx, ts, us, sn⟩, uu, ⟨r0, r1⟩, pq⟩ := HE3.out.keep hS9.sn.1
              obtain ⟨t0, t1, t2, t3⟩ := hS9.t
              go_simp
              exact hK _ hJ
            refine Vals9.Steps.run (by kernel_rfl) ?_ ?_
            · intro a W σ hJ pre K hK
              have e13 : a.tmps.getD 13 undef = .pointer (some ⟨gT, 0, none⟩) := pre.2.2 13 _ (by kernel_rfl) rfl
              clear pre
              simp only [Array.getD_eq_getD_getElem?] at e13
              go_simp
              exact hK _ hJ
            refine Vals9.Steps.run (by kernel_rfl) ?_ ?_
            · intro a W σ hJ pre K hK
              have e61 : a.tmps.getD 61 undef = .pointer (some ⟨gT, 0, none⟩) := pre.1 2 61 _ (by kernel_rfl) rfl rfl
              clear pre
              simp only [Array.getD_eq_getD_getElem?] at e61
              have hS9 := hJ
              obtain ⟨⟨⟨s0, s1, s2, s3, s4, s5⟩, ⟨d0, d1, d2⟩, sx, ts, us, sn⟩, uu, ⟨r0, r1⟩, pq⟩ := HE3.out.keep hS9.sn.1
              obtain ⟨t0, t1, t2, t3⟩ := hS9.t
              go_simp
              exact hK _ hJ
            refine Vals9.Steps.run (by kernel_rfl) ?_ ?_
            · intro a W σ hJ pre K hK
              have e9 : a.tmps.getD 9 undef = .int .i64 ky := pre.2.2 9 _ (by kernel_rfl) rfl
              clear pre
              simp only [Array.getD_eq_getD_getElem?] at e9
              go_simp
              exact hK _ hJ
            refine Vals9.Steps.run (by kernel_rfl) ?_ ?_
            · intro a W σ hJ pre K hK
              have e60 : a.tmps.getD 60 undef = .agg #[.int .i64 b.slo, .int .i64 b.shi] := pre.1 1 60 _ (by kernel_rfl) rfl rfl
              have e62 : a.tmps.getD 62 undef = .int .i64 SL := pre.1 3 62 _ (by kernel_rfl) rfl rfl
              have e63 : a.tmps.getD 63 undef = .int .i64 ky := pre.1 4 63 _ (by kernel_rfl) rfl rfl
              clear pre
              simp only [Array.getD_eq_getD_getElem?] at e60 e62 e63
              go_simp
              refine (near_c _ _ _ _ _ (by omega) (by omega) (by omega) (by omega)).mono ?_
              rintro e w' ⟨rfl, hb'⟩
              exact hK _ (hJ.keep hb')
            refine Vals9.Steps.run (by kernel_rfl) ?_ ?_
            · intro a W σ hJ pre K hK
              have e4 : a.tmps.getD 4 undef = .pointer (some ⟨w.heap.size + 1, 0, none⟩) := pre.2.2 4 _ (by kernel_rfl) rfl
              clear pre
              simp only [Array.getD_eq_getD_getElem?] at e4
              go_simp
              exact hK _ hJ
            refine Vals9.Steps.run (by kernel_rfl) ?_ ?_
            · intro a W σ hJ pre K hK
              have e65 : a.tmps.getD 65 undef = .pointer (some ⟨w.heap.size + 1, 0, none⟩) := pre.1 6 65 _ (by kernel_rfl) rfl rfl
              clear pre
              simp only [Array.getD_eq_getD_getElem?] at e65
              have hS9 := hJ
              obtain ⟨⟨⟨s0, s1, s2, s3, s4, s5⟩, ⟨d0, d1, d2⟩, sx, ts, us, sn⟩, uu, ⟨r0, r1⟩, pq⟩ := HE3.out.keep hS9.sn.1
              obtain ⟨t0, t1, t2, t3⟩ := hS9.t
              go_simp
              exact hK _ hJ
            refine Vals9.Steps.run (by kernel_rfl) ?_ ?_
            · intro a W σ hJ pre K hK
              have e13 : a.tmps.getD 13 undef = .pointer (some ⟨gT, 0, none⟩) := pre.2.2 13 _ (by kernel_rfl) rfl
              clear pre
              simp only [Array.getD_eq_getD_getElem?] at e13
              go_simp
              exact hK _ hJ
            refine Vals9.Steps.run (by kernel_rfl) ?_ ?_
            · intro a W σ hJ pre K hK
              have e67 : a.tmps.getD 67 undef = .pointer (some ⟨gT, 1, none⟩) := pre.1 8 67 _ (by kernel_rfl) rfl rfl
              clear pre
              simp only [Array.getD_eq_getD_getElem?] at e67
              have hS9 := hJ
              obtain ⟨⟨⟨s0, s1, s2, s3, s4, s5⟩, ⟨d0, d1, d2⟩, sx, ts, us, sn⟩, uu, ⟨r0, r1⟩, pq⟩ := HE3.out.keep hS9.sn.1
              obtain ⟨t0, t1, t2, t3⟩ := hS9.t
              go_simp
              exact hK _ hJ
            refine Vals9.Steps.run (by kernel_rfl) ?_ ?_
            · intro a W σ hJ pre K hK
              have e9 : a.tmps.getD 9 undef = .int .i64 ky := pre.2.2 9 _ (by kernel_rfl) rfl
              clear pre
              simp only [Array.getD_eq_getD_getElem?] at e9
              go_simp
              exact hK _ hJ
            refine Vals9.Steps.run (by kernel_rfl) ?_ ?_
            · intro a W σ hJ pre K hK
              have e66 : a.tmps.getD 66 undef = .agg #[.int .i64 s.dlo, .int .i64 s.dhi] := pre.1 7 66 _ (by kernel_rfl) rfl rfl
              have e68 : a.tmps.getD 68 undef = .int .i64 DR := pre.1 9 68 _ (by kernel_rfl) rfl rfl
              have e69 : a.tmps.getD 69 undef = .int .i64 ky := pre.1 10 69 _ (by kernel_rfl) rfl rfl
              clear pre
              simp only [Array.getD_eq_getD_getElem?] at e66 e68 e69
              go_simp
              refine (near_c _ _ _ _ _ (by omega) (by omega) (by omega) (by omega)).mono ?_
              rintro e w' ⟨rfl, hb'⟩
              exact hK _ (hJ.keep hb')
            refine Vals9.Steps.run (by kernel_rfl) ?_ ?_
            · intro a W σ hJ pre K hK
              have e10 : a.tmps.getD 10 undef = ptrOf gM := pre.2.2 10 _ (by kernel_rfl) rfl
              clear pre
              simp only [Array.getD_eq_getD_getElem?] at e10
              go_simp
              exact hK _ hJ
            refine Vals9.Steps.mark (by kernel_rfl) ?_ ?_
            · intro a W σ hJ hn pre K hK
              have e64 : a.tmps.getD 64 undef = .agg #[.int .i64 (max b.slo (SL - ky)), .int .i64 (min b.shi (SL + ky))] := pre.1 5 64 _ (by kernel_rfl) rfl rfl
              have e71 : a.tmps.getD 71 undef = .pointer (some ⟨gM, 0, none⟩) := pre.1 12 71 _ (by kernel_rfl) rfl rfl
              simp only [Array.getD_eq_getD_getElem?] at e64 e71
              have hm := hJ.m
              simp only [hn, Option.isSome_none, Bool.false_eq_true, if_false] at hm
              have z0 := hm.cell 0
              have z1 := hm.cell 1
              have f0 := hm.frozen 0
              have f1 := hm.frozen 1
              go_simp
              exact hK _ _ (hJ.st13 hn hgM hMz (Ne.symm hneq) hMT _ _ undef rfl)
            refine Vals9.Steps.run (by kernel_rfl) ?_ ?_
            · intro a W σ hJ pre K hK
              have e11 : a.tmps.getD 11 undef = ptrOf gS := pre.2.2 11 _ (by kernel_rfl) rfl
              clear pre
              simp only [Array.getD_eq_getD_getElem?] at e11
              go_simp
              exact hK _ hJ
            refine Vals9.Steps.mark (by kernel_rfl) ?_ ?_
            · intro a W σ hJ hn pre K hK
              have e70 : a.tmps.getD 70 undef = .agg #[.int .i64 (max s.dlo (DR - ky)), .int .i64 (min s.dhi (DR + ky))] := pre.1 11 70 _ (by kernel_rfl) rfl rfl
              have e72 : a.tmps.getD 72 undef = .pointer (some ⟨gS, 0, none⟩) := pre.1 14 72 _ (by kernel_rfl) rfl rfl
              simp only [Array.getD_eq_getD_getElem?] at e70 e72
              have hm := hJ.s
              simp only [hn, Option.isSome_none, Bool.false_eq_true, if_false] at hm
              have z0 := hm.cell 0
              have z1 := hm.cell 1
              have f0 := hm.frozen 0
              have f1 := hm.frozen 1
              go_simp
              exact hK _ _ (hJ.st15 hn hgS hSz (Ne.symm hneq) hST _ _ undef rfl)
            exact Vals9.Steps.nil
          · intro X11 σ hJ1
            simp only [Vals9.All]
            intro v13 h13 v15 h15
            have hm1 := hJ1.m
            have hs1 := hJ1.s
            rw [h13] at hm1
            rw [h15] at hs1
            simp only [Option.isSome_some, if_true] at hm1 hs1
            simp only [Vals.putAll, List.setIfInBounds_toArray, List.set_cons_zero, List.set_cons_succ]
            clear hM10 hS10 hT10 hO10 hsn10 hsz10
            go_wp2_with fail
            refine Vals9.region (N12 X3 gM gS gT z #[.int .i64 (max b.slo (SL - ky)), .int .i64 (min b.shi (SL + ky)), .int .i64 b.mlo, .int .i64 b.mhi, .int .i64 b.bite, v] #[.int .i64 (max s.dlo (DR - ky)), .int .i64 (min s.dhi (DR + ky)), .int .i64 s.sink] SL DR he wn v k (tidVals ((nrTs b s l2 ky).take k)) (nwV b.ts[k] he wn ky)) [some 73, some 74, some 75, some 76, some 77, some 78, some 79, some 80, some 81, some 82, some 83, some 84, some 85, some 86, some 87, some 88, some 89, some 90, some 91, some 92, some 93, some 94, some 95, some 96, some 97, some 98, some 99, some 100, some 101, some 102, some 103, some 104, none] [.is (.pointer (some ⟨gM, 5, none⟩)), .any, .is (.pointer (some ⟨w.heap.size, 5, none⟩)), .is (.slice (some ad) b.ts.length c), .is (.int .i64 (k : Int)), .is (.pointer (some (ad.add (k * 5)))), .is (.pointer (some (ad.add (k * 5)))), .is (.int .i64 b.ts[k].day), .is (.pointer (some ⟨w.heap.size, 5, none⟩)), .is (.slice (some ad) b.ts.length c), .is (.int .i64 (k : Int)), .is (.pointer (some (ad.add (k * 5)))), .is (.pointer (some (at_ (ad.add (k * 5)) 1))), .is (.agg #[.int .i64 b.ts[k].hlo, .int .i64 b.ts[k].hhi]), .is (.pointer (some ⟨gT, 2, none⟩)), .is (.int .i64 he), .is (.int .i64 ky), .is (.agg #[.int .i64 (max b.ts[k].hlo (he - ky)), .int .i64 (min b.ts[k].hhi (he + ky))]), .is (.pointer (some ⟨w.heap.size, 5, none⟩)), .is (.slice (some ad) b.ts.length c), .is (.int .i64 (k : Int)), .is (.pointer (some (ad.add (k * 5)))), .is (.pointer (some (at_ (ad.add (k * 5)) 3))), .is (.agg #[.int .i64 b.ts[k].wlo, .int .i64 b.ts[k].whi]), .is (.pointer (some ⟨gT, 3, none⟩)), .is (.int .i64 wn), .is (.int .i64 ky), .is (.agg #[.int .i64 (max b.ts[k].wlo (wn - ky)), .int .i64 (min b.ts[k].whi (wn + ky))]), .is (.agg (nwV b.ts[k] he wn ky)), .any, .any, .is (.pointer (some ⟨gM, 5, none⟩)), .any] (by kernel_rfl) (by kernel_rfl) (by kernel_rfl) (by kernel_rfl) (by kernel_rfl) (by kernel_rfl) (N12.start hJ1.sn hm1 hs1 hJ1.t hJ1.sz hJ1.o) ?_ ?_
            · refine Vals9.Steps.run (by kernel_rfl) ?_ ?_
              · intro a W σ hJ pre K hK
                have e10 : a.tmps.getD 10 undef = ptrOf gM := pre.2.2 10 _ (by kernel_rfl) rfl
                clear pre
                simp only [Array.getD_eq_getD_getElem?] at e10
                go_simp
                exact hK _ hJ
              refine Vals9.Steps.mark (by kernel_rfl) ?_ ?_
              · intro a W σ hJ hn pre K hK
                have e73 : a.tmps.getD 73 undef = .pointer (some ⟨gM, 5, none⟩) := pre.1 0 73 _ (by kernel_rfl) rfl rfl
                simp only [Array.getD_eq_getD_getElem?] at e73
                have z5 := (hJ.early hn).cell 5
                go_simp
                exact hK _ _ hJ.load
              refine Vals9.Steps.run (by kernel_rfl) ?_ ?_
              · intro a W σ hJ pre K hK
                have e3 : a.tmps.getD 3 undef = .pointer (some ⟨w.heap.size, 0, none⟩) := pre.2.2 3 _ (by kernel_rfl) rfl
                clear pre
                simp only [Array.getD_eq_getD_getElem?] at e3
                go_simp
                exact hK _ hJ
              refine Vals9.Steps.run (by kernel_rfl) ?_ ?_
              · intro a W σ hJ pre K hK
                have e75 : a.tmps.getD 75 undef = .pointer (some ⟨w.heap.size, 5, none⟩) := pre.1 2 75 _ (by kernel_rfl) rfl rfl
                clear pre
                simp only [Array.getD_eq_getD_getElem?] at e75
                have hS9 := hJ
                obtain ⟨⟨⟨s0, s1, s2, s3, s4, s5⟩, ⟨d0, d1, d2⟩, sx, ts, us, sn⟩, uu, ⟨r0, r1⟩, pq⟩ := HE3.out.keep hS9.sn.1
                obtain ⟨ad', hA', hat'⟩ := ts.get hlt
                obtain rfl : ad = ad' := by simpa using hA'
                obtain ⟨q0, q1, q2, q3, q4⟩ := hat'
                obtain ⟨t0, t1, t2, t3⟩ := hS9.t
                go_simp
                exact hK _ hJ
              refine Vals9.Steps.run (by kernel_rfl) ?_ ?_
              · intro a W σ hJ pre K hK
                have e12 : a.tmps.getD 12 undef = .int .i64 (k : Int) := pre.2.2 12 _ (by kernel_rfl) rfl
                clear pre
                simp only [Array.getD_eq_getD_getElem?] at e12
                go_simp
                exact hK _ hJ
              refine Vals9.Steps.run (by kernel_rfl) ?_ ?_
              · intro a W σ hJ pre K hK
                have e76 : a.tmps.getD 76 undef = .slice (some ad) b.ts.length c := pre.1 3 76 _ (by kernel_rfl) rfl rfl
                have e77 : a.tmps.getD 77 undef = .int .i64 (k : Int) := pre.1 4 77 _ (by kernel_rfl) rfl rfl
                clear pre
                simp only [Array.getD_eq_getD_getElem?] at e76 e77
                go_simp
                exact hK _ hJ
              refine Vals9.Steps.run (by kernel_rfl) ?_ ?_
              · intro a W σ hJ pre K hK
                have e78 : a.tmps.getD 78 undef = .pointer (some (ad.add (k * 5))) := pre.1 5 78 _ (by kernel_rfl) rfl rfl
                clear pre
                simp only [Array.getD_eq_getD_getElem?] at e78
                go_simp
                exact hK _ hJ
              refine Vals9.Steps.run (by kernel_rfl) ?_ ?_
              · intro a W σ hJ pre K hK
                have e79 : a.tmps.getD 79 undef = .pointer (some (ad.add (k * 5))) := pre.1 6 79 _ (by kernel_rfl) rfl rfl
                clear pre
                simp only [Array.getD_eq_getD_getElem?] at e79
                have hS9 := hJ
                obtain ⟨⟨⟨s0, s1, s2, s3, s4, s5⟩, ⟨d0, d1, d2⟩, sx, ts, us, sn⟩, uu, ⟨r0, r1⟩, pq⟩ := HE3.out.keep hS9.sn.1
                obtain ⟨ad', hA', hat'⟩ := ts.get hlt
                obtain rfl : ad = ad' := by simpa using hA'
                obtain ⟨q0, q1, q2, q3, q4⟩ := hat'
                obtain ⟨t0, t1, t2, t3⟩ := hS9.t
                go_simp
                exact hK _ hJ
              refine Vals9.Steps.run (by kernel_rfl) ?_ ?_
              · intro a W σ hJ pre K hK
                have e3 : a.tmps.getD 3 undef = .pointer (some ⟨w.heap.size, 0, none⟩) := pre.2.2 3 _ (by kernel_rfl) rfl
                clear pre
                simp only [Array.getD_eq_getD_getElem?] at e3
                go_simp
                exact hK _ hJ
              refine Vals9.Steps.run (by kernel_rfl) ?_ ?_
              · intro a W σ hJ pre K hK
                have e81 : a.tmps.getD 81 undef = .pointer (some ⟨w.heap.size, 5, none⟩) := pre.1 8 81 _ (by kernel_rfl) rfl rfl
                clear pre
                simp only [Array.getD_eq_getD_getElem?] at e81
                have hS9 := hJ
                obtain ⟨⟨⟨s0, s1, s2, s3, s4, s5⟩, ⟨d0, d1, d2⟩, sx, ts, us, sn⟩, uu, ⟨r0, r1⟩, pq⟩ := HE3.out.keep hS9.sn.1
                obtain ⟨ad', hA', hat'⟩ := ts.get hlt
                obtain rfl : ad = ad' := by simpa using hA'
                obtain ⟨q0, q1, q2, q3, q4⟩ := hat'
                obtain ⟨t0, t1, t2, t3⟩ := hS9.t
                go_simp
                exact hK _ hJ
              refine Vals9.Steps.run (by kernel_rfl) ?_ ?_
              · intro a W σ hJ pre K hK
                have e12 : a.tmps.getD 12 undef = .int .i64 (k : Int) := pre.2.2 12 _ (by kernel_rfl) rfl
                clear pre
                simp only [Array.getD_eq_getD_getElem?] at e12
                go_simp
                exact hK _ hJ
              refine Vals9.Steps.run (by kernel_rfl) ?_ ?_
              · intro a W σ hJ pre K hK
                have e82 : a.tmps.getD 82 undef = .slice (some ad) b.ts.length c := pre.1 9 82 _ (by kernel_rfl) rfl rfl
                have e83 : a.tmps.getD 83 undef = .int .i64 (k : Int) := pre.1 10 83 _ (by kernel_rfl) rfl rfl
                clear pre
                simp only [Array.getD_eq_getD_getElem?] at e82 e83
                go_simp
                exact hK _ hJ
              refine Vals9.Steps.run (by kernel_rfl) ?_ ?_
              · intro a W σ hJ pre K hK
                have e84 : a.tmps.getD 84 undef = .pointer (some (ad.add (k * 5))) := pre.1 11 84 _ (by kernel_rfl) rfl rfl
                clear pre
                simp only [Array.getD_eq_getD_getElem?] at e84
                go_simp
                exact hK _ hJ
              refine Vals9.Steps.run (by kernel_rfl) ?_ ?_
              · intro a W σ hJ pre K hK
                have e85 : a.tmps.getD 85 undef = .pointer (some (at_ (ad.add (k * 5)) 1)) := pre.1 12 85 _ (by kernel_rfl) rfl rfl
                clear pre
                simp only [Array.getD_eq_getD_getElem?] at e85
                have hS9 := hJ
                obtain ⟨⟨⟨s0, s1, s2, s3, s4, s5⟩, ⟨d0, d1, d2⟩, sx, ts, us, sn⟩, uu, ⟨r0, r1⟩, pq⟩ := HE3.out.keep hS9.sn.1
                obtain ⟨ad', hA', hat'⟩ := ts.get hlt
                obtain rfl : ad = ad' := by simpa using hA'
                obtain ⟨q0, q1, q2, q3, q4⟩ := hat'
                obtain ⟨t0, t1, t2, t3⟩ := hS9.t
                go_simp
                exact hK _ hJ
              refine Vals9.Steps.run (by kernel_rfl) ?_ ?_
              · intro a W σ hJ pre K hK
                have e13 : a.tmps.getD 13 undef = .pointer (some ⟨gT, 0, none⟩) := pre.2.2 13 _ (by kernel_rfl) rfl
                clear pre
                simp only [Array.getD_eq_getD_getElem?] at e13
                go_simp
                exact hK _ hJ
              refine Vals9.Steps.run (by kernel_rfl) ?_ ?_
              · intro a W σ hJ pre K hK
                have e87 : a.tmps.getD 87 undef = .pointer (some ⟨gT, 2, none⟩) := pre.1 14 87 _ (by kernel_rfl) rfl rfl
                clear pre
                simp only [Array.getD_eq_getD_getElem?] at e87
                have hS9 := hJ
                obtain ⟨⟨⟨s0, s1, s2, s3, s4, s5⟩, ⟨d0, d1, d2⟩, sx, ts, us, sn⟩, uu, ⟨r0, r1⟩, pq⟩ := HE3.out.keep hS9.sn.1
                obtain ⟨ad', hA', hat'⟩ := ts.get hlt
                obtain rfl : ad = ad' := by simpa using hA'
                obtain ⟨q0, q1, q2, q3, q4⟩ := hat'
                obtain ⟨t0, t1, t2, t3⟩ := hS9.t
                go_simp
                exact hK _ hJ
              refine Vals9.Steps.run (by kernel_rfl) ?_ ?_
              · intro a W σ hJ pre K hK
                have e9 : a.tmps.getD 9 undef = .int .i64 ky := pre.2.2 9 _ (by kernel_rfl) rfl
                clear pre
                simp only [Array.getD_eq_getD_getElem?] at e9
                go_simp
                exact hK _ hJ
              refine Vals9.Steps.run (by kernel_rfl) ?_ ?_
              · intro a W σ hJ pre K hK
                have e86 : a.tmps.getD 86 undef = .agg #[.int .i64 b.ts[k].hlo, .int .i64 b.ts[k].hhi] := pre.1 13 86 _ (by kernel_rfl) rfl rfl
                have e88 : a.tmps.getD 88 undef = .int .i64 he := pre.1 15 88 _ (by kernel_rfl) rfl rfl
                have e89 : a.tmps.getD 89 undef = .int .i64 ky := pre.1 16 89 _ (by kernel_rfl) rfl rfl
                clear pre
                simp only [Array.getD_eq_getD_getElem?] at e86 e88 e89
                go_simp
                refine (near_c _ _ _ _ _ (by omega) (by omega) (by omega) (by omega)).mono ?_
                rintro e w' ⟨rfl, hb'⟩
                exact hK _ (hJ.keep hb')
              refine Vals9.Steps.run (by kernel_rfl) ?_ ?_
              · intro a W σ hJ pre K hK
                have e3 : a.tmps.getD 3 undef = .pointer (some ⟨w.heap.size, 0, none⟩) := pre.2.2 3 _ (by kernel_rfl) rfl
                clear pre
                simp only [Array.getD_eq_getD_getElem?] at e3
                go_simp
                exact hK _ hJ
              refine Vals9.Steps.run (by kernel_rfl) ?_ ?_
              · intro a W σ hJ pre K hK
                have e91 : a.tmps.getD 91 undef = .pointer (some ⟨w.heap.size, 5, none⟩) := pre.1 18 91 _ (by kernel_rfl) rfl rfl
                clear pre
                simp only [Array.getD_eq_getD_getElem?] at e91
                have hS9 := hJ
                obtain ⟨⟨⟨s0, s1, s2, s3, s4, s5⟩, ⟨d0, d1, d2⟩, sx, ts, us, sn⟩, uu, ⟨r0, r1⟩, pq⟩ := HE3.out.keep hS9.sn.1
                obtain ⟨ad', hA', hat'⟩ := ts.get hlt
                obtain rfl : ad = ad' := by simpa using hA'
                obtain ⟨q0, q1, q2, q3, q4⟩ := hat'
                obtain ⟨t0, t1, t2, t3⟩ := hS9.t
                go_simp
                exact hK _ hJ
              refine Vals9.Steps.run (by kernel_rfl) ?_ ?_
              · intro a W σ hJ pre K hK
                have e12 : a.tmps.getD 12 undef = .int .i64 (k : Int) := pre.2.2 12 _ (by kernel_rfl) rfl
                clear pre
                simp only [Array.getD_eq_getD_getElem?] at e12
                go_simp
                exact hK _ hJ
              refine Vals9.Steps.run (by kernel_rfl) ?_ ?_
              · intro a W σ hJ pre K hK
                have e92 : a.tmps.getD 92 undef = .slice (some ad) b.ts.length c := pre.1 19 92 _ (by kernel_rfl) rfl rfl
                have e93 : a.tmps.getD 93 undef = .int .i64 (k : Int) := pre.1 20 93 _ (by kernel_rfl) rfl rfl
                clear pre
                simp only [Array.getD_eq_getD_getElem?] at e92 e93
                go_simp
                exact hK _ hJ
              refine Vals9.Steps.run (by kernel_rfl) ?_ ?_
              · intro a W σ hJ pre K hK
                have e94 : a.tmps.getD 94 undef = .pointer (some (ad.add (k * 5))) := pre.1 21 94 _ (by kernel_rfl) rfl rfl
                clear pre
                simp only [Array.getD_eq_getD_getElem?] at e94
                go_simp
                exact hK _ hJ
              refine Vals9.Steps.run (by kernel_rfl) ?_ ?_
              · intro a W σ hJ pre K hK
                have e95 : a.tmps.getD 95 undef = .pointer (some (at_ (ad.add (k * 5)) 3)) := pre.1 22 95 _ (by kernel_rfl) rfl rfl
                clear pre
                simp only [Array.getD_eq_getD_getElem?] at e95
                have hS9 := hJ
                obtain ⟨⟨⟨s0, s1, s2, s3, s4, s5⟩, ⟨d0, d1, d2⟩, sx, ts, us, sn⟩, uu, ⟨r0, r1⟩, pq⟩ := HE3.out.keep hS9.sn.1
                obtain ⟨ad', hA', hat'⟩ := ts.get hlt
                obtain rfl : ad = ad' := by simpa using hA'
                obtain ⟨q0, q1, q2, q3, q4⟩ := hat'
                obtain ⟨t0, t1, t2, t3⟩ := hS9.t
                go_simp
                exact hK _ hJ
              refine Vals9.Steps.run (by kernel_rfl) ?_ ?_
              · intro a W σ hJ pre K hK
                have e13 : a.tmps.getD 13 undef = .pointer (some ⟨gT, 0, none⟩) := pre.2.2 13 _ (by kernel_rfl) rfl
                clear pre
                simp only [Array.getD_eq_getD_getElem?] at e13
                go_simp
                exact hK _ hJ
              refine Vals9.Steps.run (by kernel_rfl) ?_ ?_
              · intro a W σ hJ pre K hK
                have e97 : a.tmps.getD 97 undef = .pointer (some ⟨gT, 3, none⟩) := pre.1 24 97 _ (by kernel_rfl) rfl rfl
                clear pre
                simp only [Array.getD_eq_getD_getElem?] at e97
                have hS9 := hJ
                obtain ⟨⟨⟨s0, s1, s2, s3, s4, s5⟩, ⟨d0, d1, d2⟩, sx, ts, us, sn⟩, uu, ⟨r0, r1⟩, pq⟩ := HE3.out.keep hS9.sn.1
                obtain ⟨ad', hA', hat'⟩ := ts.get hlt
                obtain rfl : ad = ad' := by simpa using hA'
                obtain ⟨q0, q1, q2, q3, q4⟩ := hat'
                obtain ⟨t0, t1, t2, t3⟩ := hS9.t
                go_simp
                exact hK _ hJ
              refine Vals9.Steps.run (by kernel_rfl) ?_ ?_
              · intro a W σ hJ pre K hK
                have e9 : a.tmps.getD 9 undef = .int .i64 ky := pre.2.2 9 _ (by kernel_rfl) rfl
                clear pre
                simp only [Array.getD_eq_getD_getElem?] at e9
                go_simp
                exact hK _ hJ
              refine Vals9.Steps.run (by kernel_rfl) ?_ ?_
              · intro a W σ hJ pre K hK
                have e96 : a.tmps.getD 96 undef = .agg #[.int .i64 b.ts[k].wlo, .int .i64 b.ts[k].whi] := pre.1 23 96 _ (by kernel_rfl) rfl rfl
                have e98 : a.tmps.getD 98 undef = .int .i64 wn := pre.1 25 98 _ (by kernel_rfl) rfl rfl
                have e99 : a.tmps.getD 99 undef = .int .i64 ky := pre.1 26 99 _ (by kernel_rfl) rfl rfl
                clear pre
                simp only [Array.getD_eq_getD_getElem?] at e96 e98 e99
                go_simp
                refine (near_c _ _ _ _ _ (by omega) (by omega) (by omega) (by omega)).mono ?_
                rintro e w' ⟨rfl, hb'⟩
                exact hK _ (hJ.keep hb')
              refine Vals9.Steps.run (by kernel_rfl) ?_ ?_
              · intro a W σ hJ pre K hK
                have e80 : a.tmps.getD 80 undef = .int .i64 b.ts[k].day := pre.1 7 80 _ (by kernel_rfl) rfl rfl
                have e90 : a.tmps.getD 90 undef = .agg #[.int .i64 (max b.ts[k].hlo (he - ky)), .int .i64 (min b.ts[k].hhi (he + ky))] := pre.1 17 90 _ (by kernel_rfl) rfl rfl
                have e100 : a.tmps.getD 100 undef = .agg #[.int .i64 (max b.ts[k].wlo (wn - ky)), .int .i64 (min b.ts[k].whi (wn + ky))] := pre.1 27 100 _ (by kernel_rfl) rfl rfl
                clear pre
                simp only [Array.getD_eq_getD_getElem?] at e80 e90 e100
                go_simp
                exact hK _ hJ
              refine Vals9.Steps.mark (by kernel_rfl) ?_ ?_
              · intro a W σ hJ hn pre K hK
                have e101 : a.tmps.getD 101 undef = .agg (nwV b.ts[k] he wn ky) := pre.1 28 101 _ (by kernel_rfl) rfl rfl
                simp only [Array.getD_eq_getD_getElem?] at e101
                go_simp
                exact hK _ _ hJ.build
              refine Vals9.Steps.mark (by kernel_rfl) ?_ ?_
              · intro a W σ hJ hn pre K hK
                obtain ⟨v74, s74, e74⟩ := pre.2.1 1 (by kernel_rfl) rfl
                replace e74 : a.tmps.getD 74 undef = v74 := e74 74 rfl
                obtain ⟨v102, s102, e102⟩ := pre.2.1 29 (by kernel_rfl) rfl
                replace e102 : a.tmps.getD 102 undef = v102 := e102 102 rfl
                simp only [Array.getD_eq_getD_getElem?] at e74 e102
                obtain rfl := hJ.l _ s74
                obtain ⟨gn, h1, h2⟩ := hJ.b _ s102 hn
                subst h1
                have hown := hJ.o hn
                have hszX := hJ.sz
                refine wp_append_lies W (.tmp 74) (.tmp 102) 24 rfl z 67 ti (.agg #[.int .i64 0, .int .i64 0, .int .i64 0, .int .i64 0, .int .i64 0]) 5 40 Try.underlying24 HI.out HZ0.out HZ1.out HZ2.out rfl (by decide) _ k _ (by simpa [Act.eval, Array.getD_eq_getD_getElem?] using e74) hown ⟨gn, 0, none⟩ 1 1 (nwV b.ts[k] he wn ky).toList (by simpa [Act.eval, Array.getD_eq_getD_getElem?] using e102) rfl (World.news_of_block h2) (by intro u hu; simp at hu; rcases hu with rfl | rfl | rfl | rfl | rfl <;> rfl) (by decide) (by unfold maxLen; omega) (by omega) hszX _ rfl ?_
                intro g' cap' w' k1 k2 _ _
                exact hK _ _ (hJ.append s74 hn hz3 hMz hSz (fun q hq => by have := (HOT.out q hq); omega) k1 k2)
              refine Vals9.Steps.run (by kernel_rfl) ?_ ?_
              · intro a W σ hJ pre K hK
                have e10 : a.tmps.getD 10 undef = ptrOf gM := pre.2.2 10 _ (by kernel_rfl) rfl
                clear pre
                simp only [Array.getD_eq_getD_getElem?] at e10
                go_simp
                exact hK _ hJ
              refine Vals9.Steps.mark (by kernel_rfl) ?_ ?_
              · intro a W σ hJ hn pre K hK
                obtain ⟨v103, s103, e103⟩ := pre.2.1 30 (by kernel_rfl) rfl
                replace e103 : a.tmps.getD 103 undef = v103 := e103 103 rfl
                have e104 : a.tmps.getD 104 undef = .pointer (some ⟨gM, 5, none⟩) := pre.1 31 104 _ (by kernel_rfl) rfl rfl
                simp only [Array.getD_eq_getD_getElem?] at e103 e104
                obtain ⟨g', cap', h1, h2⟩ := hJ.r _ s103
                subst h1
                have hm := hJ.m
                rw [hn] at hm
                have z5 := hm.cell 5
                have f5 := hm.frozen 5
                go_simp
                exact hK _ _ (hJ.store hgM hMz (Ne.symm hneq) hMT s103 hn undef)
              exact Vals9.Steps.nil
            · intro X12 σ2 hJ2
              simp only [Vals9.All]
              intro v1 g1 v29 g29 v30 g30 v32 g32
              obtain ⟨gr, cap, rfl, hrow⟩ := hJ2.r v30 g30
              have hm2 := hJ2.m
              rw [g32, g30] at hm2
              have hs2 := hJ2.s
              have hsn2 := hJ2.sn
              have hsz2 := hJ2.sz
              have HO2 : Hid (X12.ownsRow z 67 5 (.slice (some ⟨gr, 0, none⟩) (k + 1) cap) (k + 1) (tidVals ((nrTs b s l2 ky).take (k + 1)))) := by
                show World.ownsRow _ _ _ _ _ _ _
                rw [nrTs_take hlt, tidVals_snoc, HNI.out]
                exact hrow
              simp only [Vals.putAll, List.setIfInBounds_toArray, List.set_cons_zero, List.set_cons_succ]
              clear hJ1 hJ2 hm1 hs1 hrow
              go_wp2_with fail
              go_roundw
              case rel => exact ⟨k + 1, _, _, _, _, _, by omega, by go_num, hsn2, hm2, hs2, hsz2, HO2, fun _ => ⟨rfl, rfl, rfl, rfl⟩⟩
              case measure => simp [intOf]; omega
        · obtain ⟨gr, cap, rfl, _, _⟩ := HO.out.form (by omega)
          obtain rfl : k = b.ts.length := by omega
          obtain ⟨rfl, rfl, rfl, rfl⟩ := HP.out (by omega)
          have HOW : World.ownsRow wr z 67 5 (.slice (some ⟨gr, 0, none⟩) b.ts.length cap) b.ts.length (tidVals (nrTs b s l2 ky)) := by
            have h := HO.out
            rw [HTK.out] at h
            exact h
          have HL := Lib.hid (HLA.out gr cap)
          have HST := Lib.hid (HSTA.out gr cap)
          have HC2 := Lib.hid (HC2A.out gr cap)
          clear HO HP HLA HSTA HC2A HTR HTU
          obtain ⟨⟨⟨c0, c1, c2, c3, c4, c5⟩, ⟨d0, d1, d2⟩, _, _, _, _⟩, _, ⟨r0, r1⟩, _⟩ := HEr.out
          go_upto_region 13 with fail
          refine wp_region_list ?_
          refine wpList_plain rfl (fun K hK => ?_)
          go_simp
          refine hK _ _ ?_
          clear hK K
          refine wpList_plain rfl (fun K hK => ?_)
          go_simp
          refine hK _ _ ?_
          clear hK K
          refine wpList_plain rfl (fun K hK => ?_)
          go_simp
          refine hK _ _ ?_
          clear hK K
          refine wpList_plain rfl (fun K hK => ?_)
          go_simp
          refine hK _ _ ?_
          clear hK K
          refine wpList_plain rfl (fun K hK => ?_)
          go_simp
          refine hK _ _ ?_
          clear hK K
          refine wpList_two .max _ _ 3 rfl (.int .i64 (max (-2000000) (b.mlo - ky))) rfl (by
                intro K hK
                rcases (by omega : (-2000000 < b.mlo - ky ∧ max (-2000000) (b.mlo - ky) = b.mlo - ky) ∨ (¬ -2000000 < b.mlo - ky ∧ max (-2000000) (b.mlo - ky) = -2000000)) with ⟨h2, hn⟩ | ⟨h2, hn⟩
                all_goals
                  rw [hn] at hK
                  go_simp
                  exact hK) ?_
          refine wpList_plain rfl (fun K hK => ?_)
          go_simp
          refine hK _ _ ?_
          clear hK K
          refine wpList_plain rfl (fun K hK => ?_)
          go_simp
          refine hK _ _ ?_
          clear hK K
          refine wpList_plain rfl (fun K hK => ?_)
          go_simp
          refine hK _ _ ?_
          clear hK K
          refine wpList_plain rfl (fun K hK => ?_)
          go_simp
          refine hK _ _ ?_
          clear hK K
          refine wpList_plain rfl (fun K hK => ?_)
          go_simp
          refine hK _ _ ?_
          clear hK K
          refine wpList_two .min _ _ 3 rfl (.int .i64 (min 2000000 (b.mhi + ky))) rfl (by
                intro K hK
                rcases (by omega : (b.mhi + ky < 2000000 ∧ min 2000000 (b.mhi + ky) = b.mhi + ky) ∨ (¬ b.mhi + ky < 2000000 ∧ min 2000000 (b.mhi + ky) = 2000000)) with ⟨h2, hn⟩ | ⟨h2, hn⟩
                all_goals
                  rw [hn] at hK
                  go_simp
                  exact hK) ?_
          go_wp2_with fail
          refine (span_c _ _ _).mono ?_
          rintro e w14 ⟨rfl, hb⟩
          clear c0 c1 c2 c3 c4 c5 d0 d1 d2 r0 r1
          have hM14 := hM.keep hb
          have hS14 := hSS.keep hb
          have hO14 := own_keep HOW hb
          have hsn14 := hsn.keep hb
          clear hM hSS HOW hsn hb hsz HEr
          have z2 := hM14.cell 2
          have z3 := hM14.cell 3
          have f2 := hM14.frozen 2
          have f3 := hM14.frozen 3
          have HM15 : Hid (Blk ((w14.setCell ⟨gM, 2, none⟩ (.int .i64 (max (-2000000) (b.mlo - ky)))).setCell ⟨gM, 3, none⟩ (.int .i64 (min 2000000 (b.mhi + ky)))) gM 26 #[.int .i64 (max b.slo (SL - ky)), .int .i64 (min b.shi (SL + ky)), .int .i64 (max (-2000000) (b.mlo - ky)), .int .i64 (min 2000000 (b.mhi + ky)), .int .i64 b.bite, .slice (some ⟨gr, 0, none⟩) b.ts.length cap]) := (hM14.set 2 _).set 3 _
          have HS15 : Hid (Blk ((w14.setCell ⟨gM, 2, none⟩ (.int .i64 (max (-2000000) (b.mlo - ky)))).setCell ⟨gM, 3, none⟩ (.int .i64 (min 2000000 (b.mhi + ky)))) gS 28 #[.int .i64 (max s.dlo (DR - ky)), .int .i64 (min s.dhi (DR + ky)), .int .i64 s.sink]) := (hS14.far (Ne.symm hneq) _ _).far (Ne.symm hneq) _ _
          have HT15 : Hid (TsAt ((w14.setCell ⟨gM, 2, none⟩ (.int .i64 (max (-2000000) (b.mlo - ky)))).setCell ⟨gM, 3, none⟩ (.int .i64 (min 2000000 (b.mhi + ky)))) (some ⟨gr, 0, none⟩) (nrB b s l2 ky).ts) := tsAt_of_own (own_setCell (own_setCell hO14 hMz _ _) hMz _ _)
          have HE15 := Lib.hid (HE3.out.keep (Since.setCell2 hsn14 hgM 2 3 (.int .i64 (max (-2000000) (b.mlo - ky))) (.int .i64 (min 2000000 (b.mhi + ky)))).1)
          obtain ⟨⟨⟨c0, c1, c2, c3, c4, c5⟩, ⟨d0, d1, d2⟩, _, _, _, _⟩, _, ⟨r0, r1⟩, _⟩ := HE15.out
          have M0 := HM15.out.cell 0; have M1 := HM15.out.cell 1; have M2 := HM15.out.cell 2; have M3 := HM15.out.cell 3; have M4 := HM15.out.cell 4; have M5 := HM15.out.cell 5; have S0 := HS15.out.cell 0; have S1 := HS15.out.cell 1; have S2 := HS15.out.cell 2
          go_wp2_with fail
          refine (tlies_c b s A c ⟨(i0 : Int), rb⟩ Q ps qc _ HE15.out.e.ts HE15.out.p).mono ?_
          rintro e w16 ⟨rfl, hb⟩
          rw [L1]
          clear z2 z3 f2 f3 hM14 hS14 hO14 hsn14
          clear c0 c1 c2 c3 c4 c5 d0 d1 d2 r0 r1
          clear M0 M1 M2 M3 M4 M5 S0 S1 S2
          have hbn := hb.alloc hb.size (.cells #[.int .i64 a0, .int .i64 a1] 23)
          have HE16 := Lib.hid (HE15.out.keep hbn)
          have HM16 := Lib.hid (HM15.out.keep hbn)
          have HS16 := Lib.hid (HS15.out.keep hbn)
          have HT16 := Lib.hid (HT15.out.keep hbn)
          have HA16 := Lib.hid (show C2 w16.heap.size a0 a1 _ from (Blk.new w16 23 #[.int .i64 a0, .int .i64 a1]).span)
          clear hb hbn HE15 HM15 HS15 HT15
          obtain ⟨⟨⟨c0, c1, c2, c3, c4, c5⟩, ⟨d0, d1, d2⟩, _, _, _, _⟩, _, ⟨r0, r1⟩, _⟩ := HE16.out
          have M0 := HM16.out.cell 0; have M1 := HM16.out.cell 1; have M2 := HM16.out.cell 2; have M3 := HM16.out.cell 3; have M4 := HM16.out.cell 4; have M5 := HM16.out.cell 5; have S0 := HS16.out.cell 0; have S1 := HS16.out.cell 1; have S2 := HS16.out.cell 2
          go_wp2_with fail
          obtain ⟨gA, hg⟩ : ∃ gA, w16.heap.size = gA := ⟨_, rfl⟩
          rw [hg] at HA16 ⊢
          clear hg
          refine (HL.out _ _ _ HT16.out HE16.out.p).mono ?_
          rintro e w17 ⟨rfl, hb⟩
          clear c0 c1 c2 c3 c4 c5 d0 d1 d2 r0 r1
          clear M0 M1 M2 M3 M4 M5 S0 S1 S2
          have hbn := hb.alloc hb.size (.cells #[.int .i64 b0, .int .i64 b1] 23)
          have HE17 := Lib.hid (HE16.out.keep hbn)
          have HM17 := Lib.hid (HM16.out.keep hbn)
          have HS17 := Lib.hid (HS16.out.keep hbn)
          have HT17 := Lib.hid (HT16.out.keep hbn)
          have HA17 := Lib.hid (HA16.out.keep hbn)
          have HB17 := Lib.hid (show C2 w17.heap.size b0 b1 _ from (Blk.new w17 23 #[.int .i64 b0, .int .i64 b1]).span)
          clear hb hbn HE16 HM16 HS16 HT16 HA16
          obtain ⟨⟨⟨c0, c1, c2, c3, c4, c5⟩, ⟨d0, d1, d2⟩, _, _, _, _⟩, _, ⟨r0, r1⟩, _⟩ := HE17.out
          have M0 := HM17.out.cell 0; have M1 := HM17.out.cell 1; have M2 := HM17.out.cell 2; have M3 := HM17.out.cell 3; have M4 := HM17.out.cell 4; have M5 := HM17.out.cell 5; have S0 := HS17.out.cell 0; have S1 := HS17.out.cell 1; have S2 := HS17.out.cell 2
          go_wp2_with fail
          obtain ⟨gB, hg⟩ : ∃ gB, w17.heap.size = gB := ⟨_, rfl⟩
          rw [hg] at HB17 ⊢
          clear hg
          refine (HC.out _ HE17.out.e.ts).mono ?_
          rintro e w18 ⟨⟨P4, p4, rfl, hI2⟩, hb⟩
          clear c0 c1 c2 c3 c4 c5 d0 d1 d2 r0 r1
          clear M0 M1 M2 M3 M4 M5 S0 S1 S2
          have HE18 := Lib.hid (HE17.out.keep hb)
          have HM18 := Lib.hid (HM17.out.keep hb)
          have HS18 := Lib.hid (HS17.out.keep hb)
          have HT18 := Lib.hid (HT17.out.keep hb)
          have HA18 := Lib.hid (HA17.out.keep hb)
          have HB18 := Lib.hid (HB17.out.keep hb)
          have HI18 := Lib.hid hI2
          clear hb hI2 HE17 HM17 HS17 HT17 HA17 HB17
          obtain ⟨⟨⟨c0, c1, c2, c3, c4, c5⟩, ⟨d0, d1, d2⟩, _, _, _, _⟩, _, ⟨r0, r1⟩, _⟩ := HE18.out
          have M0 := HM18.out.cell 0; have M1 := HM18.out.cell 1; have M2 := HM18.out.cell 2; have M3 := HM18.out.cell 3; have M4 := HM18.out.cell 4; have M5 := HM18.out.cell 5; have S0 := HS18.out.cell 0; have S1 := HS18.out.cell 1; have S2 := HS18.out.cell 2
          go_wp2_with fail
          refine (HC2.out _ HT18.out).mono ?_
          rintro e w19 ⟨⟨P5, p5, rfl, hI3⟩, hb⟩
          clear c0 c1 c2 c3 c4 c5 d0 d1 d2 r0 r1
          clear M0 M1 M2 M3 M4 M5 S0 S1 S2
          have HE19 := Lib.hid (HE18.out.keep hb)
          have HM19 := Lib.hid (HM18.out.keep hb)
          have HS19 := Lib.hid (HS18.out.keep hb)
          have HT19 := Lib.hid (HT18.out.keep hb)
          obtain ⟨A0, A1⟩ := HA18.out.keep hb
          obtain ⟨B0, B1⟩ := HB18.out.keep hb
          have HI19 := Lib.hid (HI18.out.keep hb)
          have HJ19 := Lib.hid hI3
          clear hb hI3 HI18 HE18 HM18 HS18 HT18 HA18 HB18
          go_wp2_with fail
          clear A0 A1 B0 B1
          go_loopw [22, 23, 24] (fun i _ _ wx => ∃ j : Nat, j ≤ L.length ∧ i = .int .i64 j ∧ Since w19 wx) (fun i _ _ _ => L.length - (intOf i).toNat)
          case atStart => exact ⟨0, Nat.zero_le _, rfl, Since.refl _⟩
          case round =>
            obtain ⟨j, hjL, rfl, hsx⟩ := hrel
            by_cases hlt : j < L.length
            · have hmem := HMEM.out _ (List.getElem_mem hlt)
              obtain ⟨a4, hA4, _⟩ := HI19.out.get hlt
              have hM0 : 0 < M.length := List.length_pos_of_mem hmem
              obtain ⟨a5, hA5, _⟩ := HJ19.out.get hM0
              subst hA4
              subst hA5
              have HME := Lib.hid hmem
              clear hmem
              go_wp2_with fail
              go_loopw [23, 24] (fun t kk wy => ∃ m : Nat, m ≤ M.length ∧ kk = .int .i64 m ∧ t = .bool (decide (L[j] ∈ M.take m)) ∧ Since w19 wy) (fun _ kk _ => M.length - (intOf kk).toNat)
              case atStart => exact ⟨0, Nat.zero_le _, rfl, by simp, hsx⟩
              case round =>
                obtain ⟨m, hmM, rfl, rfl, hsy⟩ := hrel
                by_cases hmt : m < M.length
                · by_cases hin : L[j] ∈ M.take m
                  · have HNX : Hid (decide (L[j] ∈ M.take (m + 1)) = true) := by
                      show _ = _
                      rw [decide_eq_true_iff, List.take_succ_eq_append_getElem hmt]
                      exact List.mem_append_left _ hin
                    rw [decide_eq_true hin]
                    clear hin
                    go_wp2_with fail
                    refine Vals6.regionAll (fun X => Since w19 X) [some 191, some 192, some 193, some 194, some 195, some 196, some 197, some 198, some 199, some 200, some 201, some 202] [.is (.bool true), .is (.bool true), .is (undef), .is (undef), .is (undef), .is (undef), .is (undef), .is (undef), .is (undef), .is (undef), .is (undef), .is (.bool true)] (by kernel_rfl) rfl rfl (by kernel_rfl) (by kernel_rfl) (by kernel_rfl) (by kernel_rfl) (by kernel_rfl) (by kernel_rfl) (by kernel_rfl) (hsy.drew) ?_ ?_
                    · refine Vals5.Steps.run (by kernel_rfl) (Vals5.Stable.is _) ?_ ?_
                      · intro a W hS pre old K hK
                        have e23 : a.tmps.getD 23 undef = .bool true := old 23 _ (by kernel_rfl) rfl
                        clear pre old
                        simp only [Array.getD_eq_getD_getElem?] at e23
                        go_simp
                        exact hK _ _ hS (Below.refl _ _) rfl
                      refine Vals5.Steps.run (by kernel_rfl) (Vals5.Stable.is _) ?_ ?_
                      · intro a W hS pre old K hK
                        have e191 : a.tmps.getD 191 undef = .bool true := pre 0 191 _ (by kernel_rfl) rfl rfl
                        clear pre old
                        simp only [Array.getD_eq_getD_getElem?] at e191
                        go_simp
                        exact hK _ _ hS (Below.refl _ _) rfl
                      refine Vals5.Steps.skip (by kernel_rfl) (by kernel_rfl) ?_
                      refine Vals5.Steps.skip (by kernel_rfl) (by kernel_rfl) ?_
                      refine Vals5.Steps.skip (by kernel_rfl) (by kernel_rfl) ?_
                      refine Vals5.Steps.skip (by kernel_rfl) (by kernel_rfl) ?_
                      refine Vals5.Steps.skip (by kernel_rfl) (by kernel_rfl) ?_
                      refine Vals5.Steps.skip (by kernel_rfl) (by kernel_rfl) ?_
                      refine Vals5.Steps.skip (by kernel_rfl) (by kernel_rfl) ?_
                      refine Vals5.Steps.skip (by kernel_rfl) (by kernel_rfl) ?_
                      refine Vals5.Steps.skip (by kernel_rfl) (by kernel_rfl) ?_
                      refine Vals5.Steps.run (by kernel_rfl) (Vals5.Stable.is _) ?_ ?_
                      · intro a W hS pre old K hK
                        have e192 : a.tmps.getD 192 undef = .bool true := pre 1 192 _ (by kernel_rfl) rfl rfl
                        have e201 : a.tmps.getD 201 undef = undef := pre 10 201 _ (by kernel_rfl) rfl rfl
                        clear pre old
                        simp only [Array.getD_eq_getD_getElem?] at e192 e201
                        go_simp
                        exact hK _ _ hS (Below.refl _ _) rfl
                      exact Vals5.Steps.nil
                    · rintro X hsX
                      simp only [Vals5.All, List.getLast_cons_cons, List.getLast_singleton]
                      simp only [Vals.putAll, List.setIfInBounds_toArray, List.set_cons_zero, List.set_cons_succ]
                      intro K hK
                      go_simp
                      refine hK _ _ ?_
                      clear hK K
                      go_wp2_with fail
                      go_roundw
                      case rel => exact ⟨m + 1, by omega, by go_num, by rw [HNX.out], hsX⟩
                      case measure => simp [intOf]; omega
                  · by_cases hv : M[m] = L[j]
                    · have HNX : Hid (decide (L[j] ∈ M.take (m + 1)) = true) := by
                        show _ = _
                        rw [decide_eq_true_iff, List.take_succ_eq_append_getElem hmt, hv]
                        exact List.mem_append_right _ (List.mem_singleton.2 rfl)
                      rw [decide_eq_false hin]
                      have hv' : ((M[m] : Int) == (L[j] : Int)) = true := by simpa using hv
                      clear hin hv
                      go_wp2_with fail
                      refine Vals6.regionAll (fun X => Since w19 X) [some 191, some 192, some 193, some 194, some 195, some 196, some 197, some 198, some 199, some 200, some 201, some 202] [.is (.bool false), .is (.bool false), .is (.slice (some a5) M.length p5), .is (.int .i64 (m : Int)), .is (.pointer (some (a5.add m))), .is (.int .i64 M[m]), .is (.slice (some a4) L.length p4), .is (.int .i64 (j : Int)), .is (.pointer (some (a4.add j))), .is (.int .i64 L[j]), .is (.bool true), .is (.bool true)] (by kernel_rfl) rfl rfl (by kernel_rfl) (by kernel_rfl) (by kernel_rfl) (by kernel_rfl) (by kernel_rfl) (by kernel_rfl) (by kernel_rfl) (hsy.drew) ?_ ?_
                      · refine Vals5.Steps.run (by kernel_rfl) (Vals5.Stable.is _) ?_ ?_
                        · intro a W hS pre old K hK
                          have e23 : a.tmps.getD 23 undef = .bool false := old 23 _ (by kernel_rfl) rfl
                          clear pre old
                          simp only [Array.getD_eq_getD_getElem?] at e23
                          go_simp
                          exact hK _ _ hS (Below.refl _ _) rfl
                        refine Vals5.Steps.run (by kernel_rfl) (Vals5.Stable.is _) ?_ ?_
                        · intro a W hS pre old K hK
                          have e191 : a.tmps.getD 191 undef = .bool false := pre 0 191 _ (by kernel_rfl) rfl rfl
                          clear pre old
                          simp only [Array.getD_eq_getD_getElem?] at e191
                          go_simp
                          exact hK _ _ hS (Below.refl _ _) rfl
                        refine Vals5.Steps.run (by kernel_rfl) (Vals5.Stable.is _) ?_ ?_
                        · intro a W hS pre old K hK
                          have e20 : a.tmps.getD 20 undef = .slice (some a5) M.length p5 := old 20 _ (by kernel_rfl) rfl
                          clear pre old
                          simp only [Array.getD_eq_getD_getElem?] at e20
                          go_simp
                          exact hK _ _ hS (Below.refl _ _) rfl
                        refine Vals5.Steps.run (by kernel_rfl) (Vals5.Stable.is _) ?_ ?_
                        · intro a W hS pre old K hK
                          have e24 : a.tmps.getD 24 undef = .int .i64 (m : Int) := old 24 _ (by kernel_rfl) rfl
                          clear pre old
                          simp only [Array.getD_eq_getD_getElem?] at e24
                          go_simp
                          exact hK _ _ hS (Below.refl _ _) rfl
                        refine Vals5.Steps.run (by kernel_rfl) (Vals5.Stable.is _) ?_ ?_
                        · intro a W hS pre old K hK
                          have e193 : a.tmps.getD 193 undef = .slice (some a5) M.length p5 := pre 2 193 _ (by kernel_rfl) rfl rfl
                          have e194 : a.tmps.getD 194 undef = .int .i64 (m : Int) := pre 3 194 _ (by kernel_rfl) rfl rfl
                          clear pre old
                          simp only [Array.getD_eq_getD_getElem?] at e193 e194
                          go_simp
                          exact hK _ _ hS (Below.refl _ _) rfl
                        refine Vals5.Steps.run (by kernel_rfl) (Vals5.Stable.is _) ?_ ?_
                        · intro a W hS pre old K hK
                          have e195 : a.tmps.getD 195 undef = .pointer (some (a5.add m)) := pre 4 195 _ (by kernel_rfl) rfl rfl
                          clear pre old
                          simp only [Array.getD_eq_getD_getElem?] at e195
                          have hS9 := hS
                          obtain ⟨b4, q4, y4⟩ := (HI19.out.keep hS9.1).get hlt
                          obtain rfl : a4 = b4 := by simpa using q4
                          obtain ⟨b5, q5, y5⟩ := (HJ19.out.keep hS9.1).get hmt
                          obtain rfl : a5 = b5 := by simpa using q5
                          go_simp
                          exact hK _ _ hS (Below.refl _ _) rfl
                        refine Vals5.Steps.run (by kernel_rfl) (Vals5.Stable.is _) ?_ ?_
                        · intro a W hS pre old K hK
                          have e18 : a.tmps.getD 18 undef = .slice (some a4) L.length p4 := old 18 _ (by kernel_rfl) rfl
                          clear pre old
                          simp only [Array.getD_eq_getD_getElem?] at e18
                          go_simp
                          exact hK _ _ hS (Below.refl _ _) rfl
                        refine Vals5.Steps.run (by kernel_rfl) (Vals5.Stable.is _) ?_ ?_
                        · intro a W hS pre old K hK
                          have e22 : a.tmps.getD 22 undef = .int .i64 (j : Int) := old 22 _ (by kernel_rfl) rfl
                          clear pre old
                          simp only [Array.getD_eq_getD_getElem?] at e22
                          go_simp
                          exact hK _ _ hS (Below.refl _ _) rfl
                        refine Vals5.Steps.run (by kernel_rfl) (Vals5.Stable.is _) ?_ ?_
                        · intro a W hS pre old K hK
                          have e197 : a.tmps.getD 197 undef = .slice (some a4) L.length p4 := pre 6 197 _ (by kernel_rfl) rfl rfl
                          have e198 : a.tmps.getD 198 undef = .int .i64 (j : Int) := pre 7 198 _ (by kernel_rfl) rfl rfl
                          clear pre old
                          simp only [Array.getD_eq_getD_getElem?] at e197 e198
                          go_simp
                          exact hK _ _ hS (Below.refl _ _) rfl
                        refine Vals5.Steps.run (by kernel_rfl) (Vals5.Stable.is _) ?_ ?_
                        · intro a W hS pre old K hK
                          have e199 : a.tmps.getD 199 undef = .pointer (some (a4.add j)) := pre 8 199 _ (by kernel_rfl) rfl rfl
                          clear pre old
                          simp only [Array.getD_eq_getD_getElem?] at e199
                          have hS9 := hS
                          obtain ⟨b4, q4, y4⟩ := (HI19.out.keep hS9.1).get hlt
                          obtain rfl : a4 = b4 := by simpa using q4
                          obtain ⟨b5, q5, y5⟩ := (HJ19.out.keep hS9.1).get hmt
                          obtain rfl : a5 = b5 := by simpa using q5
                          go_simp
                          exact hK _ _ hS (Below.refl _ _) rfl
                        refine Vals5.Steps.run (by kernel_rfl) (Vals5.Stable.is _) ?_ ?_
                        · intro a W hS pre old K hK
                          have e196 : a.tmps.getD 196 undef = .int .i64 M[m] := pre 5 196 _ (by kernel_rfl) rfl rfl
                          have e200 : a.tmps.getD 200 undef = .int .i64 L[j] := pre 9 200 _ (by kernel_rfl) rfl rfl
                          clear pre old
                          simp only [Array.getD_eq_getD_getElem?] at e196 e200
                          go_simp
                          exact hK _ _ hS (Below.refl _ _) rfl
                        refine Vals5.Steps.run (by kernel_rfl) (Vals5.Stable.is _) ?_ ?_
                        · intro a W hS pre old K hK
                          have e192 : a.tmps.getD 192 undef = .bool false := pre 1 192 _ (by kernel_rfl) rfl rfl
                          have e201 : a.tmps.getD 201 undef = .bool true := pre 10 201 _ (by kernel_rfl) rfl rfl
                          clear pre old
                          simp only [Array.getD_eq_getD_getElem?] at e192 e201
                          go_simp
                          exact hK _ _ hS (Below.refl _ _) rfl
                        exact Vals5.Steps.nil
                      · rintro X hsX
                        simp only [Vals5.All, List.getLast_cons_cons, List.getLast_singleton]
                        simp only [Vals.putAll, List.setIfInBounds_toArray, List.set_cons_zero, List.set_cons_succ]
                        intro K hK
                        go_simp
                        refine hK _ _ ?_
                        clear hK K
                        go_wp2_with fail
                        go_roundw
                        case rel => exact ⟨m + 1, by omega, by go_num, by rw [HNX.out], hsX⟩
                        case measure => simp [intOf]; omega
                    · have HNX : Hid (decide (L[j] ∈ M.take (m + 1)) = false) := by
                        show _ = _
                        rw [decide_eq_false_iff_not, List.take_succ_eq_append_getElem hmt, List.mem_append, List.mem_singleton]
                        rintro (h | h)
                        · exact hin h
                        · exact hv h.symm
                      rw [decide_eq_false hin]
                      have hv' : ((M[m] : Int) == (L[j] : Int)) = false := by simpa using hv
                      clear hin hv
                      go_wp2_with fail
                      refine Vals6.regionAll (fun X => Since w19 X) [some 191, some 192, some 193, some 194, some 195, some 196, some 197, some 198, some 199, some 200, some 201, some 202] [.is (.bool false), .is (.bool false), .is (.slice (some a5) M.length p5), .is (.int .i64 (m : Int)), .is (.pointer (some (a5.add m))), .is (.int .i64 M[m]), .is (.slice (some a4) L.length p4), .is (.int .i64 (j : Int)), .is (.pointer (some (a4.add j))), .is (.int .i64 L[j]), .is (.bool false), .is (.bool false)] (by kernel_rfl) rfl rfl (by kernel_rfl) (by kernel_rfl) (by kernel_rfl) (by kernel_rfl) (by kernel_rfl) (by kernel_rfl) (by kernel_rfl) (hsy.drew) ?_ ?_
                      · refine Vals5.Steps.run (by kernel_rfl) (Vals5.Stable.is _) ?_ ?_
                        · intro a W hS pre old K hK
                          have e23 : a.tmps.getD 23 undef = .bool false := old 23 _ (by kernel_rfl) rfl
                          clear pre old
                          simp only [Array.getD_eq_getD_getElem?] at e23
                          go_simp
                          exact hK _ _ hS (Below.refl _ _) rfl
                        refine Vals5.Steps.run (by kernel_rfl) (Vals5.Stable.is _) ?_ ?_
                        · intro a W hS pre old K hK
                          have e191 : a.tmps.getD 191 undef = .bool false := pre 0 191 _ (by kernel_rfl) rfl rfl
                          clear pre old
                          simp only [Array.getD_eq_getD_getElem?] at e191
                          go_simp
                          exact hK _ _ hS (Below.refl _ _) rfl
                        refine Vals5.Steps.run (by kernel_rfl) (Vals5.Stable.is _) ?_ ?_
                        · intro a W hS pre old K hK
                          have e20 : a.tmps.getD 20 undef = .slice (some a5) M.length p5 := old 20 _ (by kernel_rfl) rfl
                          clear pre old
                          simp only [Array.getD_eq_getD_getElem?] at e20
                          go_simp
                          exact hK _ _ hS (Below.refl _ _) rfl
                        refine Vals5.Steps.run (by kernel_rfl) (Vals5.Stable.is _) ?_ ?_
                        · intro a W hS pre old K hK
                          have e24 : a.tmps.getD 24 undef = .int .i64 (m : Int) := old 24 _ (by kernel_rfl) rfl
                          clear pre old
                          simp only [Array.getD_eq_getD_getElem?] at e24
                          go_simp
                          exact hK _ _ hS (Below.refl _ _) rfl
                        refine Vals5.Steps.run (by kernel_rfl) (Vals5.Stable.is _) ?_ ?_
                        · intro a W hS pre old K hK
                          have e193 : a.tmps.getD 193 undef = .slice (some a5) M.length p5 := pre 2 193 _ (by kernel_rfl) rfl rfl
                          have e194 : a.tmps.getD 194 undef = .int .i64 (m : Int) := pre 3 194 _ (by kernel_rfl) rfl rfl
                          clear pre old
                          simp only [Array.getD_eq_getD_getElem?] at e193 e194
                          go_simp
                          exact hK _ _ hS (Below.refl _ _) rfl
                        refine Vals5.Steps.run (by kernel_rfl) (Vals5.Stable.is _) ?_ ?_
                        · intro a W hS pre old K hK
                          have e195 : a.tmps.getD 195 undef = .pointer (some (a5.add m)) := pre 4 195 _ (by kernel_rfl) rfl rfl
                          clear pre old
                          simp only [Array.getD_eq_getD_getElem?] at e195
                          have hS9 := hS
                          obtain ⟨b4, q4, y4⟩ := (HI19.out.keep hS9.1).get hlt
                          obtain rfl : a4 = b4 := by simpa using q4
                          obtain ⟨b5, q5, y5⟩ := (HJ19.out.keep hS9.1).get hmt
                          obtain rfl : a5 = b5 := by simpa using q5
                          go_simp
                          exact hK _ _ hS (Below.refl _ _) rfl
                        refine Vals5.Steps.run (by kernel_rfl) (Vals5.Stable.is _) ?_ ?_
                        · intro a W hS pre old K hK
                          have e18 : a.tmps.getD 18 undef = .slice (some a4) L.length p4 := old 18 _ (by kernel_rfl) rfl
                          clear pre old
                          simp only [Array.getD_eq_getD_getElem?] at e18
                          go_simp
                          exact hK _ _ hS (Below.refl _ _) rfl
                        refine Vals5.Steps.run (by kernel_rfl) (Vals5.Stable.is _) ?_ ?_
                        · intro a W hS pre old K hK
                          have e22 : a.tmps.getD 22 undef = .int .i64 (j : Int) := old 22 _ (by kernel_rfl) rfl
                          clear pre old
                          simp only [Array.getD_eq_getD_getElem?] at e22
                          go_simp
                          exact hK _ _ hS (Below.refl _ _) rfl
                        refine Vals5.Steps.run (by kernel_rfl) (Vals5.Stable.is _) ?_ ?_
                        · intro a W hS pre old K hK
                          have e197 : a.tmps.getD 197 undef = .slice (some a4) L.length p4 := pre 6 197 _ (by kernel_rfl) rfl rfl
                          have e198 : a.tmps.getD 198 undef = .int .i64 (j : Int) := pre 7 198 _ (by kernel_rfl) rfl rfl
                          clear pre old
                          simp only [Array.getD_eq_getD_getElem?] at e197 e198
                          go_simp
                          exact hK _ _ hS (Below.refl _ _) rfl
                        refine Vals5.Steps.run (by kernel_rfl) (Vals5.Stable.is _) ?_ ?_
                        · intro a W hS pre old K hK
                          have e199 : a.tmps.getD 199 undef = .pointer (some (a4.add j)) := pre 8 199 _ (by kernel_rfl) rfl rfl
                          clear pre old
                          simp only [Array.getD_eq_getD_getElem?] at e199
                          have hS9 := hS
                          obtain ⟨b4, q4, y4⟩ := (HI19.out.keep hS9.1).get hlt
                          obtain rfl : a4 = b4 := by simpa using q4
                          obtain ⟨b5, q5, y5⟩ := (HJ19.out.keep hS9.1).get hmt
                          obtain rfl : a5 = b5 := by simpa using q5
                          go_simp
                          exact hK _ _ hS (Below.refl _ _) rfl
                        refine Vals5.Steps.run (by kernel_rfl) (Vals5.Stable.is _) ?_ ?_
                        · intro a W hS pre old K hK
                          have e196 : a.tmps.getD 196 undef = .int .i64 M[m] := pre 5 196 _ (by kernel_rfl) rfl rfl
                          have e200 : a.tmps.getD 200 undef = .int .i64 L[j] := pre 9 200 _ (by kernel_rfl) rfl rfl
                          clear pre old
                          simp only [Array.getD_eq_getD_getElem?] at e196 e200
                          go_simp
                          exact hK _ _ hS (Below.refl _ _) rfl
                        refine Vals5.Steps.run (by kernel_rfl) (Vals5.Stable.is _) ?_ ?_
                        · intro a W hS pre old K hK
                          have e192 : a.tmps.getD 192 undef = .bool false := pre 1 192 _ (by kernel_rfl) rfl rfl
                          have e201 : a.tmps.getD 201 undef = .bool false := pre 10 201 _ (by kernel_rfl) rfl rfl
                          clear pre old
                          simp only [Array.getD_eq_getD_getElem?] at e192 e201
                          go_simp
                          exact hK _ _ hS (Below.refl _ _) rfl
                        exact Vals5.Steps.nil
                      · rintro X hsX
                        simp only [Vals5.All, List.getLast_cons_cons, List.getLast_singleton]
                        simp only [Vals.putAll, List.setIfInBounds_toArray, List.set_cons_zero, List.set_cons_succ]
                        intro K hK
                        go_simp
                        refine hK _ _ ?_
                        clear hK K
                        go_wp2_with fail
                        go_roundw
                        case rel => exact ⟨m + 1, by omega, by go_num, by rw [HNX.out], hsX⟩
                        case measure => simp [intOf]; omega
                · rw [List.take_of_length_le (by omega), decide_eq_true HME.out]
                  go_wp2_with fail
                  go_roundw
                  case rel => exact ⟨j + 1, by omega, by go_num, hsy⟩
                  case measure => simp [intOf]; omega
            · have HE20 := Lib.hid (HE19.out.keep hsx.1)
              have HM20 := Lib.hid (HM19.out.keep hsx.1)
              have HS20 := Lib.hid (HS19.out.keep hsx.1)
              have HT20 := Lib.hid (HT19.out.keep hsx.1)
              clear HE19 HM19 HS19 HT19
              obtain ⟨⟨⟨c0, c1, c2, c3, c4, c5⟩, ⟨d0, d1, d2⟩, _, _, _, _⟩, _, ⟨r0, r1⟩, _⟩ := HE20.out
              have M0 := HM20.out.cell 0; have M1 := HM20.out.cell 1; have M2 := HM20.out.cell 2; have M3 := HM20.out.cell 3; have M4 := HM20.out.cell 4; have M5 := HM20.out.cell 5; have S0 := HS20.out.cell 0; have S1 := HS20.out.cell 1; have S2 := HS20.out.cell 2
              go_wp2_with fail
              refine (stops_c b s A c (i0 : Int) rb _ HE20.out.e.ts).mono ?_
              rintro e w21 ⟨rfl, hb⟩
              rw [ST1]
              clear c0 c1 c2 c3 c4 c5 d0 d1 d2 r0 r1
              clear M0 M1 M2 M3 M4 M5 S0 S1 S2
              have hbn := hb.alloc hb.size (.cells #[.int .i64 u0, .int .i64 u1] 23)
              have HE21 := Lib.hid (HE20.out.keep hbn)
              have HM21 := Lib.hid (HM20.out.keep hbn)
              have HS21 := Lib.hid (HS20.out.keep hbn)
              have HT21 := Lib.hid (HT20.out.keep hbn)
              have HA21 := Lib.hid (show C2 w21.heap.size u0 u1 _ from (Blk.new w21 23 #[.int .i64 u0, .int .i64 u1]).span)
              clear hb hbn HE20 HM20 HS20 HT20
              obtain ⟨⟨⟨c0, c1, c2, c3, c4, c5⟩, ⟨d0, d1, d2⟩, _, _, _, _⟩, _, ⟨r0, r1⟩, _⟩ := HE21.out
              have M0 := HM21.out.cell 0; have M1 := HM21.out.cell 1; have M2 := HM21.out.cell 2; have M3 := HM21.out.cell 3; have M4 := HM21.out.cell 4; have M5 := HM21.out.cell 5; have S0 := HS21.out.cell 0; have S1 := HS21.out.cell 1; have S2 := HS21.out.cell 2
              go_wp2_with fail
              obtain ⟨gU, hg⟩ : ∃ gU, w21.heap.size = gU := ⟨_, rfl⟩
              rw [hg] at HA21 ⊢
              clear hg
              refine (HST.out _ HT21.out).mono ?_
              rintro e w22 ⟨rfl, hb⟩
              clear c0 c1 c2 c3 c4 c5 d0 d1 d2 r0 r1
              clear M0 M1 M2 M3 M4 M5 S0 S1 S2
              have hbn := hb.alloc hb.size (.cells #[.int .i64 v0, .int .i64 v1] 23)
              have HE22 := Lib.hid (HE21.out.keep hbn)
              have HA22 := Lib.hid (HA21.out.keep hbn)
              have HB22 := Lib.hid (show C2 w22.heap.size v0 v1 _ from (Blk.new w22 23 #[.int .i64 v0, .int .i64 v1]).span)
              clear hb hbn HE21 HA21
              obtain ⟨A0, A1⟩ := HA22.out
              obtain ⟨B0, B1⟩ := HB22.out
              go_wp2_with fail
              refine (awake_c _).mono ?_
              rintro e w23 ⟨rfl, hb⟩
              go_wp2_with fail
              go_ret
              exact ⟨rfl, (HE22.out.keep hb).e.sn.1⟩
  · have HD : Hid (decide ((chk b s).2.2 = 0) = false) := decide_eq_false hk
    clear hk
    go_enter Try.func14, Try.ntmps14
    go_wp2_with fail
    refine (valid_c b s A c _ HE0.out.ts).mono ?_
    rintro e w1 ⟨rfl, hb1⟩
    rw [HD.out]
    have HE1 := Lib.hid (HE0.out.keep hb1)
    clear HE0 hb1
    go_wp2_with fail
    refine (awake_c _).mono ?_
    rintro e w3 ⟨rfl, hb3⟩
    go_wp2_with fail
    go_ret
    exact ⟨rfl, (HE1.out.keep hb3).sn.1⟩
end Td
end Go.Proofs.Ytojpiliamecgkaa
