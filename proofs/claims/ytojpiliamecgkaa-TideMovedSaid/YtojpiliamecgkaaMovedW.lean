import Derived.Test.YtojpiliamecgkaaMovedA
import Derived.Test.YtojpiliamecgkaaVals6
import Derived.Test.YtojpiliamecgkaaLieC
namespace Go.Proofs.Ytojpiliamecgkaa
open Go.RowKit
namespace Td
set_option linter.unusedSimpArgs false
set_option linter.unusedVariables false
theorem Try.infoTide : (Try.prog.info? 67).map (fun i => (i.zero, i.size, i.bytes)) = some (some (.agg #[.int .i64 0, .int .i64 0, .int .i64 0, .int .i64 0, .int .i64 0]), 5, 40) := by kernel_rfl
/-- a beach with other tides. -/
abbrev mV (b : Bch) (v : Value) : Array Value := #[.int .i64 b.slo, .int .i64 b.shi, .int .i64 b.mlo, .int .i64 b.mhi, .int .i64 b.bite, v]
set_option maxRecDepth 100000 in
set_option maxHeartbeats 16000000 in
theorem tideMoved_c (b : Bch) (s : Shp) (A : Option Addr) (c : Nat) (P : Option Addr) (l : List Int) (pc n0 n1 : Nat) (w : World) (hp : TsAt w A b.ts) (h0 : n0 ≤ 255) (h1 : n1 ≤ 255) (hu : U16At w P l) (ho : U16Ok l) :
    Calls Try.prog 15 #[.agg (bV b A c), .agg (sV s), .agg #[.slice P l.length pc, .int .u8 n0, .int .u8 n1]] w fun e w' => e = .returned (.bool true) ∧ Below w.heap.size w w' := by
  obtain ⟨xs, hxs⟩ : ∃ xs : List Value, xs = [.slice P l.length pc, .int .u8 n0, .int .u8 n1] := ⟨_, rfl⟩
  have hE0 : Env w.heap.size (w.heap.size + 1) (w.heap.size + 1 + 1) b A c s xs P l w (((w.alloc (.cells (bV b A c) 26)).alloc (.cells (sV s) 28)).alloc (.cells #[.slice P l.length pc, .int .u8 n0, .int .u8 n1] 81)) := by
    have hs0 := (((Since.refl w).alloc (.cells (bV b A c) 26)).alloc (.cells (sV s) 28)).alloc (.cells #[.slice P l.length pc, .int .u8 n0, .int .u8 n1] 81)
    refine ⟨(((Blk.new w 26 (bV b A c)).alloc (.cells (sV s) 28)).alloc _).beach, ((Blk.new1 w (.cells (bV b A c) 26) 28 (sV s)).alloc _).ship, fun j v hj => ?_, hp.keep hs0.1, hu.keep hs0.1, hs0⟩
    subst hxs
    rw [(Blk.new2 w (.cells (bV b A c) 26) (.cells (sV s) 28) 81 #[.slice P l.length pc, .int .u8 n0, .int .u8 n1]).cell j]
    simpa using hj
  have HX : Hid (xs = [.slice P l.length pc, .int .u8 n0, .int .u8 n1]) := hxs
  have HE0 := Lib.hid hE0
  clear hE0 hxs
  by_cases hk : (chk b s).2.2 = 0
  · obtain ⟨hB, hS⟩ := chk_ok.1 hk
    have HD : Hid (decide ((chk b s).2.2 = 0) = true) := decide_eq_true hk
    have hl12 : b.ts.length ≤ 12 := hB.n1
    have hl1 : 1 ≤ b.ts.length := hB.n0
    have HCP : Hid (∀ W : World, TsAt W A b.ts → U16At W P l → _) := fun W (h1 : TsAt W A b.ts) (h2 : U16At W P l) => plan_c b A c P l pc W h1 hl1 hl12 h2 ho
    have hrk := planRun_ok (l := l) hl1
    obtain ⟨hpok, hpe, hp6⟩ := plan_ok (l := l) hl1
    generalize planRun b.ts.length l = run at *
    generalize planPs b.ts.length l = ps at *
    have hpok' : ∀ p ∈ ps, PuOk b.ts.length p := fun p hp => (hpok p hp).1
    clear hpok
    go_enter Try.func15, Try.ntmps15
    go_wp2_with fail
    refine (valid_c b s A c _ HE0.out.ts).mono ?_
    rintro e w1 ⟨rfl, hb1⟩
    rw [HD.out]
    have HE1 := Lib.hid (HE0.out.keep hb1)
    clear HE0 hb1
    obtain ⟨⟨c0, c1, c2, c3, c4, c5⟩, ⟨d0, d1, d2⟩, sx, _, _, _⟩ := HE1.out
    rw [HX.out] at sx
    have x0 := sx 0 _ rfl
    have x1 := sx 1 _ rfl
    have x2 := sx 2 _ rfl
    clear sx
    go_wp2_with fail
    refine (HCP.out _ HE1.out.ts HE1.out.us).mono ?_
    rintro e w2 ⟨⟨Q, qc, rfl, hq⟩, hb2⟩
    have HE3 := Lib.hid ((HE1.out.keep hb2).alloc (.cells (puV run) 49))
    have HR3 := Lib.hid (show C2 w2.heap.size run.tide run.bal _ from (Blk.new w2 49 (puV run)).pull)
    have HP3 := Lib.hid (hq.keep ((Below.refl _ _).alloc (Nat.le_refl _) (.cells (puV run) 49)))
    clear HE1 hb2 hq c0 c1 c2 c3 c4 c5 d0 d1 d2 x0 x1 x2
    obtain ⟨⟨c0, c1, c2, c3, c4, c5⟩, ⟨d0, d1, d2⟩, sx, _, _, _⟩ := HE3.out
    rw [HX.out] at sx
    have x2 := sx 2 _ rfl
    clear sx
    go_wp2_with fail
    clear c0 c1 c2 c3 c4 c5 d0 d1 d2 x2
    obtain ⟨gR, hgR⟩ : ∃ gR, w2.heap.size = gR := ⟨_, rfl⟩
    obtain ⟨X3, hX3⟩ : ∃ X3, w2.alloc (.cells (puV run) 49) = X3 := ⟨_, rfl⟩
    rw [hgR] at HR3 ⊢
    rw [hX3] at HE3 HR3 HP3 ⊢
    clear hX3 hgR
    refine Vals9.region (Cp2 X3 (bV b A c) (sV s)) [some 41, some 42, some 10, some 11, none, none] [.is (.agg (bV b A c)), .is (.agg (sV s)), .any, .any, .any, .any] (by kernel_rfl) (by kernel_rfl) (by kernel_rfl) (by kernel_rfl) (by kernel_rfl) (by kernel_rfl) (Cp2.start X3 _ _) ?_ ?_
    · refine Vals9.Steps.run (by kernel_rfl) ?_ ?_
      · intro a W σ hJ pre K hK
        have e3 : a.tmps.getD 3 undef = .pointer (some ⟨w.heap.size, 0, none⟩) := pre.2.2 3 _ (by kernel_rfl) rfl
        clear pre
        simp only [Array.getD_eq_getD_getElem?] at e3
        have hS9 := hJ
        obtain ⟨⟨c0, c1, c2, c3, c4, c5⟩, ⟨d0, d1, d2⟩, _, _, _, _⟩ := HE3.out.keep hS9.sn.1
        go_simp
        exact hK _ hJ
      refine Vals9.Steps.run (by kernel_rfl) ?_ ?_
      · intro a W σ hJ pre K hK
        have e4 : a.tmps.getD 4 undef = .pointer (some ⟨w.heap.size + 1, 0, none⟩) := pre.2.2 4 _ (by kernel_rfl) rfl
        clear pre
        simp only [Array.getD_eq_getD_getElem?] at e4
        have hS9 := hJ
        obtain ⟨⟨c0, c1, c2, c3, c4, c5⟩, ⟨d0, d1, d2⟩, _, _, _, _⟩ := HE3.out.keep hS9.sn.1
        go_simp
        exact hK _ hJ
      refine Vals9.Steps.mark (by kernel_rfl) ?_ ?_
      · intro a W σ hJ hn pre K hK
        go_simp
        exact hK _ _ (hJ.newB hn _ rfl)
      refine Vals9.Steps.mark (by kernel_rfl) ?_ ?_
      · intro a W σ hJ hn pre K hK
        go_simp
        exact hK _ _ (hJ.newS hn _ rfl)
      refine Vals9.Steps.mark (by kernel_rfl) ?_ ?_
      · intro a W σ hJ hn pre K hK
        obtain ⟨v10, s10, e10⟩ := pre.2.1 2 (by kernel_rfl) rfl
        replace e10 : a.tmps.getD 10 undef = v10 := e10 10 rfl
        have e41 : a.tmps.getD 41 undef = .agg (bV b A c) := pre.1 0 41 _ (by kernel_rfl) rfl rfl
        simp only [Array.getD_eq_getD_getElem?] at e10 e41
        obtain ⟨g, zs, h1, h2, h3, h4, _, _⟩ := hJ.m _ s10
        subst h1
        refine wp_store_row 26 _ _ rfl g (bV b A c) (by go_simp) (by go_simp) 26 zs h4 (by kernel_rfl) h3 (by simp [Value.oneCell']) ?_
        exact hK _ _ (hJ.stB rfl s10)
      refine Vals9.Steps.mark (by kernel_rfl) ?_ ?_
      · intro a W σ hJ hn pre K hK
        obtain ⟨v11, s11, e11⟩ := pre.2.1 3 (by kernel_rfl) rfl
        replace e11 : a.tmps.getD 11 undef = v11 := e11 11 rfl
        have e42 : a.tmps.getD 42 undef = .agg (sV s) := pre.1 1 42 _ (by kernel_rfl) rfl rfl
        simp only [Array.getD_eq_getD_getElem?] at e11 e42
        obtain ⟨g, zs, h1, h2, h3, h4, _⟩ := hJ.s _ s11
        subst h1
        refine wp_store_row 28 _ _ rfl g (sV s) (by go_simp) (by go_simp) 28 zs h4 (by kernel_rfl) h3 (by simp [Value.oneCell']) ?_
        exact hK _ _ (hJ.stS rfl s11)
      exact Vals9.Steps.nil
    · intro X5 σ hJ
      simp only [Vals9.All]
      intro v2 h2 v3 h3 v4 h4 v5 h5
      obtain ⟨gM, zs, rfl, hgM, _, hBM, hcb, hne⟩ := hJ.m v2 h2
      obtain ⟨gS, zs2, rfl, hgS, _, hBS, hcs⟩ := hJ.s v3 h3
      obtain rfl := hcb v4 h4
      obtain rfl := hcs v5 h5
      have hneq : gS ≠ gM := fun e => hne _ h3 (by rw [e])
      have hsn5 := hJ.sn
      clear hJ h2 h3 h4 h5 hcb hcs hne
      simp only [Vals.putAll, List.setIfInBounds_toArray, List.set_cons_zero, List.set_cons_succ]
      have hK0 : 0 ≤ 5 * (n1 : Int) := by omega
      have hK1 : 5 * (n1 : Int) ≤ 1275 := by omega
      generalize 5 * (n1 : Int) = K at *
      have HE5 := Lib.hid (HE3.out.keep hsn5.1)
      obtain ⟨⟨c0, c1, c2, c3, c4, c5⟩, ⟨d0, d1, d2⟩, sx, _, _, _⟩ := HE5.out
      clear sx
      have hS0 := hS.d0
      have hS1 := hS.d1
      have hS2 := hS.d2
      go_wp2_with fail
      refine (span_c _ _ _).mono ?_
      rintro e w6 ⟨rfl, hb6⟩
      clear c0 c1 c2 c3 c4 c5 d0 d1 d2
      have HE6 := Lib.hid (HE5.out.keep hb6)
      have hsn6 := hsn5.keep hb6
      have hBM6 := hBM.keep hb6
      have hBS6 := hBS.keep hb6
      have z0 := hBS6.cell 0
      have z1 := hBS6.cell 1
      have f0 := hBS6.frozen 0
      have f1 := hBS6.frozen 1
      have m5 := hBM6.cell 5
      have fm5 := hBM6.frozen 5
      have hBS7 : Blk (((w6.setCell ⟨gS, 0, none⟩ (.int .i64 (s.dlo + K))).setCell ⟨gS, 1, none⟩ (.int .i64 (s.dhi + K))).setCell ⟨gM, 5, none⟩ (.slice none 0 0)) gS 28 (sV (mvS K s)) := ((hBS6.set 0 _).set 1 _).far (Ne.symm hneq) _ _
      have hBM7 : Blk (((w6.setCell ⟨gS, 0, none⟩ (.int .i64 (s.dlo + K))).setCell ⟨gS, 1, none⟩ (.int .i64 (s.dhi + K))).setCell ⟨gM, 5, none⟩ (.slice none 0 0)) gM 26 (mV b (.slice none 0 0)) := ((hBM6.far hneq _ _).far hneq _ _).set 5 _
      have hsn7 : Since X3 (((w6.setCell ⟨gS, 0, none⟩ (.int .i64 (s.dlo + K))).setCell ⟨gS, 1, none⟩ (.int .i64 (s.dhi + K))).setCell ⟨gM, 5, none⟩ (.slice none 0 0)) := ⟨((hsn6.1.setCell hgS _).setCell hgS _).setCell hgM _, by simpa using hsn6.2⟩
      go_wp2_with fail
      obtain ⟨X7, hX7⟩ : ∃ X7, (((w6.setCell ⟨gS, 0, none⟩ (.int .i64 (s.dlo + K))).setCell ⟨gS, 1, none⟩ (.int .i64 (s.dhi + K))).setCell ⟨gM, 5, none⟩ (.slice none 0 0)) = X7 := ⟨_, rfl⟩
      rw [hX7] at hBS7 hBM7 hsn7 ⊢
      clear hX7 z0 z1 f0 f1 m5 fm5 hBM6 hBS6 HE6 hsn6 hBM hBS hsn5 HE5 hb6
      have hgMl := hBM7.lt
      have hgSl := hBS7.lt
      obtain ⟨i0, hi0, hi1⟩ := Option.map_eq_some_iff.1 Try.infoTide
      simp only [Prod.mk.injEq] at hi1
      obtain ⟨hz0, hz1, hz2⟩ := hi1
      have HI := Lib.hid hi0
      have HZ0 := Lib.hid hz0
      have HZ1 := Lib.hid hz1
      have HZ2 := Lib.hid hz2
      clear hi0 hz0 hz1 hz2
      go_loopw [12, 13] (fun i _ wr => ∃ (k : Nat) (v : Value), k ≤ b.ts.length ∧ i = .int .i64 k ∧ Since X3 wr ∧ Blk wr gM 26 (mV b v) ∧ Blk wr gS 28 (sV (mvS K s)) ∧ X7.heap.size ≤ wr.heap.size ∧ Hid (wr.ownsRow X7.heap.size 67 5 v k (tidVals ((mvB K b).ts.take k)))) (fun i _ _ => b.ts.length - (intOf i).toNat)
      case atStart => exact ⟨0, _, Nat.zero_le _, rfl, hsn7, hBM7, hBS7, Nat.le_refl _, World.ownsRow_nil _ _ _ _⟩
      case round =>
        obtain ⟨k, v, hk7, rfl, hsn, hM, hSS, hsz, HO⟩ := hrel
        have HEr := Lib.hid (HE3.out.keep hsn.1)
        by_cases hlt : k < b.ts.length
        · obtain ⟨ad, hA, hat⟩ := HEr.out.ts.get hlt
          subst hA
          obtain ⟨t0, t1, t2, t3, t4⟩ := hat
          obtain ⟨⟨c0, c1, c2, c3, c4, c5⟩, _, _, _, _, _⟩ := HEr.out
          have hto := hB.ts k hlt
          have hh0 := hto.h0
          have hh1 := hto.h1
          have hh2 := hto.h2
          go_wp2_with fail
          refine (span_c _ _ _).mono ?_
          rintro e w2 ⟨rfl, hb2⟩
          have hbw : Below wr.heap.size wr w2 := bjoin hb2 ((Below.refl _ _).alloc (Nat.le_refl _) _) (by simp)
          have hbt := (Blk.new wr 67 (tV b.ts[k])).keep hb2
          have hgt : wr.heap.size < w2.heap.size := hbt.lt
          have hM2 := hM.keep hbw
          have hSS2 := hSS.keep hbw
          have HO2 := Lib.hid (own_keep HO.out hbw)
          have hsn2 := hsn.keep hbw
          have hgM2 : gM ≠ wr.heap.size := by omega
          have hgS2 : gS ≠ wr.heap.size := by omega
          clear c0 c1 c2 c3 c4 c5 t0 t1 t2 t3 t4
          have t1 := hbt.cell 1
          have t2 := hbt.cell 2
          have ft1 := hbt.frozen 1
          have ft2 := hbt.frozen 2
          have hbt3 : Blk ((w2.setCell ⟨wr.heap.size, 1, none⟩ (.int .i64 (b.ts[k].hlo + K))).setCell ⟨wr.heap.size, 2, none⟩ (.int .i64 (b.ts[k].hhi + K))) wr.heap.size 67 (tV (mvT K b.ts[k])) := (hbt.set 1 _).set 2 _
          have hM3 : Blk ((w2.setCell ⟨wr.heap.size, 1, none⟩ (.int .i64 (b.ts[k].hlo + K))).setCell ⟨wr.heap.size, 2, none⟩ (.int .i64 (b.ts[k].hhi + K))) gM 26 (mV b v) := (hM2.far (Ne.symm hgM2) _ _).far (Ne.symm hgM2) _ _
          have hSS3 : Blk ((w2.setCell ⟨wr.heap.size, 1, none⟩ (.int .i64 (b.ts[k].hlo + K))).setCell ⟨wr.heap.size, 2, none⟩ (.int .i64 (b.ts[k].hhi + K))) gS 28 (sV (mvS K s)) := (hSS2.far (Ne.symm hgS2) _ _).far (Ne.symm hgS2) _ _
          have m5 := hM3.cell 5
          have T0 := hbt3.cell 0
          have T1 := hbt3.cell 1
          have T2 := hbt3.cell 2
          have T3 := hbt3.cell 3
          have T4 := hbt3.cell 4
          have hqr : ∀ q, Value.ownBlock v = some q → q ≠ wr.heap.size := fun q hq => by
            have := (HO.out.lt q hq).2
            omega
          have HO3 : Hid (World.ownsRow ((w2.setCell ⟨wr.heap.size, 1, none⟩ (.int .i64 (b.ts[k].hlo + K))).setCell ⟨wr.heap.size, 2, none⟩ (.int .i64 (b.ts[k].hhi + K))) X7.heap.size 67 5 v k (tidVals ((mvB K b).ts.take k))) := own_setCell_ne (own_setCell_ne HO2.out hqr _ _) hqr _ _
          have hbn : Blk (((w2.setCell ⟨wr.heap.size, 1, none⟩ (.int .i64 (b.ts[k].hlo + K))).setCell ⟨wr.heap.size, 2, none⟩ (.int .i64 (b.ts[k].hhi + K))).alloc (.cells (tV (mvT K b.ts[k])) 67)) w2.heap.size 67 (tV (mvT K b.ts[k])) := by
            have := Blk.new ((w2.setCell ⟨wr.heap.size, 1, none⟩ (.int .i64 (b.ts[k].hlo + K))).setCell ⟨wr.heap.size, 2, none⟩ (.int .i64 (b.ts[k].hhi + K))) 67 (tV (mvT K b.ts[k]))
            simpa using this
          have HBN := Lib.hid hbn
          have hsn3 : Since X3 ((w2.setCell ⟨wr.heap.size, 1, none⟩ (.int .i64 (b.ts[k].hlo + K))).setCell ⟨wr.heap.size, 2, none⟩ (.int .i64 (b.ts[k].hhi + K))) := ⟨(hsn2.1.setCell (by have := hsn.2; simpa using this) _).setCell (by have := hsn.2; simpa using this) _, by simpa using hsn2.2⟩
          have hle : X7.heap.size ≤ w2.heap.size := by omega
          clear hbn
          go_wp2_with (first
            | (at_builtin; refine wpList_append_own _ rfl _ _ 24 rfl X7.heap.size 67 i0 (.agg #[.int .i64 0, .int .i64 0, .int .i64 0, .int .i64 0, .int .i64 0]) 5 40 Try.underlying24 HI.out HZ0.out HZ1.out HZ2.out rfl (by decide) _ _ _ rfl (HO3.out.alloc _) ⟨w2.heap.size, 0, none⟩ 1 1 [.int .i64 b.ts[k].day, .int .i64 (b.ts[k].hlo + K), .int .i64 (b.ts[k].hhi + K), .int .i64 b.ts[k].wlo, .int .i64 b.ts[k].whi] rfl rfl ?c1 ?c2 ?c3 ?c4 ?c5 ?_))
          case c1 => exact World.news_of_block HBN.out
          case c2 => intro u hu; simp at hu; rcases hu with rfl | rfl | rfl | rfl | rfl <;> rfl
          case c3 => unfold maxLen; omega
          case c4 => omega
          case c5 => simp; omega
          · intro v' w4 hown' hgrow _
            obtain ⟨gr, cap, rfl, _, _⟩ := World.ownsRow.form hown' (by omega)
            have hr : ∀ q, Value.ownBlock v = some q → X7.heap.size ≤ q := fun q hq => (HO.out.lt q hq).1
            have hsn4 := since_grown (hsn3.alloc _) hgrow (fun q hq => Nat.le_trans (by have := hsn7.2; omega) (hr q hq))
            have hM4 : Blk w4 gM 26 (mV b v) := (hgrow.block gM (by simp; omega) (fun e => by have := hr gM e.symm; omega)).trans (hM3.alloc _)
            have hSS4 : Blk w4 gS 28 (sV (mvS K s)) := (hgrow.block gS (by simp; omega) (fun e => by have := hr gS e.symm; omega)).trans (hSS3.alloc _)
            have hsz4 := hgrow.size
            have HO4 : Hid (w4.ownsRow X7.heap.size 67 5 (.slice (some ⟨gr, 0, none⟩) (k + 1) cap) (k + 1) (tidVals ((mvB K b).ts.take (k + 1)))) := by
              show World.ownsRow _ _ _ _ _ _ _
              rw [List.take_succ_eq_append_getElem (by rw [mvB_len]; exact hlt), tidVals_snoc]
              have e : (mvB K b).ts[k]'(by rw [mvB_len]; exact hlt) = mvT K b.ts[k] := by simp [mvB]
              rw [e]
              exact hown'
            have m5' := hM4.cell 5
            have fm5' := hM4.frozen 5
            clear hown' hgrow hr HO HO2 HO3 hM3 hM2 hM hSS3 hSS2 hSS hbt hbt3 m5 T0 T1 T2 T3 T4 t1 t2 ft1 ft2
            go_wp2_with fail
            go_roundw
            case rel => exact ⟨k + 1, _, by omega, by go_num, ⟨hsn4.1.setCell hgM _, by simpa using hsn4.2⟩, hM4.set 5 _, hSS4.far (Ne.symm hneq) _ _, by simp at hsz4 ⊢; omega, own_setCell HO4.out hgMl _ _⟩
            case measure => simp [intOf]; omega
        · obtain ⟨gr, cap, rfl, _, _⟩ := HO.out.form (by omega)
          obtain rfl : k = b.ts.length := by omega
          have htk : (mvB K b).ts.take b.ts.length = (mvB K b).ts := List.take_of_length_le (by rw [mvB_len]; omega)
          have hTS : TsAt wr (some ⟨gr, 0, none⟩) (mvB K b).ts := by
            have := HO.out
            rw [htk] at this
            exact tsAt_of_own this
          have ebv : bV (mvB K b) (some ⟨gr, 0, none⟩) cap = mV b (.slice (some ⟨gr, 0, none⟩) b.ts.length cap) := by simp [mvB]
          have HV := Lib.hid (fun (W : World) (h : TsAt W (some ⟨gr, 0, none⟩) (mvB K b).ts) => by have := valid_c (mvB K b) (mvS K s) (some ⟨gr, 0, none⟩) cap W h; rw [ebv] at this; exact this)
          have HR0 := Lib.hid (HR3.out.keep hsn.1)
          have HP0 := Lib.hid (HP3.out.keep hsn.1)
          have HM0 := Lib.hid hM
          have HS0 := Lib.hid hSS
          have HT0 := Lib.hid hTS
          clear hM hSS hTS htk HO
          obtain ⟨⟨c0, c1, c2, c3, c4, c5⟩, ⟨d0, d1, d2⟩, _, _, _, _⟩ := HEr.out
          have M0 := HM0.out.cell 0; have M1 := HM0.out.cell 1; have M2 := HM0.out.cell 2; have M3 := HM0.out.cell 3; have M4 := HM0.out.cell 4; have M5 := HM0.out.cell 5; have S0 := HS0.out.cell 0; have S1 := HS0.out.cell 1; have S2 := HS0.out.cell 2
          go_wp2_with fail
          refine (HV.out _ HT0.out).mono ?_
          rintro e w9 ⟨rfl, hb⟩
          clear c0 c1 c2 c3 c4 c5 d0 d1 d2
          clear M0 M1 M2 M3 M4 M5 S0 S1 S2
          have HE9 := Lib.hid (HEr.out.keep hb)
          have HR9 := Lib.hid (HR0.out.keep hb)
          have HP9 := Lib.hid (HP0.out.keep hb)
          have HM9 := Lib.hid (HM0.out.keep hb)
          have HS9 := Lib.hid (HS0.out.keep hb)
          have HT9 := Lib.hid (HT0.out.keep hb)
          clear hb HEr HR0 HP0 HM0 HS0 HT0 HV
          rcases mv_err (k := K) hk with hmv | hmv
          · obtain ⟨a0, a1, L1, L2⟩ := moved_vals hk hmv hrk hpok' hpe
            have HL := Lib.hid (fun (W : World) (h : TsAt W (some ⟨gr, 0, none⟩) (mvB K b).ts) (h2 : PuAt W Q ps) => by have := tlies_c (mvB K b) (mvS K s) (some ⟨gr, 0, none⟩) cap run Q ps qc W h h2; rw [ebv, L2] at this; exact this)
            obtain ⟨n, hn⟩ : ∃ n : Nat, run.bal = n := ⟨run.bal.toNat, by have := hrk.b0; omega⟩
            have hn40 : n ≤ 40 := by have := hrk.b1; omega
            obtain ⟨L, hL⟩ : ∃ L, ashL b s n b.ts.length = L := ⟨_, rfl⟩
            have hLn : L.length ≤ 12 := by
              have := ashL_len b s n b.ts.length
              rw [hL] at this
              omega
            have HC : Hid (∀ W : World, TsAt W A b.ts → Calls Try.prog 20 #[.agg (bV b A c), .agg (sV s), .int .i64 run.bal] W fun e w' => (∃ P pc, e = .returned (.tuple #[.slice P L.length pc, .int .i64 0]) ∧ InAt w' P L) ∧ Below W.heap.size W w') := fun W hW => by
              rw [hn]
              refine (ashore_c b s A c (n : Int) W hW).mono ?_
              rintro e w' ⟨h1, h2⟩
              have h0 : stepE b s 0 (n : Int) = 0 := by rw [stepE_run hk, runE_zero]; omega
              rcases h1 with ⟨h9, _⟩ | ⟨_, v, he, hv⟩
              · exact absurd h0 h9
              · rw [Int.toNat_natCast, hL] at hv
                obtain ⟨P, pc, rfl, hin⟩ := hv.slice
                exact ⟨⟨P, pc, he, hin⟩, h2⟩
            have HC2 : Hid (∀ W : World, TsAt W (some ⟨gr, 0, none⟩) (mvB K b).ts → Calls Try.prog 20 #[.agg (mV b (.slice (some ⟨gr, 0, none⟩) b.ts.length cap)), .agg (sV (mvS K s)), .int .i64 run.bal] W fun e w' => (∃ P pc, e = .returned (.tuple #[.slice P L.length pc, .int .i64 0]) ∧ InAt w' P L) ∧ Below W.heap.size W w') := fun W hW => by
              rw [hn, ← ebv]
              refine (ashore_c (mvB K b) (mvS K s) (some ⟨gr, 0, none⟩) cap (n : Int) W hW).mono ?_
              rintro e w' ⟨h1, h2⟩
              have h0 : stepE (mvB K b) (mvS K s) 0 (n : Int) = 0 := by rw [stepE_run hmv, runE_zero, mvB_len]; omega
              rcases h1 with ⟨h9, _⟩ | ⟨_, v, he, hv⟩
              · exact absurd h0 h9
              · rw [Int.toNat_natCast, ash_mv, hL] at hv
                obtain ⟨P, pc, rfl, hin⟩ := hv.slice
                exact ⟨⟨P, pc, he, hin⟩, h2⟩
            clear hL hn L2
            rw [decide_eq_true hmv]
            clear hmv ebv
            obtain ⟨⟨c0, c1, c2, c3, c4, c5⟩, ⟨d0, d1, d2⟩, _, _, _, _⟩ := HE9.out; obtain ⟨r0, r1⟩ := HR9.out
            have M0 := HM9.out.cell 0; have M1 := HM9.out.cell 1; have M2 := HM9.out.cell 2; have M3 := HM9.out.cell 3; have M4 := HM9.out.cell 4; have M5 := HM9.out.cell 5; have S0 := HS9.out.cell 0; have S1 := HS9.out.cell 1; have S2 := HS9.out.cell 2
            go_wp2_with fail
            refine (tlies_c b s A c run Q ps qc _ HE9.out.ts HP9.out).mono ?_
            rintro e w10 ⟨rfl, hb⟩
            rw [L1]
            clear c0 c1 c2 c3 c4 c5 d0 d1 d2 r0 r1
            clear M0 M1 M2 M3 M4 M5 S0 S1 S2
            have hbn := hb.alloc hb.size (.cells #[.int .i64 a0, .int .i64 a1] 23)
            have HE10 := Lib.hid (HE9.out.keep hbn)
            have HR10 := Lib.hid (HR9.out.keep hbn)
            have HP10 := Lib.hid (HP9.out.keep hbn)
            have HM10 := Lib.hid (HM9.out.keep hbn)
            have HS10 := Lib.hid (HS9.out.keep hbn)
            have HT10 := Lib.hid (HT9.out.keep hbn)
            have HA10 := Lib.hid (show C2 w10.heap.size a0 a1 _ from (Blk.new w10 23 #[.int .i64 a0, .int .i64 a1]).span)
            clear hb hbn HE9 HR9 HP9 HM9 HS9 HT9
            obtain ⟨⟨c0, c1, c2, c3, c4, c5⟩, ⟨d0, d1, d2⟩, _, _, _, _⟩ := HE10.out; obtain ⟨r0, r1⟩ := HR10.out
            have M0 := HM10.out.cell 0; have M1 := HM10.out.cell 1; have M2 := HM10.out.cell 2; have M3 := HM10.out.cell 3; have M4 := HM10.out.cell 4; have M5 := HM10.out.cell 5; have S0 := HS10.out.cell 0; have S1 := HS10.out.cell 1; have S2 := HS10.out.cell 2
            go_wp2_with fail
            obtain ⟨gA, hg⟩ : ∃ gA, w10.heap.size = gA := ⟨_, rfl⟩
            rw [hg] at HA10 ⊢
            clear hg
            refine (HL.out _ HT10.out HP10.out).mono ?_
            rintro e w11 ⟨rfl, hb⟩
            clear c0 c1 c2 c3 c4 c5 d0 d1 d2 r0 r1
            clear M0 M1 M2 M3 M4 M5 S0 S1 S2
            have hbn := hb.alloc hb.size (.cells #[.int .i64 a0, .int .i64 a1] 23)
            have HE11 := Lib.hid (HE10.out.keep hbn)
            have HR11 := Lib.hid (HR10.out.keep hbn)
            have HP11 := Lib.hid (HP10.out.keep hbn)
            have HM11 := Lib.hid (HM10.out.keep hbn)
            have HS11 := Lib.hid (HS10.out.keep hbn)
            have HT11 := Lib.hid (HT10.out.keep hbn)
            have HA11 := Lib.hid (HA10.out.keep hbn)
            have HB11 := Lib.hid (show C2 w11.heap.size a0 a1 _ from (Blk.new w11 23 #[.int .i64 a0, .int .i64 a1]).span)
            clear hb hbn HE10 HR10 HP10 HM10 HS10 HT10 HA10
            obtain ⟨⟨c0, c1, c2, c3, c4, c5⟩, ⟨d0, d1, d2⟩, _, _, _, _⟩ := HE11.out; obtain ⟨r0, r1⟩ := HR11.out
            have M0 := HM11.out.cell 0; have M1 := HM11.out.cell 1; have M2 := HM11.out.cell 2; have M3 := HM11.out.cell 3; have M4 := HM11.out.cell 4; have M5 := HM11.out.cell 5; have S0 := HS11.out.cell 0; have S1 := HS11.out.cell 1; have S2 := HS11.out.cell 2
            go_wp2_with fail
            obtain ⟨gB, hg⟩ : ∃ gB, w11.heap.size = gB := ⟨_, rfl⟩
            rw [hg] at HB11 ⊢
            clear hg
            refine (HC.out _ HE11.out.ts).mono ?_
            rintro e w12 ⟨⟨P2, p2, rfl, hI2⟩, hb⟩
            clear c0 c1 c2 c3 c4 c5 d0 d1 d2 r0 r1
            clear M0 M1 M2 M3 M4 M5 S0 S1 S2
            have HE12 := Lib.hid (HE11.out.keep hb)
            have HR12 := Lib.hid (HR11.out.keep hb)
            have HP12 := Lib.hid (HP11.out.keep hb)
            have HM12 := Lib.hid (HM11.out.keep hb)
            have HS12 := Lib.hid (HS11.out.keep hb)
            have HT12 := Lib.hid (HT11.out.keep hb)
            have HA12 := Lib.hid (HA11.out.keep hb)
            have HB12 := Lib.hid (HB11.out.keep hb)
            have HI12 := Lib.hid hI2
            clear hb hI2 HE11 HR11 HP11 HM11 HS11 HT11 HA11 HB11
            obtain ⟨⟨c0, c1, c2, c3, c4, c5⟩, ⟨d0, d1, d2⟩, _, _, _, _⟩ := HE12.out; obtain ⟨r0, r1⟩ := HR12.out
            have M0 := HM12.out.cell 0; have M1 := HM12.out.cell 1; have M2 := HM12.out.cell 2; have M3 := HM12.out.cell 3; have M4 := HM12.out.cell 4; have M5 := HM12.out.cell 5; have S0 := HS12.out.cell 0; have S1 := HS12.out.cell 1; have S2 := HS12.out.cell 2
            go_wp2_with fail
            refine (HC2.out _ HT12.out).mono ?_
            rintro e w13 ⟨⟨P3, p3, rfl, hI3⟩, hb⟩
            clear c0 c1 c2 c3 c4 c5 d0 d1 d2 r0 r1
            clear M0 M1 M2 M3 M4 M5 S0 S1 S2
            have HE13 := Lib.hid (HE12.out.keep hb)
            obtain ⟨A0, A1⟩ := HA12.out.keep hb
            obtain ⟨B0, B1⟩ := HB12.out.keep hb
            have HI13 := Lib.hid (HI12.out.keep hb)
            have HJ13 := Lib.hid hI3
            clear hb hI3 HI12 HE12 HR12 HP12 HM12 HS12 HT12 HA12 HB12
            go_wp2_with fail
            go_loopw [24] (fun i wx => ∃ k : Nat, k ≤ L.length ∧ i = .int .i64 k ∧ InAt wx P2 L ∧ InAt wx P3 L ∧ Since w wx) (fun i _ => L.length - (intOf i).toNat)
            case atStart => exact ⟨0, Nat.zero_le _, rfl, HI13.out, HJ13.out, HE13.out.sn⟩
            case round =>
              obtain ⟨k, hkL, rfl, hi2, hi3, hsw⟩ := hrel
              by_cases hlt : k < L.length
              · obtain ⟨a2, hA2, _⟩ := hi2.get hlt
                obtain ⟨a3, hA3, _⟩ := hi3.get hlt
                subst hA2
                subst hA3
                go_wp2_with fail
                refine Vals9.region (fun _ X => InAt X (some a2) L ∧ InAt X (some a3) L ∧ Since w X) [some 167, some 168, some 169, some 170, some 171, some 172, some 173, some 174, some 175] [.is (.slice (some a2) L.length p2), .is (.int .i64 (k : Int)), .is (.pointer (some (a2.add k))), .is (.int .i64 L[k]), .is (.slice (some a3) L.length p3), .is (.int .i64 (k : Int)), .is (.pointer (some (a3.add k))), .is (.int .i64 L[k]), .is (.bool false)] (by kernel_rfl) (by kernel_rfl) (by kernel_rfl) (by kernel_rfl) (by kernel_rfl) (by kernel_rfl) (⟨hi2, hi3, hsw.drew⟩) ?_ ?_
                · refine Vals9.Steps.run (by kernel_rfl) ?_ ?_
                  · intro a W σ hJ pre K hK
                    have e20 : a.tmps.getD 20 undef = .slice (some a2) L.length p2 := pre.2.2 20 _ (by kernel_rfl) rfl
                    clear pre
                    simp only [Array.getD_eq_getD_getElem?] at e20
                    go_simp
                    exact hK _ hJ
                  refine Vals9.Steps.run (by kernel_rfl) ?_ ?_
                  · intro a W σ hJ pre K hK
                    have e24 : a.tmps.getD 24 undef = .int .i64 (k : Int) := pre.2.2 24 _ (by kernel_rfl) rfl
                    clear pre
                    simp only [Array.getD_eq_getD_getElem?] at e24
                    go_simp
                    exact hK _ hJ
                  refine Vals9.Steps.run (by kernel_rfl) ?_ ?_
                  · intro a W σ hJ pre K hK
                    have e167 : a.tmps.getD 167 undef = .slice (some a2) L.length p2 := pre.1 0 167 _ (by kernel_rfl) rfl rfl
                    have e168 : a.tmps.getD 168 undef = .int .i64 (k : Int) := pre.1 1 168 _ (by kernel_rfl) rfl rfl
                    clear pre
                    simp only [Array.getD_eq_getD_getElem?] at e167 e168
                    go_simp
                    exact hK _ hJ
                  refine Vals9.Steps.run (by kernel_rfl) ?_ ?_
                  · intro a W σ hJ pre K hK
                    have e169 : a.tmps.getD 169 undef = .pointer (some (a2.add k)) := pre.1 2 169 _ (by kernel_rfl) rfl rfl
                    clear pre
                    simp only [Array.getD_eq_getD_getElem?] at e169
                    have hS9 := hJ
                    obtain ⟨i2, i3, _⟩ := hS9
                    obtain ⟨b2, q2, y2⟩ := i2.get hlt
                    obtain rfl : a2 = b2 := by simpa using q2
                    obtain ⟨b3, q3, y3⟩ := i3.get hlt
                    obtain rfl : a3 = b3 := by simpa using q3
                    go_simp
                    exact hK _ hJ
                  refine Vals9.Steps.run (by kernel_rfl) ?_ ?_
                  · intro a W σ hJ pre K hK
                    have e22 : a.tmps.getD 22 undef = .slice (some a3) L.length p3 := pre.2.2 22 _ (by kernel_rfl) rfl
                    clear pre
                    simp only [Array.getD_eq_getD_getElem?] at e22
                    go_simp
                    exact hK _ hJ
                  refine Vals9.Steps.run (by kernel_rfl) ?_ ?_
                  · intro a W σ hJ pre K hK
                    have e24 : a.tmps.getD 24 undef = .int .i64 (k : Int) := pre.2.2 24 _ (by kernel_rfl) rfl
                    clear pre
                    simp only [Array.getD_eq_getD_getElem?] at e24
                    go_simp
                    exact hK _ hJ
                  refine Vals9.Steps.run (by kernel_rfl) ?_ ?_
                  · intro a W σ hJ pre K hK
                    have e171 : a.tmps.getD 171 undef = .slice (some a3) L.length p3 := pre.1 4 171 _ (by kernel_rfl) rfl rfl
                    have e172 : a.tmps.getD 172 undef = .int .i64 (k : Int) := pre.1 5 172 _ (by kernel_rfl) rfl rfl
                    clear pre
                    simp only [Array.getD_eq_getD_getElem?] at e171 e172
                    go_simp
                    exact hK _ hJ
                  refine Vals9.Steps.run (by kernel_rfl) ?_ ?_
                  · intro a W σ hJ pre K hK
                    have e173 : a.tmps.getD 173 undef = .pointer (some (a3.add k)) := pre.1 6 173 _ (by kernel_rfl) rfl rfl
                    clear pre
                    simp only [Array.getD_eq_getD_getElem?] at e173
                    have hS9 := hJ
                    obtain ⟨i2, i3, _⟩ := hS9
                    obtain ⟨b2, q2, y2⟩ := i2.get hlt
                    obtain rfl : a2 = b2 := by simpa using q2
                    obtain ⟨b3, q3, y3⟩ := i3.get hlt
                    obtain rfl : a3 = b3 := by simpa using q3
                    go_simp
                    exact hK _ hJ
                  refine Vals9.Steps.run (by kernel_rfl) ?_ ?_
                  · intro a W σ hJ pre K hK
                    have e170 : a.tmps.getD 170 undef = .int .i64 L[k] := pre.1 3 170 _ (by kernel_rfl) rfl rfl
                    have e174 : a.tmps.getD 174 undef = .int .i64 L[k] := pre.1 7 174 _ (by kernel_rfl) rfl rfl
                    clear pre
                    simp only [Array.getD_eq_getD_getElem?] at e170 e174
                    go_simp
                    exact hK _ hJ
                  exact Vals9.Steps.nil
                · rintro X σ ⟨hi2, hi3, hsw⟩
                  simp only [Vals9.All]
                  simp only [Vals.putAll, List.setIfInBounds_toArray, List.set_cons_zero, List.set_cons_succ]
                  go_wp2_with fail
                  go_roundw
                  case rel => exact ⟨k + 1, by omega, by go_num, hi2, hi3, hsw⟩
                  case measure => simp [intOf]; omega
              · go_wp2_with fail
                refine (awake_c _).mono ?_
                rintro e w17 ⟨rfl, hb⟩
                go_wp2_with fail
                go_ret
                exact ⟨rfl, (hsw.keep hb).1⟩
          · have hne7 : (chk (mvB K b) (mvS K s)).2.2 ≠ 0 := by rw [hmv]; decide
            have HL := Lib.hid (fun (W : World) (h : TsAt W (some ⟨gr, 0, none⟩) (mvB K b).ts) (h2 : PuAt W Q ps) => by have := tlies_c (mvB K b) (mvS K s) (some ⟨gr, 0, none⟩) cap run Q ps qc W h h2; rw [ebv, liesV_bad hne7, hmv] at this; exact this)
            rw [decide_eq_false hne7]
            clear hmv hne7 ebv
            obtain ⟨⟨c0, c1, c2, c3, c4, c5⟩, ⟨d0, d1, d2⟩, _, _, _, _⟩ := HE9.out; obtain ⟨r0, r1⟩ := HR9.out
            have M0 := HM9.out.cell 0; have M1 := HM9.out.cell 1; have M2 := HM9.out.cell 2; have M3 := HM9.out.cell 3; have M4 := HM9.out.cell 4; have M5 := HM9.out.cell 5; have S0 := HS9.out.cell 0; have S1 := HS9.out.cell 1; have S2 := HS9.out.cell 2
            go_wp2_with fail
            refine (HL.out _ HT9.out HP9.out).mono ?_
            rintro e w10 ⟨rfl, hb⟩
            clear c0 c1 c2 c3 c4 c5 d0 d1 d2 r0 r1
            clear M0 M1 M2 M3 M4 M5 S0 S1 S2
            have HE10 := Lib.hid (HE9.out.keep (hb.alloc hb.size (.cells #[.int .i64 0, .int .i64 0] 23)))
            go_wp2_with fail
            refine (awake_c _).mono ?_
            rintro e w17 ⟨rfl, hb⟩
            go_wp2_with fail
            go_ret
            exact ⟨rfl, (HE10.out.keep hb).sn.1⟩
  · have HD : Hid (decide ((chk b s).2.2 = 0) = false) := decide_eq_false hk
    clear hk
    go_enter Try.func15, Try.ntmps15
    go_wp2_with fail
    refine (valid_c b s A c _ HE0.out.ts).mono ?_
    rintro e w1 ⟨rfl, hb1⟩
    rw [HD.out]
    have HE1 := Lib.hid (HE0.out.keep hb1)
    clear HE0 hb1
    go_wp2_with fail
    refine (awake_c _).mono ?_
    rintro e w3 ⟨rfl, hb3⟩
    go_wp2_with fail
    go_ret
    exact ⟨rfl, (HE1.out.keep hb3).sn.1⟩
end Td
end Go.Proofs.Ytojpiliamecgkaa
