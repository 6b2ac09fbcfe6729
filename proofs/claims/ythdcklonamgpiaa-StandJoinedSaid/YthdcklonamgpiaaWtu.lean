import Derived.Test.YthdcklonamgpiaaBrs
import Derived.Test.YthdcklonamgpiaaMathE
import Derived.Test.YthdcklonamgpiaaBkl
/- The law StandTurned: what it returns. -/
namespace Go.Proofs.Ythdcklonamgpiaa
open Go.RowKit
namespace Td
set_option linter.unusedSimpArgs false
set_option linter.unusedVariables false
attribute [local go_sem] Oper.semAt_some
theorem bk_take (l : List Prt) {k : Nat} (hk : k < l.length) : ((l.take (k + 1)).map bkP) = (l.take k).map bkP ++ [bkP l[k]] := by
  rw [List.take_succ_eq_append_getElem hk, List.map_append]; rfl
theorem leaC {h : Hul} {v p q r : Int} (m : Sl) (w : World) (hp : HAt w m h) (hA : leastA h v = ((p, q, r), 0)) : Calls Try.prog 19 #[.agg (hV h m), .int .i64 v] w fun e w' => e = .returned (.tuple #[.agg #[.int .i64 p, .int .i64 q, .int .i64 r], .int .i64 0]) ∧ Below w.heap.size w w' := by
  have k := Least_c h m v w hp
  rw [hA] at k
  exact k
theorem bal_good {h : Hul} {gs ls : List Int} {wt : Int} (hc : (chk h).2.2 = 0) (ht : TOk h gs ls) (w0 : 0 ≤ wt) (w1 : wt ≤ 1000) : balanceA h gs ls wt = ((bal h gs ls 0 wt, bal h gs ls 1 wt, bal h gs ls 2 wt), 0) := by
  have hE := balE_ok.2 ⟨hc, ht, w0, w1⟩
  unfold balanceA; rw [if_neg (by simpa using hE)]
theorem lea_good {h : Hul} {wt : Int} (hc : (chk h).2.2 = 0) (w0 : 0 ≤ wt) (w1 : wt ≤ 1000) : leastA h wt = ((lst h 0 wt, lst h 1 wt, lst h 2 wt), 0) := by
  have hE : lookE h wt wt = 0 := lookE_ok.2 ⟨hc, w0, Int.le_refl _, w1⟩
  unfold leastA; rw [if_neg (by simpa using hE)]
set_option maxRecDepth 100000 in
set_option maxHeartbeats 8000000 in
theorem standTurned_c (h : Hul) (m : Sl) (a0 a1 aw : Nat) (P : Option Addr) (U : List Int) (pc : Nat) (w : World) (hp : HAt w m h) (hu : U32At w P U) (ho : U32Ok U) (b2 : aw ≤ 65535) :
    Calls Try.prog 13 #[.agg (hV h m), .agg (xV a0 a1 aw P U.length pc)] w fun e w' => e = .returned (.bool true) ∧ Below w.heap.size w w' := by
  have hs := ((Since.refl w).alloc (.cells (hV h m) 24)).alloc (.cells (xV a0 a1 aw P U.length pc) 63)
  have HB := Lib.hid ((Blk.new w 24 (hV h m)).alloc (.cells (xV a0 a1 aw P U.length pc) 63))
  have HX := Lib.hid (Blk.new1 w (.cells (hV h m) 24) 63 (xV a0 a1 aw P U.length pc))
  have HP := Lib.hid hp
  have HU := Lib.hid hu
  have HO := Lib.hid ho
  clear hp hu ho
  obtain ⟨c0, c1, c2⟩ := HB.out.hull
  go_enter Try.func13, Try.ntmps13
  go_wp2_with fail
  refine (valid_c h m _ (HP.out.keep hs.1)).mono ?_
  rintro e w1 ⟨rfl, hb⟩
  replace hs := hs.keep hb
  replace HB := Lib.hid (HB.out.keep hb)
  replace HX := Lib.hid (HX.out.keep hb)
  clear hb c0 c1 c2
  by_cases hc : (chk h).2.2 = 0
  · rw [decide_eq_true hc]
    have HC := Lib.hid hc
    have hh := chk_ok hc
    have HH := Lib.hid hh
    have hn10 := hh.n10
    clear hc
    obtain ⟨wt, hwt⟩ : ∃ wt, (aw : Int) % 1001 = wt := ⟨_, rfl⟩
    have w0 : 0 ≤ wt := by rw [← hwt]; exact Int.emod_nonneg _ (by decide)
    have w1' : wt ≤ 1000 := by have := Int.emod_lt_of_pos (aw : Int) (show (0 : Int) < 1001 by decide); omega
    have eA : IntKind.i64.wrap (aw : Int) = aw := IntWalk.i64_in _ (by omega)
    have eR : (aw : Int).tmod 1001 = wt := by rw [Int.tmod_eq_emod_of_nonneg (by omega)]; exact hwt
    have eW : IntKind.i64.wrap wt = wt := IntWalk.i64_in _ (by omega)
    clear hwt
    go_wp2_with fail
    obtain ⟨gs, hgs⟩ : ∃ gs, gL h U h.parts.length = gs := ⟨_, rfl⟩
    obtain ⟨ls, hls⟩ : ∃ ls, lL h U h.parts.length = ls := ⟨_, rfl⟩
    have HT := turns_ok hh U
    rw [hgs, hls] at HT
    have HTO := Lib.hid HT
    have HTR := Lib.hid (fun W (hS : Since w W) => truth_c h m P U pc W hh (HP.out.keep hS.1) (HU.out.keep hS.1) HO.out)
    rw [hgs, hls] at HTR
    clear HT hgs hls hh
    refine Vals9.region (fun σ Z => Pw w (hV h m) (xV a0 a1 aw P U.length pc) gs ls 3 8 9 σ Z) [some 22, some 23, some 24, some 25, some 26, some 27, some 28, some 29, some 5, none, some 6] [.is ?_, .is ?_, .is ?_, .any, .is ?_, .is ?_, .is ?_, .is ?_, .any, .any, .is ?_] (by kernel_rfl) (by kernel_rfl) (by kernel_rfl) (by kernel_rfl) (by kernel_rfl) (by kernel_rfl) (⟨hs.drew, HB.out.drew, HX.out.drew, (fun v hv => by cases hv), (fun v hv => by cases hv), (fun k => absurd rfl k)⟩) ?hsteps ?hfin
    case hsteps =>
      refine Vals9.Steps.run rfl ?_ ?_
      · intro a W σ hJ pre K hK
        have e2 := pre.2.2 2 _ (by kernel_rfl) rfl
        clear pre
        simp only [Array.getD_eq_getD_getElem?, List.getElem?_toArray, List.getElem?_cons_zero, List.getElem?_cons_succ, Option.getD_some] at e2
        have hS9 := hJ
        obtain ⟨c0, c1, c2⟩ := hJ.hb.hull
        have x2 := hJ.xb.cell 2
        have x3 := hJ.xb.cell 3
        simp only [List.getElem?_toArray, List.getElem?_cons_zero, List.getElem?_cons_succ] at x2 x3
        go_simp
        exact hK _ hJ
      refine Vals9.Steps.run rfl ?_ ?_
      · intro a W σ hJ pre K hK
        have e3 := pre.2.2 3 _ (by kernel_rfl) rfl
        clear pre
        simp only [Array.getD_eq_getD_getElem?, List.getElem?_toArray, List.getElem?_cons_zero, List.getElem?_cons_succ, Option.getD_some] at e3
        go_simp
        exact hK _ hJ
      refine Vals9.Steps.run rfl ?_ ?_
      · intro a W σ hJ pre K hK
        have e23 := pre.1 1 23 _ (by kernel_rfl) rfl rfl
        clear pre
        simp only [Array.getD_eq_getD_getElem?, List.getElem?_toArray, List.getElem?_cons_zero, List.getElem?_cons_succ, Option.getD_some] at e23
        have hS9 := hJ
        obtain ⟨c0, c1, c2⟩ := hJ.hb.hull
        have x2 := hJ.xb.cell 2
        have x3 := hJ.xb.cell 3
        simp only [List.getElem?_toArray, List.getElem?_cons_zero, List.getElem?_cons_succ] at x2 x3
        go_simp
        exact hK _ hJ
      refine Vals9.Steps.mark rfl ?_ ?_
      · intro a W σ hJ hn pre K hK
        have e22 := pre.1 0 22 _ (by kernel_rfl) rfl rfl
        have e24 := pre.1 2 24 _ (by kernel_rfl) rfl rfl
        simp only [Array.getD_eq_getD_getElem?, List.getElem?_toArray, List.getElem?_cons_zero, List.getElem?_cons_succ, Option.getD_some] at e22 e24
        have hC := HTR.out W hJ.sn
        go_simp
        refine hC.mono ?_
        rintro e w' ⟨⟨v, rfl, GA, gc, LA, lc, rfl, hg, hl, hcc, -, -⟩, hb'⟩
        have hJ' := hJ.keep hb'
        refine hK _ _ ⟨hJ'.sn, hJ'.hb, hJ'.xb, fun v hv => ?_, fun v hv => ?_, fun k => ?_⟩
        · rw [Vals9.upd_same] at hv; cases hv; exact ⟨GA, gc, LA, lc, rfl, hg, hl, hcc, fun _ _ => Nat.zero_le _, fun _ _ => Nat.zero_le _⟩
        · rw [Vals9.upd_other _ _ (by decide)] at hv ⊢; exact hJ'.nw v hv
        · rw [Vals9.upd_other _ _ (by decide)] at k ⊢; exact hJ'.wn k
      refine Vals9.Steps.run rfl ?_ ?_
      · intro a W σ hJ pre K hK
        have e3 := pre.2.2 3 _ (by kernel_rfl) rfl
        clear pre
        simp only [Array.getD_eq_getD_getElem?, List.getElem?_toArray, List.getElem?_cons_zero, List.getElem?_cons_succ, Option.getD_some] at e3
        go_simp
        exact hK _ hJ
      refine Vals9.Steps.run rfl ?_ ?_
      · intro a W σ hJ pre K hK
        have e26 := pre.1 4 26 _ (by kernel_rfl) rfl rfl
        clear pre
        simp only [Array.getD_eq_getD_getElem?, List.getElem?_toArray, List.getElem?_cons_zero, List.getElem?_cons_succ, Option.getD_some] at e26
        have hS9 := hJ
        obtain ⟨c0, c1, c2⟩ := hJ.hb.hull
        have x2 := hJ.xb.cell 2
        have x3 := hJ.xb.cell 3
        simp only [List.getElem?_toArray, List.getElem?_cons_zero, List.getElem?_cons_succ] at x2 x3
        go_simp
        exact hK _ hJ
      refine Vals9.Steps.run rfl ?_ ?_
      · intro a W σ hJ pre K hK
        have e27 := pre.1 5 27 _ (by kernel_rfl) rfl rfl
        clear pre
        simp only [Array.getD_eq_getD_getElem?, List.getElem?_toArray, List.getElem?_cons_zero, List.getElem?_cons_succ, Option.getD_some] at e27
        go_simp
        exact hK _ hJ
      refine Vals9.Steps.run rfl ?_ ?_
      · intro a W σ hJ pre K hK
        have e28 := pre.1 6 28 _ (by kernel_rfl) rfl rfl
        clear pre
        simp only [Array.getD_eq_getD_getElem?, List.getElem?_toArray, List.getElem?_cons_zero, List.getElem?_cons_succ, Option.getD_some] at e28
        go_simp
        exact hK _ hJ
      refine Vals9.Steps.mark rfl ?_ ?_
      · intro a W σ hJ hn pre K hK
        have hw := hJ.wn
        have hlt := hJ.xb.lt
        go_simp
        have hJ' := hJ.keep ((Below.refl _ _).alloc (Nat.le_refl _) (.cells #[.slice none 0 0, .slice none 0 0] 27))
        have h9 : σ 9 = none := by cases h9 : σ 9 with | none => rfl | some q => exact absurd hn (hw (by rw [h9]; exact fun e => by cases e))
        refine hK _ _ ⟨hJ'.sn, hJ'.hb, hJ'.xb, fun v hv => ?_, fun v hv => ?_, fun k => ?_⟩
        · rw [Vals9.upd_other _ _ (by decide)] at hv; exact hJ'.tr v hv
        · rw [Vals9.upd_same] at hv; cases hv; exact ⟨_, rfl, by omega, fun _ => Blk.new _ _ _, fun k => absurd ((Vals9.upd_other _ _ (by decide)).trans h9) k⟩
        · rw [Vals9.upd_other _ _ (by decide)] at k; exact absurd h9 k
      refine Vals9.Steps.mark rfl ?_ ?_
      · intro a W σ hJ hn pre K hK
        obtain ⟨v5, s5, e5⟩ := pre.2.1 8 (by kernel_rfl) rfl
        replace e5 : a.tmps.getD 5 undef = v5 := e5 5 rfl
        obtain ⟨v25, s25, e25⟩ := pre.2.1 3 (by kernel_rfl) rfl
        replace e25 : a.tmps.getD 25 undef = v25 := e25 25 rfl
        simp only [Array.getD_eq_getD_getElem?, List.getElem?_toArray, List.getElem?_cons_zero, List.getElem?_cons_succ, Option.getD_some] at e5 e25
        obtain ⟨GA, gc, LA, lc, hv, hg, hl, hcc, -, -⟩ := hJ.tr _ s25
        obtain ⟨g, e, e1, e2, -⟩ := hJ.nw _ s5
        have e2 := e2 hn
        rw [hv] at e25
        rw [e] at e5
        have hx : a.eval (.tmp 5) = .pointer (some ⟨g, 0, none⟩) := by go_simp
        have hy : a.eval (.tmp 25) = .agg (tV GA gs.length gc LA ls.length lc) := by go_simp
        refine wp_store_row 27 _ _ rfl g (tV GA gs.length gc LA ls.length lc) hx hy 27 _ e2 (by kernel_rfl) rfl (by simp [Value.oneCell']) ?_
        refine hK _ _ ⟨hJ.sn.row (by omega) _, hJ.hb.rowFar (by omega) _, hJ.xb.rowFar (by omega) _, fun v hv2 => ?_, fun v hv2 => ?_, fun k => ?_⟩
        · rw [Vals9.upd_other _ _ (by decide), s25] at hv2; cases hv2; exact ⟨GA, gc, LA, lc, hv, hg.put e2 _, hl.put e2 _, by assumption, fun _ _ => Nat.zero_le _, fun _ _ => Nat.zero_le _⟩
        · rw [Vals9.upd_other _ _ (by decide), s5] at hv2; cases hv2; exact ⟨g, e, e1, (fun k => by rw [Vals9.upd_same] at k; cases k), (fun _ => ⟨GA, gc, LA, lc, e2.row _, hg.put e2 _, hl.put e2 _⟩)⟩
        · rw [Vals9.upd_other _ _ (by decide), s5]; exact fun e => by cases e
      refine Vals9.Steps.run rfl ?_ ?_
      · intro a W σ hJ pre K hK
        have e29 := pre.1 7 29 _ (by kernel_rfl) rfl rfl
        clear pre
        simp only [Array.getD_eq_getD_getElem?, List.getElem?_toArray, List.getElem?_cons_zero, List.getElem?_cons_succ, Option.getD_some] at e29
        go_simp
        exact hK _ hJ
      exact Vals9.Steps.nil
    case hfin =>
      rintro X σ hJ
      simp only [Vals9.All]
      rintro v3 s3 v8 s8 v9 s9
      simp only [Vals.putAll, List.setIfInBounds_toArray, List.set_cons_zero, List.set_cons_succ]
      obtain ⟨gT, rfl, e1, -, e3⟩ := hJ.nw _ s8
      obtain ⟨GA, gc, LA, lc, hT, hG, hL⟩ := e3 (by rw [s9]; exact fun e => by cases e)
      replace hs := hJ.sn
      replace HB := Lib.hid hJ.hb
      have HT := Lib.hid hT
      have HG := Lib.hid hG
      have HL := Lib.hid hL
      have HGT := Lib.hid e1
      clear hJ s3 s8 s9 e1 e3 hT hG hL HX HTR
      clear eA eR eW
      have hf1 := HH.out.a0
      have hf2 := HH.out.af
      have hf3 := HH.out.f1
      have e1 : IntKind.i64.wrap (5000 - h.fore) = 5000 - h.fore := IntWalk.i64_in _ (by omega)
      have e2 : IntKind.i64.wrap (5000 - h.aft) = 5000 - h.aft := IntWalk.i64_in _ (by omega)
      obtain ⟨c0, c1, c2⟩ := HB.out.hull
      have HW : Hid (Since X X) := Since.refl X
      have HPX := Lib.hid (HP.out.keep hs.1)
      have HK : Hid (Bh X (X.heap.size + 1) X.heap.size (.slice none 0 0) (5000 - h.fore) (5000 - h.aft) ((h.parts.take 0).map bkP) (X.alloc (.cells #[.slice none 0 0, .int .i64 (5000 - h.fore), .int .i64 (5000 - h.aft)] 24))) := ⟨(Since.refl X).alloc _, Blk.new _ _ _, ⟨by simp [flat], .inl ⟨rfl, by simp [flat]⟩⟩, by omega, by simp, Nat.le_refl _⟩
      go_wp2_with fail
      clear e1 e2 c0 c1 c2 hf1 hf2 hf3
      obtain ⟨gb, hgb⟩ : ∃ g, X.heap.size = g := ⟨_, rfl⟩
      have HGB := Lib.hid hgb
      rw [hgb] at HK ⊢
      clear hgb
      go_loopw [8] (fun i wr => ∃ (k : Nat) (vg : Value), k ≤ h.parts.length ∧ i = .int .i64 k ∧ Hid (Bh X (gb + 1) gb vg (5000 - h.fore) (5000 - h.aft) ((h.parts.take k).map bkP) wr)) (fun i _ => h.parts.length - (intOf i).toNat)
      case atStart => exact ⟨0, _, Nat.zero_le _, rfl, HK⟩
      case round =>
        clear HK
        obtain ⟨k, vg, hk, rfl, HK⟩ := hrel
        have hS := HK.out.sn
        by_cases hlt : k < h.parts.length
        · obtain ⟨ad, hA, d0, d1, d2, d3, d4, d5, d6⟩ := (HPX.out.keep hS.1).ps.get hlt
          have hki : (k : Int) < (h.parts.length : Int) := by omega
          have hx := HH.out.ps _ (List.getElem_mem hlt)
          have hx1 := hx.p0
          have hx2 := hx.p1
          have XK : Hid ((h.parts.take (k + 1)).map bkP = (h.parts.take k).map bkP ++ [bkP h.parts[k]]) := bk_take h.parts hlt
          have HLK : Hid (((h.parts.take k).map bkP).length ≤ 1000) := by show _ ≤ _; rw [List.length_map, List.length_take]; omega
          obtain ⟨tk, htk⟩ : ∃ t, (h.parts.take k).map bkP = t := ⟨_, rfl⟩
          rw [htk] at XK HLK HK
          clear htk
          obtain ⟨mA, mc⟩ := m
          replace hA : mA = some ad := hA
          subst hA
          obtain ⟨c0, c1, c2⟩ := (HB.out.keep hS.1).hull
          have e1 : IntKind.i64.wrap (5000 - h.parts[k].pt) = 5000 - h.parts[k].pt := IntWalk.i64_in _ (by omega)
          have hgl := HK.out.tb.lt
          have K3 := HK.out.alloc (.cells (pV (bkP h.parts[k])) 74)
          have P3 := Blk.new wr 74 (pV (bkP h.parts[k]))
          have K4 := Lib.hid (K3.alloc (.cells (pV (bkP h.parts[k])) 74))
          have P4H := Lib.hid (Blk.new1 wr (.cells (pV (bkP h.parts[k])) 74) 74 (pV (bkP h.parts[k])))
          have P2 := Blk.new wr 74 (pV h.parts[k])
          have t0 := HK.out.tb.cell 0
          have g1 := P2.cell 1
          have g2 := P2.frozen 1
          simp only [List.getElem?_toArray, List.getElem?_cons_zero, List.getElem?_cons_succ] at t0 g1
          clear P2 hx1 hx2 hx hS
          go_wp2_with (at_builtin; refine wpList_append_part rfl (.tmp 54) (.tmp 56) rfl (gb + 1) (wr.heap.size + 1) _ tk (bkP h.parts[k]) (by go_simp) (by go_simp) K4.out.og P4H.out HLK.out K4.out.sB ?_)
          rintro v' w7 ho7 hg7 -
          replace ho7 : w7.ownsRow (gb + 1) 74 7 v' (tk ++ [bkP h.parts[k]]).length (flat (tk ++ [bkP h.parts[k]])) := by rw [List.length_append]; exact ho7
          obtain ⟨A7, c7, h77, -⟩ := own_parts ho7
          obtain ⟨L7, hL7⟩ : ∃ n, (tk ++ [bkP h.parts[k]]).length = n := ⟨_, rfl⟩
          rw [hL7] at h77
          clear hL7
          subst h77
          have K7 := Lib.hid (K4.out.push ho7 hg7)
          rw [← XK.out] at K7
          have hr7 := fun r hr => (K4.out.og.lt r hr).1
          have hT7 := K4.out.tb.grown hg7 (fun e => by have := hr7 _ e.symm; omega)
          have t7 := hT7.cell 0
          have f7 := hT7.frozen 0
          simp only [List.getElem?_toArray, List.getElem?_cons_zero, List.getElem?_cons_succ] at t7
          clear K4 P4H ho7 hg7 hr7 hT7 K3 P3 t0 g1 g2 c0 c1 c2 d0 d1 d2 d3 d4 d5 d6 e1 hgl
          go_wp2_with fail
          go_roundw
          case rel => exact ⟨k + 1, _, by omega, by go_num, K7⟩
          case measure => simp [intOf]; omega
        · obtain rfl : k = h.parts.length := by omega
          rw [List.take_length] at HK
          obtain ⟨A, c, rfl, hpt, hc1, hc2⟩ := own_parts HK.out.og
          have hgt : w.heap.size ≤ gb := by have := hs.2; have := HGB.out; omega
          have HKB : Hid (Blk wr gb 24 (hV (bkH h) ⟨A, c⟩)) := HK.out.tb
          have HKP : Hid (HAt wr ⟨A, c⟩ (bkH h)) := ⟨hpt, hc1, hc2, fun x hx => by obtain ⟨y, hy, rfl⟩ := List.mem_map.1 hx; exact HP.out.nm y hy⟩
          have hm0 := hS.1
          replace hs : Since w wr := hs.keep hm0
          replace HB := Lib.hid (HB.out.keep hm0)
          replace HT := Lib.hid (HT.out.keep hm0)
          replace HG := Lib.hid (HG.out.keep hm0)
          replace HL := Lib.hid (HL.out.keep hm0)
          have HE0 := Lib.hid (bal_good HC.out HTO.out w0 w1')
          have HE1 : Hid (balanceA (bkH h) gs ls wt = ((bal h gs ls 0 wt, bal h gs ls 2 wt, bal h gs ls 1 wt), 0)) := by show _ = _; rw [bal_good (bk_ok HC.out) (bk_tok HTO.out) w0 w1', bal_bk, bal_bk, bal_bk]; rfl
          have HE2 := Lib.hid (lea_good HC.out w0 w1')
          have HE3 : Hid (leastA (bkH h) wt = ((lst h 0 wt, lst h 2 wt, lst h 1 wt), 0)) := by show _ = _; rw [lea_good (bk_ok HC.out) w0 w1', lst_bk, lst_bk, lst_bk]; rfl
          obtain ⟨p, hpp⟩ : ∃ p, bal h gs ls 0 wt = p := ⟨_, rfl⟩
          obtain ⟨q, hqq⟩ : ∃ p, bal h gs ls 1 wt = p := ⟨_, rfl⟩
          obtain ⟨r, hrr⟩ : ∃ p, bal h gs ls 2 wt = p := ⟨_, rfl⟩
          obtain ⟨u, huu⟩ : ∃ p, lst h 0 wt = p := ⟨_, rfl⟩
          obtain ⟨v, hvv⟩ : ∃ p, lst h 1 wt = p := ⟨_, rfl⟩
          obtain ⟨y, hyy⟩ : ∃ p, lst h 2 wt = p := ⟨_, rfl⟩
          rw [hpp, hqq, hrr] at HE0 HE1
          rw [huu, hvv, hyy] at HE2 HE3
          clear hpp hqq hrr huu hvv hyy HK hm0 hS hpt hc1 hc2 HGB HGT HW
          obtain ⟨HB_0, HB_1, HB_2⟩ := HB.out.hull
          have HT_0 := HT.out.cell 0
          have HT_1 := HT.out.cell 1
          simp only [List.getElem?_toArray, List.getElem?_cons_zero, List.getElem?_cons_succ] at HT_0 HT_1
          go_wp2_with fail
          refine (balC m GA gc LA lc _ (HP.out.keep hs.1) HG.out HL.out HE0.out).mono ?_
          rintro e w3 ⟨rfl, hb⟩
          replace hs := hs.keep hb
          replace HB := Lib.hid (HB.out.keep hb)
          replace HT := Lib.hid (HT.out.keep hb)
          replace HKB := Lib.hid (HKB.out.keep hb)
          replace HKP := Lib.hid (HKP.out.keep hb)
          replace HG := Lib.hid (HG.out.keep hb)
          replace HL := Lib.hid (HL.out.keep hb)
          clear hb
          clear HB_0 HB_1 HB_2 HT_0 HT_1
          have hq : Below w3.heap.size w3 (w3.alloc (.cells #[.int .i64 p, .int .i64 q, .int .i64 r] 32)) := (Below.refl _ _).alloc (Nat.le_refl _) _
          replace hs := hs.keep hq
          replace HB := Lib.hid (HB.out.keep hq)
          replace HT := Lib.hid (HT.out.keep hq)
          replace HKB := Lib.hid (HKB.out.keep hq)
          replace HKP := Lib.hid (HKP.out.keep hq)
          replace HG := Lib.hid (HG.out.keep hq)
          replace HL := Lib.hid (HL.out.keep hq)
          have HQ1 := Lib.hid (Blk.new w3 32 #[.int .i64 p, .int .i64 q, .int .i64 r])
          clear hq
          have HT_0 := HT.out.cell 0
          have HT_1 := HT.out.cell 1
          simp only [List.getElem?_toArray, List.getElem?_cons_zero, List.getElem?_cons_succ] at HT_0 HT_1
          obtain ⟨HKB_0, HKB_1, HKB_2⟩ := HKB.out.hull
          go_wp2_with fail
          refine (balC ⟨A, c⟩ GA gc LA lc _ HKP.out HG.out HL.out HE1.out).mono ?_
          rintro e w4 ⟨rfl, hb⟩
          replace hs := hs.keep hb
          replace HB := Lib.hid (HB.out.keep hb)
          replace HT := Lib.hid (HT.out.keep hb)
          replace HKB := Lib.hid (HKB.out.keep hb)
          replace HKP := Lib.hid (HKP.out.keep hb)
          replace HG := Lib.hid (HG.out.keep hb)
          replace HL := Lib.hid (HL.out.keep hb)
          replace HQ1 := Lib.hid (HQ1.out.keep hb)
          clear hb
          clear HT_0 HT_1 HKB_0 HKB_1 HKB_2
          obtain ⟨g1, hg1⟩ : ∃ g, w3.heap.size = g := ⟨_, rfl⟩
          rw [hg1] at HQ1 ⊢
          clear hg1
          have hq : Below w4.heap.size w4 (w4.alloc (.cells #[.int .i64 p, .int .i64 r, .int .i64 q] 32)) := (Below.refl _ _).alloc (Nat.le_refl _) _
          replace hs := hs.keep hq
          replace HB := Lib.hid (HB.out.keep hq)
          replace HT := Lib.hid (HT.out.keep hq)
          replace HKB := Lib.hid (HKB.out.keep hq)
          replace HKP := Lib.hid (HKP.out.keep hq)
          replace HG := Lib.hid (HG.out.keep hq)
          replace HL := Lib.hid (HL.out.keep hq)
          replace HQ1 := Lib.hid (HQ1.out.keep hq)
          have HQ2 := Lib.hid (Blk.new w4 32 #[.int .i64 p, .int .i64 r, .int .i64 q])
          clear hq
          obtain ⟨HB_0, HB_1, HB_2⟩ := HB.out.hull
          go_wp2_with fail
          refine (leaC m _ (HP.out.keep hs.1) HE2.out).mono ?_
          rintro e w5 ⟨rfl, hb⟩
          replace hs := hs.keep hb
          replace HB := Lib.hid (HB.out.keep hb)
          replace HT := Lib.hid (HT.out.keep hb)
          replace HKB := Lib.hid (HKB.out.keep hb)
          replace HKP := Lib.hid (HKP.out.keep hb)
          replace HG := Lib.hid (HG.out.keep hb)
          replace HL := Lib.hid (HL.out.keep hb)
          replace HQ1 := Lib.hid (HQ1.out.keep hb)
          replace HQ2 := Lib.hid (HQ2.out.keep hb)
          clear hb
          clear HB_0 HB_1 HB_2
          obtain ⟨g2, hg2⟩ : ∃ g, w4.heap.size = g := ⟨_, rfl⟩
          rw [hg2] at HQ2 ⊢
          clear hg2
          have hq : Below w5.heap.size w5 (w5.alloc (.cells #[.int .i64 u, .int .i64 v, .int .i64 y] 32)) := (Below.refl _ _).alloc (Nat.le_refl _) _
          replace hs := hs.keep hq
          replace HB := Lib.hid (HB.out.keep hq)
          replace HT := Lib.hid (HT.out.keep hq)
          replace HKB := Lib.hid (HKB.out.keep hq)
          replace HKP := Lib.hid (HKP.out.keep hq)
          replace HG := Lib.hid (HG.out.keep hq)
          replace HL := Lib.hid (HL.out.keep hq)
          replace HQ1 := Lib.hid (HQ1.out.keep hq)
          replace HQ2 := Lib.hid (HQ2.out.keep hq)
          have HQ3 := Lib.hid (Blk.new w5 32 #[.int .i64 u, .int .i64 v, .int .i64 y])
          clear hq
          obtain ⟨HKB_0, HKB_1, HKB_2⟩ := HKB.out.hull
          go_wp2_with fail
          refine (leaC ⟨A, c⟩ _ HKP.out HE3.out).mono ?_
          rintro e w6 ⟨rfl, hb⟩
          replace hs := hs.keep hb
          replace HB := Lib.hid (HB.out.keep hb)
          replace HT := Lib.hid (HT.out.keep hb)
          replace HKB := Lib.hid (HKB.out.keep hb)
          replace HKP := Lib.hid (HKP.out.keep hb)
          replace HG := Lib.hid (HG.out.keep hb)
          replace HL := Lib.hid (HL.out.keep hb)
          replace HQ1 := Lib.hid (HQ1.out.keep hb)
          replace HQ2 := Lib.hid (HQ2.out.keep hb)
          replace HQ3 := Lib.hid (HQ3.out.keep hb)
          clear hb
          clear HKB_0 HKB_1 HKB_2
          obtain ⟨g3, hg3⟩ : ∃ g, w5.heap.size = g := ⟨_, rfl⟩
          rw [hg3] at HQ3 ⊢
          clear hg3
          have hq : Below w6.heap.size w6 (w6.alloc (.cells #[.int .i64 u, .int .i64 y, .int .i64 v] 32)) := (Below.refl _ _).alloc (Nat.le_refl _) _
          replace hs := hs.keep hq
          replace HB := Lib.hid (HB.out.keep hq)
          replace HT := Lib.hid (HT.out.keep hq)
          replace HKB := Lib.hid (HKB.out.keep hq)
          replace HKP := Lib.hid (HKP.out.keep hq)
          replace HG := Lib.hid (HG.out.keep hq)
          replace HL := Lib.hid (HL.out.keep hq)
          replace HQ1 := Lib.hid (HQ1.out.keep hq)
          replace HQ2 := Lib.hid (HQ2.out.keep hq)
          replace HQ3 := Lib.hid (HQ3.out.keep hq)
          have HQ4 := Lib.hid (Blk.new w6 32 #[.int .i64 u, .int .i64 y, .int .i64 v])
          clear hq
          have HQ1_0 := HQ1.out.cell 0
          have HQ1_1 := HQ1.out.cell 1
          have HQ1_2 := HQ1.out.cell 2
          simp only [List.getElem?_toArray, List.getElem?_cons_zero, List.getElem?_cons_succ] at HQ1_0 HQ1_1 HQ1_2
          have HQ2_0 := HQ2.out.cell 0
          have HQ2_1 := HQ2.out.cell 1
          have HQ2_2 := HQ2.out.cell 2
          simp only [List.getElem?_toArray, List.getElem?_cons_zero, List.getElem?_cons_succ] at HQ2_0 HQ2_1 HQ2_2
          have HQ3_0 := HQ3.out.cell 0
          have HQ3_1 := HQ3.out.cell 1
          have HQ3_2 := HQ3.out.cell 2
          simp only [List.getElem?_toArray, List.getElem?_cons_zero, List.getElem?_cons_succ] at HQ3_0 HQ3_1 HQ3_2
          have HQ4_0 := HQ4.out.cell 0
          have HQ4_1 := HQ4.out.cell 1
          have HQ4_2 := HQ4.out.cell 2
          simp only [List.getElem?_toArray, List.getElem?_cons_zero, List.getElem?_cons_succ] at HQ4_0 HQ4_1 HQ4_2
          have hq1 := eqBal p r q
          have hq2 := eqBal u y v
          go_wp2_with fail
          refine (awake_c _).mono ?_
          rintro e w9 ⟨rfl, hb⟩
          replace hs := hs.keep hb
          go_wp2_with fail
          go_ret
          exact ⟨rfl, hs.1⟩
  · rw [decide_eq_false hc]
    clear hc
    go_wp2_with fail
    refine (awake_c _).mono ?_
    rintro e w9 ⟨rfl, hb⟩
    replace hs := hs.keep hb
    go_wp2_with fail
    go_ret
    exact ⟨rfl, hs.1⟩
end Td
end Go.Proofs.Ythdcklonamgpiaa
