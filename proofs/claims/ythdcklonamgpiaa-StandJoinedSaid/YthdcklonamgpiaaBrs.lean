import Derived.Test.YthdcklonamgpiaaShn
/- The law StandBears: what it returns. -/
namespace Go.Proofs.Ythdcklonamgpiaa
open Go.RowKit
namespace Td
set_option linter.unusedSimpArgs false
set_option linter.unusedVariables false
attribute [local go_sem] Oper.semAt_some
theorem InAt.put {W : World} {A : Option Addr} {l : List Int} (h : InAt W A l) {g : Nat} {t : TypeId} (hb : Blk W g t #[.slice none 0 0, .slice none 0 0]) (cs : Array Value) : InAt (W.setRow g cs) A l := fun hx => by
  obtain ⟨a, ha, hc⟩ := h hx
  have h0 : ∃ p, l[0]? = some p := by
    cases l with
    | nil => exact absurd rfl hx
    | cons p r => exact ⟨p, rfl⟩
  obtain ⟨p0, hp0⟩ := h0
  have hne : a.block ≠ g := by
    intro e
    have h1 := hc 0 p0 hp0
    have hb' : W.heap[g]? = some (.cells #[.slice none 0 0, .slice none 0 0] t (0, 0)) := hb
    unfold World.cell? at h1
    rw [add_block, e, hb'] at h1
    generalize (a.add 0).off = n at h1
    match n, h1 with
    | 0, h1 => simp at h1
    | 1, h1 => simp at h1
    | n + 2, h1 => simp at h1
  exact InAt.row h g cs (fun a' e => by rw [ha] at e; cases e; exact hne) hx
/-- where a region stands that draws a truth and puts it into a new struct. -/
structure Pw (w : World) (cH cX : Array Value) (gs ls : List Int) (iT iN iW : Nat) (σ : Vals9.Sig) (X : World) : Prop where
  sn : Since w X
  hb : Blk X w.heap.size 24 cH
  xb : Blk X (w.heap.size + 1) 63 cX
  tr : ∀ v, σ iT = some v → Tv 0 X v gs ls
  nw : ∀ v, σ iN = some v → ∃ g, v = .pointer (some ⟨g, 0, none⟩) ∧ w.heap.size + 1 < g ∧ (σ iW = none → Blk X g 27 #[.slice none 0 0, .slice none 0 0]) ∧ (σ iW ≠ none → ∃ GA gc LA lc, Blk X g 27 (tV GA gs.length gc LA ls.length lc) ∧ InAt X GA gs ∧ InAt X LA ls)
  wn : σ iW ≠ none → σ iN ≠ none
theorem Pw.keep {w : World} {cH cX : Array Value} {gs ls : List Int} {iT iN iW : Nat} {σ : Vals9.Sig} {X X' : World} (h : Pw w cH cX gs ls iT iN iW σ X) (hb : Below X.heap.size X X') : Pw w cH cX gs ls iT iN iW σ X' :=
  ⟨h.sn.keep hb, h.hb.keep hb, h.xb.keep hb, fun v hv => (h.tr v hv).keep hb, fun v hv => by
    obtain ⟨g, e, e1, e2, e3⟩ := h.nw v hv
    exact ⟨g, e, e1, fun k => (e2 k).keep hb, fun k => by obtain ⟨GA, gc, LA, lc, k1, k2, k3⟩ := e3 k; exact ⟨GA, gc, LA, lc, k1.keep hb, k2.keep hb, k3.keep hb⟩⟩, h.wn⟩
theorem bears_bad {h : Hul} {gs ls : List Int} {wt : Int} {l : List (Int × Int)} (hc : (chk h).2.2 ≠ 0) : bearsA h gs ls wt l = (false, (chk h).2.2) := by
  have e : balE h gs ls wt = (chk h).2.2 := by unfold balE; rw [if_pos hc]
  unfold bearsA
  rw [e, if_pos hc]
theorem bears_math {h : Hul} {gs ls : List Int} {wt : Int} (hE : balE h gs ls wt = 0) (hh : HOk h) : ∃ p q r, balanceA h gs ls wt = ((p, q, r), 0) ∧ (∀ l, 10 < l.length → bearsA h gs ls wt l = (false, 3)) ∧ (∀ l, ¬ 10 < l.length → bearsA h gs ls wt l = (brs h p q l, 0)) ∧
    ((0 < p ∧ 0 ≤ q ∧ 0 ≤ r ∧ ∃ two, forcesA h gs ls wt = (two, 0) ∧ bearsA h gs ls wt two = (true, 0)) ∨ ((¬ 0 < p ∨ (0 < p ∧ ¬ 0 ≤ q) ∨ (0 < p ∧ 0 ≤ q ∧ ¬ 0 ≤ r)) ∧ forcesA h gs ls wt = ([], 9) ∧ ∀ l, brs h p q l = false)) := by
  have hs := bal_sum h gs ls wt
  have h1 : ∀ l, 10 < l.length → bearsA h gs ls wt l = (false, 3) := fun l hl => by unfold bearsA; rw [if_neg (by simp [hE]), if_pos hl]
  have h2 : ∀ l, ¬ 10 < l.length → bearsA h gs ls wt l = (brs h (bal h gs ls 0 wt) (bal h gs ls 1 wt) l, 0) := fun l hl => by unfold bearsA; rw [if_neg (by simp [hE]), if_neg hl]
  refine ⟨_, _, _, by unfold balanceA; rw [if_neg (by simp [hE])], h1, h2, ?_⟩
  by_cases hg : 0 < bal h gs ls 0 wt ∧ 0 ≤ bal h gs ls 1 wt ∧ 0 ≤ bal h gs ls 2 wt
  · left
    refine ⟨hg.1, hg.2.1, hg.2.2, [(h.aft, bal h gs ls 2 wt), (h.fore, bal h gs ls 1 wt)], ?_, ?_⟩
    · have hw : whyB (bal h gs ls 0 wt) (bal h gs ls 1 wt) (bal h gs ls 2 wt) = 0 := whyB_zero.2 ⟨by omega, hg.2.1, hg.2.2⟩
      unfold forcesA
      rw [if_neg (by simp [hE]), if_neg (by simp [hw])]
    · rw [h2 _ (by simp), brs_two hh.af hs hg.1 hg.2.1 hg.2.2]
  · right
    refine ⟨by omega, ?_, fun l => ?_⟩
    · have hw : whyB (bal h gs ls 0 wt) (bal h gs ls 1 wt) (bal h gs ls 2 wt) ≠ 0 := fun e => by
        rw [whyB_zero] at e
        omega
      unfold forcesA
      rw [if_neg (by simp [hE]), if_pos hw]
    · rw [Bool.eq_false_iff]
      intro hb
      exact hg (brs_good hh.af hs hb)
set_option maxRecDepth 100000 in
set_option maxHeartbeats 8000000 in
theorem standBears_c (h : Hul) (m : Sl) (a0 a1 aw : Nat) (P : Option Addr) (U : List Int) (pc : Nat) (FA : Option Addr) (fl : List (Int × Int)) (fc : Nat) (w : World) (hp : HAt w m h) (hu : U32At w P U) (ho : U32Ok U) (hf : FoAt w FA fl) (hfl : fl.length ≤ 9223372036854775807) (b2 : aw ≤ 65535) :
    Calls Try.prog 9 #[.agg (hV h m), .agg (xV a0 a1 aw P U.length pc), .slice FA fl.length fc] w fun e w' => e = .returned (.bool true) ∧ Below w.heap.size w w' := by
  have hs := ((Since.refl w).alloc (.cells (hV h m) 24)).alloc (.cells (xV a0 a1 aw P U.length pc) 63)
  have HB := Lib.hid ((Blk.new w 24 (hV h m)).alloc (.cells (xV a0 a1 aw P U.length pc) 63))
  have HX := Lib.hid (Blk.new1 w (.cells (hV h m) 24) 63 (xV a0 a1 aw P U.length pc))
  have HP := Lib.hid hp
  have HU := Lib.hid hu
  have HO := Lib.hid ho
  have HF := Lib.hid hf
  have HFL := Lib.hid hfl
  clear hp hu ho hf hfl
  obtain ⟨c0, c1, c2⟩ := HB.out.hull
  go_enter Try.func9, Try.ntmps9
  go_wp2_with fail
  refine (valid_c h m _ (HP.out.keep hs.1)).mono ?_
  rintro e w1 ⟨rfl, hb⟩
  replace hs := hs.keep hb
  replace HB := Lib.hid (HB.out.keep hb)
  replace HX := Lib.hid (HX.out.keep hb)
  clear hb c0 c1 c2
  by_cases hc : (chk h).2.2 = 0
  · rw [decide_eq_true hc]
    have HC := Lib.hid hc
    have HH := Lib.hid (chk_ok hc)
    clear hc
    obtain ⟨wt, hwt⟩ : ∃ wt, (aw : Int) % 1001 = wt := ⟨_, rfl⟩
    have w0 : 0 ≤ wt := by rw [← hwt]; exact Int.emod_nonneg _ (by decide)
    have w1' : wt ≤ 1000 := by have := Int.emod_lt_of_pos (aw : Int) (show (0 : Int) < 1001 by decide); omega
    have eA : IntKind.i64.wrap (aw : Int) = aw := IntWalk.i64_in _ (by omega)
    have eR : (aw : Int).tmod 1001 = wt := by rw [Int.tmod_eq_emod_of_nonneg (by omega)]; exact hwt
    have eW : IntKind.i64.wrap wt = wt := IntWalk.i64_in _ (by omega)
    clear hwt
    go_wp2_with fail
    obtain ⟨gs, hgs⟩ : ∃ gs, gL h U h.parts.length = gs := ⟨_, rfl⟩
    obtain ⟨ls, hls⟩ : ∃ ls, lL h U h.parts.length = ls := ⟨_, rfl⟩
    have HT := turns_ok HH.out U
    rw [hgs, hls] at HT
    have HTO := Lib.hid HT
    have HTR := Lib.hid (fun W (hS : Since w W) => truth_c h m P U pc W HH.out (HP.out.keep hS.1) (HU.out.keep hS.1) HO.out)
    rw [hgs, hls] at HTR
    clear HT hgs hls
    refine Vals9.region (fun σ Z => Pw w (hV h m) (xV a0 a1 aw P U.length pc) gs ls 3 8 9 σ Z) [some 35, some 36, some 37, some 38, some 39, some 40, some 41, some 42, some 9, none, some 10] [.is ?_, .is ?_, .is ?_, .any, .is ?_, .is ?_, .is ?_, .is ?_, .any, .any, .is ?_] (by kernel_rfl) (by kernel_rfl) (by kernel_rfl) (by kernel_rfl) (by kernel_rfl) (by kernel_rfl) (⟨hs.drew, HB.out.drew, HX.out.drew, (fun v hv => by cases hv), (fun v hv => by cases hv), (fun k => absurd rfl k)⟩) ?hsteps ?hfin
    case hsteps =>
      refine Vals9.Steps.run rfl ?_ ?_
      · intro a W σ hJ pre K hK
        have e3 := pre.2.2 3 _ (by kernel_rfl) rfl
        clear pre
        simp only [Array.getD_eq_getD_getElem?, List.getElem?_toArray, List.getElem?_cons_zero, List.getElem?_cons_succ, Option.getD_some] at e3
        have hS9 := hJ
        obtain ⟨c0, c1, c2⟩ := hJ.hb.hull
        have x2 := hJ.xb.cell 2
        have x3 := hJ.xb.cell 3
        simp only [List.getElem?_toArray, List.getElem?_cons_zero, List.getElem?_cons_succ] at x2 x3
        go_simp
        exact hK _ hJ
      refine Vals9.Steps.run rfl ?_ ?_
      · intro a W σ hJ pre K hK
        have e4 := pre.2.2 4 _ (by kernel_rfl) rfl
        clear pre
        simp only [Array.getD_eq_getD_getElem?, List.getElem?_toArray, List.getElem?_cons_zero, List.getElem?_cons_succ, Option.getD_some] at e4
        go_simp
        exact hK _ hJ
      refine Vals9.Steps.run rfl ?_ ?_
      · intro a W σ hJ pre K hK
        have e36 := pre.1 1 36 _ (by kernel_rfl) rfl rfl
        clear pre
        simp only [Array.getD_eq_getD_getElem?, List.getElem?_toArray, List.getElem?_cons_zero, List.getElem?_cons_succ, Option.getD_some] at e36
        have hS9 := hJ
        obtain ⟨c0, c1, c2⟩ := hJ.hb.hull
        have x2 := hJ.xb.cell 2
        have x3 := hJ.xb.cell 3
        simp only [List.getElem?_toArray, List.getElem?_cons_zero, List.getElem?_cons_succ] at x2 x3
        go_simp
        exact hK _ hJ
      refine Vals9.Steps.mark rfl ?_ ?_
      · intro a W σ hJ hn pre K hK
        have e35 := pre.1 0 35 _ (by kernel_rfl) rfl rfl
        have e37 := pre.1 2 37 _ (by kernel_rfl) rfl rfl
        simp only [Array.getD_eq_getD_getElem?, List.getElem?_toArray, List.getElem?_cons_zero, List.getElem?_cons_succ, Option.getD_some] at e35 e37
        have hC := HTR.out W hJ.sn
        go_simp
        refine hC.mono ?_
        rintro e w' ⟨⟨v, rfl, GA, gc, LA, lc, rfl, hg, hl, hcc, -, -⟩, hb'⟩
        have hJ' := hJ.keep hb'
        refine hK _ _ ⟨hJ'.sn, hJ'.hb, hJ'.xb, fun v hv => ?_, fun v hv => ?_, fun k => ?_⟩
        · rw [Vals9.upd_same] at hv; cases hv; exact ⟨GA, gc, LA, lc, rfl, hg, hl, hcc, fun _ _ => Nat.zero_le _, fun _ _ => Nat.zero_le _⟩
        · rw [Vals9.upd_other _ _ (by decide)] at hv ⊢; exact hJ'.nw v hv
        · rw [Vals9.upd_other _ _ (by decide)] at k ⊢; exact hJ'.wn k
      refine Vals9.Steps.run rfl ?_ ?_
      · intro a W σ hJ pre K hK
        have e4 := pre.2.2 4 _ (by kernel_rfl) rfl
        clear pre
        simp only [Array.getD_eq_getD_getElem?, List.getElem?_toArray, List.getElem?_cons_zero, List.getElem?_cons_succ, Option.getD_some] at e4
        go_simp
        exact hK _ hJ
      refine Vals9.Steps.run rfl ?_ ?_
      · intro a W σ hJ pre K hK
        have e39 := pre.1 4 39 _ (by kernel_rfl) rfl rfl
        clear pre
        simp only [Array.getD_eq_getD_getElem?, List.getElem?_toArray, List.getElem?_cons_zero, List.getElem?_cons_succ, Option.getD_some] at e39
        have hS9 := hJ
        obtain ⟨c0, c1, c2⟩ := hJ.hb.hull
        have x2 := hJ.xb.cell 2
        have x3 := hJ.xb.cell 3
        simp only [List.getElem?_toArray, List.getElem?_cons_zero, List.getElem?_cons_succ] at x2 x3
        go_simp
        exact hK _ hJ
      refine Vals9.Steps.run rfl ?_ ?_
      · intro a W σ hJ pre K hK
        have e40 := pre.1 5 40 _ (by kernel_rfl) rfl rfl
        clear pre
        simp only [Array.getD_eq_getD_getElem?, List.getElem?_toArray, List.getElem?_cons_zero, List.getElem?_cons_succ, Option.getD_some] at e40
        go_simp
        exact hK _ hJ
      refine Vals9.Steps.run rfl ?_ ?_
      · intro a W σ hJ pre K hK
        have e41 := pre.1 6 41 _ (by kernel_rfl) rfl rfl
        clear pre
        simp only [Array.getD_eq_getD_getElem?, List.getElem?_toArray, List.getElem?_cons_zero, List.getElem?_cons_succ, Option.getD_some] at e41
        go_simp
        exact hK _ hJ
      refine Vals9.Steps.mark rfl ?_ ?_
      · intro a W σ hJ hn pre K hK
        have hw := hJ.wn
        have hlt := hJ.xb.lt
        go_simp
        have hJ' := hJ.keep ((Below.refl _ _).alloc (Nat.le_refl _) (.cells #[.slice none 0 0, .slice none 0 0] 27))
        have h9 : σ 9 = none := by cases h9 : σ 9 with | none => rfl | some q => exact absurd hn (hw (by rw [h9]; exact fun e => by cases e))
        refine hK _ _ ⟨hJ'.sn, hJ'.hb, hJ'.xb, fun v hv => ?_, fun v hv => ?_, fun k => ?_⟩
        · rw [Vals9.upd_other _ _ (by decide)] at hv; exact hJ'.tr v hv
        · rw [Vals9.upd_same] at hv; cases hv; exact ⟨_, rfl, by omega, fun _ => Blk.new _ _ _, fun k => absurd ((Vals9.upd_other _ _ (by decide)).trans h9) k⟩
        · rw [Vals9.upd_other _ _ (by decide)] at k; exact absurd h9 k
      refine Vals9.Steps.mark rfl ?_ ?_
      · intro a W σ hJ hn pre K hK
        obtain ⟨v9, s9, e9⟩ := pre.2.1 8 (by kernel_rfl) rfl
        replace e9 : a.tmps.getD 9 undef = v9 := e9 9 rfl
        obtain ⟨v38, s38, e38⟩ := pre.2.1 3 (by kernel_rfl) rfl
        replace e38 : a.tmps.getD 38 undef = v38 := e38 38 rfl
        simp only [Array.getD_eq_getD_getElem?, List.getElem?_toArray, List.getElem?_cons_zero, List.getElem?_cons_succ, Option.getD_some] at e9 e38
        obtain ⟨GA, gc, LA, lc, hv, hg, hl, hcc, -, -⟩ := hJ.tr _ s38
        obtain ⟨g, e, e1, e2, -⟩ := hJ.nw _ s9
        have e2 := e2 hn
        rw [hv] at e38
        rw [e] at e9
        have hx : a.eval (.tmp 9) = .pointer (some ⟨g, 0, none⟩) := by go_simp
        have hy : a.eval (.tmp 38) = .agg (tV GA gs.length gc LA ls.length lc) := by go_simp
        refine wp_store_row 27 _ _ rfl g (tV GA gs.length gc LA ls.length lc) hx hy 27 _ e2 (by kernel_rfl) rfl (by simp [Value.oneCell']) ?_
        refine hK _ _ ⟨hJ.sn.row (by omega) _, hJ.hb.rowFar (by omega) _, hJ.xb.rowFar (by omega) _, fun v hv2 => ?_, fun v hv2 => ?_, fun k => ?_⟩
        · rw [Vals9.upd_other _ _ (by decide), s38] at hv2; cases hv2; exact ⟨GA, gc, LA, lc, hv, hg.put e2 _, hl.put e2 _, by assumption, fun _ _ => Nat.zero_le _, fun _ _ => Nat.zero_le _⟩
        · rw [Vals9.upd_other _ _ (by decide), s9] at hv2; cases hv2; exact ⟨g, e, e1, (fun k => by rw [Vals9.upd_same] at k; cases k), (fun _ => ⟨GA, gc, LA, lc, e2.row _, hg.put e2 _, hl.put e2 _⟩)⟩
        · rw [Vals9.upd_other _ _ (by decide), s9]; exact fun e => by cases e
      refine Vals9.Steps.run rfl ?_ ?_
      · intro a W σ hJ pre K hK
        have e42 := pre.1 7 42 _ (by kernel_rfl) rfl rfl
        clear pre
        simp only [Array.getD_eq_getD_getElem?, List.getElem?_toArray, List.getElem?_cons_zero, List.getElem?_cons_succ, Option.getD_some] at e42
        go_simp
        exact hK _ hJ
      exact Vals9.Steps.nil
    case hfin =>
      rintro X σ hJ
      simp only [Vals9.All]
      rintro v1 s1 v2 s2 v3 s3
      simp only [Vals.putAll, List.setIfInBounds_toArray, List.set_cons_zero, List.set_cons_succ]
      obtain ⟨g, rfl, e1, -, e3⟩ := hJ.nw _ s2
      obtain ⟨GA, gc, LA, lc, hT, hG, hL⟩ := e3 (by rw [s3]; exact fun e => by cases e)
      replace hs := hJ.sn
      replace HB := Lib.hid hJ.hb
      have HT := Lib.hid hT
      have HG := Lib.hid hG
      have HL := Lib.hid hL
      clear hJ s1 s2 s3 e3 hT hG hL HX HTR
      obtain ⟨p, q, r, M1, M2, M3, M4⟩ := bears_math (balE_ok.2 ⟨HC.out, HTO.out, w0, w1'⟩) HH.out
      have HM1 := Lib.hid M1
      have HM2 := Lib.hid M2
      have HM3 := Lib.hid M3
      have HM4 := Lib.hid M4
      have HTL0 := Lib.hid (forces_len h gs ls wt)
      clear M1 M2 M3 M4
      obtain ⟨c0, c1, c2⟩ := HB.out.hull
      have t0 := HT.out.cell 0
      have t1 := HT.out.cell 1
      simp only [List.getElem?_toArray, List.getElem?_cons_zero, List.getElem?_cons_succ] at t0 t1
      go_wp2_with fail
      refine (balC m GA gc LA lc _ (HP.out.keep hs.1) HG.out HL.out HM1.out).mono ?_
      rintro e w5 ⟨rfl, hb⟩
      replace hs := hs.keep hb
      replace HB := Lib.hid (HB.out.keep hb)
      replace HT := Lib.hid (HT.out.keep hb)
      replace HG := Lib.hid (HG.out.keep hb)
      replace HL := Lib.hid (HL.out.keep hb)
      clear hb
      clear c0 c1 c2 t0 t1
      have hq : Below w5.heap.size w5 (w5.alloc (.cells #[.int .i64 p, .int .i64 q, .int .i64 r] 32)) := (Below.refl _ _).alloc (Nat.le_refl _) _
      replace hs := hs.keep hq
      replace HB := Lib.hid (HB.out.keep hq)
      replace HT := Lib.hid (HT.out.keep hq)
      replace HG := Lib.hid (HG.out.keep hq)
      replace HL := Lib.hid (HL.out.keep hq)
      clear hq
      have HQ := Lib.hid (Blk.new w5 32 #[.int .i64 p, .int .i64 q, .int .i64 r])
      obtain ⟨c0, c1, c2⟩ := HB.out.hull
      have t0 := HT.out.cell 0
      have t1 := HT.out.cell 1
      simp only [List.getElem?_toArray, List.getElem?_cons_zero, List.getElem?_cons_succ] at t0 t1
      go_wp2_with fail
      refine (Forces_c h m GA gs gc LA ls lc wt _ (HP.out.keep hs.1) HG.out HL.out).mono ?_
      rintro e w6 ⟨⟨u, rfl, A2, cc2, rfl, hf2, -⟩, hb⟩
      obtain ⟨gQ, hk9⟩ : ∃ k, w5.heap.size = k := ⟨_, rfl⟩
      rw [hk9] at HQ ⊢
      replace hs := hs.keep hb
      replace HB := Lib.hid (HB.out.keep hb)
      replace HT := Lib.hid (HT.out.keep hb)
      replace HG := Lib.hid (HG.out.keep hb)
      replace HL := Lib.hid (HL.out.keep hb)
      replace HQ := Lib.hid (HQ.out.keep hb)
      clear hb
      clear hk9
      clear c0 c1 c2 t0 t1
      rcases HM4.out with ⟨g1, g2, g3, two, F1, F2⟩ | ⟨hcase, F1, F2⟩
      · rw [F1] at hf2 HTL0 ⊢
        have HF2 : Hid (FoAt w6 A2 two) := hf2
        have HTL : Hid (two.length ≤ 9223372036854775807) := HTL0
        have HM5 := Lib.hid F2
        clear F1 F2 hf2 HTL0
        obtain ⟨c0, c1, c2⟩ := HB.out.hull
        have t0 := HT.out.cell 0
        have t1 := HT.out.cell 1
        have q0 := HQ.out.cell 0
        have q1 := HQ.out.cell 1
        have q2 := HQ.out.cell 2
        simp only [List.getElem?_toArray, List.getElem?_cons_zero, List.getElem?_cons_succ] at t0 t1 q0 q1 q2
        go_wp2_with fail
        refine (Bears_c h m GA gs gc LA ls lc wt FA fl fc _ (HP.out.keep hs.1) HG.out HL.out (HF.out.keep hs.1) HFL.out).mono ?_
        rintro e w7 ⟨rfl, hb⟩
        by_cases hlen : 10 < fl.length
        · have hli : (10 : Int) < (fl.length : Int) := by omega
          rw [HM2.out fl hlen]
          replace hs := hs.keep hb
          replace HB := Lib.hid (HB.out.keep hb)
          replace HT := Lib.hid (HT.out.keep hb)
          replace HG := Lib.hid (HG.out.keep hb)
          replace HL := Lib.hid (HL.out.keep hb)
          replace HQ := Lib.hid (HQ.out.keep hb)
          replace HF2 := Lib.hid (HF2.out.keep hb)
          clear hb
          clear c0 c1 c2 t0 t1 q0 q1 q2
          obtain ⟨c0, c1, c2⟩ := HB.out.hull
          have t0 := HT.out.cell 0
          have t1 := HT.out.cell 1
          have q0 := HQ.out.cell 0
          have q1 := HQ.out.cell 1
          have q2 := HQ.out.cell 2
          simp only [List.getElem?_toArray, List.getElem?_cons_zero, List.getElem?_cons_succ] at t0 t1 q0 q1 q2
          go_wp2_with fail
          refine (Bears_c h m GA gs gc LA ls lc wt A2 two cc2 _ (HP.out.keep hs.1) HG.out HL.out HF2.out HTL.out).mono ?_
          rintro e w8 ⟨rfl, hb⟩
          rw [HM5.out]
          replace hs := hs.keep hb
          replace HB := Lib.hid (HB.out.keep hb)
          replace HT := Lib.hid (HT.out.keep hb)
          replace HG := Lib.hid (HG.out.keep hb)
          replace HL := Lib.hid (HL.out.keep hb)
          replace HQ := Lib.hid (HQ.out.keep hb)
          clear hb
          clear c0 c1 c2 t0 t1 q0 q1 q2
          go_wp2_with fail
          refine (awake_c _).mono ?_
          rintro e w9 ⟨rfl, hb⟩
          replace hs := hs.keep hb
          go_wp2_with fail
          go_ret
          exact ⟨rfl, hs.1⟩
        · have hli : ¬ (10 : Int) < (fl.length : Int) := by omega
          have hlj : (fl.length : Int) ≤ 10 := by omega
          rw [HM3.out fl hlen]
          replace hs := hs.keep hb
          replace HB := Lib.hid (HB.out.keep hb)
          replace HT := Lib.hid (HT.out.keep hb)
          replace HG := Lib.hid (HG.out.keep hb)
          replace HL := Lib.hid (HL.out.keep hb)
          replace HQ := Lib.hid (HQ.out.keep hb)
          replace HF2 := Lib.hid (HF2.out.keep hb)
          clear hb
          clear c0 c1 c2 t0 t1 q0 q1 q2
          obtain ⟨c0, c1, c2⟩ := HB.out.hull
          have t0 := HT.out.cell 0
          have t1 := HT.out.cell 1
          have q0 := HQ.out.cell 0
          have q1 := HQ.out.cell 1
          have q2 := HQ.out.cell 2
          simp only [List.getElem?_toArray, List.getElem?_cons_zero, List.getElem?_cons_succ] at t0 t1 q0 q1 q2
          go_wp2_with fail
          refine (Bears_c h m GA gs gc LA ls lc wt A2 two cc2 _ (HP.out.keep hs.1) HG.out HL.out HF2.out HTL.out).mono ?_
          rintro e w8 ⟨rfl, hb⟩
          rw [HM5.out]
          replace hs := hs.keep hb
          replace HB := Lib.hid (HB.out.keep hb)
          replace HT := Lib.hid (HT.out.keep hb)
          replace HG := Lib.hid (HG.out.keep hb)
          replace HL := Lib.hid (HL.out.keep hb)
          replace HQ := Lib.hid (HQ.out.keep hb)
          clear hb
          clear c0 c1 c2 t0 t1 q0 q1 q2
          go_wp2_with fail
          refine (awake_c _).mono ?_
          rintro e w9 ⟨rfl, hb⟩
          replace hs := hs.keep hb
          go_wp2_with fail
          go_ret
          exact ⟨rfl, hs.1⟩
      · rw [F1] at hf2 HTL0 ⊢
        have HM5 := Lib.hid F2
        clear F1 F2 hf2 HTL0
        obtain ⟨c0, c1, c2⟩ := HB.out.hull
        have t0 := HT.out.cell 0
        have t1 := HT.out.cell 1
        have q0 := HQ.out.cell 0
        have q1 := HQ.out.cell 1
        have q2 := HQ.out.cell 2
        simp only [List.getElem?_toArray, List.getElem?_cons_zero, List.getElem?_cons_succ] at t0 t1 q0 q1 q2
        go_wp2_with fail
        refine (Bears_c h m GA gs gc LA ls lc wt FA fl fc _ (HP.out.keep hs.1) HG.out HL.out (HF.out.keep hs.1) HFL.out).mono ?_
        rintro e w7 ⟨rfl, hb⟩
        by_cases hlen : 10 < fl.length
        · have hli : (10 : Int) < (fl.length : Int) := by omega
          rcases hcase with k1 | ⟨k1, k2⟩ | ⟨k1, k2, k3⟩
          · skip
            rw [HM2.out fl hlen]
            replace hs := hs.keep hb
            replace HB := Lib.hid (HB.out.keep hb)
            replace HT := Lib.hid (HT.out.keep hb)
            replace HG := Lib.hid (HG.out.keep hb)
            replace HL := Lib.hid (HL.out.keep hb)
            replace HQ := Lib.hid (HQ.out.keep hb)
            clear hb
            clear c0 c1 c2 t0 t1 q0 q1 q2
            obtain ⟨c0, c1, c2⟩ := HB.out.hull
            have t0 := HT.out.cell 0
            have t1 := HT.out.cell 1
            have q0 := HQ.out.cell 0
            have q1 := HQ.out.cell 1
            have q2 := HQ.out.cell 2
            simp only [List.getElem?_toArray, List.getElem?_cons_zero, List.getElem?_cons_succ] at t0 t1 q0 q1 q2
            go_wp2_with fail
            refine (awake_c _).mono ?_
            rintro e w9 ⟨rfl, hb⟩
            replace hs := hs.keep hb
            go_wp2_with fail
            go_ret
            exact ⟨rfl, hs.1⟩
          · skip
            rw [HM2.out fl hlen]
            replace hs := hs.keep hb
            replace HB := Lib.hid (HB.out.keep hb)
            replace HT := Lib.hid (HT.out.keep hb)
            replace HG := Lib.hid (HG.out.keep hb)
            replace HL := Lib.hid (HL.out.keep hb)
            replace HQ := Lib.hid (HQ.out.keep hb)
            clear hb
            clear c0 c1 c2 t0 t1 q0 q1 q2
            obtain ⟨c0, c1, c2⟩ := HB.out.hull
            have t0 := HT.out.cell 0
            have t1 := HT.out.cell 1
            have q0 := HQ.out.cell 0
            have q1 := HQ.out.cell 1
            have q2 := HQ.out.cell 2
            simp only [List.getElem?_toArray, List.getElem?_cons_zero, List.getElem?_cons_succ] at t0 t1 q0 q1 q2
            go_wp2_with fail
            refine (awake_c _).mono ?_
            rintro e w9 ⟨rfl, hb⟩
            replace hs := hs.keep hb
            go_wp2_with fail
            go_ret
            exact ⟨rfl, hs.1⟩
          · have kd : decide (0 ≤ r) = false := decide_eq_false (by omega)
            rw [HM2.out fl hlen]
            replace hs := hs.keep hb
            replace HB := Lib.hid (HB.out.keep hb)
            replace HT := Lib.hid (HT.out.keep hb)
            replace HG := Lib.hid (HG.out.keep hb)
            replace HL := Lib.hid (HL.out.keep hb)
            replace HQ := Lib.hid (HQ.out.keep hb)
            clear hb
            clear c0 c1 c2 t0 t1 q0 q1 q2
            obtain ⟨c0, c1, c2⟩ := HB.out.hull
            have t0 := HT.out.cell 0
            have t1 := HT.out.cell 1
            have q0 := HQ.out.cell 0
            have q1 := HQ.out.cell 1
            have q2 := HQ.out.cell 2
            simp only [List.getElem?_toArray, List.getElem?_cons_zero, List.getElem?_cons_succ] at t0 t1 q0 q1 q2
            go_wp2_with fail
            refine (awake_c _).mono ?_
            rintro e w9 ⟨rfl, hb⟩
            replace hs := hs.keep hb
            go_wp2_with fail
            go_ret
            exact ⟨rfl, hs.1⟩
        · have hli : ¬ (10 : Int) < (fl.length : Int) := by omega
          have hlj : (fl.length : Int) ≤ 10 := by omega
          rcases hcase with k1 | ⟨k1, k2⟩ | ⟨k1, k2, k3⟩
          · skip
            rw [HM3.out fl hlen, HM5.out fl]
            replace hs := hs.keep hb
            replace HB := Lib.hid (HB.out.keep hb)
            replace HT := Lib.hid (HT.out.keep hb)
            replace HG := Lib.hid (HG.out.keep hb)
            replace HL := Lib.hid (HL.out.keep hb)
            replace HQ := Lib.hid (HQ.out.keep hb)
            clear hb
            clear c0 c1 c2 t0 t1 q0 q1 q2
            obtain ⟨c0, c1, c2⟩ := HB.out.hull
            have t0 := HT.out.cell 0
            have t1 := HT.out.cell 1
            have q0 := HQ.out.cell 0
            have q1 := HQ.out.cell 1
            have q2 := HQ.out.cell 2
            simp only [List.getElem?_toArray, List.getElem?_cons_zero, List.getElem?_cons_succ] at t0 t1 q0 q1 q2
            go_wp2_with fail
            refine (awake_c _).mono ?_
            rintro e w9 ⟨rfl, hb⟩
            replace hs := hs.keep hb
            go_wp2_with fail
            go_ret
            exact ⟨rfl, hs.1⟩
          · skip
            rw [HM3.out fl hlen, HM5.out fl]
            replace hs := hs.keep hb
            replace HB := Lib.hid (HB.out.keep hb)
            replace HT := Lib.hid (HT.out.keep hb)
            replace HG := Lib.hid (HG.out.keep hb)
            replace HL := Lib.hid (HL.out.keep hb)
            replace HQ := Lib.hid (HQ.out.keep hb)
            clear hb
            clear c0 c1 c2 t0 t1 q0 q1 q2
            obtain ⟨c0, c1, c2⟩ := HB.out.hull
            have t0 := HT.out.cell 0
            have t1 := HT.out.cell 1
            have q0 := HQ.out.cell 0
            have q1 := HQ.out.cell 1
            have q2 := HQ.out.cell 2
            simp only [List.getElem?_toArray, List.getElem?_cons_zero, List.getElem?_cons_succ] at t0 t1 q0 q1 q2
            go_wp2_with fail
            refine (awake_c _).mono ?_
            rintro e w9 ⟨rfl, hb⟩
            replace hs := hs.keep hb
            go_wp2_with fail
            go_ret
            exact ⟨rfl, hs.1⟩
          · have kd : decide (0 ≤ r) = false := decide_eq_false (by omega)
            rw [HM3.out fl hlen, HM5.out fl]
            replace hs := hs.keep hb
            replace HB := Lib.hid (HB.out.keep hb)
            replace HT := Lib.hid (HT.out.keep hb)
            replace HG := Lib.hid (HG.out.keep hb)
            replace HL := Lib.hid (HL.out.keep hb)
            replace HQ := Lib.hid (HQ.out.keep hb)
            clear hb
            clear c0 c1 c2 t0 t1 q0 q1 q2
            obtain ⟨c0, c1, c2⟩ := HB.out.hull
            have t0 := HT.out.cell 0
            have t1 := HT.out.cell 1
            have q0 := HQ.out.cell 0
            have q1 := HQ.out.cell 1
            have q2 := HQ.out.cell 2
            simp only [List.getElem?_toArray, List.getElem?_cons_zero, List.getElem?_cons_succ] at t0 t1 q0 q1 q2
            go_wp2_with fail
            refine (awake_c _).mono ?_
            rintro e w9 ⟨rfl, hb⟩
            replace hs := hs.keep hb
            go_wp2_with fail
            go_ret
            exact ⟨rfl, hs.1⟩
  · rw [decide_eq_false hc]
    have HE := Lib.hid (bears_bad (gs := []) (ls := []) (wt := 0) (l := fl) hc)
    have hcn : ((chk h).2.2 != 0) = true := by simpa using hc
    clear hc
    obtain ⟨c0, c1, c2⟩ := HB.out.hull
    go_wp2_with fail
    refine (Bears_c h m none [] 0 none [] 0 0 FA fl fc _ (HP.out.keep hs.1) (fun hx => absurd rfl hx) (fun hx => absurd rfl hx) (HF.out.keep hs.1) HFL.out).mono ?_
    rintro e w4 ⟨rfl, hb⟩
    rw [HE.out]
    replace hs := hs.keep hb
    clear hb c0 c1 c2
    go_wp2_with fail
    refine (awake_c _).mono ?_
    rintro e w9 ⟨rfl, hb⟩
    replace hs := hs.keep hb
    go_wp2_with fail
    go_ret
    exact ⟨rfl, hs.1⟩
end Td
end Go.Proofs.Ythdcklonamgpiaa
