import Derived.Test.YthdcklonamgpiaaStt
import Derived.Test.YthdcklonamgpiaaRtr
/- The law StandShown: what it returns. -/
namespace Go.Proofs.Ythdcklonamgpiaa
open Go.RowKit
namespace Td
set_option linter.unusedSimpArgs false
set_option linter.unusedVariables false
attribute [local go_sem] Oper.semAt_some
theorem whyB_cases (d a f : Int) : whyB d a f = 0 ∨ (whyB d a f = 1 ∧ d ≤ 0) ∨ (whyB d a f = 2 ∧ a < 0) ∨ (whyB d a f = 3 ∧ f < 0) := by
  unfold whyB
  split
  · right; left; exact ⟨rfl, by omega⟩
  · split
    · right; right; left; exact ⟨rfl, by omega⟩
    · split
      · right; right; right; exact ⟨rfl, by omega⟩
      · left; rfl
theorem shown_math {h : Hul} {v y : Int} (hc : (chk h).2.2 = 0) (h0 : 0 ≤ v) (h1 : v ≤ 1000) (hy : whyH h v = y) (hn : y ≠ 0) : ∃ gs ls p q r, showA h v = ((gs, ls), y, 0) ∧ rtE h gs ls = 0 ∧ balanceA h gs ls v = ((p, q, r), 0) ∧ standsV h gs ls v = false ∧ ((y = 1 ∧ p ≤ 0) ∨ (y = 2 ∧ q < 0) ∨ (y = 3 ∧ r < 0)) := by
  have hh := chk_ok hc
  have hT := sh_ok (h := h) (fun x hx => ⟨(hh.ps x hx).w01, (hh.ps x hx).l01⟩) (shK y)
  have hE := balE_ok.2 ⟨hc, hT, h0, h1⟩
  have hL : lookE h v v = 0 := by
    unfold lookE
    rw [if_neg (by simp [hc])]
    exact tideE_ok.2 ⟨h0, by omega, h1⟩
  have hC : (y = 1 ∧ bal h (shG h (shK y)) (shL h (shK y)) 0 v ≤ 0) ∨ (y = 2 ∧ bal h (shG h (shK y)) (shL h (shK y)) 1 v < 0) ∨ (y = 3 ∧ bal h (shG h (shK y)) (shL h (shK y)) 2 v < 0) := by
    unfold whyH at hy
    rcases whyB_cases (lst h 0 v) (lst h 1 v) (lst h 2 v) with e | ⟨e, e2⟩ | ⟨e, e2⟩ | ⟨e, e2⟩
    · exact absurd (hy.symm.trans e) hn
    · left
      have e3 : y = 1 := hy.symm.trans e
      subst e3
      refine ⟨rfl, ?_⟩
      rw [show shK 1 = 0 from rfl, bal_sh]; exact e2
    · right; left
      have e3 : y = 2 := hy.symm.trans e
      subst e3
      refine ⟨rfl, ?_⟩
      rw [show shK 2 = 1 from rfl, bal_sh]; exact e2
    · right; right
      have e3 : y = 3 := hy.symm.trans e
      subst e3
      refine ⟨rfl, ?_⟩
      rw [show shK 3 = 2 from rfl, bal_sh]; exact e2
  refine ⟨shG h (shK y), shL h (shK y), _, _, _, ?_, ?_, ?_, ?_, hC⟩
  · unfold showA; rw [if_neg (by simp [hL]), hy]
  · unfold rtE; rw [if_neg (by simp [hc])]; exact truthE_ok.2 hT
  · unfold balanceA; rw [if_neg (by simp [hE])]
  · have hw : whyB (bal h (shG h (shK y)) (shL h (shK y)) 0 v) (bal h (shG h (shK y)) (shL h (shK y)) 1 v) (bal h (shG h (shK y)) (shL h (shK y)) 2 v) ≠ 0 := by
      intro e
      rw [whyB_zero] at e
      omega
    unfold standsV forcesA
    rw [if_neg (by simp [hE]), if_pos hw]
    rfl
theorem showC {h : Hul} {v y : Int} {gs ls : List Int} (m : Sl) (w : World) (hp : HAt w m h) (hA : showA h v = ((gs, ls), y, 0)) : Calls Try.prog 39 #[.agg (hV h m), .int .i64 v] w fun e w' => (∃ u, e = .returned (.tuple #[u, .int .i64 y, .int .i64 0]) ∧ Tv w.heap.size w' u gs ls) ∧ Below w.heap.size w w' := by
  have k := Show_c h m v w hp
  rw [hA] at k
  exact k
theorem balC {h : Hul} {v p q r : Int} {gs ls : List Int} (m : Sl) (GA : Option Addr) (gc : Nat) (LA : Option Addr) (lc : Nat) (w : World) (hp : HAt w m h) (hG : InAt w GA gs) (hL : InAt w LA ls) (hA : balanceA h gs ls v = ((p, q, r), 0)) : Calls Try.prog 17 #[.agg (hV h m), .agg (tV GA gs.length gc LA ls.length lc), .int .i64 v] w fun e w' => e = .returned (.tuple #[.agg #[.int .i64 p, .int .i64 q, .int .i64 r], .int .i64 0]) ∧ Below w.heap.size w w' := by
  have k := Balance_c h m GA gs gc LA ls lc v w hp hG hL
  rw [hA] at k
  exact k
set_option maxRecDepth 100000 in
set_option maxHeartbeats 8000000 in
theorem standShown_c (h : Hul) (m : Sl) (a0 a1 aw : Nat) (P : Option Addr) (U : List Int) (pc : Nat) (w : World) (hp : HAt w m h) (hu : U32At w P U) (ho : U32Ok U) (b0 : a0 ≤ 65535) (b1 : a1 ≤ 65535) (b2 : aw ≤ 65535) :
    Calls Try.prog 8 #[.agg (hV h m), .agg (xV a0 a1 aw P U.length pc)] w fun e w' => e = .returned (.bool true) ∧ Below w.heap.size w w' := by
  have hs := ((Since.refl w).alloc (.cells (hV h m) 24)).alloc (.cells (xV a0 a1 aw P U.length pc) 63)
  have HB := Lib.hid ((Blk.new w 24 (hV h m)).alloc (.cells (xV a0 a1 aw P U.length pc) 63))
  have HX := Lib.hid (Blk.new1 w (.cells (hV h m) 24) 63 (xV a0 a1 aw P U.length pc))
  have HP := Lib.hid hp
  have HU := Lib.hid hu
  have HO := Lib.hid ho
  obtain ⟨i0, i1, i2⟩ := tide_in a0 a1
  clear hp hu ho
  have x0 := HX.out.cell 0
  have x1 := HX.out.cell 1
  simp only [List.getElem?_toArray, List.getElem?_cons_zero, List.getElem?_cons_succ] at x0 x1
  go_enter Try.func8, Try.ntmps8
  go_wp2_with fail
  refine (lawtide_c a0 a1 _ b0 b1).mono ?_
  rintro e w1 ⟨rfl, hb⟩
  replace hs := hs.keep hb
  replace HB := Lib.hid (HB.out.keep hb)
  replace HX := Lib.hid (HX.out.keep hb)
  clear hb x0 x1
  obtain ⟨lo, hlo⟩ : ∃ lo, tLo a0 = lo := ⟨_, rfl⟩
  obtain ⟨hi, hhi⟩ : ∃ hi, tHi a0 a1 = hi := ⟨_, rfl⟩
  rw [hlo] at i0 i1 ⊢
  rw [hhi] at i1 i2 ⊢
  clear hlo hhi
  have hq : Below w1.heap.size w1 (w1.alloc (.cells #[.int .i64 lo, .int .i64 hi] 48)) := (Below.refl _ _).alloc (Nat.le_refl _) _
  replace hs := hs.keep hq
  replace HB := Lib.hid (HB.out.keep hq)
  replace HX := Lib.hid (HX.out.keep hq)
  have HS := Lib.hid (Blk.new w1 48 #[.int .i64 lo, .int .i64 hi])
  obtain ⟨c0, c1, c2⟩ := HB.out.hull
  have s0 := HS.out.cell 0
  have s1 := HS.out.cell 1
  simp only [List.getElem?_toArray, List.getElem?_cons_zero, List.getElem?_cons_succ] at s0 s1
  clear hq
  go_wp2_with fail
  refine (Why_c h m lo hi _ (HP.out.keep hs.1)).mono ?_
  rintro e w2 ⟨rfl, hb⟩
  obtain ⟨gS, hgS⟩ : ∃ g, w1.heap.size = g := ⟨_, rfl⟩
  rw [hgS] at HS ⊢
  replace hs := hs.keep hb
  replace HB := Lib.hid (HB.out.keep hb)
  replace HX := Lib.hid (HX.out.keep hb)
  replace HS := Lib.hid (HS.out.keep hb)
  clear hb c0 c1 c2 s0 s1 hgS
  obtain ⟨Y, hY⟩ : ∃ Y, whyA h lo hi = Y := ⟨_, rfl⟩
  obtain ⟨y1, y2, y3⟩ := Y
  rw [hY]
  obtain ⟨c0, c1, c2⟩ := HB.out.hull
  go_wp2_with fail
  refine (valid_c h m _ (HP.out.keep hs.1)).mono ?_
  rintro e w3 ⟨rfl, hb⟩
  replace hs := hs.keep hb
  replace HB := Lib.hid (HB.out.keep hb)
  replace HX := Lib.hid (HX.out.keep hb)
  replace HS := Lib.hid (HS.out.keep hb)
  clear hb c0 c1 c2
  by_cases hc : (chk h).2.2 = 0
  · rw [decide_eq_true hc]
    rw [why_good hc i0 i1 i2] at hY
    rcases fall_cases h lo hi with ⟨e, hw⟩ | ⟨v, v1, v2, v3, v4, e⟩
    · rw [e] at hY
      simp only [Prod.mk.injEq] at hY
      obtain ⟨rfl, rfl, rfl⟩ := hY
      clear hw hc e
      go_wp2_with fail
      refine (awake_c _).mono ?_
      rintro e w9 ⟨rfl, hb⟩
      replace hs := hs.keep hb
      go_wp2_with fail
      go_ret
      exact ⟨rfl, hs.1⟩
    · rw [e] at hY
      simp only [Prod.mk.injEq] at hY
      obtain ⟨y, hy⟩ : ∃ y, whyH h v = y := ⟨_, rfl⟩
      rw [hy] at hY v4
      obtain ⟨rfl, rfl, rfl⟩ := hY
      obtain ⟨gs, ls, p, q, r, M1, M2, M3, M4, M5⟩ := shown_math hc (show 0 ≤ v by omega) (show v ≤ 1000 by omega) hy v4
      have HM1 := Lib.hid M1
      have HM2 := Lib.hid M2
      have HM3 := Lib.hid M3
      have HM4 := Lib.hid M4
      have HM5 := Lib.hid M5
      have HV3 := Lib.hid v3
      have HC := Lib.hid hc
      have hyn : (y == 0) = false := by simpa using v4
      have hyn2 : (y != 0) = true := by simpa using v4
      have z1 : ¬ v < lo := by omega
      have z2 : ¬ hi < v := by omega
      clear M1 M2 M3 M4 M5 v3 v4 hy hc e
      obtain ⟨c0, c1, c2⟩ := HB.out.hull
      go_wp2_with fail
      refine (showC m _ (HP.out.keep hs.1) HM1.out).mono ?_
      rintro e w4 ⟨⟨u, rfl, GA, gc, LA, lc, rfl, hg, hl, -, -, -⟩, hb⟩
      have HG := Lib.hid hg
      have HL := Lib.hid hl
      replace hs := hs.keep hb
      replace HB := Lib.hid (HB.out.keep hb)
      replace HX := Lib.hid (HX.out.keep hb)
      replace HS := Lib.hid (HS.out.keep hb)
      clear hb
      clear hg hl c0 c1 c2
      have hq : Below w4.heap.size w4 (w4.alloc (.cells (tV GA gs.length gc LA ls.length lc) 27)) := (Below.refl _ _).alloc (Nat.le_refl _) _
      replace hs := hs.keep hq
      replace HB := Lib.hid (HB.out.keep hq)
      replace HX := Lib.hid (HX.out.keep hq)
      replace HS := Lib.hid (HS.out.keep hq)
      replace HG := Lib.hid (HG.out.keep hq)
      replace HL := Lib.hid (HL.out.keep hq)
      have HT := Lib.hid (Blk.new w4 27 (tV GA gs.length gc LA ls.length lc))
      clear hq
      obtain ⟨c0, c1, c2⟩ := HB.out.hull
      have t0 := HT.out.cell 0
      have t1 := HT.out.cell 1
      have s0 := HS.out.cell 0
      have s1 := HS.out.cell 1
      simp only [List.getElem?_toArray, List.getElem?_cons_zero, List.getElem?_cons_succ] at t0 t1 s0 s1
      go_wp2_with fail
      refine (rtruth_c h m GA gs gc LA ls lc _ (HP.out.keep hs.1) HG.out HL.out).mono ?_
      rintro e w6 ⟨rfl, hb⟩
      rw [HM2.out]
      obtain ⟨gT, hk9⟩ : ∃ k, w4.heap.size = k := ⟨_, rfl⟩
      rw [hk9] at HT ⊢
      replace hs := hs.keep hb
      replace HB := Lib.hid (HB.out.keep hb)
      replace HX := Lib.hid (HX.out.keep hb)
      replace HS := Lib.hid (HS.out.keep hb)
      replace HG := Lib.hid (HG.out.keep hb)
      replace HL := Lib.hid (HL.out.keep hb)
      replace HT := Lib.hid (HT.out.keep hb)
      clear hb
      clear c0 c1 c2 t0 t1 s0 s1 hk9
      obtain ⟨c0, c1, c2⟩ := HB.out.hull
      have t0 := HT.out.cell 0
      have t1 := HT.out.cell 1
      have s0 := HS.out.cell 0
      have s1 := HS.out.cell 1
      simp only [List.getElem?_toArray, List.getElem?_cons_zero, List.getElem?_cons_succ] at t0 t1 s0 s1
      go_wp2_with fail
      refine (balC m GA gc LA lc _ (HP.out.keep hs.1) HG.out HL.out HM3.out).mono ?_
      rintro e w7 ⟨rfl, hb⟩
      replace hs := hs.keep hb
      replace HB := Lib.hid (HB.out.keep hb)
      replace HX := Lib.hid (HX.out.keep hb)
      replace HS := Lib.hid (HS.out.keep hb)
      replace HG := Lib.hid (HG.out.keep hb)
      replace HL := Lib.hid (HL.out.keep hb)
      replace HT := Lib.hid (HT.out.keep hb)
      clear hb
      clear c0 c1 c2 t0 t1 s0 s1
      have hq : Below w7.heap.size w7 (w7.alloc (.cells #[.int .i64 p, .int .i64 q, .int .i64 r] 32)) := (Below.refl _ _).alloc (Nat.le_refl _) _
      replace hs := hs.keep hq
      replace HB := Lib.hid (HB.out.keep hq)
      replace HX := Lib.hid (HX.out.keep hq)
      replace HS := Lib.hid (HS.out.keep hq)
      replace HG := Lib.hid (HG.out.keep hq)
      replace HL := Lib.hid (HL.out.keep hq)
      replace HT := Lib.hid (HT.out.keep hq)
      have HQ := Lib.hid (Blk.new w7 32 #[.int .i64 p, .int .i64 q, .int .i64 r])
      clear hq
      obtain ⟨c0, c1, c2⟩ := HB.out.hull
      have t0 := HT.out.cell 0
      have t1 := HT.out.cell 1
      have s0 := HS.out.cell 0
      have s1 := HS.out.cell 1
      simp only [List.getElem?_toArray, List.getElem?_cons_zero, List.getElem?_cons_succ] at t0 t1 s0 s1
      have q0 := HQ.out.cell 0
      have q1 := HQ.out.cell 1
      have q2 := HQ.out.cell 2
      simp only [List.getElem?_toArray, List.getElem?_cons_zero, List.getElem?_cons_succ] at q0 q1 q2
      have hst : Calls Try.prog 36 #[.agg (hV h m), .agg (tV GA gs.length gc LA ls.length lc), .int .i64 v] (w7.alloc (.cells #[.int .i64 p, .int .i64 q, .int .i64 r] 32)) fun e w' => e = .returned (.bool false) ∧ Below (w7.alloc (.cells #[.int .i64 p, .int .i64 q, .int .i64 r] 32)).heap.size (w7.alloc (.cells #[.int .i64 p, .int .i64 q, .int .i64 r] 32)) w' := by
        have k := stands_c h m GA gs gc LA ls lc v (w7.alloc (.cells #[.int .i64 p, .int .i64 q, .int .i64 r] 32)) (HP.out.keep hs.1) HG.out HL.out
        rw [HM4.out] at k
        exact k
      have HST0 := Lib.hid hst
      clear hst
      rcases HM5.out with ⟨rfl, f1⟩ | ⟨rfl, f1⟩ | ⟨rfl, f1⟩
      · have HF := Lib.hid f1
        go_wp2_with fail
        refine HST0.out.mono ?_
        rintro e w8 ⟨rfl, hb⟩
        replace hs := hs.keep hb
        replace HB := Lib.hid (HB.out.keep hb)
        replace HX := Lib.hid (HX.out.keep hb)
        replace HS := Lib.hid (HS.out.keep hb)
        replace HG := Lib.hid (HG.out.keep hb)
        replace HL := Lib.hid (HL.out.keep hb)
        replace HT := Lib.hid (HT.out.keep hb)
        replace HQ := Lib.hid (HQ.out.keep hb)
        clear hb
        clear HST0 c0 c1 c2 t0 t1 s0 s1 q0 q1 q2 f1
        have s0 := HS.out.cell 0
        simp only [List.getElem?_toArray, List.getElem?_cons_zero, List.getElem?_cons_succ] at s0
        by_cases hvl : v = lo
        · subst hvl
          go_wp2_with fail
          refine (awake_c _).mono ?_
          rintro e w9 ⟨rfl, hb⟩
          replace hs := hs.keep hb
          go_wp2_with fail
          go_ret
          exact ⟨rfl, hs.1⟩
        · have hvn : (v == lo) = false := by simpa using hvl
          obtain ⟨am, ham⟩ : ∃ am, amongV lo (v - 1) (aw : Int) = am := ⟨_, rfl⟩
          have hai := amongV_in (n := (aw : Int)) (show lo ≤ v - 1 by omega)
          rw [ham] at hai
          have HST : Hid (standsV h (gL h U h.parts.length) (lL h U h.parts.length) am = true) := stands_sure HC.out (turns_ok (chk_ok HC.out) U) (by omega) (by omega) (HV3.out am hai.1 (by omega))
          have HAM := Lib.hid ham
          have HH := Lib.hid (chk_ok HC.out)
          have eC : IntKind.i64.wrap (aw : Int) = aw := IntWalk.i64_in _ (by omega)
          have eV : IntKind.i64.wrap (v - 1) = v - 1 := IntWalk.i64_in _ (by omega)
          clear ham hai
          go_wp2_with fail
          clear s0 HG HL HT HQ
          refine Vals6.regionAll (fun X => Since w X ∧ Blk X w.heap.size 24 (hV h m) ∧ Blk X (w.heap.size + 1) 63 (xV a0 a1 aw P U.length pc) ∧ Blk X gS 48 #[.int .i64 lo, .int .i64 hi]) [some 126, some 127, some 128, some 129, some 130, some 131, some 132, some 133, some 134, some 135, some 136, some 137, some 138, some 139, some 140, some 141, some 142, some 143] [.is (.agg (hV h m)), .is (.agg (hV h m)), .is (.pointer (some ⟨w.heap.size + 1, 3, none⟩)), .is (.slice P U.length pc), .has (TvP (gL h U h.parts.length) (lL h U h.parts.length)), .is (.pointer (some ⟨gS, 0, none⟩)), .is (.int .i64 lo), .is (.int .i64 v), .is (.int .i64 (v - 1)), .is (.agg #[.int .i64 lo, .int .i64 (v - 1)]), .is (.pointer (some ⟨w.heap.size + 1, 2, none⟩)), .is (.int .u16 aw), .is (.int .i64 aw), .is (.int .i64 am), .is (.bool true), .is (.bool true), .is (.bool true), .is (.bool true)] (by kernel_rfl) rfl rfl (by kernel_rfl) (by kernel_rfl) (by kernel_rfl) (by kernel_rfl) (by kernel_rfl) (by kernel_rfl) rfl (⟨hs.drew, HB.out.drew, HX.out.drew, HS.out.drew⟩) ?hsteps ?hend
          case hsteps =>
            refine Vals5.Steps.run rfl (Vals5.Stable.is _) ?_ ?_
            · intro a W hS pre old K hK
              have e2 := old 2 _ (by kernel_rfl) rfl
              clear pre old
              simp only [Vals5.fits, Array.getD_eq_getD_getElem?, List.getElem?_toArray, List.getElem?_cons_zero, List.getElem?_cons_succ, Option.getD_some] at e2
              have hS9 := hS
              obtain ⟨_, q2, q3, q4⟩ := hS9
              obtain ⟨c0, c1, c2⟩ := q2.hull
              have x2 := q3.cell 2
              have x3 := q3.cell 3
              have s0 := q4.cell 0
              have s1 := q4.cell 1
              simp only [List.getElem?_toArray, List.getElem?_cons_zero, List.getElem?_cons_succ] at x2 x3 s0 s1
              go_simp
              refine hK _ _ hS (Below.refl _ _) ?_
              exact fits_is _ _
            refine Vals5.Steps.run rfl (Vals5.Stable.is _) ?_ ?_
            · intro a W hS pre old K hK
              have e2 := old 2 _ (by kernel_rfl) rfl
              clear pre old
              simp only [Vals5.fits, Array.getD_eq_getD_getElem?, List.getElem?_toArray, List.getElem?_cons_zero, List.getElem?_cons_succ, Option.getD_some] at e2
              have hS9 := hS
              obtain ⟨_, q2, q3, q4⟩ := hS9
              obtain ⟨c0, c1, c2⟩ := q2.hull
              have x2 := q3.cell 2
              have x3 := q3.cell 3
              have s0 := q4.cell 0
              have s1 := q4.cell 1
              simp only [List.getElem?_toArray, List.getElem?_cons_zero, List.getElem?_cons_succ] at x2 x3 s0 s1
              go_simp
              refine hK _ _ hS (Below.refl _ _) ?_
              exact fits_is _ _
            refine Vals5.Steps.run rfl (Vals5.Stable.is _) ?_ ?_
            · intro a W hS pre old K hK
              have e3 := old 3 _ (by kernel_rfl) rfl
              clear pre old
              simp only [Vals5.fits, Array.getD_eq_getD_getElem?, List.getElem?_toArray, List.getElem?_cons_zero, List.getElem?_cons_succ, Option.getD_some] at e3
              go_simp
              refine hK _ _ hS (Below.refl _ _) ?_
              exact fits_is _ _
            refine Vals5.Steps.run rfl (Vals5.Stable.is _) ?_ ?_
            · intro a W hS pre old K hK
              have e128 := pre 2 128 _ (by kernel_rfl) rfl rfl
              clear pre old
              simp only [Vals5.fits, Array.getD_eq_getD_getElem?, List.getElem?_toArray, List.getElem?_cons_zero, List.getElem?_cons_succ, Option.getD_some] at e128
              have hS9 := hS
              obtain ⟨_, q2, q3, q4⟩ := hS9
              obtain ⟨c0, c1, c2⟩ := q2.hull
              have x2 := q3.cell 2
              have x3 := q3.cell 3
              have s0 := q4.cell 0
              have s1 := q4.cell 1
              simp only [List.getElem?_toArray, List.getElem?_cons_zero, List.getElem?_cons_succ] at x2 x3 s0 s1
              go_simp
              refine hK _ _ hS (Below.refl _ _) ?_
              exact fits_is _ _
            refine Vals5.Steps.run rfl (TvP.stable _ _) ?_ ?_
            · intro a W hS pre old K hK
              have e127 := pre 1 127 _ (by kernel_rfl) rfl rfl
              have e129 := pre 3 129 _ (by kernel_rfl) rfl rfl
              clear pre old
              simp only [Vals5.fits, Array.getD_eq_getD_getElem?, List.getElem?_toArray, List.getElem?_cons_zero, List.getElem?_cons_succ, Option.getD_some] at e127 e129
              have hC := truth_c h m P U pc W HH.out (HP.out.keep hS.1.1) (HU.out.keep hS.1.1) HO.out
              go_simp
              refine hC.mono ?_
              rintro e w' ⟨⟨v, rfl, GA, gc, LA, lc, rfl, hg, hl, hcc, -, -⟩, hb'⟩
              obtain ⟨q1, q2, q3, q4⟩ := hS
              exact hK _ _ ⟨q1.keep hb', q2.keep hb', q3.keep hb', q4.keep hb'⟩ hb' ⟨GA, gc, LA, lc, rfl, hg, hl, hcc, fun _ _ => Nat.zero_le _, fun _ _ => Nat.zero_le _⟩
            refine Vals5.Steps.run rfl (Vals5.Stable.is _) ?_ ?_
            · intro a W hS pre old K hK
              have e5 := old 5 _ (by kernel_rfl) rfl
              clear pre old
              simp only [Vals5.fits, Array.getD_eq_getD_getElem?, List.getElem?_toArray, List.getElem?_cons_zero, List.getElem?_cons_succ, Option.getD_some] at e5
              go_simp
              refine hK _ _ hS (Below.refl _ _) ?_
              exact fits_is _ _
            refine Vals5.Steps.run rfl (Vals5.Stable.is _) ?_ ?_
            · intro a W hS pre old K hK
              have e131 := pre 5 131 _ (by kernel_rfl) rfl rfl
              clear pre old
              simp only [Vals5.fits, Array.getD_eq_getD_getElem?, List.getElem?_toArray, List.getElem?_cons_zero, List.getElem?_cons_succ, Option.getD_some] at e131
              have hS9 := hS
              obtain ⟨_, q2, q3, q4⟩ := hS9
              obtain ⟨c0, c1, c2⟩ := q2.hull
              have x2 := q3.cell 2
              have x3 := q3.cell 3
              have s0 := q4.cell 0
              have s1 := q4.cell 1
              simp only [List.getElem?_toArray, List.getElem?_cons_zero, List.getElem?_cons_succ] at x2 x3 s0 s1
              go_simp
              refine hK _ _ hS (Below.refl _ _) ?_
              exact fits_is _ _
            refine Vals5.Steps.run rfl (Vals5.Stable.is _) ?_ ?_
            · intro a W hS pre old K hK
              have e7 := old 7 _ (by kernel_rfl) rfl
              clear pre old
              simp only [Vals5.fits, Array.getD_eq_getD_getElem?, List.getElem?_toArray, List.getElem?_cons_zero, List.getElem?_cons_succ, Option.getD_some] at e7
              go_simp
              refine hK _ _ hS (Below.refl _ _) ?_
              exact fits_is _ _
            refine Vals5.Steps.run rfl (Vals5.Stable.is _) ?_ ?_
            · intro a W hS pre old K hK
              have e133 := pre 7 133 _ (by kernel_rfl) rfl rfl
              clear pre old
              simp only [Vals5.fits, Array.getD_eq_getD_getElem?, List.getElem?_toArray, List.getElem?_cons_zero, List.getElem?_cons_succ, Option.getD_some] at e133
              go_simp
              refine hK _ _ hS (Below.refl _ _) ?_
              exact fits_is _ _
            refine Vals5.Steps.run rfl (Vals5.Stable.is _) ?_ ?_
            · intro a W hS pre old K hK
              have e132 := pre 6 132 _ (by kernel_rfl) rfl rfl
              have e134 := pre 8 134 _ (by kernel_rfl) rfl rfl
              clear pre old
              simp only [Vals5.fits, Array.getD_eq_getD_getElem?, List.getElem?_toArray, List.getElem?_cons_zero, List.getElem?_cons_succ, Option.getD_some] at e132 e134
              have hC := span_c lo (v - 1) W
              go_simp
              refine hC.mono ?_
              rintro e w' ⟨rfl, hb'⟩
              obtain ⟨q1, q2, q3, q4⟩ := hS
              refine hK _ _ ⟨q1.keep hb', q2.keep hb', q3.keep hb', q4.keep hb'⟩ hb' ?_
              exact fits_is _ _
            refine Vals5.Steps.run rfl (Vals5.Stable.is _) ?_ ?_
            · intro a W hS pre old K hK
              have e3 := old 3 _ (by kernel_rfl) rfl
              clear pre old
              simp only [Vals5.fits, Array.getD_eq_getD_getElem?, List.getElem?_toArray, List.getElem?_cons_zero, List.getElem?_cons_succ, Option.getD_some] at e3
              go_simp
              refine hK _ _ hS (Below.refl _ _) ?_
              exact fits_is _ _
            refine Vals5.Steps.run rfl (Vals5.Stable.is _) ?_ ?_
            · intro a W hS pre old K hK
              have e136 := pre 10 136 _ (by kernel_rfl) rfl rfl
              clear pre old
              simp only [Vals5.fits, Array.getD_eq_getD_getElem?, List.getElem?_toArray, List.getElem?_cons_zero, List.getElem?_cons_succ, Option.getD_some] at e136
              have hS9 := hS
              obtain ⟨_, q2, q3, q4⟩ := hS9
              obtain ⟨c0, c1, c2⟩ := q2.hull
              have x2 := q3.cell 2
              have x3 := q3.cell 3
              have s0 := q4.cell 0
              have s1 := q4.cell 1
              simp only [List.getElem?_toArray, List.getElem?_cons_zero, List.getElem?_cons_succ] at x2 x3 s0 s1
              go_simp
              refine hK _ _ hS (Below.refl _ _) ?_
              exact fits_is _ _
            refine Vals5.Steps.run rfl (Vals5.Stable.is _) ?_ ?_
            · intro a W hS pre old K hK
              have e137 := pre 11 137 _ (by kernel_rfl) rfl rfl
              clear pre old
              simp only [Vals5.fits, Array.getD_eq_getD_getElem?, List.getElem?_toArray, List.getElem?_cons_zero, List.getElem?_cons_succ, Option.getD_some] at e137
              go_simp
              refine hK _ _ hS (Below.refl _ _) ?_
              exact fits_is _ _
            refine Vals5.Steps.run rfl (Vals5.Stable.is _) ?_ ?_
            · intro a W hS pre old K hK
              have e135 := pre 9 135 _ (by kernel_rfl) rfl rfl
              have e138 := pre 12 138 _ (by kernel_rfl) rfl rfl
              clear pre old
              simp only [Vals5.fits, Array.getD_eq_getD_getElem?, List.getElem?_toArray, List.getElem?_cons_zero, List.getElem?_cons_succ, Option.getD_some] at e135 e138
              have hC := among_c lo (v - 1) (aw : Int) W (by omega) (by omega) (by omega) (by omega) (by omega)
              rw [HAM.out] at hC
              go_simp
              refine hC.mono ?_
              rintro e w' ⟨rfl, hb'⟩
              obtain ⟨q1, q2, q3, q4⟩ := hS
              refine hK _ _ ⟨q1.keep hb', q2.keep hb', q3.keep hb', q4.keep hb'⟩ hb' ?_
              exact fits_is _ _
            refine Vals5.Steps.run rfl (Vals5.Stable.is _) ?_ ?_
            · intro a W hS pre old K hK
              have e126 := pre 0 126 _ (by kernel_rfl) rfl rfl
              have f130 := pre 4 130 _ (by kernel_rfl) rfl rfl
              have e139 := pre 13 139 _ (by kernel_rfl) rfl rfl
              clear pre old
              simp only [Vals5.fits, Array.getD_eq_getD_getElem?, List.getElem?_toArray, List.getElem?_cons_zero, List.getElem?_cons_succ, Option.getD_some] at e126 e139
              obtain ⟨GA, gc, LA, lc, hv, hg, hl, -, -, -⟩ := f130
              simp only [Array.getD_eq_getD_getElem?] at hv
              have hC := stands_c h m GA (gL h U h.parts.length) gc LA (lL h U h.parts.length) lc am W (HP.out.keep hS.1.1) hg hl
              rw [HST.out] at hC
              go_simp
              refine hC.mono ?_
              rintro e w' ⟨rfl, hb'⟩
              obtain ⟨q1, q2, q3, q4⟩ := hS
              refine hK _ _ ⟨q1.keep hb', q2.keep hb', q3.keep hb', q4.keep hb'⟩ hb' ?_
              exact fits_is _ _
            refine Vals5.Steps.run rfl (Vals5.Stable.is _) ?_ ?_
            · intro a W hS pre old K hK
              have e140 := pre 14 140 _ (by kernel_rfl) rfl rfl
              clear pre old
              simp only [Vals5.fits, Array.getD_eq_getD_getElem?, List.getElem?_toArray, List.getElem?_cons_zero, List.getElem?_cons_succ, Option.getD_some] at e140
              go_simp
              refine hK _ _ hS (Below.refl _ _) ?_
              exact fits_is _ _
            refine Vals5.Steps.run rfl (Vals5.Stable.is _) ?_ ?_
            · intro a W hS pre old K hK
              clear pre old
              go_simp
              refine (awake_c _).mono ?_
              rintro e w' ⟨rfl, hb'⟩
              obtain ⟨q1, q2, q3, q4⟩ := hS
              refine hK _ _ ⟨q1.keep hb', q2.keep hb', q3.keep hb', q4.keep hb'⟩ hb' ?_
              exact fits_is _ _
            refine Vals5.Steps.run rfl (Vals5.Stable.is _) ?_ ?_
            · intro a W hS pre old K hK
              have e141 := pre 15 141 _ (by kernel_rfl) rfl rfl
              have e142 := pre 16 142 _ (by kernel_rfl) rfl rfl
              clear pre old
              simp only [Vals5.fits, Array.getD_eq_getD_getElem?, List.getElem?_toArray, List.getElem?_cons_zero, List.getElem?_cons_succ, Option.getD_some] at e141 e142
              go_simp
              refine hK _ _ hS (Below.refl _ _) ?_
              exact fits_is _ _
            exact Vals5.Steps.nil
          case hend =>
            rintro X ⟨hs3, _, _, _⟩
            simp only [Vals5.All, List.getLast_cons_cons, List.getLast_singleton]
            rintro u130 -
            simp only [Vals.putAll, List.setIfInBounds_toArray, List.set_cons_zero, List.set_cons_succ]
            intro K hK
            go_simp
            refine hK _ _ ?_
            clear hK K
            go_wp2_with fail
            go_ret
            exact ⟨rfl, hs3.1⟩
      · have HF := Lib.hid f1
        go_wp2_with fail
        refine HST0.out.mono ?_
        rintro e w8 ⟨rfl, hb⟩
        replace hs := hs.keep hb
        replace HB := Lib.hid (HB.out.keep hb)
        replace HX := Lib.hid (HX.out.keep hb)
        replace HS := Lib.hid (HS.out.keep hb)
        replace HG := Lib.hid (HG.out.keep hb)
        replace HL := Lib.hid (HL.out.keep hb)
        replace HT := Lib.hid (HT.out.keep hb)
        replace HQ := Lib.hid (HQ.out.keep hb)
        clear hb
        clear HST0 c0 c1 c2 t0 t1 s0 s1 q0 q1 q2 f1
        have s0 := HS.out.cell 0
        simp only [List.getElem?_toArray, List.getElem?_cons_zero, List.getElem?_cons_succ] at s0
        by_cases hvl : v = lo
        · subst hvl
          go_wp2_with fail
          refine (awake_c _).mono ?_
          rintro e w9 ⟨rfl, hb⟩
          replace hs := hs.keep hb
          go_wp2_with fail
          go_ret
          exact ⟨rfl, hs.1⟩
        · have hvn : (v == lo) = false := by simpa using hvl
          obtain ⟨am, ham⟩ : ∃ am, amongV lo (v - 1) (aw : Int) = am := ⟨_, rfl⟩
          have hai := amongV_in (n := (aw : Int)) (show lo ≤ v - 1 by omega)
          rw [ham] at hai
          have HST : Hid (standsV h (gL h U h.parts.length) (lL h U h.parts.length) am = true) := stands_sure HC.out (turns_ok (chk_ok HC.out) U) (by omega) (by omega) (HV3.out am hai.1 (by omega))
          have HAM := Lib.hid ham
          have HH := Lib.hid (chk_ok HC.out)
          have eC : IntKind.i64.wrap (aw : Int) = aw := IntWalk.i64_in _ (by omega)
          have eV : IntKind.i64.wrap (v - 1) = v - 1 := IntWalk.i64_in _ (by omega)
          clear ham hai
          go_wp2_with fail
          clear s0 HG HL HT HQ
          refine Vals6.regionAll (fun X => Since w X ∧ Blk X w.heap.size 24 (hV h m) ∧ Blk X (w.heap.size + 1) 63 (xV a0 a1 aw P U.length pc) ∧ Blk X gS 48 #[.int .i64 lo, .int .i64 hi]) [some 126, some 127, some 128, some 129, some 130, some 131, some 132, some 133, some 134, some 135, some 136, some 137, some 138, some 139, some 140, some 141, some 142, some 143] [.is (.agg (hV h m)), .is (.agg (hV h m)), .is (.pointer (some ⟨w.heap.size + 1, 3, none⟩)), .is (.slice P U.length pc), .has (TvP (gL h U h.parts.length) (lL h U h.parts.length)), .is (.pointer (some ⟨gS, 0, none⟩)), .is (.int .i64 lo), .is (.int .i64 v), .is (.int .i64 (v - 1)), .is (.agg #[.int .i64 lo, .int .i64 (v - 1)]), .is (.pointer (some ⟨w.heap.size + 1, 2, none⟩)), .is (.int .u16 aw), .is (.int .i64 aw), .is (.int .i64 am), .is (.bool true), .is (.bool true), .is (.bool true), .is (.bool true)] (by kernel_rfl) rfl rfl (by kernel_rfl) (by kernel_rfl) (by kernel_rfl) (by kernel_rfl) (by kernel_rfl) (by kernel_rfl) rfl (⟨hs.drew, HB.out.drew, HX.out.drew, HS.out.drew⟩) ?hsteps ?hend
          case hsteps =>
            refine Vals5.Steps.run rfl (Vals5.Stable.is _) ?_ ?_
            · intro a W hS pre old K hK
              have e2 := old 2 _ (by kernel_rfl) rfl
              clear pre old
              simp only [Vals5.fits, Array.getD_eq_getD_getElem?, List.getElem?_toArray, List.getElem?_cons_zero, List.getElem?_cons_succ, Option.getD_some] at e2
              have hS9 := hS
              obtain ⟨_, q2, q3, q4⟩ := hS9
              obtain ⟨c0, c1, c2⟩ := q2.hull
              have x2 := q3.cell 2
              have x3 := q3.cell 3
              have s0 := q4.cell 0
              have s1 := q4.cell 1
              simp only [List.getElem?_toArray, List.getElem?_cons_zero, List.getElem?_cons_succ] at x2 x3 s0 s1
              go_simp
              refine hK _ _ hS (Below.refl _ _) ?_
              exact fits_is _ _
            refine Vals5.Steps.run rfl (Vals5.Stable.is _) ?_ ?_
            · intro a W hS pre old K hK
              have e2 := old 2 _ (by kernel_rfl) rfl
              clear pre old
              simp only [Vals5.fits, Array.getD_eq_getD_getElem?, List.getElem?_toArray, List.getElem?_cons_zero, List.getElem?_cons_succ, Option.getD_some] at e2
              have hS9 := hS
              obtain ⟨_, q2, q3, q4⟩ := hS9
              obtain ⟨c0, c1, c2⟩ := q2.hull
              have x2 := q3.cell 2
              have x3 := q3.cell 3
              have s0 := q4.cell 0
              have s1 := q4.cell 1
              simp only [List.getElem?_toArray, List.getElem?_cons_zero, List.getElem?_cons_succ] at x2 x3 s0 s1
              go_simp
              refine hK _ _ hS (Below.refl _ _) ?_
              exact fits_is _ _
            refine Vals5.Steps.run rfl (Vals5.Stable.is _) ?_ ?_
            · intro a W hS pre old K hK
              have e3 := old 3 _ (by kernel_rfl) rfl
              clear pre old
              simp only [Vals5.fits, Array.getD_eq_getD_getElem?, List.getElem?_toArray, List.getElem?_cons_zero, List.getElem?_cons_succ, Option.getD_some] at e3
              go_simp
              refine hK _ _ hS (Below.refl _ _) ?_
              exact fits_is _ _
            refine Vals5.Steps.run rfl (Vals5.Stable.is _) ?_ ?_
            · intro a W hS pre old K hK
              have e128 := pre 2 128 _ (by kernel_rfl) rfl rfl
              clear pre old
              simp only [Vals5.fits, Array.getD_eq_getD_getElem?, List.getElem?_toArray, List.getElem?_cons_zero, List.getElem?_cons_succ, Option.getD_some] at e128
              have hS9 := hS
              obtain ⟨_, q2, q3, q4⟩ := hS9
              obtain ⟨c0, c1, c2⟩ := q2.hull
              have x2 := q3.cell 2
              have x3 := q3.cell 3
              have s0 := q4.cell 0
              have s1 := q4.cell 1
              simp only [List.getElem?_toArray, List.getElem?_cons_zero, List.getElem?_cons_succ] at x2 x3 s0 s1
              go_simp
              refine hK _ _ hS (Below.refl _ _) ?_
              exact fits_is _ _
            refine Vals5.Steps.run rfl (TvP.stable _ _) ?_ ?_
            · intro a W hS pre old K hK
              have e127 := pre 1 127 _ (by kernel_rfl) rfl rfl
              have e129 := pre 3 129 _ (by kernel_rfl) rfl rfl
              clear pre old
              simp only [Vals5.fits, Array.getD_eq_getD_getElem?, List.getElem?_toArray, List.getElem?_cons_zero, List.getElem?_cons_succ, Option.getD_some] at e127 e129
              have hC := truth_c h m P U pc W HH.out (HP.out.keep hS.1.1) (HU.out.keep hS.1.1) HO.out
              go_simp
              refine hC.mono ?_
              rintro e w' ⟨⟨v, rfl, GA, gc, LA, lc, rfl, hg, hl, hcc, -, -⟩, hb'⟩
              obtain ⟨q1, q2, q3, q4⟩ := hS
              exact hK _ _ ⟨q1.keep hb', q2.keep hb', q3.keep hb', q4.keep hb'⟩ hb' ⟨GA, gc, LA, lc, rfl, hg, hl, hcc, fun _ _ => Nat.zero_le _, fun _ _ => Nat.zero_le _⟩
            refine Vals5.Steps.run rfl (Vals5.Stable.is _) ?_ ?_
            · intro a W hS pre old K hK
              have e5 := old 5 _ (by kernel_rfl) rfl
              clear pre old
              simp only [Vals5.fits, Array.getD_eq_getD_getElem?, List.getElem?_toArray, List.getElem?_cons_zero, List.getElem?_cons_succ, Option.getD_some] at e5
              go_simp
              refine hK _ _ hS (Below.refl _ _) ?_
              exact fits_is _ _
            refine Vals5.Steps.run rfl (Vals5.Stable.is _) ?_ ?_
            · intro a W hS pre old K hK
              have e131 := pre 5 131 _ (by kernel_rfl) rfl rfl
              clear pre old
              simp only [Vals5.fits, Array.getD_eq_getD_getElem?, List.getElem?_toArray, List.getElem?_cons_zero, List.getElem?_cons_succ, Option.getD_some] at e131
              have hS9 := hS
              obtain ⟨_, q2, q3, q4⟩ := hS9
              obtain ⟨c0, c1, c2⟩ := q2.hull
              have x2 := q3.cell 2
              have x3 := q3.cell 3
              have s0 := q4.cell 0
              have s1 := q4.cell 1
              simp only [List.getElem?_toArray, List.getElem?_cons_zero, List.getElem?_cons_succ] at x2 x3 s0 s1
              go_simp
              refine hK _ _ hS (Below.refl _ _) ?_
              exact fits_is _ _
            refine Vals5.Steps.run rfl (Vals5.Stable.is _) ?_ ?_
            · intro a W hS pre old K hK
              have e7 := old 7 _ (by kernel_rfl) rfl
              clear pre old
              simp only [Vals5.fits, Array.getD_eq_getD_getElem?, List.getElem?_toArray, List.getElem?_cons_zero, List.getElem?_cons_succ, Option.getD_some] at e7
              go_simp
              refine hK _ _ hS (Below.refl _ _) ?_
              exact fits_is _ _
            refine Vals5.Steps.run rfl (Vals5.Stable.is _) ?_ ?_
            · intro a W hS pre old K hK
              have e133 := pre 7 133 _ (by kernel_rfl) rfl rfl
              clear pre old
              simp only [Vals5.fits, Array.getD_eq_getD_getElem?, List.getElem?_toArray, List.getElem?_cons_zero, List.getElem?_cons_succ, Option.getD_some] at e133
              go_simp
              refine hK _ _ hS (Below.refl _ _) ?_
              exact fits_is _ _
            refine Vals5.Steps.run rfl (Vals5.Stable.is _) ?_ ?_
            · intro a W hS pre old K hK
              have e132 := pre 6 132 _ (by kernel_rfl) rfl rfl
              have e134 := pre 8 134 _ (by kernel_rfl) rfl rfl
              clear pre old
              simp only [Vals5.fits, Array.getD_eq_getD_getElem?, List.getElem?_toArray, List.getElem?_cons_zero, List.getElem?_cons_succ, Option.getD_some] at e132 e134
              have hC := span_c lo (v - 1) W
              go_simp
              refine hC.mono ?_
              rintro e w' ⟨rfl, hb'⟩
              obtain ⟨q1, q2, q3, q4⟩ := hS
              refine hK _ _ ⟨q1.keep hb', q2.keep hb', q3.keep hb', q4.keep hb'⟩ hb' ?_
              exact fits_is _ _
            refine Vals5.Steps.run rfl (Vals5.Stable.is _) ?_ ?_
            · intro a W hS pre old K hK
              have e3 := old 3 _ (by kernel_rfl) rfl
              clear pre old
              simp only [Vals5.fits, Array.getD_eq_getD_getElem?, List.getElem?_toArray, List.getElem?_cons_zero, List.getElem?_cons_succ, Option.getD_some] at e3
              go_simp
              refine hK _ _ hS (Below.refl _ _) ?_
              exact fits_is _ _
            refine Vals5.Steps.run rfl (Vals5.Stable.is _) ?_ ?_
            · intro a W hS pre old K hK
              have e136 := pre 10 136 _ (by kernel_rfl) rfl rfl
              clear pre old
              simp only [Vals5.fits, Array.getD_eq_getD_getElem?, List.getElem?_toArray, List.getElem?_cons_zero, List.getElem?_cons_succ, Option.getD_some] at e136
              have hS9 := hS
              obtain ⟨_, q2, q3, q4⟩ := hS9
              obtain ⟨c0, c1, c2⟩ := q2.hull
              have x2 := q3.cell 2
              have x3 := q3.cell 3
              have s0 := q4.cell 0
              have s1 := q4.cell 1
              simp only [List.getElem?_toArray, List.getElem?_cons_zero, List.getElem?_cons_succ] at x2 x3 s0 s1
              go_simp
              refine hK _ _ hS (Below.refl _ _) ?_
              exact fits_is _ _
            refine Vals5.Steps.run rfl (Vals5.Stable.is _) ?_ ?_
            · intro a W hS pre old K hK
              have e137 := pre 11 137 _ (by kernel_rfl) rfl rfl
              clear pre old
              simp only [Vals5.fits, Array.getD_eq_getD_getElem?, List.getElem?_toArray, List.getElem?_cons_zero, List.getElem?_cons_succ, Option.getD_some] at e137
              go_simp
              refine hK _ _ hS (Below.refl _ _) ?_
              exact fits_is _ _
            refine Vals5.Steps.run rfl (Vals5.Stable.is _) ?_ ?_
            · intro a W hS pre old K hK
              have e135 := pre 9 135 _ (by kernel_rfl) rfl rfl
              have e138 := pre 12 138 _ (by kernel_rfl) rfl rfl
              clear pre old
              simp only [Vals5.fits, Array.getD_eq_getD_getElem?, List.getElem?_toArray, List.getElem?_cons_zero, List.getElem?_cons_succ, Option.getD_some] at e135 e138
              have hC := among_c lo (v - 1) (aw : Int) W (by omega) (by omega) (by omega) (by omega) (by omega)
              rw [HAM.out] at hC
              go_simp
              refine hC.mono ?_
              rintro e w' ⟨rfl, hb'⟩
              obtain ⟨q1, q2, q3, q4⟩ := hS
              refine hK _ _ ⟨q1.keep hb', q2.keep hb', q3.keep hb', q4.keep hb'⟩ hb' ?_
              exact fits_is _ _
            refine Vals5.Steps.run rfl (Vals5.Stable.is _) ?_ ?_
            · intro a W hS pre old K hK
              have e126 := pre 0 126 _ (by kernel_rfl) rfl rfl
              have f130 := pre 4 130 _ (by kernel_rfl) rfl rfl
              have e139 := pre 13 139 _ (by kernel_rfl) rfl rfl
              clear pre old
              simp only [Vals5.fits, Array.getD_eq_getD_getElem?, List.getElem?_toArray, List.getElem?_cons_zero, List.getElem?_cons_succ, Option.getD_some] at e126 e139
              obtain ⟨GA, gc, LA, lc, hv, hg, hl, -, -, -⟩ := f130
              simp only [Array.getD_eq_getD_getElem?] at hv
              have hC := stands_c h m GA (gL h U h.parts.length) gc LA (lL h U h.parts.length) lc am W (HP.out.keep hS.1.1) hg hl
              rw [HST.out] at hC
              go_simp
              refine hC.mono ?_
              rintro e w' ⟨rfl, hb'⟩
              obtain ⟨q1, q2, q3, q4⟩ := hS
              refine hK _ _ ⟨q1.keep hb', q2.keep hb', q3.keep hb', q4.keep hb'⟩ hb' ?_
              exact fits_is _ _
            refine Vals5.Steps.run rfl (Vals5.Stable.is _) ?_ ?_
            · intro a W hS pre old K hK
              have e140 := pre 14 140 _ (by kernel_rfl) rfl rfl
              clear pre old
              simp only [Vals5.fits, Array.getD_eq_getD_getElem?, List.getElem?_toArray, List.getElem?_cons_zero, List.getElem?_cons_succ, Option.getD_some] at e140
              go_simp
              refine hK _ _ hS (Below.refl _ _) ?_
              exact fits_is _ _
            refine Vals5.Steps.run rfl (Vals5.Stable.is _) ?_ ?_
            · intro a W hS pre old K hK
              clear pre old
              go_simp
              refine (awake_c _).mono ?_
              rintro e w' ⟨rfl, hb'⟩
              obtain ⟨q1, q2, q3, q4⟩ := hS
              refine hK _ _ ⟨q1.keep hb', q2.keep hb', q3.keep hb', q4.keep hb'⟩ hb' ?_
              exact fits_is _ _
            refine Vals5.Steps.run rfl (Vals5.Stable.is _) ?_ ?_
            · intro a W hS pre old K hK
              have e141 := pre 15 141 _ (by kernel_rfl) rfl rfl
              have e142 := pre 16 142 _ (by kernel_rfl) rfl rfl
              clear pre old
              simp only [Vals5.fits, Array.getD_eq_getD_getElem?, List.getElem?_toArray, List.getElem?_cons_zero, List.getElem?_cons_succ, Option.getD_some] at e141 e142
              go_simp
              refine hK _ _ hS (Below.refl _ _) ?_
              exact fits_is _ _
            exact Vals5.Steps.nil
          case hend =>
            rintro X ⟨hs3, _, _, _⟩
            simp only [Vals5.All, List.getLast_cons_cons, List.getLast_singleton]
            rintro u130 -
            simp only [Vals.putAll, List.setIfInBounds_toArray, List.set_cons_zero, List.set_cons_succ]
            intro K hK
            go_simp
            refine hK _ _ ?_
            clear hK K
            go_wp2_with fail
            go_ret
            exact ⟨rfl, hs3.1⟩
      · have HF := Lib.hid f1
        go_wp2_with fail
        refine HST0.out.mono ?_
        rintro e w8 ⟨rfl, hb⟩
        replace hs := hs.keep hb
        replace HB := Lib.hid (HB.out.keep hb)
        replace HX := Lib.hid (HX.out.keep hb)
        replace HS := Lib.hid (HS.out.keep hb)
        replace HG := Lib.hid (HG.out.keep hb)
        replace HL := Lib.hid (HL.out.keep hb)
        replace HT := Lib.hid (HT.out.keep hb)
        replace HQ := Lib.hid (HQ.out.keep hb)
        clear hb
        clear HST0 c0 c1 c2 t0 t1 s0 s1 q0 q1 q2 f1
        have s0 := HS.out.cell 0
        simp only [List.getElem?_toArray, List.getElem?_cons_zero, List.getElem?_cons_succ] at s0
        by_cases hvl : v = lo
        · subst hvl
          go_wp2_with fail
          refine (awake_c _).mono ?_
          rintro e w9 ⟨rfl, hb⟩
          replace hs := hs.keep hb
          go_wp2_with fail
          go_ret
          exact ⟨rfl, hs.1⟩
        · have hvn : (v == lo) = false := by simpa using hvl
          obtain ⟨am, ham⟩ : ∃ am, amongV lo (v - 1) (aw : Int) = am := ⟨_, rfl⟩
          have hai := amongV_in (n := (aw : Int)) (show lo ≤ v - 1 by omega)
          rw [ham] at hai
          have HST : Hid (standsV h (gL h U h.parts.length) (lL h U h.parts.length) am = true) := stands_sure HC.out (turns_ok (chk_ok HC.out) U) (by omega) (by omega) (HV3.out am hai.1 (by omega))
          have HAM := Lib.hid ham
          have HH := Lib.hid (chk_ok HC.out)
          have eC : IntKind.i64.wrap (aw : Int) = aw := IntWalk.i64_in _ (by omega)
          have eV : IntKind.i64.wrap (v - 1) = v - 1 := IntWalk.i64_in _ (by omega)
          clear ham hai
          go_wp2_with fail
          clear s0 HG HL HT HQ
          refine Vals6.regionAll (fun X => Since w X ∧ Blk X w.heap.size 24 (hV h m) ∧ Blk X (w.heap.size + 1) 63 (xV a0 a1 aw P U.length pc) ∧ Blk X gS 48 #[.int .i64 lo, .int .i64 hi]) [some 126, some 127, some 128, some 129, some 130, some 131, some 132, some 133, some 134, some 135, some 136, some 137, some 138, some 139, some 140, some 141, some 142, some 143] [.is (.agg (hV h m)), .is (.agg (hV h m)), .is (.pointer (some ⟨w.heap.size + 1, 3, none⟩)), .is (.slice P U.length pc), .has (TvP (gL h U h.parts.length) (lL h U h.parts.length)), .is (.pointer (some ⟨gS, 0, none⟩)), .is (.int .i64 lo), .is (.int .i64 v), .is (.int .i64 (v - 1)), .is (.agg #[.int .i64 lo, .int .i64 (v - 1)]), .is (.pointer (some ⟨w.heap.size + 1, 2, none⟩)), .is (.int .u16 aw), .is (.int .i64 aw), .is (.int .i64 am), .is (.bool true), .is (.bool true), .is (.bool true), .is (.bool true)] (by kernel_rfl) rfl rfl (by kernel_rfl) (by kernel_rfl) (by kernel_rfl) (by kernel_rfl) (by kernel_rfl) (by kernel_rfl) rfl (⟨hs.drew, HB.out.drew, HX.out.drew, HS.out.drew⟩) ?hsteps ?hend
          case hsteps =>
            refine Vals5.Steps.run rfl (Vals5.Stable.is _) ?_ ?_
            · intro a W hS pre old K hK
              have e2 := old 2 _ (by kernel_rfl) rfl
              clear pre old
              simp only [Vals5.fits, Array.getD_eq_getD_getElem?, List.getElem?_toArray, List.getElem?_cons_zero, List.getElem?_cons_succ, Option.getD_some] at e2
              have hS9 := hS
              obtain ⟨_, q2, q3, q4⟩ := hS9
              obtain ⟨c0, c1, c2⟩ := q2.hull
              have x2 := q3.cell 2
              have x3 := q3.cell 3
              have s0 := q4.cell 0
              have s1 := q4.cell 1
              simp only [List.getElem?_toArray, List.getElem?_cons_zero, List.getElem?_cons_succ] at x2 x3 s0 s1
              go_simp
              refine hK _ _ hS (Below.refl _ _) ?_
              exact fits_is _ _
            refine Vals5.Steps.run rfl (Vals5.Stable.is _) ?_ ?_
            · intro a W hS pre old K hK
              have e2 := old 2 _ (by kernel_rfl) rfl
              clear pre old
              simp only [Vals5.fits, Array.getD_eq_getD_getElem?, List.getElem?_toArray, List.getElem?_cons_zero, List.getElem?_cons_succ, Option.getD_some] at e2
              have hS9 := hS
              obtain ⟨_, q2, q3, q4⟩ := hS9
              obtain ⟨c0, c1, c2⟩ := q2.hull
              have x2 := q3.cell 2
              have x3 := q3.cell 3
              have s0 := q4.cell 0
              have s1 := q4.cell 1
              simp only [List.getElem?_toArray, List.getElem?_cons_zero, List.getElem?_cons_succ] at x2 x3 s0 s1
              go_simp
              refine hK _ _ hS (Below.refl _ _) ?_
              exact fits_is _ _
            refine Vals5.Steps.run rfl (Vals5.Stable.is _) ?_ ?_
            · intro a W hS pre old K hK
              have e3 := old 3 _ (by kernel_rfl) rfl
              clear pre old
              simp only [Vals5.fits, Array.getD_eq_getD_getElem?, List.getElem?_toArray, List.getElem?_cons_zero, List.getElem?_cons_succ, Option.getD_some] at e3
              go_simp
              refine hK _ _ hS (Below.refl _ _) ?_
              exact fits_is _ _
            refine Vals5.Steps.run rfl (Vals5.Stable.is _) ?_ ?_
            · intro a W hS pre old K hK
              have e128 := pre 2 128 _ (by kernel_rfl) rfl rfl
              clear pre old
              simp only [Vals5.fits, Array.getD_eq_getD_getElem?, List.getElem?_toArray, List.getElem?_cons_zero, List.getElem?_cons_succ, Option.getD_some] at e128
              have hS9 := hS
              obtain ⟨_, q2, q3, q4⟩ := hS9
              obtain ⟨c0, c1, c2⟩ := q2.hull
              have x2 := q3.cell 2
              have x3 := q3.cell 3
              have s0 := q4.cell 0
              have s1 := q4.cell 1
              simp only [List.getElem?_toArray, List.getElem?_cons_zero, List.getElem?_cons_succ] at x2 x3 s0 s1
              go_simp
              refine hK _ _ hS (Below.refl _ _) ?_
              exact fits_is _ _
            refine Vals5.Steps.run rfl (TvP.stable _ _) ?_ ?_
            · intro a W hS pre old K hK
              have e127 := pre 1 127 _ (by kernel_rfl) rfl rfl
              have e129 := pre 3 129 _ (by kernel_rfl) rfl rfl
              clear pre old
              simp only [Vals5.fits, Array.getD_eq_getD_getElem?, List.getElem?_toArray, List.getElem?_cons_zero, List.getElem?_cons_succ, Option.getD_some] at e127 e129
              have hC := truth_c h m P U pc W HH.out (HP.out.keep hS.1.1) (HU.out.keep hS.1.1) HO.out
              go_simp
              refine hC.mono ?_
              rintro e w' ⟨⟨v, rfl, GA, gc, LA, lc, rfl, hg, hl, hcc, -, -⟩, hb'⟩
              obtain ⟨q1, q2, q3, q4⟩ := hS
              exact hK _ _ ⟨q1.keep hb', q2.keep hb', q3.keep hb', q4.keep hb'⟩ hb' ⟨GA, gc, LA, lc, rfl, hg, hl, hcc, fun _ _ => Nat.zero_le _, fun _ _ => Nat.zero_le _⟩
            refine Vals5.Steps.run rfl (Vals5.Stable.is _) ?_ ?_
            · intro a W hS pre old K hK
              have e5 := old 5 _ (by kernel_rfl) rfl
              clear pre old
              simp only [Vals5.fits, Array.getD_eq_getD_getElem?, List.getElem?_toArray, List.getElem?_cons_zero, List.getElem?_cons_succ, Option.getD_some] at e5
              go_simp
              refine hK _ _ hS (Below.refl _ _) ?_
              exact fits_is _ _
            refine Vals5.Steps.run rfl (Vals5.Stable.is _) ?_ ?_
            · intro a W hS pre old K hK
              have e131 := pre 5 131 _ (by kernel_rfl) rfl rfl
              clear pre old
              simp only [Vals5.fits, Array.getD_eq_getD_getElem?, List.getElem?_toArray, List.getElem?_cons_zero, List.getElem?_cons_succ, Option.getD_some] at e131
              have hS9 := hS
              obtain ⟨_, q2, q3, q4⟩ := hS9
              obtain ⟨c0, c1, c2⟩ := q2.hull
              have x2 := q3.cell 2
              have x3 := q3.cell 3
              have s0 := q4.cell 0
              have s1 := q4.cell 1
              simp only [List.getElem?_toArray, List.getElem?_cons_zero, List.getElem?_cons_succ] at x2 x3 s0 s1
              go_simp
              refine hK _ _ hS (Below.refl _ _) ?_
              exact fits_is _ _
            refine Vals5.Steps.run rfl (Vals5.Stable.is _) ?_ ?_
            · intro a W hS pre old K hK
              have e7 := old 7 _ (by kernel_rfl) rfl
              clear pre old
              simp only [Vals5.fits, Array.getD_eq_getD_getElem?, List.getElem?_toArray, List.getElem?_cons_zero, List.getElem?_cons_succ, Option.getD_some] at e7
              go_simp
              refine hK _ _ hS (Below.refl _ _) ?_
              exact fits_is _ _
            refine Vals5.Steps.run rfl (Vals5.Stable.is _) ?_ ?_
            · intro a W hS pre old K hK
              have e133 := pre 7 133 _ (by kernel_rfl) rfl rfl
              clear pre old
              simp only [Vals5.fits, Array.getD_eq_getD_getElem?, List.getElem?_toArray, List.getElem?_cons_zero, List.getElem?_cons_succ, Option.getD_some] at e133
              go_simp
              refine hK _ _ hS (Below.refl _ _) ?_
              exact fits_is _ _
            refine Vals5.Steps.run rfl (Vals5.Stable.is _) ?_ ?_
            · intro a W hS pre old K hK
              have e132 := pre 6 132 _ (by kernel_rfl) rfl rfl
              have e134 := pre 8 134 _ (by kernel_rfl) rfl rfl
              clear pre old
              simp only [Vals5.fits, Array.getD_eq_getD_getElem?, List.getElem?_toArray, List.getElem?_cons_zero, List.getElem?_cons_succ, Option.getD_some] at e132 e134
              have hC := span_c lo (v - 1) W
              go_simp
              refine hC.mono ?_
              rintro e w' ⟨rfl, hb'⟩
              obtain ⟨q1, q2, q3, q4⟩ := hS
              refine hK _ _ ⟨q1.keep hb', q2.keep hb', q3.keep hb', q4.keep hb'⟩ hb' ?_
              exact fits_is _ _
            refine Vals5.Steps.run rfl (Vals5.Stable.is _) ?_ ?_
            · intro a W hS pre old K hK
              have e3 := old 3 _ (by kernel_rfl) rfl
              clear pre old
              simp only [Vals5.fits, Array.getD_eq_getD_getElem?, List.getElem?_toArray, List.getElem?_cons_zero, List.getElem?_cons_succ, Option.getD_some] at e3
              go_simp
              refine hK _ _ hS (Below.refl _ _) ?_
              exact fits_is _ _
            refine Vals5.Steps.run rfl (Vals5.Stable.is _) ?_ ?_
            · intro a W hS pre old K hK
              have e136 := pre 10 136 _ (by kernel_rfl) rfl rfl
              clear pre old
              simp only [Vals5.fits, Array.getD_eq_getD_getElem?, List.getElem?_toArray, List.getElem?_cons_zero, List.getElem?_cons_succ, Option.getD_some] at e136
              have hS9 := hS
              obtain ⟨_, q2, q3, q4⟩ := hS9
              obtain ⟨c0, c1, c2⟩ := q2.hull
              have x2 := q3.cell 2
              have x3 := q3.cell 3
              have s0 := q4.cell 0
              have s1 := q4.cell 1
              simp only [List.getElem?_toArray, List.getElem?_cons_zero, List.getElem?_cons_succ] at x2 x3 s0 s1
              go_simp
              refine hK _ _ hS (Below.refl _ _) ?_
              exact fits_is _ _
            refine Vals5.Steps.run rfl (Vals5.Stable.is _) ?_ ?_
            · intro a W hS pre old K hK
              have e137 := pre 11 137 _ (by kernel_rfl) rfl rfl
              clear pre old
              simp only [Vals5.fits, Array.getD_eq_getD_getElem?, List.getElem?_toArray, List.getElem?_cons_zero, List.getElem?_cons_succ, Option.getD_some] at e137
              go_simp
              refine hK _ _ hS (Below.refl _ _) ?_
              exact fits_is _ _
            refine Vals5.Steps.run rfl (Vals5.Stable.is _) ?_ ?_
            · intro a W hS pre old K hK
              have e135 := pre 9 135 _ (by kernel_rfl) rfl rfl
              have e138 := pre 12 138 _ (by kernel_rfl) rfl rfl
              clear pre old
              simp only [Vals5.fits, Array.getD_eq_getD_getElem?, List.getElem?_toArray, List.getElem?_cons_zero, List.getElem?_cons_succ, Option.getD_some] at e135 e138
              have hC := among_c lo (v - 1) (aw : Int) W (by omega) (by omega) (by omega) (by omega) (by omega)
              rw [HAM.out] at hC
              go_simp
              refine hC.mono ?_
              rintro e w' ⟨rfl, hb'⟩
              obtain ⟨q1, q2, q3, q4⟩ := hS
              refine hK _ _ ⟨q1.keep hb', q2.keep hb', q3.keep hb', q4.keep hb'⟩ hb' ?_
              exact fits_is _ _
            refine Vals5.Steps.run rfl (Vals5.Stable.is _) ?_ ?_
            · intro a W hS pre old K hK
              have e126 := pre 0 126 _ (by kernel_rfl) rfl rfl
              have f130 := pre 4 130 _ (by kernel_rfl) rfl rfl
              have e139 := pre 13 139 _ (by kernel_rfl) rfl rfl
              clear pre old
              simp only [Vals5.fits, Array.getD_eq_getD_getElem?, List.getElem?_toArray, List.getElem?_cons_zero, List.getElem?_cons_succ, Option.getD_some] at e126 e139
              obtain ⟨GA, gc, LA, lc, hv, hg, hl, -, -, -⟩ := f130
              simp only [Array.getD_eq_getD_getElem?] at hv
              have hC := stands_c h m GA (gL h U h.parts.length) gc LA (lL h U h.parts.length) lc am W (HP.out.keep hS.1.1) hg hl
              rw [HST.out] at hC
              go_simp
              refine hC.mono ?_
              rintro e w' ⟨rfl, hb'⟩
              obtain ⟨q1, q2, q3, q4⟩ := hS
              refine hK _ _ ⟨q1.keep hb', q2.keep hb', q3.keep hb', q4.keep hb'⟩ hb' ?_
              exact fits_is _ _
            refine Vals5.Steps.run rfl (Vals5.Stable.is _) ?_ ?_
            · intro a W hS pre old K hK
              have e140 := pre 14 140 _ (by kernel_rfl) rfl rfl
              clear pre old
              simp only [Vals5.fits, Array.getD_eq_getD_getElem?, List.getElem?_toArray, List.getElem?_cons_zero, List.getElem?_cons_succ, Option.getD_some] at e140
              go_simp
              refine hK _ _ hS (Below.refl _ _) ?_
              exact fits_is _ _
            refine Vals5.Steps.run rfl (Vals5.Stable.is _) ?_ ?_
            · intro a W hS pre old K hK
              clear pre old
              go_simp
              refine (awake_c _).mono ?_
              rintro e w' ⟨rfl, hb'⟩
              obtain ⟨q1, q2, q3, q4⟩ := hS
              refine hK _ _ ⟨q1.keep hb', q2.keep hb', q3.keep hb', q4.keep hb'⟩ hb' ?_
              exact fits_is _ _
            refine Vals5.Steps.run rfl (Vals5.Stable.is _) ?_ ?_
            · intro a W hS pre old K hK
              have e141 := pre 15 141 _ (by kernel_rfl) rfl rfl
              have e142 := pre 16 142 _ (by kernel_rfl) rfl rfl
              clear pre old
              simp only [Vals5.fits, Array.getD_eq_getD_getElem?, List.getElem?_toArray, List.getElem?_cons_zero, List.getElem?_cons_succ, Option.getD_some] at e141 e142
              go_simp
              refine hK _ _ hS (Below.refl _ _) ?_
              exact fits_is _ _
            exact Vals5.Steps.nil
          case hend =>
            rintro X ⟨hs3, _, _, _⟩
            simp only [Vals5.All, List.getLast_cons_cons, List.getLast_singleton]
            rintro u130 -
            simp only [Vals.putAll, List.setIfInBounds_toArray, List.set_cons_zero, List.set_cons_succ]
            intro K hK
            go_simp
            refine hK _ _ ?_
            clear hK K
            go_wp2_with fail
            go_ret
            exact ⟨rfl, hs3.1⟩
  · rw [decide_eq_false hc]
    have hE : whyA h lo hi = (0, 0, (chk h).2.2) := by
      have e : lookE h lo hi = (chk h).2.2 := by unfold lookE; rw [if_pos hc]
      unfold whyA
      rw [e, if_pos hc]
    rw [hE] at hY
    simp only [Prod.mk.injEq] at hY
    obtain ⟨rfl, rfl, rfl⟩ := hY
    have hcn : ((chk h).2.2 != 0) = true := by simpa using hc
    have hcm : ((chk h).2.2 == 0) = false := by simpa using hc
    have HD := Lib.hid (decide_eq_false hc)
    clear hc hE
    obtain ⟨c0, c1, c2⟩ := HB.out.hull
    go_wp2_with fail
    refine (valid_c h m _ (HP.out.keep hs.1)).mono ?_
    rintro e w4 ⟨rfl, hb⟩
    rw [HD.out]
    replace hs := hs.keep hb
    clear hb c0 c1 c2
    go_wp2_with fail
    refine (awake_c _).mono ?_
    rintro e w9 ⟨rfl, hb⟩
    replace hs := hs.keep hb
    go_wp2_with fail
    go_ret
    exact ⟨rfl, hs.1⟩
end Td
end Go.Proofs.Ythdcklonamgpiaa
