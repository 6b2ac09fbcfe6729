import Derived.Test.YthdcklonamgpiaaWat
import Derived.Test.YthdcklonamgpiaaTrh
/- The law StandTrue: what it returns. -/
namespace Go.Proofs.Ythdcklonamgpiaa
open Go.RowKit
namespace Td
set_option linter.unusedSimpArgs false
set_option linter.unusedVariables false
attribute [local go_sem] Oper.semAt_some
def tLo (a0 : Nat) : Int := (a0 : Int) % 1001
def tHi (a0 a1 : Nat) : Int := tLo a0 + (a1 : Int) % (1000 - tLo a0 + 1)
theorem tide_in (a0 a1 : Nat) : 0 ≤ tLo a0 ∧ tLo a0 ≤ tHi a0 a1 ∧ tHi a0 a1 ≤ 1000 := by
  have h0 : 0 ≤ tLo a0 := Int.emod_nonneg _ (by decide)
  have h1 : tLo a0 < 1001 := Int.emod_lt_of_pos _ (by decide)
  have h2 := Int.emod_nonneg (a1 : Int) (show 1000 - tLo a0 + 1 ≠ 0 by omega)
  have h3 := Int.emod_lt_of_pos (a1 : Int) (show 0 < 1000 - tLo a0 + 1 by omega)
  unfold tHi
  omega
theorem whyB_rng (d a f : Int) : 0 ≤ whyB d a f ∧ whyB d a f ≤ 3 := by
  unfold whyB
  split
  · omega
  · split
    · omega
    · split <;> omega
theorem gL_at (h : Hul) (U : List Int) {n i : Nat} (hi : i < n) : (gL h U n)[i]?.getD 0 = gN h U i := by simp [gL, hi]
theorem lL_at (h : Hul) (U : List Int) {n i : Nat} (hi : i < n) : (lL h U n)[i]?.getD 0 = lN h U i := by simp [lL, hi]
theorem turns_ok {h : Hul} (hh : HOk h) (U : List Int) : TOk h (gL h U h.parts.length) (lL h U h.parts.length) where
  ng := by simp [gL]
  nl := by simp [lL]
  gb := fun i hi => by rw [gL_at h U hi]; exact amongV_in (hh.ps _ (pa_mem hi)).w01
  lb := fun i hi => by rw [lL_at h U hi]; exact amongV_in (hh.ps _ (pa_mem hi)).l01
/-- what surely stands stands in any truth. -/
theorem stands_sure {h : Hul} {gs ls : List Int} {wt : Int} (hc : (chk h).2.2 = 0) (ht : TOk h gs ls) (h0 : 0 ≤ wt) (h1 : wt ≤ 1000) (hw : whyH h wt = 0) : standsV h gs ls wt = true := by
  have hh := chk_ok hc
  have hE : balE h gs ls wt = 0 := balE_ok.2 ⟨hc, ht, h0, h1⟩
  unfold whyH at hw
  rw [whyB_zero] at hw
  have l0 := lst_le ht 0 wt
  have l1 := lst_le ht 1 wt
  have l2 := lst_le ht 2 wt
  have hB : whyB (bal h gs ls 0 wt) (bal h gs ls 1 wt) (bal h gs ls 2 wt) = 0 := whyB_zero.2 ⟨by omega, by omega, by omega⟩
  have hF : forcesA h gs ls wt = ([(h.aft, bal h gs ls 2 wt), (h.fore, bal h gs ls 1 wt)], 0) := by
    unfold forcesA
    rw [if_neg (by simp [hE]), if_neg (by simp [hB])]
  have hR := brs_two (h := h) hh.af (bal_sum h gs ls wt) (by omega) (show 0 ≤ bal h gs ls 1 wt by omega) (show 0 ≤ bal h gs ls 2 wt by omega)
  unfold standsV
  rw [hF]
  have hBr : bearsA h gs ls wt [(h.aft, bal h gs ls 2 wt), (h.fore, bal h gs ls 1 wt)] = (true, 0) := by
    unfold bearsA
    rw [if_neg (by simp [hE]), if_neg (by simp), hR]
  simp [hBr]
set_option maxRecDepth 100000 in
set_option maxHeartbeats 4000000 in
theorem lawtide_c (a0 a1 : Nat) (w : World) (b0 : a0 ≤ 65535) (b1 : a1 ≤ 65535) :
    Calls Try.prog 34 #[.agg #[.int .u16 a0, .int .u16 a1]] w fun e w' => e = .returned (.agg #[.int .i64 (tLo a0), .int .i64 (tHi a0 a1)]) ∧ Below w.heap.size w w' := by
  obtain ⟨i0, i1, i2⟩ := tide_in a0 a1
  have hs := ((Since.refl w).alloc (.cells #[.int .u16 a0, .int .u16 a1] 60)).alloc (.cells #[.int .i64 0, .int .i64 0] 48)
  have HX := Lib.hid ((Blk.new w 60 #[.int .u16 a0, .int .u16 a1]).alloc (.cells #[.int .i64 0, .int .i64 0] 48))
  have HS := Lib.hid (Blk.new1 w (.cells #[.int .u16 a0, .int .u16 a1] 60) 48 #[.int .i64 0, .int .i64 0])
  obtain ⟨L, hL⟩ : ∃ L, tLo a0 = L := ⟨_, rfl⟩
  obtain ⟨D, hD⟩ : ∃ D, (a1 : Int) % (1000 - L + 1) = D := ⟨_, rfl⟩
  have hH : tHi a0 a1 = L + D := by unfold tHi; rw [hL, hD]
  rw [hL] at i0 i1 ⊢
  rw [hH] at i1 i2 ⊢
  have eA : IntKind.i64.wrap (a0 : Int) = a0 := IntWalk.i64_in _ (by omega)
  have eB : IntKind.i64.wrap (a1 : Int) = a1 := IntWalk.i64_in _ (by omega)
  have eR : (a0 : Int).tmod 1001 = L := by rw [Int.tmod_eq_emod_of_nonneg (by omega)]; exact hL
  have d0 : 0 ≤ D := by rw [← hD]; exact Int.emod_nonneg _ (by omega)
  have eL : IntKind.i64.wrap L = L := IntWalk.i64_in _ (by omega)
  have eS : IntKind.i64.wrap (1000 - L) = 1000 - L := IntWalk.i64_in _ (by omega)
  have eT : IntKind.i64.wrap (1000 - L + 1) = 1000 - L + 1 := IntWalk.i64_in _ (by omega)
  have eQ : (a1 : Int).tmod (1000 - L + 1) = D := by rw [Int.tmod_eq_emod_of_nonneg (by omega)]; exact hD
  have eD : IntKind.i64.wrap D = D := IntWalk.i64_in _ (by omega)
  have eU : IntKind.i64.wrap (L + D) = L + D := IntWalk.i64_in _ (by omega)
  have n3 : ((1000 - L + 1) == 0) = false := by simp; omega
  have n4 : 1000 - L + 1 ≠ 0 := by omega
  have x0 := HX.out.cell 0
  have x1 := HX.out.cell 1
  simp only [List.getElem?_toArray, List.getElem?_cons_zero, List.getElem?_cons_succ] at x0 x1
  clear hL hD hH
  go_enter Try.func34, Try.ntmps34
  go_wp2_with fail
  refine (span_c _ _ _).mono ?_
  rintro e w1 ⟨rfl, hb⟩
  replace hs := hs.keep hb
  replace HS := Lib.hid (HS.out.keep hb)
  clear hb x0 x1
  go_wp2_with (refine wpList_store_row rfl 48 _ _ rfl (w.heap.size + 1) _ rfl rfl 48 _ HS.out (by kernel_rfl) rfl (by simp [Value.oneCell']) ?_)
  (refine bodyPost_ret (v := .agg _) ?_ rfl ⟨rfl, ?_⟩)
  · exact (results_cell_row Try.results34 _ _ (w.heap.size + 1) 48 _ (0, 0) _ rfl (HS.out.row _) Try.underlying48 rfl (by kernel_rfl))
  · exact (hs.row (by omega) _).1
abbrev xV (a0 a1 aw : Nat) (P : Option Addr) (n pc : Nat) : Array Value := #[.int .u16 a0, .int .u16 a1, .int .u16 aw, .slice P n pc]
set_option maxRecDepth 100000 in
set_option maxHeartbeats 8000000 in
theorem standTrue_c (h : Hul) (m : Sl) (a0 a1 aw : Nat) (P : Option Addr) (U : List Int) (pc : Nat) (w : World) (hp : HAt w m h) (hu : U32At w P U) (ho : U32Ok U) (b0 : a0 ≤ 65535) (b1 : a1 ≤ 65535) (b2 : aw ≤ 65535) :
    Calls Try.prog 7 #[.agg (hV h m), .agg (xV a0 a1 aw P U.length pc)] w fun e w' => e = .returned (.bool true) ∧ Below w.heap.size w w' := by
  have hs := ((Since.refl w).alloc (.cells (hV h m) 24)).alloc (.cells (xV a0 a1 aw P U.length pc) 63)
  have HB := Lib.hid ((Blk.new w 24 (hV h m)).alloc (.cells (xV a0 a1 aw P U.length pc) 63))
  have HX := Lib.hid (Blk.new1 w (.cells (hV h m) 24) 63 (xV a0 a1 aw P U.length pc))
  have HP := Lib.hid hp
  have HU := Lib.hid hu
  have HO := Lib.hid ho
  obtain ⟨i0, i1, i2⟩ := tide_in a0 a1
  clear hp hu ho
  have x0 := HX.out.cell 0
  have x1 := HX.out.cell 1
  simp only [List.getElem?_toArray, List.getElem?_cons_zero, List.getElem?_cons_succ] at x0 x1
  go_enter Try.func7, Try.ntmps7
  go_wp2_with fail
  refine (lawtide_c a0 a1 _ b0 b1).mono ?_
  rintro e w1 ⟨rfl, hb⟩
  replace hs := hs.keep hb
  replace HB := Lib.hid (HB.out.keep hb)
  replace HX := Lib.hid (HX.out.keep hb)
  clear hb x0 x1
  obtain ⟨lo, hlo⟩ : ∃ lo, tLo a0 = lo := ⟨_, rfl⟩
  obtain ⟨hi, hhi⟩ : ∃ hi, tHi a0 a1 = hi := ⟨_, rfl⟩
  rw [hlo] at i0 i1 ⊢
  rw [hhi] at i1 i2 ⊢
  clear hlo hhi
  have hq : Below w1.heap.size w1 (w1.alloc (.cells #[.int .i64 lo, .int .i64 hi] 48)) := (Below.refl _ _).alloc (Nat.le_refl _) _
  replace hs := hs.keep hq
  replace HB := Lib.hid (HB.out.keep hq)
  replace HX := Lib.hid (HX.out.keep hq)
  have HS := Lib.hid (Blk.new w1 48 #[.int .i64 lo, .int .i64 hi])
  obtain ⟨c0, c1, c2⟩ := HB.out.hull
  have s0 := HS.out.cell 0
  have s1 := HS.out.cell 1
  simp only [List.getElem?_toArray, List.getElem?_cons_zero, List.getElem?_cons_succ] at s0 s1
  clear hq
  go_wp2_with fail
  refine (Why_c h m lo hi _ (HP.out.keep hs.1)).mono ?_
  rintro e w2 ⟨rfl, hb⟩
  obtain ⟨gS, hgS⟩ : ∃ g, w1.heap.size = g := ⟨_, rfl⟩
  rw [hgS] at HS ⊢
  replace hs := hs.keep hb
  replace HB := Lib.hid (HB.out.keep hb)
  replace HX := Lib.hid (HX.out.keep hb)
  replace HS := Lib.hid (HS.out.keep hb)
  clear hb c0 c1 c2 s0 s1 hgS
  obtain ⟨Y, hY⟩ : ∃ Y, whyA h lo hi = Y := ⟨_, rfl⟩
  obtain ⟨y1, y2, y3⟩ := Y
  rw [hY]
  obtain ⟨c0, c1, c2⟩ := HB.out.hull
  go_wp2_with fail
  refine (valid_c h m _ (HP.out.keep hs.1)).mono ?_
  rintro e w3 ⟨rfl, hb⟩
  replace hs := hs.keep hb
  replace HB := Lib.hid (HB.out.keep hb)
  replace HX := Lib.hid (HX.out.keep hb)
  replace HS := Lib.hid (HS.out.keep hb)
  clear hb c0 c1 c2
  by_cases hc : (chk h).2.2 = 0
  · rw [decide_eq_true hc]
    rw [why_good hc i0 i1 i2] at hY
    have HC := Lib.hid hc
    rcases fall_cases h lo hi with ⟨e, hw⟩ | ⟨v, v1, v2, v3, v4, e⟩
    · rw [e] at hY
      simp only [Prod.mk.injEq] at hY
      obtain ⟨rfl, rfl, rfl⟩ := hY
      obtain ⟨am, ham⟩ : ∃ am, amongV lo hi (aw : Int) = am := ⟨_, rfl⟩
      have hai := amongV_in (n := (aw : Int)) i1
      rw [ham] at hai
      have HST : Hid (standsV h (gL h U h.parts.length) (lL h U h.parts.length) am = true) := stands_sure hc (turns_ok (chk_ok hc) U) (by omega) (by omega) (hw am hai.1 hai.2)
      have HAM := Lib.hid ham
      have HH := Lib.hid (chk_ok hc)
      have eC : IntKind.i64.wrap (aw : Int) = aw := IntWalk.i64_in _ (by omega)
      clear ham hai hw hc e
      go_wp2_with fail
      refine Vals6.regionAll (fun X => Since w X ∧ Blk X w.heap.size 24 (hV h m) ∧ Blk X (w.heap.size + 1) 63 (xV a0 a1 aw P U.length pc) ∧ Blk X gS 48 #[.int .i64 lo, .int .i64 hi]) [some 60, some 61, some 62, some 63, some 64, some 65, some 66, some 67, some 68, some 69, some 70, some 71, some 72, some 73, some 74, some 75, some 76, some 77] [.is (.int .i64 0), .is (.bool true), .is (.bool true), .is (.agg (hV h m)), .is (.agg (hV h m)), .is (.pointer (some ⟨w.heap.size + 1, 3, none⟩)), .is (.slice P U.length pc), .has (TvP (gL h U h.parts.length) (lL h U h.parts.length)), .is (.agg #[.int .i64 lo, .int .i64 hi]), .is (.pointer (some ⟨w.heap.size + 1, 2, none⟩)), .is (.int .u16 aw), .is (.int .i64 aw), .is (.int .i64 am), .is (.bool true), .is (.bool true), .is (.bool true), .is (.bool true), .is (.bool true)] (by kernel_rfl) rfl rfl (by kernel_rfl) (by kernel_rfl) (by kernel_rfl) (by kernel_rfl) (by kernel_rfl) (by kernel_rfl) rfl (⟨hs.drew, HB.out.drew, HX.out.drew, HS.out.drew⟩) ?hsteps ?hend
      case hsteps =>
        refine Vals5.Steps.run rfl (Vals5.Stable.is _) ?_ ?_
        · intro a W hS pre old K hK
          have e7 := old 7 _ (by kernel_rfl) rfl
          clear pre old
          simp only [Vals5.fits, Array.getD_eq_getD_getElem?, List.getElem?_toArray, List.getElem?_cons_zero, List.getElem?_cons_succ, Option.getD_some] at e7
          go_simp
          refine hK _ _ hS (Below.refl _ _) ?_
          exact fits_is _ _
        refine Vals5.Steps.run rfl (Vals5.Stable.is _) ?_ ?_
        · intro a W hS pre old K hK
          have e60 := pre 0 60 _ (by kernel_rfl) rfl rfl
          clear pre old
          simp only [Vals5.fits, Array.getD_eq_getD_getElem?, List.getElem?_toArray, List.getElem?_cons_zero, List.getElem?_cons_succ, Option.getD_some] at e60
          go_simp
          refine hK _ _ hS (Below.refl _ _) ?_
          exact fits_is _ _
        refine Vals5.Steps.run rfl (Vals5.Stable.is _) ?_ ?_
        · intro a W hS pre old K hK
          have e61 := pre 1 61 _ (by kernel_rfl) rfl rfl
          clear pre old
          simp only [Vals5.fits, Array.getD_eq_getD_getElem?, List.getElem?_toArray, List.getElem?_cons_zero, List.getElem?_cons_succ, Option.getD_some] at e61
          go_simp
          refine hK _ _ hS (Below.refl _ _) ?_
          exact fits_is _ _
        refine Vals5.Steps.run rfl (Vals5.Stable.is _) ?_ ?_
        · intro a W hS pre old K hK
          have e2 := old 2 _ (by kernel_rfl) rfl
          clear pre old
          simp only [Vals5.fits, Array.getD_eq_getD_getElem?, List.getElem?_toArray, List.getElem?_cons_zero, List.getElem?_cons_succ, Option.getD_some] at e2
          have hS9 := hS
          obtain ⟨_, q2, q3, q4⟩ := hS9
          obtain ⟨c0, c1, c2⟩ := q2.hull
          have x2 := q3.cell 2
          have x3 := q3.cell 3
          have s0 := q4.cell 0
          have s1 := q4.cell 1
          simp only [List.getElem?_toArray, List.getElem?_cons_zero, List.getElem?_cons_succ] at x2 x3 s0 s1
          go_simp
          refine hK _ _ hS (Below.refl _ _) ?_
          exact fits_is _ _
        refine Vals5.Steps.run rfl (Vals5.Stable.is _) ?_ ?_
        · intro a W hS pre old K hK
          have e2 := old 2 _ (by kernel_rfl) rfl
          clear pre old
          simp only [Vals5.fits, Array.getD_eq_getD_getElem?, List.getElem?_toArray, List.getElem?_cons_zero, List.getElem?_cons_succ, Option.getD_some] at e2
          have hS9 := hS
          obtain ⟨_, q2, q3, q4⟩ := hS9
          obtain ⟨c0, c1, c2⟩ := q2.hull
          have x2 := q3.cell 2
          have x3 := q3.cell 3
          have s0 := q4.cell 0
          have s1 := q4.cell 1
          simp only [List.getElem?_toArray, List.getElem?_cons_zero, List.getElem?_cons_succ] at x2 x3 s0 s1
          go_simp
          refine hK _ _ hS (Below.refl _ _) ?_
          exact fits_is _ _
        refine Vals5.Steps.run rfl (Vals5.Stable.is _) ?_ ?_
        · intro a W hS pre old K hK
          have e3 := old 3 _ (by kernel_rfl) rfl
          clear pre old
          simp only [Vals5.fits, Array.getD_eq_getD_getElem?, List.getElem?_toArray, List.getElem?_cons_zero, List.getElem?_cons_succ, Option.getD_some] at e3
          go_simp
          refine hK _ _ hS (Below.refl _ _) ?_
          exact fits_is _ _
        refine Vals5.Steps.run rfl (Vals5.Stable.is _) ?_ ?_
        · intro a W hS pre old K hK
          have e65 := pre 5 65 _ (by kernel_rfl) rfl rfl
          clear pre old
          simp only [Vals5.fits, Array.getD_eq_getD_getElem?, List.getElem?_toArray, List.getElem?_cons_zero, List.getElem?_cons_succ, Option.getD_some] at e65
          have hS9 := hS
          obtain ⟨_, q2, q3, q4⟩ := hS9
          obtain ⟨c0, c1, c2⟩ := q2.hull
          have x2 := q3.cell 2
          have x3 := q3.cell 3
          have s0 := q4.cell 0
          have s1 := q4.cell 1
          simp only [List.getElem?_toArray, List.getElem?_cons_zero, List.getElem?_cons_succ] at x2 x3 s0 s1
          go_simp
          refine hK _ _ hS (Below.refl _ _) ?_
          exact fits_is _ _
        refine Vals5.Steps.run rfl (TvP.stable _ _) ?_ ?_
        · intro a W hS pre old K hK
          have e64 := pre 4 64 _ (by kernel_rfl) rfl rfl
          have e66 := pre 6 66 _ (by kernel_rfl) rfl rfl
          clear pre old
          simp only [Vals5.fits, Array.getD_eq_getD_getElem?, List.getElem?_toArray, List.getElem?_cons_zero, List.getElem?_cons_succ, Option.getD_some] at e64 e66
          have hC := truth_c h m P U pc W HH.out (HP.out.keep hS.1.1) (HU.out.keep hS.1.1) HO.out
          go_simp
          refine hC.mono ?_
          rintro e w' ⟨⟨v, rfl, GA, gc, LA, lc, rfl, hg, hl, hcc, -, -⟩, hb'⟩
          obtain ⟨q1, q2, q3, q4⟩ := hS
          exact hK _ _ ⟨q1.keep hb', q2.keep hb', q3.keep hb', q4.keep hb'⟩ hb' ⟨GA, gc, LA, lc, rfl, hg, hl, hcc, fun _ _ => Nat.zero_le _, fun _ _ => Nat.zero_le _⟩
        refine Vals5.Steps.run rfl (Vals5.Stable.is _) ?_ ?_
        · intro a W hS pre old K hK
          have e5 := old 5 _ (by kernel_rfl) rfl
          clear pre old
          simp only [Vals5.fits, Array.getD_eq_getD_getElem?, List.getElem?_toArray, List.getElem?_cons_zero, List.getElem?_cons_succ, Option.getD_some] at e5
          have hS9 := hS
          obtain ⟨_, q2, q3, q4⟩ := hS9
          obtain ⟨c0, c1, c2⟩ := q2.hull
          have x2 := q3.cell 2
          have x3 := q3.cell 3
          have s0 := q4.cell 0
          have s1 := q4.cell 1
          simp only [List.getElem?_toArray, List.getElem?_cons_zero, List.getElem?_cons_succ] at x2 x3 s0 s1
          go_simp
          refine hK _ _ hS (Below.refl _ _) ?_
          exact fits_is _ _
        refine Vals5.Steps.run rfl (Vals5.Stable.is _) ?_ ?_
        · intro a W hS pre old K hK
          have e3 := old 3 _ (by kernel_rfl) rfl
          clear pre old
          simp only [Vals5.fits, Array.getD_eq_getD_getElem?, List.getElem?_toArray, List.getElem?_cons_zero, List.getElem?_cons_succ, Option.getD_some] at e3
          go_simp
          refine hK _ _ hS (Below.refl _ _) ?_
          exact fits_is _ _
        refine Vals5.Steps.run rfl (Vals5.Stable.is _) ?_ ?_
        · intro a W hS pre old K hK
          have e69 := pre 9 69 _ (by kernel_rfl) rfl rfl
          clear pre old
          simp only [Vals5.fits, Array.getD_eq_getD_getElem?, List.getElem?_toArray, List.getElem?_cons_zero, List.getElem?_cons_succ, Option.getD_some] at e69
          have hS9 := hS
          obtain ⟨_, q2, q3, q4⟩ := hS9
          obtain ⟨c0, c1, c2⟩ := q2.hull
          have x2 := q3.cell 2
          have x3 := q3.cell 3
          have s0 := q4.cell 0
          have s1 := q4.cell 1
          simp only [List.getElem?_toArray, List.getElem?_cons_zero, List.getElem?_cons_succ] at x2 x3 s0 s1
          go_simp
          refine hK _ _ hS (Below.refl _ _) ?_
          exact fits_is _ _
        refine Vals5.Steps.run rfl (Vals5.Stable.is _) ?_ ?_
        · intro a W hS pre old K hK
          have e70 := pre 10 70 _ (by kernel_rfl) rfl rfl
          clear pre old
          simp only [Vals5.fits, Array.getD_eq_getD_getElem?, List.getElem?_toArray, List.getElem?_cons_zero, List.getElem?_cons_succ, Option.getD_some] at e70
          go_simp
          refine hK _ _ hS (Below.refl _ _) ?_
          exact fits_is _ _
        refine Vals5.Steps.run rfl (Vals5.Stable.is _) ?_ ?_
        · intro a W hS pre old K hK
          have e68 := pre 8 68 _ (by kernel_rfl) rfl rfl
          have e71 := pre 11 71 _ (by kernel_rfl) rfl rfl
          clear pre old
          simp only [Vals5.fits, Array.getD_eq_getD_getElem?, List.getElem?_toArray, List.getElem?_cons_zero, List.getElem?_cons_succ, Option.getD_some] at e68 e71
          have hC := among_c lo hi (aw : Int) W i1 (by omega) (by omega) (by omega) (by omega)
          rw [HAM.out] at hC
          go_simp
          refine hC.mono ?_
          rintro e w' ⟨rfl, hb'⟩
          obtain ⟨q1, q2, q3, q4⟩ := hS
          refine hK _ _ ⟨q1.keep hb', q2.keep hb', q3.keep hb', q4.keep hb'⟩ hb' ?_
          exact fits_is _ _
        refine Vals5.Steps.run rfl (Vals5.Stable.is _) ?_ ?_
        · intro a W hS pre old K hK
          have e63 := pre 3 63 _ (by kernel_rfl) rfl rfl
          have f67 := pre 7 67 _ (by kernel_rfl) rfl rfl
          have e72 := pre 12 72 _ (by kernel_rfl) rfl rfl
          clear pre old
          simp only [Vals5.fits, Array.getD_eq_getD_getElem?, List.getElem?_toArray, List.getElem?_cons_zero, List.getElem?_cons_succ, Option.getD_some] at e63 e72
          obtain ⟨GA, gc, LA, lc, hv, hg, hl, -, -, -⟩ := f67
          simp only [Array.getD_eq_getD_getElem?] at hv
          have hC := stands_c h m GA (gL h U h.parts.length) gc LA (lL h U h.parts.length) lc am W (HP.out.keep hS.1.1) hg hl
          rw [HST.out] at hC
          go_simp
          refine hC.mono ?_
          rintro e w' ⟨rfl, hb'⟩
          obtain ⟨q1, q2, q3, q4⟩ := hS
          refine hK _ _ ⟨q1.keep hb', q2.keep hb', q3.keep hb', q4.keep hb'⟩ hb' ?_
          exact fits_is _ _
        refine Vals5.Steps.run rfl (Vals5.Stable.is _) ?_ ?_
        · intro a W hS pre old K hK
          have e62 := pre 2 62 _ (by kernel_rfl) rfl rfl
          have e73 := pre 13 73 _ (by kernel_rfl) rfl rfl
          clear pre old
          simp only [Vals5.fits, Array.getD_eq_getD_getElem?, List.getElem?_toArray, List.getElem?_cons_zero, List.getElem?_cons_succ, Option.getD_some] at e62 e73
          go_simp
          refine hK _ _ hS (Below.refl _ _) ?_
          exact fits_is _ _
        refine Vals5.Steps.run rfl (Vals5.Stable.is _) ?_ ?_
        · intro a W hS pre old K hK
          have e74 := pre 14 74 _ (by kernel_rfl) rfl rfl
          clear pre old
          simp only [Vals5.fits, Array.getD_eq_getD_getElem?, List.getElem?_toArray, List.getElem?_cons_zero, List.getElem?_cons_succ, Option.getD_some] at e74
          go_simp
          refine hK _ _ hS (Below.refl _ _) ?_
          exact fits_is _ _
        refine Vals5.Steps.run rfl (Vals5.Stable.is _) ?_ ?_
        · intro a W hS pre old K hK
          clear pre old
          go_simp
          refine (awake_c _).mono ?_
          rintro e w' ⟨rfl, hb'⟩
          obtain ⟨q1, q2, q3, q4⟩ := hS
          refine hK _ _ ⟨q1.keep hb', q2.keep hb', q3.keep hb', q4.keep hb'⟩ hb' ?_
          exact fits_is _ _
        refine Vals5.Steps.run rfl (Vals5.Stable.is _) ?_ ?_
        · intro a W hS pre old K hK
          have e75 := pre 15 75 _ (by kernel_rfl) rfl rfl
          have e76 := pre 16 76 _ (by kernel_rfl) rfl rfl
          clear pre old
          simp only [Vals5.fits, Array.getD_eq_getD_getElem?, List.getElem?_toArray, List.getElem?_cons_zero, List.getElem?_cons_succ, Option.getD_some] at e75 e76
          go_simp
          refine hK _ _ hS (Below.refl _ _) ?_
          exact fits_is _ _
        exact Vals5.Steps.nil
      case hend =>
        rintro X ⟨hs3, _, _, _⟩
        simp only [Vals5.All, List.getLast_cons_cons, List.getLast_singleton]
        rintro u67 -
        simp only [Vals.putAll, List.setIfInBounds_toArray, List.set_cons_zero, List.set_cons_succ]
        intro K hK
        go_simp
        refine hK _ _ ?_
        clear hK K
        go_wp2_with fail
        go_ret
        exact ⟨rfl, hs3.1⟩
    · rw [e] at hY
      simp only [Prod.mk.injEq] at hY
      obtain ⟨rfl, rfl, rfl⟩ := hY
      have hr : 0 ≤ whyH h v ∧ whyH h v ≤ 3 := by unfold whyH; exact whyB_rng _ _ _
      obtain ⟨y, hy⟩ : ∃ y, whyH h v = y := ⟨_, rfl⟩
      rw [hy] at v4 hr ⊢
      have r1 : 1 ≤ y := by omega
      have r2 := hr.2
      have hyn : (y == 0) = false := by simpa using v4
      have hyn2 : (y != 0) = true := by simpa using v4
      have s0 := HS.out.cell 0
      have s1 := HS.out.cell 1
      simp only [List.getElem?_toArray, List.getElem?_cons_zero, List.getElem?_cons_succ] at s0 s1
      clear v3 v4 hr hy hc e
      go_wp2_with fail
      refine (awake_c _).mono ?_
      rintro e w9 ⟨rfl, hb⟩
      replace hs := hs.keep hb
      go_wp2_with fail
      go_ret
      exact ⟨rfl, hs.1⟩
  · rw [decide_eq_false hc]
    have hE : whyA h lo hi = (0, 0, (chk h).2.2) := by
      have e : lookE h lo hi = (chk h).2.2 := by unfold lookE; rw [if_pos hc]
      unfold whyA
      rw [e, if_pos hc]
    rw [hE] at hY
    simp only [Prod.mk.injEq] at hY
    obtain ⟨rfl, rfl, rfl⟩ := hY
    have hcn : ((chk h).2.2 != 0) = true := by simpa using hc
    have hcm : ((chk h).2.2 == 0) = false := by simpa using hc
    clear hc hE
    go_wp2_with fail
    refine (awake_c _).mono ?_
    rintro e w9 ⟨rfl, hb⟩
    replace hs := hs.keep hb
    go_wp2_with fail
    go_ret
    exact ⟨rfl, hs.1⟩
end Td
end Go.Proofs.Ythdcklonamgpiaa
