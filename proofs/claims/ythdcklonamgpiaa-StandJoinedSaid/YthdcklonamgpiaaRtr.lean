import Derived.Test.YthdcklonamgpiaaRck
import Derived.Test.YthdcklonamgpiaaBal
/- The reference's error of a hull and a truth. -/
namespace Go.Proofs.Ythdcklonamgpiaa
open Go.RowKit
namespace Td
set_option linter.unusedSimpArgs false
set_option linter.unusedVariables false
attribute [local go_sem] Oper.semAt_some
def rtE (h : Hul) (gs ls : List Int) : Int := if (chk h).2.2 ≠ 0 then (chk h).2.2 else truthE h gs ls
theorem truthE_long {h : Hul} {gs ls : List Int} (hl : gs.length ≠ h.parts.length ∨ ls.length ≠ h.parts.length) : truthE h gs ls = 3 := by unfold truthE; rw [if_pos hl]
theorem truthE_bad {h : Hul} {gs ls : List Int} (hg : gs.length = h.parts.length) (hl : ls.length = h.parts.length) {k : Nat} (hk : k < h.parts.length)
    (hb : ¬ (wi (pa h.parts k).w0 (pa h.parts k).w1 (gs[k]?.getD 0) = true ∧ wi (pa h.parts k).l0 (pa h.parts k).l1 (ls[k]?.getD 0) = true)) : truthE h gs ls = 7 := by
  unfold truthE
  rw [if_neg (by simp [hg, hl]), if_neg]
  intro e
  rw [Bool.and_eq_true, List.all_eq_true, List.all_eq_true] at e
  exact hb ⟨e.1 k (List.mem_range.2 hk), e.2 k (List.mem_range.2 hk)⟩
theorem truthE_good {h : Hul} {gs ls : List Int} (hg : gs.length = h.parts.length) (hl : ls.length = h.parts.length)
    (hb : ∀ k, k < h.parts.length → wi (pa h.parts k).w0 (pa h.parts k).w1 (gs[k]?.getD 0) = true ∧ wi (pa h.parts k).l0 (pa h.parts k).l1 (ls[k]?.getD 0) = true) : truthE h gs ls = 0 := by
  unfold truthE
  rw [if_neg (by simp [hg, hl]), if_pos]
  rw [Bool.and_eq_true, List.all_eq_true, List.all_eq_true]
  exact ⟨fun i hi => (hb i (List.mem_range.1 hi)).1, fun i hi => (hb i (List.mem_range.1 hi)).2⟩
set_option maxRecDepth 100000 in
set_option maxHeartbeats 8000000 in
theorem rtruth_c (h : Hul) (m : Sl) (GA : Option Addr) (gs : List Int) (gc : Nat) (LA : Option Addr) (ls : List Int) (lc : Nat) (w : World) (hp : HAt w m h) (hG : InAt w GA gs) (hL : InAt w LA ls) :
    Calls Try.prog 40 #[.agg (hV h m), .agg (tV GA gs.length gc LA ls.length lc)] w fun e w' => e = .returned (.int .i64 (rtE h gs ls)) ∧ Below w.heap.size w w' := by
  have hs := ((Since.refl w).alloc (.cells (hV h m) 24)).alloc (.cells (tV GA gs.length gc LA ls.length lc) 27)
  have HB := Lib.hid ((Blk.new w 24 (hV h m)).alloc (.cells (tV GA gs.length gc LA ls.length lc) 27))
  have HX := Lib.hid (Blk.new1 w (.cells (hV h m) 24) 27 (tV GA gs.length gc LA ls.length lc))
  have HP := Lib.hid hp
  have HG := Lib.hid hG
  have HL := Lib.hid hL
  clear hp hG hL
  obtain ⟨c0, c1, c2⟩ := HB.out.hull
  go_enter Try.func40, Try.ntmps40
  go_wp2_with fail
  refine (rcheck_c h m _ (HP.out.keep hs.1)).mono ?_
  rintro e w1 ⟨rfl, hb⟩
  replace hs := hs.keep hb
  replace HB := Lib.hid (HB.out.keep hb)
  replace HX := Lib.hid (HX.out.keep hb)
  clear hb c0 c1 c2
  by_cases hc : (chk h).2.2 = 0
  · have HV : Hid (rtE h gs ls = truthE h gs ls) := by show _ = _; unfold rtE; rw [if_neg (by simp [hc])]
    have h10 := (chk_ok hc).n10
    rw [hc]
    clear hc
    obtain ⟨c0, c1, c2⟩ := HB.out.hull
    have x0 := HX.out.cell 0
    have x1 := HX.out.cell 1
    simp only [List.getElem?_toArray, List.getElem?_cons_zero, List.getElem?_cons_succ] at x0 x1
    by_cases hg : gs.length = h.parts.length
    · by_cases hl : ls.length = h.parts.length
      · have HLG := Lib.hid hg
        have HLL := Lib.hid hl
        obtain ⟨ng, hng⟩ : ∃ n, gs.length = n := ⟨_, rfl⟩
        obtain ⟨nl, hnl⟩ : ∃ n, ls.length = n := ⟨_, rfl⟩
        have HNG := Lib.hid hng
        have HNL := Lib.hid hnl
        rw [hng] at HX x0 hg HLG
        rw [hnl] at HX x1 hl HLL
        subst hg hl
        clear hng hnl
        go_wp2_with fail
        clear c0 c1 c2 x0 x1
        go_loopw [8] (fun i wr => ∃ k : Nat, k ≤ h.parts.length ∧ i = .int .i64 k ∧ Since w wr ∧ Hid (Blk wr w.heap.size 24 (hV h m)) ∧ Hid (Blk wr (w.heap.size + 1) 27 (tV GA h.parts.length gc LA h.parts.length lc)) ∧ Hid (∀ j, j < k → wi (pa h.parts j).w0 (pa h.parts j).w1 (gs[j]?.getD 0) = true ∧ wi (pa h.parts j).l0 (pa h.parts j).l1 (ls[j]?.getD 0) = true)) (fun i _ => h.parts.length - (intOf i).toNat)
        case atStart => exact ⟨0, Nat.zero_le _, rfl, hs, HB, HX, fun j h => absurd h (by omega)⟩
        case round =>
          clear hs HB HX
          obtain ⟨k, hk, rfl, hs, HB, HX, H0⟩ := hrel
          by_cases hlt : k < h.parts.length
          · obtain ⟨ad, hA, d0, d1, d2, d3, d4, d5, d6⟩ := (HP.out.keep hs.1).ps.get hlt
            obtain ⟨ga, hga, g0⟩ := HG.out.get (k := k) (by rw [HNG.out]; exact hlt)
            obtain ⟨la, hla, l0⟩ := HL.out.get (k := k) (by rw [HNL.out]; exact hlt)
            have hki : (k : Int) < (h.parts.length : Int) := by omega
            obtain ⟨av, ha⟩ : ∃ a, gs[k]'(by rw [HNG.out]; exact hlt) = a := ⟨_, rfl⟩
            obtain ⟨bv, hb⟩ : ∃ b, ls[k]'(by rw [HNL.out]; exact hlt) = b := ⟨_, rfl⟩
            have HA : Hid (gs[k]?.getD 0 = av) := by show _ = _; rw [List.getElem?_eq_getElem (by rw [HNG.out]; exact hlt)]; exact ha
            have HBb : Hid (ls[k]?.getD 0 = bv) := by show _ = _; rw [List.getElem?_eq_getElem (by rw [HNL.out]; exact hlt)]; exact hb
            rw [ha] at g0
            rw [hb] at l0
            have G0 := Lib.hid g0
            have L0 := Lib.hid l0
            have HPK := Lib.hid (pa_at hlt)
            subst hga hla
            clear ha hb g0 l0
            obtain ⟨mA, mc⟩ := m
            replace hA : mA = some ad := hA
            subst hA
            have hs2 := hs.alloc (.cells (pV h.parts[k]) 74)
            have HB2 := Lib.hid (HB.out.alloc (.cells (pV h.parts[k]) 74))
            have HX2 := Lib.hid (HX.out.alloc (.cells (pV h.parts[k]) 74))
            have HK2 := Lib.hid (Blk.new wr 74 (pV h.parts[k]))
            obtain ⟨c0, c1, c2⟩ := HB.out.hull
            go_wp2_with fail
            obtain ⟨gp, hgp⟩ : ∃ g, wr.heap.size = g := ⟨_, rfl⟩
            rw [hgp] at HK2 ⊢
            clear hgp c0 c1 c2 d0 d1 d2 d3 d4 d5 d6 HB HX hs
            obtain ⟨x, hx⟩ : ∃ x, h.parts[k] = x := ⟨_, rfl⟩
            rw [hx] at hs2 HB2 HX2 HK2 HPK ⊢
            obtain ⟨W2, hW2⟩ : ∃ W2, wr.alloc (.cells (pV x) 74) = W2 := ⟨_, rfl⟩
            rw [hW2] at hs2 HB2 HX2 HK2 ⊢
            clear hx hW2
            rcases Bool.eq_false_or_eq_true (wi x.w0 x.w1 av) with h1 | h1
            · have H1 := Lib.hid h1
              clear h1
              obtain ⟨E, hE⟩ : ∃ E, wi x.l0 x.l1 bv = E := ⟨_, rfl⟩
              have H2 := Lib.hid hE
              clear hE
              refine Vals6.regionAll (fun X => Since w X ∧ Blk X w.heap.size 24 (hV h ⟨some ad, mc⟩) ∧ Blk X (w.heap.size + 1) 27 (tV (some ga) h.parts.length gc (some la) h.parts.length lc) ∧ Blk X gp 74 (pV x)) [some 47, some 48, some 49, some 50, some 51, some 52, some 53, some 54, some 55, some 56, some 57, some 58, some 59, some 60, some 61, some 62, some 63, some 64, some 65, some 66, some 67, some 68, some 69, some 70, some 71, some 72, some 73] [.is ?_, .is ?_, .is ?_, .is ?_, .is ?_, .is ?_, .is ?_, .is ?_, .is ?_, .is ?_, .is ?_, .is (.bool true), .is (.bool false), .is (.bool false), .is ?_, .is ?_, .is ?_, .is ?_, .is ?_, .is ?_, .is ?_, .is ?_, .is ?_, .is ?_, .is ?_, .is (.bool E), .is ?_] (by kernel_rfl) rfl rfl (by kernel_rfl) (by kernel_rfl) (by kernel_rfl) (by kernel_rfl) (by kernel_rfl) (by kernel_rfl) rfl (⟨hs2.drew, HB2.out.drew, HX2.out.drew, HK2.out.drew⟩) ?hsteps ?hend
              case hsteps =>
                refine Vals5.Steps.run rfl (Vals5.Stable.is _) ?_ ?_
                · intro a W hS pre old K hK
                  have e3 := old 3 _ (by kernel_rfl) rfl
                  clear pre old
                  simp only [Vals5.fits, Array.getD_eq_getD_getElem?, List.getElem?_toArray, List.getElem?_cons_zero, List.getElem?_cons_succ, Option.getD_some] at e3
                  go_simp
                  refine hK _ _ hS (Below.refl _ _) ?_
                  exact fits_is _ _
                refine Vals5.Steps.run rfl (Vals5.Stable.is _) ?_ ?_
                · intro a W hS pre old K hK
                  have e47 := pre 0 47 _ (by kernel_rfl) rfl rfl
                  clear pre old
                  simp only [Vals5.fits, Array.getD_eq_getD_getElem?, List.getElem?_toArray, List.getElem?_cons_zero, List.getElem?_cons_succ, Option.getD_some] at e47
                  have hS9 := hS
                  obtain ⟨q1, q2, q3, q4⟩ := hS9
                  have x0 := q3.cell 0
                  have x1 := q3.cell 1
                  simp only [List.getElem?_toArray, List.getElem?_cons_zero, List.getElem?_cons_succ] at x0 x1
                  obtain ⟨p0, p1, p2, p3, p4, p5, p6⟩ := q4.part
                  have g0 := keep_cell q1.1 G0.out
                  have l0 := keep_cell q1.1 L0.out
                  go_simp
                  refine hK _ _ hS (Below.refl _ _) ?_
                  exact fits_is _ _
                refine Vals5.Steps.run rfl (Vals5.Stable.is _) ?_ ?_
                · intro a W hS pre old K hK
                  have e8 := old 8 _ (by kernel_rfl) rfl
                  clear pre old
                  simp only [Vals5.fits, Array.getD_eq_getD_getElem?, List.getElem?_toArray, List.getElem?_cons_zero, List.getElem?_cons_succ, Option.getD_some] at e8
                  go_simp
                  refine hK _ _ hS (Below.refl _ _) ?_
                  exact fits_is _ _
                refine Vals5.Steps.run rfl (Vals5.Stable.is _) ?_ ?_
                · intro a W hS pre old K hK
                  have e48 := pre 1 48 _ (by kernel_rfl) rfl rfl
                  have e49 := pre 2 49 _ (by kernel_rfl) rfl rfl
                  clear pre old
                  simp only [Vals5.fits, Array.getD_eq_getD_getElem?, List.getElem?_toArray, List.getElem?_cons_zero, List.getElem?_cons_succ, Option.getD_some] at e48 e49
                  go_simp
                  refine hK _ _ hS (Below.refl _ _) ?_
                  exact fits_is _ _
                refine Vals5.Steps.run rfl (Vals5.Stable.is _) ?_ ?_
                · intro a W hS pre old K hK
                  have e50 := pre 3 50 _ (by kernel_rfl) rfl rfl
                  clear pre old
                  simp only [Vals5.fits, Array.getD_eq_getD_getElem?, List.getElem?_toArray, List.getElem?_cons_zero, List.getElem?_cons_succ, Option.getD_some] at e50
                  have hS9 := hS
                  obtain ⟨q1, q2, q3, q4⟩ := hS9
                  have x0 := q3.cell 0
                  have x1 := q3.cell 1
                  simp only [List.getElem?_toArray, List.getElem?_cons_zero, List.getElem?_cons_succ] at x0 x1
                  obtain ⟨p0, p1, p2, p3, p4, p5, p6⟩ := q4.part
                  have g0 := keep_cell q1.1 G0.out
                  have l0 := keep_cell q1.1 L0.out
                  go_simp
                  refine hK _ _ hS (Below.refl _ _) ?_
                  exact fits_is _ _
                refine Vals5.Steps.run rfl (Vals5.Stable.is _) ?_ ?_
                · intro a W hS pre old K hK
                  have e9 := old 9 _ (by kernel_rfl) rfl
                  clear pre old
                  simp only [Vals5.fits, Array.getD_eq_getD_getElem?, List.getElem?_toArray, List.getElem?_cons_zero, List.getElem?_cons_succ, Option.getD_some] at e9
                  go_simp
                  refine hK _ _ hS (Below.refl _ _) ?_
                  exact fits_is _ _
                refine Vals5.Steps.run rfl (Vals5.Stable.is _) ?_ ?_
                · intro a W hS pre old K hK
                  have e52 := pre 5 52 _ (by kernel_rfl) rfl rfl
                  clear pre old
                  simp only [Vals5.fits, Array.getD_eq_getD_getElem?, List.getElem?_toArray, List.getElem?_cons_zero, List.getElem?_cons_succ, Option.getD_some] at e52
                  go_simp
                  refine hK _ _ hS (Below.refl _ _) ?_
                  exact fits_is _ _
                refine Vals5.Steps.run rfl (Vals5.Stable.is _) ?_ ?_
                · intro a W hS pre old K hK
                  have e53 := pre 6 53 _ (by kernel_rfl) rfl rfl
                  clear pre old
                  simp only [Vals5.fits, Array.getD_eq_getD_getElem?, List.getElem?_toArray, List.getElem?_cons_zero, List.getElem?_cons_succ, Option.getD_some] at e53
                  have hS9 := hS
                  obtain ⟨q1, q2, q3, q4⟩ := hS9
                  have x0 := q3.cell 0
                  have x1 := q3.cell 1
                  simp only [List.getElem?_toArray, List.getElem?_cons_zero, List.getElem?_cons_succ] at x0 x1
                  obtain ⟨p0, p1, p2, p3, p4, p5, p6⟩ := q4.part
                  have g0 := keep_cell q1.1 G0.out
                  have l0 := keep_cell q1.1 L0.out
                  go_simp
                  refine hK _ _ hS (Below.refl _ _) ?_
                  exact fits_is _ _
                refine Vals5.Steps.run rfl (Vals5.Stable.is _) ?_ ?_
                · intro a W hS pre old K hK
                  have e9 := old 9 _ (by kernel_rfl) rfl
                  clear pre old
                  simp only [Vals5.fits, Array.getD_eq_getD_getElem?, List.getElem?_toArray, List.getElem?_cons_zero, List.getElem?_cons_succ, Option.getD_some] at e9
                  go_simp
                  refine hK _ _ hS (Below.refl _ _) ?_
                  exact fits_is _ _
                refine Vals5.Steps.run rfl (Vals5.Stable.is _) ?_ ?_
                · intro a W hS pre old K hK
                  have e55 := pre 8 55 _ (by kernel_rfl) rfl rfl
                  clear pre old
                  simp only [Vals5.fits, Array.getD_eq_getD_getElem?, List.getElem?_toArray, List.getElem?_cons_zero, List.getElem?_cons_succ, Option.getD_some] at e55
                  go_simp
                  refine hK _ _ hS (Below.refl _ _) ?_
                  exact fits_is _ _
                refine Vals5.Steps.run rfl (Vals5.Stable.is _) ?_ ?_
                · intro a W hS pre old K hK
                  have e56 := pre 9 56 _ (by kernel_rfl) rfl rfl
                  clear pre old
                  simp only [Vals5.fits, Array.getD_eq_getD_getElem?, List.getElem?_toArray, List.getElem?_cons_zero, List.getElem?_cons_succ, Option.getD_some] at e56
                  have hS9 := hS
                  obtain ⟨q1, q2, q3, q4⟩ := hS9
                  have x0 := q3.cell 0
                  have x1 := q3.cell 1
                  simp only [List.getElem?_toArray, List.getElem?_cons_zero, List.getElem?_cons_succ] at x0 x1
                  obtain ⟨p0, p1, p2, p3, p4, p5, p6⟩ := q4.part
                  have g0 := keep_cell q1.1 G0.out
                  have l0 := keep_cell q1.1 L0.out
                  go_simp
                  refine hK _ _ hS (Below.refl _ _) ?_
                  exact fits_is _ _
                refine Vals5.Steps.run rfl (Vals5.Stable.is _) ?_ ?_
                · intro a W hS pre old K hK
                  have e51 := pre 4 51 _ (by kernel_rfl) rfl rfl
                  have e54 := pre 7 54 _ (by kernel_rfl) rfl rfl
                  have e57 := pre 10 57 _ (by kernel_rfl) rfl rfl
                  clear pre old
                  simp only [Vals5.fits, Array.getD_eq_getD_getElem?, List.getElem?_toArray, List.getElem?_cons_zero, List.getElem?_cons_succ, Option.getD_some] at e51 e54 e57
                  have hC := rin_c x.w0 x.w1 av W
                  rw [H1.out] at hC
                  go_simp
                  refine hC.mono ?_
                  rintro e w' ⟨rfl, rfl⟩
                  refine hK _ _ hS (Below.refl _ _) ?_
                  exact fits_is _ _
                refine Vals5.Steps.run rfl (Vals5.Stable.is _) ?_ ?_
                · intro a W hS pre old K hK
                  have e58 := pre 11 58 _ (by kernel_rfl) rfl rfl
                  clear pre old
                  simp only [Vals5.fits, Array.getD_eq_getD_getElem?, List.getElem?_toArray, List.getElem?_cons_zero, List.getElem?_cons_succ, Option.getD_some] at e58
                  go_simp
                  refine hK _ _ hS (Below.refl _ _) ?_
                  exact fits_is _ _
                refine Vals5.Steps.run rfl (Vals5.Stable.is _) ?_ ?_
                · intro a W hS pre old K hK
                  have e59 := pre 12 59 _ (by kernel_rfl) rfl rfl
                  clear pre old
                  simp only [Vals5.fits, Array.getD_eq_getD_getElem?, List.getElem?_toArray, List.getElem?_cons_zero, List.getElem?_cons_succ, Option.getD_some] at e59
                  go_simp
                  refine hK _ _ hS (Below.refl _ _) ?_
                  exact fits_is _ _
                refine Vals5.Steps.run rfl (Vals5.Stable.is _) ?_ ?_
                · intro a W hS pre old K hK
                  have e3 := old 3 _ (by kernel_rfl) rfl
                  clear pre old
                  simp only [Vals5.fits, Array.getD_eq_getD_getElem?, List.getElem?_toArray, List.getElem?_cons_zero, List.getElem?_cons_succ, Option.getD_some] at e3
                  go_simp
                  refine hK _ _ hS (Below.refl _ _) ?_
                  exact fits_is _ _
                refine Vals5.Steps.run rfl (Vals5.Stable.is _) ?_ ?_
                · intro a W hS pre old K hK
                  have e61 := pre 14 61 _ (by kernel_rfl) rfl rfl
                  clear pre old
                  simp only [Vals5.fits, Array.getD_eq_getD_getElem?, List.getElem?_toArray, List.getElem?_cons_zero, List.getElem?_cons_succ, Option.getD_some] at e61
                  have hS9 := hS
                  obtain ⟨q1, q2, q3, q4⟩ := hS9
                  have x0 := q3.cell 0
                  have x1 := q3.cell 1
                  simp only [List.getElem?_toArray, List.getElem?_cons_zero, List.getElem?_cons_succ] at x0 x1
                  obtain ⟨p0, p1, p2, p3, p4, p5, p6⟩ := q4.part
                  have g0 := keep_cell q1.1 G0.out
                  have l0 := keep_cell q1.1 L0.out
                  go_simp
                  refine hK _ _ hS (Below.refl _ _) ?_
                  exact fits_is _ _
                refine Vals5.Steps.run rfl (Vals5.Stable.is _) ?_ ?_
                · intro a W hS pre old K hK
                  have e8 := old 8 _ (by kernel_rfl) rfl
                  clear pre old
                  simp only [Vals5.fits, Array.getD_eq_getD_getElem?, List.getElem?_toArray, List.getElem?_cons_zero, List.getElem?_cons_succ, Option.getD_some] at e8
                  go_simp
                  refine hK _ _ hS (Below.refl _ _) ?_
                  exact fits_is _ _
                refine Vals5.Steps.run rfl (Vals5.Stable.is _) ?_ ?_
                · intro a W hS pre old K hK
                  have e62 := pre 15 62 _ (by kernel_rfl) rfl rfl
                  have e63 := pre 16 63 _ (by kernel_rfl) rfl rfl
                  clear pre old
                  simp only [Vals5.fits, Array.getD_eq_getD_getElem?, List.getElem?_toArray, List.getElem?_cons_zero, List.getElem?_cons_succ, Option.getD_some] at e62 e63
                  go_simp
                  refine hK _ _ hS (Below.refl _ _) ?_
                  exact fits_is _ _
                refine Vals5.Steps.run rfl (Vals5.Stable.is _) ?_ ?_
                · intro a W hS pre old K hK
                  have e64 := pre 17 64 _ (by kernel_rfl) rfl rfl
                  clear pre old
                  simp only [Vals5.fits, Array.getD_eq_getD_getElem?, List.getElem?_toArray, List.getElem?_cons_zero, List.getElem?_cons_succ, Option.getD_some] at e64
                  have hS9 := hS
                  obtain ⟨q1, q2, q3, q4⟩ := hS9
                  have x0 := q3.cell 0
                  have x1 := q3.cell 1
                  simp only [List.getElem?_toArray, List.getElem?_cons_zero, List.getElem?_cons_succ] at x0 x1
                  obtain ⟨p0, p1, p2, p3, p4, p5, p6⟩ := q4.part
                  have g0 := keep_cell q1.1 G0.out
                  have l0 := keep_cell q1.1 L0.out
                  go_simp
                  refine hK _ _ hS (Below.refl _ _) ?_
                  exact fits_is _ _
                refine Vals5.Steps.run rfl (Vals5.Stable.is _) ?_ ?_
                · intro a W hS pre old K hK
                  have e9 := old 9 _ (by kernel_rfl) rfl
                  clear pre old
                  simp only [Vals5.fits, Array.getD_eq_getD_getElem?, List.getElem?_toArray, List.getElem?_cons_zero, List.getElem?_cons_succ, Option.getD_some] at e9
                  go_simp
                  refine hK _ _ hS (Below.refl _ _) ?_
                  exact fits_is _ _
                refine Vals5.Steps.run rfl (Vals5.Stable.is _) ?_ ?_
                · intro a W hS pre old K hK
                  have e66 := pre 19 66 _ (by kernel_rfl) rfl rfl
                  clear pre old
                  simp only [Vals5.fits, Array.getD_eq_getD_getElem?, List.getElem?_toArray, List.getElem?_cons_zero, List.getElem?_cons_succ, Option.getD_some] at e66
                  go_simp
                  refine hK _ _ hS (Below.refl _ _) ?_
                  exact fits_is _ _
                refine Vals5.Steps.run rfl (Vals5.Stable.is _) ?_ ?_
                · intro a W hS pre old K hK
                  have e67 := pre 20 67 _ (by kernel_rfl) rfl rfl
                  clear pre old
                  simp only [Vals5.fits, Array.getD_eq_getD_getElem?, List.getElem?_toArray, List.getElem?_cons_zero, List.getElem?_cons_succ, Option.getD_some] at e67
                  have hS9 := hS
                  obtain ⟨q1, q2, q3, q4⟩ := hS9
                  have x0 := q3.cell 0
                  have x1 := q3.cell 1
                  simp only [List.getElem?_toArray, List.getElem?_cons_zero, List.getElem?_cons_succ] at x0 x1
                  obtain ⟨p0, p1, p2, p3, p4, p5, p6⟩ := q4.part
                  have g0 := keep_cell q1.1 G0.out
                  have l0 := keep_cell q1.1 L0.out
                  go_simp
                  refine hK _ _ hS (Below.refl _ _) ?_
                  exact fits_is _ _
                refine Vals5.Steps.run rfl (Vals5.Stable.is _) ?_ ?_
                · intro a W hS pre old K hK
                  have e9 := old 9 _ (by kernel_rfl) rfl
                  clear pre old
                  simp only [Vals5.fits, Array.getD_eq_getD_getElem?, List.getElem?_toArray, List.getElem?_cons_zero, List.getElem?_cons_succ, Option.getD_some] at e9
                  go_simp
                  refine hK _ _ hS (Below.refl _ _) ?_
                  exact fits_is _ _
                refine Vals5.Steps.run rfl (Vals5.Stable.is _) ?_ ?_
                · intro a W hS pre old K hK
                  have e69 := pre 22 69 _ (by kernel_rfl) rfl rfl
                  clear pre old
                  simp only [Vals5.fits, Array.getD_eq_getD_getElem?, List.getElem?_toArray, List.getElem?_cons_zero, List.getElem?_cons_succ, Option.getD_some] at e69
                  go_simp
                  refine hK _ _ hS (Below.refl _ _) ?_
                  exact fits_is _ _
                refine Vals5.Steps.run rfl (Vals5.Stable.is _) ?_ ?_
                · intro a W hS pre old K hK
                  have e70 := pre 23 70 _ (by kernel_rfl) rfl rfl
                  clear pre old
                  simp only [Vals5.fits, Array.getD_eq_getD_getElem?, List.getElem?_toArray, List.getElem?_cons_zero, List.getElem?_cons_succ, Option.getD_some] at e70
                  have hS9 := hS
                  obtain ⟨q1, q2, q3, q4⟩ := hS9
                  have x0 := q3.cell 0
                  have x1 := q3.cell 1
                  simp only [List.getElem?_toArray, List.getElem?_cons_zero, List.getElem?_cons_succ] at x0 x1
                  obtain ⟨p0, p1, p2, p3, p4, p5, p6⟩ := q4.part
                  have g0 := keep_cell q1.1 G0.out
                  have l0 := keep_cell q1.1 L0.out
                  go_simp
                  refine hK _ _ hS (Below.refl _ _) ?_
                  exact fits_is _ _
                refine Vals5.Steps.run rfl (Vals5.Stable.is _) ?_ ?_
                · intro a W hS pre old K hK
                  have e65 := pre 18 65 _ (by kernel_rfl) rfl rfl
                  have e68 := pre 21 68 _ (by kernel_rfl) rfl rfl
                  have e71 := pre 24 71 _ (by kernel_rfl) rfl rfl
                  clear pre old
                  simp only [Vals5.fits, Array.getD_eq_getD_getElem?, List.getElem?_toArray, List.getElem?_cons_zero, List.getElem?_cons_succ, Option.getD_some] at e65 e68 e71
                  have hC := rin_c x.l0 x.l1 bv W
                  rw [H2.out] at hC
                  go_simp
                  refine hC.mono ?_
                  rintro e w' ⟨rfl, rfl⟩
                  refine hK _ _ hS (Below.refl _ _) ?_
                  exact fits_is _ _
                refine Vals5.Steps.run rfl (Vals5.Stable.is _) ?_ ?_
                · intro a W hS pre old K hK
                  have e72 := pre 25 72 _ (by kernel_rfl) rfl rfl
                  clear pre old
                  simp only [Vals5.fits, Array.getD_eq_getD_getElem?, List.getElem?_toArray, List.getElem?_cons_zero, List.getElem?_cons_succ, Option.getD_some] at e72
                  go_simp
                  refine hK _ _ hS (Below.refl _ _) ?_
                  exact fits_is _ _
                exact Vals5.Steps.nil
              case hend =>
                rintro X ⟨hs, hB, hX, _⟩
                simp only [Vals5.All, List.getLast_cons_cons, List.getLast_singleton]
                simp only [Vals.putAll, List.setIfInBounds_toArray, List.set_cons_zero, List.set_cons_succ]
                intro K hK
                cases E
                · have HZ : Hid (truthE h gs ls = 7) := truthE_bad HNG.out HNL.out hlt (fun e => by have := e.2; rw [HPK.out, HBb.out, H2.out] at this; cases this)
                  go_simp
                  refine hK _ _ ?_
                  clear hK K
                  go_wp2_with fail
                  go_ret
                  exact ⟨ret_int (by rw [HV.out, HZ.out]), hs.1⟩
                · have HN : Hid (wi (pa h.parts k).w0 (pa h.parts k).w1 (gs[k]?.getD 0) = true ∧ wi (pa h.parts k).l0 (pa h.parts k).l1 (ls[k]?.getD 0) = true) := by show _ ∧ _; rw [HPK.out, HA.out, HBb.out]; exact ⟨H1.out, H2.out⟩
                  go_simp
                  refine hK _ _ ?_
                  clear hK K
                  go_wp2_with fail
                  go_roundw
                  case rel =>
                    refine ⟨k + 1, by omega, by go_num, hs, Lib.hid hB, Lib.hid hX, fun j hj => ?_⟩
                    rcases Nat.lt_or_ge j k with h7 | h7
                    · exact H0.out j h7
                    · obtain rfl : j = k := by omega
                      exact HN.out
                  case measure => simp [intOf]; omega
            · have H1 := Lib.hid h1
              clear h1
              refine Vals6.regionAll (fun X => Since w X ∧ Blk X w.heap.size 24 (hV h ⟨some ad, mc⟩) ∧ Blk X (w.heap.size + 1) 27 (tV (some ga) h.parts.length gc (some la) h.parts.length lc) ∧ Blk X gp 74 (pV x)) [some 47, some 48, some 49, some 50, some 51, some 52, some 53, some 54, some 55, some 56, some 57, some 58, some 59, some 60, some 61, some 62, some 63, some 64, some 65, some 66, some 67, some 68, some 69, some 70, some 71, some 72, some 73] [.is ?_, .is ?_, .is ?_, .is ?_, .is ?_, .is ?_, .is ?_, .is ?_, .is ?_, .is ?_, .is ?_, .is (.bool false), .is (.bool true), .is (.bool true), .is undef, .is undef, .is undef, .is undef, .is undef, .is undef, .is undef, .is undef, .is undef, .is undef, .is undef, .is undef, .is undef] (by kernel_rfl) rfl rfl (by kernel_rfl) (by kernel_rfl) (by kernel_rfl) (by kernel_rfl) (by kernel_rfl) (by kernel_rfl) rfl (⟨hs2.drew, HB2.out.drew, HX2.out.drew, HK2.out.drew⟩) ?hsteps ?hend
              case hsteps =>
                refine Vals5.Steps.run rfl (Vals5.Stable.is _) ?_ ?_
                · intro a W hS pre old K hK
                  have e3 := old 3 _ (by kernel_rfl) rfl
                  clear pre old
                  simp only [Vals5.fits, Array.getD_eq_getD_getElem?, List.getElem?_toArray, List.getElem?_cons_zero, List.getElem?_cons_succ, Option.getD_some] at e3
                  go_simp
                  refine hK _ _ hS (Below.refl _ _) ?_
                  exact fits_is _ _
                refine Vals5.Steps.run rfl (Vals5.Stable.is _) ?_ ?_
                · intro a W hS pre old K hK
                  have e47 := pre 0 47 _ (by kernel_rfl) rfl rfl
                  clear pre old
                  simp only [Vals5.fits, Array.getD_eq_getD_getElem?, List.getElem?_toArray, List.getElem?_cons_zero, List.getElem?_cons_succ, Option.getD_some] at e47
                  have hS9 := hS
                  obtain ⟨q1, q2, q3, q4⟩ := hS9
                  have x0 := q3.cell 0
                  have x1 := q3.cell 1
                  simp only [List.getElem?_toArray, List.getElem?_cons_zero, List.getElem?_cons_succ] at x0 x1
                  obtain ⟨p0, p1, p2, p3, p4, p5, p6⟩ := q4.part
                  have g0 := keep_cell q1.1 G0.out
                  have l0 := keep_cell q1.1 L0.out
                  go_simp
                  refine hK _ _ hS (Below.refl _ _) ?_
                  exact fits_is _ _
                refine Vals5.Steps.run rfl (Vals5.Stable.is _) ?_ ?_
                · intro a W hS pre old K hK
                  have e8 := old 8 _ (by kernel_rfl) rfl
                  clear pre old
                  simp only [Vals5.fits, Array.getD_eq_getD_getElem?, List.getElem?_toArray, List.getElem?_cons_zero, List.getElem?_cons_succ, Option.getD_some] at e8
                  go_simp
                  refine hK _ _ hS (Below.refl _ _) ?_
                  exact fits_is _ _
                refine Vals5.Steps.run rfl (Vals5.Stable.is _) ?_ ?_
                · intro a W hS pre old K hK
                  have e48 := pre 1 48 _ (by kernel_rfl) rfl rfl
                  have e49 := pre 2 49 _ (by kernel_rfl) rfl rfl
                  clear pre old
                  simp only [Vals5.fits, Array.getD_eq_getD_getElem?, List.getElem?_toArray, List.getElem?_cons_zero, List.getElem?_cons_succ, Option.getD_some] at e48 e49
                  go_simp
                  refine hK _ _ hS (Below.refl _ _) ?_
                  exact fits_is _ _
                refine Vals5.Steps.run rfl (Vals5.Stable.is _) ?_ ?_
                · intro a W hS pre old K hK
                  have e50 := pre 3 50 _ (by kernel_rfl) rfl rfl
                  clear pre old
                  simp only [Vals5.fits, Array.getD_eq_getD_getElem?, List.getElem?_toArray, List.getElem?_cons_zero, List.getElem?_cons_succ, Option.getD_some] at e50
                  have hS9 := hS
                  obtain ⟨q1, q2, q3, q4⟩ := hS9
                  have x0 := q3.cell 0
                  have x1 := q3.cell 1
                  simp only [List.getElem?_toArray, List.getElem?_cons_zero, List.getElem?_cons_succ] at x0 x1
                  obtain ⟨p0, p1, p2, p3, p4, p5, p6⟩ := q4.part
                  have g0 := keep_cell q1.1 G0.out
                  have l0 := keep_cell q1.1 L0.out
                  go_simp
                  refine hK _ _ hS (Below.refl _ _) ?_
                  exact fits_is _ _
                refine Vals5.Steps.run rfl (Vals5.Stable.is _) ?_ ?_
                · intro a W hS pre old K hK
                  have e9 := old 9 _ (by kernel_rfl) rfl
                  clear pre old
                  simp only [Vals5.fits, Array.getD_eq_getD_getElem?, List.getElem?_toArray, List.getElem?_cons_zero, List.getElem?_cons_succ, Option.getD_some] at e9
                  go_simp
                  refine hK _ _ hS (Below.refl _ _) ?_
                  exact fits_is _ _
                refine Vals5.Steps.run rfl (Vals5.Stable.is _) ?_ ?_
                · intro a W hS pre old K hK
                  have e52 := pre 5 52 _ (by kernel_rfl) rfl rfl
                  clear pre old
                  simp only [Vals5.fits, Array.getD_eq_getD_getElem?, List.getElem?_toArray, List.getElem?_cons_zero, List.getElem?_cons_succ, Option.getD_some] at e52
                  go_simp
                  refine hK _ _ hS (Below.refl _ _) ?_
                  exact fits_is _ _
                refine Vals5.Steps.run rfl (Vals5.Stable.is _) ?_ ?_
                · intro a W hS pre old K hK
                  have e53 := pre 6 53 _ (by kernel_rfl) rfl rfl
                  clear pre old
                  simp only [Vals5.fits, Array.getD_eq_getD_getElem?, List.getElem?_toArray, List.getElem?_cons_zero, List.getElem?_cons_succ, Option.getD_some] at e53
                  have hS9 := hS
                  obtain ⟨q1, q2, q3, q4⟩ := hS9
                  have x0 := q3.cell 0
                  have x1 := q3.cell 1
                  simp only [List.getElem?_toArray, List.getElem?_cons_zero, List.getElem?_cons_succ] at x0 x1
                  obtain ⟨p0, p1, p2, p3, p4, p5, p6⟩ := q4.part
                  have g0 := keep_cell q1.1 G0.out
                  have l0 := keep_cell q1.1 L0.out
                  go_simp
                  refine hK _ _ hS (Below.refl _ _) ?_
                  exact fits_is _ _
                refine Vals5.Steps.run rfl (Vals5.Stable.is _) ?_ ?_
                · intro a W hS pre old K hK
                  have e9 := old 9 _ (by kernel_rfl) rfl
                  clear pre old
                  simp only [Vals5.fits, Array.getD_eq_getD_getElem?, List.getElem?_toArray, List.getElem?_cons_zero, List.getElem?_cons_succ, Option.getD_some] at e9
                  go_simp
                  refine hK _ _ hS (Below.refl _ _) ?_
                  exact fits_is _ _
                refine Vals5.Steps.run rfl (Vals5.Stable.is _) ?_ ?_
                · intro a W hS pre old K hK
                  have e55 := pre 8 55 _ (by kernel_rfl) rfl rfl
                  clear pre old
                  simp only [Vals5.fits, Array.getD_eq_getD_getElem?, List.getElem?_toArray, List.getElem?_cons_zero, List.getElem?_cons_succ, Option.getD_some] at e55
                  go_simp
                  refine hK _ _ hS (Below.refl _ _) ?_
                  exact fits_is _ _
                refine Vals5.Steps.run rfl (Vals5.Stable.is _) ?_ ?_
                · intro a W hS pre old K hK
                  have e56 := pre 9 56 _ (by kernel_rfl) rfl rfl
                  clear pre old
                  simp only [Vals5.fits, Array.getD_eq_getD_getElem?, List.getElem?_toArray, List.getElem?_cons_zero, List.getElem?_cons_succ, Option.getD_some] at e56
                  have hS9 := hS
                  obtain ⟨q1, q2, q3, q4⟩ := hS9
                  have x0 := q3.cell 0
                  have x1 := q3.cell 1
                  simp only [List.getElem?_toArray, List.getElem?_cons_zero, List.getElem?_cons_succ] at x0 x1
                  obtain ⟨p0, p1, p2, p3, p4, p5, p6⟩ := q4.part
                  have g0 := keep_cell q1.1 G0.out
                  have l0 := keep_cell q1.1 L0.out
                  go_simp
                  refine hK _ _ hS (Below.refl _ _) ?_
                  exact fits_is _ _
                refine Vals5.Steps.run rfl (Vals5.Stable.is _) ?_ ?_
                · intro a W hS pre old K hK
                  have e51 := pre 4 51 _ (by kernel_rfl) rfl rfl
                  have e54 := pre 7 54 _ (by kernel_rfl) rfl rfl
                  have e57 := pre 10 57 _ (by kernel_rfl) rfl rfl
                  clear pre old
                  simp only [Vals5.fits, Array.getD_eq_getD_getElem?, List.getElem?_toArray, List.getElem?_cons_zero, List.getElem?_cons_succ, Option.getD_some] at e51 e54 e57
                  have hC := rin_c x.w0 x.w1 av W
                  rw [H1.out] at hC
                  go_simp
                  refine hC.mono ?_
                  rintro e w' ⟨rfl, rfl⟩
                  refine hK _ _ hS (Below.refl _ _) ?_
                  exact fits_is _ _
                refine Vals5.Steps.run rfl (Vals5.Stable.is _) ?_ ?_
                · intro a W hS pre old K hK
                  have e58 := pre 11 58 _ (by kernel_rfl) rfl rfl
                  clear pre old
                  simp only [Vals5.fits, Array.getD_eq_getD_getElem?, List.getElem?_toArray, List.getElem?_cons_zero, List.getElem?_cons_succ, Option.getD_some] at e58
                  go_simp
                  refine hK _ _ hS (Below.refl _ _) ?_
                  exact fits_is _ _
                refine Vals5.Steps.run rfl (Vals5.Stable.is _) ?_ ?_
                · intro a W hS pre old K hK
                  have e59 := pre 12 59 _ (by kernel_rfl) rfl rfl
                  clear pre old
                  simp only [Vals5.fits, Array.getD_eq_getD_getElem?, List.getElem?_toArray, List.getElem?_cons_zero, List.getElem?_cons_succ, Option.getD_some] at e59
                  go_simp
                  refine hK _ _ hS (Below.refl _ _) ?_
                  exact fits_is _ _
                refine Vals5.Steps.skip rfl rfl ?_
                refine Vals5.Steps.skip rfl rfl ?_
                refine Vals5.Steps.skip rfl rfl ?_
                refine Vals5.Steps.skip rfl rfl ?_
                refine Vals5.Steps.skip rfl rfl ?_
                refine Vals5.Steps.skip rfl rfl ?_
                refine Vals5.Steps.skip rfl rfl ?_
                refine Vals5.Steps.skip rfl rfl ?_
                refine Vals5.Steps.skip rfl rfl ?_
                refine Vals5.Steps.skip rfl rfl ?_
                refine Vals5.Steps.skip rfl rfl ?_
                refine Vals5.Steps.skip rfl rfl ?_
                refine Vals5.Steps.skip rfl rfl ?_
                exact Vals5.Steps.nil
              case hend =>
                rintro X ⟨hs, hB, hX, _⟩
                simp only [Vals5.All, List.getLast_cons_cons, List.getLast_singleton]
                simp only [Vals.putAll, List.setIfInBounds_toArray, List.set_cons_zero, List.set_cons_succ]
                intro K hK
                have HZ : Hid (truthE h gs ls = 7) := truthE_bad HNG.out HNL.out hlt (fun e => by have := e.1; rw [HPK.out, HA.out, H1.out] at this; cases this)
                go_simp
                refine hK _ _ ?_
                clear hK K
                go_wp2_with fail
                go_ret
                exact ⟨ret_int (by rw [HV.out, HZ.out]), hs.1⟩
          · obtain rfl : k = h.parts.length := by omega
            have HZ : Hid (truthE h gs ls = 0) := truthE_good HNG.out HNL.out H0.out
            obtain ⟨c0, c1, c2⟩ := HB.out.hull
            go_wp2_with fail
            go_ret
            exact ⟨ret_int (by rw [HV.out, HZ.out]), hs.1⟩
      · have HZ : Hid (truthE h gs ls = 3) := truthE_long (.inr hl)
        have hl2 : ((ls.length : Int) != (h.parts.length : Int)) = true := by simp; omega
        have hl3 : ((ls.length : Int) == (h.parts.length : Int)) = false := by simp; omega
        go_wp2_with fail
        go_ret
        exact ⟨ret_int (by rw [HV.out, HZ.out]), hs.1⟩
    · have HZ : Hid (truthE h gs ls = 3) := truthE_long (.inl hg)
      have hl2 : ((gs.length : Int) != (h.parts.length : Int)) = true := by simp; omega
      have hl3 : ((gs.length : Int) == (h.parts.length : Int)) = false := by simp; omega
      go_wp2_with fail
      go_ret
      exact ⟨ret_int (by rw [HV.out, HZ.out]), hs.1⟩
  · have HV : Hid (rtE h gs ls = (chk h).2.2) := by show _ = _; unfold rtE; rw [if_pos hc]
    have hcn : ((chk h).2.2 != 0) = true := by simpa using hc
    clear hc
    go_wp2_with fail
    go_ret
    exact ⟨ret_int HV.out.symm, hs.1⟩
end Td
end Go.Proofs.Ythdcklonamgpiaa
