import Derived.Test.YthdcklonamgpiaaGreatRck
import Derived.Test.YthdcklonamgpiaaGreatBal
/- The reference's error of a height of water, reasons, and balance. -/
namespace Go.Proofs.YthdcklonamgpiaaGreat
open Go.RowKit
namespace Td
set_option linter.unusedSimpArgs false
set_option linter.unusedVariables false
attribute [local go_sem] Oper.semAt_some
/-- the error of a height, if there is none ahead of it. -/
def watE (e wt : Int) : Int := if e = 0 then waterE wt else e
theorem watered_c (e0 wt : Int) (w : World) : Calls Tryz.prog 24 #[.int .i64 e0, .int .i64 wt] w fun e w' => e = .returned (.int .i64 (watE e0 wt)) ∧ w = w' := by
  unfold watE waterE
  go_enter Tryz.func24, Tryz.ntmps24
  by_cases he : e0 = 0
  · subst he
    go_wp2_with fail
    refine (rin_c 0 1000 wt _).mono ?_
    rintro e w' ⟨rfl, rfl⟩
    rcases Bool.eq_false_or_eq_true (wi 0 1000 wt) with h1 | h1
    · rw [h1]
      go_wp2_with fail
      go_ret
      exact ⟨rfl, rfl⟩
    · rw [h1]
      go_wp2_with fail
      go_ret
      exact ⟨rfl, rfl⟩
  · have hb : (e0 == 0) = false := by simpa using he
    rw [if_neg he]
    go_wp2_with fail
    go_ret
    exact ⟨rfl, rfl⟩
theorem reason_c (d a f : Int) (w : World) : Calls Tryz.prog 25 #[.agg #[.int .i64 d, .int .i64 a, .int .i64 f]] w fun e w' => e = .returned (.int .i64 (whyB d a f)) ∧ Below w.heap.size w w' := by
  have hs := (Since.refl w).alloc (.cells #[.int .i64 d, .int .i64 a, .int .i64 f] 70)
  unfold whyB
  go_enter Tryz.func25, Tryz.ntmps25
  by_cases h1 : d < 1
  · have h1' : d ≤ 0 := by omega
    rw [if_pos h1]
    clear h1
    go_wp2_with fail
    go_ret
    exact ⟨rfl, hs.1⟩
  · have h1' : ¬ d ≤ 0 := by omega
    rw [if_neg h1]
    clear h1
    by_cases h2 : a < 0
    · rw [if_pos h2]
      go_wp2_with fail
      go_ret
      exact ⟨rfl, hs.1⟩
    · rw [if_neg h2]
      by_cases h3 : f < 0
      · rw [if_pos h3]
        go_wp2_with fail
        go_ret
        exact ⟨rfl, hs.1⟩
      · rw [if_neg h3]
        go_wp2_with fail
        go_ret
        exact ⟨rfl, hs.1⟩
abbrev zB : Array Value := #[.int .i64 0, .int .i64 0, .int .i64 0]
abbrev bB (a b c : Int) : Array Value := #[.int .i64 a, .int .i64 b, .int .i64 c]
set_option maxRecDepth 100000 in
set_option maxHeartbeats 8000000 in
theorem rweighed_c (h : Hul) (m : Sl) (GA : Option Addr) (gs : List Int) (gc : Nat) (LA : Option Addr) (ls : List Int) (lc : Nat) (wt : Int) (w : World) (hh : HBk h) (hp : HAt w m h) (hG : InAt w GA gs) (hL : InAt w LA ls) (ht : TOk h gs ls) (hw0 : 0 ≤ wt) (hw1 : wt ≤ 1000) :
    Calls Tryz.prog 53 #[.agg (hV h m), .agg (tV GA gs.length gc LA ls.length lc), .int .i64 wt] w fun e w' => e = .returned (.agg (bB (bal h gs ls 0 wt) (bal h gs ls 1 wt) (bal h gs ls 2 wt))) ∧ Below w.heap.size w w' := by
  have hn10 := hh.n10
  have hs := ((((Since.refl w).alloc (.cells (hV h m) 24)).alloc (.cells (tV GA gs.length gc LA ls.length lc) 32)).alloc (.cells zB 70)).alloc (.cells zB 70)
  have HB := Lib.hid ((((Blk.new w 24 (hV h m)).alloc (.cells (tV GA gs.length gc LA ls.length lc) 32)).alloc (.cells zB 70)).alloc (.cells zB 70))
  have HX := Lib.hid (((Blk.new1 w (.cells (hV h m) 24) 32 (tV GA gs.length gc LA ls.length lc)).alloc (.cells zB 70)).alloc (.cells zB 70))
  have HR := Lib.hid ((Blk.new2 w (.cells (hV h m) 24) (.cells (tV GA gs.length gc LA ls.length lc) 32) 70 zB).alloc (.cells zB 70))
  have HQ : Hid (Blk (((((w.alloc (.cells (hV h m) 24)).alloc (.cells (tV GA gs.length gc LA ls.length lc) 32)).alloc (.cells zB 70)).alloc (.cells zB 70))) (w.heap.size + 1 + 1 + 1) 70 (bB (sm (term h gs ls 0 wt) 0) (sm (term h gs ls 1 wt) 0) (sm (term h gs ls 2 wt) 0))) := Blk.new3 w _ _ _ _ _
  have HP := Lib.hid hp
  have HG := Lib.hid hG
  have HL := Lib.hid hL
  have HT := Lib.hid ht
  obtain ⟨ng, hng⟩ : ∃ n, gs.length = n := ⟨_, rfl⟩
  obtain ⟨nl, hnl⟩ : ∃ n, ls.length = n := ⟨_, rfl⟩
  have HNG := Lib.hid hng
  have HNL := Lib.hid hnl
  have e1 : ng = h.parts.length := by rw [← hng]; exact ht.ng
  have e2 : nl = h.parts.length := by rw [← hnl]; exact ht.nl
  rw [hng, hnl] at hs HB HX HR HQ ⊢
  subst e1 e2
  clear hp hG hL ht hng hnl
  go_enter Tryz.func53, Tryz.ntmps53
  go_wp2_with fail
  obtain ⟨gB, hgB⟩ : ∃ g, w.heap.size + 1 + 1 + 1 = g := ⟨_, rfl⟩
  have HGB : Hid (w.heap.size + 1 + 1 + 1 = gB) := hgB
  obtain ⟨W0, hW0⟩ : ∃ W0, ((((w.alloc (.cells (hV h m) 24)).alloc (.cells (tV GA h.parts.length gc LA h.parts.length lc) 32)).alloc (.cells zB 70)).alloc (.cells zB 70)) = W0 := ⟨_, rfl⟩
  rw [hW0] at hs HB HX HR HQ ⊢
  rw [hgB] at HQ ⊢
  clear hW0 hgB
  go_loopw [8] (fun i wr => ∃ k : Nat, k ≤ h.parts.length ∧ i = .int .i64 k ∧ Since w wr ∧ Hid (Blk wr w.heap.size 24 (hV h m)) ∧ Hid (Blk wr (w.heap.size + 1) 32 (tV GA h.parts.length gc LA h.parts.length lc)) ∧ Hid (Blk wr (w.heap.size + 1 + 1) 70 zB) ∧ Hid (Blk wr gB 70 (bB (sm (term h gs ls 0 wt) k) (sm (term h gs ls 1 wt) k) (sm (term h gs ls 2 wt) k)))) (fun i _ => h.parts.length - (intOf i).toNat)
  case atStart => exact ⟨0, Nat.zero_le _, rfl, hs, HB, HX, HR, HQ⟩
  case round =>
    clear hs HB HX HR HQ
    obtain ⟨k, hk, rfl, hs, HB, HX, HR, HQ⟩ := hrel
    by_cases hlt : k < h.parts.length
    · obtain ⟨ad, hA, d0, d1, d2, d3, d4, d5, d6⟩ := (HP.out.keep hs.1).ps.get hlt
      obtain ⟨ga, hga, g0⟩ := HG.out.get (k := k) (by rw [HNG.out]; exact hlt)
      obtain ⟨la, hla, l0⟩ := HL.out.get (k := k) (by rw [HNL.out]; exact hlt)
      have hki : (k : Int) < (h.parts.length : Int) := by omega
      have hx := hh.ps _ (List.getElem_mem hlt)
      have hgb := HT.out.gb k hlt
      have hlb := HT.out.lb k hlt
      rw [pa_at hlt] at hgb hlb
      obtain ⟨av, ha⟩ : ∃ a, gs[k]'(by rw [HNG.out]; exact hlt) = a := ⟨_, rfl⟩
      obtain ⟨bv, hb⟩ : ∃ b, ls[k]'(by rw [HNL.out]; exact hlt) = b := ⟨_, rfl⟩
      have HA : Hid (gs[k]?.getD 0 = av) := by show _ = _; rw [List.getElem?_eq_getElem (by rw [HNG.out]; exact hlt)]; exact ha
      have HBb : Hid (ls[k]?.getD 0 = bv) := by show _ = _; rw [List.getElem?_eq_getElem (by rw [HNL.out]; exact hlt)]; exact hb
      rw [ha] at g0
      rw [hb] at l0
      rw [HA.out] at hgb
      rw [HBb.out] at hlb
      have G0 := Lib.hid g0
      have L0 := Lib.hid l0
      have B0 := tsm_bd hh HT.out 0 hw0 hw1 (n := k) hk
      have B1 := tsm_bd hh HT.out 1 hw0 hw1 (n := k) hk
      have B2 := tsm_bd hh HT.out 2 hw0 hw1 (n := k) hk
      have T0 := term_bd hh HT.out 0 hw0 hw1 hlt
      have T1 := term_bd hh HT.out 1 hw0 hw1 hlt
      have T2 := term_bd hh HT.out 2 hw0 hw1 hlt
      unfold term at T0 T1 T2
      rw [pa_at hlt, HA.out, HBb.out] at T0 T1 T2
      have hh1 := hh.a0
      have hh2 := hh.af
      have hh3 := hh.f1
      have hx1 := hx.p0
      have hx2 := hx.p1
      have hx3 := hx.k0
      have hx4 := hx.k1
      have hx5 := hx.w0
      have hx6 := hx.w01
      have hx7 := hx.w1
      have hx8 := hx.l0
      have hx9 := hx.l01
      have hx10 := hx.l1
      have hab := abv_bd hx hw0 hw1
      obtain ⟨f1, f2, f3⟩ := prs_fit (x := h.parts[k]) (g := av) (l := bv) (by omega) (by omega) (by omega) (by omega) hx hw0 hw1
      have N0 : sm (term h gs ls 0 wt) (k + 1) = sm (term h gs ls 0 wt) k + prs h.parts[k] av bv wt := by
        show _ + term h gs ls 0 wt k = _
        unfold term; rw [pa_at hlt, HA.out, HBb.out]; rfl
      have N1 : sm (term h gs ls 1 wt) (k + 1) = sm (term h gs ls 1 wt) k + prs h.parts[k] av bv wt * (h.parts[k].pt - h.aft) := by
        show _ + term h gs ls 1 wt k = _
        unfold term; rw [pa_at hlt, HA.out, HBb.out]; rfl
      have N2 : sm (term h gs ls 2 wt) (k + 1) = sm (term h gs ls 2 wt) k + prs h.parts[k] av bv wt * (h.fore - h.parts[k].pt) := by
        show _ + term h gs ls 2 wt k = _
        unfold term; rw [pa_at hlt, HA.out, HBb.out]; rfl
      have e1 : IntKind.i64.wrap (wt - h.parts[k].kl) = wt - h.parts[k].kl := IntWalk.i64_in _ f1
      have e2 : IntKind.i64.wrap (bv * abv h.parts[k] wt) = bv * abv h.parts[k] wt := IntWalk.i64_in _ f2
      have e3 : IntKind.i64.wrap (av - bv * abv h.parts[k] wt) = prs h.parts[k] av bv wt := IntWalk.i64_in _ f3
      clear f1 f2 f3 hgb hlb hx3 hx4 hx5 hx6 hx7 hx8 hx9 hx10
      have ec : abv h.parts[k] wt = if h.parts[k].kl < wt then wt - h.parts[k].kl else 0 := by unfold abv; split <;> omega
      clear hab hx
      obtain ⟨p, hpp⟩ : ∃ p, prs h.parts[k] av bv wt = p := ⟨_, rfl⟩
      rw [hpp] at N0 N1 N2 e3
      simp only [adds] at T0 T1 T2
      rw [hpp] at T0 T1 T2
      obtain ⟨s0, hs0⟩ : ∃ p, sm (term h gs ls 0 wt) k = p := ⟨_, rfl⟩
      obtain ⟨s1, hs1⟩ : ∃ p, sm (term h gs ls 1 wt) k = p := ⟨_, rfl⟩
      obtain ⟨s2, hs2⟩ : ∃ p, sm (term h gs ls 2 wt) k = p := ⟨_, rfl⟩
      rw [hs0] at N0 B0 HQ
      rw [hs1] at N1 B1 HQ
      rw [hs2] at N2 B2 HQ
      have e4 : IntKind.i64.wrap (s0 + p) = s0 + p := IntWalk.i64_in _ (by omega)
      have e5 : IntKind.i64.wrap (h.parts[k].pt - h.aft) = h.parts[k].pt - h.aft := IntWalk.i64_in _ (by omega)
      have e6 : IntKind.i64.wrap (p * (h.parts[k].pt - h.aft)) = p * (h.parts[k].pt - h.aft) := IntWalk.i64_in _ (by omega)
      have e7 : IntKind.i64.wrap (s1 + p * (h.parts[k].pt - h.aft)) = s1 + p * (h.parts[k].pt - h.aft) := IntWalk.i64_in _ (by omega)
      have e8 : IntKind.i64.wrap (h.fore - h.parts[k].pt) = h.fore - h.parts[k].pt := IntWalk.i64_in _ (by omega)
      have e9 : IntKind.i64.wrap (p * (h.fore - h.parts[k].pt)) = p * (h.fore - h.parts[k].pt) := IntWalk.i64_in _ (by omega)
      have e10 : IntKind.i64.wrap (s2 + p * (h.fore - h.parts[k].pt)) = s2 + p * (h.fore - h.parts[k].pt) := IntWalk.i64_in _ (by omega)
      have E1 := Lib.hid e1
      have E2 := Lib.hid e2
      have E3 := Lib.hid e3
      have E4 := Lib.hid e4
      have E5 := Lib.hid e5
      have E6 := Lib.hid e6
      have E7 := Lib.hid e7
      have E8 := Lib.hid e8
      have E9 := Lib.hid e9
      have E10 := Lib.hid e10
      have EC := Lib.hid ec
      have M0 := Lib.hid N0
      have M1 := Lib.hid N1
      have M2 := Lib.hid N2
      clear e1 e2 e3 e4 e5 e6 e7 e8 e9 e10 ec N0 N1 N2 T0 T1 T2 B0 B1 B2 hpp hs0 hs1 hs2 hx1 hx2 hh1 hh2 hh3
      subst hga hla
      clear ha hb g0 l0
      obtain ⟨mA, mc⟩ := m
      replace hA : mA = some ad := hA
      subst hA
      have hs2 := hs.alloc (.cells (pV h.parts[k]) 51)
      have HB2 := Lib.hid (HB.out.alloc (.cells (pV h.parts[k]) 51))
      have HX2 := Lib.hid (HX.out.alloc (.cells (pV h.parts[k]) 51))
      have HR2 := Lib.hid (HR.out.alloc (.cells (pV h.parts[k]) 51))
      have HQ2 := Lib.hid (HQ.out.alloc (.cells (pV h.parts[k]) 51))
      have HK2 := Lib.hid (Blk.new wr 51 (pV h.parts[k]))
      have hgp0 : gB < wr.heap.size := HQ.out.lt
      obtain ⟨c0, c1, c2⟩ := HB.out.hull
      go_wp2_with fail
      obtain ⟨gp, hgp⟩ : ∃ g, wr.heap.size = g := ⟨_, rfl⟩
      have HGP : Hid (gB < gp) := by show _ < _; rw [← hgp]; exact hgp0
      rw [hgp] at HK2 ⊢
      clear hgp hgp0 c0 c1 c2 d0 d1 d2 d3 d4 d5 d6 HB HX HR HQ hs
      obtain ⟨x, hx⟩ : ∃ x, h.parts[k] = x := ⟨_, rfl⟩
      rw [hx] at hs2 HB2 HX2 HR2 HQ2 HK2 E1 E2 E3 E5 E6 E7 E8 E9 E10 EC M1 M2 ⊢
      obtain ⟨W2, hW2⟩ : ∃ W2, wr.alloc (.cells (pV x) 51) = W2 := ⟨_, rfl⟩
      rw [hW2] at hs2 HB2 HX2 HR2 HQ2 HK2 ⊢
      clear hx hW2
      refine Vals6.regionAll (fun X => Since w X ∧ Blk X w.heap.size 24 (hV h ⟨some ad, mc⟩) ∧ Blk X (w.heap.size + 1) 32 (tV (some ga) h.parts.length gc (some la) h.parts.length lc) ∧ Blk X (w.heap.size + 1 + 1) 70 zB ∧ Blk X gB 70 (bB s0 s1 s2) ∧ Blk X gp 51 (pV x)) [some 23, some 24, some 25, some 26, some 27, some 28, some 29, some 30, some 31, some 32, some 33, some 34, some 35, some 36, some 37, some 38, some 39] [.is ?_, .is ?_, .is ?_, .is ?_, .is ?_, .is ?_, .is ?_, .is ?_, .is ?_, .is ?_, .is ?_, .is ?_, .is ?_, .is (.int .i64 (wt - x.kl)), .is (.int .i64 (abv x wt)), .is (.int .i64 (bv * abv x wt)), .is (.int .i64 p)] (by kernel_rfl) rfl rfl (by kernel_rfl) (by kernel_rfl) (by kernel_rfl) (by kernel_rfl) (by kernel_rfl) (by kernel_rfl) rfl (⟨hs2.drew, HB2.out.drew, HX2.out.drew, HR2.out.drew, HQ2.out.drew, HK2.out.drew⟩) ?hsteps ?hend
      case hsteps =>
        refine Vals5.Steps.run rfl (Vals5.Stable.is _) ?_ ?_
        · intro a W hS pre old K hK
          have e4 := old 4 _ (by kernel_rfl) rfl
          clear pre old
          simp only [Vals5.fits, Array.getD_eq_getD_getElem?, List.getElem?_toArray, List.getElem?_cons_zero, List.getElem?_cons_succ, Option.getD_some] at e4
          go_simp
          refine hK _ _ hS (Below.refl _ _) ?_
          exact fits_is _ _
        refine Vals5.Steps.run rfl (Vals5.Stable.is _) ?_ ?_
        · intro a W hS pre old K hK
          have e23 := pre 0 23 _ (by kernel_rfl) rfl rfl
          clear pre old
          simp only [Vals5.fits, Array.getD_eq_getD_getElem?, List.getElem?_toArray, List.getElem?_cons_zero, List.getElem?_cons_succ, Option.getD_some] at e23
          have hS9 := hS
          obtain ⟨q1, q2, q3, q4, q5, q6⟩ := hS9
          have x0 := q3.cell 0
          have x1 := q3.cell 1
          simp only [List.getElem?_toArray, List.getElem?_cons_zero, List.getElem?_cons_succ] at x0 x1
          obtain ⟨p0, p1, p2, p3, p4, p5, p6⟩ := q6.part
          have g0 := keep_cell q1.1 G0.out
          have l0 := keep_cell q1.1 L0.out
          go_simp
          refine hK _ _ hS (Below.refl _ _) ?_
          exact fits_is _ _
        refine Vals5.Steps.run rfl (Vals5.Stable.is _) ?_ ?_
        · intro a W hS pre old K hK
          have e8 := old 8 _ (by kernel_rfl) rfl
          clear pre old
          simp only [Vals5.fits, Array.getD_eq_getD_getElem?, List.getElem?_toArray, List.getElem?_cons_zero, List.getElem?_cons_succ, Option.getD_some] at e8
          go_simp
          refine hK _ _ hS (Below.refl _ _) ?_
          exact fits_is _ _
        refine Vals5.Steps.run rfl (Vals5.Stable.is _) ?_ ?_
        · intro a W hS pre old K hK
          have e24 := pre 1 24 _ (by kernel_rfl) rfl rfl
          have e25 := pre 2 25 _ (by kernel_rfl) rfl rfl
          clear pre old
          simp only [Vals5.fits, Array.getD_eq_getD_getElem?, List.getElem?_toArray, List.getElem?_cons_zero, List.getElem?_cons_succ, Option.getD_some] at e24 e25
          go_simp
          refine hK _ _ hS (Below.refl _ _) ?_
          exact fits_is _ _
        refine Vals5.Steps.run rfl (Vals5.Stable.is _) ?_ ?_
        · intro a W hS pre old K hK
          have e26 := pre 3 26 _ (by kernel_rfl) rfl rfl
          clear pre old
          simp only [Vals5.fits, Array.getD_eq_getD_getElem?, List.getElem?_toArray, List.getElem?_cons_zero, List.getElem?_cons_succ, Option.getD_some] at e26
          have hS9 := hS
          obtain ⟨q1, q2, q3, q4, q5, q6⟩ := hS9
          have x0 := q3.cell 0
          have x1 := q3.cell 1
          simp only [List.getElem?_toArray, List.getElem?_cons_zero, List.getElem?_cons_succ] at x0 x1
          obtain ⟨p0, p1, p2, p3, p4, p5, p6⟩ := q6.part
          have g0 := keep_cell q1.1 G0.out
          have l0 := keep_cell q1.1 L0.out
          go_simp
          refine hK _ _ hS (Below.refl _ _) ?_
          exact fits_is _ _
        refine Vals5.Steps.run rfl (Vals5.Stable.is _) ?_ ?_
        · intro a W hS pre old K hK
          have e4 := old 4 _ (by kernel_rfl) rfl
          clear pre old
          simp only [Vals5.fits, Array.getD_eq_getD_getElem?, List.getElem?_toArray, List.getElem?_cons_zero, List.getElem?_cons_succ, Option.getD_some] at e4
          go_simp
          refine hK _ _ hS (Below.refl _ _) ?_
          exact fits_is _ _
        refine Vals5.Steps.run rfl (Vals5.Stable.is _) ?_ ?_
        · intro a W hS pre old K hK
          have e28 := pre 5 28 _ (by kernel_rfl) rfl rfl
          clear pre old
          simp only [Vals5.fits, Array.getD_eq_getD_getElem?, List.getElem?_toArray, List.getElem?_cons_zero, List.getElem?_cons_succ, Option.getD_some] at e28
          have hS9 := hS
          obtain ⟨q1, q2, q3, q4, q5, q6⟩ := hS9
          have x0 := q3.cell 0
          have x1 := q3.cell 1
          simp only [List.getElem?_toArray, List.getElem?_cons_zero, List.getElem?_cons_succ] at x0 x1
          obtain ⟨p0, p1, p2, p3, p4, p5, p6⟩ := q6.part
          have g0 := keep_cell q1.1 G0.out
          have l0 := keep_cell q1.1 L0.out
          go_simp
          refine hK _ _ hS (Below.refl _ _) ?_
          exact fits_is _ _
        refine Vals5.Steps.run rfl (Vals5.Stable.is _) ?_ ?_
        · intro a W hS pre old K hK
          have e8 := old 8 _ (by kernel_rfl) rfl
          clear pre old
          simp only [Vals5.fits, Array.getD_eq_getD_getElem?, List.getElem?_toArray, List.getElem?_cons_zero, List.getElem?_cons_succ, Option.getD_some] at e8
          go_simp
          refine hK _ _ hS (Below.refl _ _) ?_
          exact fits_is _ _
        refine Vals5.Steps.run rfl (Vals5.Stable.is _) ?_ ?_
        · intro a W hS pre old K hK
          have e29 := pre 6 29 _ (by kernel_rfl) rfl rfl
          have e30 := pre 7 30 _ (by kernel_rfl) rfl rfl
          clear pre old
          simp only [Vals5.fits, Array.getD_eq_getD_getElem?, List.getElem?_toArray, List.getElem?_cons_zero, List.getElem?_cons_succ, Option.getD_some] at e29 e30
          go_simp
          refine hK _ _ hS (Below.refl _ _) ?_
          exact fits_is _ _
        refine Vals5.Steps.run rfl (Vals5.Stable.is _) ?_ ?_
        · intro a W hS pre old K hK
          have e31 := pre 8 31 _ (by kernel_rfl) rfl rfl
          clear pre old
          simp only [Vals5.fits, Array.getD_eq_getD_getElem?, List.getElem?_toArray, List.getElem?_cons_zero, List.getElem?_cons_succ, Option.getD_some] at e31
          have hS9 := hS
          obtain ⟨q1, q2, q3, q4, q5, q6⟩ := hS9
          have x0 := q3.cell 0
          have x1 := q3.cell 1
          simp only [List.getElem?_toArray, List.getElem?_cons_zero, List.getElem?_cons_succ] at x0 x1
          obtain ⟨p0, p1, p2, p3, p4, p5, p6⟩ := q6.part
          have g0 := keep_cell q1.1 G0.out
          have l0 := keep_cell q1.1 L0.out
          go_simp
          refine hK _ _ hS (Below.refl _ _) ?_
          exact fits_is _ _
        refine Vals5.Steps.run rfl (Vals5.Stable.is _) ?_ ?_
        · intro a W hS pre old K hK
          have e2 := old 2 _ (by kernel_rfl) rfl
          clear pre old
          simp only [Vals5.fits, Array.getD_eq_getD_getElem?, List.getElem?_toArray, List.getElem?_cons_zero, List.getElem?_cons_succ, Option.getD_some] at e2
          go_simp
          refine hK _ _ hS (Below.refl _ _) ?_
          exact fits_is _ _
        refine Vals5.Steps.run rfl (Vals5.Stable.is _) ?_ ?_
        · intro a W hS pre old K hK
          have e9 := old 9 _ (by kernel_rfl) rfl
          clear pre old
          simp only [Vals5.fits, Array.getD_eq_getD_getElem?, List.getElem?_toArray, List.getElem?_cons_zero, List.getElem?_cons_succ, Option.getD_some] at e9
          go_simp
          refine hK _ _ hS (Below.refl _ _) ?_
          exact fits_is _ _
        refine Vals5.Steps.run rfl (Vals5.Stable.is _) ?_ ?_
        · intro a W hS pre old K hK
          have e34 := pre 11 34 _ (by kernel_rfl) rfl rfl
          clear pre old
          simp only [Vals5.fits, Array.getD_eq_getD_getElem?, List.getElem?_toArray, List.getElem?_cons_zero, List.getElem?_cons_succ, Option.getD_some] at e34
          have hS9 := hS
          obtain ⟨q1, q2, q3, q4, q5, q6⟩ := hS9
          have x0 := q3.cell 0
          have x1 := q3.cell 1
          simp only [List.getElem?_toArray, List.getElem?_cons_zero, List.getElem?_cons_succ] at x0 x1
          obtain ⟨p0, p1, p2, p3, p4, p5, p6⟩ := q6.part
          have g0 := keep_cell q1.1 G0.out
          have l0 := keep_cell q1.1 L0.out
          go_simp
          refine hK _ _ hS (Below.refl _ _) ?_
          exact fits_is _ _
        refine Vals5.Steps.run rfl (Vals5.Stable.is _) ?_ ?_
        · intro a W hS pre old K hK
          have e33 := pre 10 33 _ (by kernel_rfl) rfl rfl
          have e35 := pre 12 35 _ (by kernel_rfl) rfl rfl
          clear pre old
          simp only [Vals5.fits, Array.getD_eq_getD_getElem?, List.getElem?_toArray, List.getElem?_cons_zero, List.getElem?_cons_succ, Option.getD_some] at e33 e35
          have e9 := E1.out
          go_simp
          refine hK _ _ hS (Below.refl _ _) ?_
          exact fits_is _ _
        refine Vals5.Steps.run rfl (Vals5.Stable.is _) ?_ ?_
        · intro a W hS pre old K hK
          have e36 := pre 13 36 _ (by kernel_rfl) rfl rfl
          clear pre old
          simp only [Vals5.fits, Array.getD_eq_getD_getElem?, List.getElem?_toArray, List.getElem?_cons_zero, List.getElem?_cons_succ, Option.getD_some] at e36
          go_simp
          refine hK _ _ hS (Below.refl _ _) ?_
          rw [EC.out]
          exact fits_is _ _
        refine Vals5.Steps.run rfl (Vals5.Stable.is _) ?_ ?_
        · intro a W hS pre old K hK
          have e32 := pre 9 32 _ (by kernel_rfl) rfl rfl
          have e37 := pre 14 37 _ (by kernel_rfl) rfl rfl
          clear pre old
          simp only [Vals5.fits, Array.getD_eq_getD_getElem?, List.getElem?_toArray, List.getElem?_cons_zero, List.getElem?_cons_succ, Option.getD_some] at e32 e37
          have e9 := E2.out
          go_simp
          refine hK _ _ hS (Below.refl _ _) ?_
          exact fits_is _ _
        refine Vals5.Steps.run rfl (Vals5.Stable.is _) ?_ ?_
        · intro a W hS pre old K hK
          have e27 := pre 4 27 _ (by kernel_rfl) rfl rfl
          have e38 := pre 15 38 _ (by kernel_rfl) rfl rfl
          clear pre old
          simp only [Vals5.fits, Array.getD_eq_getD_getElem?, List.getElem?_toArray, List.getElem?_cons_zero, List.getElem?_cons_succ, Option.getD_some] at e27 e38
          have e9 := E3.out
          go_simp
          refine hK _ _ hS (Below.refl _ _) ?_
          exact fits_is _ _
        exact Vals5.Steps.nil
      case hend =>
        rintro X ⟨hs, hB, hX, hR, hQ, hP⟩
        simp only [Vals5.All, List.getLast_cons_cons, List.getLast_singleton]
        simp only [Vals.putAll, List.setIfInBounds_toArray, List.set_cons_zero, List.set_cons_succ]
        intro K hK
        go_simp
        refine hK _ _ ?_
        clear hK K
        have hgp := HGP.out
        have hgB := HGB.out
        have Q1 := hQ.set 0 (.int .i64 (s0 + p))
        have Q2 := Q1.set 1 (.int .i64 (s1 + p * (x.pt - h.aft)))
        have Q3 := Q2.set 2 (.int .i64 (s2 + p * (h.fore - x.pt)))
        have P1 := hP.far (g' := gB) (by omega) 0 (.int .i64 (s0 + p))
        have P2 := P1.far (g' := gB) (by omega) 1 (.int .i64 (s1 + p * (x.pt - h.aft)))
        have B1 := hB.far (g' := gB) (by omega) 0 (.int .i64 (s0 + p))
        have B2 := B1.far (g' := gB) (by omega) 1 (.int .i64 (s1 + p * (x.pt - h.aft)))
        have B3 := Lib.hid (B2.far (g' := gB) (by omega) 2 (.int .i64 (s2 + p * (h.fore - x.pt))))
        have X3 := Lib.hid (((hX.far (g' := gB) (by omega) 0 (.int .i64 (s0 + p))).far (g' := gB) (by omega) 1 (.int .i64 (s1 + p * (x.pt - h.aft)))).far (g' := gB) (by omega) 2 (.int .i64 (s2 + p * (h.fore - x.pt))))
        have R3 := Lib.hid (((hR.far (g' := gB) (by omega) 0 (.int .i64 (s0 + p))).far (g' := gB) (by omega) 1 (.int .i64 (s1 + p * (x.pt - h.aft)))).far (g' := gB) (by omega) 2 (.int .i64 (s2 + p * (h.fore - x.pt))))
        have S3 := Lib.hid (((hs.set (g := gB) (by omega) 0 (.int .i64 (s0 + p))).set (g := gB) (by omega) 1 (.int .i64 (s1 + p * (x.pt - h.aft)))).set (g := gB) (by omega) 2 (.int .i64 (s2 + p * (h.fore - x.pt))))
        have Q3H := Lib.hid Q3
        have a0 := hQ.cell 0
        have a1 := hQ.frozen 0
        have a2 := Q1.cell 1
        have a3 := Q1.frozen 1
        have a4 := Q2.cell 2
        have a5 := Q2.frozen 2
        simp only [List.getElem?_toArray, List.getElem?_cons_zero, List.getElem?_cons_succ, List.setIfInBounds_toArray, List.set_cons_zero, List.set_cons_succ] at a0 a2 a4
        obtain ⟨u0, u1, u2, u3, u4, u5, u6⟩ := P1.part
        obtain ⟨v0, v1, v2, v3, v4, v5, v6⟩ := P2.part
        obtain ⟨c0, c1, c2⟩ := B1.hull
        obtain ⟨d0, d1, d2⟩ := B2.hull
        clear u0 u2 u3 u4 u5 u6 v0 v2 v3 v4 v5 v6 c0 c2 d0 d1 hQ Q1 Q2 Q3 P1 P2 B1 B2 hB hX hR hs hP
        have e4 := E4.out
        have e5 := E5.out
        have e6 := E6.out
        have e7 := E7.out
        have e8 := E8.out
        have e9 := E9.out
        have e10 := E10.out
        go_wp2_with fail
        go_roundw
        case rel =>
          refine ⟨k + 1, by omega, by go_num, S3.out, B3, X3, R3, ?_⟩
          show Blk _ _ _ _
          rw [M0.out, M1.out, M2.out]
          exact Q3H.out
        case measure => simp [intOf]; omega
    · obtain rfl : k = h.parts.length := by omega
      obtain ⟨c0, c1, c2⟩ := HB.out.hull
      go_wp2_with (first | (refine wpList_load_row rfl 70 _ rfl (gB) rfl 70 (bB (sm (term h gs ls 0 wt) h.parts.length) (sm (term h gs ls 1 wt) h.parts.length) (sm (term h gs ls 2 wt) h.parts.length)) (0, 0) _ HQ.out Tryz.underlying70 rfl (by kernel_rfl) ?_) | (refine wpList_store_row rfl 70 _ _ rfl (w.heap.size + 1 + 1) _ rfl rfl 70 _ HR.out (by kernel_rfl) rfl (by simp [Value.oneCell']) ?_))
      (refine bodyPost_ret (v := .agg _) ?_ rfl ⟨rfl, ?_⟩; exact (results_cell_row Tryz.results53 _ _ (w.heap.size + 1 + 1) 70 _ (0, 0) _ rfl (HR.out.row _) Tryz.underlying70 rfl (by kernel_rfl)))
      exact (hs.row (by omega) _).1
end Td
end Go.Proofs.YthdcklonamgpiaaGreat
