import Derived.Test.YthdcklonamgpiaaBal
/- The balance of a truth. -/
namespace Go.Proofs.Ythdcklonamgpiaa
open Go.RowKit
namespace Td
set_option linter.unusedSimpArgs false
set_option linter.unusedVariables false
attribute [local go_sem] Oper.semAt_some
set_option maxRecDepth 100000 in
set_option maxHeartbeats 4000000 in
theorem wbalance_c (h : Hul) (m : Sl) (GA : Option Addr) (gs : List Int) (gc : Nat) (LA : Option Addr) (ls : List Int) (lc : Nat) (wt : Int) (w : World) (hh : HBk h) (hp : HAt w m h) (hG : InAt w GA gs) (hL : InAt w LA ls) (ht : TOk h gs ls) (hw0 : 0 ≤ wt) (hw1 : wt ≤ 1000) :
    Calls Try.prog 51 #[.agg (hV h m), .agg (tV GA gs.length gc LA ls.length lc), .int .i64 wt] w fun e w' => e = .returned (.agg (r3 fun k => bal h gs ls k wt)) ∧ Below w.heap.size w w' := by
  obtain ⟨cur, hcur⟩ : ∃ cur : Nat → Nat → Nat → Int, cur = fun k j i => if i < k then bal h gs ls i wt else if i = k then sm (term h gs ls k wt) j else 0 := ⟨_, rfl⟩
  have hT0 : Blk ((((w.alloc (.cells (hV h m) 92)).alloc (.cells (tV GA gs.length gc LA ls.length lc) 27)).alloc (.cells #[.int .i64 0, .int .i64 0, .int .i64 0] 90)).alloc (.cells #[.int .i64 0, .int .i64 0, .int .i64 0] 90)) (w.heap.size + 1) 27 (tV GA gs.length gc LA ls.length lc) := ((Blk.new1 w _ _ _).alloc _).alloc _
  have hI0 : Bi w h m (w.heap.size + 1 + 1) (w.heap.size + 1 + 1 + 1) (cur 0 0) ((((w.alloc (.cells (hV h m) 92)).alloc (.cells (tV GA gs.length gc LA ls.length lc) 27)).alloc (.cells #[.int .i64 0, .int .i64 0, .int .i64 0] 90)).alloc (.cells #[.int .i64 0, .int .i64 0, .int .i64 0] 90)) :=
    ⟨((((Since.refl w).alloc _).alloc _).alloc _).alloc _, (((Blk.new w _ _).alloc _).alloc _).alloc _, (Blk.new2 w _ _ _ _).alloc _, by
      have := Blk.new3 w (.cells (hV h m) 92) (.cells (tV GA gs.length gc LA ls.length lc) 27) (.cells #[.int .i64 0, .int .i64 0, .int .i64 0] 90) 90 #[.int .i64 0, .int .i64 0, .int .i64 0]
      have e : r3 (cur 0 0) = #[.int .i64 0, .int .i64 0, .int .i64 0] := by rw [hcur]; simp [r3, sm]
      rw [e]; exact this⟩
  have HI0 := Lib.hid hI0
  have HT0 := Lib.hid hT0
  show Calls Try.prog 51 #[.agg (hV h m), .agg (tV GA gs.length gc LA ls.length lc), .int .i64 wt] w fun e w' => e = .returned (.agg #[.int .i64 (bal h gs ls 0 wt), .int .i64 (bal h gs ls 1 wt), .int .i64 (bal h gs ls 2 wt)]) ∧ Below w.heap.size w w'
  have HCUR := Lib.hid hcur
  have hn10 := hh.n10
  clear hcur hI0 hT0
  go_enter Try.func51, Try.ntmps51
  go_wp2_with fail
  refine (sums_c h m _).mono ?_
  rintro e w1 ⟨⟨rfl, hg1⟩, hb1⟩
  have HI1 := Lib.hid (HI0.out.keep hb1)
  have HT1 := Lib.hid (HT0.out.keep hb1)
  have HG1 := Lib.hid hg1
  obtain ⟨gS, hgs⟩ : ∃ gS, ((((w.alloc (.cells (hV h m) 92)).alloc (.cells (tV GA gs.length gc LA ls.length lc) 27)).alloc (.cells #[.int .i64 0, .int .i64 0, .int .i64 0] 90)).alloc (.cells #[.int .i64 0, .int .i64 0, .int .i64 0] 90)).heap.size = gS := ⟨_, rfl⟩
  rw [hgs] at HG1 ⊢
  have HNG : Hid (w.heap.size + 1 + 1 + 1 < gS) := by show _ < _; rw [← hgs]; simp
  clear HI0 HT0 hb1 hg1 hgs
  go_wp2_with fail
  go_loopw [14] (fun i wr => ∃ k : Nat, k ≤ 3 ∧ i = .int .i64 k ∧ Hid (Bi w h m (w.heap.size + 1 + 1) (w.heap.size + 1 + 1 + 1) (cur k 0) wr) ∧ Hid (Blk wr gS 92 (hV h m)) ∧ Hid (Blk wr (w.heap.size + 1) 27 (tV GA gs.length gc LA ls.length lc))) (fun i _ => 3 - (intOf i).toNat)
  case atStart => exact ⟨0, by omega, rfl, HI1, HG1, HT1⟩
  case round =>
    obtain ⟨k, hk, rfl, HIk, HGk, HTk⟩ := hrel
    by_cases hk3 : k < 3
    · have hix := index_sum gS hk3
      have HFA := Lib.hid (adF_enter k)
      have HCF : Hid (∀ (x : Prt) (p : Int) (W : World), PBk x → -5000000 ≤ p → p ≤ 5000000 → Calls Try.prog (adF k) #[.agg (qV x h m p)] W fun e w' => e = .returned (.int .i64 (adds h.aft h.fore k x p)) ∧ Below W.heap.size W w') :=
        fun x p W hx h0 h1 => adF_c k x h m p W hx hh.a0 (by have := hh.af; have := hh.f1; omega) (by have := hh.af; have := hh.a0; omega) hh.f1 h0 h1
      obtain ⟨fa, hfa⟩ : ∃ fa, adF k = fa := ⟨_, rfl⟩
      obtain ⟨fs, hfs⟩ : ∃ fs, sdF k = fs := ⟨_, rfl⟩
      obtain ⟨cp, hcp⟩ : ∃ cp, sdC gS k = cp := ⟨_, rfl⟩
      rw [hfa] at HFA HCF
      rw [hfa, hfs, hcp] at hix
      clear hfa hfs hcp
      obtain ⟨c0, c1, c2⟩ := HIk.out.wk.hull
      have hI2 := HIk.out.alloc (.cells #[.nilFunc, .nilFunc] 132)
      have hG2 := HGk.out.alloc (.cells #[.nilFunc, .nilFunc] 132)
      have hT2 := HTk.out.alloc (.cells #[.nilFunc, .nilFunc] 132)
      have HS1 := Lib.hid (Blk.new wr 132 #[.nilFunc, .nilFunc])
      have HI2 := Lib.hid (hI2.row (g := wr.heap.size) (by have := HIk.out.rs.lt; omega) HIk.out.rs.lt HIk.out.bl.lt (s1V fa fs cp))
      have HG2 := Lib.hid (hG2.rowFar (g' := wr.heap.size) (by have := HGk.out.lt; omega) (s1V fa fs cp))
      have HT2 := Lib.hid (hT2.rowFar (g' := wr.heap.size) (by have := HTk.out.lt; omega) (s1V fa fs cp))
      have HS2 := Lib.hid (HS1.out.row (s1V fa fs cp))
      clear hI2 hG2 hT2
      obtain ⟨b0, b1, b2⟩ := HI2.out.wk.hull
      go_wp2_with (refine wpList_store_row rfl 132 _ _ rfl (wr.heap.size) _ rfl rfl 132 _ HS1.out (by kernel_rfl) rfl (by simp [Value.oneCell']) ?_)
      clear c0 c1 c2 b0 b1 b2 HS1
      obtain ⟨ws, hws⟩ : ∃ ws, wr.heap.size = ws := ⟨_, rfl⟩
      rw [hws] at HS2 HI2 HG2 HT2 ⊢
      have HNS : Hid (w.heap.size + 1 + 1 + 1 < ws) := by show _ < _; rw [← hws]; exact HIk.out.bl.lt
      clear HIk HGk HTk hws
      go_loopw [22] (fun i wq => ∃ j : Nat, j ≤ h.parts.length ∧ i = .int .i64 j ∧ Hid (Bi w h m (w.heap.size + 1 + 1) (w.heap.size + 1 + 1 + 1) (cur k j) wq) ∧ Hid (Blk wq gS 92 (hV h m)) ∧ Hid (Blk wq ws 132 (s1V fa fs cp)) ∧ Hid (Blk wq (w.heap.size + 1) 27 (tV GA gs.length gc LA ls.length lc))) (fun i _ => h.parts.length - (intOf i).toNat)
      case atStart => exact ⟨0, by omega, rfl, HI2, HG2, HS2, HT2⟩
      case round =>
        obtain ⟨j, hj, rfl, HIj, HGj, HSj, HTj⟩ := hrel
        by_cases hlt : j < h.parts.length
        · obtain ⟨ad, hA, z0, z1, z2, z3, z4, z5, z6⟩ := (hp.ps.keep HIj.out.sn.1).get hlt
          have hx : PBk h.parts[j] := hh.ps _ (List.getElem_mem hlt)
          have hjg : j < gs.length := by rw [ht.ng]; exact hlt
          have hjl : j < ls.length := by rw [ht.nl]; exact hlt
          have sb : (0 ≤ gs[j] ∧ gs[j] ≤ 3000000) ∧ (0 ≤ ls[j] ∧ ls[j] ≤ 5000) := by
            have a1 := ht.gb j hlt
            have a2 := ht.lb j hlt
            rw [pa_at hlt, List.getElem?_eq_getElem hjg, Option.getD_some] at a1
            rw [pa_at hlt, List.getElem?_eq_getElem hjl, Option.getD_some] at a2
            have := hx.w0; have := hx.w1; have := hx.l0; have := hx.l1
            omega
          obtain ⟨ag, hag, zg⟩ := hG.get hjg
          obtain ⟨al, hal, zl⟩ := hL.get hjl
          have HAG := Lib.hid hag
          have HAL := Lib.hid hal
          have HZ0 := Lib.hid zg
          have HZ1 := Lib.hid zl
          clear hag hal zg zl
          have HI4 := Lib.hid (HIj.out.alloc (.cells (pV h.parts[j]) 74))
          have HG4 := Lib.hid (HGj.out.alloc (.cells (pV h.parts[j]) 74))
          have HS4 := Lib.hid (HSj.out.alloc (.cells (pV h.parts[j]) 74))
          have HT4 := Lib.hid (HTj.out.alloc (.cells (pV h.parts[j]) 74))
          have HP4 := Lib.hid (Blk.new wr 74 (pV h.parts[j]))
          go_wp2_with fail
          obtain ⟨ps, hps⟩ : ∃ ps, wr.heap.size = ps := ⟨_, rfl⟩
          rw [hps] at HP4 ⊢
          clear hA z0 z1 z2 z3 z4 z5 z6 hps HIj HSj HTj HGj
          have HE9 : Hid (IntKind.i64.wrap (cur k j k + adds h.aft h.fore k h.parts[j] (prs h.parts[j] gs[j] ls[j] wt)) = cur k (j + 1) k) := by
            show _ = _
            have hb := tsm_bd hh ht k hw0 hw1 (n := j + 1) (by omega)
            have ec : ∀ j, cur k j k = sm (term h gs ls k wt) j := fun j => by rw [HCUR.out]; simp
            have et : term h gs ls k wt j = adds h.aft h.fore k h.parts[j] (prs h.parts[j] gs[j] ls[j] wt) := by
              unfold term
              rw [pa_at hlt, List.getElem?_eq_getElem (by rw [ht.ng]; exact hlt), List.getElem?_eq_getElem (by rw [ht.nl]; exact hlt)]; rfl
            rw [ec, ec, ← et]
            exact IntWalk.i64_in _ (by simp only [sm] at hb; omega)
          have HCA : Hid (∀ W : World, Calls Try.prog fa #[.agg (qV h.parts[j] h m (prs h.parts[j] gs[j] ls[j] wt))] W fun e w' => e = .returned (.int .i64 (adds h.aft h.fore k h.parts[j] (prs h.parts[j] gs[j] ls[j] wt))) ∧ Below W.heap.size W w') := fun W =>
            have ⟨p0, p1⟩ := prs_bd sb.1.1 sb.1.2 sb.2.1 sb.2.2 hx hw0 hw1
            HCF.out _ _ W hx p0 p1
          refine Vals6.regionAll (fun X => Bi w h m (w.heap.size + 1 + 1) (w.heap.size + 1 + 1 + 1) (cur k j) X ∧ Blk X ws 132 (s1V fa fs cp) ∧ Blk X ps 74 (pV h.parts[j]) ∧ Blk X gS 92 (hV h m) ∧ Blk X (w.heap.size + 1) 27 (tV GA gs.length gc LA ls.length lc)) [some 27, some 28, some 29, some 30, some 31, some 32, some 33, some 34, some 35, some 36, some 37, some 38, some 39, some 40, some 41, some 42, some 43, some 44, some 45, some 46, some 47, some 48] [.is ?_, .is ?_, .is ?_, .is ?_, .is ?_, .is ?_, .is ?_, .is ?_, .is ?_, .is ?_, .is ?_, .is ?_, .is ?_, .is ?_, .is ?_, .is ?_, .is ?_, .is ?_, .is ?_, .is ?_, .is ?_, .is ?_] (by kernel_rfl) rfl rfl (by kernel_rfl) (by kernel_rfl) (by kernel_rfl) (by kernel_rfl) (by kernel_rfl) (by kernel_rfl) rfl (⟨HI4.out.drew, HS4.out.drew, HP4.out.drew, HG4.out.drew, HT4.out.drew⟩) ?hsteps ?hend
          case hsteps =>
            refine Vals5.Steps.run rfl (Vals5.Stable.is _) ?_ ?_
            · intro a W hS pre old K hK
              have e8 := old 8 _ (by kernel_rfl) rfl
              clear pre old
              simp only [Vals5.fits, Array.getD_eq_getD_getElem?, List.getElem?_toArray, List.getElem?_cons_zero, List.getElem?_cons_succ, Option.getD_some] at e8
              go_simp
              refine hK _ _ hS (Below.refl _ _) ?_
              exact fits_is _ _
            refine Vals5.Steps.run rfl (Vals5.Stable.is _) ?_ ?_
            · intro a W hS pre old K hK
              have e7 := old 7 _ (by kernel_rfl) rfl
              have e27 := pre 0 27 _ (by kernel_rfl) rfl rfl
              clear pre old
              simp only [Vals5.fits, Array.getD_eq_getD_getElem?, List.getElem?_toArray, List.getElem?_cons_zero, List.getElem?_cons_succ, Option.getD_some] at e7 e27
              go_simp
              refine hK _ _ hS (Below.refl _ _) ?_
              exact fits_is _ _
            refine Vals5.Steps.run rfl (Vals5.Stable.is _) ?_ ?_
            · intro a W hS pre old K hK
              have e28 := pre 1 28 _ (by kernel_rfl) rfl rfl
              clear pre old
              simp only [Vals5.fits, Array.getD_eq_getD_getElem?, List.getElem?_toArray, List.getElem?_cons_zero, List.getElem?_cons_succ, Option.getD_some] at e28
              have hS9 := hS
              obtain ⟨q1, q2, q3, q4, q5⟩ := hS9
              obtain ⟨c0, c1, c2⟩ := q1.wk.hull
              have d0 := q2.cell 0
              obtain ⟨p0, p1, p2, p3, p4, p5, p6⟩ := q3.part
              have g0 := q1.bl.cell k
              rw [r3_get _ hk3] at g0
              have t0 := q5.cell 0
              have t1 := q5.cell 1
              simp only [List.getElem?_toArray, List.getElem?_cons_zero, List.getElem?_cons_succ] at d0 t0 t1
              have z0 := keep_cell q1.sn.1 HZ0.out
              have z1 := keep_cell q1.sn.1 HZ1.out
              go_simp
              refine hK _ _ hS (Below.refl _ _) ?_
              exact fits_is _ _
            refine Vals5.Steps.run rfl (Vals5.Stable.is _) ?_ ?_
            · intro a W hS pre old K hK
              have e9 := old 9 _ (by kernel_rfl) rfl
              clear pre old
              simp only [Vals5.fits, Array.getD_eq_getD_getElem?, List.getElem?_toArray, List.getElem?_cons_zero, List.getElem?_cons_succ, Option.getD_some] at e9
              go_simp
              refine hK _ _ hS (Below.refl _ _) ?_
              exact fits_is _ _
            refine Vals5.Steps.run rfl (Vals5.Stable.is _) ?_ ?_
            · intro a W hS pre old K hK
              have e30 := pre 3 30 _ (by kernel_rfl) rfl rfl
              clear pre old
              simp only [Vals5.fits, Array.getD_eq_getD_getElem?, List.getElem?_toArray, List.getElem?_cons_zero, List.getElem?_cons_succ, Option.getD_some] at e30
              have hS9 := hS
              obtain ⟨q1, q2, q3, q4, q5⟩ := hS9
              obtain ⟨c0, c1, c2⟩ := q1.wk.hull
              have d0 := q2.cell 0
              obtain ⟨p0, p1, p2, p3, p4, p5, p6⟩ := q3.part
              have g0 := q1.bl.cell k
              rw [r3_get _ hk3] at g0
              have t0 := q5.cell 0
              have t1 := q5.cell 1
              simp only [List.getElem?_toArray, List.getElem?_cons_zero, List.getElem?_cons_succ] at d0 t0 t1
              have z0 := keep_cell q1.sn.1 HZ0.out
              have z1 := keep_cell q1.sn.1 HZ1.out
              go_simp
              refine hK _ _ hS (Below.refl _ _) ?_
              exact fits_is _ _
            refine Vals5.Steps.run rfl (Vals5.Stable.is _) ?_ ?_
            · intro a W hS pre old K hK
              have e3 := old 3 _ (by kernel_rfl) rfl
              clear pre old
              simp only [Vals5.fits, Array.getD_eq_getD_getElem?, List.getElem?_toArray, List.getElem?_cons_zero, List.getElem?_cons_succ, Option.getD_some] at e3
              have hS9 := hS
              obtain ⟨q1, q2, q3, q4, q5⟩ := hS9
              obtain ⟨c0, c1, c2⟩ := q1.wk.hull
              have d0 := q2.cell 0
              obtain ⟨p0, p1, p2, p3, p4, p5, p6⟩ := q3.part
              have g0 := q1.bl.cell k
              rw [r3_get _ hk3] at g0
              have t0 := q5.cell 0
              have t1 := q5.cell 1
              simp only [List.getElem?_toArray, List.getElem?_cons_zero, List.getElem?_cons_succ] at d0 t0 t1
              have z0 := keep_cell q1.sn.1 HZ0.out
              have z1 := keep_cell q1.sn.1 HZ1.out
              go_simp
              refine hK _ _ hS (Below.refl _ _) ?_
              exact fits_is _ _
            refine Vals5.Steps.run rfl (Vals5.Stable.is _) ?_ ?_
            · intro a W hS pre old K hK
              have e11 := old 11 _ (by kernel_rfl) rfl
              clear pre old
              simp only [Vals5.fits, Array.getD_eq_getD_getElem?, List.getElem?_toArray, List.getElem?_cons_zero, List.getElem?_cons_succ, Option.getD_some] at e11
              have hS9 := hS
              obtain ⟨q1, q2, q3, q4, q5⟩ := hS9
              obtain ⟨c0, c1, c2⟩ := q1.wk.hull
              have d0 := q2.cell 0
              obtain ⟨p0, p1, p2, p3, p4, p5, p6⟩ := q3.part
              have g0 := q1.bl.cell k
              rw [r3_get _ hk3] at g0
              have t0 := q5.cell 0
              have t1 := q5.cell 1
              simp only [List.getElem?_toArray, List.getElem?_cons_zero, List.getElem?_cons_succ] at d0 t0 t1
              have z0 := keep_cell q1.sn.1 HZ0.out
              have z1 := keep_cell q1.sn.1 HZ1.out
              go_simp
              refine hK _ _ hS (Below.refl _ _) ?_
              exact fits_is _ _
            refine Vals5.Steps.run rfl (Vals5.Stable.is _) ?_ ?_
            · intro a W hS pre old K hK
              have e4 := old 4 _ (by kernel_rfl) rfl
              clear pre old
              simp only [Vals5.fits, Array.getD_eq_getD_getElem?, List.getElem?_toArray, List.getElem?_cons_zero, List.getElem?_cons_succ, Option.getD_some] at e4
              go_simp
              refine hK _ _ hS (Below.refl _ _) ?_
              exact fits_is _ _
            refine Vals5.Steps.run rfl (Vals5.Stable.is _) ?_ ?_
            · intro a W hS pre old K hK
              have e34 := pre 7 34 _ (by kernel_rfl) rfl rfl
              clear pre old
              simp only [Vals5.fits, Array.getD_eq_getD_getElem?, List.getElem?_toArray, List.getElem?_cons_zero, List.getElem?_cons_succ, Option.getD_some] at e34
              have hS9 := hS
              obtain ⟨q1, q2, q3, q4, q5⟩ := hS9
              obtain ⟨c0, c1, c2⟩ := q1.wk.hull
              have d0 := q2.cell 0
              obtain ⟨p0, p1, p2, p3, p4, p5, p6⟩ := q3.part
              have g0 := q1.bl.cell k
              rw [r3_get _ hk3] at g0
              have t0 := q5.cell 0
              have t1 := q5.cell 1
              simp only [List.getElem?_toArray, List.getElem?_cons_zero, List.getElem?_cons_succ] at d0 t0 t1
              have z0 := keep_cell q1.sn.1 HZ0.out
              have z1 := keep_cell q1.sn.1 HZ1.out
              go_simp
              refine hK _ _ hS (Below.refl _ _) ?_
              exact fits_is _ _
            refine Vals5.Steps.run rfl (Vals5.Stable.is _) ?_ ?_
            · intro a W hS pre old K hK
              have e10 := old 10 _ (by kernel_rfl) rfl
              clear pre old
              simp only [Vals5.fits, Array.getD_eq_getD_getElem?, List.getElem?_toArray, List.getElem?_cons_zero, List.getElem?_cons_succ, Option.getD_some] at e10
              go_simp
              refine hK _ _ hS (Below.refl _ _) ?_
              exact fits_is _ _
            refine Vals5.Steps.run rfl (Vals5.Stable.is _) ?_ ?_
            · intro a W hS pre old K hK
              have e35 := pre 8 35 _ (by kernel_rfl) rfl rfl
              have e36 := pre 9 36 _ (by kernel_rfl) rfl rfl
              clear pre old
              simp only [Vals5.fits, Array.getD_eq_getD_getElem?, List.getElem?_toArray, List.getElem?_cons_zero, List.getElem?_cons_succ, Option.getD_some] at e35 e36
              have hag := HAG.out
              have hjl : j < gs.length := by rw [ht.ng]; exact hlt
              go_simp
              refine hK _ _ hS (Below.refl _ _) ?_
              exact fits_is _ _
            refine Vals5.Steps.run rfl (Vals5.Stable.is _) ?_ ?_
            · intro a W hS pre old K hK
              have e37 := pre 10 37 _ (by kernel_rfl) rfl rfl
              clear pre old
              simp only [Vals5.fits, Array.getD_eq_getD_getElem?, List.getElem?_toArray, List.getElem?_cons_zero, List.getElem?_cons_succ, Option.getD_some] at e37
              have hS9 := hS
              obtain ⟨q1, q2, q3, q4, q5⟩ := hS9
              obtain ⟨c0, c1, c2⟩ := q1.wk.hull
              have d0 := q2.cell 0
              obtain ⟨p0, p1, p2, p3, p4, p5, p6⟩ := q3.part
              have g0 := q1.bl.cell k
              rw [r3_get _ hk3] at g0
              have t0 := q5.cell 0
              have t1 := q5.cell 1
              simp only [List.getElem?_toArray, List.getElem?_cons_zero, List.getElem?_cons_succ] at d0 t0 t1
              have z0 := keep_cell q1.sn.1 HZ0.out
              have z1 := keep_cell q1.sn.1 HZ1.out
              go_simp
              refine hK _ _ hS (Below.refl _ _) ?_
              exact fits_is _ _
            refine Vals5.Steps.run rfl (Vals5.Stable.is _) ?_ ?_
            · intro a W hS pre old K hK
              have e4 := old 4 _ (by kernel_rfl) rfl
              clear pre old
              simp only [Vals5.fits, Array.getD_eq_getD_getElem?, List.getElem?_toArray, List.getElem?_cons_zero, List.getElem?_cons_succ, Option.getD_some] at e4
              go_simp
              refine hK _ _ hS (Below.refl _ _) ?_
              exact fits_is _ _
            refine Vals5.Steps.run rfl (Vals5.Stable.is _) ?_ ?_
            · intro a W hS pre old K hK
              have e39 := pre 12 39 _ (by kernel_rfl) rfl rfl
              clear pre old
              simp only [Vals5.fits, Array.getD_eq_getD_getElem?, List.getElem?_toArray, List.getElem?_cons_zero, List.getElem?_cons_succ, Option.getD_some] at e39
              have hS9 := hS
              obtain ⟨q1, q2, q3, q4, q5⟩ := hS9
              obtain ⟨c0, c1, c2⟩ := q1.wk.hull
              have d0 := q2.cell 0
              obtain ⟨p0, p1, p2, p3, p4, p5, p6⟩ := q3.part
              have g0 := q1.bl.cell k
              rw [r3_get _ hk3] at g0
              have t0 := q5.cell 0
              have t1 := q5.cell 1
              simp only [List.getElem?_toArray, List.getElem?_cons_zero, List.getElem?_cons_succ] at d0 t0 t1
              have z0 := keep_cell q1.sn.1 HZ0.out
              have z1 := keep_cell q1.sn.1 HZ1.out
              go_simp
              refine hK _ _ hS (Below.refl _ _) ?_
              exact fits_is _ _
            refine Vals5.Steps.run rfl (Vals5.Stable.is _) ?_ ?_
            · intro a W hS pre old K hK
              have e10 := old 10 _ (by kernel_rfl) rfl
              clear pre old
              simp only [Vals5.fits, Array.getD_eq_getD_getElem?, List.getElem?_toArray, List.getElem?_cons_zero, List.getElem?_cons_succ, Option.getD_some] at e10
              go_simp
              refine hK _ _ hS (Below.refl _ _) ?_
              exact fits_is _ _
            refine Vals5.Steps.run rfl (Vals5.Stable.is _) ?_ ?_
            · intro a W hS pre old K hK
              have e40 := pre 13 40 _ (by kernel_rfl) rfl rfl
              have e41 := pre 14 41 _ (by kernel_rfl) rfl rfl
              clear pre old
              simp only [Vals5.fits, Array.getD_eq_getD_getElem?, List.getElem?_toArray, List.getElem?_cons_zero, List.getElem?_cons_succ, Option.getD_some] at e40 e41
              have hal := HAL.out
              have hjl : j < ls.length := by rw [ht.nl]; exact hlt
              go_simp
              refine hK _ _ hS (Below.refl _ _) ?_
              exact fits_is _ _
            refine Vals5.Steps.run rfl (Vals5.Stable.is _) ?_ ?_
            · intro a W hS pre old K hK
              have e42 := pre 15 42 _ (by kernel_rfl) rfl rfl
              clear pre old
              simp only [Vals5.fits, Array.getD_eq_getD_getElem?, List.getElem?_toArray, List.getElem?_cons_zero, List.getElem?_cons_succ, Option.getD_some] at e42
              have hS9 := hS
              obtain ⟨q1, q2, q3, q4, q5⟩ := hS9
              obtain ⟨c0, c1, c2⟩ := q1.wk.hull
              have d0 := q2.cell 0
              obtain ⟨p0, p1, p2, p3, p4, p5, p6⟩ := q3.part
              have g0 := q1.bl.cell k
              rw [r3_get _ hk3] at g0
              have t0 := q5.cell 0
              have t1 := q5.cell 1
              simp only [List.getElem?_toArray, List.getElem?_cons_zero, List.getElem?_cons_succ] at d0 t0 t1
              have z0 := keep_cell q1.sn.1 HZ0.out
              have z1 := keep_cell q1.sn.1 HZ1.out
              go_simp
              refine hK _ _ hS (Below.refl _ _) ?_
              exact fits_is _ _
            refine Vals5.Steps.run rfl (Vals5.Stable.is _) ?_ ?_
            · intro a W hS pre old K hK
              have e2 := old 2 _ (by kernel_rfl) rfl
              clear pre old
              simp only [Vals5.fits, Array.getD_eq_getD_getElem?, List.getElem?_toArray, List.getElem?_cons_zero, List.getElem?_cons_succ, Option.getD_some] at e2
              go_simp
              refine hK _ _ hS (Below.refl _ _) ?_
              exact fits_is _ _
            refine Vals5.Steps.run rfl (Vals5.Stable.is _) ?_ ?_
            · intro a W hS pre old K hK
              have e32 := pre 5 32 _ (by kernel_rfl) rfl rfl
              have e33 := pre 6 33 _ (by kernel_rfl) rfl rfl
              have e38 := pre 11 38 _ (by kernel_rfl) rfl rfl
              have e43 := pre 16 43 _ (by kernel_rfl) rfl rfl
              have e44 := pre 17 44 _ (by kernel_rfl) rfl rfl
              clear pre old
              simp only [Vals5.fits, Array.getD_eq_getD_getElem?, List.getElem?_toArray, List.getElem?_cons_zero, List.getElem?_cons_succ, Option.getD_some] at e32 e33 e38 e43 e44
              obtain ⟨q1, q2, q3, q4, q5⟩ := hS
              have hC := press_c h.parts[j] h m gs[j] ls[j] wt W sb.1.1 sb.1.2 sb.2.1 sb.2.2 hx hw0 hw1
              go_simp
              refine hC.mono ?_
              rintro e w' ⟨rfl, hb'⟩
              refine hK _ _ ⟨q1.keep hb', q2.keep hb', q3.keep hb', q4.keep hb', q5.keep hb'⟩ hb' ?_
              exact fits_is _ _
            refine Vals5.Steps.run rfl (Vals5.Stable.is _) ?_ ?_
            · intro a W hS pre old K hK
              have e31 := pre 4 31 _ (by kernel_rfl) rfl rfl
              have e45 := pre 18 45 _ (by kernel_rfl) rfl rfl
              clear pre old
              simp only [Vals5.fits, Array.getD_eq_getD_getElem?, List.getElem?_toArray, List.getElem?_cons_zero, List.getElem?_cons_succ, Option.getD_some] at e31 e45
              obtain ⟨q1, q2, q3, q4, q5⟩ := hS
              have hC := HCA.out W
              have e1 := HFA.out
              go_simp
              refine hC.mono ?_
              rintro e w' ⟨rfl, hb'⟩
              refine hK _ _ ⟨q1.keep hb', q2.keep hb', q3.keep hb', q4.keep hb', q5.keep hb'⟩ hb' ?_
              exact fits_is _ _
            refine Vals5.Steps.run rfl (Vals5.Stable.is _) ?_ ?_
            · intro a W hS pre old K hK
              have e29 := pre 2 29 _ (by kernel_rfl) rfl rfl
              have e46 := pre 19 46 _ (by kernel_rfl) rfl rfl
              clear pre old
              simp only [Vals5.fits, Array.getD_eq_getD_getElem?, List.getElem?_toArray, List.getElem?_cons_zero, List.getElem?_cons_succ, Option.getD_some] at e29 e46
              have E9 := HE9.out
              go_simp
              refine hK _ _ hS (Below.refl _ _) ?_
              exact fits_is _ _
            refine Vals5.Steps.run rfl (Vals5.Stable.is _) ?_ ?_
            · intro a W hS pre old K hK
              have e7 := old 7 _ (by kernel_rfl) rfl
              have e27 := pre 0 27 _ (by kernel_rfl) rfl rfl
              clear pre old
              simp only [Vals5.fits, Array.getD_eq_getD_getElem?, List.getElem?_toArray, List.getElem?_cons_zero, List.getElem?_cons_succ, Option.getD_some] at e7 e27
              go_simp
              refine hK _ _ hS (Below.refl _ _) ?_
              exact fits_is _ _
            exact Vals5.Steps.nil
          case hend =>
          rintro X ⟨hI5, hS5, -, hG5, hT5⟩
          have HI6 := Lib.hid (hI5.set hk3 (cur k (j + 1) k) (by omega) (by omega))
          rw [show (fun i => if i = k then cur k (j + 1) k else cur k j i) = cur k (j + 1) from by funext i; rw [HCUR.out]; by_cases e : i = k <;> simp [e]] at HI6
          have HS6 := Lib.hid (hS5.far (g' := w.heap.size + 1 + 1 + 1) (by have := HNS.out; omega) k (.int .i64 (cur k (j + 1) k)))
          have HG6 := Lib.hid (hG5.far (g' := w.heap.size + 1 + 1 + 1) (by have := HNG.out; omega) k (.int .i64 (cur k (j + 1) k)))
          have HT6 := Lib.hid (hT5.far (g' := w.heap.size + 1 + 1 + 1) (by omega) k (.int .i64 (cur k (j + 1) k)))
          have g0 := hI5.bl.cell k
          have f0 := hI5.bl.frozen k
          rw [r3_get _ hk3] at g0
          clear hI5 hS5 hG5 hT5
          simp only [Vals5.All]
          simp only [List.getLast_cons_cons, List.getLast_singleton]
          simp only [Vals.putAll, List.setIfInBounds_toArray, List.set_cons_zero, List.set_cons_succ]
          intro K hK
          go_simp
          refine hK _ _ ?_
          clear hK K g0 f0
          go_wp2_with fail
          go_roundw
          case rel => exact ⟨j + 1, by omega, by go_num, HI6, HG6, HS6, HT6⟩
          case measure => simp [intOf]; omega
        · obtain rfl : j = h.parts.length := by omega
          have HN : Hid (Bi w h m (w.heap.size + 1 + 1) (w.heap.size + 1 + 1 + 1) (cur (k + 1) 0) wr) := by
            have e : cur k h.parts.length = cur (k + 1) 0 := by
              funext i
              rw [HCUR.out]
              by_cases e1 : i < k
              · simp [e1, show i < k + 1 by omega]
              · by_cases e2 : i = k
                · subst e2; simp [bal]
                · simp [e1, e2, show ¬ i < k + 1 by omega, sm]
            rw [← e]; exact HIj.out
          go_wp2_with fail
          go_roundw
          case rel => exact ⟨k + 1, by omega, by go_num, HN, HGj, HTj⟩
          case measure => simp [intOf]; omega
    · obtain rfl : k = 3 := by omega
      have HBL : Hid (Blk wr (w.heap.size + 1 + 1 + 1) 90 #[.int .i64 (bal h gs ls 0 wt), .int .i64 (bal h gs ls 1 wt), .int .i64 (bal h gs ls 2 wt)]) := by
        have := HIk.out.bl
        rw [HCUR.out] at this
        exact this
      have HRS : Hid (Blk wr (w.heap.size + 1 + 1) 90 #[.int .i64 0, .int .i64 0, .int .i64 0]) := HIk.out.rs
      go_wp2_with (first | (refine wpList_load_row rfl 90 _ rfl (w.heap.size + 1 + 1 + 1) rfl 90 (#[.int .i64 (bal h gs ls 0 wt), .int .i64 (bal h gs ls 1 wt), .int .i64 (bal h gs ls 2 wt)]) (0, 0) _ HBL.out Try.underlying90 rfl (by kernel_rfl) ?_) | (refine wpList_store_row rfl 90 _ _ rfl (w.heap.size + 1 + 1) _ rfl rfl 90 _ HRS.out (by kernel_rfl) rfl (by simp [Value.oneCell']) ?_))
      (refine bodyPost_ret (v := .agg _) ?_ rfl ⟨rfl, ?_⟩; exact (results_cell_row Try.results51 _ _ (w.heap.size + 1 + 1) 90 _ (0, 0) _ rfl (HRS.out.row _) Try.underlying90 rfl (by kernel_rfl)))
      exact (HIk.out.sn.row (by omega) _).1
end Td
end Go.Proofs.Ythdcklonamgpiaa
