import Derived.Test.YthdcklonamgpiaaBal3
/- Ballast: how much heavier a part has to be. -/
namespace Go.Proofs.Ythdcklonamgpiaa
open Go.RowKit
namespace Td
set_option linter.unusedSimpArgs false
set_option linter.unusedVariables false
attribute [local go_sem] Oper.semAt_some
def LdP (h : Hul) (p : Nat) (n : Int) (v : Value) (X : World) : Prop := ∃ m', v = .agg (hV (ldH h p n) m') ∧ HAt X m' (ldH h p n)
theorem LdP.stable (h : Hul) (p : Nat) (n : Int) : Vals5.Stable (.has (LdP h p n)) := fun v w w' ⟨m', e, ha⟩ k => ⟨m', e, ha.keep k⟩
set_option maxRecDepth 100000 in
set_option maxHeartbeats 4000000 in
theorem does1_c (h : Hul) (m : Sl) (p n : Nat) (lo hi : Int) (gH gP gT : Nat) (w : World) (hh : HOk h) (hp : HAt w m h) (hlt : p < h.parts.length) (hn : n ≤ 1000001) (h0 : 0 ≤ lo) (h01 : lo ≤ hi) (h1 : hi ≤ 1000)
    (hH : Blk w gH 24 (hV h m)) (hP : Blk w gP 3 #[.int .i64 (p : Int)]) (hT : Blk w gT 48 #[.int .i64 lo, .int .i64 hi]) :
    Calls Try.prog 65 #[.int .i64 (n : Int), .pointer (some ⟨gH, 0, none⟩), .pointer (some ⟨gP, 0, none⟩), .pointer (some ⟨gT, 0, none⟩)] w fun e w' => e = .returned (.bool (does h p lo hi n)) ∧ Below w.heap.size w w' := by
  unfold does
  go_enter Try.func65, Try.ntmps65
  go_wp2_with fail
  refine Vals6.regionAll (fun X => Since w X ∧ Blk X gH 24 (hV h m) ∧ Blk X gP 3 #[.int .i64 (p : Int)] ∧ Blk X gT 48 #[.int .i64 lo, .int .i64 hi]) [some 6, some 7, some 8, some 9, some 10, some 11, some 12] [.is ?_, .is ?_, .is ?_, .is ?_, .has (LdP h p (n : Int)), .is ?_, .is ?_] (by kernel_rfl) rfl rfl (by kernel_rfl) (by kernel_rfl) (by kernel_rfl) (by kernel_rfl) (by kernel_rfl) (by kernel_rfl) rfl (⟨(Since.refl w).drew, hH.drew, hP.drew, hT.drew⟩) ?hsteps ?hend
  case hsteps =>
    refine Vals5.Steps.run rfl (Vals5.Stable.is _) ?_ ?_
    · intro a W hS pre old K hK
      have e1 := old 1 _ (by kernel_rfl) rfl
      clear pre old
      simp only [Vals5.fits, Array.getD_eq_getD_getElem?, List.getElem?_toArray, List.getElem?_cons_zero, List.getElem?_cons_succ, Option.getD_some] at e1
      have hS9 := hS
      obtain ⟨q1, q2, q3, q4⟩ := hS9
      obtain ⟨c0, c1, c2⟩ := q2.hull
      have d0 := q3.cell 0
      simp only [List.getElem?_toArray, List.getElem?_cons_zero] at d0
      obtain ⟨t0, t1⟩ := q4.span
      go_simp
      refine hK _ _ hS (Below.refl _ _) ?_
      exact fits_is _ _
    refine Vals5.Steps.run rfl (Vals5.Stable.is _) ?_ ?_
    · intro a W hS pre old K hK
      have e6 := pre 0 6 _ (by kernel_rfl) rfl rfl
      clear pre old
      simp only [Vals5.fits, Array.getD_eq_getD_getElem?, List.getElem?_toArray, List.getElem?_cons_zero, List.getElem?_cons_succ, Option.getD_some] at e6
      go_simp
      refine hK _ _ hS (Below.refl _ _) ?_
      exact fits_is _ _
    refine Vals5.Steps.run rfl (Vals5.Stable.is _) ?_ ?_
    · intro a W hS pre old K hK
      have e2 := old 2 _ (by kernel_rfl) rfl
      clear pre old
      simp only [Vals5.fits, Array.getD_eq_getD_getElem?, List.getElem?_toArray, List.getElem?_cons_zero, List.getElem?_cons_succ, Option.getD_some] at e2
      have hS9 := hS
      obtain ⟨q1, q2, q3, q4⟩ := hS9
      obtain ⟨c0, c1, c2⟩ := q2.hull
      have d0 := q3.cell 0
      simp only [List.getElem?_toArray, List.getElem?_cons_zero] at d0
      obtain ⟨t0, t1⟩ := q4.span
      go_simp
      refine hK _ _ hS (Below.refl _ _) ?_
      exact fits_is _ _
    refine Vals5.Steps.run rfl (Vals5.Stable.is _) ?_ ?_
    · intro a W hS pre old K hK
      have e0 := old 0 _ (by kernel_rfl) rfl
      clear pre old
      simp only [Vals5.fits, Array.getD_eq_getD_getElem?, List.getElem?_toArray, List.getElem?_cons_zero, List.getElem?_cons_succ, Option.getD_some] at e0
      go_simp
      refine hK _ _ hS (Below.refl _ _) ?_
      exact fits_is _ _
    refine Vals5.Steps.run rfl (LdP.stable _ _ _) ?_ ?_
    · intro a W hS pre old K hK
      have e7 := pre 1 7 _ (by kernel_rfl) rfl rfl
      have e8 := pre 2 8 _ (by kernel_rfl) rfl rfl
      have e9 := pre 3 9 _ (by kernel_rfl) rfl rfl
      clear pre old
      simp only [Vals5.fits, Array.getD_eq_getD_getElem?, List.getElem?_toArray, List.getElem?_cons_zero, List.getElem?_cons_succ, Option.getD_some] at e7 e8 e9
      obtain ⟨q1, q2, q3, q4⟩ := hS
      have hC := loaded_c h m p (n : Int) W hh (hp.keep q1.1) hlt (by omega) (by omega)
      go_simp
      refine hC.mono ?_
      rintro e w' ⟨⟨m', rfl, hA'⟩, hb'⟩
      exact hK _ _ ⟨q1.keep hb', q2.keep hb', q3.keep hb', q4.keep hb'⟩ hb' ⟨m', rfl, hA'⟩
    refine Vals5.Steps.run rfl (Vals5.Stable.is _) ?_ ?_
    · intro a W hS pre old K hK
      have e3 := old 3 _ (by kernel_rfl) rfl
      clear pre old
      simp only [Vals5.fits, Array.getD_eq_getD_getElem?, List.getElem?_toArray, List.getElem?_cons_zero, List.getElem?_cons_succ, Option.getD_some] at e3
      have hS9 := hS
      obtain ⟨q1, q2, q3, q4⟩ := hS9
      obtain ⟨c0, c1, c2⟩ := q2.hull
      have d0 := q3.cell 0
      simp only [List.getElem?_toArray, List.getElem?_cons_zero] at d0
      obtain ⟨t0, t1⟩ := q4.span
      go_simp
      refine hK _ _ hS (Below.refl _ _) ?_
      exact fits_is _ _
    refine Vals5.Steps.run rfl (Vals5.Stable.is _) ?_ ?_
    · intro a W hS pre old K hK
      have f10 := pre 4 10 _ (by kernel_rfl) rfl rfl
      have e11 := pre 5 11 _ (by kernel_rfl) rfl rfl
      clear pre old
      simp only [Vals5.fits, Array.getD_eq_getD_getElem?, List.getElem?_toArray, List.getElem?_cons_zero, List.getElem?_cons_succ, Option.getD_some] at e11
      obtain ⟨q1, q2, q3, q4⟩ := hS
      obtain ⟨m', hv, hA'⟩ := f10
      simp only [Array.getD_eq_getD_getElem?] at hv
      have hC := through_c (ldH h p (n : Int)) m' lo hi W (ldH_bk hh hlt (by omega) (by omega)) hA' h0 h01 h1
      go_simp
      refine hC.mono ?_
      rintro e w' ⟨rfl, hb'⟩
      refine hK _ _ ⟨q1.keep hb', q2.keep hb', q3.keep hb', q4.keep hb'⟩ hb' ?_
      exact fits_is _ _
    exact Vals5.Steps.nil
  case hend =>
    rintro Y ⟨hs5, -⟩
    simp only [Vals5.All]
    simp only [List.getLast_cons_cons, List.getLast_singleton]
    rintro v10 -
    simp only [Vals.putAll, List.setIfInBounds_toArray, List.set_cons_zero, List.set_cons_succ]
    intro K hK
    go_simp
    refine hK _ _ ?_
    clear hK K
    go_wp2_with fail
    go_ret
    exact ⟨rfl, hs5.1⟩
set_option maxRecDepth 100000 in
set_option maxHeartbeats 4000000 in
theorem Ballast_c (h : Hul) (m : Sl) (p lo hi : Int) (w : World) (hp : HAt w m h) :
    Calls Try.prog 27 #[.agg (hV h m), .int .i64 p, .agg #[.int .i64 lo, .int .i64 hi]] w fun e w' => e = .returned (.tuple #[.int .i64 (ballastA h p lo hi).1, .int .i64 (ballastA h p lo hi).2]) ∧ Below w.heap.size w w' := by
  obtain ⟨E, hE⟩ : ∃ E, ballastA h p lo hi = E := ⟨_, rfl⟩
  rw [hE]
  have hs0 := (((Since.refl w).alloc (.cells (hV h m) 24)).alloc (.cells #[.int .i64 p] 3)).alloc (.cells #[.int .i64 lo, .int .i64 hi] 48)
  have HH := Lib.hid (((Blk.new w 24 (hV h m)).alloc (.cells #[.int .i64 p] 3)).alloc (.cells #[.int .i64 lo, .int .i64 hi] 48))
  have HP := Lib.hid ((Blk.new1 w (.cells (hV h m) 24) 3 #[.int .i64 p]).alloc (.cells #[.int .i64 lo, .int .i64 hi] 48))
  have HS := Lib.hid (Blk.new2 w (.cells (hV h m) 24) (.cells #[.int .i64 p] 3) 48 #[.int .i64 lo, .int .i64 hi])
  obtain ⟨c0, c1, c2⟩ := HH.out.hull
  go_enter Try.func27, Try.ntmps27
  go_wp2_with fail
  refine (check_c h m _ (hp.keep hs0.1)).mono ?_
  rintro e w1 ⟨rfl, hb1⟩
  have hs1 := hs0.keep hb1
  have HH1 := Lib.hid (HH.out.keep hb1)
  have HP1 := Lib.hid (HP.out.keep hb1)
  have HS1 := Lib.hid (HS.out.keep hb1)
  clear c0 c1 c2 HH HP HS
  by_cases hc : (chk h).2.2 = 0
  · have hh := chk_ok hc
    have hn10 := hh.n10
    have HC := Lib.hid hc
    rw [hc]
    clear hc
    obtain ⟨c0, c1, c2⟩ := HH1.out.hull
    have d0 := HP1.out.cell 0
    simp only [List.getElem?_toArray, List.getElem?_cons_zero] at d0
    have e1 : IntKind.i64.wrap ((h.parts.length : Int) - 1) = (h.parts.length : Int) - 1 := IntWalk.i64_in _ (by omega)
    go_wp2_with fail
    refine (within_c _ _ _ _ _ _ (Blk.new _ _ _)).mono ?_
    rintro e w2 ⟨rfl, hb2⟩
    have hs2 := (hs1.alloc _).keep hb2
    have HH2 := Lib.hid ((HH1.out.alloc _).keep hb2)
    have HP2 := Lib.hid ((HP1.out.alloc _).keep hb2)
    have HS2 := Lib.hid ((HS1.out.alloc _).keep hb2)
    clear c0 c1 c2 d0 e1 HH1 HP1 HS1
    rcases Bool.eq_false_or_eq_true (wi 0 ((h.parts.length : Int) - 1) p) with h1 | h1
    · have HI := Lib.hid h1
      rw [h1]
      obtain ⟨hp0, hp1⟩ := wi_iff.1 h1
      clear h1
      obtain ⟨q, hq⟩ : ∃ q : Nat, p.toNat = q := ⟨_, rfl⟩
      have HPQ := Lib.hid hq
      have hpq : p = (q : Int) := by omega
      have hlt : q < h.parts.length := by omega
      obtain ⟨ad, hA, z0, z1, -⟩ := hp.ps.get hlt
      have HAD := Lib.hid hA
      have HZ1 := Lib.hid z1
      have HQ : Hid (p = (q : Int)) := hpq
      clear hA z0 z1 hq hpq
      go_wp2_with fail
      refine Vals6.regionAll (fun X => Since w X ∧ Blk X w.heap.size 24 (hV h m) ∧ Blk X (w.heap.size + 1) 3 #[.int .i64 p] ∧ Blk X (w.heap.size + 1 + 1) 48 #[.int .i64 lo, .int .i64 hi]) [some 31, some 32, some 33, some 34, some 35, some 36, some 37, some 38, some 39, some 40, some 41, some 42] [.is ?_, .is ?_, .is ?_, .is ?_, .is ?_, .is ?_, .is ?_, .is ?_, .is ?_, .is ?_, .has (NewI h.parts[q].pt), .is ?_] (by kernel_rfl) rfl rfl (by kernel_rfl) (by kernel_rfl) (by kernel_rfl) (by kernel_rfl) (by kernel_rfl) (by kernel_rfl) rfl (⟨hs2.drew, HH2.out.drew, HP2.out.drew, HS2.out.drew⟩) ?hsteps ?hend
      case hsteps =>
        refine Vals5.Steps.run rfl (Vals5.Stable.is _) ?_ ?_
        · intro a W hS pre old K hK
          have e3 := old 3 _ (by kernel_rfl) rfl
          clear pre old
          simp only [Vals5.fits, Array.getD_eq_getD_getElem?, List.getElem?_toArray, List.getElem?_cons_zero, List.getElem?_cons_succ, Option.getD_some] at e3
          go_simp
          refine hK _ _ hS (Below.refl _ _) ?_
          exact fits_is _ _
        refine Vals5.Steps.run rfl (Vals5.Stable.is _) ?_ ?_
        · intro a W hS pre old K hK
          have e31 := pre 0 31 _ (by kernel_rfl) rfl rfl
          clear pre old
          simp only [Vals5.fits, Array.getD_eq_getD_getElem?, List.getElem?_toArray, List.getElem?_cons_zero, List.getElem?_cons_succ, Option.getD_some] at e31
          have hS9 := hS
          obtain ⟨q1, q2, q3, q4⟩ := hS9
          obtain ⟨c0, c1, c2⟩ := q2.hull
          have d0 := q3.cell 0
          simp only [List.getElem?_toArray, List.getElem?_cons_zero] at d0
          have z1 := keep_cell q1.1 HZ1.out
          go_simp
          refine hK _ _ hS (Below.refl _ _) ?_
          exact fits_is _ _
        refine Vals5.Steps.run rfl (Vals5.Stable.is _) ?_ ?_
        · intro a W hS pre old K hK
          have e3 := old 3 _ (by kernel_rfl) rfl
          clear pre old
          simp only [Vals5.fits, Array.getD_eq_getD_getElem?, List.getElem?_toArray, List.getElem?_cons_zero, List.getElem?_cons_succ, Option.getD_some] at e3
          go_simp
          refine hK _ _ hS (Below.refl _ _) ?_
          exact fits_is _ _
        refine Vals5.Steps.run rfl (Vals5.Stable.is _) ?_ ?_
        · intro a W hS pre old K hK
          have e33 := pre 2 33 _ (by kernel_rfl) rfl rfl
          clear pre old
          simp only [Vals5.fits, Array.getD_eq_getD_getElem?, List.getElem?_toArray, List.getElem?_cons_zero, List.getElem?_cons_succ, Option.getD_some] at e33
          have hS9 := hS
          obtain ⟨q1, q2, q3, q4⟩ := hS9
          obtain ⟨c0, c1, c2⟩ := q2.hull
          have d0 := q3.cell 0
          simp only [List.getElem?_toArray, List.getElem?_cons_zero] at d0
          have z1 := keep_cell q1.1 HZ1.out
          go_simp
          refine hK _ _ hS (Below.refl _ _) ?_
          exact fits_is _ _
        refine Vals5.Steps.run rfl (Vals5.Stable.is _) ?_ ?_
        · intro a W hS pre old K hK
          have e3 := old 3 _ (by kernel_rfl) rfl
          clear pre old
          simp only [Vals5.fits, Array.getD_eq_getD_getElem?, List.getElem?_toArray, List.getElem?_cons_zero, List.getElem?_cons_succ, Option.getD_some] at e3
          go_simp
          refine hK _ _ hS (Below.refl _ _) ?_
          exact fits_is _ _
        refine Vals5.Steps.run rfl (Vals5.Stable.is _) ?_ ?_
        · intro a W hS pre old K hK
          have e35 := pre 4 35 _ (by kernel_rfl) rfl rfl
          clear pre old
          simp only [Vals5.fits, Array.getD_eq_getD_getElem?, List.getElem?_toArray, List.getElem?_cons_zero, List.getElem?_cons_succ, Option.getD_some] at e35
          have hS9 := hS
          obtain ⟨q1, q2, q3, q4⟩ := hS9
          obtain ⟨c0, c1, c2⟩ := q2.hull
          have d0 := q3.cell 0
          simp only [List.getElem?_toArray, List.getElem?_cons_zero] at d0
          have z1 := keep_cell q1.1 HZ1.out
          go_simp
          refine hK _ _ hS (Below.refl _ _) ?_
          exact fits_is _ _
        refine Vals5.Steps.run rfl (Vals5.Stable.is _) ?_ ?_
        · intro a W hS pre old K hK
          have e4 := old 4 _ (by kernel_rfl) rfl
          clear pre old
          simp only [Vals5.fits, Array.getD_eq_getD_getElem?, List.getElem?_toArray, List.getElem?_cons_zero, List.getElem?_cons_succ, Option.getD_some] at e4
          have hS9 := hS
          obtain ⟨q1, q2, q3, q4⟩ := hS9
          obtain ⟨c0, c1, c2⟩ := q2.hull
          have d0 := q3.cell 0
          simp only [List.getElem?_toArray, List.getElem?_cons_zero] at d0
          have z1 := keep_cell q1.1 HZ1.out
          go_simp
          refine hK _ _ hS (Below.refl _ _) ?_
          exact fits_is _ _
        refine Vals5.Steps.run rfl (Vals5.Stable.is _) ?_ ?_
        · intro a W hS pre old K hK
          have e36 := pre 5 36 _ (by kernel_rfl) rfl rfl
          have e37 := pre 6 37 _ (by kernel_rfl) rfl rfl
          clear pre old
          simp only [Vals5.fits, Array.getD_eq_getD_getElem?, List.getElem?_toArray, List.getElem?_cons_zero, List.getElem?_cons_succ, Option.getD_some] at e36 e37
          have ha := HAD.out
          have hkc := HQ.out
          go_simp
          refine hK _ _ hS (Below.refl _ _) ?_
          exact fits_is _ _
        refine Vals5.Steps.run rfl (Vals5.Stable.is _) ?_ ?_
        · intro a W hS pre old K hK
          have e38 := pre 7 38 _ (by kernel_rfl) rfl rfl
          clear pre old
          simp only [Vals5.fits, Array.getD_eq_getD_getElem?, List.getElem?_toArray, List.getElem?_cons_zero, List.getElem?_cons_succ, Option.getD_some] at e38
          go_simp
          refine hK _ _ hS (Below.refl _ _) ?_
          exact fits_is _ _
        refine Vals5.Steps.run rfl (Vals5.Stable.is _) ?_ ?_
        · intro a W hS pre old K hK
          have e39 := pre 8 39 _ (by kernel_rfl) rfl rfl
          clear pre old
          simp only [Vals5.fits, Array.getD_eq_getD_getElem?, List.getElem?_toArray, List.getElem?_cons_zero, List.getElem?_cons_succ, Option.getD_some] at e39
          have hS9 := hS
          obtain ⟨q1, q2, q3, q4⟩ := hS9
          obtain ⟨c0, c1, c2⟩ := q2.hull
          have d0 := q3.cell 0
          simp only [List.getElem?_toArray, List.getElem?_cons_zero] at d0
          have z1 := keep_cell q1.1 HZ1.out
          go_simp
          refine hK _ _ hS (Below.refl _ _) ?_
          exact fits_is _ _
        refine Vals5.Steps.run rfl (NewI.stable _) ?_ ?_
        · intro a W hS pre old K hK
          have e40 := pre 9 40 _ (by kernel_rfl) rfl rfl
          clear pre old
          simp only [Vals5.fits, Array.getD_eq_getD_getElem?, List.getElem?_toArray, List.getElem?_cons_zero, List.getElem?_cons_succ, Option.getD_some] at e40
          obtain ⟨q1, q2, q3, q4⟩ := hS
          go_simp
          exact hK _ _ ⟨q1.alloc _, q2.alloc _, q3.alloc _, q4.alloc _⟩ ((Below.refl _ _).alloc (Nat.le_refl _) _) ⟨_, rfl, Blk.new _ _ _⟩
        refine Vals5.Steps.run rfl (Vals5.Stable.is _) ?_ ?_
        · intro a W hS pre old K hK
          have e32 := pre 1 32 _ (by kernel_rfl) rfl rfl
          have e34 := pre 3 34 _ (by kernel_rfl) rfl rfl
          have f41 := pre 10 41 _ (by kernel_rfl) rfl rfl
          clear pre old
          simp only [Vals5.fits, Array.getD_eq_getD_getElem?, List.getElem?_toArray, List.getElem?_cons_zero, List.getElem?_cons_succ, Option.getD_some] at e32 e34
          obtain ⟨q1, q2, q3, q4⟩ := hS
          obtain ⟨gn, hv, hbn⟩ := f41
          simp only [Array.getD_eq_getD_getElem?] at hv
          go_simp
          refine (within_c _ _ _ _ _ _ hbn).mono ?_
          rintro e w' ⟨rfl, hb'⟩
          refine hK _ _ ⟨q1.keep hb', q2.keep hb', q3.keep hb', q4.keep hb'⟩ hb' ?_
          exact fits_is _ _
        exact Vals5.Steps.nil
      case hend =>
      rintro Y ⟨hs5, HH5, HP5, HS5⟩
      simp only [Vals5.All]
      simp only [List.getLast_cons_cons, List.getLast_singleton]
      rintro v41 -
      simp only [Vals.putAll, List.setIfInBounds_toArray, List.set_cons_zero, List.set_cons_succ]
      intro K hK
      have HHy := Lib.hid HH5
      have HPy := Lib.hid HP5
      have HSy := Lib.hid HS5
      clear HH5 HP5 HS5 HH2 HP2 HS2 hs2
      rcases Bool.eq_false_or_eq_true (wi h.aft h.fore h.parts[q].pt) with h1 | h1
      · have HA : Hid (wi h.aft h.fore (pa h.parts p.toNat).pt = true) := by show _ = _; rw [HPQ.out, pa_at hlt]; exact h1
        rw [h1]
        obtain ⟨ha0, ha1⟩ := wi_iff.1 h1
        clear h1
        go_simp
        refine hK _ _ ?_
        clear hK K
        obtain ⟨t0, t1⟩ := HSy.out.span
        go_wp2_with fail
        refine (tideFault_c lo hi _).mono ?_
        rintro e w6 ⟨rfl, hb6⟩
        have hs6 := hs5.keep hb6
        have HH6 := Lib.hid (HHy.out.keep hb6)
        have HP6 := Lib.hid (HPy.out.keep hb6)
        have HS6 := Lib.hid (HSy.out.keep hb6)
        clear t0 t1
        by_cases ht : tideE lo hi = 0
        · have hE2 : E = if 1000000 < blst h q lo hi then (0, 9) else ((blst h q lo hi : Int), 0) := by
            have hB : ballE h p lo hi = 0 := by unfold ballE; rw [HC.out, HI.out, HA.out, ht]; simp
            rw [← hE]; unfold ballastA; rw [hB, HPQ.out]; simp
          obtain ⟨h0, h01, h1⟩ := tideE_ok.1 ht
          rw [ht]
          clear ht
          have HSR := Lib.hid (search_c 1000001 65 #[.pointer (some ⟨w.heap.size, 0, none⟩), .pointer (some ⟨w.heap.size + 1, 0, none⟩), .pointer (some ⟨w.heap.size + 1 + 1, 0, none⟩)] (does h q lo hi) w6 (by omega) (fun i j hij hd => does_mono hlt (by rw [pa_at hlt]; exact ha0) (by rw [pa_at hlt]; exact ha1) hij hd) (enters_of Try.func65 (by kernel_rfl) rfl)
            (fun i W hi9 hW => does1_c h m q i lo hi _ _ _ W hh (hp.keep (hs6.keep hW).1) hlt (by omega) h0 h01 h1 (HH6.out.keep hW) (by have := HP6.out.keep hW; rw [HQ.out] at this; exact this) (HS6.out.keep hW)))
          go_wp2_with fail
          refine HSR.out.mono ?_
          rintro e w7 ⟨rfl, hb7⟩
          have hs7 := hs6.keep hb7
          unfold blst at hE2
          obtain ⟨r, hr⟩ : ∃ r, frst (does h q lo hi) 1000001 = r := ⟨_, rfl⟩
          rw [hr] at hE2 ⊢
          clear hE
          by_cases hbig : 1000000 < r
          · rw [if_pos hbig] at hE2
            subst hE2
            have hb' : (1000000 : Int) < (r : Int) := by omega
            clear hbig hr HSR
            go_wp2_with fail
            go_ret2
            exact ⟨rfl, hs7.1⟩
          · rw [if_neg hbig] at hE2
            subst hE2
            have hb' : ¬ (1000000 : Int) < (r : Int) := by omega
            clear hbig hr HSR
            go_wp2_with fail
            go_ret2
            exact ⟨rfl, hs7.1⟩
        · have hE2 : E = (0, tideE lo hi) := by rw [← hE]; simp only [ballastA, ballE, HC.out, HI.out, HA.out]; simp [ht]
          clear hE
          subst hE2
          have ht' : (tideE lo hi != 0) = true := by simpa using ht
          clear ht
          go_wp2_with fail
          go_ret2
          exact ⟨rfl, hs6.1⟩
      · have hE2 : E = (0, 2) := by rw [← hE]; simp only [ballastA, ballE, HC.out, HI.out]; rw [HPQ.out, pa_at hlt, h1]; simp
        rw [h1]
        clear h1 hE
        subst hE2
        go_simp
        refine hK _ _ ?_
        clear hK K
        go_wp2_with fail
        go_ret2
        exact ⟨rfl, hs5.1⟩
    · have hE2 : E = (0, 4) := by rw [← hE]; simp [ballastA, ballE, HC.out, h1]
      rw [h1]
      clear h1 hE
      subst hE2
      go_wp2_with fail
      go_ret2
      exact ⟨rfl, hs2.1⟩
  · have hE2 : E = (0, (chk h).2.2) := by rw [← hE]; simp [ballastA, ballE, hc]
    clear hE
    subst hE2
    have hc' : ((chk h).2.2 != 0) = true := by simpa using hc
    clear hc
    go_wp2_with fail
    go_ret2
    exact ⟨rfl, hs1.1⟩
end Td
end Go.Proofs.Ythdcklonamgpiaa
