import Derived.Test.YthdcklonamgpiaaHvr
/- The reference's ballast. -/
namespace Go.Proofs.Ythdcklonamgpiaa
open Go.RowKit
namespace Td
set_option linter.unusedSimpArgs false
set_option linter.unusedVariables false
attribute [local go_sem] Oper.semAt_some
theorem does_fall (h : Hul) (p : Nat) (lo hi : Int) (n : Nat) : does h p lo hi n = ((fall (ldH h p n) lo hi).2 == 0) := rfl
set_option maxRecDepth 100000 in
set_option maxHeartbeats 8000000 in
theorem rballast_c (h : Hul) (m : Sl) (p lo hi : Int) (w : World) (hp : HAt w m h) :
    Calls Try.prog 28 #[.agg (hV h m), .int .i64 p, .agg (sV2 lo hi)] w fun e w' => e = .returned (.tuple #[.int .i64 (ballastA h p lo hi).1, .int .i64 (ballastA h p lo hi).2]) ∧ Below w.heap.size w w' := by
  obtain ⟨E, hE⟩ : ∃ E, ballastA h p lo hi = E := ⟨_, rfl⟩
  rw [hE]
  have hs := ((Since.refl w).alloc (.cells (hV h m) 24)).alloc (.cells (sV2 lo hi) 48)
  have HB := Lib.hid ((Blk.new w 24 (hV h m)).alloc (.cells (sV2 lo hi) 48))
  have HX := Lib.hid (Blk.new1 w (.cells (hV h m) 24) 48 (sV2 lo hi))
  obtain ⟨c0, c1, c2⟩ := HB.out.hull
  go_enter Try.func28, Try.ntmps28
  go_wp2_with fail
  refine (rcheck_c h m _ (hp.keep hs.1)).mono ?_
  rintro e w1 ⟨rfl, hb⟩
  replace hs := hs.keep hb
  replace HB := Lib.hid (HB.out.keep hb)
  replace HX := Lib.hid (HX.out.keep hb)
  clear hb c0 c1 c2
  by_cases hc : (chk h).2.2 = 0
  · have hh := chk_ok hc
    have hn10 := hh.n10
    have HC := Lib.hid hc
    rw [hc]
    clear hc
    obtain ⟨c0, c1, c2⟩ := HB.out.hull
    have e1 : IntKind.i64.wrap ((h.parts.length : Int) - 1) = (h.parts.length : Int) - 1 := IntWalk.i64_in _ (by omega)
    go_wp2_with fail
    refine (rin_c 0 ((h.parts.length : Int) - 1) p _).mono ?_
    rintro e w2 ⟨rfl, rfl⟩
    rcases Bool.eq_false_or_eq_true (wi 0 ((h.parts.length : Int) - 1) p) with h1 | h1
    · have HI := Lib.hid h1
      rw [h1]
      obtain ⟨hp0, hp1⟩ := wi_iff.1 h1
      clear h1
      obtain ⟨q, hq⟩ : ∃ q : Nat, p.toNat = q := ⟨_, rfl⟩
      have HPQ := Lib.hid hq
      have hpq : p = (q : Int) := by omega
      have hlt : q < h.parts.length := by omega
      obtain ⟨ad, hA, z0, z1, -⟩ := hp.ps.get hlt
      have HAD := Lib.hid hA
      have HZ1 := Lib.hid z1
      have HQ : Hid (p = (q : Int)) := hpq
      obtain ⟨E2, hE2⟩ : ∃ E2, wi h.aft h.fore h.parts[q].pt = E2 := ⟨_, rfl⟩
      have HI2 := Lib.hid hE2
      clear hA z0 z1 hq hpq hE2 e1
      go_wp2_with fail
      clear c0 c1 c2
      refine Vals6.regionAll (fun X => Since w X ∧ Blk X w.heap.size 24 (hV h m) ∧ Blk X (w.heap.size + 1) 48 (sV2 lo hi)) [some 33, some 34, some 35, some 36, some 37, some 38, some 39, some 40, some 41, some 42, some 43, some 44, some 45, some 46, some 47] [.is ?_, .is (.bool true), .is (.bool true), .is ?_, .is ?_, .is ?_, .is ?_, .is ?_, .is ?_, .is ?_, .is ?_, .is ?_, .is ?_, .is (.bool E2), .is ?_] (by kernel_rfl) rfl rfl (by kernel_rfl) (by kernel_rfl) (by kernel_rfl) (by kernel_rfl) (by kernel_rfl) (by kernel_rfl) rfl (⟨hs.drew, HB.out.drew, HX.out.drew⟩) ?hsteps ?hend
      case hsteps =>
        refine Vals5.Steps.run rfl (Vals5.Stable.is _) ?_ ?_
        · intro a W hS pre old K hK
          have e10 := old 10 _ (by kernel_rfl) rfl
          clear pre old
          simp only [Vals5.fits, Array.getD_eq_getD_getElem?, List.getElem?_toArray, List.getElem?_cons_zero, List.getElem?_cons_succ, Option.getD_some] at e10
          go_simp
          refine hK _ _ hS (Below.refl _ _) ?_
          exact fits_is _ _
        refine Vals5.Steps.run rfl (Vals5.Stable.is _) ?_ ?_
        · intro a W hS pre old K hK
          have e33 := pre 0 33 _ (by kernel_rfl) rfl rfl
          clear pre old
          simp only [Vals5.fits, Array.getD_eq_getD_getElem?, List.getElem?_toArray, List.getElem?_cons_zero, List.getElem?_cons_succ, Option.getD_some] at e33
          go_simp
          refine hK _ _ hS (Below.refl _ _) ?_
          exact fits_is _ _
        refine Vals5.Steps.run rfl (Vals5.Stable.is _) ?_ ?_
        · intro a W hS pre old K hK
          have e34 := pre 1 34 _ (by kernel_rfl) rfl rfl
          clear pre old
          simp only [Vals5.fits, Array.getD_eq_getD_getElem?, List.getElem?_toArray, List.getElem?_cons_zero, List.getElem?_cons_succ, Option.getD_some] at e34
          go_simp
          refine hK _ _ hS (Below.refl _ _) ?_
          exact fits_is _ _
        refine Vals5.Steps.run rfl (Vals5.Stable.is _) ?_ ?_
        · intro a W hS pre old K hK
          have e3 := old 3 _ (by kernel_rfl) rfl
          clear pre old
          simp only [Vals5.fits, Array.getD_eq_getD_getElem?, List.getElem?_toArray, List.getElem?_cons_zero, List.getElem?_cons_succ, Option.getD_some] at e3
          go_simp
          refine hK _ _ hS (Below.refl _ _) ?_
          exact fits_is _ _
        refine Vals5.Steps.run rfl (Vals5.Stable.is _) ?_ ?_
        · intro a W hS pre old K hK
          have e36 := pre 3 36 _ (by kernel_rfl) rfl rfl
          clear pre old
          simp only [Vals5.fits, Array.getD_eq_getD_getElem?, List.getElem?_toArray, List.getElem?_cons_zero, List.getElem?_cons_succ, Option.getD_some] at e36
          have hS9 := hS
          obtain ⟨r1, r2, r3⟩ := hS9
          obtain ⟨c0, c1, c2⟩ := r2.hull
          obtain ⟨t0, t1⟩ := r3.span
          go_simp
          refine hK _ _ hS (Below.refl _ _) ?_
          exact fits_is _ _
        refine Vals5.Steps.run rfl (Vals5.Stable.is _) ?_ ?_
        · intro a W hS pre old K hK
          have e1 := old 1 _ (by kernel_rfl) rfl
          clear pre old
          simp only [Vals5.fits, Array.getD_eq_getD_getElem?, List.getElem?_toArray, List.getElem?_cons_zero, List.getElem?_cons_succ, Option.getD_some] at e1
          go_simp
          refine hK _ _ hS (Below.refl _ _) ?_
          exact fits_is _ _
        refine Vals5.Steps.run rfl (Vals5.Stable.is _) ?_ ?_
        · intro a W hS pre old K hK
          have e37 := pre 4 37 _ (by kernel_rfl) rfl rfl
          have e38 := pre 5 38 _ (by kernel_rfl) rfl rfl
          clear pre old
          simp only [Vals5.fits, Array.getD_eq_getD_getElem?, List.getElem?_toArray, List.getElem?_cons_zero, List.getElem?_cons_succ, Option.getD_some] at e37 e38
          have ha := HAD.out
          have hkc := HQ.out
          obtain ⟨r1, r2, r3⟩ := hS
          go_simp
          refine hK _ _ ⟨r1, r2, r3⟩ (Below.refl _ _) ?_
          exact fits_is _ _
        refine Vals5.Steps.run rfl (Vals5.Stable.is _) ?_ ?_
        · intro a W hS pre old K hK
          have e39 := pre 6 39 _ (by kernel_rfl) rfl rfl
          clear pre old
          simp only [Vals5.fits, Array.getD_eq_getD_getElem?, List.getElem?_toArray, List.getElem?_cons_zero, List.getElem?_cons_succ, Option.getD_some] at e39
          go_simp
          refine hK _ _ hS (Below.refl _ _) ?_
          exact fits_is _ _
        refine Vals5.Steps.run rfl (Vals5.Stable.is _) ?_ ?_
        · intro a W hS pre old K hK
          have e40 := pre 7 40 _ (by kernel_rfl) rfl rfl
          clear pre old
          simp only [Vals5.fits, Array.getD_eq_getD_getElem?, List.getElem?_toArray, List.getElem?_cons_zero, List.getElem?_cons_succ, Option.getD_some] at e40
          obtain ⟨r1, r2, r3⟩ := hS
          have z1 := keep_cell r1.1 HZ1.out
          go_simp
          refine hK _ _ ⟨r1, r2, r3⟩ (Below.refl _ _) ?_
          exact fits_is _ _
        refine Vals5.Steps.run rfl (Vals5.Stable.is _) ?_ ?_
        · intro a W hS pre old K hK
          have e3 := old 3 _ (by kernel_rfl) rfl
          clear pre old
          simp only [Vals5.fits, Array.getD_eq_getD_getElem?, List.getElem?_toArray, List.getElem?_cons_zero, List.getElem?_cons_succ, Option.getD_some] at e3
          go_simp
          refine hK _ _ hS (Below.refl _ _) ?_
          exact fits_is _ _
        refine Vals5.Steps.run rfl (Vals5.Stable.is _) ?_ ?_
        · intro a W hS pre old K hK
          have e42 := pre 9 42 _ (by kernel_rfl) rfl rfl
          clear pre old
          simp only [Vals5.fits, Array.getD_eq_getD_getElem?, List.getElem?_toArray, List.getElem?_cons_zero, List.getElem?_cons_succ, Option.getD_some] at e42
          have hS9 := hS
          obtain ⟨r1, r2, r3⟩ := hS9
          obtain ⟨c0, c1, c2⟩ := r2.hull
          obtain ⟨t0, t1⟩ := r3.span
          go_simp
          refine hK _ _ hS (Below.refl _ _) ?_
          exact fits_is _ _
        refine Vals5.Steps.run rfl (Vals5.Stable.is _) ?_ ?_
        · intro a W hS pre old K hK
          have e3 := old 3 _ (by kernel_rfl) rfl
          clear pre old
          simp only [Vals5.fits, Array.getD_eq_getD_getElem?, List.getElem?_toArray, List.getElem?_cons_zero, List.getElem?_cons_succ, Option.getD_some] at e3
          go_simp
          refine hK _ _ hS (Below.refl _ _) ?_
          exact fits_is _ _
        refine Vals5.Steps.run rfl (Vals5.Stable.is _) ?_ ?_
        · intro a W hS pre old K hK
          have e44 := pre 11 44 _ (by kernel_rfl) rfl rfl
          clear pre old
          simp only [Vals5.fits, Array.getD_eq_getD_getElem?, List.getElem?_toArray, List.getElem?_cons_zero, List.getElem?_cons_succ, Option.getD_some] at e44
          have hS9 := hS
          obtain ⟨r1, r2, r3⟩ := hS9
          obtain ⟨c0, c1, c2⟩ := r2.hull
          obtain ⟨t0, t1⟩ := r3.span
          go_simp
          refine hK _ _ hS (Below.refl _ _) ?_
          exact fits_is _ _
        refine Vals5.Steps.run rfl (Vals5.Stable.is _) ?_ ?_
        · intro a W hS pre old K hK
          have e41 := pre 8 41 _ (by kernel_rfl) rfl rfl
          have e43 := pre 10 43 _ (by kernel_rfl) rfl rfl
          have e45 := pre 12 45 _ (by kernel_rfl) rfl rfl
          clear pre old
          simp only [Vals5.fits, Array.getD_eq_getD_getElem?, List.getElem?_toArray, List.getElem?_cons_zero, List.getElem?_cons_succ, Option.getD_some] at e41 e43 e45
          have hC := rin_c h.aft h.fore h.parts[q].pt W
          rw [HI2.out] at hC
          go_simp
          refine hC.mono ?_
          rintro e w' ⟨rfl, rfl⟩
          refine hK _ _ hS (Below.refl _ _) ?_
          exact fits_is _ _
        refine Vals5.Steps.run rfl (Vals5.Stable.is _) ?_ ?_
        · intro a W hS pre old K hK
          have e46 := pre 13 46 _ (by kernel_rfl) rfl rfl
          clear pre old
          simp only [Vals5.fits, Array.getD_eq_getD_getElem?, List.getElem?_toArray, List.getElem?_cons_zero, List.getElem?_cons_succ, Option.getD_some] at e46
          go_simp
          refine hK _ _ hS (Below.refl _ _) ?_
          exact fits_is _ _
        exact Vals5.Steps.nil
      case hend =>
        rintro X ⟨hs2, HB2, HX2⟩
        simp only [Vals5.All, List.getLast_cons_cons, List.getLast_singleton]
        simp only [Vals.putAll, List.setIfInBounds_toArray, List.set_cons_zero, List.set_cons_succ]
        intro K hK
        replace hs := hs2
        replace HB := Lib.hid HB2
        replace HX := Lib.hid HX2
        clear hs2 HB2 HX2
        cases E2
        · have hE2 : E = (0, 2) := by rw [← hE]; simp only [ballastA, ballE, HC.out, HI.out]; rw [HPQ.out, pa_at hlt, HI2.out]; simp
          clear hE
          subst hE2
          go_simp
          refine hK _ _ ?_
          clear hK K
          obtain ⟨t0, t1⟩ := HX.out.span
          go_wp2_with fail
          refine (tided_c 2 lo hi _).mono ?_
          rintro e w3 ⟨rfl, hb⟩
          replace hs := hs.keep hb
          clear hb t0 t1
          rw [show tidE 2 lo hi = 2 from rfl]
          go_wp2_with fail
          go_ret2
          exact ⟨rfl, hs.1⟩
        · go_simp
          refine hK _ _ ?_
          clear hK K
          obtain ⟨t0, t1⟩ := HX.out.span
          go_wp2_with fail
          refine (tided_c 0 lo hi _).mono ?_
          rintro e w3 ⟨rfl, hb⟩
          replace hs := hs.keep hb
          replace HB := Lib.hid (HB.out.keep hb)
          replace HX := Lib.hid (HX.out.keep hb)
          clear hb t0 t1
          rw [show tidE 0 lo hi = tideE lo hi from rfl]
          have HA : Hid (wi h.aft h.fore (pa h.parts p.toNat).pt = true) := by show _ = _; rw [HPQ.out, pa_at hlt]; exact HI2.out
          have ha2 := wi_iff.1 HI2.out
          by_cases ht : tideE lo hi = 0
          · have hE2 : E = if 1000000 < blst h q lo hi then (0, 9) else ((blst h q lo hi : Int), 0) := by
              have hB : ballE h p lo hi = 0 := by unfold ballE; rw [HC.out, HI.out, HA.out, ht]; simp
              rw [← hE]; unfold ballastA; rw [hB, HPQ.out]; simp
            obtain ⟨h0, h01, h1⟩ := tideE_ok.1 ht
            rw [ht]
            have HE2 := Lib.hid hE2
            have HM : Hid (∀ i j : Nat, i ≤ j → does h q lo hi i = true → does h q lo hi j = true) := fun i j hij hd => does_mono hlt (by rw [pa_at hlt]; exact ha2.1) (by rw [pa_at hlt]; exact ha2.2) hij hd
            clear ht hE hE2
            go_wp2_with fail
            go_loopw [11, 12] (fun lv hv wr => ∃ low high : Nat, low ≤ high ∧ high ≤ 1000001 ∧ lv = .int .i64 low ∧ hv = .int .i64 high ∧ Hid (Since w wr) ∧ Hid (Blk wr w.heap.size 24 (hV h m)) ∧ Hid (Blk wr (w.heap.size + 1) 48 (sV2 lo hi)) ∧ Hid (∀ j, j < low → does h q lo hi j = false) ∧ Hid (high < 1000001 → does h q lo hi high = true)) (fun lv hv _ => (intOf hv).toNat - (intOf lv).toNat)
            case atStart => exact ⟨0, 1000001, by omega, by omega, rfl, rfl, hs, HB, HX, fun j hj => absurd hj (by omega), fun k => absurd k (by omega)⟩
            case round =>
              clear hs HB HX
              obtain ⟨low, high, hlh, hh1, rfl, rfl, hs, HB, HX, HL, HH⟩ := hrel
              replace hs : Since w wr := hs.out
              by_cases hlt2 : low < high
              · obtain ⟨mid, hmid⟩ : ∃ mid, (low + high) / 2 = mid := ⟨_, rfl⟩
                have hm1 : low ≤ mid := by omega
                have hm2 : mid < high := by omega
                have e1 : IntKind.i64.wrap ((low : Int) + (high : Int)) = ((low + high : Nat) : Int) := by push_cast; exact IntWalk.i64_in _ (by omega)
                have e2 : Int.tdiv ((low + high : Nat) : Int) 2 = (mid : Int) := by rw [Int.tdiv_eq_ediv_of_nonneg (by omega)]; omega
                have e3 : IntKind.i64.wrap (mid : Int) = (mid : Int) := IntWalk.i64_in _ (by omega)
                have hli : (low : Int) < (high : Int) := by omega
                clear hmid
                obtain ⟨c0, c1, c2⟩ := HB.out.hull
                obtain ⟨sum, hsum⟩ : ∃ s : Int, ((low + high : Nat) : Int) = s := ⟨_, rfl⟩
                rw [hsum] at e1 e2
                clear hsum
                go_wp2_with fail
                clear c0 c1 c2 e1 e2 e3
                refine Vals6.regionAll (fun X => Since w X ∧ Blk X w.heap.size 24 (hV h m) ∧ Blk X (w.heap.size + 1) 48 (sV2 lo hi)) [some 63, some 64, some 65, some 66, some 67, some 68, some 62, some 69, some 70, some 14] [.is ?_, .is ?_, .is ?_, .has (LdP h q (mid : Int)), .is ?_, .is ?_, .is ?_, .is ?_, .is ?_, .is ?_] (by kernel_rfl) rfl rfl (by kernel_rfl) (by kernel_rfl) (by kernel_rfl) (by kernel_rfl) (by kernel_rfl) (by kernel_rfl) rfl (⟨hs.drew, HB.out.drew, HX.out.drew⟩) ?hsteps ?hend
                case hsteps =>
                  refine Vals5.Steps.run rfl (Vals5.Stable.is _) ?_ ?_
                  · intro a W hS pre old K hK
                    have e3 := old 3 _ (by kernel_rfl) rfl
                    clear pre old
                    simp only [Vals5.fits, Array.getD_eq_getD_getElem?, List.getElem?_toArray, List.getElem?_cons_zero, List.getElem?_cons_succ, Option.getD_some] at e3
                    have hS9 := hS
                    obtain ⟨r1, r2, r3⟩ := hS9
                    obtain ⟨c0, c1, c2⟩ := r2.hull
                    obtain ⟨t0, t1⟩ := r3.span
                    go_simp
                    refine hK _ _ hS (Below.refl _ _) ?_
                    exact fits_is _ _
                  refine Vals5.Steps.run rfl (Vals5.Stable.is _) ?_ ?_
                  · intro a W hS pre old K hK
                    have e1 := old 1 _ (by kernel_rfl) rfl
                    clear pre old
                    simp only [Vals5.fits, Array.getD_eq_getD_getElem?, List.getElem?_toArray, List.getElem?_cons_zero, List.getElem?_cons_succ, Option.getD_some] at e1
                    have hkc := HQ.out
                    go_simp
                    refine hK _ _ hS (Below.refl _ _) ?_
                    exact fits_is _ _
                  refine Vals5.Steps.run rfl (Vals5.Stable.is _) ?_ ?_
                  · intro a W hS pre old K hK
                    have e13 := old 13 _ (by kernel_rfl) rfl
                    clear pre old
                    simp only [Vals5.fits, Array.getD_eq_getD_getElem?, List.getElem?_toArray, List.getElem?_cons_zero, List.getElem?_cons_succ, Option.getD_some] at e13
                    go_simp
                    refine hK _ _ hS (Below.refl _ _) ?_
                    exact fits_is _ _
                  refine Vals5.Steps.run rfl (LdP.stable _ _ _) ?_ ?_
                  · intro a W hS pre old K hK
                    have e63 := pre 0 63 _ (by kernel_rfl) rfl rfl
                    have e64 := pre 1 64 _ (by kernel_rfl) rfl rfl
                    have e65 := pre 2 65 _ (by kernel_rfl) rfl rfl
                    clear pre old
                    simp only [Vals5.fits, Array.getD_eq_getD_getElem?, List.getElem?_toArray, List.getElem?_cons_zero, List.getElem?_cons_succ, Option.getD_some] at e63 e64 e65
                    obtain ⟨r1, r2, r3⟩ := hS
                    have hC := rheavier_c h m q (mid : Int) W hh (hp.keep r1.1) hlt (by omega) (by omega)
                    have hkc := HQ.out
                    go_simp
                    refine hC.mono ?_
                    rintro e w' ⟨⟨m', rfl, hA'⟩, hb'⟩
                    exact hK _ _ ⟨r1.keep hb', r2.keep hb', r3.keep hb'⟩ hb' ⟨m', rfl, hA'⟩
                  refine Vals5.Steps.run rfl (Vals5.Stable.is _) ?_ ?_
                  · intro a W hS pre old K hK
                    have e5 := old 5 _ (by kernel_rfl) rfl
                    clear pre old
                    simp only [Vals5.fits, Array.getD_eq_getD_getElem?, List.getElem?_toArray, List.getElem?_cons_zero, List.getElem?_cons_succ, Option.getD_some] at e5
                    have hS9 := hS
                    obtain ⟨r1, r2, r3⟩ := hS9
                    obtain ⟨c0, c1, c2⟩ := r2.hull
                    obtain ⟨t0, t1⟩ := r3.span
                    go_simp
                    refine hK _ _ hS (Below.refl _ _) ?_
                    exact fits_is _ _
                  refine Vals5.Steps.run rfl (Vals5.Stable.is _) ?_ ?_
                  · intro a W hS pre old K hK
                    have f66 := pre 3 66 _ (by kernel_rfl) rfl rfl
                    have e67 := pre 4 67 _ (by kernel_rfl) rfl rfl
                    clear pre old
                    simp only [Vals5.fits, Array.getD_eq_getD_getElem?, List.getElem?_toArray, List.getElem?_cons_zero, List.getElem?_cons_succ, Option.getD_some] at e67
                    obtain ⟨r1, r2, r3⟩ := hS
                    obtain ⟨m', hv, hA'⟩ := f66
                    simp only [Array.getD_eq_getD_getElem?] at hv
                    have hC := rfirst_c (ldH h q (mid : Int)) m' lo hi W (ldH_bk hh hlt (by omega) (by omega)) hA' h0 h01 h1
                    go_simp
                    refine hC.mono ?_
                    rintro e w' ⟨rfl, hb'⟩
                    refine hK _ _ ⟨r1.keep hb', r2.keep hb', r3.keep hb'⟩ hb' ?_
                    exact fits_is _ _
                  refine Vals5.Steps.run rfl (Vals5.Stable.is _) ?_ ?_
                  · intro a W hS pre old K hK
                    have e68 := pre 5 68 _ (by kernel_rfl) rfl rfl
                    clear pre old
                    simp only [Vals5.fits, Array.getD_eq_getD_getElem?, List.getElem?_toArray, List.getElem?_cons_zero, List.getElem?_cons_succ, Option.getD_some] at e68
                    go_simp
                    refine hK _ _ hS (Below.refl _ _) ?_
                    exact fits_is _ _
                  refine Vals5.Steps.run rfl (Vals5.Stable.is _) ?_ ?_
                  · intro a W hS pre old K hK
                    have e62 := pre 6 62 _ (by kernel_rfl) rfl rfl
                    clear pre old
                    simp only [Vals5.fits, Array.getD_eq_getD_getElem?, List.getElem?_toArray, List.getElem?_cons_zero, List.getElem?_cons_succ, Option.getD_some] at e62
                    go_simp
                    refine hK _ _ hS (Below.refl _ _) ?_
                    exact fits_is _ _
                  refine Vals5.Steps.run rfl (Vals5.Stable.is _) ?_ ?_
                  · intro a W hS pre old K hK
                    have e62 := pre 6 62 _ (by kernel_rfl) rfl rfl
                    clear pre old
                    simp only [Vals5.fits, Array.getD_eq_getD_getElem?, List.getElem?_toArray, List.getElem?_cons_zero, List.getElem?_cons_succ, Option.getD_some] at e62
                    go_simp
                    refine hK _ _ hS (Below.refl _ _) ?_
                    exact fits_is _ _
                  refine Vals5.Steps.run rfl (Vals5.Stable.is _) ?_ ?_
                  · intro a W hS pre old K hK
                    have e69 := pre 7 69 _ (by kernel_rfl) rfl rfl
                    clear pre old
                    simp only [Vals5.fits, Array.getD_eq_getD_getElem?, List.getElem?_toArray, List.getElem?_cons_zero, List.getElem?_cons_succ, Option.getD_some] at e69
                    go_simp
                    refine hK _ _ hS (Below.refl _ _) ?_
                    exact fits_is _ _
                  exact Vals5.Steps.nil
                case hend =>
                  rintro X ⟨hs2, HB2, HX2⟩
                  simp only [Vals5.All, List.getLast_cons_cons, List.getLast_singleton]
                  rintro v66 -
                  simp only [Vals.putAll, List.setIfInBounds_toArray, List.set_cons_zero, List.set_cons_succ]
                  intro K hK
                  replace hs := hs2
                  replace HB := Lib.hid HB2
                  replace HX := Lib.hid HX2
                  clear hs2 HB2 HX2
                  go_simp
                  refine hK _ _ ?_
                  clear hK K
                  obtain ⟨D, hD⟩ : ∃ D, does h q lo hi mid = D := ⟨_, rfl⟩
                  have HD := Lib.hid hD
                  rw [does_fall] at hD
                  obtain ⟨y, hy⟩ : ∃ y, (fall (ldH h q (mid : Int)) lo hi).2 = y := ⟨_, rfl⟩
                  rw [hy] at hD ⊢
                  clear hy
                  cases D
                  · have e4 : IntKind.i64.wrap ((mid : Int) + 1) = ((mid + 1 : Nat) : Int) := by push_cast; exact IntWalk.i64_in _ (by omega)
                    go_wp2_with fail
                    go_roundw
                    case rel =>
                      refine ⟨mid + 1, high, by omega, by omega, rfl, rfl, hs, HB, HX, fun j hj => ?_, HH⟩
                      cases hq2 : does h q lo hi j with
                      | false => rfl
                      | true => have := HM.out j mid (by omega) hq2; rw [HD.out] at this; cases this
                    case measure => simp [intOf]; omega
                  · go_wp2_with fail
                    go_roundw
                    case rel => exact ⟨low, mid, by omega, by omega, rfl, rfl, hs, HB, HX, HL, fun _ => HD.out⟩
                    case measure => simp [intOf]; omega
              · obtain rfl : low = high := by omega
                have hr : blst h q lo hi = low := by unfold blst; exact frst_cut (by omega) HL.out HH.out
                have hE3 := HE2.out
                rw [hr] at hE3
                have hli : ¬ (low : Int) < (low : Int) := by omega
                clear hr
                by_cases hbig : 1000000 < low
                · rw [if_pos hbig] at hE3
                  have hb' : (1000000 : Int) < (low : Int) := by omega
                  clear hbig
                  have HE3 := Lib.hid hE3
                  clear hE3
                  go_wp2_with fail
                  go_ret2
                  exact ⟨by rw [HE3.out]; rfl, hs.1⟩
                · rw [if_neg hbig] at hE3
                  have hb' : ¬ (1000000 : Int) < (low : Int) := by omega
                  clear hbig
                  have HE3 := Lib.hid hE3
                  clear hE3
                  go_wp2_with fail
                  go_ret2
                  exact ⟨by rw [HE3.out]; rfl, hs.1⟩
          · have hE2 : E = (0, tideE lo hi) := by rw [← hE]; simp only [ballastA, ballE, HC.out, HI.out, HA.out]; simp [ht]
            clear hE
            subst hE2
            have ht' : (tideE lo hi != 0) = true := by simpa using ht
            clear ht
            go_wp2_with fail
            go_ret2
            exact ⟨rfl, hs.1⟩
    · have hE2 : E = (0, 4) := by rw [← hE]; simp [ballastA, ballE, HC.out, h1]
      rw [h1]
      clear h1 hE
      subst hE2
      go_wp2_with fail
      clear c0 c1 c2 e1
      refine Vals6.regionAll (fun X => Since w X ∧ Blk X w.heap.size 24 (hV h m) ∧ Blk X (w.heap.size + 1) 48 (sV2 lo hi)) [some 33, some 34, some 35, some 36, some 37, some 38, some 39, some 40, some 41, some 42, some 43, some 44, some 45, some 46, some 47] [.is ?_, .is (.bool false), .is (.bool false), .is undef, .is undef, .is undef, .is undef, .is undef, .is undef, .is undef, .is undef, .is undef, .is undef, .is undef, .is undef] (by kernel_rfl) rfl rfl (by kernel_rfl) (by kernel_rfl) (by kernel_rfl) (by kernel_rfl) (by kernel_rfl) (by kernel_rfl) rfl (⟨hs.drew, HB.out.drew, HX.out.drew⟩) ?hsteps ?hend
      case hsteps =>
        refine Vals5.Steps.run rfl (Vals5.Stable.is _) ?_ ?_
        · intro a W hS pre old K hK
          have e10 := old 10 _ (by kernel_rfl) rfl
          clear pre old
          simp only [Vals5.fits, Array.getD_eq_getD_getElem?, List.getElem?_toArray, List.getElem?_cons_zero, List.getElem?_cons_succ, Option.getD_some] at e10
          go_simp
          refine hK _ _ hS (Below.refl _ _) ?_
          exact fits_is _ _
        refine Vals5.Steps.run rfl (Vals5.Stable.is _) ?_ ?_
        · intro a W hS pre old K hK
          have e33 := pre 0 33 _ (by kernel_rfl) rfl rfl
          clear pre old
          simp only [Vals5.fits, Array.getD_eq_getD_getElem?, List.getElem?_toArray, List.getElem?_cons_zero, List.getElem?_cons_succ, Option.getD_some] at e33
          go_simp
          refine hK _ _ hS (Below.refl _ _) ?_
          exact fits_is _ _
        refine Vals5.Steps.run rfl (Vals5.Stable.is _) ?_ ?_
        · intro a W hS pre old K hK
          have e34 := pre 1 34 _ (by kernel_rfl) rfl rfl
          clear pre old
          simp only [Vals5.fits, Array.getD_eq_getD_getElem?, List.getElem?_toArray, List.getElem?_cons_zero, List.getElem?_cons_succ, Option.getD_some] at e34
          go_simp
          refine hK _ _ hS (Below.refl _ _) ?_
          exact fits_is _ _
        refine Vals5.Steps.skip rfl rfl ?_
        refine Vals5.Steps.skip rfl rfl ?_
        refine Vals5.Steps.skip rfl rfl ?_
        refine Vals5.Steps.skip rfl rfl ?_
        refine Vals5.Steps.skip rfl rfl ?_
        refine Vals5.Steps.skip rfl rfl ?_
        refine Vals5.Steps.skip rfl rfl ?_
        refine Vals5.Steps.skip rfl rfl ?_
        refine Vals5.Steps.skip rfl rfl ?_
        refine Vals5.Steps.skip rfl rfl ?_
        refine Vals5.Steps.skip rfl rfl ?_
        refine Vals5.Steps.skip rfl rfl ?_
        exact Vals5.Steps.nil
      case hend =>
        rintro X ⟨hs2, HB2, HX2⟩
        simp only [Vals5.All, List.getLast_cons_cons, List.getLast_singleton]
        simp only [Vals.putAll, List.setIfInBounds_toArray, List.set_cons_zero, List.set_cons_succ]
        intro K hK
        replace hs := hs2
        replace HB := Lib.hid HB2
        replace HX := Lib.hid HX2
        clear hs2 HB2 HX2
        go_simp
        refine hK _ _ ?_
        clear hK K
        obtain ⟨t0, t1⟩ := HX.out.span
        go_wp2_with fail
        refine (tided_c 4 lo hi _).mono ?_
        rintro e w3 ⟨rfl, hb⟩
        replace hs := hs.keep hb
        clear hb t0 t1
        rw [show tidE 4 lo hi = 4 from rfl]
        go_wp2_with fail
        go_ret2
        exact ⟨rfl, hs.1⟩
  · have hE2 : E = (0, (chk h).2.2) := by rw [← hE]; simp [ballastA, ballE, hc]
    clear hE
    subst hE2
    have hc' : ((chk h).2.2 != 0) = true := by simpa using hc
    have hc2 : ((chk h).2.2 == 0) = false := by simpa using hc
    have HT : Hid (tidE (chk h).2.2 lo hi = (chk h).2.2) := by show _ = _; unfold tidE; rw [if_neg hc]
    clear hc
    go_wp2_with fail
    refine Vals6.regionAll (fun X => Since w X ∧ Blk X w.heap.size 24 (hV h m) ∧ Blk X (w.heap.size + 1) 48 (sV2 lo hi)) [some 33, some 34, some 35, some 36, some 37, some 38, some 39, some 40, some 41, some 42, some 43, some 44, some 45, some 46, some 47] [.is ?_, .is (.bool false), .is (.bool false), .is undef, .is undef, .is undef, .is undef, .is undef, .is undef, .is undef, .is undef, .is undef, .is undef, .is undef, .is undef] (by kernel_rfl) rfl rfl (by kernel_rfl) (by kernel_rfl) (by kernel_rfl) (by kernel_rfl) (by kernel_rfl) (by kernel_rfl) rfl (⟨hs.drew, HB.out.drew, HX.out.drew⟩) ?hsteps ?hend
    case hsteps =>
      refine Vals5.Steps.run rfl (Vals5.Stable.is _) ?_ ?_
      · intro a W hS pre old K hK
        have e10 := old 10 _ (by kernel_rfl) rfl
        clear pre old
        simp only [Vals5.fits, Array.getD_eq_getD_getElem?, List.getElem?_toArray, List.getElem?_cons_zero, List.getElem?_cons_succ, Option.getD_some] at e10
        go_simp
        refine hK _ _ hS (Below.refl _ _) ?_
        exact fits_is _ _
      refine Vals5.Steps.run rfl (Vals5.Stable.is _) ?_ ?_
      · intro a W hS pre old K hK
        have e33 := pre 0 33 _ (by kernel_rfl) rfl rfl
        clear pre old
        simp only [Vals5.fits, Array.getD_eq_getD_getElem?, List.getElem?_toArray, List.getElem?_cons_zero, List.getElem?_cons_succ, Option.getD_some] at e33
        go_simp
        refine hK _ _ hS (Below.refl _ _) ?_
        exact fits_is _ _
      refine Vals5.Steps.run rfl (Vals5.Stable.is _) ?_ ?_
      · intro a W hS pre old K hK
        have e34 := pre 1 34 _ (by kernel_rfl) rfl rfl
        clear pre old
        simp only [Vals5.fits, Array.getD_eq_getD_getElem?, List.getElem?_toArray, List.getElem?_cons_zero, List.getElem?_cons_succ, Option.getD_some] at e34
        go_simp
        refine hK _ _ hS (Below.refl _ _) ?_
        exact fits_is _ _
      refine Vals5.Steps.skip rfl rfl ?_
      refine Vals5.Steps.skip rfl rfl ?_
      refine Vals5.Steps.skip rfl rfl ?_
      refine Vals5.Steps.skip rfl rfl ?_
      refine Vals5.Steps.skip rfl rfl ?_
      refine Vals5.Steps.skip rfl rfl ?_
      refine Vals5.Steps.skip rfl rfl ?_
      refine Vals5.Steps.skip rfl rfl ?_
      refine Vals5.Steps.skip rfl rfl ?_
      refine Vals5.Steps.skip rfl rfl ?_
      refine Vals5.Steps.skip rfl rfl ?_
      refine Vals5.Steps.skip rfl rfl ?_
      exact Vals5.Steps.nil
    case hend =>
      rintro X ⟨hs2, HB2, HX2⟩
      simp only [Vals5.All, List.getLast_cons_cons, List.getLast_singleton]
      simp only [Vals.putAll, List.setIfInBounds_toArray, List.set_cons_zero, List.set_cons_succ]
      intro K hK
      replace hs := hs2
      replace HB := Lib.hid HB2
      replace HX := Lib.hid HX2
      clear hs2 HB2 HX2
      go_simp
      refine hK _ _ ?_
      clear hK K
      obtain ⟨t0, t1⟩ := HX.out.span
      go_wp2_with fail
      refine (tided_c (chk h).2.2 lo hi _).mono ?_
      rintro e w3 ⟨rfl, hb⟩
      replace hs := hs.keep hb
      clear hb t0 t1
      rw [HT.out]
      go_wp2_with fail
      go_ret2
      exact ⟨rfl, hs.1⟩
end Td
end Go.Proofs.Ythdcklonamgpiaa
