import Derived.Test.YtgkdidnmndmlhaaRPse
import Derived.Test.YtgkdidnmndmlhaaMathE
import Derived.Test.YtgkdidnmndmlhaaSty
/- The reference: Worst; the law GradePlans. -/
namespace Go.Proofs.Ytgkdidnmndmlhaa
open Go.RowKit
namespace Td
set_option linter.unusedSimpArgs false
set_option linter.unusedVariables false
attribute [local go_sem] Oper.semAt_some
set_option maxRecDepth 100000 in
set_option maxHeartbeats 8000000 in
theorem rWorst_c (P lo hi fi pa fa se to : Int) (w : World) :
    Calls Try.prog 30 #[.agg (gV P lo hi), .agg (lV fi pa fa se to)] w fun e w' => e = .returned (.tuple #[.int .i64 (worA P lo hi fi pa fa se to).1, .agg (fV (worA P lo hi fi pa fa se to).2.1), .int .i64 (worA P lo hi fi pa fa se to).2.2]) ∧ Below w.heap.size w w' := by
  have hs := (((Since.refl w).alloc (.cells (gV P lo hi) 25)).alloc (.cells (lV fi pa fa se to) 38)).alloc (.cells (fV (0, 0)) 41)
  have HL := Lib.hid ((Blk.new1 w (.cells (gV P lo hi) 25) 38 (lV fi pa fa se to)).alloc (.cells (fV (0, 0)) 41))
  have H3 := Lib.hid (Blk.new2 w (.cells (gV P lo hi) 25) (.cells (lV fi pa fa se to) 38) 41 (fV (0, 0)))
  have HG := Lib.hid (((Blk.new w 25 (gV P lo hi)).alloc (.cells (lV fi pa fa se to) 38)).alloc (.cells (fV (0, 0)) 41))
  have HPL : Hid (∀ W, Calls Try.prog 66 #[.agg (gV P lo hi), .agg (lV fi pa fa se to)] W fun e w' => e = .returned (.int .i64 (chkP P lo hi fi pa fa se to)) ∧ Below W.heap.size W w') := fun W => rplanned_c P lo hi fi pa fa se to W
  obtain ⟨c0, c1, c2⟩ := HG.out.gcells
  obtain ⟨d0, d1, d2, d3, d4⟩ := HL.out.lcells
  by_cases hc : chkP P lo hi fi pa fa se to = 0
  · rw [hc] at HPL
    obtain ⟨P, lo, hi, F, pa, fa, S, to, rfl, rfl, rfl, rfl, rfl, rfl, rfl, rfl, hlh, hhi, hP, hfit⟩ := nats8 hc
    obtain ⟨f, hf⟩ : ∃ f : Nat → Nat × Nat, (fun d => stS P F pa fa S to d) = f := ⟨_, rfl⟩
    have hbd : pa ≤ 20 ∧ fa ≤ 21 ∧ to ≤ 20 := by
      obtain ⟨b1, b2, b3, b4, b5, b6, b7, b8, b9, b10, -, -⟩ := planE_ok (chkP_ok hc).2
      omega
    have hdp : ∀ d, d ≤ P → 0 < bn P F * bn (P - F) S := fun d hd => den_pos (hfit d hd).f (hfit d hd).s
    have HCF : Hid (∀ d, d ≤ hi → ∀ W, Calls Try.prog 74 #[.agg (gV P lo hi), .agg (lV F pa fa S to), .int .i64 d] W fun e w' => e = .returned (.agg (fV (ip (f d)))) ∧ Below W.heap.size W w') := fun d hd W => by
      rw [← hf]
      exact rStays_c lo hi P F pa fa S to d W (hfit d (by omega)) hbd.1 hbd.2.1 hbd.2.2
    have HV0 : worA P lo hi F pa fa S to = (((lo + posS (mostS (eachL f lo hi)) (eachL f lo hi) : Nat) : Int), ip (mostS (eachL f lo hi)), 0) := by unfold worA; rw [if_pos hc]; simp only [Int.toNat_natCast, hf]
    have HSMF : Hid (∀ d, d ≤ hi → Sm (f d)) := fun d hd => by rw [← hf]; exact stS_sm (hfit d (by omega))
    have HPOS : Hid (∀ d, d ≤ hi → 0 < (f d).2) := fun d hd => by rw [← hf]; show 0 < (stS P F pa fa S to d).2; unfold stS; exact shr_pos _ (hdp d (by omega))
    have HEQ : Hid (∀ d e, d ≤ hi → e ≤ hi → lt' (f d) (f e) = false → lt' (f e) (f d) = false → f d = f e) := fun d e hd he h1 h2 => by
      rw [← hf] at h1 h2 ⊢
      exact shr_both (hdp d (by omega)) (hdp e (by omega)) h1 h2
    rw [HV0]
    obtain ⟨bd, hbd0⟩ : ∃ b, lo + posS (mostS (eachL f lo hi)) (eachL f lo hi) = b := ⟨_, rfl⟩
    obtain ⟨uM, hM_⟩ : ∃ u, ip (mostS (eachL f lo hi)) = u := ⟨_, rfl⟩
    rw [hbd0, hM_]
    have HDN : Hid (∀ m, Fst f lo (hi + 1 - lo) m → m ≤ hi ∧ m = bd ∧ ip (f m) = uM) := fun m h => by
      obtain ⟨h1, h2, h3⟩ := h.done hlh HPOS.out HEQ.out
      rw [h2] at hbd0 hM_
      exact ⟨h1, by omega, hM_⟩
    have HF0 : Hid (Fst f lo 0 lo) := Fst.start f lo
    clear HV0 hM_ hbd0 hf hc hfit hbd hdp HEQ
    go_enter Try.func30, Try.ntmps30
    go_wp2_with fail
    refine (HPL.out _).mono ?_
    rintro e v1 ⟨rfl, hb⟩
    replace hs := hs.keep hb
    replace HG := Lib.hid (HG.out.keep hb)
    replace HL := Lib.hid (HL.out.keep hb)
    replace H3 := Lib.hid (H3.out.keep hb)
    clear hb c0 c1 c2 d0 d1 d2 d3 d4 HPL
    obtain ⟨c0, c1, c2⟩ := HG.out.gcells
    have HS0 := Lib.hid (Since.refl v1)
    have hsw := Lib.hid hs
    clear hs
    go_wp2_with fail
    clear c0 c1 c2
    go_loopw [8, 9] (fun v i wr => ∃ k m : Nat, k ≤ hi + 1 - lo ∧ v = .int .i64 m ∧ i = .int .i64 ((lo + k : Nat) : Int) ∧ Hid (Fst f lo k m) ∧ Hid (Since v1 wr)) (fun _ i _ => hi + 1 - (intOf i).toNat)
    case atStart => exact ⟨0, lo, by omega, rfl, rfl, HF0, HS0⟩
    case round =>
      clear HS0 HF0
      obtain ⟨k, m, hk, rfl, rfl, HM, HS⟩ := hrel
      obtain ⟨c0, c1, c2⟩ := (HG.out.keep HS.out.1).gcells
      obtain ⟨d0, d1, d2, d3, d4⟩ := (HL.out.keep HS.out.1).lcells
      by_cases hlt : lo + k ≤ hi
      · have hmh : m ≤ hi := by rcases HM.out.up with q | ⟨q, q2⟩ <;> omega
        have hyes := HM.out.yes (fun d h1 h2 => HPOS.out d (by omega))
        have hno := HM.out.no
        obtain ⟨b, hb⟩ : ∃ b, lo + k = b := ⟨_, rfl⟩
        have HB := Lib.hid hb
        rw [hb] at hlt hyes hno ⊢
        have t1 : (b : Int) ≤ (hi : Int) := by omega
        have w1 : IntKind.i64.wrap ((b : Int) + 1) = ((b + 1 : Nat) : Int) := by rw [wrapI (by unfold I64; omega)]; omega
        have HCM := HCF.out m hmh
        have HCB := HCF.out b hlt
        have HLE : Hid (∀ W, Calls Try.prog 44 #[.agg (fV (ip (f m))), .agg (fV (ip (f b)))] W fun e w' => e = .returned (.bool (lt' (f m) (f b))) ∧ Below W.heap.size W w') := fun W => rLess_c _ _ W (HSMF.out m hmh) (HSMF.out b hlt)
        obtain ⟨v, hv⟩ : ∃ v, lt' (f m) (f b) = v := ⟨_, rfl⟩
        rw [hv] at HLE hyes hno
        have HYES := Lib.hid hyes
        have HNO := Lib.hid hno
        clear hb hv hyes hno HM
        go_wp2_with fail
        refine Vals6.regionAll (fun X => Below wr.drew.heap.size wr.drew X) [some 30, some 31, some 32, some 33, some 34, some 35, some 36, some 37] [.is (.agg (gV P lo hi)), .is (.agg (lV F pa fa S to)), .is (.int .i64 (m : Nat)), .is (.agg (fV (ip (f m)))), .is (.agg (gV P lo hi)), .is (.agg (lV F pa fa S to)), .is (.int .i64 (b : Nat)), .is (.agg (fV (ip (f b))))] (by kernel_rfl) rfl rfl (by kernel_rfl) (by kernel_rfl) (by kernel_rfl) (by kernel_rfl) (by kernel_rfl) (by kernel_rfl) rfl (Below.refl _ _) ?hsteps ?hend
        case hsteps =>
          refine Vals5.Steps.run rfl (Vals5.Stable.is _) ?_ ?_
          · intro a W hS pre old K hK
            have e2 := old 2 _ (by kernel_rfl) rfl
            clear pre old
            simp only [Vals5.fits, Array.getD_eq_getD_getElem?, List.getElem?_toArray, List.getElem?_cons_zero, List.getElem?_cons_succ, Option.getD_some] at e2
            have hS9 := hS
            have bw9 : Below wr.heap.size wr W := (Below.drew (Below.refl _ _)).trans (hS9.mono (by first | exact Nat.le_refl _ | (simp; done)))
            have e0_ := keep_cell bw9 c0
            have e1_ := keep_cell bw9 c1
            have e2_ := keep_cell bw9 c2
            have g0_ := keep_cell bw9 d0
            have g1_ := keep_cell bw9 d1
            have g2_ := keep_cell bw9 d2
            have g3_ := keep_cell bw9 d3
            have g4_ := keep_cell bw9 d4
            go_simp
            refine hK _ _ hS (Below.refl _ _) ?_
            exact fits_is _ _
          refine Vals5.Steps.run rfl (Vals5.Stable.is _) ?_ ?_
          · intro a W hS pre old K hK
            have e3 := old 3 _ (by kernel_rfl) rfl
            clear pre old
            simp only [Vals5.fits, Array.getD_eq_getD_getElem?, List.getElem?_toArray, List.getElem?_cons_zero, List.getElem?_cons_succ, Option.getD_some] at e3
            have hS9 := hS
            have bw9 : Below wr.heap.size wr W := (Below.drew (Below.refl _ _)).trans (hS9.mono (by first | exact Nat.le_refl _ | (simp; done)))
            have e0_ := keep_cell bw9 c0
            have e1_ := keep_cell bw9 c1
            have e2_ := keep_cell bw9 c2
            have g0_ := keep_cell bw9 d0
            have g1_ := keep_cell bw9 d1
            have g2_ := keep_cell bw9 d2
            have g3_ := keep_cell bw9 d3
            have g4_ := keep_cell bw9 d4
            go_simp
            refine hK _ _ hS (Below.refl _ _) ?_
            exact fits_is _ _
          refine Vals5.Steps.run rfl (Vals5.Stable.is _) ?_ ?_
          · intro a W hS pre old K hK
            have e8 := old 8 _ (by kernel_rfl) rfl
            clear pre old
            simp only [Vals5.fits, Array.getD_eq_getD_getElem?, List.getElem?_toArray, List.getElem?_cons_zero, List.getElem?_cons_succ, Option.getD_some] at e8
            go_simp
            refine hK _ _ hS (Below.refl _ _) ?_
            exact fits_is _ _
          refine Vals5.Steps.run rfl (Vals5.Stable.is _) ?_ ?_
          · intro a W hS pre old K hK
            have e30 := pre 0 30 _ (by kernel_rfl) rfl rfl
            have e31 := pre 1 31 _ (by kernel_rfl) rfl rfl
            have e32 := pre 2 32 _ (by kernel_rfl) rfl rfl
            clear pre old
            simp only [Vals5.fits, Array.getD_eq_getD_getElem?, List.getElem?_toArray, List.getElem?_cons_zero, List.getElem?_cons_succ, Option.getD_some] at e30 e31 e32
            go_simp
            refine ((HCM _)).mono ?_
            rintro e w' ⟨rfl, hb'⟩
            refine hK _ _ (hS.trans (hb'.mono hS.size)) hb' ?_
            exact fits_is _ _
          refine Vals5.Steps.run rfl (Vals5.Stable.is _) ?_ ?_
          · intro a W hS pre old K hK
            have e2 := old 2 _ (by kernel_rfl) rfl
            clear pre old
            simp only [Vals5.fits, Array.getD_eq_getD_getElem?, List.getElem?_toArray, List.getElem?_cons_zero, List.getElem?_cons_succ, Option.getD_some] at e2
            have hS9 := hS
            have bw9 : Below wr.heap.size wr W := (Below.drew (Below.refl _ _)).trans (hS9.mono (by first | exact Nat.le_refl _ | (simp; done)))
            have e0_ := keep_cell bw9 c0
            have e1_ := keep_cell bw9 c1
            have e2_ := keep_cell bw9 c2
            have g0_ := keep_cell bw9 d0
            have g1_ := keep_cell bw9 d1
            have g2_ := keep_cell bw9 d2
            have g3_ := keep_cell bw9 d3
            have g4_ := keep_cell bw9 d4
            go_simp
            refine hK _ _ hS (Below.refl _ _) ?_
            exact fits_is _ _
          refine Vals5.Steps.run rfl (Vals5.Stable.is _) ?_ ?_
          · intro a W hS pre old K hK
            have e3 := old 3 _ (by kernel_rfl) rfl
            clear pre old
            simp only [Vals5.fits, Array.getD_eq_getD_getElem?, List.getElem?_toArray, List.getElem?_cons_zero, List.getElem?_cons_succ, Option.getD_some] at e3
            have hS9 := hS
            have bw9 : Below wr.heap.size wr W := (Below.drew (Below.refl _ _)).trans (hS9.mono (by first | exact Nat.le_refl _ | (simp; done)))
            have e0_ := keep_cell bw9 c0
            have e1_ := keep_cell bw9 c1
            have e2_ := keep_cell bw9 c2
            have g0_ := keep_cell bw9 d0
            have g1_ := keep_cell bw9 d1
            have g2_ := keep_cell bw9 d2
            have g3_ := keep_cell bw9 d3
            have g4_ := keep_cell bw9 d4
            go_simp
            refine hK _ _ hS (Below.refl _ _) ?_
            exact fits_is _ _
          refine Vals5.Steps.run rfl (Vals5.Stable.is _) ?_ ?_
          · intro a W hS pre old K hK
            have e9 := old 9 _ (by kernel_rfl) rfl
            clear pre old
            simp only [Vals5.fits, Array.getD_eq_getD_getElem?, List.getElem?_toArray, List.getElem?_cons_zero, List.getElem?_cons_succ, Option.getD_some] at e9
            go_simp
            refine hK _ _ hS (Below.refl _ _) ?_
            exact fits_is _ _
          refine Vals5.Steps.run rfl (Vals5.Stable.is _) ?_ ?_
          · intro a W hS pre old K hK
            have e34 := pre 4 34 _ (by kernel_rfl) rfl rfl
            have e35 := pre 5 35 _ (by kernel_rfl) rfl rfl
            have e36 := pre 6 36 _ (by kernel_rfl) rfl rfl
            clear pre old
            simp only [Vals5.fits, Array.getD_eq_getD_getElem?, List.getElem?_toArray, List.getElem?_cons_zero, List.getElem?_cons_succ, Option.getD_some] at e34 e35 e36
            go_simp
            refine ((HCB _)).mono ?_
            rintro e w' ⟨rfl, hb'⟩
            refine hK _ _ (hS.trans (hb'.mono hS.size)) hb' ?_
            exact fits_is _ _
          exact Vals5.Steps.nil
        case hend =>
        rintro X hX
        have hbX : Below wr.heap.size wr X := (Below.drew (Below.refl _ _)).trans (hX.mono (by first | exact Nat.le_refl _ | (simp; done)))
        simp only [Vals5.All, List.getLast_cons_cons, List.getLast_singleton]
        simp only [Vals.putAll, List.setIfInBounds_toArray, List.set_cons_zero, List.set_cons_succ]
        intro K hK
        go_simp
        refine (HLE.out _).mono ?_
        rintro e Y ⟨rfl, hY⟩
        have HSY := Lib.hid (HS.out.keep (hbX.trans (hY.mono hbX.size)))
        refine hK _ _ ?_
        clear hK K hbX hX hY c0 c1 c2 d0 d1 d2 d3 d4 HCM HCB
        cases v
        · have HN := Lib.hid (HNO.out rfl)
          try dsimp only [Act.put]
          go_wp2_with fail
          go_roundw
          case rel => exact ⟨k + 1, m, by have := HB.out; omega, rfl, by congr 1; have := HB.out; omega, HN, HSY⟩
          case measure => simp [intOf]; omega
        · have HN := Lib.hid (HYES.out rfl)
          try dsimp only [Act.put]
          go_wp2_with fail
          go_roundw
          case rel => exact ⟨k + 1, b, by have := HB.out; omega, rfl, by congr 1; have := HB.out; omega, HN, HSY⟩
          case measure => simp [intOf]; omega
      · have e : k = hi + 1 - lo := by omega
        have hm2 := HM.out
        rw [e] at hm2
        obtain ⟨m1, m2, m3⟩ := HDN.out m hm2
        have HCM := Lib.hid (HCF.out m m1)
        rw [m3] at HCM
        have HMB := Lib.hid m2
        have t1 : ¬ ((lo + k : Nat) : Int) ≤ (hi : Int) := by omega
        have t2 : ¬ lo + k ≤ hi := hlt
        have hs := hsw.out.keep HS.out.1
        replace H3 := Lib.hid (H3.out.keep HS.out.1)
        clear e hm2 m1 m2 m3 HM
        go_wp2_with fail
        refine (HCM.out _).mono ?_
        rintro e v3 ⟨rfl, hb⟩
        replace hs := hs.keep hb
        replace H3 := Lib.hid (H3.out.keep hb)
        clear hb c0 c1 c2 d0 d1 d2 d3 d4
        have H4 := Lib.hid (H3.out.row (fV uM))
        have hs4 := hs.row (g := w.heap.size + 1 + 1) (by omega) (fV uM)
        go_wp2_with (refine wpList_store_row rfl 41 _ _ rfl (w.heap.size + 1 + 1) (fV uM) rfl (by first | rfl | (simp; done)) 41 _ H3.out (by kernel_rfl) rfl (by simp [Value.oneCell']) ?_)
        refine bodyPost_ret (results_tct Try.results30 _ _ _ _ rfl (load_fr H4.out)) rfl ⟨by rw [← HMB.out]; rfl, hs4.1⟩
  · have HV : Hid (worA P lo hi fi pa fa se to = (0, (0, 0), chkP P lo hi fi pa fa se to)) := by show _ = _; unfold worA; rw [if_neg hc]
    rw [HV.out]
    obtain ⟨E, hE⟩ : ∃ E, chkP P lo hi fi pa fa se to = E := ⟨_, rfl⟩
    rw [hE] at HPL hc ⊢
    have hE' : (E != 0) = true := by simpa using hc
    clear hE HV
    go_enter Try.func30, Try.ntmps30
    go_wp2_with fail
    refine (HPL.out _).mono ?_
    rintro e v1 ⟨rfl, hb⟩
    replace hs := hs.keep hb
    replace H3 := Lib.hid (H3.out.keep hb)
    clear hb c0 c1 c2 d0 d1 d2 d3 d4 HPL HG HL
    have H4 := Lib.hid (H3.out.row (fV (0, 0)))
    have hs4 := hs.row (g := w.heap.size + 1 + 1) (by omega) (fV (0, 0))
    go_wp2_with (refine wpList_store_row rfl 41 _ _ rfl (w.heap.size + 1 + 1) (fV (0, 0)) rfl (by first | rfl | (simp; done)) 41 _ H3.out (by kernel_rfl) rfl (by simp [Value.oneCell']) ?_)
    refine bodyPost_ret (results_tct Try.results30 _ _ _ _ rfl (load_fr H4.out)) rfl ⟨rfl, hs4.1⟩
set_option maxRecDepth 100000 in
set_option maxHeartbeats 8000000 in
theorem gradePlans_c (P lo hi fi pa fa se to : Int) (w : World) :
    Calls Try.prog 4 #[.agg (gV P lo hi), .agg (lV fi pa fa se to)] w fun e w' => e = .returned (.bool true) ∧ Below w.heap.size w w' := by
  have hs := ((Since.refl w).alloc (.cells (gV P lo hi) 25)).alloc (.cells (lV fi pa fa se to) 38)
  have HG := Lib.hid ((Blk.new w 25 (gV P lo hi)).alloc (.cells (lV fi pa fa se to) 38))
  have HL := Lib.hid (Blk.new1 w (.cells (gV P lo hi) 25) 38 (lV fi pa fa se to))
  obtain ⟨W2, hW2⟩ : ∃ W2, (w.alloc (.cells (gV P lo hi) 25)).alloc (.cells (lV fi pa fa se to) 38) = W2 := ⟨_, rfl⟩
  rw [hW2] at hs HG HL
  have HCP := Lib.hid (fun W => CheckPlan_c P lo hi fi pa fa se to W)
  have HRP := Lib.hid (fun W => rPlan_c P lo hi fi pa fa se to W)
  have HPC := Lib.hid (fun W => Passes_c P lo hi fi pa fa se to W)
  have HRC := Lib.hid (fun W => rPasses_c P lo hi fi pa fa se to W)
  have HWC := Lib.hid (fun W => Worst_c P lo hi fi pa fa se to W)
  have HWR := Lib.hid (fun W => rWorst_c P lo hi fi pa fa se to W)
  obtain ⟨EP, hEP⟩ : ∃ V, chkP P lo hi fi pa fa se to = V := ⟨_, rfl⟩
  rw [hEP] at HCP HRP
  obtain ⟨⟨uA, uB, E⟩, hV⟩ : ∃ V, pasA P lo hi fi pa fa se to = V := ⟨_, rfl⟩
  rw [hV] at HPC HRC
  obtain ⟨⟨bd, uW, E2⟩, hV2⟩ : ∃ V, worA P lo hi fi pa fa se to = V := ⟨_, rfl⟩
  rw [hV2] at HWC HWR
  have HEA := Lib.hid (eqSh uA.1 uA.2)
  have HEB := Lib.hid (eqSh uB.1 uB.2)
  have HEW := Lib.hid (eqSh uW.1 uW.2)
  obtain ⟨c0, c1, c2⟩ := HG.out.gcells
  obtain ⟨d0, d1, d2, d3, d4⟩ := HL.out.lcells
  clear hEP hV hV2
  go_enter Try.func4, Try.ntmps4
  go_wp2_with fail
  first | rw [hW2] | skip
  clear hW2
  refine Vals6.regionAll (fun X => Below W2.drew.heap.size W2.drew X) [some 13, some 14, some 15, some 16, some 17, some 18] [.is (.agg (gV P lo hi)), .is (.agg (lV fi pa fa se to)), .is (.int .i64 EP), .is (.agg (gV P lo hi)), .is (.agg (lV fi pa fa se to)), .is (.int .i64 EP)] (by kernel_rfl) rfl rfl (by kernel_rfl) (by kernel_rfl) (by kernel_rfl) (by kernel_rfl) (by kernel_rfl) (by kernel_rfl) rfl (Below.refl _ _) ?hsteps ?hend
  case hsteps =>
    refine Vals5.Steps.run rfl (Vals5.Stable.is _) ?_ ?_
    · intro a W hS pre old K hK
      have e2 := old 2 _ (by kernel_rfl) rfl
      clear pre old
      simp only [Vals5.fits, Array.getD_eq_getD_getElem?, List.getElem?_toArray, List.getElem?_cons_zero, List.getElem?_cons_succ, Option.getD_some] at e2
      have hS9 := hS
      have bw9 : Below W2.heap.size W2 W := (Below.drew (Below.refl _ _)).trans (hS9.mono (by first | exact Nat.le_refl _ | (simp; done)))
      have e0_ := keep_cell bw9 c0
      have e1_ := keep_cell bw9 c1
      have e2_ := keep_cell bw9 c2
      have g0_ := keep_cell bw9 d0
      have g1_ := keep_cell bw9 d1
      have g2_ := keep_cell bw9 d2
      have g3_ := keep_cell bw9 d3
      have g4_ := keep_cell bw9 d4
      go_simp
      refine hK _ _ hS (Below.refl _ _) ?_
      exact fits_is _ _
    refine Vals5.Steps.run rfl (Vals5.Stable.is _) ?_ ?_
    · intro a W hS pre old K hK
      have e3 := old 3 _ (by kernel_rfl) rfl
      clear pre old
      simp only [Vals5.fits, Array.getD_eq_getD_getElem?, List.getElem?_toArray, List.getElem?_cons_zero, List.getElem?_cons_succ, Option.getD_some] at e3
      have hS9 := hS
      have bw9 : Below W2.heap.size W2 W := (Below.drew (Below.refl _ _)).trans (hS9.mono (by first | exact Nat.le_refl _ | (simp; done)))
      have e0_ := keep_cell bw9 c0
      have e1_ := keep_cell bw9 c1
      have e2_ := keep_cell bw9 c2
      have g0_ := keep_cell bw9 d0
      have g1_ := keep_cell bw9 d1
      have g2_ := keep_cell bw9 d2
      have g3_ := keep_cell bw9 d3
      have g4_ := keep_cell bw9 d4
      go_simp
      refine hK _ _ hS (Below.refl _ _) ?_
      exact fits_is _ _
    refine Vals5.Steps.run rfl (Vals5.Stable.is _) ?_ ?_
    · intro a W hS pre old K hK
      have e13 := pre 0 13 _ (by kernel_rfl) rfl rfl
      have e14 := pre 1 14 _ (by kernel_rfl) rfl rfl
      clear pre old
      simp only [Vals5.fits, Array.getD_eq_getD_getElem?, List.getElem?_toArray, List.getElem?_cons_zero, List.getElem?_cons_succ, Option.getD_some] at e13 e14
      go_simp
      refine (HCP.out _).mono ?_
      rintro e w' ⟨rfl, hb'⟩
      refine hK _ _ (hS.trans (hb'.mono hS.size)) hb' ?_
      exact fits_is _ _
    refine Vals5.Steps.run rfl (Vals5.Stable.is _) ?_ ?_
    · intro a W hS pre old K hK
      have e2 := old 2 _ (by kernel_rfl) rfl
      clear pre old
      simp only [Vals5.fits, Array.getD_eq_getD_getElem?, List.getElem?_toArray, List.getElem?_cons_zero, List.getElem?_cons_succ, Option.getD_some] at e2
      have hS9 := hS
      have bw9 : Below W2.heap.size W2 W := (Below.drew (Below.refl _ _)).trans (hS9.mono (by first | exact Nat.le_refl _ | (simp; done)))
      have e0_ := keep_cell bw9 c0
      have e1_ := keep_cell bw9 c1
      have e2_ := keep_cell bw9 c2
      have g0_ := keep_cell bw9 d0
      have g1_ := keep_cell bw9 d1
      have g2_ := keep_cell bw9 d2
      have g3_ := keep_cell bw9 d3
      have g4_ := keep_cell bw9 d4
      go_simp
      refine hK _ _ hS (Below.refl _ _) ?_
      exact fits_is _ _
    refine Vals5.Steps.run rfl (Vals5.Stable.is _) ?_ ?_
    · intro a W hS pre old K hK
      have e3 := old 3 _ (by kernel_rfl) rfl
      clear pre old
      simp only [Vals5.fits, Array.getD_eq_getD_getElem?, List.getElem?_toArray, List.getElem?_cons_zero, List.getElem?_cons_succ, Option.getD_some] at e3
      have hS9 := hS
      have bw9 : Below W2.heap.size W2 W := (Below.drew (Below.refl _ _)).trans (hS9.mono (by first | exact Nat.le_refl _ | (simp; done)))
      have e0_ := keep_cell bw9 c0
      have e1_ := keep_cell bw9 c1
      have e2_ := keep_cell bw9 c2
      have g0_ := keep_cell bw9 d0
      have g1_ := keep_cell bw9 d1
      have g2_ := keep_cell bw9 d2
      have g3_ := keep_cell bw9 d3
      have g4_ := keep_cell bw9 d4
      go_simp
      refine hK _ _ hS (Below.refl _ _) ?_
      exact fits_is _ _
    refine Vals5.Steps.run rfl (Vals5.Stable.is _) ?_ ?_
    · intro a W hS pre old K hK
      have e16 := pre 3 16 _ (by kernel_rfl) rfl rfl
      have e17 := pre 4 17 _ (by kernel_rfl) rfl rfl
      clear pre old
      simp only [Vals5.fits, Array.getD_eq_getD_getElem?, List.getElem?_toArray, List.getElem?_cons_zero, List.getElem?_cons_succ, Option.getD_some] at e16 e17
      go_simp
      refine (HRP.out _).mono ?_
      rintro e w' ⟨rfl, hb'⟩
      refine hK _ _ (hS.trans (hb'.mono hS.size)) hb' ?_
      exact fits_is _ _
    exact Vals5.Steps.nil
  case hend =>
  rintro X hX
  have hbX : Below W2.heap.size W2 X := (Below.drew (Below.refl _ _)).trans (hX.mono (by first | exact Nat.le_refl _ | (simp; done)))
  replace hs := hs.keep hbX
  replace HG := Lib.hid (HG.out.keep hbX)
  replace HL := Lib.hid (HL.out.keep hbX)
  clear c0 c1 c2 d0 d1 d2 d3 d4 hbX hX
  simp only [Vals5.All, List.getLast_cons_cons, List.getLast_singleton]
  simp only [Vals.putAll, List.setIfInBounds_toArray, List.set_cons_zero, List.set_cons_succ]
  intro K hK
  go_simp
  refine hK _ _ ?_
  clear hK K
  obtain ⟨c0, c1, c2⟩ := HG.out.gcells
  obtain ⟨d0, d1, d2, d3, d4⟩ := HL.out.lcells
  go_wp2_with fail
  refine (HPC.out _).mono ?_
  rintro e v1 ⟨rfl, hb⟩
  replace hs := hs.keep hb
  replace HG := Lib.hid (HG.out.keep hb)
  replace HL := Lib.hid (HL.out.keep hb)
  clear hb
  clear c0 c1 c2 d0 d1 d2 d3 d4
  have hv1g : w.heap.size + 1 < v1.heap.size := HL.out.lt
  have hv1w : w.heap.size ≤ v1.heap.size := hs.2
  have hz1 := Lib.hid ((Blk.new v1 41 (fV (0, 0))).alloc (.cells (fV (0, 0)) 41))
  have hz2 := Lib.hid ((Blk.new1 v1 (.cells (fV (0, 0)) 41) 41 (fV (0, 0))).rowFar (g' := v1.heap.size) (by omega) (fV uA))
  have hq : Below v1.heap.size v1 ((((v1.alloc (.cells (fV (0, 0)) 41)).alloc (.cells (fV (0, 0)) 41)).setRow v1.heap.size (fV uA)).setRow (v1.heap.size + 1) (fV uB)) := (((((Since.refl v1).alloc (.cells (fV (0, 0)) 41)).alloc (.cells (fV (0, 0)) 41)).row (g := v1.heap.size) (Nat.le_refl _) (fV uA)).row (g := v1.heap.size + 1) (by omega) (fV uB)).1
  have H5 := Lib.hid ((hz1.out.row (fV uA)).rowFar (g' := v1.heap.size + 1) (by omega) (fV uB))
  have H6 := Lib.hid (hz2.out.row (fV uB))
  replace hs := hs.keep hq
  replace HG := Lib.hid (HG.out.keep hq)
  replace HL := Lib.hid (HL.out.keep hq)
  obtain ⟨c0, c1, c2⟩ := HG.out.gcells
  obtain ⟨d0, d1, d2, d3, d4⟩ := HL.out.lcells
  go_wp2_with (first | (refine wpList_store_row rfl 41 _ _ rfl (v1.heap.size) _ rfl rfl 41 _ hz1.out (by kernel_rfl) rfl (by simp [Value.oneCell']) ?_) | (refine wpList_store_row rfl 41 _ _ rfl (v1.heap.size + 1) _ rfl rfl 41 _ hz2.out (by kernel_rfl) rfl (by simp [Value.oneCell']) ?_))
  obtain ⟨v2, hu⟩ : ∃ u, (((v1.alloc (.cells (fV (0, 0)) 41)).alloc (.cells (fV (0, 0)) 41)).setRow v1.heap.size (fV uA)).setRow (v1.heap.size + 1) (fV uB) = u := ⟨_, rfl⟩
  rw [hu] at hs HG HL H5 H6 ⊢
  clear hu hq hz1 hz2 c0 c1 c2 d0 d1 d2 d3 d4
  have hk5w : w.heap.size ≤ v1.heap.size := hv1w
  have hgk : v1.heap.size ≠ w.heap.size := by have := hv1g; omega
  have hlk : v1.heap.size ≠ w.heap.size + 1 := by have := hv1g; omega
  obtain ⟨k5, hk5⟩ : ∃ k, v1.heap.size = k := ⟨_, rfl⟩
  rw [hk5] at H5 H6 hk5w hgk hlk ⊢
  clear hk5
  refine (HRC.out _).mono ?_
  rintro e v3 ⟨rfl, hb⟩
  replace hs := hs.keep hb
  replace HG := Lib.hid (HG.out.keep hb)
  replace HL := Lib.hid (HL.out.keep hb)
  replace H5 := Lib.hid (H5.out.keep hb)
  replace H6 := Lib.hid (H6.out.keep hb)
  clear hb
  have hv3k : k5 + 1 < v3.heap.size := H6.out.lt
  have hz1 := Lib.hid ((Blk.new v3 41 (fV (0, 0))).alloc (.cells (fV (0, 0)) 41))
  have hz2 := Lib.hid ((Blk.new1 v3 (.cells (fV (0, 0)) 41) 41 (fV (0, 0))).rowFar (g' := v3.heap.size) (by omega) (fV uA))
  have hq : Below v3.heap.size v3 ((((v3.alloc (.cells (fV (0, 0)) 41)).alloc (.cells (fV (0, 0)) 41)).setRow v3.heap.size (fV uA)).setRow (v3.heap.size + 1) (fV uB)) := (((((Since.refl v3).alloc (.cells (fV (0, 0)) 41)).alloc (.cells (fV (0, 0)) 41)).row (g := v3.heap.size) (Nat.le_refl _) (fV uA)).row (g := v3.heap.size + 1) (by omega) (fV uB)).1
  have H8 := Lib.hid ((hz1.out.row (fV uA)).rowFar (g' := v3.heap.size + 1) (by omega) (fV uB))
  have H9 := Lib.hid (hz2.out.row (fV uB))
  replace hs := hs.keep hq
  replace HG := Lib.hid (HG.out.keep hq)
  replace HL := Lib.hid (HL.out.keep hq)
  replace H5 := Lib.hid (H5.out.keep hq)
  replace H6 := Lib.hid (H6.out.keep hq)
  obtain ⟨c0, c1, c2⟩ := HG.out.gcells
  obtain ⟨d0, d1, d2, d3, d4⟩ := HL.out.lcells
  obtain ⟨a0, a1⟩ := H5.out.fcells
  obtain ⟨b0, b1⟩ := H6.out.fcells
  obtain ⟨m0, m1⟩ := H8.out.fcells
  obtain ⟨f0, f1⟩ := H9.out.fcells
  have hq1 := HEA.out
  have hq2 := HEB.out
  go_wp2_with (first | (refine wpList_store_row rfl 41 _ _ rfl (v3.heap.size) _ rfl rfl 41 _ hz1.out (by kernel_rfl) rfl (by simp [Value.oneCell']) ?_) | (refine wpList_store_row rfl 41 _ _ rfl (v3.heap.size + 1) _ rfl rfl 41 _ hz2.out (by kernel_rfl) rfl (by simp [Value.oneCell']) ?_))
  obtain ⟨v4, hu⟩ : ∃ u, (((v3.alloc (.cells (fV (0, 0)) 41)).alloc (.cells (fV (0, 0)) 41)).setRow v3.heap.size (fV uA)).setRow (v3.heap.size + 1) (fV uB) = u := ⟨_, rfl⟩
  rw [hu] at hs HG HL H5 H6 H8 H9 ⊢
  clear hu hq hz1 hz2 a0 a1 b0 b1 m0 m1 f0 f1 hq1 hq2 c0 c1 c2 d0 d1 d2 d3 d4
  have hk8w : w.heap.size ≤ v3.heap.size := by have := hv3k; omega
  have hk58 : k5 ≠ v3.heap.size := by have := hv3k; omega
  obtain ⟨k8, hk8⟩ : ∃ k, v3.heap.size = k := ⟨_, rfl⟩
  rw [hk8] at H8 H9 hk8w hk58 ⊢
  clear hk8
  refine (HWC.out _).mono ?_
  rintro e v5 ⟨rfl, hb⟩
  replace hs := hs.keep hb
  replace HG := Lib.hid (HG.out.keep hb)
  replace HL := Lib.hid (HL.out.keep hb)
  replace H5 := Lib.hid (H5.out.keep hb)
  replace H8 := Lib.hid (H8.out.keep hb)
  clear hb
  have hw5 : w.heap.size ≤ k5 := hk5w
  have hw8 : w.heap.size ≤ k8 := hk8w
  have h58 : k5 ≠ k8 := hk58
  have HG6 := Lib.hid (HG.out.rowFar (g' := k5) hgk (fV uW))
  have HL6 := Lib.hid (HL.out.rowFar (g' := k5) hlk (fV uW))
  have H56 := Lib.hid (H5.out.row (fV uW))
  have H86 := Lib.hid (H8.out.rowFar (g' := k5) h58 (fV uW))
  have hs6 := hs.row (g := k5) hw5 (fV uW)
  obtain ⟨c0, c1, c2⟩ := HG6.out.gcells
  obtain ⟨d0, d1, d2, d3, d4⟩ := HL6.out.lcells
  go_wp2_with (refine wpList_store_row rfl 41 _ _ rfl k5 (fV uW) rfl (by first | rfl | (simp; done)) 41 _ H5.out (by kernel_rfl) rfl (by simp [Value.oneCell']) ?_)
  clear c0 c1 c2 d0 d1 d2 d3 d4
  refine (HWR.out _).mono ?_
  rintro e v7 ⟨rfl, hb⟩
  replace hs6 := hs6.keep hb
  replace H56 := Lib.hid (H56.out.keep hb)
  replace H86 := Lib.hid (H86.out.keep hb)
  have H57 := Lib.hid (H56.out.rowFar (g' := k8) (Ne.symm h58) (fV uW))
  have H87 := Lib.hid (H86.out.row (fV uW))
  have hs7 := hs6.row (g := k8) hw8 (fV uW)
  obtain ⟨a0, a1⟩ := H57.out.fcells
  obtain ⟨b0, b1⟩ := H87.out.fcells
  have hq1 := HEW.out
  clear hb
  go_wp2_with (refine wpList_store_row rfl 41 _ _ rfl k8 (fV uW) rfl (by first | rfl | (simp; done)) 41 _ H86.out (by kernel_rfl) rfl (by simp [Value.oneCell']) ?_)
  clear a0 a1 b0 b1 hq1
  refine (awake_c _).mono ?_
  rintro e v8 ⟨rfl, hb⟩
  have hs8 := hs7.keep hb
  clear hb
  go_wp2_with fail
  go_ret
  exact ⟨rfl, hs8.1⟩
end Td
end Go.Proofs.Ytgkdidnmndmlhaa
