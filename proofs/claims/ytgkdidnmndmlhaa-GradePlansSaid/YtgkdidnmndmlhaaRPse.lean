import Derived.Test.YtgkdidnmndmlhaaRCha
import Derived.Test.YtgkdidnmndmlhaaREnd
/- The reference: Passes. -/
namespace Go.Proofs.Ytgkdidnmndmlhaa
open Go.RowKit
namespace Td
set_option linter.unusedSimpArgs false
set_option linter.unusedVariables false
attribute [local go_sem] Oper.semAt_some
/-- the results: two boxes that two others are put into. -/
structure Ey (w : World) (r2 r3 g4 g5 : Nat) (uL uM : Int × Int) (s t : Option Value) (X : World) : Prop where
  sn : Since w X
  a : Blk X g4 41 (fV uL)
  b : Blk X g5 41 (fV uM)
  c : (s = none ∧ Blk X r2 41 (fV (0, 0))) ∨ (s ≠ none ∧ Blk X r2 41 (fV uL))
  d : (t = none ∧ Blk X r3 41 (fV (0, 0))) ∨ (t ≠ none ∧ Blk X r3 41 (fV uM))
theorem Ey.put1 {w : World} {r2 r3 g4 g5 : Nat} {uL uM : Int × Int} {t : Option Value} {X : World} (h : Ey w r2 r3 g4 g5 uL uM none t X) (h2 : w.heap.size ≤ r2) (h23 : r2 < r3) (h4 : r3 < g4) (h5 : r3 < g5) (v : Value) : Ey w r2 r3 g4 g5 uL uM (some v) t (X.setRow r2 (fV uL)) := by
  rcases h.c with ⟨-, k⟩ | ⟨q, -⟩
  · exact ⟨h.sn.row h2 _, h.a.rowFar (by omega) _, h.b.rowFar (by omega) _, .inr ⟨by simp, k.row _⟩, by
      rcases h.d with ⟨q, k⟩ | ⟨q, k⟩
      · exact .inl ⟨q, k.rowFar (by omega) _⟩
      · exact .inr ⟨q, k.rowFar (by omega) _⟩⟩
  · exact absurd rfl q
theorem Ey.put2 {w : World} {r2 r3 g4 g5 : Nat} {uL uM : Int × Int} {s : Option Value} {X : World} (h : Ey w r2 r3 g4 g5 uL uM s none X) (h2 : w.heap.size ≤ r2) (h23 : r2 < r3) (h4 : r3 < g4) (h5 : r3 < g5) (v : Value) : Ey w r2 r3 g4 g5 uL uM s (some v) (X.setRow r3 (fV uM)) := by
  rcases h.d with ⟨-, k⟩ | ⟨q, -⟩
  · exact ⟨h.sn.row (by omega) _, h.a.rowFar (by omega) _, h.b.rowFar (by omega) _, by
      rcases h.c with ⟨q, k⟩ | ⟨q, k⟩
      · exact .inl ⟨q, k.rowFar (by omega) _⟩
      · exact .inr ⟨q, k.rowFar (by omega) _⟩, .inr ⟨by simp, k.row _⟩⟩
  · exact absurd rfl q
set_option maxRecDepth 100000 in
set_option maxHeartbeats 8000000 in
theorem rPasses_c (P lo hi fi pa fa se to : Int) (w : World) :
    Calls Try.prog 28 #[.agg (gV P lo hi), .agg (lV fi pa fa se to)] w fun e w' => e = .returned (.tuple #[.agg (fV (pasA P lo hi fi pa fa se to).1), .agg (fV (pasA P lo hi fi pa fa se to).2.1), .int .i64 (pasA P lo hi fi pa fa se to).2.2]) ∧ Below w.heap.size w w' := by
  have hs := ((((Since.refl w).alloc (.cells (gV P lo hi) 25)).alloc (.cells (lV fi pa fa se to) 38)).alloc (.cells (fV (0, 0)) 41)).alloc (.cells (fV (0, 0)) 41)
  have HL := Lib.hid (((Blk.new1 w (.cells (gV P lo hi) 25) 38 (lV fi pa fa se to)).alloc (.cells (fV (0, 0)) 41)).alloc (.cells (fV (0, 0)) 41))
  have H2 := Lib.hid ((Blk.new2 w (.cells (gV P lo hi) 25) (.cells (lV fi pa fa se to) 38) 41 (fV (0, 0))).alloc (.cells (fV (0, 0)) 41))
  have H3 := Lib.hid (Blk.new3 w (.cells (gV P lo hi) 25) (.cells (lV fi pa fa se to) 38) (.cells (fV (0, 0)) 41) 41 (fV (0, 0)))
  have HG := Lib.hid ((((Blk.new w 25 (gV P lo hi)).alloc (.cells (lV fi pa fa se to) 38)).alloc (.cells (fV (0, 0)) 41)).alloc (.cells (fV (0, 0)) 41))
  have HPL : Hid (∀ W, Calls Try.prog 66 #[.agg (gV P lo hi), .agg (lV fi pa fa se to)] W fun e w' => e = .returned (.int .i64 (chkP P lo hi fi pa fa se to)) ∧ Below W.heap.size W w') := fun W => rplanned_c P lo hi fi pa fa se to W
  obtain ⟨c0, c1, c2⟩ := HG.out.gcells
  obtain ⟨d0, d1, d2, d3, d4⟩ := HL.out.lcells
  by_cases hc : chkP P lo hi fi pa fa se to = 0
  · rw [hc] at HPL
    obtain ⟨P, lo, hi, F, pa, fa, S, to, rfl, rfl, rfl, rfl, rfl, rfl, rfl, rfl, hlh, hhi, hP, hfit⟩ := nats8 hc
    obtain ⟨f, hf⟩ : ∃ f : Nat → Nat × Nat, (fun d => chS P F pa fa S to d) = f := ⟨_, rfl⟩
    have hbd : pa ≤ 20 ∧ fa ≤ 21 ∧ to ≤ 20 := by
      obtain ⟨b1, b2, b3, b4, b5, b6, b7, b8, b9, b10, -, -⟩ := planE_ok (chkP_ok hc).2
      omega
    have HCF : Hid (∀ d, d ≤ hi → ∀ W, Calls Try.prog 67 #[.agg (gV P lo hi), .agg (lV F pa fa S to), .int .i64 d] W fun e w' => e = .returned (.agg (fV (ip (f d)))) ∧ Below W.heap.size W w') := fun d hd W => by
      rw [← hf]
      exact rChance_c lo hi P F pa fa S to d W (hfit d (by omega)) hbd.1 hbd.2.1 hbd.2.2
    have HV0 : pasA P lo hi F pa fa S to = (ip (leastS (eachL f lo hi)), ip (mostS (eachL f lo hi)), 0) := by unfold pasA; rw [if_pos hc]; simp only [Int.toNat_natCast, hf]
    have HSMF : Hid (∀ x ∈ eachL f lo hi, Sm x) := fun x hx => by
      obtain ⟨b, h1, h2, rfl⟩ := eachL_mem hx
      rw [← hf]
      exact chS_sm (hfit b (by omega))
    have HNE : Hid (eachL f lo hi ≠ []) := eachL_ne hlh
    have HLEN : Hid ((eachL f lo hi).length ≤ 100) := by show _ ≤ _; rw [eachL_len]; omega
    rw [HV0]
    obtain ⟨uL, hL_⟩ : ∃ u, ip (leastS (eachL f lo hi)) = u := ⟨_, rfl⟩
    obtain ⟨uM, hM_⟩ : ∃ u, ip (mostS (eachL f lo hi)) = u := ⟨_, rfl⟩
    rw [hL_, hM_]
    have HLU := Lib.hid hL_
    have HMU := Lib.hid hM_
    clear HV0 hL_ hM_ hf hc hfit hbd
    go_enter Try.func28, Try.ntmps28
    go_wp2_with fail
    refine (HPL.out _).mono ?_
    rintro e v1 ⟨rfl, hb⟩
    replace hs := hs.keep hb
    replace HG := Lib.hid (HG.out.keep hb)
    replace HL := Lib.hid (HL.out.keep hb)
    replace H2 := Lib.hid (H2.out.keep hb)
    replace H3 := Lib.hid (H3.out.keep hb)
    clear hb c0 c1 c2 d0 d1 d2 d3 d4 HPL
    obtain ⟨c0, c1, c2⟩ := HG.out.gcells
    have HO0 : Hid (v1.ownsRow v1.heap.size 41 2 (.slice none 0 0) (firstL f lo 0).length (flS (firstL f lo 0))) := World.ownsRow_nil _ _ _ _
    have HS0 := Lib.hid (Since.refl v1)
    have hsw := Lib.hid hs
    clear hs
    go_wp2_with fail
    clear c0 c1 c2
    go_loopw [8, 9] (fun v i wr => ∃ k : Nat, k ≤ hi + 1 - lo ∧ i = .int .i64 ((lo + k : Nat) : Int) ∧ Hid (Since v1 wr) ∧ Hid (wr.ownsRow v1.heap.size 41 2 v (firstL f lo k).length (flS (firstL f lo k)))) (fun _ i _ => hi + 1 - (intOf i).toNat)
    case atStart => exact ⟨0, by omega, rfl, HS0, HO0⟩
    case round =>
      clear HS0 HO0
      obtain ⟨k, hk, rfl, HS, HO⟩ := hrel
      obtain ⟨c0, c1, c2⟩ := (HG.out.keep HS.out.1).gcells
      obtain ⟨d0, d1, d2, d3, d4⟩ := (HL.out.keep HS.out.1).lcells
      by_cases hlt : lo + k ≤ hi
      · obtain ⟨b, hb⟩ : ∃ b, lo + k = b := ⟨_, rfl⟩
        have HB := Lib.hid hb
        rw [hb] at hlt ⊢
        have t1 : (b : Int) ≤ (hi : Int) := by omega
        have w1 : IntKind.i64.wrap ((b : Int) + 1) = ((b + 1 : Nat) : Int) := by rw [wrapI (by unfold I64; omega)]; omega
        clear hb
        go_wp2_with fail
        refine (HCF.out b hlt _).mono ?_
        rintro e w2 ⟨rfl, hb2⟩
        have HS2 := Lib.hid ((HS.out.keep hb2).alloc (.cells (fV (ip (f b))) 41))
        have hb3 : Below wr.heap.size wr (w2.alloc (.cells (fV (ip (f b))) 41)) := hb2.trans (((Below.refl _ w2).alloc (Nat.le_refl _) _).mono hb2.size)
        have HO2 := Lib.hid (own_keep HO.out hb3)
        have HN2 := Lib.hid (Blk.new w2 41 (fV (ip (f b))))
        have HL9 : Hid ((firstL f lo k).length ≤ 1000) := by show _ ≤ _; rw [firstL_len]; omega
        have HF : Hid (firstL f lo (k + 1) = firstL f lo k ++ [f b]) := by show _ = _; rw [firstL_succ, HB.out]
        clear c0 c1 c2 d0 d1 d2 d3 d4 hb2 hb3 HO HS
        go_wp2_with (at_builtin; refine wpList_append_shr styA rfl (.tmp 30) (.tmp 35) rfl v1.heap.size w2.heap.size _ (firstL f lo k) (f b) (by go_simp) (by go_simp) HO2.out HN2.out HL9.out HS2.out.2 ?_)
        rintro v3 w3 ho3 hg3 -
        have hlt3 := HO2.out.lt
        have HS3 : Hid (Since v1 w3) := ⟨HS2.out.1.grown hg3 HS2.out.2 (fun q e => (hlt3 q e).1), Nat.le_trans HS2.out.2 hg3.size⟩
        have HO3 : Hid (w3.ownsRow v1.heap.size 41 2 v3 (firstL f lo (k + 1)).length (flS (firstL f lo (k + 1)))) := by show World.ownsRow _ _ _ _ _ _ _; rw [HF.out, List.length_append]; exact ho3
        clear ho3 hg3 hlt3 HO2 HN2 HS2 HF HL9
        go_wp2_with fail
        go_roundw
        case rel => exact ⟨k + 1, by have := HB.out; omega, by congr 1; have := HB.out; omega, HS3, HO3⟩
        case measure => simp [intOf]; omega
      · have e : k = hi + 1 - lo := by omega
        rw [e, ← eachL_first] at HO
        have t1 : ¬ ((lo + k : Nat) : Int) ≤ (hi : Int) := by omega
        have t2 : ¬ lo + k ≤ hi := hlt
        clear e
        obtain ⟨gL, cL, rfl, hF, hc1, hc2, -, -⟩ := own_shr HO.out HNE.out
        have HEN := Lib.hid (rEnds_c gL _ cL wr HNE.out HLEN.out hF HSMF.out hc1 hc2)
        rw [HLU.out, HMU.out] at HEN
        have H2 := Lib.hid (H2.out.keep HS.out.1)
        have H3 := Lib.hid (H3.out.keep HS.out.1)
        have hs := Lib.hid (hsw.out.keep HS.out.1)
        obtain ⟨nL, hnL⟩ : ∃ n, (eachL f lo hi).length = n := ⟨_, rfl⟩
        rw [hnL] at HEN
        first | rw [hnL] | skip
        clear hnL HO hF hc1 hc2
        go_wp2_with fail
        refine HEN.out.mono ?_
        rintro e v3 ⟨rfl, hb⟩
        replace hs := Lib.hid (hs.out.keep hb)
        replace H2 := Lib.hid (H2.out.keep hb)
        replace H3 := Lib.hid (H3.out.keep hb)
        clear hb HEN
        have hz1 := Lib.hid ((Blk.new v3 41 (fV (0, 0))).alloc (.cells (fV (0, 0)) 41))
        have hz2 := Lib.hid ((Blk.new1 v3 (.cells (fV (0, 0)) 41) 41 (fV (0, 0))).rowFar (g' := v3.heap.size) (by omega) (fV uL))
        have hq : Below v3.heap.size v3 ((((v3.alloc (.cells (fV (0, 0)) 41)).alloc (.cells (fV (0, 0)) 41)).setRow v3.heap.size (fV uL)).setRow (v3.heap.size + 1) (fV uM)) := (((((Since.refl v3).alloc (.cells (fV (0, 0)) 41)).alloc (.cells (fV (0, 0)) 41)).row (g := v3.heap.size) (Nat.le_refl _) (fV uL)).row (g := v3.heap.size + 1) (by omega) (fV uM)).1
        have H4 := Lib.hid ((hz1.out.row (fV uL)).rowFar (g' := v3.heap.size + 1) (by omega) (fV uM))
        have H5 := Lib.hid (hz2.out.row (fV uM))
        have hl3 : w.heap.size + 1 + 1 + 1 < v3.heap.size := H3.out.lt
        replace hs := Lib.hid (hs.out.keep hq)
        replace H2 := Lib.hid (H2.out.keep hq)
        replace H3 := Lib.hid (H3.out.keep hq)
        go_wp2_with (first | (refine wpList_store_row rfl 41 _ _ rfl (v3.heap.size) _ rfl rfl 41 _ hz1.out (by kernel_rfl) rfl (by simp [Value.oneCell']) ?_) | (refine wpList_store_row rfl 41 _ _ rfl (v3.heap.size + 1) _ rfl rfl 41 _ hz2.out (by kernel_rfl) rfl (by simp [Value.oneCell']) ?_))
        obtain ⟨g4, hg4⟩ : ∃ k, v3.heap.size = k := ⟨_, rfl⟩
        obtain ⟨v4, hv4⟩ : ∃ u, (((v3.alloc (.cells (fV (0, 0)) 41)).alloc (.cells (fV (0, 0)) 41)).setRow v3.heap.size (fV uL)).setRow (v3.heap.size + 1) (fV uM) = u := ⟨_, rfl⟩
        rw [hv4] at hs H2 H3 H4 H5 ⊢
        rw [hg4] at H4 H5 hl3 ⊢
        obtain ⟨g5, hg5⟩ : ∃ k, g4 + 1 = k := ⟨_, rfl⟩
        rw [hg5] at H5 ⊢
        have h34 : w.heap.size + 1 + 1 + 1 < g4 := hl3
        have h35 : w.heap.size + 1 + 1 + 1 < g5 := by omega
        have HJ : Hid (Ey w (w.heap.size + 1 + 1) (w.heap.size + 1 + 1 + 1) g4 g5 uL uM none none v4.drew) := ⟨hs.out.drew, H4.out.drew, H5.out.drew, .inl ⟨rfl, H2.out.drew⟩, .inl ⟨rfl, H3.out.drew⟩⟩
        clear hv4 hg4 hg5 hq hz1 hz2 hs H2 H3 H4 H5 hl3
        try dsimp only [Act.put]
        refine Vals9.region (fun σ X => Ey w (w.heap.size + 1 + 1) (w.heap.size + 1 + 1 + 1) g4 g5 uL uM (σ 2) (σ 3) X) [some 42, some 43, none, none, some 6] [.is (.agg (fV uL)), .is (.agg (fV uM)), .any, .any, .is (.int .i64 0)] (by kernel_rfl) (by kernel_rfl) (by kernel_rfl) (by kernel_rfl) (by kernel_rfl) (by kernel_rfl) (HJ.out) ?hsteps ?hfin
        case hsteps =>
          refine Vals9.Steps.run rfl ?_ ?_
          · intro a W σ hJ pre K hK
            have e10 := pre.2.2 10 _ (by kernel_rfl) rfl
            clear pre
            simp only [Array.getD_eq_getD_getElem?, List.getElem?_toArray, List.getElem?_cons_zero, List.getElem?_cons_succ, Option.getD_some] at e10
            have hS9 := hJ
            have hW9 : Ey w (w.heap.size + 1 + 1) (w.heap.size + 1 + 1 + 1) g4 g5 uL uM (σ 2) (σ 3) W := hS9
            obtain ⟨m0, m1⟩ := hW9.a.fcells
            obtain ⟨n0, n1⟩ := hW9.b.fcells
            go_simp
            exact hK _ hJ
          refine Vals9.Steps.run rfl ?_ ?_
          · intro a W σ hJ pre K hK
            have e11 := pre.2.2 11 _ (by kernel_rfl) rfl
            clear pre
            simp only [Array.getD_eq_getD_getElem?, List.getElem?_toArray, List.getElem?_cons_zero, List.getElem?_cons_succ, Option.getD_some] at e11
            have hS9 := hJ
            have hW9 : Ey w (w.heap.size + 1 + 1) (w.heap.size + 1 + 1 + 1) g4 g5 uL uM (σ 2) (σ 3) W := hS9
            obtain ⟨m0, m1⟩ := hW9.a.fcells
            obtain ⟨n0, n1⟩ := hW9.b.fcells
            go_simp
            exact hK _ hJ
          refine Vals9.Steps.mark rfl ?_ ?_
          · intro a W σ hJ hn pre K hK
            have e4 := pre.2.2 4 _ (by kernel_rfl) rfl
            have e42 := pre.1 0 42 _ (by kernel_rfl) rfl rfl
            simp only [Array.getD_eq_getD_getElem?, List.getElem?_toArray, List.getElem?_cons_zero, List.getElem?_cons_succ, Option.getD_some] at e4 e42
            have hJ2 : Ey w (w.heap.size + 1 + 1) (w.heap.size + 1 + 1 + 1) g4 g5 uL uM (σ 2) (σ 3) W := hJ
            rw [hn] at hJ2
            rcases hJ2.c with ⟨-, hB⟩ | ⟨q, -⟩
            · refine wp_store_row 41 _ _ rfl (w.heap.size + 1 + 1) (fV uL) (by simpa [Act.eval] using e4) (by simpa [Act.eval] using e42) 41 _ hB (by kernel_rfl) rfl (by simp [Value.oneCell']) ?_
              exact hK undef _ (hJ2.put1 (by omega) (by omega) h34 h35 undef)
            · exact absurd rfl q
          refine Vals9.Steps.mark rfl ?_ ?_
          · intro a W σ hJ hn pre K hK
            have e5 := pre.2.2 5 _ (by kernel_rfl) rfl
            have e43 := pre.1 1 43 _ (by kernel_rfl) rfl rfl
            simp only [Array.getD_eq_getD_getElem?, List.getElem?_toArray, List.getElem?_cons_zero, List.getElem?_cons_succ, Option.getD_some] at e5 e43
            have hJ2 : Ey w (w.heap.size + 1 + 1) (w.heap.size + 1 + 1 + 1) g4 g5 uL uM (σ 2) (σ 3) W := hJ
            rw [hn] at hJ2
            rcases hJ2.d with ⟨-, hB⟩ | ⟨q, -⟩
            · refine wp_store_row 41 _ _ rfl (w.heap.size + 1 + 1 + 1) (fV uM) (by simpa [Act.eval] using e5) (by simpa [Act.eval] using e43) 41 _ hB (by kernel_rfl) rfl (by simp [Value.oneCell']) ?_
              exact hK undef _ (hJ2.put2 (by omega) (by omega) h34 h35 undef)
            · exact absurd rfl q
          refine Vals9.Steps.run rfl ?_ ?_
          · intro a W σ hJ pre K hK
            clear pre
            go_simp
            exact hK _ hJ
          exact Vals9.Steps.nil
        case hfin =>
        rintro X σ hJ
        simp only [Vals9.All]
        intro va hva vb hvb
        have hJ2 : Ey w (w.heap.size + 1 + 1) (w.heap.size + 1 + 1 + 1) g4 g5 uL uM (σ 2) (σ 3) X := hJ
        rw [hva, hvb] at hJ2
        have hx2 : Blk X (w.heap.size + 1 + 1) 41 (fV uL) := by
          rcases hJ2.c with ⟨q, -⟩ | ⟨-, h⟩
          · cases q
          · exact h
        have hx3 : Blk X (w.heap.size + 1 + 1 + 1) 41 (fV uM) := by
          rcases hJ2.d with ⟨q, -⟩ | ⟨-, h⟩
          · cases q
          · exact h
        have hsX := hJ2.sn
        have H8 := Lib.hid hx2
        have H9 := Lib.hid hx3
        clear hJ hJ2 hva hvb hx2 hx3
        simp only [Vals.putAll, List.setIfInBounds_toArray, List.set_cons_zero, List.set_cons_succ]
        go_wp2_with fail
        refine bodyPost_ret (results_cells2t Try.results28 _ _ _ _ _ _ rfl rfl (load_fr H8.out) (load_fr H9.out)) rfl ⟨by first | rfl | (rw [HV.out]; rfl), hsX.1⟩
  · have HV : Hid (pasA P lo hi fi pa fa se to = ((0, 0), (0, 0), chkP P lo hi fi pa fa se to)) := by show _ = _; unfold pasA; rw [if_neg hc]
    rw [HV.out]
    obtain ⟨E, hE⟩ : ∃ E, chkP P lo hi fi pa fa se to = E := ⟨_, rfl⟩
    rw [hE] at HPL hc ⊢
    have hE' : (E != 0) = true := by simpa using hc
    clear hE HV
    go_enter Try.func28, Try.ntmps28
    go_wp2_with fail
    refine (HPL.out _).mono ?_
    rintro e v1 ⟨rfl, hb⟩
    replace hs := hs.keep hb
    replace H2 := Lib.hid (H2.out.keep hb)
    replace H3 := Lib.hid (H3.out.keep hb)
    clear hb c0 c1 c2 d0 d1 d2 d3 d4 HPL HG HL
    have H2' := Lib.hid (H2.out.row (fV (0, 0)))
    have H3' := Lib.hid (H3.out.rowFar (g' := w.heap.size + 1 + 1) (by omega) (fV (0, 0)))
    have HA8 := Lib.hid ((H2.out.row (fV (0, 0))).rowFar (g' := w.heap.size + 1 + 1 + 1) (by omega) (fV (0, 0)))
    have HA9 := Lib.hid (H3'.out.row (fV (0, 0)))
    have hs8 := (hs.row (g := w.heap.size + 1 + 1) (by omega) (fV (0, 0))).row (g := w.heap.size + 1 + 1 + 1) (by omega) (fV (0, 0))
    go_wp2_with (first | (refine wpList_store_row rfl 41 _ _ rfl (w.heap.size + 1 + 1) _ rfl rfl 41 _ H2.out (by kernel_rfl) rfl (by simp [Value.oneCell']) ?_) | (refine wpList_store_row rfl 41 _ _ rfl (w.heap.size + 1 + 1 + 1) _ rfl rfl 41 _ H3'.out (by kernel_rfl) rfl (by simp [Value.oneCell']) ?_))
    refine bodyPost_ret (results_cells2t Try.results28 _ _ _ _ _ _ rfl rfl (load_fr HA8.out) (load_fr HA9.out)) rfl ⟨by first | rfl | (rw [HV.out]; rfl), hs8.1⟩
end Td
end Go.Proofs.Ytgkdidnmndmlhaa
