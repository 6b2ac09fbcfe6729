import Derived.Test.YtgkdidnmndmlhaaRPse
/- The reference: Price; the law GradePrices. -/
namespace Go.Proofs.Ytgkdidnmndmlhaa
open Go.RowKit
namespace Td
set_option linter.unusedSimpArgs false
set_option linter.unusedVariables false
attribute [local go_sem] Oper.semAt_some
theorem wl_no {lo hi : Int} {xs : List Int} {k : Nat} {x : Int} (h : xs[k]? = some x) (hx : wi lo hi x = false) : wl lo hi xs = false := by
  unfold wl
  rw [List.all_eq_false]
  exact ⟨x, List.mem_of_getElem? h, by rw [hx]; simp⟩
set_option maxRecDepth 100000 in
set_option maxHeartbeats 8000000 in
theorem rPrice_c (P lo hi : Int) (A : Option Addr) (xs : List Int) (c : Nat) (w : World) (hp : InAt w A xs) :
    Calls Try.prog 36 #[.agg (gV P lo hi), .slice A xs.length c] w fun e w' => e = .returned (.tuple #[.agg (fV (priA P lo hi xs).1), .agg (fV (priA P lo hi xs).2.1), .int .i64 (priA P lo hi xs).2.2]) ∧ Below w.heap.size w w' := by
  have hs := (((Since.refl w).alloc (.cells (gV P lo hi) 25)).alloc (.cells (fV (0, 0)) 41)).alloc (.cells (fV (0, 0)) 41)
  have H2 := Lib.hid ((Blk.new1 w (.cells (gV P lo hi) 25) 41 (fV (0, 0))).alloc (.cells (fV (0, 0)) 41))
  have H3 := Lib.hid (Blk.new2 w (.cells (gV P lo hi) 25) (.cells (fV (0, 0)) 41) 41 (fV (0, 0)))
  have HG := Lib.hid (((Blk.new w 25 (gV P lo hi)).alloc (.cells (fV (0, 0)) 41)).alloc (.cells (fV (0, 0)) 41))
  have HP := Lib.hid hp
  obtain ⟨c0, c1, c2⟩ := HG.out.gcells
  obtain ⟨n1, hn1⟩ : ∃ n, xs.length = n := ⟨_, rfl⟩
  by_cases h1 : chkE P lo hi = 0
  · obtain ⟨k1, k2, k3, k4, k5⟩ := chkE_ok.1 h1
    have HCE := Lib.hid h1
    obtain ⟨p1, hp1⟩ : ∃ p, P + 1 = p := ⟨_, rfl⟩
    have w1 : IntKind.i64.wrap (P + 1) = p1 := by rw [hp1]; exact wrapI (by unfold I64; omega)
    by_cases h2 : wi 1 (P + 1) n1 = true
    · have H22 := Lib.hid h2
      rw [hp1] at H22
      have h2' := wi_iff.1 h2
      obtain ⟨ad, rfl, -⟩ := hp (fun e => by rw [e] at hn1; simp at hn1; omega)
      have HGET : Hid (∀ k, k < n1 → ∃ x, xs[k]? = some x ∧ w.cell? (ad.add k) = some (.int .i64 x)) := fun k hk => by
        obtain ⟨a, ea, hc⟩ := hp.get (k := k) (by omega)
        cases ea
        exact ⟨_, List.getElem?_eq_getElem (by omega), hc⟩
      obtain ⟨V, hV⟩ : ∃ V, priA P lo hi xs = V := ⟨_, rfl⟩
      have HVN : Hid (wl 0 100000 xs = false → V = ((0, 0), (0, 0), 7)) := fun h => by
        rw [← hV]; unfold priA; rw [if_pos h1, hn1, if_pos h2, if_neg (by rw [h]; simp)]
      have HVY : Hid (wl 0 100000 xs = true → V = (ip (leastS (eachL (prS P.toNat (n1 - 1) xs) lo.toNat hi.toNat)), ip (mostS (eachL (prS P.toNat (n1 - 1) xs) lo.toNat hi.toNat)), 0)) := fun h => by
        rw [← hV]; unfold priA; rw [if_pos h1, hn1, if_pos h2, if_pos h]
      rw [hV]
      obtain ⟨P, rfl⟩ : ∃ n : Nat, P = n := ⟨P.toNat, by omega⟩
      obtain ⟨lo, rfl⟩ : ∃ n : Nat, lo = n := ⟨lo.toNat, by omega⟩
      obtain ⟨hi, rfl⟩ : ∃ n : Nat, hi = n := ⟨hi.toNat, by omega⟩
      have hlh : lo ≤ hi := by omega
      have hhi : hi ≤ P := by omega
      have hP : P ≤ 20 := by omega
      obtain ⟨n, hn⟩ : ∃ n, n1 = n + 1 := ⟨n1 - 1, by omega⟩
      have hnP : n ≤ P := by omega
      have HN1 := Lib.hid hn1
      have HN9 := Lib.hid hn
      rw [hn1]
      clear h1 h2 h2' hV hp1 hp hn1 hn
      go_enter Try.func36, Try.ntmps36
      go_wp2_with fail
      refine (rCheck_c P lo hi _).mono ?_
      rintro e v1 ⟨rfl, hb⟩
      rw [HCE.out]
      replace hs := Lib.hid (hs.keep hb)
      replace HG := Lib.hid (HG.out.keep hb)
      replace H2 := Lib.hid (H2.out.keep hb)
      replace H3 := Lib.hid (H3.out.keep hb)
      clear hb c0 c1 c2
      obtain ⟨c0, c1, c2⟩ := HG.out.gcells
      go_wp2_with fail
      refine (rin_c 1 p1 n1 _).mono ?_
      rintro e w' ⟨rfl, rfl⟩
      rw [H22.out]
      have HS0 := Lib.hid (Since.refl v1)
      go_wp2_with fail
      clear c0 c1 c2
      go_loopw [7, 8] (fun v i wr => ∃ (k : Nat) (E : Int), k ≤ n1 ∧ v = .int .i64 E ∧ i = .int .i64 k ∧ Hid ((E = 0 ∧ ∀ j, j < k → ∀ x, xs[j]? = some x → wi 0 100000 x = true) ∨ (E = 7 ∧ wl 0 100000 xs = false)) ∧ Hid (Since v1 wr)) (fun _ i _ => n1 - (intOf i).toNat)
      case atStart => exact ⟨0, 0, by omega, rfl, rfl, .inl ⟨rfl, fun j h => absurd h (by omega)⟩, HS0⟩
      case round =>
        clear HS0
        obtain ⟨k, E, hk, rfl, rfl, HK, HS⟩ := hrel
        rcases HK.out with ⟨rfl, hall⟩ | ⟨rfl, hwl⟩
        · have HALL := Lib.hid hall
          clear hall HK
          by_cases hlt : k < n1
          · have q1 : (k : Int) < (n1 : Int) := by omega
            have u1 : IntKind.i64.wrap ((k : Int) + 1) = ((k + 1 : Nat) : Int) := by rw [wrapI (by have := HN9.out; unfold I64; omega)]; omega
            obtain ⟨x, ex, hcx⟩ := HGET.out k hlt
            have cx := keep_cell (hs.out.keep HS.out.1).1 hcx
            have HEX : Hid (xs[k]? = some x) := ex
            clear ex hcx
            go_wp2_with fail
            refine (rin_c 0 100000 x _).mono ?_
            rintro e w' ⟨rfl, rfl⟩
            cases hx : wi 0 100000 x
            · have HWL : Hid (wl 0 100000 xs = false) := wl_no HEX.out hx
              clear hx cx
              go_wp2_with fail
              go_roundw
              case rel => exact ⟨k + 1, 7, by omega, rfl, by go_num, .inr ⟨rfl, HWL⟩, HS⟩
              case measure => simp [intOf]; omega
            · have HALL2 : Hid (∀ j, j < k + 1 → ∀ x, xs[j]? = some x → wi 0 100000 x = true) := fun j hj y hy => by
                rcases Nat.lt_or_ge j k with h | h
                · exact HALL.out j h y hy
                · obtain rfl : j = k := by omega
                  have := HEX.out
                  rw [hy] at this
                  cases this
                  exact hx
              clear hx cx
              go_wp2_with fail
              go_roundw
              case rel => exact ⟨k + 1, 0, by omega, rfl, by go_num, .inl ⟨rfl, HALL2⟩, HS⟩
              case measure => simp [intOf]; omega
          · have q1 : ¬ (k : Int) < (n1 : Int) := by omega
            have hwl : wl 0 100000 xs = true := by
              unfold wl
              rw [List.all_eq_true]
              intro x hx
              obtain ⟨j, hj⟩ := List.getElem?_of_mem hx
              refine HALL.out j ?_ x hj
              have := (List.getElem?_eq_some_iff.1 hj).1
              have := HN1.out
              omega
            have hV2 := HVY.out hwl
            have hn := HN9.out
            simp only [Int.toNat_natCast, hn, Nat.add_sub_cancel] at hV2
            have hxb := wl_mem hwl
            obtain ⟨f, hf⟩ : ∃ f : Nat → Nat × Nat, prS P n xs = f := ⟨_, rfl⟩
            rw [hf] at hV2
            have HCF : Hid (∀ d, d ≤ hi → ∀ W, InAt W (some ad) xs → Calls Try.prog 80 #[.agg (gV P lo hi), .slice (some ad) n1 c, .int .i64 d] W fun e w' => e = .returned (.agg (fV (ip (f d)))) ∧ Below W.heap.size W w') := fun d hd W hW => by
              rw [← hf, ← HN1.out]
              exact rAvg_c lo hi P d n (some ad) xs c W hW (HN1.out.trans hn) hxb (by omega) hnP hP
            have HSMF : Hid (∀ x ∈ eachL f lo hi, Sm x) := fun x hx => by
              obtain ⟨b, h1, h2, rfl⟩ := eachL_mem hx
              rw [← hf]
              exact prS_sm hxb (by omega) hP
            have HNE : Hid (eachL f lo hi ≠ []) := eachL_ne hlh
            have HLEN : Hid ((eachL f lo hi).length ≤ 100) := by show _ ≤ _; rw [eachL_len]; omega
            obtain ⟨uL, hL_⟩ : ∃ u, ip (leastS (eachL f lo hi)) = u := ⟨_, rfl⟩
            obtain ⟨uM, hM_⟩ : ∃ u, ip (mostS (eachL f lo hi)) = u := ⟨_, rfl⟩
            rw [hL_, hM_] at hV2
            have HV : Hid (V = (uL, uM, 0)) := hV2
            have HLU := Lib.hid hL_
            have HMU := Lib.hid hM_
            have HPW := Lib.hid (HP.out.keep (hs.out.keep HS.out.1).1)
            replace HG := Lib.hid (HG.out.keep HS.out.1)
            replace H2 := Lib.hid (H2.out.keep HS.out.1)
            replace H3 := Lib.hid (H3.out.keep HS.out.1)
            replace hs := Lib.hid (hs.out.keep HS.out.1)
            obtain ⟨c0, c1, c2⟩ := HG.out.gcells
            have HO0 : Hid (wr.ownsRow wr.heap.size 41 2 (.slice none 0 0) (firstL f lo 0).length (flS (firstL f lo 0))) := World.ownsRow_nil _ _ _ _
            have HS0 := Lib.hid (Since.refl wr)
            have hsw := hs
            obtain ⟨v2, hv2⟩ : ∃ v2, v2 = wr := ⟨_, rfl⟩
            subst hv2
            clear hwl hV2 hxb hf hL_ hM_ hn HS HVN HVY
            go_wp2_with fail
            clear c0 c1 c2
            go_loopw [9, 10] (fun v i wr => ∃ k : Nat, k ≤ hi + 1 - lo ∧ i = .int .i64 ((lo + k : Nat) : Int) ∧ Hid (Since v2 wr) ∧ Hid (wr.ownsRow v2.heap.size 41 2 v (firstL f lo k).length (flS (firstL f lo k)))) (fun _ i _ => hi + 1 - (intOf i).toNat)
            case atStart => exact ⟨0, by omega, rfl, HS0, HO0⟩
            case round =>
              clear HS0 HO0
              obtain ⟨k, hk, rfl, HS, HO⟩ := hrel
              obtain ⟨c0, c1, c2⟩ := (HG.out.keep HS.out.1).gcells
              by_cases hlt : lo + k ≤ hi
              · obtain ⟨b, hb⟩ : ∃ b, lo + k = b := ⟨_, rfl⟩
                have HB := Lib.hid hb
                rw [hb] at hlt ⊢
                have t1 : (b : Int) ≤ (hi : Int) := by omega
                have w1 : IntKind.i64.wrap ((b : Int) + 1) = ((b + 1 : Nat) : Int) := by rw [wrapI (by unfold I64; omega)]; omega
                have HC9 := Lib.hid (HCF.out b hlt _ (HPW.out.keep HS.out.1))
                clear hb
                go_wp2_with fail
                refine HC9.out.mono ?_
                rintro e w2 ⟨rfl, hb2⟩
                have HS2 := Lib.hid ((HS.out.keep hb2).alloc (.cells (fV (ip (f b))) 41))
                have hb3 : Below wr.heap.size wr (w2.alloc (.cells (fV (ip (f b))) 41)) := hb2.trans (((Below.refl _ w2).alloc (Nat.le_refl _) _).mono hb2.size)
                have HO2 := Lib.hid (own_keep HO.out hb3)
                have HN2 := Lib.hid (Blk.new w2 41 (fV (ip (f b))))
                have HL9 : Hid ((firstL f lo k).length ≤ 1000) := by show _ ≤ _; rw [firstL_len]; omega
                have HF : Hid (firstL f lo (k + 1) = firstL f lo k ++ [f b]) := by show _ = _; rw [firstL_succ, HB.out]
                clear c0 c1 c2 hb2 hb3 HO HS HC9
                go_wp2_with (at_builtin; refine wpList_append_shr styA rfl (.tmp 57) (.tmp 62) rfl v2.heap.size w2.heap.size _ (firstL f lo k) (f b) (by go_simp) (by go_simp) HO2.out HN2.out HL9.out HS2.out.2 ?_)
                rintro v3 w3 ho3 hg3 -
                have hlt3 := HO2.out.lt
                have HS3 : Hid (Since v2 w3) := ⟨HS2.out.1.grown hg3 HS2.out.2 (fun q e => (hlt3 q e).1), Nat.le_trans HS2.out.2 hg3.size⟩
                have HO3 : Hid (w3.ownsRow v2.heap.size 41 2 v3 (firstL f lo (k + 1)).length (flS (firstL f lo (k + 1)))) := by show World.ownsRow _ _ _ _ _ _ _; rw [HF.out, List.length_append]; exact ho3
                clear ho3 hg3 hlt3 HO2 HN2 HS2 HF HL9
                go_wp2_with fail
                go_roundw
                case rel => exact ⟨k + 1, by have := HB.out; omega, by congr 1; have := HB.out; omega, HS3, HO3⟩
                case measure => simp [intOf]; omega
              · have e : k = hi + 1 - lo := by omega
                rw [e, ← eachL_first] at HO
                have t1 : ¬ ((lo + k : Nat) : Int) ≤ (hi : Int) := by omega
                have t2 : ¬ lo + k ≤ hi := hlt
                clear e
                obtain ⟨gL, cL, rfl, hF, hc1, hc2, -, -⟩ := own_shr HO.out HNE.out
                have HEN := Lib.hid (rEnds_c gL _ cL wr HNE.out HLEN.out hF HSMF.out hc1 hc2)
                rw [HLU.out, HMU.out] at HEN
                have H2 := Lib.hid (H2.out.keep HS.out.1)
                have H3 := Lib.hid (H3.out.keep HS.out.1)
                have hs := Lib.hid (hsw.out.keep HS.out.1)
                obtain ⟨nL, hnL⟩ : ∃ n, (eachL f lo hi).length = n := ⟨_, rfl⟩
                rw [hnL] at HEN
                first | rw [hnL] | skip
                clear hnL HO hF hc1 hc2
                go_wp2_with fail
                refine HEN.out.mono ?_
                rintro e v3 ⟨rfl, hb⟩
                replace hs := Lib.hid (hs.out.keep hb)
                replace H2 := Lib.hid (H2.out.keep hb)
                replace H3 := Lib.hid (H3.out.keep hb)
                clear hb HEN
                have hz1 := Lib.hid ((Blk.new v3 41 (fV (0, 0))).alloc (.cells (fV (0, 0)) 41))
                have hz2 := Lib.hid ((Blk.new1 v3 (.cells (fV (0, 0)) 41) 41 (fV (0, 0))).rowFar (g' := v3.heap.size) (by omega) (fV uL))
                have hq : Below v3.heap.size v3 ((((v3.alloc (.cells (fV (0, 0)) 41)).alloc (.cells (fV (0, 0)) 41)).setRow v3.heap.size (fV uL)).setRow (v3.heap.size + 1) (fV uM)) := (((((Since.refl v3).alloc (.cells (fV (0, 0)) 41)).alloc (.cells (fV (0, 0)) 41)).row (g := v3.heap.size) (Nat.le_refl _) (fV uL)).row (g := v3.heap.size + 1) (by omega) (fV uM)).1
                have H4 := Lib.hid ((hz1.out.row (fV uL)).rowFar (g' := v3.heap.size + 1) (by omega) (fV uM))
                have H5 := Lib.hid (hz2.out.row (fV uM))
                have hl3 : w.heap.size + 1 + 1 < v3.heap.size := H3.out.lt
                replace hs := Lib.hid (hs.out.keep hq)
                replace H2 := Lib.hid (H2.out.keep hq)
                replace H3 := Lib.hid (H3.out.keep hq)
                go_wp2_with (first | (refine wpList_store_row rfl 41 _ _ rfl (v3.heap.size) _ rfl rfl 41 _ hz1.out (by kernel_rfl) rfl (by simp [Value.oneCell']) ?_) | (refine wpList_store_row rfl 41 _ _ rfl (v3.heap.size + 1) _ rfl rfl 41 _ hz2.out (by kernel_rfl) rfl (by simp [Value.oneCell']) ?_))
                obtain ⟨g4, hg4⟩ : ∃ k, v3.heap.size = k := ⟨_, rfl⟩
                obtain ⟨v4, hv4⟩ : ∃ u, (((v3.alloc (.cells (fV (0, 0)) 41)).alloc (.cells (fV (0, 0)) 41)).setRow v3.heap.size (fV uL)).setRow (v3.heap.size + 1) (fV uM) = u := ⟨_, rfl⟩
                rw [hv4] at hs H2 H3 H4 H5 ⊢
                rw [hg4] at H4 H5 hl3 ⊢
                obtain ⟨g5, hg5⟩ : ∃ k, g4 + 1 = k := ⟨_, rfl⟩
                rw [hg5] at H5 ⊢
                have h34 : w.heap.size + 1 + 1 < g4 := hl3
                have h35 : w.heap.size + 1 + 1 < g5 := by omega
                have HJ : Hid (Ey w (w.heap.size + 1) (w.heap.size + 1 + 1) g4 g5 uL uM none none v4.drew) := ⟨hs.out.drew, H4.out.drew, H5.out.drew, .inl ⟨rfl, H2.out.drew⟩, .inl ⟨rfl, H3.out.drew⟩⟩
                clear hv4 hg4 hg5 hq hz1 hz2 hs H2 H3 H4 H5 hl3
                try dsimp only [Act.put]
                refine Vals9.region (fun σ X => Ey w (w.heap.size + 1) (w.heap.size + 1 + 1) g4 g5 uL uM (σ 2) (σ 3) X) [some 69, some 70, none, none, some 6] [.is (.agg (fV uL)), .is (.agg (fV uM)), .any, .any, .is (.int .i64 0)] (by kernel_rfl) (by kernel_rfl) (by kernel_rfl) (by kernel_rfl) (by kernel_rfl) (by kernel_rfl) (HJ.out) ?hsteps ?hfin
                case hsteps =>
                  refine Vals9.Steps.run rfl ?_ ?_
                  · intro a W σ hJ pre K hK
                    have e11 := pre.2.2 11 _ (by kernel_rfl) rfl
                    clear pre
                    simp only [Array.getD_eq_getD_getElem?, List.getElem?_toArray, List.getElem?_cons_zero, List.getElem?_cons_succ, Option.getD_some] at e11
                    have hS9 := hJ
                    have hW9 : Ey w (w.heap.size + 1) (w.heap.size + 1 + 1) g4 g5 uL uM (σ 2) (σ 3) W := hS9
                    obtain ⟨m0, m1⟩ := hW9.a.fcells
                    obtain ⟨n0, n1⟩ := hW9.b.fcells
                    go_simp
                    exact hK _ hJ
                  refine Vals9.Steps.run rfl ?_ ?_
                  · intro a W σ hJ pre K hK
                    have e12 := pre.2.2 12 _ (by kernel_rfl) rfl
                    clear pre
                    simp only [Array.getD_eq_getD_getElem?, List.getElem?_toArray, List.getElem?_cons_zero, List.getElem?_cons_succ, Option.getD_some] at e12
                    have hS9 := hJ
                    have hW9 : Ey w (w.heap.size + 1) (w.heap.size + 1 + 1) g4 g5 uL uM (σ 2) (σ 3) W := hS9
                    obtain ⟨m0, m1⟩ := hW9.a.fcells
                    obtain ⟨n0, n1⟩ := hW9.b.fcells
                    go_simp
                    exact hK _ hJ
                  refine Vals9.Steps.mark rfl ?_ ?_
                  · intro a W σ hJ hn pre K hK
                    have e4 := pre.2.2 4 _ (by kernel_rfl) rfl
                    have e69 := pre.1 0 69 _ (by kernel_rfl) rfl rfl
                    simp only [Array.getD_eq_getD_getElem?, List.getElem?_toArray, List.getElem?_cons_zero, List.getElem?_cons_succ, Option.getD_some] at e4 e69
                    have hJ2 : Ey w (w.heap.size + 1) (w.heap.size + 1 + 1) g4 g5 uL uM (σ 2) (σ 3) W := hJ
                    rw [hn] at hJ2
                    rcases hJ2.c with ⟨-, hB⟩ | ⟨q, -⟩
                    · refine wp_store_row 41 _ _ rfl (w.heap.size + 1) (fV uL) (by simpa [Act.eval] using e4) (by simpa [Act.eval] using e69) 41 _ hB (by kernel_rfl) rfl (by simp [Value.oneCell']) ?_
                      exact hK undef _ (hJ2.put1 (by omega) (by omega) h34 h35 undef)
                    · exact absurd rfl q
                  refine Vals9.Steps.mark rfl ?_ ?_
                  · intro a W σ hJ hn pre K hK
                    have e5 := pre.2.2 5 _ (by kernel_rfl) rfl
                    have e70 := pre.1 1 70 _ (by kernel_rfl) rfl rfl
                    simp only [Array.getD_eq_getD_getElem?, List.getElem?_toArray, List.getElem?_cons_zero, List.getElem?_cons_succ, Option.getD_some] at e5 e70
                    have hJ2 : Ey w (w.heap.size + 1) (w.heap.size + 1 + 1) g4 g5 uL uM (σ 2) (σ 3) W := hJ
                    rw [hn] at hJ2
                    rcases hJ2.d with ⟨-, hB⟩ | ⟨q, -⟩
                    · refine wp_store_row 41 _ _ rfl (w.heap.size + 1 + 1) (fV uM) (by simpa [Act.eval] using e5) (by simpa [Act.eval] using e70) 41 _ hB (by kernel_rfl) rfl (by simp [Value.oneCell']) ?_
                      exact hK undef _ (hJ2.put2 (by omega) (by omega) h34 h35 undef)
                    · exact absurd rfl q
                  refine Vals9.Steps.run rfl ?_ ?_
                  · intro a W σ hJ pre K hK
                    clear pre
                    go_simp
                    exact hK _ hJ
                  exact Vals9.Steps.nil
                case hfin =>
                rintro X σ hJ
                simp only [Vals9.All]
                intro va hva vb hvb
                have hJ2 : Ey w (w.heap.size + 1) (w.heap.size + 1 + 1) g4 g5 uL uM (σ 2) (σ 3) X := hJ
                rw [hva, hvb] at hJ2
                have hx2 : Blk X (w.heap.size + 1) 41 (fV uL) := by
                  rcases hJ2.c with ⟨q, -⟩ | ⟨-, h⟩
                  · cases q
                  · exact h
                have hx3 : Blk X (w.heap.size + 1 + 1) 41 (fV uM) := by
                  rcases hJ2.d with ⟨q, -⟩ | ⟨-, h⟩
                  · cases q
                  · exact h
                have hsX := hJ2.sn
                have H8 := Lib.hid hx2
                have H9 := Lib.hid hx3
                clear hJ hJ2 hva hvb hx2 hx3
                simp only [Vals.putAll, List.setIfInBounds_toArray, List.set_cons_zero, List.set_cons_succ]
                go_wp2_with fail
                refine bodyPost_ret (results_cells2t Try.results36 _ _ _ _ _ _ rfl rfl (load_fr H8.out) (load_fr H9.out)) rfl ⟨by first | rfl | (rw [HV.out]; rfl), hsX.1⟩
        · have HV : Hid (V = ((0, 0), (0, 0), 7)) := HVN.out hwl
          replace hs := Lib.hid (hs.out.keep HS.out.1)
          replace H2 := Lib.hid (H2.out.keep HS.out.1)
          replace H3 := Lib.hid (H3.out.keep HS.out.1)
          clear HS HK hwl HVN HVY
          by_cases hlt : k < n1
          · have q1 : (k : Int) < (n1 : Int) := by omega
            have H2' := Lib.hid (H2.out.row (fV (0, 0)))
            have H3' := Lib.hid (H3.out.rowFar (g' := w.heap.size + 1) (by omega) (fV (0, 0)))
            have HA8 := Lib.hid ((H2.out.row (fV (0, 0))).rowFar (g' := w.heap.size + 1 + 1) (by omega) (fV (0, 0)))
            have HA9 := Lib.hid (H3'.out.row (fV (0, 0)))
            have hs8 := (hs.out.row (g := w.heap.size + 1) (by omega) (fV (0, 0))).row (g := w.heap.size + 1 + 1) (by omega) (fV (0, 0))
            go_wp2_with (first | (refine wpList_store_row rfl 41 _ _ rfl (w.heap.size + 1) _ rfl rfl 41 _ H2.out (by kernel_rfl) rfl (by simp [Value.oneCell']) ?_) | (refine wpList_store_row rfl 41 _ _ rfl (w.heap.size + 1 + 1) _ rfl rfl 41 _ H3'.out (by kernel_rfl) rfl (by simp [Value.oneCell']) ?_))
            refine bodyPost_ret (results_cells2t Try.results36 _ _ _ _ _ _ rfl rfl (load_fr HA8.out) (load_fr HA9.out)) rfl ⟨by first | rfl | (rw [HV.out]; rfl), hs8.1⟩
          · have q1 : ¬ (k : Int) < (n1 : Int) := by omega
            have H2' := Lib.hid (H2.out.row (fV (0, 0)))
            have H3' := Lib.hid (H3.out.rowFar (g' := w.heap.size + 1) (by omega) (fV (0, 0)))
            have HA8 := Lib.hid ((H2.out.row (fV (0, 0))).rowFar (g' := w.heap.size + 1 + 1) (by omega) (fV (0, 0)))
            have HA9 := Lib.hid (H3'.out.row (fV (0, 0)))
            have hs8 := (hs.out.row (g := w.heap.size + 1) (by omega) (fV (0, 0))).row (g := w.heap.size + 1 + 1) (by omega) (fV (0, 0))
            go_wp2_with (first | (refine wpList_store_row rfl 41 _ _ rfl (w.heap.size + 1) _ rfl rfl 41 _ H2.out (by kernel_rfl) rfl (by simp [Value.oneCell']) ?_) | (refine wpList_store_row rfl 41 _ _ rfl (w.heap.size + 1 + 1) _ rfl rfl 41 _ H3'.out (by kernel_rfl) rfl (by simp [Value.oneCell']) ?_))
            refine bodyPost_ret (results_cells2t Try.results36 _ _ _ _ _ _ rfl rfl (load_fr HA8.out) (load_fr HA9.out)) rfl ⟨by first | rfl | (rw [HV.out]; rfl), hs8.1⟩
    · have HV0 : priA P lo hi xs = ((0, 0), (0, 0), 3) := by unfold priA; rw [if_pos h1, hn1, if_neg h2]
      have h2' : wi 1 (P + 1) n1 = false := Bool.eq_false_iff.2 h2
      have H22 := Lib.hid h2'
      rw [hp1] at H22
      rw [HV0, hn1]
      have HV : Hid (True) := trivial
      clear h1 h2 h2' HV0 hp1 hp
      go_enter Try.func36, Try.ntmps36
      go_wp2_with fail
      refine (rCheck_c P lo hi _).mono ?_
      rintro e v1 ⟨rfl, hb⟩
      rw [HCE.out]
      replace hs := Lib.hid (hs.keep hb)
      replace HG := Lib.hid (HG.out.keep hb)
      replace H2 := Lib.hid (H2.out.keep hb)
      replace H3 := Lib.hid (H3.out.keep hb)
      clear hb c0 c1 c2
      obtain ⟨c0, c1, c2⟩ := HG.out.gcells
      go_wp2_with fail
      refine (rin_c 1 p1 n1 _).mono ?_
      rintro e w' ⟨rfl, rfl⟩
      rw [H22.out]
      have HS0 := Lib.hid (Since.refl v1)
      go_wp2_with fail
      clear c0 c1 c2 HG
      go_loopw [7, 8] (fun v i wr => v = .int .i64 3 ∧ i = .int .i64 0 ∧ Hid (Since v1 wr)) (fun _ _ _ => 0)
      case atStart => exact ⟨rfl, rfl, HS0⟩
      case round =>
        obtain ⟨rfl, rfl, HS⟩ := hrel
        replace hs := Lib.hid (hs.out.keep HS.out.1)
        replace H2 := Lib.hid (H2.out.keep HS.out.1)
        replace H3 := Lib.hid (H3.out.keep HS.out.1)
        clear HS HS0
        by_cases hn0 : 0 < n1
        · have hn0' : (0 : Int) < (n1 : Int) := by omega
          have H2' := Lib.hid (H2.out.row (fV (0, 0)))
          have H3' := Lib.hid (H3.out.rowFar (g' := w.heap.size + 1) (by omega) (fV (0, 0)))
          have HA8 := Lib.hid ((H2.out.row (fV (0, 0))).rowFar (g' := w.heap.size + 1 + 1) (by omega) (fV (0, 0)))
          have HA9 := Lib.hid (H3'.out.row (fV (0, 0)))
          have hs8 := (hs.out.row (g := w.heap.size + 1) (by omega) (fV (0, 0))).row (g := w.heap.size + 1 + 1) (by omega) (fV (0, 0))
          go_wp2_with (first | (refine wpList_store_row rfl 41 _ _ rfl (w.heap.size + 1) _ rfl rfl 41 _ H2.out (by kernel_rfl) rfl (by simp [Value.oneCell']) ?_) | (refine wpList_store_row rfl 41 _ _ rfl (w.heap.size + 1 + 1) _ rfl rfl 41 _ H3'.out (by kernel_rfl) rfl (by simp [Value.oneCell']) ?_))
          refine bodyPost_ret (results_cells2t Try.results36 _ _ _ _ _ _ rfl rfl (load_fr HA8.out) (load_fr HA9.out)) rfl ⟨by first | rfl | (rw [HV.out]; rfl), hs8.1⟩
        · have hn0' : ¬ (0 : Int) < (n1 : Int) := by omega
          have hn1' : n1 = 0 := by omega
          subst hn1'
          have H2' := Lib.hid (H2.out.row (fV (0, 0)))
          have H3' := Lib.hid (H3.out.rowFar (g' := w.heap.size + 1) (by omega) (fV (0, 0)))
          have HA8 := Lib.hid ((H2.out.row (fV (0, 0))).rowFar (g' := w.heap.size + 1 + 1) (by omega) (fV (0, 0)))
          have HA9 := Lib.hid (H3'.out.row (fV (0, 0)))
          have hs8 := (hs.out.row (g := w.heap.size + 1) (by omega) (fV (0, 0))).row (g := w.heap.size + 1 + 1) (by omega) (fV (0, 0))
          go_wp2_with (first | (refine wpList_store_row rfl 41 _ _ rfl (w.heap.size + 1) _ rfl rfl 41 _ H2.out (by kernel_rfl) rfl (by simp [Value.oneCell']) ?_) | (refine wpList_store_row rfl 41 _ _ rfl (w.heap.size + 1 + 1) _ rfl rfl 41 _ H3'.out (by kernel_rfl) rfl (by simp [Value.oneCell']) ?_))
          refine bodyPost_ret (results_cells2t Try.results36 _ _ _ _ _ _ rfl rfl (load_fr HA8.out) (load_fr HA9.out)) rfl ⟨by first | rfl | (rw [HV.out]; rfl), hs8.1⟩
  · have HV0 : priA P lo hi xs = ((0, 0), (0, 0), chkE P lo hi) := by unfold priA; rw [if_neg h1]
    rw [HV0, hn1]
    have HV : Hid (True) := trivial
    obtain ⟨E, hE⟩ : ∃ E, chkE P lo hi = E := ⟨_, rfl⟩
    have HCE := Lib.hid hE
    rw [hE] at h1 ⊢
    have e1 : (E == 0) = false := by rw [beq_eq_false_iff_ne]; exact h1
    have e2 : (E != 0) = true := by rw [bne_iff_ne]; exact h1
    clear HV0 hE hp
    go_enter Try.func36, Try.ntmps36
    go_wp2_with fail
    refine (rCheck_c P lo hi _).mono ?_
    rintro e v1 ⟨rfl, hb⟩
    rw [HCE.out]
    replace hs := Lib.hid (hs.keep hb)
    replace H2 := Lib.hid (H2.out.keep hb)
    replace H3 := Lib.hid (H3.out.keep hb)
    clear hb c0 c1 c2 HG
    have HS0 := Lib.hid (Since.refl v1)
    go_wp2_with fail
    go_loopw [7, 8] (fun v i wr => v = .int .i64 E ∧ i = .int .i64 0 ∧ Hid (Since v1 wr)) (fun _ _ _ => 0)
    case atStart => exact ⟨rfl, rfl, HS0⟩
    case round =>
      obtain ⟨rfl, rfl, HS⟩ := hrel
      replace hs := Lib.hid (hs.out.keep HS.out.1)
      replace H2 := Lib.hid (H2.out.keep HS.out.1)
      replace H3 := Lib.hid (H3.out.keep HS.out.1)
      clear HS HS0
      by_cases hn0 : 0 < n1
      · have hn0' : (0 : Int) < (n1 : Int) := by omega
        have H2' := Lib.hid (H2.out.row (fV (0, 0)))
        have H3' := Lib.hid (H3.out.rowFar (g' := w.heap.size + 1) (by omega) (fV (0, 0)))
        have HA8 := Lib.hid ((H2.out.row (fV (0, 0))).rowFar (g' := w.heap.size + 1 + 1) (by omega) (fV (0, 0)))
        have HA9 := Lib.hid (H3'.out.row (fV (0, 0)))
        have hs8 := (hs.out.row (g := w.heap.size + 1) (by omega) (fV (0, 0))).row (g := w.heap.size + 1 + 1) (by omega) (fV (0, 0))
        go_wp2_with (first | (refine wpList_store_row rfl 41 _ _ rfl (w.heap.size + 1) _ rfl rfl 41 _ H2.out (by kernel_rfl) rfl (by simp [Value.oneCell']) ?_) | (refine wpList_store_row rfl 41 _ _ rfl (w.heap.size + 1 + 1) _ rfl rfl 41 _ H3'.out (by kernel_rfl) rfl (by simp [Value.oneCell']) ?_))
        refine bodyPost_ret (results_cells2t Try.results36 _ _ _ _ _ _ rfl rfl (load_fr HA8.out) (load_fr HA9.out)) rfl ⟨by first | rfl | (rw [HV.out]; rfl), hs8.1⟩
      · have hn0' : ¬ (0 : Int) < (n1 : Int) := by omega
        have hn1' : n1 = 0 := by omega
        subst hn1'
        have H2' := Lib.hid (H2.out.row (fV (0, 0)))
        have H3' := Lib.hid (H3.out.rowFar (g' := w.heap.size + 1) (by omega) (fV (0, 0)))
        have HA8 := Lib.hid ((H2.out.row (fV (0, 0))).rowFar (g' := w.heap.size + 1 + 1) (by omega) (fV (0, 0)))
        have HA9 := Lib.hid (H3'.out.row (fV (0, 0)))
        have hs8 := (hs.out.row (g := w.heap.size + 1) (by omega) (fV (0, 0))).row (g := w.heap.size + 1 + 1) (by omega) (fV (0, 0))
        go_wp2_with (first | (refine wpList_store_row rfl 41 _ _ rfl (w.heap.size + 1) _ rfl rfl 41 _ H2.out (by kernel_rfl) rfl (by simp [Value.oneCell']) ?_) | (refine wpList_store_row rfl 41 _ _ rfl (w.heap.size + 1 + 1) _ rfl rfl 41 _ H3'.out (by kernel_rfl) rfl (by simp [Value.oneCell']) ?_))
        refine bodyPost_ret (results_cells2t Try.results36 _ _ _ _ _ _ rfl rfl (load_fr HA8.out) (load_fr HA9.out)) rfl ⟨by first | rfl | (rw [HV.out]; rfl), hs8.1⟩
end Td
end Go.Proofs.Ytgkdidnmndmlhaa
