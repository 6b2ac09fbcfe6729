import Derived.Test.YtgkdidnmndmlhaaExpA
/- The exported function Price. -/
namespace Go.Proofs.Ytgkdidnmndmlhaa
open Go.RowKit
namespace Td
set_option linter.unusedSimpArgs false
set_option linter.unusedVariables false
attribute [local go_sem] Oper.semAt_some
/-- what Price answers. -/
def priA (P lo hi : Int) (xs : List Int) : (Int × Int) × (Int × Int) × Int :=
  if chkE P lo hi = 0 then
    if wi 1 (P + 1) xs.length = true then
      if wl 0 100000 xs = true then
        (ip (leastS (eachL (prS P.toNat (xs.length - 1) xs) lo.toNat hi.toNat)), ip (mostS (eachL (prS P.toNat (xs.length - 1) xs) lo.toNat hi.toNat)), 0)
      else ((0, 0), (0, 0), 7)
    else ((0, 0), (0, 0), 3)
  else ((0, 0), (0, 0), chkE P lo hi)
theorem wl_mem {lo hi : Int} {xs : List Int} (h : wl lo hi xs = true) : ∀ x ∈ xs, lo ≤ x ∧ x ≤ hi := fun x hx => by
  unfold wl at h
  exact wi_iff.1 (List.all_eq_true.1 h x hx)
set_option maxRecDepth 100000 in
set_option maxHeartbeats 4000000 in
theorem Price_c (P lo hi : Int) (A : Option Addr) (xs : List Int) (c : Nat) (w : World) (hp : InAt w A xs) :
    Calls Try.prog 35 #[.agg (gV P lo hi), .slice A xs.length c] w fun e w' => e = .returned (.tuple #[.agg (fV (priA P lo hi xs).1), .agg (fV (priA P lo hi xs).2.1), .int .i64 (priA P lo hi xs).2.2]) ∧ Below w.heap.size w w' := by
  have hs0 := ((((Since.refl w).alloc (.cells (gV P lo hi) 25)).alloc (.cells #[.slice A xs.length c] 51)).alloc (.cells (fV (0, 0)) 41)).alloc (.cells (fV (0, 0)) 41)
  have HL := Lib.hid (((Blk.new1 w (.cells (gV P lo hi) 25) 51 #[.slice A xs.length c]).alloc (.cells (fV (0, 0)) 41)).alloc (.cells (fV (0, 0)) 41))
  have H1 := Lib.hid ((Blk.new2 w (.cells (gV P lo hi) 25) (.cells #[.slice A xs.length c] 51) 41 (fV (0, 0))).alloc (.cells (fV (0, 0)) 41))
  have H2 := Lib.hid (Blk.new3 w (.cells (gV P lo hi) 25) (.cells #[.slice A xs.length c] 51) (.cells (fV (0, 0)) 41) 41 (fV (0, 0)))
  have HG := Lib.hid ((((Blk.new w 25 (gV P lo hi)).alloc (.cells #[.slice A xs.length c] 51)).alloc (.cells (fV (0, 0)) 41)).alloc (.cells (fV (0, 0)) 41))
  obtain ⟨c0, c1, c2⟩ := HG.out.gcells
  have HP := Lib.hid hp
  clear hp
  go_enter Try.func35, Try.ntmps35
  go_wp2_with fail
  refine (look_c P lo hi _).mono ?_
  rintro e w1 ⟨hb1, ⟨hc, g, rfl, hg⟩ | ⟨hc, rfl⟩⟩
  · have hs1 := (hs0.keep hb1).alloc (.cells #[hpP g] 87)
    have HL1 := Lib.hid ((HL.out.keep hb1).alloc (.cells #[hpP g] 87))
    have HQ1 := Lib.hid ((HG.out.keep hb1).alloc (.cells #[hpP g] 87))
    have H3 := Lib.hid ((H1.out.keep hb1).alloc (.cells #[hpP g] 87))
    have H4 := Lib.hid ((H2.out.keep hb1).alloc (.cells #[hpP g] 87))
    have HB1 := Lib.hid (Blk.new w1 87 #[hpP g])
    have HG1 := Lib.hid (hg.alloc (.cells #[hpP g] 87))
    clear c0 c1 c2 HG HL H1 H2 hb1 hg
    obtain ⟨c0, c1, c2⟩ := HQ1.out.gcells
    have l0 := HL1.out.cell 0
    simp only [List.getElem?_toArray, List.getElem?_cons_zero] at l0
    obtain ⟨a1, a2, a3, a4, a5⟩ := chkE_ok.1 hc
    have HC := Lib.hid hc
    have t1 : IntKind.i64.wrap (P + 1) = P + 1 := wrapI (by unfold I64; omega)
    clear hc
    obtain ⟨W1, hW1⟩ : ∃ W1, w1.alloc (.cells #[hpP g] 87) = W1 := ⟨_, rfl⟩
    obtain ⟨gb, hgb⟩ : ∃ gb, w1.heap.size = gb := ⟨_, rfl⟩
    rw [hgb] at HB1
    rw [hW1] at hs1 HL1 HQ1 H3 H4 HB1 HG1 c0 c1 c2 l0
    have hs2 := hs1.alloc (.cells #[.int .i64 xs.length] 3)
    have H5 := Lib.hid (H3.out.alloc (.cells #[.int .i64 xs.length] 3))
    have H6 := Lib.hid (H4.out.alloc (.cells #[.int .i64 xs.length] 3))
    cases h0 : wi 1 (P + 1) xs.length
    · have HV : Hid (priA P lo hi xs = ((0, 0), (0, 0), 3)) := by show _ = _; unfold priA; rw [if_pos HC.out, if_neg (by rw [h0]; intro h; cases h)]
      have H0 := Lib.hid h0
      obtain ⟨n, hn⟩ : ∃ n, xs.length = n := ⟨_, rfl⟩
      rw [hn] at H0 H5 H6 hs2 l0 ⊢
      have H7' := Lib.hid (H6.out.rowFar (g' := w.heap.size + 1 + 1) (by omega) (fV (0, 0)))
      have H7 := Lib.hid ((H5.out.row (fV (0, 0))).rowFar (g' := w.heap.size + 1 + 1 + 1) (by omega) (fV (0, 0)))
      have H8 := Lib.hid (H7'.out.row (fV (0, 0)))
      have HS8 := Lib.hid ((hs2.row (g := w.heap.size + 1 + 1) (by omega) (fV (0, 0))).row (g := w.heap.size + 1 + 1 + 1) (by omega) (fV (0, 0)))
      clear h0 a1 a2 a3 a4 a5 hn hgb H3 H4 HB1 HG1 HL1 HQ1
      go_wp2_with fail
      refine (within1_c _ _ _ _ 3 _ (Blk.newS (by simp))).mono ?_
      rintro e w' ⟨rfl, rfl⟩
      rw [H0.out]
      clear c0 c1 c2 l0
      go_wp2_with (first | (refine wpList_store_row rfl 41 _ _ rfl (w.heap.size + 1 + 1) _ rfl rfl 41 _ H5.out (by kernel_rfl) rfl (by simp [Value.oneCell']) ?_) | (refine wpList_store_row rfl 41 _ _ rfl (w.heap.size + 1 + 1 + 1) _ rfl rfl 41 _ H7'.out (by kernel_rfl) rfl (by simp [Value.oneCell']) ?_))
      refine bodyPost_ret (results_cells2t Try.results35 _ _ _ _ _ _ rfl rfl (load_fr H7.out) (load_fr H8.out)) rfl ⟨by rw [HV.out]; rfl, HS8.out.1⟩
    · have hw0 := wi_iff.1 h0
      have H0 := Lib.hid h0
      have hlen : xs.length ≤ 1000 := by omega
      have HP1 := Lib.hid ((HP.out.keep hs2.1))
      cases h1 : wl 0 100000 xs
      · have HV : Hid (priA P lo hi xs = ((0, 0), (0, 0), 7)) := by show _ = _; unfold priA; rw [if_pos HC.out, if_pos h0, if_neg (by rw [h1]; intro h; cases h)]
        have HWI := Lib.hid (withins_c A xs c 0 100000 _ hlen HP1.out)
        rw [h1] at HWI
        obtain ⟨n, hn⟩ : ∃ n, xs.length = n := ⟨_, rfl⟩
        rw [hn] at H0 H5 H6 hs2 l0 HWI HL1 ⊢
        have HL2 := Lib.hid (HL1.out.alloc (.cells #[.int .i64 n] 3))
        have l1 := HL2.out.cell 0
        simp only [List.getElem?_toArray, List.getElem?_cons_zero] at l1
        have H7' := Lib.hid (H6.out.rowFar (g' := w.heap.size + 1 + 1) (by omega) (fV (0, 0)))
        have H7 := Lib.hid ((H5.out.row (fV (0, 0))).rowFar (g' := w.heap.size + 1 + 1 + 1) (by omega) (fV (0, 0)))
        have H8 := Lib.hid (H7'.out.row (fV (0, 0)))
        have HS8 := Lib.hid ((hs2.row (g := w.heap.size + 1 + 1) (by omega) (fV (0, 0))).row (g := w.heap.size + 1 + 1 + 1) (by omega) (fV (0, 0)))
        clear h0 h1 a1 a2 a3 a4 a5 hn hgb hlen hw0 H3 H4 HB1 HG1 HL1 HQ1
        go_wp2_with fail
        refine (within1_c _ _ _ _ 3 _ (Blk.newS (by simp))).mono ?_
        rintro e w' ⟨rfl, rfl⟩
        rw [H0.out]
        clear c0 c1 c2 l0
        go_wp2_with fail
        refine HWI.out.mono ?_
        rintro e w' ⟨rfl, rfl⟩
        clear l1
        go_wp2_with (first | (refine wpList_store_row rfl 41 _ _ rfl (w.heap.size + 1 + 1) _ rfl rfl 41 _ H5.out (by kernel_rfl) rfl (by simp [Value.oneCell']) ?_) | (refine wpList_store_row rfl 41 _ _ rfl (w.heap.size + 1 + 1 + 1) _ rfl rfl 41 _ H7'.out (by kernel_rfl) rfl (by simp [Value.oneCell']) ?_))
        refine bodyPost_ret (results_cells2t Try.results35 _ _ _ _ _ _ rfl rfl (load_fr H7.out) (load_fr H8.out)) rfl ⟨by rw [HV.out]; rfl, HS8.out.1⟩
      · obtain ⟨P, rfl⟩ : ∃ P' : Nat, P = P' := ⟨P.toNat, by omega⟩
        obtain ⟨lo, rfl⟩ : ∃ P' : Nat, lo = P' := ⟨lo.toNat, by omega⟩
        obtain ⟨hi, rfl⟩ : ∃ P' : Nat, hi = P' := ⟨hi.toNat, by omega⟩
        obtain ⟨L, hL⟩ : ∃ L, eachL (prS P (xs.length - 1) xs) lo hi = L := ⟨_, rfl⟩
        have HV : Hid (priA P lo hi xs = (ip (leastS L), ip (mostS L), 0)) := by show _ = _; unfold priA; rw [if_pos HC.out, if_pos h0, if_pos h1]; simp only [Int.toNat_natCast, hL]
        have hlh : lo ≤ hi := by omega
        have hhi : hi ≤ P := by omega
        have hP : P ≤ 20 := by omega
        have hLne : L ≠ [] := hL ▸ eachL_ne hlh
        have hLlen : L.length ≤ 100 := by rw [← hL, eachL_len]; omega
        have hLsm : ∀ x ∈ L, Sm x := fun x hx => by
          rw [← hL] at hx
          obtain ⟨b, h1', h2', rfl⟩ := eachL_mem hx
          exact prS_sm (wl_mem h1) (by omega) hP
        have HG2 := Lib.hid (HG1.out.alloc (.cells #[.int .i64 xs.length] 3))
        have HB2 := Lib.hid (HB1.out.alloc (.cells #[.int .i64 xs.length] 3))
        have HL2 := Lib.hid (HL1.out.alloc (.cells #[.int .i64 xs.length] 3))
        have HWI := Lib.hid (withins_c A xs c 0 100000 _ hlen HP1.out)
        rw [h1] at HWI
        have HEA : Hid (Calls Try.prog 63 #[hpP g, .func (.func 78) #[] #[hpP gb, hpP (w.heap.size + 1)]] (W1.alloc (.cells #[.int .i64 xs.length] 3)) fun e w' => Below (W1.alloc (.cells #[.int .i64 xs.length] 3)).heap.size (W1.alloc (.cells #[.int .i64 xs.length] 3)) w' ∧ ∃ v, e = .returned v ∧ w'.ownsRow (W1.alloc (.cells #[.int .i64 xs.length] 3)).heap.size 90 2 v L.length (flS L)) := by
          rw [← hL]
          exact each_c g P lo hi 78 #[hpP gb, hpP (w.heap.size + 1)] (prS P (xs.length - 1) xs) _ (enters_of Try.func78 (by kernel_rfl) rfl)
            (fun b W h1' h2' hb => Price1_c g gb (w.heap.size + 1) lo hi P b (xs.length - 1) A xs c W (HG2.out.keep hb) (HB2.out.keep hb) (HL2.out.keep hb) (HP1.out.keep hb) (by omega) (wl_mem h1) (by omega) (by omega) hP) HG2.out hlh (by omega)
        obtain ⟨n, hn⟩ : ∃ n, xs.length = n := ⟨_, rfl⟩
        rw [hn] at H0 H5 H6 hs2 l0 HWI HEA HB2 HL2 ⊢
        have l1 := HL2.out.cell 0
        have hcb := HB2.out.cell 0
        simp only [List.getElem?_toArray, List.getElem?_cons_zero] at l1 hcb
        clear h0 h1 a1 a2 a3 a4 a5 hn hw0 hlen H3 H4 HB1 HG1 HL1 HQ1 hL hlh hhi hP HG2 HB2 HL2
        go_wp2_with fail
        refine (within1_c _ _ _ _ 3 _ (Blk.newS (by simp))).mono ?_
        rintro e w' ⟨rfl, rfl⟩
        rw [H0.out]
        clear c0 c1 c2 l0
        go_wp2_with fail
        refine HWI.out.mono ?_
        rintro e w' ⟨rfl, rfl⟩
        go_wp2_with fail
        clear hW1 hgb
        refine HEA.out.mono ?_
        rintro e w2 ⟨hb2, v0, rfl, ho⟩
        obtain ⟨gL, cL, rfl, hF, hc1, hc2, -, -⟩ := own_shr ho hLne
        have hs3 := hs2.keep hb2
        have K5 := Lib.hid (H5.out.keep hb2)
        have K6 := Lib.hid (H6.out.keep hb2)
        have HEN := Lib.hid (ends_c gL L cL w2 hLne hLlen hF hLsm hc1 hc2)
        obtain ⟨u, hu⟩ : ∃ u, ip (leastS L) = u := ⟨_, rfl⟩
        obtain ⟨v, hv⟩ : ∃ v, ip (mostS L) = v := ⟨_, rfl⟩
        rw [hu, hv] at HEN HV
        obtain ⟨m, hm⟩ : ∃ m, L.length = m := ⟨_, rfl⟩
        rw [hm] at HEN ⊢
        clear hu hv hm ho hF hc1 hc2 hLlen hLsm hLne hcb l1 HEA hb2
        go_wp2_with fail
        refine HEN.out.mono ?_
        rintro e w3 ⟨rfl, hb3⟩
        have hs4 := hs3.keep hb3
        have M5 := Lib.hid (K5.out.keep hb3)
        have M6 := Lib.hid (K6.out.keep hb3)
        have H7' := Lib.hid (M6.out.rowFar (g' := w.heap.size + 1 + 1) (by omega) (fV u))
        have H7 := Lib.hid ((M5.out.row (fV u)).rowFar (g' := w.heap.size + 1 + 1 + 1) (by omega) (fV v))
        have H8 := Lib.hid (H7'.out.row (fV v))
        have HS8 := Lib.hid ((hs4.row (g := w.heap.size + 1 + 1) (by omega) (fV u)).row (g := w.heap.size + 1 + 1 + 1) (by omega) (fV v))
        clear hs4 K5 K6 hb3 HEN
        go_wp2_with (first | (refine wpList_store_row rfl 41 _ _ rfl (w.heap.size + 1 + 1) _ rfl rfl 41 _ M5.out (by kernel_rfl) rfl (by simp [Value.oneCell']) ?_) | (refine wpList_store_row rfl 41 _ _ rfl (w.heap.size + 1 + 1 + 1) _ rfl rfl 41 _ H7'.out (by kernel_rfl) rfl (by simp [Value.oneCell']) ?_))
        dsimp only [Act.put]
        refine Vals9.region (fun _ X => (Blk X (w.heap.size + 1 + 1) 41 (fV u) ∧ Blk X (w.heap.size + 1 + 1 + 1) 41 (fV v)) ∧ Since w X) [some 40, some 41, none, none, some 6] [.is (.agg (fV u)), .is (.agg (fV v)), .is (undef), .is (undef), .is ?_] (by kernel_rfl) (by kernel_rfl) (by kernel_rfl) (by kernel_rfl) (by kernel_rfl) (by kernel_rfl) (⟨⟨H7.out.drew, H8.out.drew⟩, HS8.out.drew⟩) ?hsteps ?hfin
        case hsteps =>
          refine Vals9.Steps.run rfl ?_ ?_
          · intro a W σ hJ pre K hK
            have e4 := pre.2.2 4 _ (by kernel_rfl) rfl
            clear pre
            simp only [Array.getD_eq_getD_getElem?, List.getElem?_toArray, List.getElem?_cons_zero, List.getElem?_cons_succ, Option.getD_some] at e4
            have hS9 := hJ
            obtain ⟨⟨q1, q2⟩, q3⟩ := hS9
            obtain ⟨f0, f1⟩ := q1.fcells
            obtain ⟨f2, f3⟩ := q2.fcells
            go_simp
            exact hK _ hJ
          refine Vals9.Steps.run rfl ?_ ?_
          · intro a W σ hJ pre K hK
            have e5 := pre.2.2 5 _ (by kernel_rfl) rfl
            clear pre
            simp only [Array.getD_eq_getD_getElem?, List.getElem?_toArray, List.getElem?_cons_zero, List.getElem?_cons_succ, Option.getD_some] at e5
            have hS9 := hJ
            obtain ⟨⟨q1, q2⟩, q3⟩ := hS9
            obtain ⟨f0, f1⟩ := q1.fcells
            obtain ⟨f2, f3⟩ := q2.fcells
            go_simp
            exact hK _ hJ
          refine Vals9.Steps.run rfl ?_ ?_
          · intro a W σ hJ pre K hK
            have e4 := pre.2.2 4 _ (by kernel_rfl) rfl
            have e40 := pre.1 0 40 _ (by kernel_rfl) rfl rfl
            clear pre
            simp only [Array.getD_eq_getD_getElem?, List.getElem?_toArray, List.getElem?_cons_zero, List.getElem?_cons_succ, Option.getD_some] at e4 e40
            obtain ⟨⟨q1, q2⟩, q3⟩ := hJ
            refine wp_store_row 41 _ _ rfl (w.heap.size + 1 + 1) (fV u) (by simpa [Act.eval] using e4) (by simpa [Act.eval] using e40) 41 _ q1 (by kernel_rfl) rfl (by simp [Value.oneCell']) ?_
            exact hK _ ⟨⟨q1.row _, q2.rowFar (by omega) _⟩, q3.row (by omega) _⟩
          refine Vals9.Steps.run rfl ?_ ?_
          · intro a W σ hJ pre K hK
            have e5 := pre.2.2 5 _ (by kernel_rfl) rfl
            have e41 := pre.1 1 41 _ (by kernel_rfl) rfl rfl
            clear pre
            simp only [Array.getD_eq_getD_getElem?, List.getElem?_toArray, List.getElem?_cons_zero, List.getElem?_cons_succ, Option.getD_some] at e5 e41
            obtain ⟨⟨q1, q2⟩, q3⟩ := hJ
            refine wp_store_row 41 _ _ rfl (w.heap.size + 1 + 1 + 1) (fV v) (by simpa [Act.eval] using e5) (by simpa [Act.eval] using e41) 41 _ q2 (by kernel_rfl) rfl (by simp [Value.oneCell']) ?_
            exact hK _ ⟨⟨q1.rowFar (by omega) _, q2.row _⟩, q3.row (by omega) _⟩
          refine Vals9.Steps.run rfl ?_ ?_
          · intro a W σ hJ pre K hK
            clear pre
            go_simp
            exact hK _ hJ
          exact Vals9.Steps.nil
        case hfin =>
        rintro X σ ⟨⟨q1, q2⟩, q3⟩
        simp only [Vals9.All]
        simp only [Vals.putAll, List.setIfInBounds_toArray, List.set_cons_zero, List.set_cons_succ]
        go_wp2_with fail
        refine bodyPost_ret (results_cells2t Try.results35 _ _ _ _ _ _ rfl rfl (load_fr q1) (load_fr q2)) rfl ⟨by rw [HV.out]; rfl, q3.1⟩
  · have hs1 := (hs0.keep hb1).alloc (.cells #[.pointer none] 87)
    have H3 := Lib.hid ((H1.out.keep hb1).alloc (.cells #[.pointer none] 87))
    have H4 := Lib.hid ((H2.out.keep hb1).alloc (.cells #[.pointer none] 87))
    have HV : Hid (priA P lo hi xs = ((0, 0), (0, 0), chkE P lo hi)) := by show _ = _; unfold priA; rw [if_neg hc]
    obtain ⟨e, he⟩ : ∃ e, chkE P lo hi = e := ⟨_, rfl⟩
    rw [he] at HV hc ⊢
    have hc' : (e != 0) = true := by simpa using hc
    have H7' := Lib.hid (H4.out.rowFar (g' := w.heap.size + 1 + 1) (by omega) (fV (0, 0)))
    have H7 := Lib.hid ((H3.out.row (fV (0, 0))).rowFar (g' := w.heap.size + 1 + 1 + 1) (by omega) (fV (0, 0)))
    have H8 := Lib.hid (H7'.out.row (fV (0, 0)))
    have HS8 := Lib.hid ((hs1.row (g := w.heap.size + 1 + 1) (by omega) (fV (0, 0))).row (g := w.heap.size + 1 + 1 + 1) (by omega) (fV (0, 0)))
    clear c0 c1 c2 HG HL H1 H2 hb1 he hc
    go_wp2_with (first | (refine wpList_store_row rfl 41 _ _ rfl (w.heap.size + 1 + 1) _ rfl rfl 41 _ H3.out (by kernel_rfl) rfl (by simp [Value.oneCell']) ?_) | (refine wpList_store_row rfl 41 _ _ rfl (w.heap.size + 1 + 1 + 1) _ rfl rfl 41 _ H7'.out (by kernel_rfl) rfl (by simp [Value.oneCell']) ?_))
    refine bodyPost_ret (results_cells2t Try.results35 _ _ _ _ _ _ rfl rfl (load_fr H7.out) (load_fr H8.out)) rfl ⟨by rw [HV.out]; rfl, HS8.out.1⟩
end Td
end Go.Proofs.Ytgkdidnmndmlhaa
