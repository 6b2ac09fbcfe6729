import Derived.Test.YtgkdidnmndmlhaaSml
/- The exported functions: Passes, Price. -/
namespace Go.Proofs.Ytgkdidnmndmlhaa
open Go.RowKit
namespace Td
set_option linter.unusedSimpArgs false
set_option linter.unusedVariables false
attribute [local go_sem] Oper.semAt_some
/-- what Passes answers. -/
def pasA (P lo hi fi pa fa se to : Int) : (Int × Int) × (Int × Int) × Int :=
  if chkP P lo hi fi pa fa se to = 0 then
    (ip (leastS (eachL (fun d => chS P.toNat fi.toNat pa.toNat fa.toNat se.toNat to.toNat d) lo.toNat hi.toNat)), ip (mostS (eachL (fun d => chS P.toNat fi.toNat pa.toNat fa.toNat se.toNat to.toNat d) lo.toNat hi.toNat)), 0)
  else ((0, 0), (0, 0), chkP P lo hi fi pa fa se to)
theorem chkP_ok {P lo hi fi pa fa se to : Int} (h : chkP P lo hi fi pa fa se to = 0) : chkE P lo hi = 0 ∧ planE P fi pa fa se to = 0 := by
  unfold chkP at h
  by_cases h1 : chkE P lo hi = 0
  · rw [if_pos h1] at h; exact ⟨h1, h⟩
  · rw [if_neg h1] at h; exact absurd h h1
/-- numbers that are not below zero, as such. -/
theorem nats8 {P lo hi fi pa fa se to : Int} (h : chkP P lo hi fi pa fa se to = 0) : ∃ P' lo' hi' F pa' fa' S to' : Nat, P = P' ∧ lo = lo' ∧ hi = hi' ∧ fi = F ∧ pa = pa' ∧ fa = fa' ∧ se = S ∧ to = to' ∧ lo' ≤ hi' ∧ hi' ≤ P' ∧ P' ≤ 20 ∧ ∀ d, d ≤ P' → Fit P' F pa' fa' S d := by
  obtain ⟨h1, h2⟩ := chkP_ok h
  obtain ⟨a1, a2, a3, a4, a5⟩ := chkE_ok.1 h1
  obtain ⟨b1, b2, b3, b4, b5, b6, b7, b8, b9, b10, -, -⟩ := planE_ok h2
  refine ⟨P.toNat, lo.toNat, hi.toNat, fi.toNat, pa.toNat, fa.toNat, se.toNat, to.toNat, by omega, by omega, by omega, by omega, by omega, by omega, by omega, by omega, by omega, by omega, by omega, fun d hd => ⟨hd, by omega, by omega, by omega, by omega⟩⟩
set_option maxRecDepth 100000 in
set_option maxHeartbeats 4000000 in
theorem Passes_c (P lo hi fi pa fa se to : Int) (w : World) :
    Calls Try.prog 27 #[.agg (gV P lo hi), .agg (lV fi pa fa se to)] w fun e w' => e = .returned (.tuple #[.agg (fV (pasA P lo hi fi pa fa se to).1), .agg (fV (pasA P lo hi fi pa fa se to).2.1), .int .i64 (pasA P lo hi fi pa fa se to).2.2]) ∧ Below w.heap.size w w' := by
  have hs0 := ((((Since.refl w).alloc (.cells (gV P lo hi) 25)).alloc (.cells (lV fi pa fa se to) 38)).alloc (.cells (fV (0, 0)) 41)).alloc (.cells (fV (0, 0)) 41)
  have HL := Lib.hid (((Blk.new1 w (.cells (gV P lo hi) 25) 38 (lV fi pa fa se to)).alloc (.cells (fV (0, 0)) 41)).alloc (.cells (fV (0, 0)) 41))
  have H1 := Lib.hid ((Blk.new2 w (.cells (gV P lo hi) 25) (.cells (lV fi pa fa se to) 38) 41 (fV (0, 0))).alloc (.cells (fV (0, 0)) 41))
  have H2 := Lib.hid (Blk.new3 w (.cells (gV P lo hi) 25) (.cells (lV fi pa fa se to) 38) (.cells (fV (0, 0)) 41) 41 (fV (0, 0)))
  have HG := Lib.hid ((((Blk.new w 25 (gV P lo hi)).alloc (.cells (lV fi pa fa se to) 38)).alloc (.cells (fV (0, 0)) 41)).alloc (.cells (fV (0, 0)) 41))
  obtain ⟨c0, c1, c2⟩ := HG.out.gcells
  obtain ⟨d0, d1, d2, d3, d4⟩ := HL.out.lcells
  go_enter Try.func27, Try.ntmps27
  go_wp2_with fail
  refine (lookBy_c P lo hi fi pa fa se to _).mono ?_
  rintro e w1 ⟨hb1, ⟨hc, g, rfl, hg⟩ | ⟨hc, rfl⟩⟩
  · have hs1 := (hs0.keep hb1).alloc (.cells #[hpP g] 87)
    have HL1 := Lib.hid ((HL.out.keep hb1).alloc (.cells #[hpP g] 87))
    have H3 := Lib.hid ((H1.out.keep hb1).alloc (.cells #[hpP g] 87))
    have H4 := Lib.hid ((H2.out.keep hb1).alloc (.cells #[hpP g] 87))
    have HB1 := Lib.hid (Blk.new w1 87 #[hpP g])
    have HG1 := Lib.hid (hg.alloc (.cells #[hpP g] 87))
    clear c0 c1 c2 d0 d1 d2 d3 d4 HG HL H1 H2 hb1 hg
    obtain ⟨P, lo, hi, F, pa, fa, S, to, rfl, rfl, rfl, rfl, rfl, rfl, rfl, rfl, hlh, hhi, hP, hfit⟩ := nats8 hc
    obtain ⟨L, hL⟩ : ∃ L, eachL (fun d => chS P F pa fa S to d) lo hi = L := ⟨_, rfl⟩
    have HV : Hid (pasA P lo hi F pa fa S to = (ip (leastS L), ip (mostS L), 0)) := by show _ = _; unfold pasA; rw [if_pos hc]; simp only [Int.toNat_natCast, hL]
    have hLne : L ≠ [] := hL ▸ eachL_ne hlh
    have hLlen : L.length ≤ 100 := by rw [← hL, eachL_len]; omega
    have hLsm : ∀ x ∈ L, Sm x := fun x hx => by
      rw [← hL] at hx
      obtain ⟨b, h1, h2, rfl⟩ := eachL_mem hx
      exact chS_sm (hfit b (by omega))
    obtain ⟨gb, hgb⟩ : ∃ gb, w1.heap.size = gb := ⟨_, rfl⟩
    rw [hgb] at HB1
    have HEA : Hid (Calls Try.prog 63 #[hpP g, .func (.func 64) #[] #[hpP gb, hpP (w.heap.size + 1)]] (w1.alloc (.cells #[hpP g] 87)) fun e w' => Below (w1.alloc (.cells #[hpP g] 87)).heap.size (w1.alloc (.cells #[hpP g] 87)) w' ∧ ∃ v, e = .returned v ∧ w'.ownsRow (w1.alloc (.cells #[hpP g] 87)).heap.size 90 2 v L.length (flS L)) := by
      rw [← hL]
      exact each_c g P lo hi 64 #[hpP gb, hpP (w.heap.size + 1)] (fun d => chS P F pa fa S to d) _ (enters_of Try.func64 (by kernel_rfl) rfl)
        (fun b W h1 h2 hb => Passes1_c g gb (w.heap.size + 1) lo hi P F pa fa S to b W (HG1.out.keep hb) (HB1.out.keep hb) (HL1.out.keep hb) (hfit b (by omega))) HG1.out hlh (by omega)
    have hcb := HB1.out.cell 0
    simp only [List.getElem?_toArray, List.getElem?_cons_zero] at hcb
    clear hL hfit hc
    go_wp2_with fail
    clear hgb
    refine HEA.out.mono ?_
    rintro e w2 ⟨hb2, v0, rfl, ho⟩
    obtain ⟨gL, cL, rfl, hF, hc1, hc2, -, -⟩ := own_shr ho hLne
    have hs2 := hs1.keep hb2
    have H5 := Lib.hid (H3.out.keep hb2)
    have H6 := Lib.hid (H4.out.keep hb2)
    have HEN := Lib.hid (ends_c gL L cL w2 hLne hLlen hF hLsm hc1 hc2)
    obtain ⟨u, hu⟩ : ∃ u, ip (leastS L) = u := ⟨_, rfl⟩
    obtain ⟨v, hv⟩ : ∃ v, ip (mostS L) = v := ⟨_, rfl⟩
    rw [hu, hv] at HEN HV
    obtain ⟨n, hn⟩ : ∃ n, L.length = n := ⟨_, rfl⟩
    rw [hn] at HEN ⊢
    clear hu hv hn ho hF hc1 hc2 hLlen hLsm hLne hcb HEA H3 H4 HB1 HG1 HL1 hb2
    go_wp2_with fail
    refine HEN.out.mono ?_
    rintro e w3 ⟨rfl, hb3⟩
    have hs3 := hs2.keep hb3
    have K5 := Lib.hid (H5.out.keep hb3)
    have K6 := Lib.hid (H6.out.keep hb3)
    have H7' := Lib.hid (K6.out.rowFar (g' := w.heap.size + 1 + 1) (by omega) (fV u))
    have H7 := Lib.hid ((K5.out.row (fV u)).rowFar (g' := w.heap.size + 1 + 1 + 1) (by omega) (fV v))
    have H8 := Lib.hid (H7'.out.row (fV v))
    have HS8 := Lib.hid ((hs3.row (g := w.heap.size + 1 + 1) (by omega) (fV u)).row (g := w.heap.size + 1 + 1 + 1) (by omega) (fV v))
    clear hs3 H5 H6 hb3 HEN
    go_wp2_with (first | (refine wpList_store_row rfl 41 _ _ rfl (w.heap.size + 1 + 1) _ rfl rfl 41 _ K5.out (by kernel_rfl) rfl (by simp [Value.oneCell']) ?_) | (refine wpList_store_row rfl 41 _ _ rfl (w.heap.size + 1 + 1 + 1) _ rfl rfl 41 _ H7'.out (by kernel_rfl) rfl (by simp [Value.oneCell']) ?_))
    dsimp only [Act.put]
    refine Vals9.region (fun _ X => (Blk X (w.heap.size + 1 + 1) 41 (fV u) ∧ Blk X (w.heap.size + 1 + 1 + 1) 41 (fV v)) ∧ Since w X) [some 26, some 27, none, none, some 6] [.is (.agg (fV u)), .is (.agg (fV v)), .is (undef), .is (undef), .is ?_] (by kernel_rfl) (by kernel_rfl) (by kernel_rfl) (by kernel_rfl) (by kernel_rfl) (by kernel_rfl) (⟨⟨H7.out.drew, H8.out.drew⟩, HS8.out.drew⟩) ?hsteps ?hfin
    case hsteps =>
      refine Vals9.Steps.run rfl ?_ ?_
      · intro a W σ hJ pre K hK
        have e4 := pre.2.2 4 _ (by kernel_rfl) rfl
        clear pre
        simp only [Array.getD_eq_getD_getElem?, List.getElem?_toArray, List.getElem?_cons_zero, List.getElem?_cons_succ, Option.getD_some] at e4
        have hS9 := hJ
        obtain ⟨⟨q1, q2⟩, q3⟩ := hS9
        obtain ⟨f0, f1⟩ := q1.fcells
        obtain ⟨f2, f3⟩ := q2.fcells
        go_simp
        exact hK _ hJ
      refine Vals9.Steps.run rfl ?_ ?_
      · intro a W σ hJ pre K hK
        have e5 := pre.2.2 5 _ (by kernel_rfl) rfl
        clear pre
        simp only [Array.getD_eq_getD_getElem?, List.getElem?_toArray, List.getElem?_cons_zero, List.getElem?_cons_succ, Option.getD_some] at e5
        have hS9 := hJ
        obtain ⟨⟨q1, q2⟩, q3⟩ := hS9
        obtain ⟨f0, f1⟩ := q1.fcells
        obtain ⟨f2, f3⟩ := q2.fcells
        go_simp
        exact hK _ hJ
      refine Vals9.Steps.run rfl ?_ ?_
      · intro a W σ hJ pre K hK
        have e4 := pre.2.2 4 _ (by kernel_rfl) rfl
        have e26 := pre.1 0 26 _ (by kernel_rfl) rfl rfl
        clear pre
        simp only [Array.getD_eq_getD_getElem?, List.getElem?_toArray, List.getElem?_cons_zero, List.getElem?_cons_succ, Option.getD_some] at e4 e26
        obtain ⟨⟨q1, q2⟩, q3⟩ := hJ
        refine wp_store_row 41 _ _ rfl (w.heap.size + 1 + 1) (fV u) (by simpa [Act.eval] using e4) (by simpa [Act.eval] using e26) 41 _ q1 (by kernel_rfl) rfl (by simp [Value.oneCell']) ?_
        exact hK _ ⟨⟨q1.row _, q2.rowFar (by omega) _⟩, q3.row (by omega) _⟩
      refine Vals9.Steps.run rfl ?_ ?_
      · intro a W σ hJ pre K hK
        have e5 := pre.2.2 5 _ (by kernel_rfl) rfl
        have e27 := pre.1 1 27 _ (by kernel_rfl) rfl rfl
        clear pre
        simp only [Array.getD_eq_getD_getElem?, List.getElem?_toArray, List.getElem?_cons_zero, List.getElem?_cons_succ, Option.getD_some] at e5 e27
        obtain ⟨⟨q1, q2⟩, q3⟩ := hJ
        refine wp_store_row 41 _ _ rfl (w.heap.size + 1 + 1 + 1) (fV v) (by simpa [Act.eval] using e5) (by simpa [Act.eval] using e27) 41 _ q2 (by kernel_rfl) rfl (by simp [Value.oneCell']) ?_
        exact hK _ ⟨⟨q1.rowFar (by omega) _, q2.row _⟩, q3.row (by omega) _⟩
      refine Vals9.Steps.run rfl ?_ ?_
      · intro a W σ hJ pre K hK
        clear pre
        go_simp
        exact hK _ hJ
      exact Vals9.Steps.nil
    case hfin =>
    rintro X σ ⟨⟨q1, q2⟩, q3⟩
    simp only [Vals9.All]
    simp only [Vals.putAll, List.setIfInBounds_toArray, List.set_cons_zero, List.set_cons_succ]
    go_wp2_with fail
    refine bodyPost_ret (results_cells2t Try.results27 _ _ _ _ _ _ rfl rfl (load_fr q1) (load_fr q2)) rfl ⟨by rw [HV.out]; rfl, q3.1⟩
  · have hs1 := (hs0.keep hb1).alloc (.cells #[.pointer none] 87)
    have H3 := Lib.hid ((H1.out.keep hb1).alloc (.cells #[.pointer none] 87))
    have H4 := Lib.hid ((H2.out.keep hb1).alloc (.cells #[.pointer none] 87))
    have H7' := Lib.hid (H4.out.rowFar (g' := w.heap.size + 1 + 1) (by omega) (fV (0, 0)))
    have H7 := Lib.hid ((H3.out.row (fV (0, 0))).rowFar (g' := w.heap.size + 1 + 1 + 1) (by omega) (fV (0, 0)))
    have H8 := Lib.hid (H7'.out.row (fV (0, 0)))
    have HS8 := Lib.hid ((hs1.row (g := w.heap.size + 1 + 1) (by omega) (fV (0, 0))).row (g := w.heap.size + 1 + 1 + 1) (by omega) (fV (0, 0)))
    have HV : Hid (pasA P lo hi fi pa fa se to = ((0, 0), (0, 0), chkP P lo hi fi pa fa se to)) := by show _ = _; unfold pasA; rw [if_neg hc]
    obtain ⟨e, he⟩ : ∃ e, chkP P lo hi fi pa fa se to = e := ⟨_, rfl⟩
    rw [he] at HV hc ⊢
    have hc' : (e != 0) = true := by simpa using hc
    clear c0 c1 c2 d0 d1 d2 d3 d4 HG HL H1 H2 hb1 he hc
    go_wp2_with (first | (refine wpList_store_row rfl 41 _ _ rfl (w.heap.size + 1 + 1) _ rfl rfl 41 _ H3.out (by kernel_rfl) rfl (by simp [Value.oneCell']) ?_) | (refine wpList_store_row rfl 41 _ _ rfl (w.heap.size + 1 + 1 + 1) _ rfl rfl 41 _ H7'.out (by kernel_rfl) rfl (by simp [Value.oneCell']) ?_))
    refine bodyPost_ret (results_cells2t Try.results27 _ _ _ _ _ _ rfl rfl (load_fr H7.out) (load_fr H8.out)) rfl ⟨by rw [HV.out]; rfl, HS8.out.1⟩
end Td
end Go.Proofs.Ytgkdidnmndmlhaa
