import Derived.Test.YtgkdidnmndmlhaaExpE
/- The exported function Worst. -/
namespace Go.Proofs.Ytgkdidnmndmlhaa
open Go.RowKit
namespace Td
set_option linter.unusedSimpArgs false
set_option linter.unusedVariables false
attribute [local go_sem] Oper.semAt_some
theorem FrB.rowFar {w : World} {g g' : Nat} {l : List (Nat × Nat)} (h : FrB w g l) (hg : g' ≠ g) (new : Array Value) : FrB (w.setRow g' new) g l := fun i s hs => by
  have e : ∀ k, (w.setRow g' new).cell? ⟨g, k, none⟩ = w.cell? ⟨g, k, none⟩ := fun k => by
    simp only [World.cell?, setRow_other w g' g new (Ne.symm hg)]
  rw [e, e]
  exact h i s hs
/-- what is worst, as it is told at the end. -/
structure Wo (w : World) (P lo hi : Int) (gL : Nat) (L : List (Nat × Nat)) (g9 : Nat) (m : Nat × Nat) (s : Option Value) (X : World) : Prop where
  sn : Since w X
  bg : Blk X w.heap.size 25 (gV P lo hi)
  b9 : Blk X g9 90 (fV (ip m))
  fr : FrB X gL L
  b5 : ∃ r, Blk X (w.heap.size + 1 + 1) 41 (fV r) ∧ ∀ v, s = some v → r = ip m
theorem Wo.keep {w : World} {P lo hi : Int} {gL : Nat} {L : List (Nat × Nat)} {g9 : Nat} {m : Nat × Nat} {s : Option Value} {X Y : World} (h : Wo w P lo hi gL L g9 m s X) (hb : Below X.heap.size X Y) : Wo w P lo hi gL L g9 m s Y :=
  ⟨h.sn.keep hb, h.bg.keep hb, h.b9.keep hb, h.fr.keep hb, by obtain ⟨r, h1, h2⟩ := h.b5; exact ⟨r, h1.keep hb, h2⟩⟩
theorem Wo.put {w : World} {P lo hi : Int} {gL : Nat} {L : List (Nat × Nat)} {g9 : Nat} {m : Nat × Nat} {s t : Option Value} {X : World} {r : Int × Int} (h : Wo w P lo hi gL L g9 m s X) (hr : Blk X (w.heap.size + 1 + 1) 41 (fV r)) (h9 : w.heap.size + 1 + 1 < g9) (hL : w.heap.size + 1 + 1 < gL) : Wo w P lo hi gL L g9 m t (X.setRow (w.heap.size + 1 + 1) (fV (ip m))) :=
  ⟨h.sn.row (by omega) _, h.bg.rowFar (by omega) _, h.b9.rowFar (by omega) _, h.fr.rowFar (by omega) _, ⟨_, hr.row _, fun _ _ => rfl⟩⟩
/-- what Worst answers. -/
def worA (P lo hi fi pa fa se to : Int) : Int × (Int × Int) × Int :=
  if chkP P lo hi fi pa fa se to = 0 then
    (((lo.toNat + posS (mostS (eachL (fun d => stS P.toNat fi.toNat pa.toNat fa.toNat se.toNat to.toNat d) lo.toNat hi.toNat)) (eachL (fun d => stS P.toNat fi.toNat pa.toNat fa.toNat se.toNat to.toNat d) lo.toNat hi.toNat) : Nat) : Int), ip (mostS (eachL (fun d => stS P.toNat fi.toNat pa.toNat fa.toNat se.toNat to.toNat d) lo.toNat hi.toNat)), 0)
  else (0, (0, 0), chkP P lo hi fi pa fa se to)
set_option maxRecDepth 100000 in
set_option maxHeartbeats 4000000 in
theorem Worst_c (P lo hi fi pa fa se to : Int) (w : World) :
    Calls Try.prog 29 #[.agg (gV P lo hi), .agg (lV fi pa fa se to)] w fun e w' => e = .returned (.tuple #[.int .i64 (worA P lo hi fi pa fa se to).1, .agg (fV (worA P lo hi fi pa fa se to).2.1), .int .i64 (worA P lo hi fi pa fa se to).2.2]) ∧ Below w.heap.size w w' := by
  have hs0 := (((Since.refl w).alloc (.cells (gV P lo hi) 25)).alloc (.cells (lV fi pa fa se to) 38)).alloc (.cells (fV (0, 0)) 41)
  have HL := Lib.hid ((Blk.new1 w (.cells (gV P lo hi) 25) 38 (lV fi pa fa se to)).alloc (.cells (fV (0, 0)) 41))
  have H1 := Lib.hid (Blk.new2 w (.cells (gV P lo hi) 25) (.cells (lV fi pa fa se to) 38) 41 (fV (0, 0)))
  have HG := Lib.hid (((Blk.new w 25 (gV P lo hi)).alloc (.cells (lV fi pa fa se to) 38)).alloc (.cells (fV (0, 0)) 41))
  obtain ⟨c0, c1, c2⟩ := HG.out.gcells
  obtain ⟨d0, d1, d2, d3, d4⟩ := HL.out.lcells
  have hz := hs0.2
  have hz3 : w.heap.size + 1 + 1 < (((w.alloc (.cells (gV P lo hi) 25)).alloc (.cells (lV fi pa fa se to) 38)).alloc (.cells (fV (0, 0)) 41)).heap.size := H1.out.lt
  go_enter Try.func29, Try.ntmps29
  go_wp2_with fail
  refine (lookBy_c P lo hi fi pa fa se to _).mono ?_
  rintro e w1 ⟨hb1, ⟨hc, g, rfl, hg⟩ | ⟨hc, rfl⟩⟩
  · have hz1 : w.heap.size + 1 + 1 < w1.heap.size := Nat.lt_of_lt_of_le hz3 hb1.size
    have hs1 := (hs0.keep hb1).alloc (.cells #[hpP g] 87)
    have HL1 := Lib.hid ((HL.out.keep hb1).alloc (.cells #[hpP g] 87))
    have HQ1 := Lib.hid ((HG.out.keep hb1).alloc (.cells #[hpP g] 87))
    have H3 := Lib.hid ((H1.out.keep hb1).alloc (.cells #[hpP g] 87))
    have HB1 := Lib.hid (Blk.new w1 87 #[hpP g])
    have HG1 := Lib.hid (hg.alloc (.cells #[hpP g] 87))
    clear c0 c1 c2 d0 d1 d2 d3 d4 HG HL H1 hb1 hg hz3 hz
    obtain ⟨P, lo, hi, F, pa, fa, S, to, rfl, rfl, rfl, rfl, rfl, rfl, rfl, rfl, hlh, hhi, hP, hfit⟩ := nats8 hc
    obtain ⟨L, hL⟩ : ∃ L, eachL (fun d => stS P F pa fa S to d) lo hi = L := ⟨_, rfl⟩
    have HV : Hid (worA P lo hi F pa fa S to = (((lo + posS (mostS L) L : Nat) : Int), ip (mostS L), 0)) := by show _ = _; unfold worA; rw [if_pos hc]; simp only [Int.toNat_natCast, hL]
    have hLne : L ≠ [] := hL ▸ eachL_ne hlh
    have hLlen : L.length ≤ 100 := by rw [← hL, eachL_len]; omega
    have hLsm : ∀ x ∈ L, Sm x := fun x hx => by
      rw [← hL] at hx
      obtain ⟨b, h1, h2, rfl⟩ := eachL_mem hx
      exact stS_sm (hfit b (by omega))
    obtain ⟨gb, hgb⟩ : ∃ gb, w1.heap.size = gb := ⟨_, rfl⟩
    rw [hgb] at HB1
    have HEA : Hid (Calls Try.prog 63 #[hpP g, .func (.func 69) #[] #[hpP gb, hpP (w.heap.size + 1)]] (w1.alloc (.cells #[hpP g] 87)) fun e w' => Below (w1.alloc (.cells #[hpP g] 87)).heap.size (w1.alloc (.cells #[hpP g] 87)) w' ∧ ∃ v, e = .returned v ∧ w'.ownsRow (w1.alloc (.cells #[hpP g] 87)).heap.size 90 2 v L.length (flS L)) := by
      rw [← hL]
      exact each_c g P lo hi 69 #[hpP gb, hpP (w.heap.size + 1)] (fun d => stS P F pa fa S to d) _ (enters_of Try.func69 (by kernel_rfl) rfl)
        (fun b W h1 h2 hb => Worst1_c g gb (w.heap.size + 1) lo hi P F pa fa S to b W (HG1.out.keep hb) (HB1.out.keep hb) (HL1.out.keep hb) (hfit b (by omega))) HG1.out hlh (by omega)
    have hcb := HB1.out.cell 0
    simp only [List.getElem?_toArray, List.getElem?_cons_zero] at hcb
    have HHI := Lib.hid hhi
    have HPP := Lib.hid hP
    clear hL hfit hc
    go_wp2_with fail
    clear hgb
    refine HEA.out.mono ?_
    rintro e w2 ⟨hb2, v0, rfl, ho⟩
    obtain ⟨gL, cL, rfl, hF, hc1, hc2, hBL, hgL2⟩ := own_shr ho hLne
    have hgL : w.heap.size + 1 + 1 < gL := Nat.lt_of_lt_of_le hz1 (Nat.le_trans (by simp) hBL)
    have hs2 := hs1.keep hb2
    have HQ2 := Lib.hid (HQ1.out.keep hb2)
    have H5 := Lib.hid (H3.out.keep hb2)
    have hz2 : w.heap.size + 1 + 1 < w2.heap.size := Nat.lt_trans hgL hgL2
    have HFO := Lib.hid (foreA_c gL L cL w2 hLne hLlen hF hLsm hc1 hc2)
    have hmm : mostS L ∈ L := fore_mem _ hLne
    have HIX := Lib.hid (fun W (hW : FrB W gL L) => Index_c gL L cL (mostS L) W hLlen hW hmm)
    have hpl : posS (mostS L) L < L.length := posS_lt hmm
    obtain ⟨m, hm⟩ : ∃ m, mostS L = m := ⟨_, rfl⟩
    rw [hm] at HFO HIX HV hpl
    have t1 : IntKind.i64.wrap ((lo : Int) + ((posS m L : Nat) : Int)) = ((lo + posS m L : Nat) : Int) := by rw [wrapI (by unfold I64; omega)]; omega
    obtain ⟨n, hn⟩ : ∃ n, L.length = n := ⟨_, rfl⟩
    rw [hn] at HFO HIX ⊢
    have HFR := Lib.hid hF
    clear hm hmm hpl hn ho hF hc1 hc2 hLlen hLsm hLne hcb HEA H3 HB1 HG1 HL1 HQ1 hb2 hz1 hgL2 hBL hlh hhi hP
    have ea := enters_of Try.func72 (by kernel_rfl) rfl
    go_wp2_with fail
    refine HFO.out.mono ?_
    rintro e w3 ⟨rfl, hb3⟩
    have HS5 := Lib.hid ((hs2.keep hb3).alloc (.cells (fV (ip m)) 90))
    have HQ5 := Lib.hid ((HQ2.out.keep hb3).alloc (.cells (fV (ip m)) 90))
    have HR5 := Lib.hid ((H5.out.keep hb3).alloc (.cells (fV (ip m)) 90))
    have HF5 := Lib.hid ((HFR.out.keep hb3).keep ((Below.refl _ _).alloc (Nat.le_refl _) (.cells (fV (ip m)) 90)))
    have HM5 := Lib.hid (Blk.new w3 90 (fV (ip m)))
    have hg9 : w.heap.size + 1 + 1 < w3.heap.size := Nat.lt_of_lt_of_le hz2 hb3.size
    obtain ⟨g9, h9⟩ : ∃ g9, w3.heap.size = g9 := ⟨_, rfl⟩
    rw [h9] at HM5 hg9
    clear hs2 HQ2 H5 HFR HFO hb3 hz2 ea
    go_wp2_with fail
    clear h9
    try dsimp only [Act.put]
    refine Vals9.region (fun σ X => Wo w (P : Int) (lo : Int) (hi : Int) gL L g9 m (σ 9) X) [some 25, some 26, some 27, some 28, some 29, some 30, some 31, some 32, some 4, none, some 6] [.is ?_, .is ?_, .is (.int .i64 lo), .is ?_, .is (.agg (fV (ip m))), .is (.int .i64 (posS m L)), .is (.int .i64 ((lo + posS m L : Nat) : Int)), .is (.agg (fV (ip m))), .is (.int .i64 ((lo + posS m L : Nat) : Int)), .any, .is ?_] (by kernel_rfl) (by kernel_rfl) (by kernel_rfl) (by kernel_rfl) (by kernel_rfl) (by kernel_rfl) (⟨HS5.out.drew, HQ5.out.drew, HM5.out.drew, HF5.out, ⟨_, HR5.out.drew, fun v hv => by cases hv⟩⟩) ?hsteps ?hfin
    case hsteps =>
      refine Vals9.Steps.run rfl ?_ ?_
      · intro a W σ hJ pre K hK
        have e2 := pre.2.2 2 _ (by kernel_rfl) rfl
        clear pre
        simp only [Array.getD_eq_getD_getElem?, List.getElem?_toArray, List.getElem?_cons_zero, List.getElem?_cons_succ, Option.getD_some] at e2
        go_simp
        exact hK _ hJ
      refine Vals9.Steps.run rfl ?_ ?_
      · intro a W σ hJ pre K hK
        have e25 := pre.1 0 25 _ (by kernel_rfl) rfl rfl
        clear pre
        simp only [Array.getD_eq_getD_getElem?, List.getElem?_toArray, List.getElem?_cons_zero, List.getElem?_cons_succ, Option.getD_some] at e25
        go_simp
        exact hK _ hJ
      refine Vals9.Steps.run rfl ?_ ?_
      · intro a W σ hJ pre K hK
        have e26 := pre.1 1 26 _ (by kernel_rfl) rfl rfl
        clear pre
        simp only [Array.getD_eq_getD_getElem?, List.getElem?_toArray, List.getElem?_cons_zero, List.getElem?_cons_succ, Option.getD_some] at e26
        have hS9 := hJ
        have hW9 : Wo w (P : Int) (lo : Int) (hi : Int) gL L g9 m (σ 9) W := hS9
        obtain ⟨c0, c1, c2⟩ := hW9.bg.gcells
        obtain ⟨f0, f1⟩ := hW9.b9.fcells
        go_simp
        exact hK _ hJ
      refine Vals9.Steps.run rfl ?_ ?_
      · intro a W σ hJ pre K hK
        have e8 := pre.2.2 8 _ (by kernel_rfl) rfl
        clear pre
        simp only [Array.getD_eq_getD_getElem?, List.getElem?_toArray, List.getElem?_cons_zero, List.getElem?_cons_succ, Option.getD_some] at e8
        go_simp
        exact hK _ hJ
      refine Vals9.Steps.run rfl ?_ ?_
      · intro a W σ hJ pre K hK
        have e9 := pre.2.2 9 _ (by kernel_rfl) rfl
        clear pre
        simp only [Array.getD_eq_getD_getElem?, List.getElem?_toArray, List.getElem?_cons_zero, List.getElem?_cons_succ, Option.getD_some] at e9
        have hS9 := hJ
        have hW9 : Wo w (P : Int) (lo : Int) (hi : Int) gL L g9 m (σ 9) W := hS9
        obtain ⟨c0, c1, c2⟩ := hW9.bg.gcells
        obtain ⟨f0, f1⟩ := hW9.b9.fcells
        go_simp
        exact hK _ hJ
      refine Vals9.Steps.run rfl ?_ ?_
      · intro a W σ hJ pre K hK
        have e28 := pre.1 3 28 _ (by kernel_rfl) rfl rfl
        have e29 := pre.1 4 29 _ (by kernel_rfl) rfl rfl
        clear pre
        simp only [Array.getD_eq_getD_getElem?, List.getElem?_toArray, List.getElem?_cons_zero, List.getElem?_cons_succ, Option.getD_some] at e28 e29
        go_simp
        have hW9 : Wo w (P : Int) (lo : Int) (hi : Int) gL L g9 m (σ 9) W := hJ
        refine (HIX.out W hW9.fr).mono ?_
        rintro e w' ⟨rfl, hb'⟩
        exact hK _ (hW9.keep hb')
      refine Vals9.Steps.run rfl ?_ ?_
      · intro a W σ hJ pre K hK
        have e27 := pre.1 2 27 _ (by kernel_rfl) rfl rfl
        have e30 := pre.1 5 30 _ (by kernel_rfl) rfl rfl
        clear pre
        simp only [Array.getD_eq_getD_getElem?, List.getElem?_toArray, List.getElem?_cons_zero, List.getElem?_cons_succ, Option.getD_some] at e27 e30
        go_simp
        exact hK _ hJ
      refine Vals9.Steps.run rfl ?_ ?_
      · intro a W σ hJ pre K hK
        have e9 := pre.2.2 9 _ (by kernel_rfl) rfl
        clear pre
        simp only [Array.getD_eq_getD_getElem?, List.getElem?_toArray, List.getElem?_cons_zero, List.getElem?_cons_succ, Option.getD_some] at e9
        have hS9 := hJ
        have hW9 : Wo w (P : Int) (lo : Int) (hi : Int) gL L g9 m (σ 9) W := hS9
        obtain ⟨c0, c1, c2⟩ := hW9.bg.gcells
        obtain ⟨f0, f1⟩ := hW9.b9.fcells
        go_simp
        exact hK _ hJ
      refine Vals9.Steps.run rfl ?_ ?_
      · intro a W σ hJ pre K hK
        have e31 := pre.1 6 31 _ (by kernel_rfl) rfl rfl
        clear pre
        simp only [Array.getD_eq_getD_getElem?, List.getElem?_toArray, List.getElem?_cons_zero, List.getElem?_cons_succ, Option.getD_some] at e31
        go_simp
        exact hK _ hJ
      refine Vals9.Steps.mark rfl ?_ ?_
      · intro a W σ hJ hn pre K hK
        have e5 := pre.2.2 5 _ (by kernel_rfl) rfl
        have e32 := pre.1 7 32 _ (by kernel_rfl) rfl rfl
        simp only [Array.getD_eq_getD_getElem?, List.getElem?_toArray, List.getElem?_cons_zero, List.getElem?_cons_succ, Option.getD_some] at e5 e32
        have hJ2 : Wo w (P : Int) (lo : Int) (hi : Int) gL L g9 m (σ 9) W := hJ
        obtain ⟨r, hr, -⟩ := hJ2.b5
        refine wp_store_row 41 _ _ rfl (w.heap.size + 1 + 1) (fV (ip m)) (by simpa [Act.eval] using e5) (by simpa [Act.eval] using e32) 41 _ hr (by kernel_rfl) rfl (by simp [Value.oneCell']) ?_
        exact hK undef _ (hJ2.put hr hg9 hgL)
      refine Vals9.Steps.run rfl ?_ ?_
      · intro a W σ hJ pre K hK
        clear pre
        go_simp
        exact hK _ hJ
      exact Vals9.Steps.nil
    case hfin =>
    rintro X σ hJ
    simp only [Vals9.All]
    intro v9 hv9
    have hW9 : Wo w (P : Int) (lo : Int) (hi : Int) gL L g9 m (σ 9) X := hJ
    obtain ⟨r, hr, hrm⟩ := hW9.b5
    obtain rfl := hrm _ hv9
    have hsn := hW9.sn
    clear hJ hW9 hrm hv9
    simp only [Vals.putAll, List.setIfInBounds_toArray, List.set_cons_zero, List.set_cons_succ]
    go_wp2_with fail
    refine bodyPost_ret (results_tct Try.results29 _ _ _ _ rfl (load_fr hr)) rfl ⟨by rw [HV.out]; rfl, hsn.1⟩
  · have hs1 := (hs0.keep hb1).alloc (.cells #[.pointer none] 87)
    have H3 := Lib.hid ((H1.out.keep hb1).alloc (.cells #[.pointer none] 87))
    have H7 := Lib.hid (H3.out.row (fV (0, 0)))
    have HS8 := Lib.hid (hs1.row (g := w.heap.size + 1 + 1) (by omega) (fV (0, 0)))
    have HV : Hid (worA P lo hi fi pa fa se to = (0, (0, 0), chkP P lo hi fi pa fa se to)) := by show _ = _; unfold worA; rw [if_neg hc]
    obtain ⟨e, he⟩ : ∃ e, chkP P lo hi fi pa fa se to = e := ⟨_, rfl⟩
    rw [he] at HV hc ⊢
    have hc' : (e != 0) = true := by simpa using hc
    clear c0 c1 c2 d0 d1 d2 d3 d4 HG HL H1 hb1 he hc
    go_wp2_with ((refine wpList_store_row rfl 41 _ _ rfl (w.heap.size + 1 + 1) _ rfl rfl 41 _ H3.out (by kernel_rfl) rfl (by simp [Value.oneCell']) ?_))
    refine bodyPost_ret (results_tct Try.results29 _ _ _ _ rfl (load_fr H7.out)) rfl ⟨by rw [HV.out]; rfl, HS8.out.1⟩
end Td
end Go.Proofs.Ytgkdidnmndmlhaa
