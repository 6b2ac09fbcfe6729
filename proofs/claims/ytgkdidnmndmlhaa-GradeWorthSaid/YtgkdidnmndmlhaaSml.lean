import Derived.Test.YtgkdidnmndmlhaaPsc
import Derived.Test.YtgkdidnmndmlhaaMath
/- The least sample that does. -/
namespace Go.Proofs.Ytgkdidnmndmlhaa
open Go.RowKit
namespace Td
set_option linter.unusedSimpArgs false
set_option linter.unusedVariables false
attribute [local go_sem] Oper.semAt_some
theorem chS_sm {P F pa fa S to d : Nat} (k : Fit P F pa fa S d) : Sm (chS P F pa fa S to d) := by
  have h1 := avgS_le (pa := pa) (fa := fa) (to := to) (F := F) (S := S) (wo := fun _ => 1) k.d (m := 1) (fun _ _ => Nat.le_refl _)
  have h2 := cases_le (S := S) k.p k.f
  have h3 := shr_le (avgS P F pa fa S to d fun _ => 1) (bn P F * bn (P - F) S)
  exact ⟨by unfold chS; omega, by unfold chS; omega⟩
theorem stS_sm {P F pa fa S to d : Nat} (k : Fit P F pa fa S d) : Sm (stS P F pa fa S to d) := by
  have h1 := avgS_le (pa := pa) (fa := fa) (to := to) (F := F) (S := S) (wo := fun v => v) k.d (m := 20) (fun v hv => by have := k.d; have := k.p; omega)
  have h2 := cases_le (S := S) k.p k.f
  have h3 := shr_le (avgS P F pa fa S to d fun v => v) (bn P F * bn (P - F) S)
  exact ⟨by unfold stS; omega, by unfold stS; omega⟩
theorem prS_sm {P n d : Nat} {xs : List Int} (hb : ∀ x ∈ xs, 0 ≤ x ∧ x ≤ 100000) (hd : d ≤ P) (hP : P ≤ 20) : Sm (prS P n xs d) := by
  have h1 := prcS_le (P := P) (n := n) (pay := fun i => (xs[i]?.getD 0).toNat) hd (m := 100000) (fun i hi => by
    rcases Nat.lt_or_ge i xs.length with hk | hk
    · have := hb _ (List.getElem_mem hk)
      simp only [List.getElem?_eq_getElem hk, Option.getD_some]
      omega
    · simp only [List.getElem?_eq_none hk, Option.getD_none]; decide)
  have h2 := bn_le (P := P) (n := n) hP
  have h3 := shr_le (prcS P d n fun i => (xs[i]?.getD 0).toNat) (bn P n)
  exact ⟨by unfold prS; omega, by unfold prS; omega⟩
/-- does a sample of n pieces do? -/
def okS (P lo hi pass : Nat) (wanted : Nat × Nat) (n : Nat) : Bool := (List.range (hi + 1 - lo)).all fun k => decide (chS P n pass (pass + 1) 0 0 (lo + k) = wanted) || lt' (chS P n pass (pass + 1) 0 0 (lo + k)) wanted
theorem okS_no {P lo hi pass : Nat} {wanted : Nat × Nat} {n b : Nat} (h1 : lo ≤ b) (h2 : b ≤ hi) (h : (decide (chS P n pass (pass + 1) 0 0 b = wanted) || lt' (chS P n pass (pass + 1) 0 0 b) wanted) = false) : okS P lo hi pass wanted n = false := by
  unfold okS
  rw [Bool.eq_false_iff]
  intro ha
  have := List.all_eq_true.1 ha (b - lo) (List.mem_range.2 (by omega))
  rw [show lo + (b - lo) = b by omega, h] at this
  cases this
theorem okS_yes {P lo hi pass : Nat} {wanted : Nat × Nat} {n : Nat} (h : ∀ b, lo ≤ b → b ≤ hi → (decide (chS P n pass (pass + 1) 0 0 b = wanted) || lt' (chS P n pass (pass + 1) 0 0 b) wanted) = true) : okS P lo hi pass wanted n = true := by
  unfold okS
  rw [List.all_eq_true]
  intro k hk
  have := List.mem_range.1 hk
  exact h _ (by omega) (by omega)
set_option maxRecDepth 100000 in
set_option maxHeartbeats 4000000 in
theorem smallest_c (g : Nat) (P lo hi pass : Nat) (wanted : Nat × Nat) (w : World) (hg : Blk w g 97 (hpV (P : Int) (lo : Int) (hi : Int))) (hlh : lo ≤ hi) (hhi : hi ≤ P) (hP : P ≤ 20) (hps : pass ≤ P) (hsm : Sm wanted) :
    Calls Try.prog 76 #[hpP g, .int .i64 pass, .agg (fV (ip wanted))] w fun e w' => e = .returned (.tuple #[.int .i64 (smF (okS P lo hi pass wanted) P), .bool (decide (smF (okS P lo hi pass wanted) P ≠ 0))]) ∧ Below w.heap.size w w' := by
  have hs0 := (Since.refl w).alloc (.cells (fV (ip wanted)) 90)
  have HW0 := Lib.hid (Blk.new w 90 (fV (ip wanted)))
  obtain ⟨qs, hqs⟩ : ∃ qs, pass + 1 = qs := ⟨_, rfl⟩
  have w1 : IntKind.i64.wrap ((pass : Int) + 1) = (qs : Int) := by rw [wrapI (by unfold I64; omega)]; omega
  have HQS := Lib.hid hqs
  clear hqs
  obtain ⟨ok, hok⟩ : ∃ ok : Nat → Bool, ok = okS P lo hi pass wanted := ⟨_, rfl⟩
  rw [← hok]
  have HOK := Lib.hid hok
  clear hok
  have HSM := Lib.hid hsm
  clear hsm
  go_enter Try.func76, Try.ntmps76
  go_wp2_with fail
  go_step3
  go_wp2_with fail
  go_step3
  go_wp2_with fail
  go_loopg [8] (P + 1) (fun g2 s8 wx => ∃ n : Nat, n + g2 = P + 2 ∧ 1 ≤ n ∧ s8 = .int .i64 (n : Int) ∧ Hid (Since w wx) ∧ Hid (Blk wx w.heap.size 90 (fV (ip wanted))) ∧ Hid (∀ m, 1 ≤ m → m < n → ok m = false))
  case atStart => exact ⟨1, by omega, by omega, rfl, hs0, HW0, fun m h1 h2 => by omega⟩
  case round =>
    obtain ⟨m, hm, hm1, rfl, HS, HW, HM⟩ := hrel
    obtain ⟨c0, c1, c2⟩ := (hg.keep HS.out.1).hcells
    cases gk with
    | zero =>
      have hno : ¬ (m : Int) ≤ (P : Int) := by omega
      have hno2 : ¬ m ≤ P := by omega
      have HV : Hid (smF ok P = 0) := smF_none fun q h1 h2 => HM.out q h1 (by omega)
      go_wp2_with fail
      try rw [Exit.noGoto_ret]
      go_ret2
      exact ⟨by rw [HV.out]; rfl, HS.out.1⟩
    | succ g2 =>
      rcases Nat.lt_or_ge P m with hlt | hle
      · have hno : ¬ (m : Int) ≤ (P : Int) := by omega
        have hno2 : ¬ m ≤ P := by omega
        have HV : Hid (smF ok P = 0) := smF_none fun q h1 h2 => HM.out q h1 (by omega)
        go_wp2_with fail
        try rw [Exit.noGoto_ret]
        go_ret2
        exact ⟨by rw [HV.out]; rfl, HS.out.1⟩
      · have hye : (m : Int) ≤ (P : Int) := by omega
        have HB := Lib.hid (Blk.new wr 38 (lV 0 0 0 0 0))
        have HS2 := Lib.hid ((HS.out.alloc (.cells (lV 0 0 0 0 0) 38)).row (g := wr.heap.size) (by have := HS.out.2; omega) (lV m pass qs 0 0))
        have HW2 := Lib.hid ((HW.out.alloc (.cells (lV 0 0 0 0 0) 38)).rowFar (g' := wr.heap.size) (by have := HW.out.lt; omega) (lV m pass qs 0 0))
        have HP2 := Lib.hid (HB.out.row (lV m pass qs 0 0))
        obtain ⟨e0, e1, e2⟩ := (hg.keep HS2.out.1).hcells
        go_wp2_with (refine wpList_store_row rfl 38 _ _ rfl (wr.heap.size) (lV m pass qs 0 0) rfl (by first | rfl | (simp; done)) 38 _ HB.out (by kernel_rfl) rfl (by simp [Value.oneCell']) ?_)
        obtain ⟨gp, hgp⟩ : ∃ gp, wr.heap.size = gp := ⟨_, rfl⟩
        obtain ⟨W2, hW2⟩ : ∃ W2, (wr.alloc (.cells (lV 0 0 0 0 0) 38)).setRow wr.heap.size (lV m pass qs 0 0) = W2 := ⟨_, rfl⟩
        rw [hW2] at HS2 HW2 HP2 ⊢
        rw [hgp] at HP2 ⊢
        have hgw : w.heap.size < gp := by rw [← hgp]; exact HW.out.lt
        clear hW2 hgp HB HS HW c0 c1 c2 e0 e1 e2
        go_loopg [10] (hi + 1 - lo) (fun g3 s10 wy => ∃ j : Nat, j + g3 = hi + 1 - lo ∧ s10 = .int .i64 ((lo + j : Nat) : Int) ∧ Hid (Since w wy) ∧ Hid (Blk wy w.heap.size 90 (fV (ip wanted))) ∧ Hid (Blk wy gp 38 (lV m pass qs 0 0)) ∧ Hid (∀ b, lo ≤ b → b < lo + j → (decide (chS P m pass (pass + 1) 0 0 b = wanted) || lt' (chS P m pass (pass + 1) 0 0 b) wanted) = true))
        case atStart => exact ⟨0, by omega, rfl, HS2, HW2, HP2, fun b h1 h2 => by omega⟩
        case round =>
          obtain ⟨j, hj, rfl, HS5, HW5, HP5, HJ⟩ := hrel
          obtain ⟨e0, e1, e2⟩ := (hg.keep HS5.out.1).hcells
          obtain ⟨b, hb⟩ : ∃ b, lo + j = b := ⟨_, rfl⟩
          have HB := Lib.hid hb
          rw [hb]
          cases gk with
          | zero =>
            have hno : ¬ (b : Int) ≤ (hi : Int) := by omega
            have HOKm : Hid (smF ok P = m) := smF_is hm1 hle (by rw [HOK.out]; exact okS_yes fun q h1 h2 => HJ.out q h1 (by have := HB.out; omega)) HM.out
            have HM0 : Hid (decide (m ≠ 0) = true) := decide_eq_true (by omega)
            clear hb
            go_wp2_with fail
            try rw [Exit.noGoto_ret]
            go_ret2
            exact ⟨by rw [HOKm.out, HM0.out]; rfl, HS5.out.1⟩
          | succ g3 =>
            have hye5 : (b : Int) ≤ (hi : Int) := by omega
            have hbP : b ≤ P := by omega
            have hlb : lo ≤ b := by omega
            have hk : Fit P m pass (pass + 1) 0 b := ⟨hbP, hle, by omega, hP, Nat.le_refl _⟩
            have HPC : Hid (∀ W, Blk W g 97 (hpV (P : Int) (lo : Int) (hi : Int)) → Calls Try.prog 65 #[hpP g, .agg (lV m pass qs 0 0), .int .i64 b] W fun e w' => e = .returned (.agg (fV (ip (chS P m pass (pass + 1) 0 0 b)))) ∧ Below W.heap.size W w') := fun W hW => by
              have := passes_c g (lo : Int) (hi : Int) P m pass (pass + 1) 0 0 b W hW hk
              rw [HQS.out] at this
              rw [HQS.out]
              exact this
            have HMC : Hid (∀ W, Calls Try.prog 92 #[.agg (fV (ip (chS P m pass (pass + 1) 0 0 b))), .agg (fV (ip wanted))] W fun e w' => e = .returned (.bool (decide (chS P m pass (pass + 1) 0 0 b = wanted) || lt' (chS P m pass (pass + 1) 0 0 b) wanted)) ∧ Below W.heap.size W w') := fun W => atMost_c _ _ W (chS_sm hk) HSM.out
            obtain ⟨T, hT⟩ : ∃ T, (decide (chS P m pass (pass + 1) 0 0 b = wanted) || lt' (chS P m pass (pass + 1) 0 0 b) wanted) = T := ⟨_, rfl⟩
            rw [hT] at HMC
            have HT := Lib.hid hT
            obtain ⟨fv, hfv⟩ : ∃ fv, ip (chS P m pass (pass + 1) 0 0 b) = fv := ⟨_, rfl⟩
            rw [hfv] at HPC HMC
            have w2 : IntKind.i64.wrap ((b : Int) + 1) = ((b + 1 : Nat) : Int) := by rw [wrapI (by unfold I64; omega)]; omega
            have w3 : IntKind.i64.wrap ((m : Int) + 1) = ((m + 1 : Nat) : Int) := by rw [wrapI (by unfold I64; omega)]; omega
            clear hT hfv hb
            go_wp2_with fail
            refine Vals6.regionAll (fun X => (Since w X ∧ Blk X w.heap.size 90 (fV (ip wanted))) ∧ Blk X gp 38 (lV m pass qs 0 0)) [some 41, some 42, some 43, some 44, some 45, some 46] [.is ?_, .is ?_, .is ?_, .is ?_, .is ?_, .is ?_] (by kernel_rfl) rfl rfl (by kernel_rfl) (by kernel_rfl) (by kernel_rfl) (by kernel_rfl) (by kernel_rfl) (by kernel_rfl) rfl (⟨⟨HS5.out.drew, HW5.out.drew⟩, HP5.out.drew⟩) ?hsteps ?hend
            case hsteps =>
              refine Vals5.Steps.run rfl (Vals5.Stable.is _) ?_ ?_
              · intro a W hS pre old K hK
                have e0 := old 0 _ (by kernel_rfl) rfl
                clear pre old
                simp only [Vals5.fits, Array.getD_eq_getD_getElem?, List.getElem?_toArray, List.getElem?_cons_zero, List.getElem?_cons_succ, Option.getD_some] at e0
                go_simp
                refine hK _ _ hS (Below.refl _ _) ?_
                exact fits_is _ _
              refine Vals5.Steps.run rfl (Vals5.Stable.is _) ?_ ?_
              · intro a W hS pre old K hK
                have e9 := old 9 _ (by kernel_rfl) rfl
                clear pre old
                simp only [Vals5.fits, Array.getD_eq_getD_getElem?, List.getElem?_toArray, List.getElem?_cons_zero, List.getElem?_cons_succ, Option.getD_some] at e9
                have hS9 := hS
                obtain ⟨⟨q1, q2⟩, q3⟩ := hS9
                obtain ⟨f0, f1⟩ := q2.fcells
                obtain ⟨d0, d1, d2, d3, d4⟩ := q3.lcells
                go_simp
                refine hK _ _ hS (Below.refl _ _) ?_
                exact fits_is _ _
              refine Vals5.Steps.run rfl (Vals5.Stable.is _) ?_ ?_
              · intro a W hS pre old K hK
                have e10 := old 10 _ (by kernel_rfl) rfl
                clear pre old
                simp only [Vals5.fits, Array.getD_eq_getD_getElem?, List.getElem?_toArray, List.getElem?_cons_zero, List.getElem?_cons_succ, Option.getD_some] at e10
                go_simp
                refine hK _ _ hS (Below.refl _ _) ?_
                exact fits_is _ _
              refine Vals5.Steps.run rfl (Vals5.Stable.is _) ?_ ?_
              · intro a W hS pre old K hK
                have e41 := pre 0 41 _ (by kernel_rfl) rfl rfl
                have e42 := pre 1 42 _ (by kernel_rfl) rfl rfl
                have e43 := pre 2 43 _ (by kernel_rfl) rfl rfl
                clear pre old
                simp only [Vals5.fits, Array.getD_eq_getD_getElem?, List.getElem?_toArray, List.getElem?_cons_zero, List.getElem?_cons_succ, Option.getD_some] at e41 e42 e43
                obtain ⟨⟨q1, q2⟩, q3⟩ := hS
                have HC := HPC.out W (hg.keep q1.1)
                go_simp
                refine HC.mono ?_
                rintro e w' ⟨rfl, hb'⟩
                refine hK _ _ ⟨⟨q1.keep hb', q2.keep hb'⟩, q3.keep hb'⟩ hb' ?_
                exact fits_is _ _
              refine Vals5.Steps.run rfl (Vals5.Stable.is _) ?_ ?_
              · intro a W hS pre old K hK
                have e5 := old 5 _ (by kernel_rfl) rfl
                clear pre old
                simp only [Vals5.fits, Array.getD_eq_getD_getElem?, List.getElem?_toArray, List.getElem?_cons_zero, List.getElem?_cons_succ, Option.getD_some] at e5
                have hS9 := hS
                obtain ⟨⟨q1, q2⟩, q3⟩ := hS9
                obtain ⟨f0, f1⟩ := q2.fcells
                obtain ⟨d0, d1, d2, d3, d4⟩ := q3.lcells
                go_simp
                refine hK _ _ hS (Below.refl _ _) ?_
                exact fits_is _ _
              refine Vals5.Steps.run rfl (Vals5.Stable.is _) ?_ ?_
              · intro a W hS pre old K hK
                have e44 := pre 3 44 _ (by kernel_rfl) rfl rfl
                have e45 := pre 4 45 _ (by kernel_rfl) rfl rfl
                clear pre old
                simp only [Vals5.fits, Array.getD_eq_getD_getElem?, List.getElem?_toArray, List.getElem?_cons_zero, List.getElem?_cons_succ, Option.getD_some] at e44 e45
                obtain ⟨⟨q1, q2⟩, q3⟩ := hS
                have HC := HMC.out W
                go_simp
                refine HC.mono ?_
                rintro e w' ⟨rfl, hb'⟩
                refine hK _ _ ⟨⟨q1.keep hb', q2.keep hb'⟩, q3.keep hb'⟩ hb' ?_
                exact fits_is _ _
              exact Vals5.Steps.nil
            case hend =>
            rintro X ⟨⟨hS6, hW6⟩, hP6⟩
            have HS6 := Lib.hid hS6
            have HW6 := Lib.hid hW6
            have HP6 := Lib.hid hP6
            clear hS6 hW6 hP6 HS5 HW5 HP5 HPC HMC
            simp only [Vals5.All]
            simp only [List.getLast_cons_cons, List.getLast_singleton]
            simp only [Vals.putAll, List.setIfInBounds_toArray, List.set_cons_zero, List.set_cons_succ]
            intro K hK
            go_simp
            refine hK _ _ ?_
            clear hK K e0 e1 e2
            cases T with
            | true =>
              go_wp2_with fail
              go_roundg g3
              case measure => omega
              case rel => exact ⟨j + 1, by omega, by have := HB.out; congr 1; omega, HS6, HW6, HP6, fun q h1 h2 => by
                rcases Nat.lt_or_ge q b with h3 | h3
                · exact HJ.out q h1 (by have := HB.out; omega)
                · obtain rfl : q = b := by have := HB.out; omega
                  exact HT.out⟩
            | false =>
              have HN : Hid (ok m = false) := by show _ = _; rw [HOK.out]; exact okS_no hlb (by omega) HT.out
              go_wp2_with fail
              go_roundg g2
              case measure => omega
              case rel => exact ⟨m + 1, by omega, by omega, by congr 1, HS6, HW6, fun q h1 h2 => by
                rcases Nat.lt_or_ge q m with h3 | h3
                · exact HM.out q h1 h3
                · obtain rfl : q = m := by omega
                  exact HN.out⟩
end Td
end Go.Proofs.Ytgkdidnmndmlhaa
