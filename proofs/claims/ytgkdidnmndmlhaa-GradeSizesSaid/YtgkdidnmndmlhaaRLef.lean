import Derived.Test.YtgkdidnmndmlhaaMathL
import Derived.Test.YtgkdidnmndmlhaaRefA
/- The reference: Left. -/
namespace Go.Proofs.Ytgkdidnmndmlhaa
open Go.RowKit
namespace Td
set_option linter.unusedSimpArgs false
set_option linter.unusedVariables false
attribute [local go_sem] Oper.semAt_some
/-- what is found among the first numbers of bad pieces, up to b. -/
def lfB (lw up b : Int) : Bool := decide (lw < b ∧ lw ≤ up)
def lfP (lw up s b : Int) : Int × Int := if lfB lw up b = true then (lw - s, min (b - 1) up - s) else (0, 0)
theorem lf_out {lw up s b : Int} (h : ¬ (lw ≤ b ∧ b ≤ up)) : lfB lw up (b + 1) = lfB lw up b ∧ lfP lw up s (b + 1) = lfP lw up s b := by
  have e : lfB lw up (b + 1) = lfB lw up b := by
    unfold lfB
    congr 1
    refine propext ⟨fun ⟨a, c⟩ => ⟨by omega, c⟩, fun ⟨a, c⟩ => ⟨by omega, c⟩⟩
  refine ⟨e, ?_⟩
  unfold lfP
  rw [e]
  by_cases hb : lfB lw up b = true
  · rw [if_pos hb, if_pos hb]
    unfold lfB at hb
    have := of_decide_eq_true hb
    congr 2
    omega
  · rw [if_neg hb, if_neg hb]
theorem lf_in {lw up s b : Int} (h : lw ≤ b ∧ b ≤ up) : lfB lw up (b + 1) = true ∧ lfP lw up s (b + 1) = (lw - s, b - s) ∧ (lfB lw up b = false → lw = b) ∧ (lfB lw up b = true → (lfP lw up s b).1 = lw - s) := by
  have e : lfB lw up (b + 1) = true := decide_eq_true ⟨by omega, by omega⟩
  refine ⟨e, ?_, fun hb => ?_, fun hb => ?_⟩
  · unfold lfP
    rw [if_pos e]
    congr 2
    omega
  · unfold lfB at hb
    have := of_decide_eq_false hb
    omega
  · unfold lfP
    rw [if_pos hb]
set_option maxRecDepth 100000 in
set_option maxHeartbeats 8000000 in
theorem rLeft_c (P lo hi n s : Int) (w : World) :
    Calls Try.prog 34 #[.agg (gV P lo hi), .int .i64 n, .int .i64 s] w fun e w' => e = .returned (.tuple #[.agg (fV (lefA P lo hi n s).1), .int .i64 (lefA P lo hi n s).2]) ∧ Below w.heap.size w w' := by
  have hs := ((Since.refl w).alloc (.cells (gV P lo hi) 25)).alloc (.cells (fV (0, 0)) 23)
  have HG := Lib.hid ((Blk.new w 25 (gV P lo hi)).alloc (.cells (fV (0, 0)) 23))
  have HR := Lib.hid (Blk.new1 w (.cells (gV P lo hi) 25) 23 (fV (0, 0)))
  obtain ⟨c0, c1, c2⟩ := HG.out.gcells
  by_cases h1 : chkE P lo hi = 0
  · have HCE := Lib.hid h1
    cases h2 : wi 0 P n
    · have HV : Hid (lefA P lo hi n s = ((0, 0), 7)) := by show _ = _; unfold lefA; rw [if_pos h1, if_neg (by rw [h2]; simp)]
      have H22 := Lib.hid h2
      rw [HV.out]
      clear h1 h2 HV
      go_enter Try.func34, Try.ntmps34
      go_wp2_with fail
      refine (rCheck_c P lo hi _).mono ?_
      rintro e v1 ⟨rfl, hb⟩
      rw [HCE.out]
      replace hs := hs.keep hb
      replace HG := Lib.hid (HG.out.keep hb)
      replace HR := Lib.hid (HR.out.keep hb)
      clear hb c0 c1 c2
      obtain ⟨c0, c1, c2⟩ := HG.out.gcells
      go_wp2_with fail
      refine (rin_c 0 P n _).mono ?_
      rintro e w' ⟨rfl, rfl⟩
      rw [H22.out]
      have H4 := Lib.hid (HR.out.row (fV (0, 0)))
      have hs4 := hs.row (g := w.heap.size + 1) (by omega) (fV (0, 0))
      go_wp2_with (refine wpList_store_row rfl 23 _ _ rfl (w.heap.size + 1) (fV (0, 0)) rfl (by first | rfl | (simp; done)) 23 _ HR.out (by kernel_rfl) rfl (by simp [Value.oneCell']) ?_)
      refine bodyPost_ret (results_ct Try.results34 _ _ _ _ rfl (load_sp H4.out)) rfl ⟨rfl, hs4.1⟩
    · cases h3 : wi 0 n s
      · have HV : Hid (lefA P lo hi n s = ((0, 0), 7)) := by show _ = _; unfold lefA; rw [if_pos h1, if_neg (by rw [h3]; simp)]
        have H22 := Lib.hid h2
        have H33 := Lib.hid h3
        rw [HV.out]
        clear h1 h2 h3 HV
        go_enter Try.func34, Try.ntmps34
        go_wp2_with fail
        refine (rCheck_c P lo hi _).mono ?_
        rintro e v1 ⟨rfl, hb⟩
        rw [HCE.out]
        replace hs := hs.keep hb
        replace HG := Lib.hid (HG.out.keep hb)
        replace HR := Lib.hid (HR.out.keep hb)
        clear hb c0 c1 c2
        obtain ⟨c0, c1, c2⟩ := HG.out.gcells
        go_wp2_with fail
        refine (rin_c 0 P n _).mono ?_
        rintro e w' ⟨rfl, rfl⟩
        rw [H22.out]
        go_wp2_with fail
        refine (rin_c 0 n s _).mono ?_
        rintro e w' ⟨rfl, rfl⟩
        rw [H33.out]
        have H4 := Lib.hid (HR.out.row (fV (0, 0)))
        have hs4 := hs.row (g := w.heap.size + 1) (by omega) (fV (0, 0))
        go_wp2_with (refine wpList_store_row rfl 23 _ _ rfl (w.heap.size + 1) (fV (0, 0)) rfl (by first | rfl | (simp; done)) 23 _ HR.out (by kernel_rfl) rfl (by simp [Value.oneCell']) ?_)
        refine bodyPost_ret (results_ct Try.results34 _ _ _ _ rfl (load_sp H4.out)) rfl ⟨rfl, hs4.1⟩
      · have H22 := Lib.hid h2
        have H33 := Lib.hid h3
        obtain ⟨k1, k2, k3, k4, k5⟩ := chkE_ok.1 h1
        have hp2 := wi_iff.1 h2
        have hp3 := wi_iff.1 h3
        have hV : lefA P lo hi n s = if min hi (P - (n - s)) < max lo s then ((0, 0), 9) else ((max lo s - s, min hi (P - (n - s)) - s), 0) := by unfold lefA; rw [if_pos h1, if_pos ⟨h2, h3⟩]
        rw [hV]
        obtain ⟨P, rfl⟩ : ∃ n : Nat, P = n := ⟨P.toNat, by omega⟩
        obtain ⟨lo, rfl⟩ : ∃ n : Nat, lo = n := ⟨lo.toNat, by omega⟩
        obtain ⟨hi, rfl⟩ : ∃ n : Nat, hi = n := ⟨hi.toNat, by omega⟩
        obtain ⟨n, rfl⟩ : ∃ q : Nat, n = q := ⟨n.toNat, by omega⟩
        obtain ⟨s, rfl⟩ : ∃ q : Nat, s = q := ⟨s.toNat, by omega⟩
        obtain ⟨lw, hlw⟩ : ∃ q : Int, max (lo : Int) (s : Int) = q := ⟨_, rfl⟩
        obtain ⟨up, hup⟩ : ∃ q : Int, min (hi : Int) ((P : Int) - ((n : Int) - (s : Int))) = q := ⟨_, rfl⟩
        rw [hlw, hup]
        have hb1 : (lo : Int) ≤ lw ∧ (s : Int) ≤ lw ∧ lw ≤ 40 ∧ up ≤ (hi : Int) ∧ -40 ≤ up := by omega
        obtain ⟨⟨⟨V0, V1⟩, V2⟩, hV1⟩ : ∃ V : (Int × Int) × Int, (if up < lw then ((0, 0), 9) else ((lw - s, up - s), 0)) = V := ⟨_, rfl⟩
        rw [hV1]
        have HVN : Hid (lfB lw up ((hi : Int) + 1) = false → V0 = 0 ∧ V1 = 0 ∧ V2 = 9) := fun h => by
          unfold lfB at h
          have h := of_decide_eq_false h
          rw [if_pos (by omega)] at hV1
          cases hV1
          exact ⟨rfl, rfl, rfl⟩
        have HVY : Hid (lfB lw up ((hi : Int) + 1) = true → fV (lfP lw up s ((hi : Int) + 1)) = fV (V0, V1) ∧ V2 = 0) := fun h => by
          have hq := h
          unfold lfB at h
          have h := of_decide_eq_true h
          rw [if_neg (by omega)] at hV1
          unfold lfP
          rw [if_pos hq, show min ((hi : Int) + 1 - 1) up = up by omega]
          cases hV1
          exact ⟨rfl, rfl⟩
        have HIN : Hid (∀ b : Nat, lo ≤ b → b ≤ hi → ((lw ≤ (b : Int) ∧ (b : Int) ≤ up) ∧ 0 < shI P b n s) ∨ (¬ (lw ≤ (b : Int) ∧ (b : Int) ≤ up) ∧ shI P b n s = 0)) := fun b a c => by
          rw [shI_nat (by omega) (by omega)]
          by_cases hin : lw ≤ (b : Int) ∧ (b : Int) ≤ up
          · exact .inl ⟨hin, sh_pos (by omega) (by omega)⟩
          · exact .inr ⟨hin, sh_none (by omega)⟩
        have HSH := fun (b : Nat) (hb : b ≤ hi) W => Lib.hid (rshows_c (P : Int) b n s W (by omega) (by omega) (by unfold I64; omega) (by unfold I64; omega))
        have HST : Hid (lfB lw up (lo : Int) = false ∧ lfP lw up s (lo : Int) = (0, 0)) := by
          have e : lfB lw up (lo : Int) = false := decide_eq_false (by omega)
          exact ⟨e, by unfold lfP; rw [if_neg (by rw [e]; simp)]⟩
        have hsz : s ≤ 20 ∧ hi ≤ 20 ∧ lo ≤ hi := by omega
        clear h1 h2 h3 hp2 hp3 hV hV1 hlw hup k1 k2 k3 k4 k5
        go_enter Try.func34, Try.ntmps34
        go_wp2_with fail
        refine (rCheck_c P lo hi _).mono ?_
        rintro e v1 ⟨rfl, hb⟩
        rw [HCE.out]
        replace hs := hs.keep hb
        replace HG := Lib.hid (HG.out.keep hb)
        replace HR := Lib.hid (HR.out.keep hb)
        clear hb c0 c1 c2
        obtain ⟨c0, c1, c2⟩ := HG.out.gcells
        go_wp2_with fail
        refine (rin_c 0 P n _).mono ?_
        rintro e w' ⟨rfl, rfl⟩
        rw [H22.out]
        go_wp2_with fail
        refine (rin_c 0 n s _).mono ?_
        rintro e w' ⟨rfl, rfl⟩
        rw [H33.out]
        have hsw := Lib.hid (hs.alloc (.cells (fV (0, 0)) 23))
        have HB0 := Lib.hid (Blk.new v1 23 (fV (0, 0)))
        have HG0 := Lib.hid (HG.out.alloc (.cells (fV (0, 0)) 23))
        have HR0 := Lib.hid (HR.out.alloc (.cells (fV (0, 0)) 23))
        have hwl : w.heap.size + 1 < v1.heap.size := HR.out.lt
        obtain ⟨i0, i1, i2⟩ := HG0.out.gcells
        clear HG HR hs
        go_wp2_with fail
        clear c0 c1 c2 i0 i1 i2
        obtain ⟨g9, hg9⟩ : ∃ k, v1.heap.size = k := ⟨_, rfl⟩
        obtain ⟨v2, hv2⟩ : ∃ v, v1.alloc (.cells (fV (0, 0)) 23) = v := ⟨_, rfl⟩
        rw [hv2] at hsw HB0 HG0 HR0 ⊢
        rw [hg9] at HB0 hwl ⊢
        rw [← HST.out.2] at HB0
        clear hv2 hg9
        go_loopw [10, 11] (fun v i wr => ∃ k : Nat, k ≤ hi + 1 - lo ∧ v = .bool (lfB lw up ((lo + k : Nat) : Int)) ∧ i = .int .i64 ((lo + k : Nat) : Int) ∧ Hid (Blk wr g9 23 (fV (lfP lw up s ((lo + k : Nat) : Int)))) ∧ Hid (Blk wr w.heap.size 25 (gV P lo hi)) ∧ Hid (Blk wr (w.heap.size + 1) 23 (fV (0, 0))) ∧ Hid (Since w wr)) (fun _ i _ => hi + 1 - (intOf i).toNat)
        case atStart => exact ⟨0, by omega, by rw [Nat.add_zero, HST.out.1], rfl, HB0, HG0, HR0, hsw⟩
        case round =>
          clear HB0 HG0 HR0 hsw
          obtain ⟨k, hk, rfl, rfl, HB, HG, HR, HS⟩ := hrel
          obtain ⟨c0, c1, c2⟩ := HG.out.gcells
          by_cases hkl : lo + k ≤ hi
          · obtain ⟨b, hb⟩ : ∃ b, lo + k = b := ⟨_, rfl⟩
            have HBB := Lib.hid hb
            have hb1' : lo ≤ b := by omega
            rw [hb] at hkl HB ⊢
            have HX := HSH b hkl
            have hin := HIN.out b hb1' hkl
            obtain ⟨bb, hbb⟩ : ∃ v, lfB lw up (b : Int) = v := ⟨_, rfl⟩
            obtain ⟨⟨px, py⟩, hpp⟩ : ∃ v, lfP lw up s (b : Int) = v := ⟨_, rfl⟩
            have t1 : (b : Int) ≤ (hi : Int) := by omega
            have w1 : IntKind.i64.wrap ((b : Int) + 1) = ((b + 1 : Nat) : Int) := by rw [wrapI (by unfold I64; omega)]; omega
            rcases hin with ⟨hin, hx⟩ | ⟨hin, hx⟩
            · obtain ⟨l1, l2, l3, l4⟩ := lf_in (s := (s : Int)) hin
              rw [hbb] at l3 l4
              rw [hpp] at l4 HB
              have hN1 : Hid (Value.bool true = .bool (lfB lw up ((lo + (k + 1) : Nat) : Int))) := by
                show _ = _
                rw [show ((lo + (k + 1) : Nat) : Int) = (b : Int) + 1 by omega, l1]
              have HN2 : Hid (fV (lfP lw up s ((lo + (k + 1) : Nat) : Int)) = fV (lw - s, (b : Int) - s)) := by
                show _ = _
                rw [show ((lo + (k + 1) : Nat) : Int) = (b : Int) + 1 by omega, l2]
              obtain ⟨x, hx0⟩ : ∃ x, shI P b n s = x := ⟨_, rfl⟩
              rw [hx0] at HX hx
              obtain ⟨bs, hbs⟩ : ∃ q : Int, (b : Int) - s = q := ⟨_, rfl⟩
              rw [hbs] at HN2
              have u1 : IntKind.i64.wrap ((b : Int) - (s : Int)) = bs := by rw [hbs]; exact wrapI (by unfold I64; omega)
              have z1 : ¬ (x : Int) = 0 := by omega
              have z2 : ((x : Int) == 0) = false := by rw [beq_eq_false_iff_ne]; omega
              have z3 : ¬ x = 0 := by omega
              have HL4 := Lib.hid l4
              have HL3 : Hid (bb = false → bs = lw - s) := fun h => by have := l3 h; omega
              first | rw [hbb] | skip
              clear hx0 hx hin l1 l2 l3 l4 hbb hpp hb hbs
              go_wp2_with fail
              refine (HX _).out.mono ?_
              rintro e v3 ⟨rfl, hb⟩
              replace HB := Lib.hid (HB.out.keep hb)
              replace HG := Lib.hid (HG.out.keep hb)
              replace HR := Lib.hid (HR.out.keep hb)
              replace HS := Lib.hid (HS.out.keep hb)
              clear hb c0 c1 c2
              cases bb
              · have e1 := HL3.out rfl
                have g0 := HB.out.cell 0
                have f0 := HB.out.frozen 0
                have HB1 := Lib.hid (HB.out.set 0 (.int .i64 bs))
                have g1 := HB1.out.cell 1
                have f1 := HB1.out.frozen 1
                have HB2 := Lib.hid (HB1.out.set 1 (.int .i64 bs))
                have HG2 := Lib.hid ((HG.out.far (g' := g9) (by omega) 0 (.int .i64 bs)).far (g' := g9) (by omega) 1 (.int .i64 bs))
                have HR2 := Lib.hid ((HR.out.far (g' := g9) (by omega) 0 (.int .i64 bs)).far (g' := g9) (by omega) 1 (.int .i64 bs))
                have HS2 : Hid (Since w ((v3.setCell ⟨g9, 0, none⟩ (.int .i64 bs)).setCell ⟨g9, 1, none⟩ (.int .i64 bs))) := ⟨(HS.out.1.setCell (p := ⟨g9, 0, none⟩) (by show w.heap.size ≤ g9; omega) _).setCell (p := ⟨g9, 1, none⟩) (by show w.heap.size ≤ g9; omega) _, by have := HS.out.2; simpa using this⟩
                have HB3 : Hid (Blk ((v3.setCell ⟨g9, 0, none⟩ (.int .i64 bs)).setCell ⟨g9, 1, none⟩ (.int .i64 bs)) g9 23 (fV (lfP lw up s ((lo + (k + 1) : Nat) : Int)))) := by show Blk _ _ _ _; rw [HN2.out, ← e1]; exact HB2.out
                simp only [List.getElem?_toArray, List.getElem?_cons_zero, List.getElem?_cons_succ, List.setIfInBounds_toArray, List.set_cons_zero] at g0 g1
                clear HB HB1 HB2 HG HR HS e1
                go_wp2_with fail
                clear g0 f0 g1 f1
                go_roundw
                case rel => exact ⟨k + 1, by have := HBB.out; omega, hN1.out, by congr 1; have := HBB.out; omega, HB3, HG2, HR2, HS2⟩
                case measure => simp [intOf]; omega
              · have e1 := HL4.out rfl
                try simp only at e1
                have g1 := HB.out.cell 1
                have f1 := HB.out.frozen 1
                have HB2 := Lib.hid (HB.out.set 1 (.int .i64 bs))
                have HG2 := Lib.hid (HG.out.far (g' := g9) (by omega) 1 (.int .i64 bs))
                have HR2 := Lib.hid (HR.out.far (g' := g9) (by omega) 1 (.int .i64 bs))
                have HS2 : Hid (Since w (v3.setCell ⟨g9, 1, none⟩ (.int .i64 bs))) := ⟨HS.out.1.setCell (p := ⟨g9, 1, none⟩) (by show w.heap.size ≤ g9; omega) _, by have := HS.out.2; simpa using this⟩
                have HB3 : Hid (Blk (v3.setCell ⟨g9, 1, none⟩ (.int .i64 bs)) g9 23 (fV (lfP lw up s ((lo + (k + 1) : Nat) : Int)))) := by show Blk _ _ _ _; rw [HN2.out, ← e1]; exact HB2.out
                try simp only [List.getElem?_toArray, List.getElem?_cons_zero, List.getElem?_cons_succ] at g1
                clear HB HB2 HG HR HS e1
                go_wp2_with fail
                clear g1 f1
                go_roundw
                case rel => exact ⟨k + 1, by have := HBB.out; omega, hN1.out, by congr 1; have := HBB.out; omega, HB3, HG2, HR2, HS2⟩
                case measure => simp [intOf]; omega
            · obtain ⟨l1, l2⟩ := lf_out (s := (s : Int)) hin
              rw [hbb] at l1
              rw [hpp] at l2 HB
              have hN1 : Hid (Value.bool bb = .bool (lfB lw up ((lo + (k + 1) : Nat) : Int))) := by
                show _ = _
                rw [show ((lo + (k + 1) : Nat) : Int) = (b : Int) + 1 by omega, l1]
              have HN2 : Hid (fV (lfP lw up s ((lo + (k + 1) : Nat) : Int)) = fV (px, py)) := by
                show _ = _
                rw [show ((lo + (k + 1) : Nat) : Int) = (b : Int) + 1 by omega, l2]
              rw [hx] at HX
              first | rw [hbb] | skip
              clear hx hin l1 l2 hbb hpp hb
              go_wp2_with fail
              refine (HX _).out.mono ?_
              rintro e v3 ⟨rfl, hb⟩
              replace HB := Lib.hid (HB.out.keep hb)
              rw [← HN2.out] at HB
              replace HG := Lib.hid (HG.out.keep hb)
              replace HR := Lib.hid (HR.out.keep hb)
              replace HS := Lib.hid (HS.out.keep hb)
              clear hb c0 c1 c2
              go_wp2_with fail
              go_roundw
              case rel => exact ⟨k + 1, by have := HBB.out; omega, hN1.out, by congr 1; have := HBB.out; omega, HB, HG, HR, HS⟩
              case measure => simp [intOf]; omega
          · have e : ((lo + k : Nat) : Int) = (hi : Int) + 1 := by omega
            have t1 : ¬ ((lo + k : Nat) : Int) ≤ (hi : Int) := by omega
            have t2 : ¬ lo + k ≤ hi := hkl
            rw [e] at HB
            have HBv : Hid (lfB lw up ((lo + k : Nat) : Int) = lfB lw up ((hi : Int) + 1)) := by show _ = _; rw [e]
            obtain ⟨bb, hbb⟩ : ∃ v, lfB lw up ((lo + k : Nat) : Int) = v := ⟨_, rfl⟩
            rw [hbb] at HBv
            first | rw [hbb] | skip
            clear e hbb
            cases bb
            · obtain ⟨rfl, rfl, rfl⟩ := HVN.out HBv.out.symm
              have H4 := Lib.hid (HR.out.row (fV (0, 0)))
              have hs4 := HS.out.row (g := w.heap.size + 1) (by omega) (fV (0, 0))
              clear HBv HVN HVY HB HG
              go_wp2_with (refine wpList_store_row rfl 23 _ _ rfl (w.heap.size + 1) (fV (0, 0)) rfl (by first | rfl | (simp; done)) 23 _ HR.out (by kernel_rfl) rfl (by simp [Value.oneCell']) ?_)
              refine bodyPost_ret (results_ct Try.results34 _ _ _ _ rfl (load_sp H4.out)) rfl ⟨rfl, hs4.1⟩
            · obtain ⟨e1, rfl⟩ := HVY.out HBv.out.symm
              rw [e1] at HB
              have H4 := Lib.hid (HR.out.row (fV (V0, V1)))
              have hs4 := HS.out.row (g := w.heap.size + 1) (by omega) (fV (V0, V1))
              obtain ⟨m0, m1⟩ := HB.out.fcells
              clear HBv HVN HVY HB HG e1
              go_wp2_with (refine wpList_store_row rfl 23 _ _ rfl (w.heap.size + 1) (fV (V0, V1)) rfl (by first | rfl | (simp; done)) 23 _ HR.out (by kernel_rfl) rfl (by simp [Value.oneCell']) ?_)
              refine bodyPost_ret (results_ct Try.results34 _ _ _ _ rfl (load_sp H4.out)) rfl ⟨rfl, hs4.1⟩
  · have HV : Hid (lefA P lo hi n s = ((0, 0), chkE P lo hi)) := by show _ = _; unfold lefA; rw [if_neg h1]
    rw [HV.out]
    obtain ⟨E, hE⟩ : ∃ E, chkE P lo hi = E := ⟨_, rfl⟩
    have HCE := Lib.hid hE
    rw [hE] at h1 ⊢
    have e1 : (E == 0) = false := by rw [beq_eq_false_iff_ne]; exact h1
    have e2 : (E != 0) = true := by rw [bne_iff_ne]; exact h1
    clear HV hE
    go_enter Try.func34, Try.ntmps34
    go_wp2_with fail
    refine (rCheck_c P lo hi _).mono ?_
    rintro e v1 ⟨rfl, hb⟩
    rw [HCE.out]
    replace hs := hs.keep hb
    replace HR := Lib.hid (HR.out.keep hb)
    clear hb c0 c1 c2
    have H4 := Lib.hid (HR.out.row (fV (0, 0)))
    have hs4 := hs.row (g := w.heap.size + 1) (by omega) (fV (0, 0))
    go_wp2_with (refine wpList_store_row rfl 23 _ _ rfl (w.heap.size + 1) (fV (0, 0)) rfl (by first | rfl | (simp; done)) 23 _ HR.out (by kernel_rfl) rfl (by simp [Value.oneCell']) ?_)
    refine bodyPost_ret (results_ct Try.results34 _ _ _ _ rfl (load_sp H4.out)) rfl ⟨rfl, hs4.1⟩
end Td
end Go.Proofs.Ytgkdidnmndmlhaa
