import Derived.Test.YtccacinnelmnpaaShoW
/- The reference: the error of readings. -/
namespace Go.Proofs.Ytccacinnelmnpaa
open Go.RowKit
namespace Td
set_option linter.unusedSimpArgs false
set_option linter.unusedVariables false
attribute [local go_sem] Oper.semAt_some
def rdgE (s : Spc) (l : List Rd) : Int := if (chk s).2.2 ≠ 0 then (chk s).2.2 else rdsE s.tools.length l
theorem rds_bad {n : Nat} {l : List Rd} {k : Nat} (h12 : l.length ≤ 12) (hk : k < l.length) (h0 : ∀ j, j < k → rdAt n l j = 0) (h : rdAt n l k ≠ 0) : rdsE n l = rdAt n l k := by
  unfold rdsE
  rw [if_neg (by omega), ff_at hk h0 h]
theorem rds_good {n : Nat} {l : List Rd} (h12 : l.length ≤ 12) (h0 : ∀ j, j < l.length → rdAt n l j = 0) : rdsE n l = 0 := by
  unfold rdsE
  rw [if_neg (by omega), ff_ok h0]
set_option maxRecDepth 100000 in
set_option maxHeartbeats 8000000 in
theorem readings_c (s : Spc) (m : Sl) (A : Option Addr) (l : List Rd) (c : Nat) (w : World) (hsa : SAt w m s) (hp : RdAt w A l) (hlM : l.length ≤ 9223372036854775807) :
    Calls Try.prog 36 #[.agg (sV s m), .slice A l.length c] w fun e w' => e = .returned (.int .i64 (rdgE s l)) ∧ Below w.heap.size w w' := by
  obtain ⟨E, hE⟩ : ∃ E, rdgE s l = E := ⟨_, rfl⟩
  rw [hE]
  unfold rdgE at hE
  have hsn0 := (Since.refl w).alloc (.cells (sV s m) 27)
  have HB0 := Lib.hid (Blk.new w 27 (sV s m))
  obtain ⟨c0, c1, c2, c3, c4, c5, c6, c7, c8⟩ := HB0.out.space
  go_enter Try.func36, Try.ntmps36
  go_wp2_with fail
  refine (rcheck_c s m _ (hsa.keep hsn0.1)).mono ?_
  rintro e w1 ⟨rfl, hb1⟩
  have hsn1 := hsn0.keep hb1
  have HB1 := Lib.hid (HB0.out.keep hb1)
  clear c0 c1 c2 c3 c4 c5 c6 c7 c8 hsn0 HB0 hb1
  by_cases hc : (chk s).2.2 = 0
  · rw [if_neg (by simpa using hc)] at hE
    have hs := chk_ok hc
    have ht3 := hs.t3
    rw [hc]
    clear hc
    by_cases h12 : 12 < l.length
    · have HV : Hid ((3 : Int) = E) := by rw [← hE]; show _ = _; unfold rdsE; rw [if_pos h12]
      have h12' : (12 : Int) < (l.length : Int) := by omega
      have h0l : (0 : Int) < (l.length : Int) := by omega
      have h0n : 0 < l.length := by omega
      clear hE
      go_wp2_with fail
      refine wp_loop_rounds 1 ?_
      rw [rounds_succ]
      go_wp2_with fail
      go_ret
      exact ⟨ret_int HV.out, hsn1.1⟩
    · have h12' : ¬ (12 : Int) < (l.length : Int) := by omega
      have HL : Hid (l.length ≤ 12) := Nat.le_of_not_lt h12
      have HE := Lib.hid hE
      have HW9 : Hid (IntKind.i64.wrap ((s.tools.length : Int) - 1) = (s.tools.length : Int) - 1) := IntWalk.i64_in _ (by omega)
      clear hE h12
      go_wp2_with fail
      clear h12'
      go_loopw [7, 8] (fun ev i wr => ∃ (k : Nat) (x : Int), k ≤ l.length ∧ i = .int .i64 k ∧ ev = .int .i64 x ∧ Since w wr ∧ Hid (Blk wr w.heap.size 27 (sV s m)) ∧ Hid ((x = 0 ∧ ∀ j, j < k → rdAt s.tools.length l j = 0) ∨ (x ≠ 0 ∧ x = E))) (fun _ i _ => l.length - (intOf i).toNat)
      case atStart => exact ⟨0, 0, Nat.zero_le _, rfl, rfl, hsn1, HB1, .inl ⟨rfl, fun j h => absurd h (by omega)⟩⟩
      case round =>
        obtain ⟨k, x, hk, rfl, rfl, hsn, HB, HI⟩ := hrel
        by_cases hlt : k < l.length
        · have hki : (k : Int) < (l.length : Int) := by omega
          by_cases hx : x = 0
          · have HZ : Hid (∀ j, j < k → rdAt s.tools.length l j = 0) := by
              rcases HI.out with ⟨_, h⟩ | ⟨h, _⟩
              · exact h
              · exact absurd hx h
            subst hx
            clear HI
            obtain ⟨ad, hA, q0, q1, q2⟩ := hp.get hlt
            subst hA
            have HC0 := Lib.hid q0
            have HC1 := Lib.hid q1
            have HC2 := Lib.hid q2
            have HKI := Lib.hid hki
            have HBad : Hid (rdE s.tools.length l[k] ≠ 0 → rdE s.tools.length l[k] = E) := fun h => by
              have h1 : rdAt s.tools.length l k = rdE s.tools.length l[k] := by simp [rdAt, List.getElem?_eq_getElem hlt]
              have := rds_bad HL.out hlt HZ.out (by rw [h1]; exact h)
              rw [h1] at this
              rw [← this]
              exact HE.out
            have HGood : Hid (rdE s.tools.length l[k] = 0 → ∀ j, j < k + 1 → rdAt s.tools.length l j = 0) := fun h j hj => by
              rcases Nat.lt_or_ge j k with h1 | h1
              · exact HZ.out j h1
              · obtain rfl : j = k := by omega
                simp [rdAt, List.getElem?_eq_getElem hlt, h]
            clear q0 q1 q2
            go_wp2_with fail
            refine Vals9.region (fun _ X => Blk X w.heap.size 27 (sV s m) ∧ Since w X) [some 32, some 33, some 34, some 35, some 36, some 37, some 38, some 39, some 40, some 41, some 42] [.is (.slice (some ad) l.length c), .is (.int .i64 (k : Int)), .is (.pointer (some (ad.add (k * 3)))), .is (.pointer (some (at_ (ad.add (k * 3)) 1))), .is (.int .i64 l[k].tool), .is (.pointer (some ⟨w.heap.size, 8, none⟩)), .is (.slice m.T s.tools.length m.d), .is (.int .i64 (s.tools.length : Int)), .is (.int .i64 ((s.tools.length : Int) - 1)), .is (.bool (wi 0 ((s.tools.length : Int) - 1) l[k].tool)), .is (.bool (!(wi 0 ((s.tools.length : Int) - 1) l[k].tool)))] (by kernel_rfl) (by kernel_rfl) (by kernel_rfl) (by kernel_rfl) (by kernel_rfl) (by kernel_rfl) (⟨HB.out.drew, hsn.drew⟩) ?_ ?_
            · refine Vals9.Steps.run (by kernel_rfl) ?_ ?_
              · intro a W σ hJ pre K hK
                have e1 : a.tmps.getD 1 undef = .slice (some ad) l.length c := pre.2.2 1 _ (by kernel_rfl) rfl
                clear pre
                simp only [Array.getD_eq_getD_getElem?] at e1
                go_simp
                exact hK _ hJ
              refine Vals9.Steps.run (by kernel_rfl) ?_ ?_
              · intro a W σ hJ pre K hK
                have e8 : a.tmps.getD 8 undef = .int .i64 (k : Int) := pre.2.2 8 _ (by kernel_rfl) rfl
                clear pre
                simp only [Array.getD_eq_getD_getElem?] at e8
                go_simp
                exact hK _ hJ
              refine Vals9.Steps.run (by kernel_rfl) ?_ ?_
              · intro a W σ hJ pre K hK
                have e32 : a.tmps.getD 32 undef = .slice (some ad) l.length c := pre.1 0 32 _ (by kernel_rfl) rfl rfl
                have e33 : a.tmps.getD 33 undef = .int .i64 (k : Int) := pre.1 1 33 _ (by kernel_rfl) rfl rfl
                clear pre
                simp only [Array.getD_eq_getD_getElem?] at e32 e33
                have hki := HKI.out
                go_simp
                exact hK _ hJ
              refine Vals9.Steps.run (by kernel_rfl) ?_ ?_
              · intro a W σ hJ pre K hK
                have e34 : a.tmps.getD 34 undef = .pointer (some (ad.add (k * 3))) := pre.1 2 34 _ (by kernel_rfl) rfl rfl
                clear pre
                simp only [Array.getD_eq_getD_getElem?] at e34
                go_simp
                exact hK _ hJ
              refine Vals9.Steps.run (by kernel_rfl) ?_ ?_
              · intro a W σ hJ pre K hK
                have e35 : a.tmps.getD 35 undef = .pointer (some (at_ (ad.add (k * 3)) 1)) := pre.1 3 35 _ (by kernel_rfl) rfl rfl
                clear pre
                simp only [Array.getD_eq_getD_getElem?] at e35
                have hS9 := hJ
                obtain ⟨l1, l2⟩ := hS9
                have q1 := keep_cell l2.1 HC1.out
                obtain ⟨c0, c1, c2, c3, c4, c5, c6, c7, c8⟩ := l1.space
                go_simp
                exact hK _ hJ
              refine Vals9.Steps.run (by kernel_rfl) ?_ ?_
              · intro a W σ hJ pre K hK
                have e2 : a.tmps.getD 2 undef = .pointer (some ⟨w.heap.size, 0, none⟩) := pre.2.2 2 _ (by kernel_rfl) rfl
                clear pre
                simp only [Array.getD_eq_getD_getElem?] at e2
                go_simp
                exact hK _ hJ
              refine Vals9.Steps.run (by kernel_rfl) ?_ ?_
              · intro a W σ hJ pre K hK
                have e37 : a.tmps.getD 37 undef = .pointer (some ⟨w.heap.size, 8, none⟩) := pre.1 5 37 _ (by kernel_rfl) rfl rfl
                clear pre
                simp only [Array.getD_eq_getD_getElem?] at e37
                have hS9 := hJ
                obtain ⟨l1, l2⟩ := hS9
                have q1 := keep_cell l2.1 HC1.out
                obtain ⟨c0, c1, c2, c3, c4, c5, c6, c7, c8⟩ := l1.space
                go_simp
                exact hK _ hJ
              refine Vals9.Steps.run (by kernel_rfl) ?_ ?_
              · intro a W σ hJ pre K hK
                have e38 : a.tmps.getD 38 undef = .slice m.T s.tools.length m.d := pre.1 6 38 _ (by kernel_rfl) rfl rfl
                clear pre
                simp only [Array.getD_eq_getD_getElem?] at e38
                go_simp
                exact hK _ hJ
              refine Vals9.Steps.run (by kernel_rfl) ?_ ?_
              · intro a W σ hJ pre K hK
                have e39 : a.tmps.getD 39 undef = .int .i64 (s.tools.length : Int) := pre.1 7 39 _ (by kernel_rfl) rfl rfl
                clear pre
                simp only [Array.getD_eq_getD_getElem?] at e39
                have hw9 := HW9.out
                go_simp
                exact hK _ hJ
              refine Vals9.Steps.run (by kernel_rfl) ?_ ?_
              · intro a W σ hJ pre K hK
                have e36 : a.tmps.getD 36 undef = .int .i64 l[k].tool := pre.1 4 36 _ (by kernel_rfl) rfl rfl
                have e40 : a.tmps.getD 40 undef = .int .i64 ((s.tools.length : Int) - 1) := pre.1 8 40 _ (by kernel_rfl) rfl rfl
                clear pre
                simp only [Array.getD_eq_getD_getElem?] at e36 e40
                go_simp
                refine (rin_c 0 ((s.tools.length : Int) - 1) l[k].tool _).mono ?_
                rintro e w' ⟨rfl, rfl⟩
                exact hK _ hJ
              refine Vals9.Steps.run (by kernel_rfl) ?_ ?_
              · intro a W σ hJ pre K hK
                have e41 : a.tmps.getD 41 undef = .bool (wi 0 ((s.tools.length : Int) - 1) l[k].tool) := pre.1 9 41 _ (by kernel_rfl) rfl rfl
                clear pre
                simp only [Array.getD_eq_getD_getElem?] at e41
                go_simp
                exact hK _ hJ
              exact Vals9.Steps.nil
            · intro X σ hJ
              simp only [Vals9.All]
              simp only [Vals.putAll, List.setIfInBounds_toArray, List.set_cons_zero, List.set_cons_succ]
              obtain ⟨HS2, hsn2⟩ := hJ
              rcases Bool.eq_false_or_eq_true (wi 0 ((s.tools.length : Int) - 1) l[k].tool) with h1 | h1
              · have q0 := keep_cell hsn2.1 HC0.out
                have q2 := keep_cell hsn2.1 HC2.out
                rw [h1]
                have H1 := Lib.hid h1
                clear h1
                go_wp2_with fail
                refine (rin_c 0 60 l[k].min _).mono ?_
                rintro e w' ⟨rfl, rfl⟩
                rcases Bool.eq_false_or_eq_true (wi 0 60 l[k].min) with h2 | h2
                · rw [h2]
                  have H2 := Lib.hid h2
                  clear h2
                  go_wp2_with fail
                  refine (rin_c (-50) 250 l[k].shown _).mono ?_
                  rintro e w' ⟨rfl, rfl⟩
                  rcases Bool.eq_false_or_eq_true (wi (-50) 250 l[k].shown) with h3 | h3
                  · have HV := Lib.hid (HGood.out (by unfold rdE; rw [H1.out, H2.out, h3]; rfl))
                    rw [h3]
                    clear h3
                    go_wp2_with fail
                    go_roundw
                    case rel => exact ⟨k + 1, 0, by omega, by go_num, rfl, hsn2, HS2, .inl ⟨rfl, HV.out⟩⟩
                    case measure => simp [intOf]; omega
                  · have h9 : rdE s.tools.length l[k] = 7 := by unfold rdE; rw [H1.out, H2.out, h3]; rfl
                    have HV : Hid ((7 : Int) = E) := by have := HBad.out (by rw [h9]; decide); rw [h9] at this; exact this
                    rw [h3]
                    clear h3 h9
                    go_wp2_with fail
                    go_roundw
                    case rel => exact ⟨k + 1, 7, by omega, by go_num, rfl, hsn2, HS2, .inr ⟨by decide, HV.out⟩⟩
                    case measure => simp [intOf]; omega
                · have h9 : rdE s.tools.length l[k] = 7 := by unfold rdE; rw [H1.out, h2]; rfl
                  have HV : Hid ((7 : Int) = E) := by have := HBad.out (by rw [h9]; decide); rw [h9] at this; exact this
                  rw [h2]
                  clear h2 h9
                  go_wp2_with fail
                  go_roundw
                  case rel => exact ⟨k + 1, 7, by omega, by go_num, rfl, hsn2, HS2, .inr ⟨by decide, HV.out⟩⟩
                  case measure => simp [intOf]; omega
              · have h9 : rdE s.tools.length l[k] = 4 := by unfold rdE; rw [h1]; rfl
                have HV : Hid ((4 : Int) = E) := by have := HBad.out (by rw [h9]; decide); rw [h9] at this; exact this
                rw [h1]
                clear h1 h9
                go_wp2_with fail
                go_roundw
                case rel => exact ⟨k + 1, 4, by omega, by go_num, rfl, hsn2, HS2, .inr ⟨by decide, HV.out⟩⟩
                case measure => simp [intOf]; omega
          · have HV : Hid (x = E) := by
              rcases HI.out with ⟨h, _⟩ | ⟨_, h⟩
              · exact absurd h hx
              · exact h
            have hx' : ((x : Int) == 0) = false := by simpa using hx
            clear hx HI
            go_wp2_with fail
            go_ret
            exact ⟨ret_int HV.out, hsn.1⟩
        · have HV : Hid (x = E) := by
            rcases HI.out with ⟨h, h2⟩ | ⟨_, h⟩
            · show _ = _
              rw [h, ← HE.out, rds_good HL.out (fun j hj => h2 j (by omega))]
            · exact h
          have hki : ¬ (k : Int) < (l.length : Int) := by omega
          go_wp2_with fail
          go_ret
          exact ⟨ret_int HV.out, hsn.1⟩
  · rw [if_pos hc] at hE
    have HV := Lib.hid hE
    have hc' : ((chk s).2.2 == 0) = false := by simpa using hc
    clear hc hE
    go_wp2_with fail
    refine wp_loop_rounds 1 ?_
    rw [rounds_succ]
    by_cases h0 : 0 < l.length
    · have h0l : (0 : Int) < (l.length : Int) := by omega
      go_wp2_with fail
      go_ret
      exact ⟨ret_int HV.out, hsn1.1⟩
    · have h00 : l.length = 0 := by omega
      go_wp2_with fail
      go_ret
      exact ⟨ret_int HV.out, hsn1.1⟩
end Td
end Go.Proofs.Ytccacinnelmnpaa
