import Derived.Test.YtgkdidnmndmlhaaMathL
import Derived.Test.YtgkdidnmndmlhaaRLow
import Derived.Test.YtgkdidnmndmlhaaShw
import Derived.Test.YtgkdidnmndmlhaaRefA
import Derived.Test.YtgkdidnmndmlhaaAwk
/- The reference: Ways, Shows; the law GradeShows. -/
namespace Go.Proofs.Ytgkdidnmndmlhaa
open Go.RowKit
namespace Td
set_option linter.unusedSimpArgs false
set_option linter.unusedVariables false
attribute [local go_sem] Oper.semAt_some
theorem own_val {W : World} {B n : Nat} {et : TypeId} {sz : Nat} {v : Value} {xs : List Value} (h : W.ownsRow B et sz v n xs) : ∃ A c, v = .slice A n c := by
  rcases h.2 with ⟨rfl, rfl⟩ | ⟨g, cap, cur, rfl, -⟩
  · exact ⟨none, 0, rfl⟩
  · exact ⟨_, _, rfl⟩
/-- the first k chances. -/
def plS (P b n k : Nat) : List (Nat × Nat) := (List.range k).map fun i => shr (sh P b n i) (bn P n)
theorem plS_succ (P b n k : Nat) : plS P b n (k + 1) = plS P b n k ++ [shr (sh P b n k) (bn P n)] := by simp [plS, List.range_succ]
theorem plS_len (P b n k : Nat) : (plS P b n k).length = k := by simp [plS]
theorem plS_all (P b n : Nat) : plS P b n (n + 1) = shwL P b n := rfl
set_option maxHeartbeats 2000000 in
theorem rWays_c (n k : Int) (w : World) :
    Calls Try.prog 20 #[.int .i64 n, .int .i64 k] w fun e w' => e = .returned (.tuple #[.int .i64 (wayA n k).1, .int .i64 (wayA n k).2]) ∧ Below w.heap.size w w' := by
  cases h1 : wi 0 20 n
  · have HV : Hid (wayA n k = (0, 7)) := by show _ = _; unfold wayA; rw [if_neg (by rw [h1]; simp)]
    rw [HV.out]
    go_enter Try.func20, Try.ntmps20
    go_wp2_with fail
    refine (rin_c 0 20 n _).mono ?_
    rintro e w' ⟨rfl, rfl⟩
    rw [h1]
    go_wp2_with fail
    go_ret2
    exact ⟨rfl, Below.refl _ _⟩
  · cases h2 : wi 0 n k
    · have HV : Hid (wayA n k = (0, 7)) := by show _ = _; unfold wayA; rw [if_neg (by rw [h2]; simp)]
      rw [HV.out]
      go_enter Try.func20, Try.ntmps20
      go_wp2_with fail
      refine (rin_c 0 20 n _).mono ?_
      rintro e w' ⟨rfl, rfl⟩
      rw [h1]
      go_wp2_with fail
      refine (rin_c 0 n k _).mono ?_
      rintro e w' ⟨rfl, rfl⟩
      rw [h2]
      go_wp2_with fail
      go_ret2
      exact ⟨rfl, Below.refl _ _⟩
    · have HV : Hid (wayA n k = (((wyI n k : Nat) : Int), 0)) := by
        show _ = _
        unfold wayA wyI
        rw [if_pos ⟨h1, h2⟩, if_pos (wi_iff.1 h2)]
      rw [HV.out]
      have HW := fun W => Lib.hid (rways_c n k W (by have := wi_iff.1 h1; omega))
      obtain ⟨x, hx⟩ : ∃ x, wyI n k = x := ⟨_, rfl⟩
      rw [hx] at HW ⊢
      clear hx HV
      go_enter Try.func20, Try.ntmps20
      go_wp2_with fail
      refine (rin_c 0 20 n _).mono ?_
      rintro e w' ⟨rfl, rfl⟩
      rw [h1]
      go_wp2_with fail
      refine (rin_c 0 n k _).mono ?_
      rintro e w' ⟨rfl, rfl⟩
      rw [h2]
      go_wp2_with fail
      refine (HW _).out.mono ?_
      rintro e v1 ⟨rfl, hb⟩
      go_wp2_with fail
      go_ret2
      exact ⟨rfl, hb⟩
/-- what Shows answers, whoever is asked. -/
def ShA (P lo hi b n : Int) (e : Ending) (w' : World) : Prop :=
  (shwE P lo hi b n = 0 ∧ ∃ g c, e = .returned (.tuple #[.slice (some ⟨g, 0, none⟩) (n.toNat + 1) c, .int .i64 0]) ∧ FrB w' g (shwL P.toNat b.toNat n.toNat)) ∨
  (shwE P lo hi b n ≠ 0 ∧ e = .returned (.tuple #[.slice none 0 0, .int .i64 (shwE P lo hi b n)]))
set_option maxRecDepth 100000 in
set_option maxHeartbeats 8000000 in
theorem rShows_c (P lo hi b n : Int) (w : World) :
    Calls Try.prog 22 #[.agg (gV P lo hi), .int .i64 b, .int .i64 n] w fun e w' => ShA P lo hi b n e w' ∧ Below w.heap.size w w' := by
  have hs := (Since.refl w).alloc (.cells (gV P lo hi) 25)
  have HG := Lib.hid (Blk.new w 25 (gV P lo hi))
  obtain ⟨c0, c1, c2⟩ := HG.out.gcells
  by_cases h1 : chkE P lo hi = 0
  · have HCE := Lib.hid h1
    cases h2 : wi lo hi b
    · have HV : Hid (shwE P lo hi b n = 7) := by show _ = _; unfold shwE; rw [if_pos h1, if_neg (by rw [h2]; simp)]
      have H22 := Lib.hid h2
      clear h1 h2
      go_enter Try.func22, Try.ntmps22
      go_wp2_with fail
      refine (rCheck_c P lo hi _).mono ?_
      rintro e v1 ⟨rfl, hb⟩
      rw [HCE.out]
      replace hs := hs.keep hb
      replace HG := Lib.hid (HG.out.keep hb)
      clear hb c0 c1 c2
      obtain ⟨c0, c1, c2⟩ := HG.out.gcells
      go_wp2_with fail
      refine (rin_c lo hi b _).mono ?_
      rintro e w' ⟨rfl, rfl⟩
      rw [H22.out]
      go_wp2_with fail
      go_ret2
      exact ⟨.inr ⟨by rw [HV.out]; decide, by rw [HV.out]; rfl⟩, hs.1⟩
    · cases h3 : wi 0 P n
      · have HV : Hid (shwE P lo hi b n = 7) := by show _ = _; unfold shwE; rw [if_pos h1, if_neg (by rw [h3]; simp)]
        have H22 := Lib.hid h2
        have H33 := Lib.hid h3
        clear h1 h2 h3
        go_enter Try.func22, Try.ntmps22
        go_wp2_with fail
        refine (rCheck_c P lo hi _).mono ?_
        rintro e v1 ⟨rfl, hb⟩
        rw [HCE.out]
        replace hs := hs.keep hb
        replace HG := Lib.hid (HG.out.keep hb)
        clear hb c0 c1 c2
        obtain ⟨c0, c1, c2⟩ := HG.out.gcells
        go_wp2_with fail
        refine (rin_c lo hi b _).mono ?_
        rintro e w' ⟨rfl, rfl⟩
        rw [H22.out]
        go_wp2_with fail
        refine (rin_c 0 P n _).mono ?_
        rintro e w' ⟨rfl, rfl⟩
        rw [H33.out]
        go_wp2_with fail
        go_ret2
        exact ⟨.inr ⟨by rw [HV.out]; decide, by rw [HV.out]; rfl⟩, hs.1⟩
      · have HV : Hid (shwE P lo hi b n = 0) := by show _ = _; unfold shwE; rw [if_pos h1, if_pos ⟨h2, h3⟩]
        have H22 := Lib.hid h2
        have H33 := Lib.hid h3
        obtain ⟨k1, k2, k3, k4, k5⟩ := chkE_ok.1 h1
        have hp2 := wi_iff.1 h2
        have hp3 := wi_iff.1 h3
        obtain ⟨P, rfl⟩ : ∃ q : Nat, P = q := ⟨P.toNat, by omega⟩
        obtain ⟨b, rfl⟩ : ∃ q : Nat, b = q := ⟨b.toNat, by omega⟩
        obtain ⟨n, rfl⟩ : ∃ q : Nat, n = q := ⟨n.toNat, by omega⟩
        have hbP : b ≤ P := by omega
        have hnP : n ≤ P := by omega
        have hP : P ≤ 20 := by omega
        have HBP : Hid (∀ k, k ≤ n → ∃ xk : Nat, ∃ x : Nat × Nat, (∀ W, Calls Try.prog 58 #[.int .i64 P, .int .i64 b, .int .i64 n, .int .i64 k] W fun e w' => e = .returned (.int .i64 xk) ∧ Below W.heap.size W w') ∧ (∀ W, Calls Try.prog 57 #[.int .i64 xk, .int .i64 (bn P n : Nat)] W fun e w' => e = .returned (.agg (fV (ip x))) ∧ Below W.heap.size W w') ∧ plS P b n (k + 1) = plS P b n k ++ [x]) := fun k hk => by
          have hle := sh_le (P := P) (b := b) hbP hk
          have hbn := bn_le (P := P) (n := n) hP
          refine ⟨sh P b n k, shr (sh P b n k) (bn P n), fun W => ?_, fun W => rLow_c _ _ W (by omega) (by omega) (bn_pos hnP), plS_succ P b n k⟩
          have := rshows_c (P : Int) b n k W (by omega) (by omega) (by unfold I64; omega) (by unfold I64; omega)
          rw [shI_nat hbP hk] at this
          exact this
        have HWY : ∀ W, Hid _ := fun W => Lib.hid (rways_c P n W (by omega))
        rw [wyI_nat] at HWY
        obtain ⟨q, hq⟩ : ∃ q, bn P n = q := ⟨_, rfl⟩
        rw [hq] at HBP HWY
        obtain ⟨pl, hpl⟩ : ∃ f : Nat → List (Nat × Nat), f = plS P b n := ⟨_, rfl⟩
        have HPL0 : Hid (pl 0 = []) := by show _ = _; rw [hpl]; rfl
        have HPLL : Hid (∀ k, (pl k).length = k) := fun k => by rw [hpl]; exact plS_len P b n k
        have HPLA : Hid (pl (n + 1) = shwL P b n) := by show _ = _; rw [hpl]; rfl
        rw [← hpl] at HBP
        clear h1 h2 h3 k1 k2 k3 k4 k5 hp2 hp3 hq hpl
        go_enter Try.func22, Try.ntmps22
        go_wp2_with fail
        refine (rCheck_c P lo hi _).mono ?_
        rintro e v1 ⟨rfl, hb⟩
        rw [HCE.out]
        replace hs := hs.keep hb
        replace HG := Lib.hid (HG.out.keep hb)
        clear hb c0 c1 c2
        obtain ⟨c0, c1, c2⟩ := HG.out.gcells
        go_wp2_with fail
        refine (rin_c lo hi b _).mono ?_
        rintro e w' ⟨rfl, rfl⟩
        rw [H22.out]
        go_wp2_with fail
        refine (rin_c 0 P n _).mono ?_
        rintro e w' ⟨rfl, rfl⟩
        rw [H33.out]
        have HO0 : Hid (v1.ownsRow v1.heap.size 41 2 (.slice none 0 0) (pl 0).length (flS (pl 0))) := by show World.ownsRow _ _ _ _ _ _ _; rw [HPL0.out]; exact World.ownsRow_nil _ _ _ _
        have HS0 := Lib.hid (Since.refl v1)
        have hsw := Lib.hid hs
        clear hs
        go_wp2_with fail
        go_loopw [9, 10] (fun v i wr => ∃ k : Nat, k ≤ n + 1 ∧ i = .int .i64 k ∧ Hid (wr.ownsRow v1.heap.size 41 2 v (pl k).length (flS (pl k))) ∧ Hid (Since v1 wr)) (fun _ i _ => n + 1 - (intOf i).toNat)
        case atStart => exact ⟨0, by omega, rfl, HO0, HS0⟩
        case round =>
          clear HO0 HS0
          obtain ⟨k, hk, rfl, HO, HS⟩ := hrel
          by_cases hlt : k ≤ n
          · have q1 : (k : Int) ≤ (n : Int) := by omega
            have u1 : IntKind.i64.wrap ((k : Int) + 1) = ((k + 1 : Nat) : Int) := by rw [wrapI (by unfold I64; omega)]; omega
            obtain ⟨xk, x, hX, hLW, hpk⟩ := HBP.out k hlt
            have HX := fun W => Lib.hid (hX W)
            have HLW := fun W => Lib.hid (hLW W)
            have HLL : Hid ((pl k).length = k) := HPLL.out k
            obtain ⟨l, hl⟩ : ∃ l, pl k = l := ⟨_, rfl⟩
            rw [hl] at HO hpk HLL
            have HF := Lib.hid hpk
            obtain ⟨A9, c9, rfl⟩ := own_val HO.out
            clear hX hLW hpk hl
            go_wp2_with fail
            refine Vals10.region (fun σ X => Aq 41 2 l.length (flS l) (flS (l ++ [x])) (fV (ip x)) v1 v1.heap.size (.slice A9 l.length c9) (fun _ _ => True) (σ 12) (σ 13) X ∧ (∀ z, σ 14 = some z → σ 13 = some z)) [some 41, some 42, some 43, some 44, some 45, some 46, some 47, some 48, some 49, some 50, some 51, some 52, some 53, some 54, some 9] [.is (.slice A9 l.length c9), .is ?_, .is (.int .i64 (P : Nat)), .is (.int .i64 (b : Nat)), .is (.int .i64 (n : Nat)), .is (.int .i64 (k : Nat)), .is (.int .i64 (xk : Nat)), .is ?_, .is (.int .i64 (P : Nat)), .is (.int .i64 (n : Nat)), .is (.int .i64 (q : Nat)), .is (.agg (fV (ip x))), .any, .any, .any] (by kernel_rfl) (by kernel_rfl) (by kernel_rfl) (by kernel_rfl) (by kernel_rfl) (by kernel_rfl) (⟨Aq.start HS.out.drew trivial HS.out.2 HO.out, fun z hz => by cases hz⟩) ?hsteps ?hfin
            case hsteps =>
              refine Vals10.Steps.run rfl ?_ ?_
              · intro a W σ hJ pre K hK
                have e9 := pre.2.2 9 _ (by kernel_rfl) rfl
                clear pre
                simp only [Array.getD_eq_getD_getElem?, List.getElem?_toArray, List.getElem?_cons_zero, List.getElem?_cons_succ, Option.getD_some] at e9
                go_simp
                exact hK _ hJ
              refine Vals10.Steps.run rfl ?_ ?_
              · intro a W σ hJ pre K hK
                have e3 := pre.2.2 3 _ (by kernel_rfl) rfl
                clear pre
                simp only [Array.getD_eq_getD_getElem?, List.getElem?_toArray, List.getElem?_cons_zero, List.getElem?_cons_succ, Option.getD_some] at e3
                go_simp
                exact hK _ hJ
              refine Vals10.Steps.run rfl ?_ ?_
              · intro a W σ hJ pre K hK
                have e42 := pre.1 1 42 _ (by kernel_rfl) rfl rfl
                clear pre
                simp only [Array.getD_eq_getD_getElem?, List.getElem?_toArray, List.getElem?_cons_zero, List.getElem?_cons_succ, Option.getD_some] at e42
                have hS9 := hJ
                have hW9 : Aq 41 2 l.length (flS l) (flS (l ++ [x])) (fV (ip x)) v1 v1.heap.size (.slice A9 l.length c9) (fun _ _ => True) (σ 12) (σ 13) W := hS9.1
                have k0 := keep_cell hW9.sn.1 c0
                have k1 := keep_cell hW9.sn.1 c1
                have k2 := keep_cell hW9.sn.1 c2
                go_simp
                exact hK _ hJ
              refine Vals10.Steps.run rfl ?_ ?_
              · intro a W σ hJ pre K hK
                have e1 := pre.2.2 1 _ (by kernel_rfl) rfl
                clear pre
                simp only [Array.getD_eq_getD_getElem?, List.getElem?_toArray, List.getElem?_cons_zero, List.getElem?_cons_succ, Option.getD_some] at e1
                go_simp
                exact hK _ hJ
              refine Vals10.Steps.run rfl ?_ ?_
              · intro a W σ hJ pre K hK
                have e2 := pre.2.2 2 _ (by kernel_rfl) rfl
                clear pre
                simp only [Array.getD_eq_getD_getElem?, List.getElem?_toArray, List.getElem?_cons_zero, List.getElem?_cons_succ, Option.getD_some] at e2
                go_simp
                exact hK _ hJ
              refine Vals10.Steps.run rfl ?_ ?_
              · intro a W σ hJ pre K hK
                have e10 := pre.2.2 10 _ (by kernel_rfl) rfl
                clear pre
                simp only [Array.getD_eq_getD_getElem?, List.getElem?_toArray, List.getElem?_cons_zero, List.getElem?_cons_succ, Option.getD_some] at e10
                go_simp
                exact hK _ hJ
              refine Vals10.Steps.run rfl ?_ ?_
              · intro a W σ hJ pre K hK
                have e43 := pre.1 2 43 _ (by kernel_rfl) rfl rfl
                have e44 := pre.1 3 44 _ (by kernel_rfl) rfl rfl
                have e45 := pre.1 4 45 _ (by kernel_rfl) rfl rfl
                have e46 := pre.1 5 46 _ (by kernel_rfl) rfl rfl
                clear pre
                simp only [Array.getD_eq_getD_getElem?, List.getElem?_toArray, List.getElem?_cons_zero, List.getElem?_cons_succ, Option.getD_some] at e43 e44 e45 e46
                have hJ2 : Aq 41 2 l.length (flS l) (flS (l ++ [x])) (fV (ip x)) v1 v1.heap.size (.slice A9 l.length c9) (fun _ _ => True) (σ 12) (σ 13) W := hJ.1
                have hT2 : (∀ z, σ 14 = some z → σ 13 = some z) := hJ.2
                go_simp
                refine ((HX _).out).mono ?_
                rintro e w' ⟨rfl, hb'⟩
                exact hK _ ⟨hJ2.keep (fun _ _ _ _ _ _ _ => trivial) hb', hT2⟩
              refine Vals10.Steps.run rfl ?_ ?_
              · intro a W σ hJ pre K hK
                have e3 := pre.2.2 3 _ (by kernel_rfl) rfl
                clear pre
                simp only [Array.getD_eq_getD_getElem?, List.getElem?_toArray, List.getElem?_cons_zero, List.getElem?_cons_succ, Option.getD_some] at e3
                go_simp
                exact hK _ hJ
              refine Vals10.Steps.run rfl ?_ ?_
              · intro a W σ hJ pre K hK
                have e48 := pre.1 7 48 _ (by kernel_rfl) rfl rfl
                clear pre
                simp only [Array.getD_eq_getD_getElem?, List.getElem?_toArray, List.getElem?_cons_zero, List.getElem?_cons_succ, Option.getD_some] at e48
                have hS9 := hJ
                have hW9 : Aq 41 2 l.length (flS l) (flS (l ++ [x])) (fV (ip x)) v1 v1.heap.size (.slice A9 l.length c9) (fun _ _ => True) (σ 12) (σ 13) W := hS9.1
                have k0 := keep_cell hW9.sn.1 c0
                have k1 := keep_cell hW9.sn.1 c1
                have k2 := keep_cell hW9.sn.1 c2
                go_simp
                exact hK _ hJ
              refine Vals10.Steps.run rfl ?_ ?_
              · intro a W σ hJ pre K hK
                have e2 := pre.2.2 2 _ (by kernel_rfl) rfl
                clear pre
                simp only [Array.getD_eq_getD_getElem?, List.getElem?_toArray, List.getElem?_cons_zero, List.getElem?_cons_succ, Option.getD_some] at e2
                go_simp
                exact hK _ hJ
              refine Vals10.Steps.run rfl ?_ ?_
              · intro a W σ hJ pre K hK
                have e49 := pre.1 8 49 _ (by kernel_rfl) rfl rfl
                have e50 := pre.1 9 50 _ (by kernel_rfl) rfl rfl
                clear pre
                simp only [Array.getD_eq_getD_getElem?, List.getElem?_toArray, List.getElem?_cons_zero, List.getElem?_cons_succ, Option.getD_some] at e49 e50
                have hJ2 : Aq 41 2 l.length (flS l) (flS (l ++ [x])) (fV (ip x)) v1 v1.heap.size (.slice A9 l.length c9) (fun _ _ => True) (σ 12) (σ 13) W := hJ.1
                have hT2 : (∀ z, σ 14 = some z → σ 13 = some z) := hJ.2
                go_simp
                refine ((HWY _).out).mono ?_
                rintro e w' ⟨rfl, hb'⟩
                exact hK _ ⟨hJ2.keep (fun _ _ _ _ _ _ _ => trivial) hb', hT2⟩
              refine Vals10.Steps.run rfl ?_ ?_
              · intro a W σ hJ pre K hK
                have e47 := pre.1 6 47 _ (by kernel_rfl) rfl rfl
                have e51 := pre.1 10 51 _ (by kernel_rfl) rfl rfl
                clear pre
                simp only [Array.getD_eq_getD_getElem?, List.getElem?_toArray, List.getElem?_cons_zero, List.getElem?_cons_succ, Option.getD_some] at e47 e51
                have hJ2 : Aq 41 2 l.length (flS l) (flS (l ++ [x])) (fV (ip x)) v1 v1.heap.size (.slice A9 l.length c9) (fun _ _ => True) (σ 12) (σ 13) W := hJ.1
                have hT2 : (∀ z, σ 14 = some z → σ 13 = some z) := hJ.2
                go_simp
                refine ((HLW _).out).mono ?_
                rintro e w' ⟨rfl, hb'⟩
                exact hK _ ⟨hJ2.keep (fun _ _ _ _ _ _ _ => trivial) hb', hT2⟩
              refine Vals10.Steps.mark rfl ?_ ?_
              · intro a W σ hJ hn pre K hK
                have e52 := pre.1 11 52 _ (by kernel_rfl) rfl rfl
                simp only [Array.getD_eq_getD_getElem?, List.getElem?_toArray, List.getElem?_cons_zero, List.getElem?_cons_succ, Option.getD_some] at e52
                have hJ2 : Aq 41 2 l.length (flS l) (flS (l ++ [x])) (fV (ip x)) v1 v1.heap.size (.slice A9 l.length c9) (fun _ _ => True) (σ 12) (σ 13) W := hJ.1
                have hT2 : (∀ z, σ 14 = some z → σ 13 = some z) := hJ.2
                rw [hn] at hJ2
                go_simp
                exact hK _ _ ⟨hJ2.lit (fun _ _ _ _ _ _ _ => trivial), hT2⟩
              refine Vals10.Steps.mark rfl ?_ ?_
              · intro a W σ hJ hn pre K hK
                have e41 := pre.1 0 41 _ (by kernel_rfl) rfl rfl
                obtain ⟨v53, s53, e53⟩ := pre.2.1 12 (by kernel_rfl) rfl
                replace e53 : a.tmps.getD 53 undef = v53 := e53 53 rfl
                simp only [Array.getD_eq_getD_getElem?, List.getElem?_toArray, List.getElem?_cons_zero, List.getElem?_cons_succ, Option.getD_some] at e41 e53
                have hJ2 : Aq 41 2 l.length (flS l) (flS (l ++ [x])) (fV (ip x)) v1 v1.heap.size (.slice A9 l.length c9) (fun _ _ => True) (σ 12) (σ 13) W := hJ.1
                have hT2 : (∀ z, σ 14 = some z → σ 13 = some z) := hJ.2
                rw [hn, s53] at hJ2
                obtain ⟨v9, Y, hr, h2⟩ := hJ2.doShr styA (Nat.le_refl _) (fun _ _ _ _ _ _ _ => trivial) (by rw [HLL.out]; omega) 31
                have hx : a.eval (.tmp 41) = .slice A9 l.length c9 := by simpa [Act.eval] using e41
                have hy : a.eval (.tmp 53) = v53 := by simpa [Act.eval] using e53
                unfold Oper.wp execOp
                simp only [resolve, invoke, builtin, Sem.run_bind, Sem.run_pure, Result.andThen_ok, List.map_toArray, List.map_cons, List.map_nil, hx, hy, hr]
                rw [← s53] at h2
                exact hK _ _ ⟨h2, fun z hz => by have := hT2 z hz; rw [hn] at this; cases this⟩
              refine Vals10.Steps.mark rfl ?_ ?_
              · intro a W σ hJ hn pre K hK
                obtain ⟨v54, s54, e54⟩ := pre.2.1 13 (by kernel_rfl) rfl
                replace e54 : a.tmps.getD 54 undef = v54 := e54 54 rfl
                simp only [Array.getD_eq_getD_getElem?, List.getElem?_toArray, List.getElem?_cons_zero, List.getElem?_cons_succ, Option.getD_some] at e54
                have hJ2 : Aq 41 2 l.length (flS l) (flS (l ++ [x])) (fV (ip x)) v1 v1.heap.size (.slice A9 l.length c9) (fun _ _ => True) (σ 12) (σ 13) W := hJ.1
                have hT2 : (∀ z, σ 14 = some z → σ 13 = some z) := hJ.2
                go_simp
                exact hK _ _ ⟨hJ2, fun z hz => by cases hz; exact s54⟩
              exact Vals10.Steps.nil
            case hfin =>
            rintro X σ hJ
            simp only [Vals10.All]
            intro v53 h53 v54 h54 v9 h9
            have hJ2 : Aq 41 2 l.length (flS l) (flS (l ++ [x])) (fV (ip x)) v1 v1.heap.size (.slice A9 l.length c9) (fun _ _ => True) (σ 12) (σ 13) X := hJ.1
            have hT2 : ∀ z, σ 14 = some z → σ 13 = some z := hJ.2
            have e9 := hT2 v9 h9
            rw [h54] at e9
            obtain rfl := Option.some.inj e9
            rw [h54] at hJ2
            have HO2 : Hid (X.ownsRow v1.heap.size 41 2 v54 (pl (k + 1)).length (flS (pl (k + 1)))) := by
              show World.ownsRow _ _ _ _ _ _ _
              rcases hJ2.ls with ⟨q, -⟩ | ⟨v', q, ho⟩
              · cases q
              · obtain rfl := Option.some.inj q
                rw [HF.out, List.length_append]
                exact ho
            have HS2 := Lib.hid hJ2.sn
            clear hJ hJ2 hT2 e9 h53 h54 h9
            simp only [Vals.putAll, List.setIfInBounds_toArray, List.set_cons_zero, List.set_cons_succ]
            go_wp2_with fail
            go_roundw
            case rel => exact ⟨k + 1, by omega, by go_num, HO2, HS2⟩
            case measure => simp [intOf]; omega
          · obtain rfl : k = n + 1 := by omega
            have q1 : ¬ ((n + 1 : Nat) : Int) ≤ (n : Int) := by omega
            have q2 : ¬ n + 1 ≤ n := by omega
            rw [HPLA.out] at HO
            have hln : (shwL P b n).length = n + 1 := by rw [← HPLA.out]; exact HPLL.out _
            obtain ⟨gL, cL, rfl, hF, -⟩ := own_shr HO.out (by intro e; rw [e] at hln; simp at hln)
            rw [hln]
            have HF := Lib.hid hF
            have hsx := hsw.out.keep HS.out.1
            clear hln hF HO
            go_wp2_with fail
            go_ret2
            exact ⟨.inl ⟨HV.out, gL, cL, rfl, HF.out⟩, hsx.1⟩
  · have HV : Hid (shwE P lo hi b n = chkE P lo hi) := by show _ = _; unfold shwE; rw [if_neg h1]
    have HNE : Hid (shwE P lo hi b n ≠ 0) := by show _ ≠ _; rw [HV.out]; exact h1
    obtain ⟨E, hE⟩ : ∃ E, chkE P lo hi = E := ⟨_, rfl⟩
    have HCE := Lib.hid hE
    rw [hE] at h1 HV
    have e1 : (E == 0) = false := by rw [beq_eq_false_iff_ne]; exact h1
    have e2 : (E != 0) = true := by rw [bne_iff_ne]; exact h1
    clear hE
    go_enter Try.func22, Try.ntmps22
    go_wp2_with fail
    refine (rCheck_c P lo hi _).mono ?_
    rintro e v1 ⟨rfl, hb⟩
    rw [HCE.out]
    replace hs := hs.keep hb
    clear hb c0 c1 c2
    go_wp2_with fail
    go_ret2
    exact ⟨.inr ⟨HNE.out, by rw [HV.out]; rfl⟩, hs.1⟩
end Td
end Go.Proofs.Ytgkdidnmndmlhaa
