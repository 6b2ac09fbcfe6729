import Derived.Test.YtnceopecbalokaaMathE
import Derived.Test.YtnceopecbalokaaRefA
import Derived.Test.YtnceopecbalokaaAwk
/- The law GradeTwice: what it returns. -/
namespace Go.Proofs.Ytnceopecbalokaa
open Go.RowKit
namespace Td
set_option linter.unusedSimpArgs false
set_option linter.unusedVariables false
attribute [local go_sem] Oper.semAt_some
/-- a heap with just so many bad pieces, as it is made. -/
structure At1 (w : World) (P lo hi F pa fa S to d : Int) (s t : Option Value) (X : World) : Prop where
  sn : Since w X
  bg : Blk X w.heap.size 25 (gV P lo hi)
  bl : Blk X (w.heap.size + 1) 38 (lV F pa fa S to)
  tn : s = none → t = none
  nw : ∀ v, s = some v → ∃ g, v = .pointer (some ⟨g, 0, none⟩) ∧ w.heap.size + 1 < g ∧ ((t = none ∧ Blk X g 25 (gV 0 0 0)) ∨ (t ≠ none ∧ Blk X g 25 (gV P d d)))
section
variable {w : World} {P lo hi F pa fa S to d : Int} {s t : Option Value} {X Y : World}
theorem At1.keep (h : At1 w P lo hi F pa fa S to d s t X) (hb : Below X.heap.size X Y) : At1 w P lo hi F pa fa S to d s t Y :=
  ⟨h.sn.keep hb, h.bg.keep hb, h.bl.keep hb, h.tn, fun v hv => by
    obtain ⟨g, e, hg, ⟨a, k⟩ | ⟨a, k⟩⟩ := h.nw v hv
    · exact ⟨g, e, hg, .inl ⟨a, k.keep hb⟩⟩
    · exact ⟨g, e, hg, .inr ⟨a, k.keep hb⟩⟩⟩
theorem At1.mk1 (h : At1 w P lo hi F pa fa S to d none t X) : At1 w P lo hi F pa fa S to d (some (.pointer (some ⟨X.heap.size, 0, none⟩))) t (X.alloc (.cells (gV 0 0 0) 25)) :=
  ⟨h.sn.alloc _, h.bg.alloc _, h.bl.alloc _, (fun e => by cases e), fun v hv => ⟨_, (Option.some.inj hv).symm, h.bl.lt, .inl ⟨h.tn rfl, Blk.new _ _ _⟩⟩⟩
theorem At1.put {g : Nat} (h : At1 w P lo hi F pa fa S to d (some (.pointer (some ⟨g, 0, none⟩))) t X) (hg : w.heap.size + 1 < g) (hB : Blk X g 25 (gV 0 0 0)) (u : Value) : At1 w P lo hi F pa fa S to d (some (.pointer (some ⟨g, 0, none⟩))) (some u) (X.setRow g (gV P d d)) :=
  ⟨h.sn.row (by omega) _, h.bg.rowFar (by omega) _, h.bl.rowFar (by omega) _, (fun e => by cases e), fun v hv => ⟨g, (Option.some.inj hv).symm, hg, .inr ⟨by simp, hB.row _⟩⟩⟩
end
set_option maxRecDepth 100000 in
set_option maxHeartbeats 8000000 in
theorem gradeTwice_c (P lo hi fi pa fa se to : Int) (x : Nat) (w : World) (hx : x ≤ 255) :
    Calls Try.prog 12 #[.agg (gV P lo hi), .agg (lV fi pa fa se to), .int .u8 x] w fun e w' => e = .returned (.bool true) ∧ Below w.heap.size w w' := by
  have hs := ((Since.refl w).alloc (.cells (gV P lo hi) 25)).alloc (.cells (lV fi pa fa se to) 38)
  have HG := Lib.hid ((Blk.new w 25 (gV P lo hi)).alloc (.cells (lV fi pa fa se to) 38))
  have HL := Lib.hid (Blk.new1 w (.cells (gV P lo hi) 25) 38 (lV fi pa fa se to))
  obtain ⟨c0, c1, c2⟩ := HG.out.gcells
  go_enter Try.func12, Try.ntmps12
  go_wp2_with fail
  refine (rCheck_c P lo hi _).mono ?_
  rintro e v1 ⟨rfl, hb⟩
  replace hs := hs.keep hb
  replace HG := Lib.hid (HG.out.keep hb)
  replace HL := Lib.hid (HL.out.keep hb)
  clear hb c0 c1 c2
  by_cases hc : chkE P lo hi = 0
  · rw [hc]
    obtain ⟨c0, c1, c2⟩ := HG.out.gcells
    obtain ⟨d0, d1, d2, d3, d4⟩ := HL.out.lcells
    have HC := Lib.hid hc
    clear hc
    go_wp2_with fail
    refine (rPlan_c P lo hi fi pa fa se to _).mono ?_
    rintro e v2 ⟨rfl, hb⟩
    replace hs := hs.keep hb
    replace HG := Lib.hid (HG.out.keep hb)
    replace HL := Lib.hid (HL.out.keep hb)
    clear hb c0 c1 c2 d0 d1 d2 d3 d4
    by_cases hp : chkP P lo hi fi pa fa se to = 0
    · rw [hp]
      have hcc := HC.out
      obtain ⟨P, lo, hi, F, pa, fa, S, to, rfl, rfl, rfl, rfl, rfl, rfl, rfl, rfl, hlh, hhi, hP, hfit⟩ := nats8 hp
      obtain ⟨m, hm⟩ : ∃ m, hi - lo + 1 = m := ⟨_, rfl⟩
      obtain ⟨r, hr⟩ : ∃ r, x % m = r := ⟨_, rfl⟩
      obtain ⟨d, hd⟩ : ∃ d, lo + r = d := ⟨_, rfl⟩
      have hrm : r < m := by rw [← hr]; exact Nat.mod_lt _ (by omega)
      have hdl : lo ≤ d ∧ d ≤ hi := by omega
      have t1 : IntKind.i64.wrap ((hi : Int) - (lo : Int)) = ((hi - lo : Nat) : Int) := by rw [wrapI (by unfold I64; omega)]; omega
      have t2 : IntKind.i64.wrap (((hi - lo : Nat) : Int) + 1) = (m : Int) := by rw [wrapI (by unfold I64; omega)]; omega
      have t3 : IntKind.i64.wrap (x : Int) = (x : Int) := wrapI (by unfold I64; omega)
      have t4 : IntKind.i64.wrap ((lo : Int) + (r : Int)) = (d : Int) := by rw [wrapI (by unfold I64; omega)]; omega
      have t5 : (x : Int).tmod (m : Int) = (r : Int) := by rw [← hr]; rfl
      have t6 : IntKind.i64.wrap (r : Int) = (r : Int) := wrapI (by unfold I64; omega)
      have t7 : ¬ (m : Int) = 0 := by omega
      have t7' : ¬ m = 0 := by omega
      have hF1 : 1 ≤ F ∧ F ≤ P ∧ pa ≤ F ∧ pa + 1 ≤ fa ∧ fa ≤ F + 1 := by
        have := planE_ok (chkP_ok hp).2
        omega
      obtain ⟨qa, hqa⟩ : ∃ qa, pa + 1 = qa := ⟨_, rfl⟩
      obtain ⟨fb, hfb⟩ : ∃ fb, fb + 1 = fa := ⟨fa - 1, by omega⟩
      have t8 : IntKind.i64.wrap ((pa : Int) + 1) = (qa : Int) := by rw [wrapI (by unfold I64; omega)]; omega
      have t9 : IntKind.i64.wrap ((fa : Int) - 1) = (fb : Int) := by rw [wrapI (by unfold I64; omega)]; omega
      have kA : Fit P F pa fa S d := hfit d (by omega)
      have hone := chkE_one hcc (d := d) (by omega) (by omega)
      have HA0 : Hid (pasA P d d F pa fa S to = (ip (chS P F pa fa S to d), ip (chS P F pa fa S to d), 0)) := pas_one (chkP_of hone (chkP_ok hp).2)
      have HB0 : Hid (pasA P d d F pa qa 0 0 = (ip (chS P F pa qa 0 0 d), ip (chS P F pa qa 0 0 d), 0)) := by
        subst hqa
        exact pas_one (P := P) (d := d) (F := F) (pa := pa) (fa := pa + 1) (S := 0) (to := 0) (chkP_of hone (planE_once (by omega) (by omega) (by omega)))
      have HC0 : Hid (pasA P d d F fb fa 0 0 = (ip (chS P F fb fa 0 0 d), ip (chS P F fb fa 0 0 d), 0)) := by
        subst hfb
        exact pas_one (P := P) (d := d) (F := F) (pa := fb) (fa := fb + 1) (S := 0) (to := 0) (chkP_of hone (planE_once (by omega) (by omega) (by omega)))
      have hl1 : lt' (chS P F pa fa S to d) (chS P F pa qa 0 0 d) = false := by subst hqa; exact twice_low kA
      have hl2 : lt' (chS P F fb fa 0 0 d) (chS P F pa fa S to d) = false := by subst hfb; exact twice_high kA
      have sA : Sm (chS P F pa fa S to d) := chS_sm kA
      have sB : Sm (chS P F pa qa 0 0 d) := chS_sm ⟨kA.d, kA.f, Nat.zero_le _, kA.p, by omega⟩
      have sC : Sm (chS P F fb fa 0 0 d) := chS_sm ⟨kA.d, kA.f, Nat.zero_le _, kA.p, by omega⟩
      have HLA : Hid (∀ W, Calls Try.prog 44 #[.agg (fV (ip (chS P F pa fa S to d))), .agg (fV (ip (chS P F pa qa 0 0 d)))] W fun e w' => e = .returned (.bool false) ∧ Below W.heap.size W w') := fun W => by have := rLess_c _ _ W sA sB; rw [hl1] at this; exact this
      have HLB : Hid (∀ W, Calls Try.prog 44 #[.agg (fV (ip (chS P F fb fa 0 0 d))), .agg (fV (ip (chS P F pa fa S to d)))] W fun e w' => e = .returned (.bool false) ∧ Below W.heap.size W w') := fun W => by have := rLess_c _ _ W sC sA; rw [hl2] at this; exact this
      have HPA : Hid (∀ W, Calls Try.prog 27 #[.agg (gV P d d), .agg (lV F pa fa S to)] W fun e w' => e = .returned (.tuple #[.agg (fV (ip (chS P F pa fa S to d))), .agg (fV (ip (chS P F pa fa S to d))), .int .i64 0]) ∧ Below W.heap.size W w') := fun W => by have := Passes_c P d d F pa fa S to W; rw [HA0.out] at this; exact this
      have HPB : Hid (∀ W, Calls Try.prog 27 #[.agg (gV P d d), .agg (lV F pa qa 0 0)] W fun e w' => e = .returned (.tuple #[.agg (fV (ip (chS P F pa qa 0 0 d))), .agg (fV (ip (chS P F pa qa 0 0 d))), .int .i64 0]) ∧ Below W.heap.size W w') := fun W => by have := Passes_c P d d F pa qa 0 0 W; rw [HB0.out] at this; exact this
      have HPC : Hid (∀ W, Calls Try.prog 27 #[.agg (gV P d d), .agg (lV F fb fa 0 0)] W fun e w' => e = .returned (.tuple #[.agg (fV (ip (chS P F fb fa 0 0 d))), .agg (fV (ip (chS P F fb fa 0 0 d))), .int .i64 0]) ∧ Below W.heap.size W w') := fun W => by have := Passes_c P d d F fb fa 0 0 W; rw [HC0.out] at this; exact this
      obtain ⟨uA, hA⟩ : ∃ u, ip (chS P F pa fa S to d) = u := ⟨_, rfl⟩
      obtain ⟨uB, hB⟩ : ∃ u, ip (chS P F pa qa 0 0 d) = u := ⟨_, rfl⟩
      obtain ⟨uC, hC⟩ : ∃ u, ip (chS P F fb fa 0 0 d) = u := ⟨_, rfl⟩
      rw [hA, hB] at HLA
      rw [hC, hA] at HLB
      rw [hA] at HPA
      rw [hB] at HPB
      rw [hC] at HPC
      clear HA0 HB0 HC0 hl1 hl2 sA sB sC hA hB hC hone kA hqa hfb hF1 hfit hcc
      have HP2 := Lib.hid hp
      clear hm hr hd hrm hp hx
      go_wp2_with fail
      refine Vals9.region (fun σ X => At1 w (P : Int) (lo : Int) (hi : Int) (F : Int) (pa : Int) (fa : Int) (S : Int) (to : Int) (d : Int) (σ 17) (σ 18) X) [some 27, some 28, some 29, some 30, some 31, some 32, some 33, some 34, some 35, some 36, some 37, some 38, some 39, some 40, some 41, some 42, some 43, some 7, none] [.is (.agg (gV P lo hi)), .is ?_, .is ?_, .is ?_, .is ?_, .is ?_, .is ?_, .is ?_, .is ?_, .is ?_, .is ?_, .is ?_, .is (.int .i64 ((hi - lo : Nat) : Int)), .is (.int .i64 (m : Nat)), .is (.int .i64 (r : Nat)), .is (.int .i64 (d : Nat)), .is (.agg (gV P d d)), .any, .any] (by kernel_rfl) (by kernel_rfl) (by kernel_rfl) (by kernel_rfl) (by kernel_rfl) (by kernel_rfl) (⟨hs.drew, HG.out.drew, HL.out.drew, fun _ => rfl, fun v hv => by cases hv⟩) ?hsteps ?hfin
      case hsteps =>
        refine Vals9.Steps.run rfl ?_ ?_
        · intro a W σ hJ pre K hK
          have e3 := pre.2.2 3 _ (by kernel_rfl) rfl
          clear pre
          simp only [Array.getD_eq_getD_getElem?, List.getElem?_toArray, List.getElem?_cons_zero, List.getElem?_cons_succ, Option.getD_some] at e3
          have hS9 := hJ
          have hW9 : At1 w (P : Int) (lo : Int) (hi : Int) (F : Int) (pa : Int) (fa : Int) (S : Int) (to : Int) (d : Int) (σ 17) (σ 18) W := hS9
          obtain ⟨c0, c1, c2⟩ := hW9.bg.gcells
          go_simp
          exact hK _ hJ
        refine Vals9.Steps.run rfl ?_ ?_
        · intro a W σ hJ pre K hK
          have e3 := pre.2.2 3 _ (by kernel_rfl) rfl
          clear pre
          simp only [Array.getD_eq_getD_getElem?, List.getElem?_toArray, List.getElem?_cons_zero, List.getElem?_cons_succ, Option.getD_some] at e3
          go_simp
          exact hK _ hJ
        refine Vals9.Steps.run rfl ?_ ?_
        · intro a W σ hJ pre K hK
          have e28 := pre.1 1 28 _ (by kernel_rfl) rfl rfl
          clear pre
          simp only [Array.getD_eq_getD_getElem?, List.getElem?_toArray, List.getElem?_cons_zero, List.getElem?_cons_succ, Option.getD_some] at e28
          go_simp
          exact hK _ hJ
        refine Vals9.Steps.run rfl ?_ ?_
        · intro a W σ hJ pre K hK
          have e29 := pre.1 2 29 _ (by kernel_rfl) rfl rfl
          clear pre
          simp only [Array.getD_eq_getD_getElem?, List.getElem?_toArray, List.getElem?_cons_zero, List.getElem?_cons_succ, Option.getD_some] at e29
          have hS9 := hJ
          have hW9 : At1 w (P : Int) (lo : Int) (hi : Int) (F : Int) (pa : Int) (fa : Int) (S : Int) (to : Int) (d : Int) (σ 17) (σ 18) W := hS9
          obtain ⟨c0, c1, c2⟩ := hW9.bg.gcells
          go_simp
          exact hK _ hJ
        refine Vals9.Steps.run rfl ?_ ?_
        · intro a W σ hJ pre K hK
          have e2 := pre.2.2 2 _ (by kernel_rfl) rfl
          clear pre
          simp only [Array.getD_eq_getD_getElem?, List.getElem?_toArray, List.getElem?_cons_zero, List.getElem?_cons_succ, Option.getD_some] at e2
          go_simp
          exact hK _ hJ
        refine Vals9.Steps.run rfl ?_ ?_
        · intro a W σ hJ pre K hK
          have e31 := pre.1 4 31 _ (by kernel_rfl) rfl rfl
          clear pre
          simp only [Array.getD_eq_getD_getElem?, List.getElem?_toArray, List.getElem?_cons_zero, List.getElem?_cons_succ, Option.getD_some] at e31
          go_simp
          exact hK _ hJ
        refine Vals9.Steps.run rfl ?_ ?_
        · intro a W σ hJ pre K hK
          have e3 := pre.2.2 3 _ (by kernel_rfl) rfl
          clear pre
          simp only [Array.getD_eq_getD_getElem?, List.getElem?_toArray, List.getElem?_cons_zero, List.getElem?_cons_succ, Option.getD_some] at e3
          go_simp
          exact hK _ hJ
        refine Vals9.Steps.run rfl ?_ ?_
        · intro a W σ hJ pre K hK
          have e33 := pre.1 6 33 _ (by kernel_rfl) rfl rfl
          clear pre
          simp only [Array.getD_eq_getD_getElem?, List.getElem?_toArray, List.getElem?_cons_zero, List.getElem?_cons_succ, Option.getD_some] at e33
          go_simp
          exact hK _ hJ
        refine Vals9.Steps.run rfl ?_ ?_
        · intro a W σ hJ pre K hK
          have e34 := pre.1 7 34 _ (by kernel_rfl) rfl rfl
          clear pre
          simp only [Array.getD_eq_getD_getElem?, List.getElem?_toArray, List.getElem?_cons_zero, List.getElem?_cons_succ, Option.getD_some] at e34
          have hS9 := hJ
          have hW9 : At1 w (P : Int) (lo : Int) (hi : Int) (F : Int) (pa : Int) (fa : Int) (S : Int) (to : Int) (d : Int) (σ 17) (σ 18) W := hS9
          obtain ⟨c0, c1, c2⟩ := hW9.bg.gcells
          go_simp
          exact hK _ hJ
        refine Vals9.Steps.run rfl ?_ ?_
        · intro a W σ hJ pre K hK
          have e3 := pre.2.2 3 _ (by kernel_rfl) rfl
          clear pre
          simp only [Array.getD_eq_getD_getElem?, List.getElem?_toArray, List.getElem?_cons_zero, List.getElem?_cons_succ, Option.getD_some] at e3
          go_simp
          exact hK _ hJ
        refine Vals9.Steps.run rfl ?_ ?_
        · intro a W σ hJ pre K hK
          have e36 := pre.1 9 36 _ (by kernel_rfl) rfl rfl
          clear pre
          simp only [Array.getD_eq_getD_getElem?, List.getElem?_toArray, List.getElem?_cons_zero, List.getElem?_cons_succ, Option.getD_some] at e36
          go_simp
          exact hK _ hJ
        refine Vals9.Steps.run rfl ?_ ?_
        · intro a W σ hJ pre K hK
          have e37 := pre.1 10 37 _ (by kernel_rfl) rfl rfl
          clear pre
          simp only [Array.getD_eq_getD_getElem?, List.getElem?_toArray, List.getElem?_cons_zero, List.getElem?_cons_succ, Option.getD_some] at e37
          have hS9 := hJ
          have hW9 : At1 w (P : Int) (lo : Int) (hi : Int) (F : Int) (pa : Int) (fa : Int) (S : Int) (to : Int) (d : Int) (σ 17) (σ 18) W := hS9
          obtain ⟨c0, c1, c2⟩ := hW9.bg.gcells
          go_simp
          exact hK _ hJ
        refine Vals9.Steps.run rfl ?_ ?_
        · intro a W σ hJ pre K hK
          have e35 := pre.1 8 35 _ (by kernel_rfl) rfl rfl
          have e38 := pre.1 11 38 _ (by kernel_rfl) rfl rfl
          clear pre
          simp only [Array.getD_eq_getD_getElem?, List.getElem?_toArray, List.getElem?_cons_zero, List.getElem?_cons_succ, Option.getD_some] at e35 e38
          go_simp
          exact hK _ hJ
        refine Vals9.Steps.run rfl ?_ ?_
        · intro a W σ hJ pre K hK
          have e39 := pre.1 12 39 _ (by kernel_rfl) rfl rfl
          clear pre
          simp only [Array.getD_eq_getD_getElem?, List.getElem?_toArray, List.getElem?_cons_zero, List.getElem?_cons_succ, Option.getD_some] at e39
          go_simp
          exact hK _ hJ
        refine Vals9.Steps.run rfl ?_ ?_
        · intro a W σ hJ pre K hK
          have e32 := pre.1 5 32 _ (by kernel_rfl) rfl rfl
          have e40 := pre.1 13 40 _ (by kernel_rfl) rfl rfl
          clear pre
          simp only [Array.getD_eq_getD_getElem?, List.getElem?_toArray, List.getElem?_cons_zero, List.getElem?_cons_succ, Option.getD_some] at e32 e40
          go_simp
          exact hK _ hJ
        refine Vals9.Steps.run rfl ?_ ?_
        · intro a W σ hJ pre K hK
          have e30 := pre.1 3 30 _ (by kernel_rfl) rfl rfl
          have e41 := pre.1 14 41 _ (by kernel_rfl) rfl rfl
          clear pre
          simp only [Array.getD_eq_getD_getElem?, List.getElem?_toArray, List.getElem?_cons_zero, List.getElem?_cons_succ, Option.getD_some] at e30 e41
          go_simp
          exact hK _ hJ
        refine Vals9.Steps.run rfl ?_ ?_
        · intro a W σ hJ pre K hK
          have e27 := pre.1 0 27 _ (by kernel_rfl) rfl rfl
          have e42 := pre.1 15 42 _ (by kernel_rfl) rfl rfl
          clear pre
          simp only [Array.getD_eq_getD_getElem?, List.getElem?_toArray, List.getElem?_cons_zero, List.getElem?_cons_succ, Option.getD_some] at e27 e42
          go_simp
          refine (at_c _ _ _ _ _).mono ?_
          rintro e w' ⟨rfl, hb'⟩
          have hJ2 : At1 w (P : Int) (lo : Int) (hi : Int) (F : Int) (pa : Int) (fa : Int) (S : Int) (to : Int) (d : Int) (σ 17) (σ 18) W := hJ
          exact hK _ (hJ2.keep hb')
        refine Vals9.Steps.mark rfl ?_ ?_
        · intro a W σ hJ hn pre K hK
          have hJ2 : At1 w (P : Int) (lo : Int) (hi : Int) (F : Int) (pa : Int) (fa : Int) (S : Int) (to : Int) (d : Int) (σ 17) (σ 18) W := hJ
          rw [hn] at hJ2
          go_simp
          exact hK _ _ hJ2.mk1
        refine Vals9.Steps.mark rfl ?_ ?_
        · intro a W σ hJ hn pre K hK
          obtain ⟨v7, s7, e7⟩ := pre.2.1 17 (by kernel_rfl) rfl
          replace e7 : a.tmps.getD 7 undef = v7 := e7 7 rfl
          have e43 := pre.1 16 43 _ (by kernel_rfl) rfl rfl
          simp only [Array.getD_eq_getD_getElem?, List.getElem?_toArray, List.getElem?_cons_zero, List.getElem?_cons_succ, Option.getD_some] at e7 e43
          have hJ2 : At1 w (P : Int) (lo : Int) (hi : Int) (F : Int) (pa : Int) (fa : Int) (S : Int) (to : Int) (d : Int) (σ 17) (σ 18) W := hJ
          rw [hn, s7] at hJ2
          obtain ⟨g7, hv7, hg7, ⟨-, hB⟩ | ⟨q, -⟩⟩ := hJ2.nw _ rfl
          · subst hv7
            refine wp_store_row 25 _ _ rfl g7 (gV (P : Int) (d : Int) (d : Int)) (by simpa [Act.eval] using e7) (by simpa [Act.eval] using e43) 25 _ hB (by kernel_rfl) rfl (by simp [Value.oneCell']) ?_
            have h2 := hJ2.put hg7 hB undef
            rw [← s7] at h2
            exact hK undef _ h2
          · exact absurd rfl q
        exact Vals9.Steps.nil
      case hfin =>
      rintro X σ hJ
      simp only [Vals9.All]
      intro v7 hv7 v18 hv18
      have hJ2 : At1 w (P : Int) (lo : Int) (hi : Int) (F : Int) (pa : Int) (fa : Int) (S : Int) (to : Int) (d : Int) (σ 17) (σ 18) X := hJ
      rw [hv18] at hJ2
      obtain ⟨g7, rfl, hg7, ⟨q, -⟩ | ⟨-, hB⟩⟩ := hJ2.nw _ hv7
      · cases q
      have hs := hJ2.sn
      have HL := Lib.hid hJ2.bl
      have HH := Lib.hid hB
      clear hJ hJ2 hv7 hv18 hB
      simp only [Vals.putAll, List.setIfInBounds_toArray, List.set_cons_zero, List.set_cons_succ]
      obtain ⟨c0, c1, c2⟩ := HH.out.gcells
      obtain ⟨d0, d1, d2, d3, d4⟩ := HL.out.lcells
      go_wp2_with fail
      refine (HPA.out _).mono ?_
      rintro e v11 ⟨rfl, hb⟩
      replace hs := hs.keep hb
      replace HL := Lib.hid (HL.out.keep hb)
      replace HH := Lib.hid (HH.out.keep hb)
      clear hb
      clear c0 c1 c2 d0 d1 d2 d3 d4
      have hz1 := Lib.hid ((Blk.new v11 41 (fV (0, 0))).alloc (.cells (fV (0, 0)) 41))
      have hz2 := Lib.hid ((Blk.new1 v11 (.cells (fV (0, 0)) 41) 41 (fV (0, 0))).rowFar (g' := v11.heap.size) (by omega) (fV uA))
      have hq : Below v11.heap.size v11 ((((v11.alloc (.cells (fV (0, 0)) 41)).alloc (.cells (fV (0, 0)) 41)).setRow v11.heap.size (fV uA)).setRow (v11.heap.size + 1) (fV uA)) := (((((Since.refl v11).alloc (.cells (fV (0, 0)) 41)).alloc (.cells (fV (0, 0)) 41)).row (g := v11.heap.size) (Nat.le_refl _) (fV uA)).row (g := v11.heap.size + 1) (by omega) (fV uA)).1
      have HA := Lib.hid ((hz1.out.row (fV uA)).rowFar (g' := v11.heap.size + 1) (by omega) (fV uA))
      have HA2 := Lib.hid (hz2.out.row (fV uA))
      obtain ⟨c0, c1, c2⟩ := (HH.out.keep hq).gcells
      obtain ⟨d0, d1, d2, d3, d4⟩ := (HL.out.keep hq).lcells
      go_wp2_with (first | (refine wpList_store_row rfl 41 _ _ rfl (v11.heap.size) _ rfl rfl 41 _ hz1.out (by kernel_rfl) rfl (by simp [Value.oneCell']) ?_) | (refine wpList_store_row rfl 41 _ _ rfl (v11.heap.size + 1) _ rfl rfl 41 _ hz2.out (by kernel_rfl) rfl (by simp [Value.oneCell']) ?_))
      clear c0 c1 c2 d0 d1 d2 d3 d4
      replace hs := hs.keep hq
      replace HL := Lib.hid (HL.out.keep hq)
      replace HH := Lib.hid (HH.out.keep hq)
      obtain ⟨kHA, hk⟩ : ∃ k, v11.heap.size = k := ⟨_, rfl⟩
      obtain ⟨v12, hu⟩ : ∃ u, (((v11.alloc (.cells (fV (0, 0)) 41)).alloc (.cells (fV (0, 0)) 41)).setRow v11.heap.size (fV uA)).setRow (v11.heap.size + 1) (fV uA) = u := ⟨_, rfl⟩
      rw [hu] at hs HL HH HA HA2 ⊢
      rw [hk] at HA HA2 ⊢
      clear hu hk hq hz1 hz2
      refine (HPB.out _).mono ?_
      rintro e v13 ⟨rfl, hb⟩
      replace hs := hs.keep hb
      replace HL := Lib.hid (HL.out.keep hb)
      replace HH := Lib.hid (HH.out.keep hb)
      replace HA := Lib.hid (HA.out.keep hb)
      replace HA2 := Lib.hid (HA2.out.keep hb)
      clear hb
      have hz1 := Lib.hid ((Blk.new v13 41 (fV (0, 0))).alloc (.cells (fV (0, 0)) 41))
      have hz2 := Lib.hid ((Blk.new1 v13 (.cells (fV (0, 0)) 41) 41 (fV (0, 0))).rowFar (g' := v13.heap.size) (by omega) (fV uB))
      have hq : Below v13.heap.size v13 ((((v13.alloc (.cells (fV (0, 0)) 41)).alloc (.cells (fV (0, 0)) 41)).setRow v13.heap.size (fV uB)).setRow (v13.heap.size + 1) (fV uB)) := (((((Since.refl v13).alloc (.cells (fV (0, 0)) 41)).alloc (.cells (fV (0, 0)) 41)).row (g := v13.heap.size) (Nat.le_refl _) (fV uB)).row (g := v13.heap.size + 1) (by omega) (fV uB)).1
      have HB := Lib.hid ((hz1.out.row (fV uB)).rowFar (g' := v13.heap.size + 1) (by omega) (fV uB))
      have HB2 := Lib.hid (hz2.out.row (fV uB))
      obtain ⟨c0, c1, c2⟩ := (HH.out.keep hq).gcells
      obtain ⟨d0, d1, d2, d3, d4⟩ := (HL.out.keep hq).lcells
      go_wp2_with (first | (refine wpList_store_row rfl 41 _ _ rfl (v13.heap.size) _ rfl rfl 41 _ hz1.out (by kernel_rfl) rfl (by simp [Value.oneCell']) ?_) | (refine wpList_store_row rfl 41 _ _ rfl (v13.heap.size + 1) _ rfl rfl 41 _ hz2.out (by kernel_rfl) rfl (by simp [Value.oneCell']) ?_))
      clear c0 c1 c2 d0 d1 d2 d3 d4
      replace hs := hs.keep hq
      replace HL := Lib.hid (HL.out.keep hq)
      replace HH := Lib.hid (HH.out.keep hq)
      replace HA := Lib.hid (HA.out.keep hq)
      replace HA2 := Lib.hid (HA2.out.keep hq)
      obtain ⟨kHB, hk⟩ : ∃ k, v13.heap.size = k := ⟨_, rfl⟩
      obtain ⟨v14, hu⟩ : ∃ u, (((v13.alloc (.cells (fV (0, 0)) 41)).alloc (.cells (fV (0, 0)) 41)).setRow v13.heap.size (fV uB)).setRow (v13.heap.size + 1) (fV uB) = u := ⟨_, rfl⟩
      rw [hu] at hs HL HH HA HA2 HB HB2 ⊢
      rw [hk] at HB HB2 ⊢
      clear hu hk hq hz1 hz2
      refine (HPC.out _).mono ?_
      rintro e v15 ⟨rfl, hb⟩
      replace hs := hs.keep hb
      replace HL := Lib.hid (HL.out.keep hb)
      replace HH := Lib.hid (HH.out.keep hb)
      replace HA := Lib.hid (HA.out.keep hb)
      replace HA2 := Lib.hid (HA2.out.keep hb)
      replace HB := Lib.hid (HB.out.keep hb)
      replace HB2 := Lib.hid (HB2.out.keep hb)
      clear hb
      have hz1 := Lib.hid ((Blk.new v15 41 (fV (0, 0))).alloc (.cells (fV (0, 0)) 41))
      have hz2 := Lib.hid ((Blk.new1 v15 (.cells (fV (0, 0)) 41) 41 (fV (0, 0))).rowFar (g' := v15.heap.size) (by omega) (fV uC))
      have hq : Below v15.heap.size v15 ((((v15.alloc (.cells (fV (0, 0)) 41)).alloc (.cells (fV (0, 0)) 41)).setRow v15.heap.size (fV uC)).setRow (v15.heap.size + 1) (fV uC)) := (((((Since.refl v15).alloc (.cells (fV (0, 0)) 41)).alloc (.cells (fV (0, 0)) 41)).row (g := v15.heap.size) (Nat.le_refl _) (fV uC)).row (g := v15.heap.size + 1) (by omega) (fV uC)).1
      have HD := Lib.hid ((hz1.out.row (fV uC)).rowFar (g' := v15.heap.size + 1) (by omega) (fV uC))
      have HD2 := Lib.hid (hz2.out.row (fV uC))
      obtain ⟨c0, c1⟩ := (HA.out.keep hq).fcells
      obtain ⟨d0, d1⟩ := (HB.out.keep hq).fcells
      go_wp2_with (first | (refine wpList_store_row rfl 41 _ _ rfl (v15.heap.size) _ rfl rfl 41 _ hz1.out (by kernel_rfl) rfl (by simp [Value.oneCell']) ?_) | (refine wpList_store_row rfl 41 _ _ rfl (v15.heap.size + 1) _ rfl rfl 41 _ hz2.out (by kernel_rfl) rfl (by simp [Value.oneCell']) ?_))
      clear c0 c1 d0 d1
      replace hs := hs.keep hq
      replace HL := Lib.hid (HL.out.keep hq)
      replace HH := Lib.hid (HH.out.keep hq)
      replace HA := Lib.hid (HA.out.keep hq)
      replace HA2 := Lib.hid (HA2.out.keep hq)
      replace HB := Lib.hid (HB.out.keep hq)
      replace HB2 := Lib.hid (HB2.out.keep hq)
      obtain ⟨kHD, hk⟩ : ∃ k, v15.heap.size = k := ⟨_, rfl⟩
      obtain ⟨v16, hu⟩ : ∃ u, (((v15.alloc (.cells (fV (0, 0)) 41)).alloc (.cells (fV (0, 0)) 41)).setRow v15.heap.size (fV uC)).setRow (v15.heap.size + 1) (fV uC) = u := ⟨_, rfl⟩
      rw [hu] at hs HL HH HA HA2 HB HB2 HD HD2 ⊢
      rw [hk] at HD HD2 ⊢
      clear hu hk hq hz1 hz2
      clear HH HL HA2 HB2 HD2
      refine (HLA.out _).mono ?_
      rintro e v17 ⟨rfl, hb⟩
      replace hs := hs.keep hb
      replace HA := Lib.hid (HA.out.keep hb)
      replace HB := Lib.hid (HB.out.keep hb)
      replace HD := Lib.hid (HD.out.keep hb)
      clear hb
      obtain ⟨c0, c1⟩ := HD.out.fcells
      obtain ⟨d0, d1⟩ := HA.out.fcells
      go_wp2_with fail
      clear c0 c1 d0 d1
      refine (HLB.out _).mono ?_
      rintro e v18 ⟨rfl, hb⟩
      replace hs := hs.keep hb
      replace HA := Lib.hid (HA.out.keep hb)
      replace HB := Lib.hid (HB.out.keep hb)
      replace HD := Lib.hid (HD.out.keep hb)
      clear hb
      go_wp2_with fail
      refine (awake_c _).mono ?_
      rintro e v19 ⟨rfl, hb⟩
      replace hs := hs.keep hb
      replace HA := Lib.hid (HA.out.keep hb)
      replace HB := Lib.hid (HB.out.keep hb)
      replace HD := Lib.hid (HD.out.keep hb)
      clear hb
      go_wp2_with fail
      go_ret
      exact ⟨rfl, hs.1⟩
    · have hp' : (chkP P lo hi fi pa fa se to != 0) = true := by simpa using hp
      clear hp
      go_wp2_with fail
      refine (awake_c _).mono ?_
      rintro e v3 ⟨rfl, hb⟩
      replace hs := hs.keep hb
      go_wp2_with fail
      go_ret
      exact ⟨rfl, hs.1⟩
  · have hc' : (chkE P lo hi != 0) = true := by simpa using hc
    clear hc
    go_wp2_with fail
    refine (awake_c _).mono ?_
    rintro e v3 ⟨rfl, hb⟩
    replace hs := hs.keep hb
    go_wp2_with fail
    go_ret
    exact ⟨rfl, hs.1⟩
end Td
end Go.Proofs.Ytnceopecbalokaa
