import Derived.Test.YtgkdidnmndmlhaaPsn
/- The average of what a heap that passes is worth: its chance to pass, what stays. -/
namespace Go.Proofs.Ytgkdidnmndmlhaa
open Go.RowKit
namespace Td
set_option linter.unusedSimpArgs false
set_option linter.unusedVariables false
attribute [local go_sem] Oper.semAt_some
theorem passing_seq (nn : Nat) (hnn : 4 ≤ nn) {a b : Nat} {w₀ : World} {g1 g2 g3 g : Nat} {lo hi : Int} {P F pa fa S to d : Nat} (C : Cq a b w₀ g1 g2 g3 g lo hi P F pa fa S to d) :
    SeqE Fence.wide nn Try.prog 97 #[hpP g1, hpP g2, hpP g3] encS (Kp a b w₀.heap.size (w₀.heap.size + 2)) (fun xs => xs = passL P F pa fa S to d) (fun pre x => ∃ rest, passL P F pa fa S to d = pre ++ x :: rest) w₀ :=
  fun l J W hW hz hJ hY h0 => passing1_in nn hnn C l J W (by omega) (Nat.le_refl _) hz hW hJ hY h0
/-- the boxes of the iterator that a call of passing has just laid. -/
theorem Cq.mk3 {a b : Nat} {wa w0 : World} {g : Nat} {lo hi : Int} {P F pa fa S to d : Nat} (h0 : ((wa.alloc (.cells #[hpP g] 87)).alloc (.cells (lV F pa fa S to) 38)).alloc (.cells #[.int .i64 (d : Int)] 3) = w0)
    (hg : Blk wa g 97 (hpV (P : Int) lo hi)) (hba : b ≤ wa.heap.size) (hab : a ≤ b) (hga : ¬ (a ≤ g ∧ g < b)) (hd : d ≤ P) (hF : F ≤ P) (hS : S ≤ P - F) (hP : P ≤ 20) :
    Cq a b w0 wa.heap.size (wa.heap.size + 1) (wa.heap.size + 1 + 1) g lo hi P F pa fa S to d ∧ w0.heap.size = wa.heap.size + 3 ∧ Below wa.heap.size wa w0 := by
  subst h0
  refine ⟨⟨((Blk.new wa _ _).alloc _).alloc _, (Blk.new1 wa _ _ _).alloc _, Blk.new2 wa _ _ _ _, ((hg.alloc _).alloc _).alloc _, by omega, by omega, by omega, hga, hd, hF, hS, hP, hab, by simp; omega⟩, by simp, ?_⟩
  exact ((((Below.refl _ wa).alloc (Nat.le_refl _) _).alloc (by simp) _).alloc (by simp; omega) _)
set_option maxRecDepth 100000 in
set_option maxHeartbeats 4000000 in
theorem average_c (g : Nat) (lo hi : Int) (P F pa fa S to d : Nat) (wf : FuncId) (wo : Nat → Nat) (w : World) (hent : ∀ args W, (callFunc wf args).run Try.prog W = .ok (.enter wf args) W)
    (hwo : ∀ (v : Nat) (W : World), Calls Try.prog wf #[.int .i64 v] W fun e w' => e = .returned (.int .i64 (wo v)) ∧ W = w') (hwl : ∀ v, v ≤ d → wo v ≤ 20)
    (hg : Blk w g 97 (hpV (P : Int) lo hi)) (hd : d ≤ P) (hF : F ≤ P) (hS : S ≤ P - F) (hP : P ≤ 20) (hpf : pa + 1 ≤ fa) :
    Calls Try.prog 87 #[hpP g, .agg (lV F pa fa S to), .int .i64 d, .func (.func wf) #[] #[]] w fun e w' => e = .returned (.agg (fV (ip (shr (avgS P F pa fa S to d wo) (bn P F * bn (P - F) S))))) ∧ Below w.heap.size w w' := by
  have hgl := hg.lt
  have hB1 := bn_bd' (n := P) (by omega) F
  have hB2 := bn_bd' (n := P - F) (by omega) S
  have hB3 := Nat.mul_le_mul hB1 hB2
  have hp1 := bn_pos hF
  have hp2 := bn_pos hS
  have hp3 := Nat.mul_pos hp1 hp2
  have HSUM : Hid (lsum (fun x : Nat × Nat => x.2 * wo x.1) (passL P F pa fa S to d) ≤ 87960930222080) := by
    show _ ≤ _
    rw [lsum_pass hd hF hS hpf wo]
    have h1 := avgS_le (pa := pa) (fa := fa) (to := to) (S := S) (F := F) hd hwl
    have h2 := Nat.mul_le_mul_right 20 hB3
    omega
  have HWO := Lib.hid hwo
  have HWE := Lib.hid hent
  have hee : bn P F * bn (P - F) S ≤ 4398046511104 := hB3
  clear hwo hent hwl hB1 hB2 hB3
  refine (callsIn_wide (n := 6)).1 ?_
  refine callsIn_of_wp_marks Try.func87 rfl trivial ?_ rfl
  simp only [Try.ntmps87, List.size_toArray, List.length_cons, List.length_nil, Nat.reduceAdd, Nat.reduceSub, Array.replicate_succ, Array.replicate_zero, List.push_toArray, List.append_toArray, List.nil_append, List.cons_append]
  refine wpIn_wide.2 ?_
  obtain ⟨wa, hwa⟩ : ∃ wa, (((w.alloc (.cells (lV F pa fa S to) 38)).alloc (.cells #[.func (.func wf) #[] #[]] 125)).alloc (.cells (fV (0, 0)) 90)).alloc (.cells #[.int .i64 0] 3) = wa := ⟨_, rfl⟩
  have hsa : Since w wa := by rw [← hwa]; exact ((((Since.refl w).alloc _).alloc _).alloc _).alloc _
  have bL : Blk wa w.heap.size 38 (lV F pa fa S to) := by rw [← hwa]; exact (((Blk.new w _ _).alloc _).alloc _).alloc _
  have bF : Blk wa (w.heap.size + 1) 125 #[.func (.func wf) #[] #[]] := by rw [← hwa]; exact ((Blk.new1 w _ _ _).alloc _).alloc _
  have bR : Blk wa (w.heap.size + 1 + 1) 90 (fV (0, 0)) := by rw [← hwa]; exact (Blk.new2 w _ _ _ _).alloc _
  have bS : Blk wa (w.heap.size + 1 + 1 + 1) 3 #[.int .i64 0] := by rw [← hwa]; exact Blk.new3 w _ _ _ _ _
  have bG : Blk wa g 97 (hpV (P : Int) lo hi) := hg.keep hsa.1
  have hza : wa.heap.size = w.heap.size + 4 := by rw [← hwa]; simp
  have hsh := passing_c g (F : Int) (pa : Int) (fa : Int) (S : Int) (to : Int) (d : Int) wa
  rw [← hwa] at hsh
  have HSH := Lib.hid hsh
  have HWA := Lib.hid hwa
  obtain ⟨p0, p1, p2, p3, p4⟩ := (hwa ▸ bL : Blk ((((w.alloc (.cells (lV F pa fa S to) 38)).alloc (.cells #[.func (.func wf) #[] #[]] 125)).alloc (.cells (fV (0, 0)) 90)).alloc (.cells #[.int .i64 0] 3)) w.heap.size 38 (lV F pa fa S to)).lcells
  clear hsh hwa
  go_wp2_with fail
  refine HSH.out.mono ?_
  rintro e w0 ⟨rfl, hw0⟩
  rw [HWA.out] at hw0 ⊢
  obtain ⟨C, hz0, hb0⟩ := Cq.mk3 (a := w.heap.size + 1 + 1 + 1) (b := w.heap.size + 1 + 1 + 1 + 1) hw0 bG (by omega) (by omega) (by omega) hd hF hS hP
  clear hw0 HSH HWA p0 p1 p2 p3 p4
  go_wp2_with fail
  refine (wpIn_wide (n := 6)).1 ?_
  refine rangeFunc_e (w := w0) rfl (by omega) (gf := 97) (lb := #[hpP wa.heap.size, hpP (wa.heap.size + 1), hpP (wa.heap.size + 1 + 1)]) (by first | rfl | (rw [hza]; rfl)) trivial (enters_of Try.func97 (by kernel_rfl) rfl)
    (passing_seq _ (by omega) C) Kp.trans (fun W o o' hg hc _ => Kp.put W _ o o' (by omega) (by omega) hg hc) (Below.refl _ _) (fun _ => rfl)
    (fun pre W => ((((Blk W (w.heap.size + 1 + 1 + 1) 3 #[.int .i64 (lsum (fun x : Nat × Nat => x.2 * wo x.1) pre : Nat)] ∧ Blk W w.heap.size 38 (lV F pa fa S to)) ∧ Blk W (w.heap.size + 1 + 1) 90 (fV (0, 0))) ∧ Blk W g 97 (hpV (P : Int) lo hi)) ∧ Blk W (w.heap.size + 1) 125 #[.func (.func wf) #[] #[]]) ∧ Below w.heap.size w W)
    ((((((AllFrom.blk (by omega) _ (fun pre => #[.int .i64 (lsum (fun x : Nat × Nat => x.2 * wo x.1) pre : Nat)])).and (AllFrom.blk (by omega) _ _)).and (AllFrom.blk (by omega) _ _)).and (AllFrom.blk (by omega) _ _)).and (AllFrom.blk (by omega) _ _)).and (AllFrom.below (Nat.le_refl _) (by omega)))
    ⟨⟨⟨⟨⟨bS.keep hb0, bL.keep hb0⟩, bR.keep hb0⟩, bG.keep hb0⟩, bF.keep hb0⟩, hsa.1.trans (hb0.mono hsa.2)⟩
    (fun x a' W => a' = { tmps := #[hpP g, .agg (lV F pa fa S to), .int .i64 d, .func (.func wf) #[] #[], undef, hpP w.heap.size, undef, hpP (w.heap.size + 1), hpP (w.heap.size + 1 + 1), hpP (w.heap.size + 1 + 1 + 1), .int .i64 (x.1 : Nat), .int .i64 (x.2 : Nat), hpP g, .agg (lV F pa fa S to), .int .i64 d, .func (.func 97) #[] #[hpP (w.heap.size + 4), hpP (w.heap.size + 4 + 1), hpP (w.heap.size + 4 + 1 + 1)], .int .i64 (x.1 : Nat), .int .i64 (x.2 : Nat), undef, undef, undef, undef, undef, undef, undef, undef, undef, undef, undef, undef, undef, undef, undef, undef, undef, undef, undef, undef, undef, undef, undef, undef, undef, undef, undef, undef, undef, undef, undef, undef, undef, undef, undef, undef, undef, undef, undef], defers := [] })
    (fun x a' _ X Y row hs hg hr => hs)
    ?assign ?body ?done
  case assign =>
    rintro l pre x W K i0 hK
    gi_wp2
    exact hK _ _ (keepsFrom_of_below (Below.refl _ _)) (.refl _ _ _ _ _) i0 rfl
  case body =>
    rintro l pre x a' W hl ⟨r, hr⟩ ⟨⟨⟨⟨⟨i1, i2⟩, i3⟩, i4⟩, i6⟩, i5⟩ rfl ⟨rest, hrest⟩
    obtain ⟨i, s⟩ := x
    dsimp only at hrest ⊢
    have hsum : lsum (fun x : Nat × Nat => x.2 * wo x.1) (pre ++ [(i, s)]) ≤ 87960930222080 := Nat.le_trans (lsum_le_of _ (l := passL P F pa fa S to d) (r := rest) (by rw [hrest]; simp)) HSUM.out
    rw [lsum_snoc] at hsum
    have HN : Hid (lsum (fun x : Nat × Nat => x.2 * wo x.1) (pre ++ [(i, s)]) = lsum (fun x : Nat × Nat => x.2 * wo x.1) pre + s * wo i) := by show _ = _; rw [lsum_snoc]
    dsimp only at hsum
    obtain ⟨q, hq⟩ : ∃ q, lsum (fun x : Nat × Nat => x.2 * wo x.1) pre = q := ⟨_, rfl⟩
    rw [hq] at i1 HN hsum
    obtain ⟨m, hm⟩ : ∃ m, s * wo i = m := ⟨_, rfl⟩
    have em : (s : Int) * ((wo i : Nat) : Int) = (m : Int) := by rw [← hm]; push_cast; rfl
    rw [hm] at HN hsum
    have e1 : IntKind.i64.wrap ((s : Int) * ((wo i : Nat) : Int)) = (m : Int) := by rw [em]; exact wrapI (by unfold I64; omega)
    have e2 : IntKind.i64.wrap ((q : Int) + (m : Int)) = ((q + m : Nat) : Int) := by rw [wrapI (by unfold I64; omega)]; push_cast; rfl
    clear hq hm em
    obtain ⟨V, hV⟩ : ∃ V, W.drew = V := ⟨_, rfl⟩
    have j1 : Blk V (w.heap.size + 1 + 1 + 1) 3 #[.int .i64 (q : Int)] := hV ▸ i1.drew
    have j2 : Blk V (w.heap.size + 1) 125 #[.func (.func wf) #[] #[]] := hV ▸ i6.drew
    have c1 := j1.cell 0
    have c2 := j2.cell 0
    have f1 := j1.frozen 0
    simp only [List.getElem?_toArray, List.getElem?_cons_zero] at c1 c2
    gi_wp2
    refine Vals6T.regionAll 7 (fun X => Hid (X = V)) [some 18, some 19, some 20, some 21, some 22, some 23, some 24] [.is ?_, .is ?_, .is ?_, .is ?_, .is ?_, .is ?_, .is ?_] (.inr ⟨l, rfl⟩) (by kernel_rfl) (by kernel_rfl) (by kernel_rfl) rfl (by kernel_rfl) (by kernel_rfl) (by kernel_rfl) (by kernel_rfl) (by kernel_rfl) (by kernel_rfl) rfl (Lib.hid hV) ?hsteps ?hend
    case hsteps =>
      refine Vals5.Steps.run rfl (Vals5.Stable.is _) ?_ ?_
      · intro a W hS pre old K hK
        have e9 := old 9 _ (by kernel_rfl) rfl
        clear pre old
        simp only [Vals5.fits, Array.getD_eq_getD_getElem?, List.getElem?_toArray, List.getElem?_cons_zero, List.getElem?_cons_succ, Option.getD_some] at e9
        have hS9 := hS
        obtain rfl := hS9.out
        go_simp
        refine hK _ _ hS (Below.refl _ _) ?_
        exact fits_is _ w
      refine Vals5.Steps.run rfl (Vals5.Stable.is _) ?_ ?_
      · intro a W hS pre old K hK
        have e11 := old 11 _ (by kernel_rfl) rfl
        clear pre old
        simp only [Vals5.fits, Array.getD_eq_getD_getElem?, List.getElem?_toArray, List.getElem?_cons_zero, List.getElem?_cons_succ, Option.getD_some] at e11
        go_simp
        refine hK _ _ hS (Below.refl _ _) ?_
        exact fits_is _ w
      refine Vals5.Steps.run rfl (Vals5.Stable.is _) ?_ ?_
      · intro a W hS pre old K hK
        have e7 := old 7 _ (by kernel_rfl) rfl
        clear pre old
        simp only [Vals5.fits, Array.getD_eq_getD_getElem?, List.getElem?_toArray, List.getElem?_cons_zero, List.getElem?_cons_succ, Option.getD_some] at e7
        have hS9 := hS
        obtain rfl := hS9.out
        go_simp
        refine hK _ _ hS (Below.refl _ _) ?_
        exact fits_is _ w
      refine Vals5.Steps.run rfl (Vals5.Stable.is _) ?_ ?_
      · intro a W hS pre old K hK
        have e10 := old 10 _ (by kernel_rfl) rfl
        clear pre old
        simp only [Vals5.fits, Array.getD_eq_getD_getElem?, List.getElem?_toArray, List.getElem?_cons_zero, List.getElem?_cons_succ, Option.getD_some] at e10
        go_simp
        refine hK _ _ hS (Below.refl _ _) ?_
        exact fits_is _ w
      refine Vals5.Steps.run rfl (Vals5.Stable.is _) ?_ ?_
      · intro a W hS pre old K hK
        have e20 := pre 2 20 _ (by kernel_rfl) rfl rfl
        have e21 := pre 3 21 _ (by kernel_rfl) rfl rfl
        clear pre old
        simp only [Vals5.fits, Array.getD_eq_getD_getElem?, List.getElem?_toArray, List.getElem?_cons_zero, List.getElem?_cons_succ, Option.getD_some] at e20 e21
        have hCW := HWO.out i W
        have e9 := HWE.out
        go_simp
        refine hCW.mono ?_
        rintro e w' ⟨rfl, rfl⟩
        refine hK _ _ hS (Below.refl _ _) ?_
        exact fits_is _ w
      refine Vals5.Steps.run rfl (Vals5.Stable.is _) ?_ ?_
      · intro a W hS pre old K hK
        have e19 := pre 1 19 _ (by kernel_rfl) rfl rfl
        have e22 := pre 4 22 _ (by kernel_rfl) rfl rfl
        clear pre old
        simp only [Vals5.fits, Array.getD_eq_getD_getElem?, List.getElem?_toArray, List.getElem?_cons_zero, List.getElem?_cons_succ, Option.getD_some] at e19 e22
        go_simp
        refine hK _ _ hS (Below.refl _ _) ?_
        exact fits_is _ w
      refine Vals5.Steps.run rfl (Vals5.Stable.is _) ?_ ?_
      · intro a W hS pre old K hK
        have e18 := pre 0 18 _ (by kernel_rfl) rfl rfl
        have e23 := pre 5 23 _ (by kernel_rfl) rfl rfl
        clear pre old
        simp only [Vals5.fits, Array.getD_eq_getD_getElem?, List.getElem?_toArray, List.getElem?_cons_zero, List.getElem?_cons_succ, Option.getD_some] at e18 e23
        go_simp
        refine hK _ _ hS (Below.refl _ _) ?_
        exact fits_is _ w
      exact Vals5.Steps.nil
    case hend =>
    rintro X hXV
    obtain rfl : X = V := hXV.out
    simp only [Vals5.All]
    simp only [Vals.putAll, List.setIfInBounds_toArray, List.set_cons_zero, List.set_cons_succ]
    show wpListIn _ _ _ _ _ [_] _ _
    gi_wp2
    have hWV : Below W.heap.size W X := hV ▸ (Below.refl _ _).drew
    refine ⟨(keepsFrom_of_below hWV).trans ((KeepsOthers.setCell _ _ _).from _), (Kp.of hWV).setCell _ _ _ (by omega) (by omega), ⟨⟨⟨⟨?_, (i2.keep hWV).far (by omega) _ _⟩, (i3.keep hWV).far (by omega) _ _⟩, (i4.keep hWV).far (by omega) _ _⟩, j2.far (by omega) _ _⟩, (i5.trans (hWV.mono i5.size)).setCell (p := ⟨w.heap.size + 1 + 1 + 1, 0, none⟩) (by simp; omega) _⟩
    rw [HN.out]
    exact j1.set 0 _
  case done =>
    rintro D ys W hD rfl ⟨⟨⟨⟨⟨i1, i2⟩, i3⟩, i4⟩, i6⟩, i5⟩ hK
    have hs0 := HSUM.out
    rw [lsum_pass hd hF hS hpf wo] at i1 hs0
    obtain ⟨q, hq⟩ : ∃ q, avgS P F pa fa S to d wo = q := ⟨_, rfl⟩
    rw [hq] at i1 hs0
    have HAV := Lib.hid hq
    clear hq
    have t1 : (P : Int) < 21 := by omega
    have t2 : (F : Int) < 21 := by omega
    have t3 : P < 21 := by omega
    have t4 : F < 21 := by omega
    have t5 : ((P - F : Nat) : Int) < 21 := by omega
    have t6 : (S : Int) < 21 := by omega
    have t7 : P - F < 21 := by omega
    have t8 : S < 21 := by omega
    have w1 : IntKind.i64.wrap ((P : Int) - (F : Int)) = ((P - F : Nat) : Int) := by rw [wrapI (by unfold I64; omega)]; omega
    obtain ⟨cs, hcs⟩ : ∃ cs, bn P F * bn (P - F) S = cs := ⟨_, rfl⟩
    have em : ((bn P F : Nat) : Int) * ((bn (P - F) S : Nat) : Int) = (cs : Int) := by rw [← hcs]; push_cast; rfl
    rw [hcs] at hp3 hee
    have HCS := Lib.hid hcs
    have w2 : IntKind.i64.wrap (((bn P F : Nat) : Int) * ((bn (P - F) S : Nat) : Int)) = (cs : Int) := by rw [em]; exact wrapI (by unfold I64; omega)
    clear em hcs
    have HS7 := fun X => Lib.hid (shareOf_c q cs X (by omega) (by omega) hp3)
    go_wp2_with fail
    refine Vals6.regionAll (fun X => ((Blk X (w.heap.size + 1 + 1) 90 (fV (0, 0)) ∧ Below w.heap.size w X) ∧ X.heap[D]? = some (.deferred (some []))) ∧ (Blk X (w.heap.size + 1 + 1 + 1) 3 #[.int .i64 (q : Int)] ∧ Blk X g 97 (hpV (P : Int) lo hi)) ∧ Blk X w.heap.size 38 (lV F pa fa S to)) [some 25, some 26, some 27, some 28, some 29, some 30, some 31, some 32, some 33, some 34, some 35, some 36, some 37, some 38, some 39, some 40, some 41, some 42, some 43, some 44, some 45, some 46, some 47, some 48, some 49, some 50, some 51, some 52, some 53, some 54, some 55, some 56] [.is ?_, .is ?_, .is ?_, .is ?_, .is ?_, .is ?_, .is ?_, .is ?_, .is ?_, .is ?_, .is ?_, .is ?_, .is ?_, .is ?_, .is ?_, .is ?_, .is ?_, .is ?_, .is ?_, .is ?_, .is ?_, .is ?_, .is ?_, .is ?_, .is ?_, .is ?_, .is ?_, .is ?_, .is ?_, .is ?_, .is ?_, .is ?_] (by kernel_rfl) rfl rfl (by kernel_rfl) (by kernel_rfl) (by kernel_rfl) (by kernel_rfl) (by kernel_rfl) (by kernel_rfl) rfl (⟨⟨⟨i3.drew, i5.drew⟩, hK⟩, ⟨i1.drew, i4.drew⟩, i2.drew⟩) ?hsteps ?hend
    case hsteps =>
      refine Vals5.Steps.run rfl (Vals5.Stable.is _) ?_ ?_
      · intro a W hS pre old K hK
        have e9 := old 9 _ (by kernel_rfl) rfl
        clear pre old
        simp only [Vals5.fits, Array.getD_eq_getD_getElem?, List.getElem?_toArray, List.getElem?_cons_zero, List.getElem?_cons_succ, Option.getD_some] at e9
        have hS9 := hS
        obtain ⟨-, ⟨q1, q2⟩, q3⟩ := hS9
        have c1 := q1.cell 0
        have c2 := q2.hcells.1
        have c3 := q2.way (n := P) (k := F) (by omega) (by omega)
        have c4 := q2.way (n := P - F) (k := S) (by omega) (by omega)
        obtain ⟨p0, p1, p2, p3, p4⟩ := q3.lcells
        simp only [List.getElem?_toArray, List.getElem?_cons_zero] at c1
        go_simp
        refine hK _ _ hS (Below.refl _ _) ?_
        exact fits_is _ _
      refine Vals5.Steps.run rfl (Vals5.Stable.is _) ?_ ?_
      · intro a W hS pre old K hK
        have e0 := old 0 _ (by kernel_rfl) rfl
        clear pre old
        simp only [Vals5.fits, Array.getD_eq_getD_getElem?, List.getElem?_toArray, List.getElem?_cons_zero, List.getElem?_cons_succ, Option.getD_some] at e0
        go_simp
        refine hK _ _ hS (Below.refl _ _) ?_
        exact fits_is _ _
      refine Vals5.Steps.run rfl (Vals5.Stable.is _) ?_ ?_
      · intro a W hS pre old K hK
        have e0 := old 0 _ (by kernel_rfl) rfl
        clear pre old
        simp only [Vals5.fits, Array.getD_eq_getD_getElem?, List.getElem?_toArray, List.getElem?_cons_zero, List.getElem?_cons_succ, Option.getD_some] at e0
        go_simp
        refine hK _ _ hS (Below.refl _ _) ?_
        exact fits_is _ _
      refine Vals5.Steps.run rfl (Vals5.Stable.is _) ?_ ?_
      · intro a W hS pre old K hK
        have e27 := pre 2 27 _ (by kernel_rfl) rfl rfl
        clear pre old
        simp only [Vals5.fits, Array.getD_eq_getD_getElem?, List.getElem?_toArray, List.getElem?_cons_zero, List.getElem?_cons_succ, Option.getD_some] at e27
        go_simp
        refine hK _ _ hS (Below.refl _ _) ?_
        exact fits_is _ _
      refine Vals5.Steps.run rfl (Vals5.Stable.is _) ?_ ?_
      · intro a W hS pre old K hK
        have e28 := pre 3 28 _ (by kernel_rfl) rfl rfl
        clear pre old
        simp only [Vals5.fits, Array.getD_eq_getD_getElem?, List.getElem?_toArray, List.getElem?_cons_zero, List.getElem?_cons_succ, Option.getD_some] at e28
        go_simp
        refine hK _ _ hS (Below.refl _ _) ?_
        exact fits_is _ _
      refine Vals5.Steps.run rfl (Vals5.Stable.is _) ?_ ?_
      · intro a W hS pre old K hK
        have e29 := pre 4 29 _ (by kernel_rfl) rfl rfl
        clear pre old
        simp only [Vals5.fits, Array.getD_eq_getD_getElem?, List.getElem?_toArray, List.getElem?_cons_zero, List.getElem?_cons_succ, Option.getD_some] at e29
        go_simp
        refine hK _ _ hS (Below.refl _ _) ?_
        exact fits_is _ _
      refine Vals5.Steps.run rfl (Vals5.Stable.is _) ?_ ?_
      · intro a W hS pre old K hK
        have e30 := pre 5 30 _ (by kernel_rfl) rfl rfl
        clear pre old
        simp only [Vals5.fits, Array.getD_eq_getD_getElem?, List.getElem?_toArray, List.getElem?_cons_zero, List.getElem?_cons_succ, Option.getD_some] at e30
        have hS9 := hS
        obtain ⟨-, ⟨q1, q2⟩, q3⟩ := hS9
        have c1 := q1.cell 0
        have c2 := q2.hcells.1
        have c3 := q2.way (n := P) (k := F) (by omega) (by omega)
        have c4 := q2.way (n := P - F) (k := S) (by omega) (by omega)
        obtain ⟨p0, p1, p2, p3, p4⟩ := q3.lcells
        simp only [List.getElem?_toArray, List.getElem?_cons_zero] at c1
        go_simp
        refine hK _ _ hS (Below.refl _ _) ?_
        exact fits_is _ _
      refine Vals5.Steps.run rfl (Vals5.Stable.is _) ?_ ?_
      · intro a W hS pre old K hK
        have e5 := old 5 _ (by kernel_rfl) rfl
        clear pre old
        simp only [Vals5.fits, Array.getD_eq_getD_getElem?, List.getElem?_toArray, List.getElem?_cons_zero, List.getElem?_cons_succ, Option.getD_some] at e5
        go_simp
        refine hK _ _ hS (Below.refl _ _) ?_
        exact fits_is _ _
      refine Vals5.Steps.run rfl (Vals5.Stable.is _) ?_ ?_
      · intro a W hS pre old K hK
        have e32 := pre 7 32 _ (by kernel_rfl) rfl rfl
        clear pre old
        simp only [Vals5.fits, Array.getD_eq_getD_getElem?, List.getElem?_toArray, List.getElem?_cons_zero, List.getElem?_cons_succ, Option.getD_some] at e32
        have hS9 := hS
        obtain ⟨-, ⟨q1, q2⟩, q3⟩ := hS9
        have c1 := q1.cell 0
        have c2 := q2.hcells.1
        have c3 := q2.way (n := P) (k := F) (by omega) (by omega)
        have c4 := q2.way (n := P - F) (k := S) (by omega) (by omega)
        obtain ⟨p0, p1, p2, p3, p4⟩ := q3.lcells
        simp only [List.getElem?_toArray, List.getElem?_cons_zero] at c1
        go_simp
        refine hK _ _ hS (Below.refl _ _) ?_
        exact fits_is _ _
      refine Vals5.Steps.run rfl (Vals5.Stable.is _) ?_ ?_
      · intro a W hS pre old K hK
        have e26 := pre 1 26 _ (by kernel_rfl) rfl rfl
        clear pre old
        simp only [Vals5.fits, Array.getD_eq_getD_getElem?, List.getElem?_toArray, List.getElem?_cons_zero, List.getElem?_cons_succ, Option.getD_some] at e26
        go_simp
        refine hK _ _ hS (Below.refl _ _) ?_
        exact fits_is _ _
      refine Vals5.Steps.run rfl (Vals5.Stable.is _) ?_ ?_
      · intro a W hS pre old K hK
        have e34 := pre 9 34 _ (by kernel_rfl) rfl rfl
        clear pre old
        simp only [Vals5.fits, Array.getD_eq_getD_getElem?, List.getElem?_toArray, List.getElem?_cons_zero, List.getElem?_cons_succ, Option.getD_some] at e34
        go_simp
        refine hK _ _ hS (Below.refl _ _) ?_
        exact fits_is _ _
      refine Vals5.Steps.run rfl (Vals5.Stable.is _) ?_ ?_
      · intro a W hS pre old K hK
        have e31 := pre 6 31 _ (by kernel_rfl) rfl rfl
        have e35 := pre 10 35 _ (by kernel_rfl) rfl rfl
        clear pre old
        simp only [Vals5.fits, Array.getD_eq_getD_getElem?, List.getElem?_toArray, List.getElem?_cons_zero, List.getElem?_cons_succ, Option.getD_some] at e31 e35
        go_simp
        refine hK _ _ hS (Below.refl _ _) ?_
        exact fits_is _ _
      refine Vals5.Steps.run rfl (Vals5.Stable.is _) ?_ ?_
      · intro a W hS pre old K hK
        have e33 := pre 8 33 _ (by kernel_rfl) rfl rfl
        have e36 := pre 11 36 _ (by kernel_rfl) rfl rfl
        clear pre old
        simp only [Vals5.fits, Array.getD_eq_getD_getElem?, List.getElem?_toArray, List.getElem?_cons_zero, List.getElem?_cons_succ, Option.getD_some] at e33 e36
        go_simp
        refine hK _ _ hS (Below.refl _ _) ?_
        exact fits_is _ _
      refine Vals5.Steps.run rfl (Vals5.Stable.is _) ?_ ?_
      · intro a W hS pre old K hK
        have e37 := pre 12 37 _ (by kernel_rfl) rfl rfl
        clear pre old
        simp only [Vals5.fits, Array.getD_eq_getD_getElem?, List.getElem?_toArray, List.getElem?_cons_zero, List.getElem?_cons_succ, Option.getD_some] at e37
        have hS9 := hS
        obtain ⟨-, ⟨q1, q2⟩, q3⟩ := hS9
        have c1 := q1.cell 0
        have c2 := q2.hcells.1
        have c3 := q2.way (n := P) (k := F) (by omega) (by omega)
        have c4 := q2.way (n := P - F) (k := S) (by omega) (by omega)
        obtain ⟨p0, p1, p2, p3, p4⟩ := q3.lcells
        simp only [List.getElem?_toArray, List.getElem?_cons_zero] at c1
        go_simp
        refine hK _ _ hS (Below.refl _ _) ?_
        exact fits_is _ _
      refine Vals5.Steps.run rfl (Vals5.Stable.is _) ?_ ?_
      · intro a W hS pre old K hK
        have e0 := old 0 _ (by kernel_rfl) rfl
        clear pre old
        simp only [Vals5.fits, Array.getD_eq_getD_getElem?, List.getElem?_toArray, List.getElem?_cons_zero, List.getElem?_cons_succ, Option.getD_some] at e0
        go_simp
        refine hK _ _ hS (Below.refl _ _) ?_
        exact fits_is _ _
      refine Vals5.Steps.run rfl (Vals5.Stable.is _) ?_ ?_
      · intro a W hS pre old K hK
        have e0 := old 0 _ (by kernel_rfl) rfl
        clear pre old
        simp only [Vals5.fits, Array.getD_eq_getD_getElem?, List.getElem?_toArray, List.getElem?_cons_zero, List.getElem?_cons_succ, Option.getD_some] at e0
        go_simp
        refine hK _ _ hS (Below.refl _ _) ?_
        exact fits_is _ _
      refine Vals5.Steps.run rfl (Vals5.Stable.is _) ?_ ?_
      · intro a W hS pre old K hK
        have e40 := pre 15 40 _ (by kernel_rfl) rfl rfl
        clear pre old
        simp only [Vals5.fits, Array.getD_eq_getD_getElem?, List.getElem?_toArray, List.getElem?_cons_zero, List.getElem?_cons_succ, Option.getD_some] at e40
        go_simp
        refine hK _ _ hS (Below.refl _ _) ?_
        exact fits_is _ _
      refine Vals5.Steps.run rfl (Vals5.Stable.is _) ?_ ?_
      · intro a W hS pre old K hK
        have e41 := pre 16 41 _ (by kernel_rfl) rfl rfl
        clear pre old
        simp only [Vals5.fits, Array.getD_eq_getD_getElem?, List.getElem?_toArray, List.getElem?_cons_zero, List.getElem?_cons_succ, Option.getD_some] at e41
        go_simp
        refine hK _ _ hS (Below.refl _ _) ?_
        exact fits_is _ _
      refine Vals5.Steps.run rfl (Vals5.Stable.is _) ?_ ?_
      · intro a W hS pre old K hK
        have e42 := pre 17 42 _ (by kernel_rfl) rfl rfl
        clear pre old
        simp only [Vals5.fits, Array.getD_eq_getD_getElem?, List.getElem?_toArray, List.getElem?_cons_zero, List.getElem?_cons_succ, Option.getD_some] at e42
        go_simp
        refine hK _ _ hS (Below.refl _ _) ?_
        exact fits_is _ _
      refine Vals5.Steps.run rfl (Vals5.Stable.is _) ?_ ?_
      · intro a W hS pre old K hK
        have e43 := pre 18 43 _ (by kernel_rfl) rfl rfl
        clear pre old
        simp only [Vals5.fits, Array.getD_eq_getD_getElem?, List.getElem?_toArray, List.getElem?_cons_zero, List.getElem?_cons_succ, Option.getD_some] at e43
        have hS9 := hS
        obtain ⟨-, ⟨q1, q2⟩, q3⟩ := hS9
        have c1 := q1.cell 0
        have c2 := q2.hcells.1
        have c3 := q2.way (n := P) (k := F) (by omega) (by omega)
        have c4 := q2.way (n := P - F) (k := S) (by omega) (by omega)
        obtain ⟨p0, p1, p2, p3, p4⟩ := q3.lcells
        simp only [List.getElem?_toArray, List.getElem?_cons_zero] at c1
        go_simp
        refine hK _ _ hS (Below.refl _ _) ?_
        exact fits_is _ _
      refine Vals5.Steps.run rfl (Vals5.Stable.is _) ?_ ?_
      · intro a W hS pre old K hK
        have e5 := old 5 _ (by kernel_rfl) rfl
        clear pre old
        simp only [Vals5.fits, Array.getD_eq_getD_getElem?, List.getElem?_toArray, List.getElem?_cons_zero, List.getElem?_cons_succ, Option.getD_some] at e5
        go_simp
        refine hK _ _ hS (Below.refl _ _) ?_
        exact fits_is _ _
      refine Vals5.Steps.run rfl (Vals5.Stable.is _) ?_ ?_
      · intro a W hS pre old K hK
        have e45 := pre 20 45 _ (by kernel_rfl) rfl rfl
        clear pre old
        simp only [Vals5.fits, Array.getD_eq_getD_getElem?, List.getElem?_toArray, List.getElem?_cons_zero, List.getElem?_cons_succ, Option.getD_some] at e45
        have hS9 := hS
        obtain ⟨-, ⟨q1, q2⟩, q3⟩ := hS9
        have c1 := q1.cell 0
        have c2 := q2.hcells.1
        have c3 := q2.way (n := P) (k := F) (by omega) (by omega)
        have c4 := q2.way (n := P - F) (k := S) (by omega) (by omega)
        obtain ⟨p0, p1, p2, p3, p4⟩ := q3.lcells
        simp only [List.getElem?_toArray, List.getElem?_cons_zero] at c1
        go_simp
        refine hK _ _ hS (Below.refl _ _) ?_
        exact fits_is _ _
      refine Vals5.Steps.run rfl (Vals5.Stable.is _) ?_ ?_
      · intro a W hS pre old K hK
        have e44 := pre 19 44 _ (by kernel_rfl) rfl rfl
        have e46 := pre 21 46 _ (by kernel_rfl) rfl rfl
        clear pre old
        simp only [Vals5.fits, Array.getD_eq_getD_getElem?, List.getElem?_toArray, List.getElem?_cons_zero, List.getElem?_cons_succ, Option.getD_some] at e44 e46
        go_simp
        refine hK _ _ hS (Below.refl _ _) ?_
        exact fits_is _ _
      refine Vals5.Steps.run rfl (Vals5.Stable.is _) ?_ ?_
      · intro a W hS pre old K hK
        have e5 := old 5 _ (by kernel_rfl) rfl
        clear pre old
        simp only [Vals5.fits, Array.getD_eq_getD_getElem?, List.getElem?_toArray, List.getElem?_cons_zero, List.getElem?_cons_succ, Option.getD_some] at e5
        go_simp
        refine hK _ _ hS (Below.refl _ _) ?_
        exact fits_is _ _
      refine Vals5.Steps.run rfl (Vals5.Stable.is _) ?_ ?_
      · intro a W hS pre old K hK
        have e48 := pre 23 48 _ (by kernel_rfl) rfl rfl
        clear pre old
        simp only [Vals5.fits, Array.getD_eq_getD_getElem?, List.getElem?_toArray, List.getElem?_cons_zero, List.getElem?_cons_succ, Option.getD_some] at e48
        have hS9 := hS
        obtain ⟨-, ⟨q1, q2⟩, q3⟩ := hS9
        have c1 := q1.cell 0
        have c2 := q2.hcells.1
        have c3 := q2.way (n := P) (k := F) (by omega) (by omega)
        have c4 := q2.way (n := P - F) (k := S) (by omega) (by omega)
        obtain ⟨p0, p1, p2, p3, p4⟩ := q3.lcells
        simp only [List.getElem?_toArray, List.getElem?_cons_zero] at c1
        go_simp
        refine hK _ _ hS (Below.refl _ _) ?_
        exact fits_is _ _
      refine Vals5.Steps.run rfl (Vals5.Stable.is _) ?_ ?_
      · intro a W hS pre old K hK
        have e39 := pre 14 39 _ (by kernel_rfl) rfl rfl
        clear pre old
        simp only [Vals5.fits, Array.getD_eq_getD_getElem?, List.getElem?_toArray, List.getElem?_cons_zero, List.getElem?_cons_succ, Option.getD_some] at e39
        go_simp
        refine hK _ _ hS (Below.refl _ _) ?_
        exact fits_is _ _
      refine Vals5.Steps.run rfl (Vals5.Stable.is _) ?_ ?_
      · intro a W hS pre old K hK
        have e50 := pre 25 50 _ (by kernel_rfl) rfl rfl
        clear pre old
        simp only [Vals5.fits, Array.getD_eq_getD_getElem?, List.getElem?_toArray, List.getElem?_cons_zero, List.getElem?_cons_succ, Option.getD_some] at e50
        go_simp
        refine hK _ _ hS (Below.refl _ _) ?_
        exact fits_is _ _
      refine Vals5.Steps.run rfl (Vals5.Stable.is _) ?_ ?_
      · intro a W hS pre old K hK
        have e47 := pre 22 47 _ (by kernel_rfl) rfl rfl
        have e51 := pre 26 51 _ (by kernel_rfl) rfl rfl
        clear pre old
        simp only [Vals5.fits, Array.getD_eq_getD_getElem?, List.getElem?_toArray, List.getElem?_cons_zero, List.getElem?_cons_succ, Option.getD_some] at e47 e51
        go_simp
        refine hK _ _ hS (Below.refl _ _) ?_
        exact fits_is _ _
      refine Vals5.Steps.run rfl (Vals5.Stable.is _) ?_ ?_
      · intro a W hS pre old K hK
        have e49 := pre 24 49 _ (by kernel_rfl) rfl rfl
        have e52 := pre 27 52 _ (by kernel_rfl) rfl rfl
        clear pre old
        simp only [Vals5.fits, Array.getD_eq_getD_getElem?, List.getElem?_toArray, List.getElem?_cons_zero, List.getElem?_cons_succ, Option.getD_some] at e49 e52
        go_simp
        refine hK _ _ hS (Below.refl _ _) ?_
        exact fits_is _ _
      refine Vals5.Steps.run rfl (Vals5.Stable.is _) ?_ ?_
      · intro a W hS pre old K hK
        have e53 := pre 28 53 _ (by kernel_rfl) rfl rfl
        clear pre old
        simp only [Vals5.fits, Array.getD_eq_getD_getElem?, List.getElem?_toArray, List.getElem?_cons_zero, List.getElem?_cons_succ, Option.getD_some] at e53
        have hS9 := hS
        obtain ⟨-, ⟨q1, q2⟩, q3⟩ := hS9
        have c1 := q1.cell 0
        have c2 := q2.hcells.1
        have c3 := q2.way (n := P) (k := F) (by omega) (by omega)
        have c4 := q2.way (n := P - F) (k := S) (by omega) (by omega)
        obtain ⟨p0, p1, p2, p3, p4⟩ := q3.lcells
        simp only [List.getElem?_toArray, List.getElem?_cons_zero] at c1
        go_simp
        refine hK _ _ hS (Below.refl _ _) ?_
        exact fits_is _ _
      refine Vals5.Steps.run rfl (Vals5.Stable.is _) ?_ ?_
      · intro a W hS pre old K hK
        have e38 := pre 13 38 _ (by kernel_rfl) rfl rfl
        have e54 := pre 29 54 _ (by kernel_rfl) rfl rfl
        clear pre old
        simp only [Vals5.fits, Array.getD_eq_getD_getElem?, List.getElem?_toArray, List.getElem?_cons_zero, List.getElem?_cons_succ, Option.getD_some] at e38 e54
        go_simp
        refine hK _ _ hS (Below.refl _ _) ?_
        exact fits_is _ _
      refine Vals5.Steps.run rfl (Vals5.Stable.is _) ?_ ?_
      · intro a W hS pre old K hK
        have e25 := pre 0 25 _ (by kernel_rfl) rfl rfl
        have e55 := pre 30 55 _ (by kernel_rfl) rfl rfl
        clear pre old
        simp only [Vals5.fits, Array.getD_eq_getD_getElem?, List.getElem?_toArray, List.getElem?_cons_zero, List.getElem?_cons_succ, Option.getD_some] at e25 e55
        obtain ⟨⟨⟨q1, q2⟩, q3⟩, ⟨q4, q5⟩, q6⟩ := hS
        have HCC := HS7 W
        go_simp
        refine HCC.out.mono ?_
        rintro e w' ⟨rfl, hb'⟩
        refine hK _ _ ⟨⟨⟨q1.keep hb', q2.trans (hb'.mono q2.size)⟩, (hb'.block D (Array.getElem?_eq_some_iff.1 q3).1).trans q3⟩, ⟨q4.keep hb', q5.keep hb'⟩, q6.keep hb'⟩ hb' ?_
        exact fits_is _ _
      exact Vals5.Steps.nil
    case hend =>
    rintro X ⟨⟨⟨i3, i5⟩, hK⟩, -⟩
    obtain ⟨v, hv⟩ : ∃ v, ip (shr q cs) = v := ⟨_, rfl⟩
    have HV2 : Hid (ip (shr q cs) = v) := hv
    have HR3 := Lib.hid i3
    simp only [Vals5.All]
    simp only [List.getLast_cons_cons, List.getLast_singleton]
    simp only [Vals.putAll, List.setIfInBounds_toArray, List.set_cons_zero, List.set_cons_succ]
    intro K hKK
    rw [hv]
    clear hv
    refine wp_store_row 90 _ _ rfl (w.heap.size + 1 + 1) (fV v) rfl rfl 90 _ HR3.out (by kernel_rfl) rfl (by simp [Value.oneCell']) ?_
    refine hKK _ _ ?_
    clear hKK K
    dsimp only [Act.put]
    go_wp2_with fail
    have i6 : Below w.heap.size w (X.setRow (w.heap.size + 1 + 1) (fV v)) := below_setRow i5 (by omega) _
    have hK' : (X.setRow (w.heap.size + 1 + 1) (fV v)).heap[D]? = some (.deferred (some [])) := (setRow_other X (w.heap.size + 1 + 1) D (fV v) (by omega)).trans hK
    have hR9 : Blk ((X.setRow (w.heap.size + 1 + 1) (fV v)).putObj D (.deferred none)) (w.heap.size + 1 + 1) 90 (fV v) := (i3.row (fV v)).grown (grownBy_putObj' _ D (.deferred none)) (fun e => by cases e; omega)
    refine ⟨by simp, .inl ⟨_, _, rfl, run_takeDeferred hK', ?_⟩⟩
    refine ⟨_, results_cell_row Try.results87 _ _ (w.heap.size + 1 + 1) 90 _ (0, 0) _ rfl hR9 Try.underlying90 rfl (by kernel_rfl), ?_, i6.trans (belowK_b (w := w) (Nat.le_refl _) _ D _ _ (by omega) hK' rfl rfl)⟩
    rw [HAV.out, HCS.out, HV2.out]
end Td
end Go.Proofs.Ytgkdidnmndmlhaa
