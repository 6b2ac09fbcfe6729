import Derived.Test.YtgkdidnmndmlhaaTail
import Derived.Test.YtgkdidnmndmlhaaMath
/- What is paid on average. -/
namespace Go.Proofs.Ytgkdidnmndmlhaa
open Go.RowKit
namespace Td
set_option linter.unusedSimpArgs false
set_option linter.unusedVariables false
attribute [local go_sem] Oper.semAt_some
/-- the boxes of the iterator that a call of shows has just laid. -/
theorem Cs.mk4 {a b : Nat} {wa w0 : World} {g : Nat} {tp lo hi : Int} {P d n : Nat} (h0 : (((wa.alloc (.cells #[hpP g] 87)).alloc (.cells #[.int .i64 (P : Int)] 3)).alloc (.cells #[.int .i64 (d : Int)] 3)).alloc (.cells #[.int .i64 (n : Int)] 3) = w0)
    (hg : Blk wa g 97 (hpV tp lo hi)) (hba : b ≤ wa.heap.size) (hga : ¬ (a ≤ g ∧ g < b)) (hd : d ≤ P) (hn : n ≤ P) (hP : P ≤ 20) :
    Cs a b w0 (wa.heap.size + 1) (wa.heap.size + 1 + 1) (wa.heap.size + 1 + 1 + 1) wa.heap.size g tp lo hi P d n := by
  subst h0
  exact ⟨((Blk.new1 wa _ _ _).alloc _).alloc _, (Blk.new2 wa _ _ _ _).alloc _, Blk.new3 wa _ _ _ _ _, (((Blk.new wa _ _).alloc _).alloc _).alloc _, (((hg.alloc _).alloc _).alloc _).alloc _, by omega, by omega, by omega, by omega, hga, hd, hn, hP⟩
theorem shows_w0 {wa w0 : World} {c1 c2 c3 c4 : Obj} (h0 : (((wa.alloc c1).alloc c2).alloc c3).alloc c4 = w0) : w0.heap.size = wa.heap.size + 4 ∧ Below wa.heap.size wa w0 := by
  subst h0
  refine ⟨by simp, ?_⟩
  exact (((((Below.refl _ wa).alloc (Nat.le_refl _) _).alloc (by simp) _).alloc (by simp; omega) _).alloc (by simp; omega) _)
set_option maxRecDepth 100000 in
set_option maxHeartbeats 4000000 in
theorem price_c (g : Nat) (lo hi : Int) (P d n : Nat) (A : Option Addr) (xs : List Int) (c : Nat) (w : World) (hg : Blk w g 97 (hpV (P : Int) lo hi)) (hp : InAt w A xs) (hxl : xs.length = n + 1) (hb : ∀ x ∈ xs, 0 ≤ x ∧ x ≤ 100000) (hd : d ≤ P) (hn : n ≤ P) (hP : P ≤ 20) :
    Calls Try.prog 79 #[hpP g, .slice A xs.length c, .int .i64 d] w fun e w' => e = .returned (.agg (fV (ip (shr (prcS P d n fun i => (xs[i]?.getD 0).toNat) (bn P n))))) ∧ Below w.heap.size w w' := by
  have hgl := hg.lt
  have HB := Lib.hid hb
  obtain ⟨pay, hpay⟩ : ∃ pay : Nat → Nat, pay = fun i => (xs[i]?.getD 0).toNat := ⟨_, rfl⟩
  rw [← hpay]
  have HPAY := Lib.hid hpay
  have HSUM : Hid (lsum (fun x : Nat × Nat => x.2 * pay x.1) (showsL P d n) ≤ 209715200000) := by
    show _ ≤ _
    rw [lsum_shows P d n hd hn pay]
    have h1 := prcS_le (P := P) (n := n) (pay := pay) hd (m := 100000) (fun i hi => by
      rw [hpay]
      have hk : i < xs.length := by omega
      have := hb _ (List.getElem_mem hk)
      simp only [List.getElem?_eq_getElem hk, Option.getD_some]
      omega)
    have h2 := bn_bd' (n := P) (by omega) n
    have h3 := Nat.mul_le_mul_right 100000 h2
    unfold prcS at h1
    omega
  clear hpay hb
  rw [hxl]
  have HXL := Lib.hid hxl
  clear hxl
  refine (callsIn_wide (n := 6)).1 ?_
  refine callsIn_of_wp_marks Try.func79 rfl trivial ?_ rfl
  simp only [Try.ntmps79, List.size_toArray, List.length_cons, List.length_nil, Nat.reduceAdd, Nat.reduceSub, Array.replicate_succ, Array.replicate_zero, List.push_toArray, List.append_toArray, List.nil_append, List.cons_append]
  refine wpIn_wide.2 ?_
  obtain ⟨wa, hwa⟩ : ∃ wa, ((w.alloc (.cells #[.slice A (n + 1) c] 51)).alloc (.cells (fV (0, 0)) 90)).alloc (.cells #[.int .i64 0] 3) = wa := ⟨_, rfl⟩
  have hsa : Since w wa := by rw [← hwa]; exact (((Since.refl w).alloc _).alloc _).alloc _
  have bX : Blk wa w.heap.size 51 #[.slice A (n + 1) c] := by rw [← hwa]; exact ((Blk.new w _ _).alloc _).alloc _
  have bR : Blk wa (w.heap.size + 1) 90 (fV (0, 0)) := by rw [← hwa]; exact (Blk.new1 w _ _ _).alloc _
  have bS : Blk wa (w.heap.size + 1 + 1) 3 #[.int .i64 0] := by rw [← hwa]; exact Blk.new2 w _ _ _ _
  have bG : Blk wa g 97 (hpV (P : Int) lo hi) := hg.keep hsa.1
  have hza : wa.heap.size = w.heap.size + 3 := by rw [← hwa]; simp
  have hsh := shows_c g (P : Int) (d : Int) (n : Int) wa
  rw [← hwa] at hsh
  have HSH := Lib.hid hsh
  have HWA := Lib.hid hwa
  have hgw : (((w.alloc (.cells #[.slice A (n + 1) c] 51)).alloc (.cells (fV (0, 0)) 90)).alloc (.cells #[.int .i64 0] 3)).cell? ⟨g, 0, none⟩ = some (.int .i64 (P : Int)) := by rw [hwa]; exact bG.hcells.1
  have hn1 : IntKind.i64.wrap ((n : Int) + 1 - 1) = (n : Int) := by rw [wrapI (by unfold I64; omega)]; omega
  have hn2 : IntKind.i64.wrap (n : Int) = (n : Int) := wrapI (by unfold I64; omega)
  clear hsh hwa
  go_wp2_with fail
  refine HSH.out.mono ?_
  rintro e w0 ⟨rfl, hw0⟩
  rw [HWA.out] at hw0 ⊢
  obtain ⟨hz0, hb0⟩ := shows_w0 hw0
  have C := Cs.mk4 (a := w.heap.size + 1 + 1) (b := w.heap.size + 1 + 1 + 1) hw0 bG (by omega) (by omega) hd hn hP
  clear hw0 HSH HWA hgw
  go_wp2_with fail
  refine (wpIn_wide (n := 6)).1 ?_
  refine rangeFunc_d (w := w0) rfl (by omega) (gf := 85) (lb := #[hpP (wa.heap.size + 1), hpP (wa.heap.size + 1 + 1), hpP (wa.heap.size + 1 + 1 + 1), hpP wa.heap.size]) (by first | rfl | (rw [hza]; rfl)) trivial (enters_of Try.func85 (by kernel_rfl) rfl)
    (shows_seq (c := w0.heap.size) (ee := w0.heap.size + 2) _ (by omega) C) Kp.trans (fun W o o' hg hc _ => Kp.put W _ o o' (by omega) (by omega) hg hc) (Below.refl _ _) (fun _ => rfl)
    (fun pre W => (((Blk W (w.heap.size + 1 + 1) 3 #[.int .i64 (lsum (fun x : Nat × Nat => x.2 * pay x.1) pre : Nat)] ∧ Blk W w.heap.size 51 #[.slice A (n + 1) c]) ∧ Blk W (w.heap.size + 1) 90 (fV (0, 0))) ∧ Blk W g 97 (hpV (P : Int) lo hi)) ∧ Below w.heap.size w W)
    (fun c pre W => False)
    (((((AllFrom.blk (by omega) _ (fun pre => #[.int .i64 (lsum (fun x : Nat × Nat => x.2 * pay x.1) pre : Nat)])).and (AllFrom.blk (by omega) _ _)).and (AllFrom.blk (by omega) _ _)).and (AllFrom.blk (by omega) _ _)).and (AllFrom.below (Nat.le_refl _) (by omega)))
    (fun _ _ _ _ _ hs _ _ => hs)
    ⟨⟨⟨⟨bS.keep hb0, bX.keep hb0⟩, bR.keep hb0⟩, bG.keep hb0⟩, hsa.1.trans (hb0.mono hsa.2)⟩
    (fun x a' W => a' = { tmps := #[hpP g, .slice A (n + 1) c, .int .i64 d, undef, hpP w.heap.size, undef, hpP (w.heap.size + 1), .int .i64 n, hpP (w.heap.size + 1 + 1), .int .i64 (x.1 : Nat), .int .i64 (x.2 : Nat), .slice A (n + 1) c, .int .i64 ((n : Int) + 1), .int .i64 n, hpP g, hpP g, hpP g, hpP g, hpP g, .int .i64 P, .int .i64 d, .int .i64 n, .func (.func 85) #[] #[hpP (w.heap.size + 3 + 1), hpP (w.heap.size + 3 + 1 + 1), hpP (w.heap.size + 3 + 1 + 1 + 1), hpP (w.heap.size + 3)], .int .i64 (x.1 : Nat), .int .i64 (x.2 : Nat), undef, undef, undef, undef, undef, undef, undef, undef, undef, undef, undef, undef, undef, undef, undef, undef, undef, undef, undef, undef, undef, undef], defers := [] })
    (fun x a' _ X Y row hs hg hr => hs)
    ?assign ?body ?done ?stop
  case assign =>
    rintro l pre x W K i0 hK
    gi_wp2
    exact hK _ _ (keepsFrom_of_below (Below.refl _ _)) (.refl _ _ _ _ _) i0 rfl
  case body =>
    rintro l pre x a' W hl ⟨r, hr⟩ ⟨⟨⟨⟨i1, i2⟩, i3⟩, i4⟩, i5⟩ rfl ⟨rest, hrest⟩
    have hxm := showsL_mem (x := x) (P := P) (b := d) (n := n) (by rw [hrest]; simp)
    have hxn : x.1 ≤ n := by have := hxm.2.1; unfold hiS at this; omega
    have hk : x.1 < xs.length := by have := HXL.out; omega
    obtain ⟨ad, hA, z0⟩ := (hp.keep i5).get hk
    subst hA
    have hxv : xs[x.1] = ((pay x.1 : Nat) : Int) := by
      rw [HPAY.out]
      have h1 := (HB.out _ (List.getElem_mem hk)).1
      simp only [List.getElem?_eq_getElem hk, Option.getD_some]
      omega
    rw [hxv] at z0
    obtain ⟨i, hi⟩ : ∃ i, x.1 = i := ⟨_, rfl⟩
    obtain ⟨s, hs⟩ : ∃ s, x.2 = s := ⟨_, rfl⟩
    have hsum : lsum (fun x : Nat × Nat => x.2 * pay x.1) (pre ++ [x]) ≤ 209715200000 := Nat.le_trans (lsum_le_of _ (l := showsL P d n) (r := rest) (by rw [hrest]; simp)) HSUM.out
    rw [lsum_snoc] at hsum
    have HN : Hid (lsum (fun x : Nat × Nat => x.2 * pay x.1) (pre ++ [x]) = lsum (fun x : Nat × Nat => x.2 * pay x.1) pre + s * pay i) := by show _ = _; rw [lsum_snoc, hs, hi]
    rw [hi] at z0 hxn
    rw [hi, hs] at hsum ⊢
    obtain ⟨q, hq⟩ : ∃ q, lsum (fun x : Nat × Nat => x.2 * pay x.1) pre = q := ⟨_, rfl⟩
    rw [hq] at i1 HN hsum
    obtain ⟨p, hpp⟩ : ∃ p, pay i = p := ⟨_, rfl⟩
    rw [hpp] at z0 HN hsum
    have em : (s : Int) * (p : Int) = ((s * p : Nat) : Int) := by push_cast; rfl
    have e1 : IntKind.i64.wrap ((s : Int) * (p : Int)) = ((s * p : Nat) : Int) := by rw [em]; exact wrapI (by unfold I64; omega)
    have e2 : IntKind.i64.wrap ((q : Int) + ((s * p : Nat) : Int)) = ((q + s * p : Nat) : Int) := by rw [wrapI (by unfold I64; omega)]; push_cast; rfl
    have t1 : i < n + 1 := by omega
    have t2 : (i : Int) < (n : Int) + 1 := by omega
    clear hxm hxv hk hi hs hq hpp em
    obtain ⟨V, hV⟩ : ∃ V, W.drew = V := ⟨_, rfl⟩
    have j1 : Blk V (w.heap.size + 1 + 1) 3 #[.int .i64 (q : Int)] := hV ▸ i1.drew
    have j2 : Blk V w.heap.size 51 #[.slice (some ad) (n + 1) c] := hV ▸ i2.drew
    have y0 : V.cell? (ad.add i) = some (.int .i64 (p : Int)) := hV ▸ z0
    have c1 := j1.cell 0
    have c2 := j2.cell 0
    have f1 := j1.frozen 0
    simp only [List.getElem?_toArray, List.getElem?_cons_zero] at c1 c2
    clear z0
    gi_wp2
    refine Vals6T.regionAll 8 (fun X => Hid (X = V)) [some 25, some 26, some 27, some 28, some 29, some 30, some 31, some 32] [.is ?_, .is ?_, .is ?_, .is ?_, .is ?_, .is ?_, .is ?_, .is ?_] (.inr ⟨l, rfl⟩) (by kernel_rfl) (by kernel_rfl) (by kernel_rfl) rfl (by kernel_rfl) (by kernel_rfl) (by kernel_rfl) (by kernel_rfl) (by kernel_rfl) (by kernel_rfl) rfl (Lib.hid hV) ?hsteps ?hend
    case hsteps =>
      refine Vals5.Steps.run rfl (Vals5.Stable.is _) ?_ ?_
      · intro a W hS pre old K hK
        have e8 := old 8 _ (by kernel_rfl) rfl
        clear pre old
        simp only [Vals5.fits, Array.getD_eq_getD_getElem?, List.getElem?_toArray, List.getElem?_cons_zero, List.getElem?_cons_succ, Option.getD_some] at e8
        have hS9 := hS
        obtain rfl := hS9.out
        go_simp
        refine hK _ _ hS (Below.refl _ _) ?_
        exact fits_is _ w
      refine Vals5.Steps.run rfl (Vals5.Stable.is _) ?_ ?_
      · intro a W hS pre old K hK
        have e10 := old 10 _ (by kernel_rfl) rfl
        clear pre old
        simp only [Vals5.fits, Array.getD_eq_getD_getElem?, List.getElem?_toArray, List.getElem?_cons_zero, List.getElem?_cons_succ, Option.getD_some] at e10
        go_simp
        refine hK _ _ hS (Below.refl _ _) ?_
        exact fits_is _ w
      refine Vals5.Steps.run rfl (Vals5.Stable.is _) ?_ ?_
      · intro a W hS pre old K hK
        have e4 := old 4 _ (by kernel_rfl) rfl
        clear pre old
        simp only [Vals5.fits, Array.getD_eq_getD_getElem?, List.getElem?_toArray, List.getElem?_cons_zero, List.getElem?_cons_succ, Option.getD_some] at e4
        have hS9 := hS
        obtain rfl := hS9.out
        go_simp
        refine hK _ _ hS (Below.refl _ _) ?_
        exact fits_is _ w
      refine Vals5.Steps.run rfl (Vals5.Stable.is _) ?_ ?_
      · intro a W hS pre old K hK
        have e9 := old 9 _ (by kernel_rfl) rfl
        clear pre old
        simp only [Vals5.fits, Array.getD_eq_getD_getElem?, List.getElem?_toArray, List.getElem?_cons_zero, List.getElem?_cons_succ, Option.getD_some] at e9
        go_simp
        refine hK _ _ hS (Below.refl _ _) ?_
        exact fits_is _ w
      refine Vals5.Steps.run rfl (Vals5.Stable.is _) ?_ ?_
      · intro a W hS pre old K hK
        have e27 := pre 2 27 _ (by kernel_rfl) rfl rfl
        have e28 := pre 3 28 _ (by kernel_rfl) rfl rfl
        clear pre old
        simp only [Vals5.fits, Array.getD_eq_getD_getElem?, List.getElem?_toArray, List.getElem?_cons_zero, List.getElem?_cons_succ, Option.getD_some] at e27 e28
        go_simp
        refine hK _ _ hS (Below.refl _ _) ?_
        exact fits_is _ w
      refine Vals5.Steps.run rfl (Vals5.Stable.is _) ?_ ?_
      · intro a W hS pre old K hK
        have e29 := pre 4 29 _ (by kernel_rfl) rfl rfl
        clear pre old
        simp only [Vals5.fits, Array.getD_eq_getD_getElem?, List.getElem?_toArray, List.getElem?_cons_zero, List.getElem?_cons_succ, Option.getD_some] at e29
        have hS9 := hS
        obtain rfl := hS9.out
        go_simp
        refine hK _ _ hS (Below.refl _ _) ?_
        exact fits_is _ w
      refine Vals5.Steps.run rfl (Vals5.Stable.is _) ?_ ?_
      · intro a W hS pre old K hK
        have e26 := pre 1 26 _ (by kernel_rfl) rfl rfl
        have e30 := pre 5 30 _ (by kernel_rfl) rfl rfl
        clear pre old
        simp only [Vals5.fits, Array.getD_eq_getD_getElem?, List.getElem?_toArray, List.getElem?_cons_zero, List.getElem?_cons_succ, Option.getD_some] at e26 e30
        go_simp
        refine hK _ _ hS (Below.refl _ _) ?_
        exact fits_is _ w
      refine Vals5.Steps.run rfl (Vals5.Stable.is _) ?_ ?_
      · intro a W hS pre old K hK
        have e25 := pre 0 25 _ (by kernel_rfl) rfl rfl
        have e31 := pre 6 31 _ (by kernel_rfl) rfl rfl
        clear pre old
        simp only [Vals5.fits, Array.getD_eq_getD_getElem?, List.getElem?_toArray, List.getElem?_cons_zero, List.getElem?_cons_succ, Option.getD_some] at e25 e31
        go_simp
        refine hK _ _ hS (Below.refl _ _) ?_
        exact fits_is _ w
      exact Vals5.Steps.nil
    case hend =>
    rintro X hXV
    obtain rfl : X = V := hXV.out
    simp only [Vals5.All]
    simp only [Vals.putAll, List.setIfInBounds_toArray, List.set_cons_zero, List.set_cons_succ]
    show wpListIn _ _ _ _ _ [_] _ _
    gi_wp2
    have hWV : Below W.heap.size W X := hV ▸ (Below.refl _ _).drew
    refine ⟨(keepsFrom_of_below hWV).trans ((KeepsOthers.setCell _ _ _).from _), (Kp.of hWV).setCell _ _ _ (by omega) (by omega), ⟨⟨⟨?_, j2.far (by omega) _ _⟩, (hV ▸ i3.drew : Blk X _ _ _).far (by omega) _ _⟩, (hV ▸ i4.drew : Blk X _ _ _).far (by omega) _ _⟩, (i5.trans (hWV.mono i5.size)).setCell (p := ⟨w.heap.size + 1 + 1, 0, none⟩) (by simp; omega) _⟩
    rw [HN.out]
    exact j1.set 0 _
  case stop =>
    rintro D c pre W hD ⟨rest, hE⟩ h hK
    exact h.elim
  case done =>
    rintro D ys W hD rfl ⟨⟨⟨⟨i1, i2⟩, i3⟩, i4⟩, i5⟩ hK
    rw [lsum_shows P d n hd hn pay] at i1
    obtain ⟨q, hq⟩ : ∃ q, sumN (n + 1) (fun i => sh P d n i * pay i) = q := ⟨_, rfl⟩
    have hql : q ≤ 209715200000 := by rw [← hq, ← lsum_shows P d n hd hn pay]; exact HSUM.out
    have HV : Hid (prcS P d n pay = q) := hq
    rw [hq] at i1
    clear hq
    have hbp := bn_pos hn
    have hbl := bn_bd' (n := P) (by omega) n
    have t1 : (P : Int) < 21 := by omega
    have t2 : (n : Int) < 21 := by omega
    have t3 : P < 21 := by omega
    have t4 : n < 21 := by omega
    have HS7 := fun X => Lib.hid (shareOf_c q (bn P n) X (by omega) (by omega) hbp)
    go_wp2_with fail
    refine Vals6.regionAll (fun X => ((Blk X (w.heap.size + 1) 90 (fV (0, 0)) ∧ Below w.heap.size w X) ∧ X.heap[D]? = some (.deferred (some []))) ∧ (Blk X (w.heap.size + 1 + 1) 3 #[.int .i64 (q : Int)] ∧ Blk X g 97 (hpV (P : Int) lo hi))) [some 33, some 34, some 35, some 36, some 37, some 38, some 39, some 40, some 41, some 42, some 43, some 44, some 45, some 46] [.is ?_, .is ?_, .is ?_, .is ?_, .is ?_, .is ?_, .is ?_, .is ?_, .is ?_, .is ?_, .is ?_, .is ?_, .is ?_, .is ?_] (by kernel_rfl) rfl rfl (by kernel_rfl) (by kernel_rfl) (by kernel_rfl) (by kernel_rfl) (by kernel_rfl) (by kernel_rfl) rfl (⟨⟨⟨i3.drew, i5.drew⟩, hK⟩, i1.drew, i4.drew⟩) ?hsteps ?hend
    case hsteps =>
      refine Vals5.Steps.run rfl (Vals5.Stable.is _) ?_ ?_
      · intro a W hS pre old K hK
        have e8 := old 8 _ (by kernel_rfl) rfl
        clear pre old
        simp only [Vals5.fits, Array.getD_eq_getD_getElem?, List.getElem?_toArray, List.getElem?_cons_zero, List.getElem?_cons_succ, Option.getD_some] at e8
        have hS9 := hS
        obtain ⟨-, q1, q2⟩ := hS9
        have c1 := q1.cell 0
        have c2 := q2.hcells.1
        have c3 := q2.way (n := P) (k := n) (by omega) (by omega)
        simp only [List.getElem?_toArray, List.getElem?_cons_zero] at c1
        go_simp
        refine hK _ _ hS (Below.refl _ _) ?_
        exact fits_is _ _
      refine Vals5.Steps.run rfl (Vals5.Stable.is _) ?_ ?_
      · intro a W hS pre old K hK
        have e0 := old 0 _ (by kernel_rfl) rfl
        clear pre old
        simp only [Vals5.fits, Array.getD_eq_getD_getElem?, List.getElem?_toArray, List.getElem?_cons_zero, List.getElem?_cons_succ, Option.getD_some] at e0
        go_simp
        refine hK _ _ hS (Below.refl _ _) ?_
        exact fits_is _ _
      refine Vals5.Steps.run rfl (Vals5.Stable.is _) ?_ ?_
      · intro a W hS pre old K hK
        have e0 := old 0 _ (by kernel_rfl) rfl
        clear pre old
        simp only [Vals5.fits, Array.getD_eq_getD_getElem?, List.getElem?_toArray, List.getElem?_cons_zero, List.getElem?_cons_succ, Option.getD_some] at e0
        go_simp
        refine hK _ _ hS (Below.refl _ _) ?_
        exact fits_is _ _
      refine Vals5.Steps.run rfl (Vals5.Stable.is _) ?_ ?_
      · intro a W hS pre old K hK
        have e35 := pre 2 35 _ (by kernel_rfl) rfl rfl
        clear pre old
        simp only [Vals5.fits, Array.getD_eq_getD_getElem?, List.getElem?_toArray, List.getElem?_cons_zero, List.getElem?_cons_succ, Option.getD_some] at e35
        go_simp
        refine hK _ _ hS (Below.refl _ _) ?_
        exact fits_is _ _
      refine Vals5.Steps.run rfl (Vals5.Stable.is _) ?_ ?_
      · intro a W hS pre old K hK
        have e36 := pre 3 36 _ (by kernel_rfl) rfl rfl
        clear pre old
        simp only [Vals5.fits, Array.getD_eq_getD_getElem?, List.getElem?_toArray, List.getElem?_cons_zero, List.getElem?_cons_succ, Option.getD_some] at e36
        go_simp
        refine hK _ _ hS (Below.refl _ _) ?_
        exact fits_is _ _
      refine Vals5.Steps.run rfl (Vals5.Stable.is _) ?_ ?_
      · intro a W hS pre old K hK
        have e37 := pre 4 37 _ (by kernel_rfl) rfl rfl
        clear pre old
        simp only [Vals5.fits, Array.getD_eq_getD_getElem?, List.getElem?_toArray, List.getElem?_cons_zero, List.getElem?_cons_succ, Option.getD_some] at e37
        go_simp
        refine hK _ _ hS (Below.refl _ _) ?_
        exact fits_is _ _
      refine Vals5.Steps.run rfl (Vals5.Stable.is _) ?_ ?_
      · intro a W hS pre old K hK
        have e38 := pre 5 38 _ (by kernel_rfl) rfl rfl
        clear pre old
        simp only [Vals5.fits, Array.getD_eq_getD_getElem?, List.getElem?_toArray, List.getElem?_cons_zero, List.getElem?_cons_succ, Option.getD_some] at e38
        have hS9 := hS
        obtain ⟨-, q1, q2⟩ := hS9
        have c1 := q1.cell 0
        have c2 := q2.hcells.1
        have c3 := q2.way (n := P) (k := n) (by omega) (by omega)
        simp only [List.getElem?_toArray, List.getElem?_cons_zero] at c1
        go_simp
        refine hK _ _ hS (Below.refl _ _) ?_
        exact fits_is _ _
      refine Vals5.Steps.run rfl (Vals5.Stable.is _) ?_ ?_
      · intro a W hS pre old K hK
        have e7 := old 7 _ (by kernel_rfl) rfl
        clear pre old
        simp only [Vals5.fits, Array.getD_eq_getD_getElem?, List.getElem?_toArray, List.getElem?_cons_zero, List.getElem?_cons_succ, Option.getD_some] at e7
        go_simp
        refine hK _ _ hS (Below.refl _ _) ?_
        exact fits_is _ _
      refine Vals5.Steps.run rfl (Vals5.Stable.is _) ?_ ?_
      · intro a W hS pre old K hK
        have e34 := pre 1 34 _ (by kernel_rfl) rfl rfl
        clear pre old
        simp only [Vals5.fits, Array.getD_eq_getD_getElem?, List.getElem?_toArray, List.getElem?_cons_zero, List.getElem?_cons_succ, Option.getD_some] at e34
        go_simp
        refine hK _ _ hS (Below.refl _ _) ?_
        exact fits_is _ _
      refine Vals5.Steps.run rfl (Vals5.Stable.is _) ?_ ?_
      · intro a W hS pre old K hK
        have e41 := pre 8 41 _ (by kernel_rfl) rfl rfl
        clear pre old
        simp only [Vals5.fits, Array.getD_eq_getD_getElem?, List.getElem?_toArray, List.getElem?_cons_zero, List.getElem?_cons_succ, Option.getD_some] at e41
        go_simp
        refine hK _ _ hS (Below.refl _ _) ?_
        exact fits_is _ _
      refine Vals5.Steps.run rfl (Vals5.Stable.is _) ?_ ?_
      · intro a W hS pre old K hK
        have e39 := pre 6 39 _ (by kernel_rfl) rfl rfl
        have e42 := pre 9 42 _ (by kernel_rfl) rfl rfl
        clear pre old
        simp only [Vals5.fits, Array.getD_eq_getD_getElem?, List.getElem?_toArray, List.getElem?_cons_zero, List.getElem?_cons_succ, Option.getD_some] at e39 e42
        go_simp
        refine hK _ _ hS (Below.refl _ _) ?_
        exact fits_is _ _
      refine Vals5.Steps.run rfl (Vals5.Stable.is _) ?_ ?_
      · intro a W hS pre old K hK
        have e40 := pre 7 40 _ (by kernel_rfl) rfl rfl
        have e43 := pre 10 43 _ (by kernel_rfl) rfl rfl
        clear pre old
        simp only [Vals5.fits, Array.getD_eq_getD_getElem?, List.getElem?_toArray, List.getElem?_cons_zero, List.getElem?_cons_succ, Option.getD_some] at e40 e43
        go_simp
        refine hK _ _ hS (Below.refl _ _) ?_
        exact fits_is _ _
      refine Vals5.Steps.run rfl (Vals5.Stable.is _) ?_ ?_
      · intro a W hS pre old K hK
        have e44 := pre 11 44 _ (by kernel_rfl) rfl rfl
        clear pre old
        simp only [Vals5.fits, Array.getD_eq_getD_getElem?, List.getElem?_toArray, List.getElem?_cons_zero, List.getElem?_cons_succ, Option.getD_some] at e44
        have hS9 := hS
        obtain ⟨-, q1, q2⟩ := hS9
        have c1 := q1.cell 0
        have c2 := q2.hcells.1
        have c3 := q2.way (n := P) (k := n) (by omega) (by omega)
        simp only [List.getElem?_toArray, List.getElem?_cons_zero] at c1
        go_simp
        refine hK _ _ hS (Below.refl _ _) ?_
        exact fits_is _ _
      refine Vals5.Steps.run rfl (Vals5.Stable.is _) ?_ ?_
      · intro a W hS pre old K hK
        have e33 := pre 0 33 _ (by kernel_rfl) rfl rfl
        have e45 := pre 12 45 _ (by kernel_rfl) rfl rfl
        clear pre old
        simp only [Vals5.fits, Array.getD_eq_getD_getElem?, List.getElem?_toArray, List.getElem?_cons_zero, List.getElem?_cons_succ, Option.getD_some] at e33 e45
        obtain ⟨⟨⟨q1, q2⟩, q3⟩, q4, q5⟩ := hS
        go_simp
        refine (HS7 _).out.mono ?_
        rintro e w' ⟨rfl, hb'⟩
        refine hK _ _ ⟨⟨⟨q1.keep hb', q2.trans (hb'.mono q2.size)⟩, (hb'.block D (Array.getElem?_eq_some_iff.1 q3).1).trans q3⟩, q4.keep hb', q5.keep hb'⟩ hb' ?_
        exact fits_is _ _
      exact Vals5.Steps.nil
    case hend =>
    rintro X ⟨⟨⟨i3, i5⟩, hK⟩, -⟩
    obtain ⟨v, hv⟩ : ∃ v, ip (shr q (bn P n)) = v := ⟨_, rfl⟩
    have HV2 : Hid (ip (shr q (bn P n)) = v) := hv
    have HR3 := Lib.hid i3
    simp only [Vals5.All]
    simp only [List.getLast_cons_cons, List.getLast_singleton]
    simp only [Vals.putAll, List.setIfInBounds_toArray, List.set_cons_zero, List.set_cons_succ]
    intro K hKK
    rw [hv]
    clear hv
    refine wp_store_row 90 _ _ rfl (w.heap.size + 1) (fV v) rfl rfl 90 _ HR3.out (by kernel_rfl) rfl (by simp [Value.oneCell']) ?_
    refine hKK _ _ ?_
    clear hKK K
    dsimp only [Act.put]
    go_wp2_with fail
    have i6 : Below w.heap.size w (X.setRow (w.heap.size + 1) (fV v)) := below_setRow i5 (by omega) _
    have hK' : (X.setRow (w.heap.size + 1) (fV v)).heap[D]? = some (.deferred (some [])) := (setRow_other X (w.heap.size + 1) D (fV v) (by omega)).trans hK
    have hR9 : Blk ((X.setRow (w.heap.size + 1) (fV v)).putObj D (.deferred none)) (w.heap.size + 1) 90 (fV v) := (i3.row (fV v)).grown (grownBy_putObj' _ D (.deferred none)) (fun e => by cases e; omega)
    refine ⟨by simp, .inl ⟨_, _, rfl, run_takeDeferred hK', ?_⟩⟩
    refine ⟨_, results_cell_row Try.results79 _ _ (w.heap.size + 1) 90 _ (0, 0) _ rfl hR9 Try.underlying90 rfl (by kernel_rfl), ?_, i6.trans (belowK_b (w := w) (Nat.le_refl _) _ D _ _ (by omega) hK' rfl rfl)⟩
    rw [HV.out, HV2.out]
end Td
end Go.Proofs.Ytgkdidnmndmlhaa
/- What is left of a heap that passes: the iterator over both samples. -/
namespace Go.Proofs.Ytgkdidnmndmlhaa
open Go.RowKit
namespace Td
set_option linter.unusedSimpArgs false
set_option linter.unusedVariables false
attribute [local go_sem] Oper.semAt_some
set_option maxHeartbeats 1000000 in
theorem passing_c (g : Nat) (fi pa fa se to d : Int) (w : World) :
    Calls Try.prog 96 #[hpP g, .agg (lV fi pa fa se to), .int .i64 d] w fun e w' =>
      e = .returned (.func (.func 97) #[] #[hpP w.heap.size, hpP (w.heap.size + 1), hpP (w.heap.size + 1 + 1)]) ∧
      ((w.alloc (.cells #[hpP g] 87)).alloc (.cells (lV fi pa fa se to) 38)).alloc (.cells #[.int .i64 d] 3) = w' := by
  go_enter Try.func96, Try.ntmps96
  go_wp2
  go_ret
  exact ⟨rfl, rfl⟩
/-- the iterator's boxes, as far as rounds leave them. -/
structure Cq (a b : Nat) (w₀ : World) (g1 g2 g3 g : Nat) (lo hi : Int) (P F pa fa S to d : Nat) : Prop where
  h1 : Blk w₀ g1 87 #[hpP g]
  h2 : Blk w₀ g2 38 (lV F pa fa S to)
  h3 : Blk w₀ g3 3 #[.int .i64 d]
  hw : Blk w₀ g 97 (hpV (P : Int) lo hi)
  n1 : ¬ (a ≤ g1 ∧ g1 < b)
  n2 : ¬ (a ≤ g2 ∧ g2 < b)
  n3 : ¬ (a ≤ g3 ∧ g3 < b)
  nw : ¬ (a ≤ g ∧ g < b)
  dP : d ≤ P
  fP : F ≤ P
  sP : S ≤ P - F
  pL : P ≤ 20
  ab : a ≤ b
  bw : b ≤ w₀.heap.size
/-- the region that lays the box of the rest: nothing is laid yet, or it is laid, or it is filled. -/
def Rst (V : World) (r : Int) (oA oS : Option Value) (X : World) : Prop :=
  (oA = none ∧ oS = none ∧ X = V) ∨ (oA = some (hpP V.heap.size) ∧ oS = none ∧ X = V.alloc (.cells #[.int .i64 0] 3)) ∨ (oA = some (hpP V.heap.size) ∧ oS ≠ none ∧ X = V.alloc (.cells #[.int .i64 r] 3))
theorem Rst.below {V : World} {r : Int} {oA oS : Option Value} {X : World} (h : Rst V r oA oS X) : Below V.heap.size V X := by
  rcases h with ⟨_, _, rfl⟩ | ⟨_, _, rfl⟩ | ⟨_, _, rfl⟩
  · exact Below.refl _ _
  · exact (Below.refl _ _).alloc (Nat.le_refl _) _
  · exact (Below.refl _ _).alloc (Nat.le_refl _) _
theorem alloc_set {V : World} {t : TypeId} {v u : Value} : (V.alloc (.cells #[v] t)).setCell ⟨V.heap.size, 0, none⟩ u = V.alloc (.cells #[u] t) := by
  unfold World.setCell World.alloc
  congr 1
  apply Array.ext_getElem?
  intro i
  rw [Array.getElem?_modify]
  by_cases h : V.heap.size = i
  · subst h
    simp
  · rw [if_neg h, Array.getElem?_push, Array.getElem?_push]
    split
    · rename_i h2; exact absurd h2.symm h
    · rfl
theorem AllFrom.more {β : Type} {B B' : Nat} {I : β → World → Prop} (h : AllFrom B I) (hB : B ≤ B') : AllFrom B' I := fun s W W' row hs hg hr => h s W W' row hs hg (fun r e => Nat.le_trans hB (hr r e))
theorem Blk.own {W W' : World} {g : Nat} {t : TypeId} {cs : Array Value} {row : Option Nat} (h : Blk W g t cs) (hg : W.grownBy W' row) (hr : ∀ r, row = some r → ∃ o : Obj, W.heap[r]? = some o ∧ o.isCells = false) : Blk W' g t cs :=
  h.grown hg (fun q => by
    obtain ⟨o, ho, hc⟩ := hr g q.symm
    rw [show W.heap[g]? = _ from h] at ho
    cases ho
    cases hc)
theorem keepsFrom_mono {B B' : Nat} {W W' : World} (h : KeepsFrom B W W') (hB : B ≤ B') : KeepsFrom B' W W' := ⟨h.1, fun k o hk ho hc => h.2 k o (Nat.le_trans hB hk) ho hc⟩
theorem roundIn_any {n m : Nat} {F : Fence} (hF : Wd F) {P : Program} {l : Nat} {f : FuncId} {tmps : Array Value} {assign body : Code} {w : World} {R : Ending → World → Prop} (h : RoundIn Fence.wide n P l f tmps assign body w R) : RoundIn F m P l f tmps assign body w R := by
  rcases hF with rfl | ⟨l', rfl⟩
  · exact ⟨trivial, fun c cs _ => h.2 c cs (room_wide _)⟩
  · exact ⟨trivial, fun c cs _ => h.2 c cs (room_wide _)⟩
set_option maxRecDepth 100000 in
set_option maxHeartbeats 4000000 in
theorem passing1_in (nn : Nat) (hnn : 4 ≤ nn) {a b c ee : Nat} {w₀ : World} {g1 g2 g3 g : Nat} {lo hi : Int} {P F pa fa S to d : Nat} (C : Cq a b w₀ g1 g2 g3 g lo hi P F pa fa S to d)
    (l : Nat) (J : List (Nat × Nat) → World → Prop) (Y : World) (hc : c ≤ ee) (hcw : w₀.heap.size ≤ c) (hee : ee ≤ Y.heap.size) (hW : Below w₀.heap.size w₀ Y) (hJ : AllFrom Y.heap.size J)
    (hY : ∀ pre x W1, J pre W1 → (∃ rest, passL P F pa fa S to d = pre ++ x :: rest) → YieldAt Fence.wide (nn - 1) Try.prog l (encS x) W1 fun e Y' =>
      e = .returned (.bool true) ∧ J (pre ++ [x]) Y' ∧ Kp a b c ee W1 Y')
    (h0 : J [] Y) :
    CallsIn Fence.wide nn Try.prog 97 #[.func (.yield l) #[] #[], hpP g1, hpP g2, hpP g3] Y fun e Y' =>
      (∃ v, e = .returned v) ∧ ∃ xs, xs = passL P F pa fa S to d ∧ J xs Y' := by
  have hdP := C.dP
  have hfP := C.fP
  have hsP := C.sP
  have hpL := C.pL
  have hbw := C.bw
  refine callsIn_of_wp_marks Try.func97 rfl trivial ?_ rfl
  simp only [Try.ntmps97, List.size_toArray, List.length_cons, List.length_nil, Nat.reduceAdd, Nat.reduceSub, Array.replicate_succ, Array.replicate_zero, List.push_toArray, List.append_toArray, List.nil_append, List.cons_append]
  refine wpIn_wide.2 ?_
  obtain ⟨Y1, hY1⟩ : ∃ Y1, Y.alloc (.cells #[.func (.yield l) #[] #[]] 123) = Y1 := ⟨_, rfl⟩
  have hb1 : Below Y.heap.size Y Y1 := by rw [← hY1]; exact (Below.refl _ _).alloc (Nat.le_refl _) _
  have hz1 : Y1.heap.size = Y.heap.size + 1 := by rw [← hY1]; simp
  have bY1 : Blk Y1 Y.heap.size 123 #[.func (.yield l) #[] #[]] := by rw [← hY1]; exact Blk.new _ _ _
  have hW1 := hW.trans (hb1.mono hW.size)
  have e1 : IntKind.i64.wrap ((P : Int) - (F : Int)) = ((P - F : Nat) : Int) := by rw [wrapI (by unfold I64; omega)]; omega
  go_wp2_with fail
  clear hY1
  obtain ⟨V, hV⟩ : ∃ V, Y1.drew = V := ⟨_, rfl⟩
  have hWV : Below w₀.heap.size w₀ V := hV ▸ hW1.drew
  have bH := C.h1.keep hWV
  have bL := C.h2.keep hWV
  have bB := C.h3.keep hWV
  have bW := C.hw.keep hWV
  have bY : Blk V Y.heap.size 123 #[.func (.yield l) #[] #[]] := hV ▸ bY1.drew
  have hbV : Below Y.heap.size Y V := hV ▸ hb1.drew
  have HZV : Hid (V.heap.size = Y.heap.size + 1) := by show _ = _; rw [← hV]; exact hz1
  refine Vals9.region (fun σ X => Rst V ((P - F : Nat) : Int) (σ 8) (σ 9) X) [some 11, some 12, some 13, some 14, some 15, some 16, some 17, some 18, some 5, none] [.is ?_, .is ?_, .is ?_, .is ?_, .is ?_, .is ?_, .is ?_, .is ?_, .any, .any] (by kernel_rfl) (by kernel_rfl) (by kernel_rfl) (by kernel_rfl) (by kernel_rfl) (by kernel_rfl) (.inl ⟨rfl, rfl, hV⟩) ?hsteps ?hfin
  case hsteps =>
    refine Vals9.Steps.run rfl ?_ ?_
    · intro a W σ hJ pre K hK
      have e1 := pre.2.2 1 _ (by kernel_rfl) rfl
      clear pre
      simp only [Array.getD_eq_getD_getElem?, List.getElem?_toArray, List.getElem?_cons_zero, List.getElem?_cons_succ, Option.getD_some] at e1
      have hS9 := hJ
      have hb9 := Rst.below hS9
      have c1 := (bH.keep hb9).cell 0
      obtain ⟨d0, d1, d2, d3, d4⟩ := (bL.keep hb9).lcells
      obtain ⟨w0, w1, w2⟩ := (bW.keep hb9).hcells
      simp only [List.getElem?_toArray, List.getElem?_cons_zero] at c1
      go_simp
      exact hK _ hJ
    refine Vals9.Steps.run rfl ?_ ?_
    · intro a W σ hJ pre K hK
      have e11 := pre.1 0 11 _ (by kernel_rfl) rfl rfl
      clear pre
      simp only [Array.getD_eq_getD_getElem?, List.getElem?_toArray, List.getElem?_cons_zero, List.getElem?_cons_succ, Option.getD_some] at e11
      go_simp
      exact hK _ hJ
    refine Vals9.Steps.run rfl ?_ ?_
    · intro a W σ hJ pre K hK
      have e12 := pre.1 1 12 _ (by kernel_rfl) rfl rfl
      clear pre
      simp only [Array.getD_eq_getD_getElem?, List.getElem?_toArray, List.getElem?_cons_zero, List.getElem?_cons_succ, Option.getD_some] at e12
      go_simp
      exact hK _ hJ
    refine Vals9.Steps.run rfl ?_ ?_
    · intro a W σ hJ pre K hK
      have e13 := pre.1 2 13 _ (by kernel_rfl) rfl rfl
      clear pre
      simp only [Array.getD_eq_getD_getElem?, List.getElem?_toArray, List.getElem?_cons_zero, List.getElem?_cons_succ, Option.getD_some] at e13
      go_simp
      exact hK _ hJ
    refine Vals9.Steps.run rfl ?_ ?_
    · intro a W σ hJ pre K hK
      have e14 := pre.1 3 14 _ (by kernel_rfl) rfl rfl
      clear pre
      simp only [Array.getD_eq_getD_getElem?, List.getElem?_toArray, List.getElem?_cons_zero, List.getElem?_cons_succ, Option.getD_some] at e14
      have hS9 := hJ
      have hb9 := Rst.below hS9
      have c1 := (bH.keep hb9).cell 0
      obtain ⟨d0, d1, d2, d3, d4⟩ := (bL.keep hb9).lcells
      obtain ⟨w0, w1, w2⟩ := (bW.keep hb9).hcells
      simp only [List.getElem?_toArray, List.getElem?_cons_zero] at c1
      go_simp
      exact hK _ hJ
    refine Vals9.Steps.run rfl ?_ ?_
    · intro a W σ hJ pre K hK
      have e2 := pre.2.2 2 _ (by kernel_rfl) rfl
      clear pre
      simp only [Array.getD_eq_getD_getElem?, List.getElem?_toArray, List.getElem?_cons_zero, List.getElem?_cons_succ, Option.getD_some] at e2
      go_simp
      exact hK _ hJ
    refine Vals9.Steps.run rfl ?_ ?_
    · intro a W σ hJ pre K hK
      have e16 := pre.1 5 16 _ (by kernel_rfl) rfl rfl
      clear pre
      simp only [Array.getD_eq_getD_getElem?, List.getElem?_toArray, List.getElem?_cons_zero, List.getElem?_cons_succ, Option.getD_some] at e16
      have hS9 := hJ
      have hb9 := Rst.below hS9
      have c1 := (bH.keep hb9).cell 0
      obtain ⟨d0, d1, d2, d3, d4⟩ := (bL.keep hb9).lcells
      obtain ⟨w0, w1, w2⟩ := (bW.keep hb9).hcells
      simp only [List.getElem?_toArray, List.getElem?_cons_zero] at c1
      go_simp
      exact hK _ hJ
    refine Vals9.Steps.run rfl ?_ ?_
    · intro a W σ hJ pre K hK
      have e15 := pre.1 4 15 _ (by kernel_rfl) rfl rfl
      have e17 := pre.1 6 17 _ (by kernel_rfl) rfl rfl
      clear pre
      simp only [Array.getD_eq_getD_getElem?, List.getElem?_toArray, List.getElem?_cons_zero, List.getElem?_cons_succ, Option.getD_some] at e15 e17
      go_simp
      exact hK _ hJ
    refine Vals9.Steps.mark rfl ?_ ?_
    · intro a W σ hJ hn pre K hK
      have hJ2 : Rst V ((P - F : Nat) : Int) (σ 8) (σ 9) W := hJ
      rw [hn] at hJ2
      rcases hJ2 with ⟨_, q2, rfl⟩ | ⟨q, _⟩ | ⟨q, _⟩
      · go_simp
        have h2 : Rst W ((P - F : Nat) : Int) (some (hpP W.heap.size)) (σ 9) (W.alloc (.cells #[.int .i64 0] 3)) := .inr (.inl ⟨rfl, q2, rfl⟩)
        exact hK _ _ h2
      · cases q
      · cases q
    refine Vals9.Steps.mark rfl ?_ ?_
    · intro a W σ hJ hn pre K hK
      obtain ⟨v5, s5, e5⟩ := pre.2.1 8 (by kernel_rfl) rfl
      replace e5 : a.tmps.getD 5 undef = v5 := e5 5 rfl
      have e18 := pre.1 7 18 _ (by kernel_rfl) rfl rfl
      simp only [Array.getD_eq_getD_getElem?, List.getElem?_toArray, List.getElem?_cons_zero, List.getElem?_cons_succ, Option.getD_some] at e5 e18
      have hJ2 : Rst V ((P - F : Nat) : Int) (σ 8) (σ 9) W := hJ
      rw [hn, s5] at hJ2
      rcases hJ2 with ⟨q, _⟩ | ⟨q, _, rfl⟩ | ⟨_, q, _⟩
      · cases q
      · cases q
        have c9 := (Blk.new V 3 #[.int .i64 0]).cell 0
        have f9 := (Blk.new V 3 #[.int .i64 0]).frozen 0
        simp only [List.getElem?_toArray, List.getElem?_cons_zero] at c9
        go_simp
        have h2 : ∀ u, Rst V ((P - F : Nat) : Int) (σ 8) (some u) (V.alloc (.cells #[.int .i64 ((P - F : Nat) : Int)] 3)) := fun u => .inr (.inr ⟨s5, by simp, rfl⟩)
        exact hK undef _ (h2 undef)
      · exact absurd rfl q
    exact Vals9.Steps.nil
  case hfin =>
  rintro X σ hR
  simp only [Vals9.All]
  intro v hv u hu
  obtain ⟨rfl, rfl⟩ : v = hpP V.heap.size ∧ X = V.alloc (.cells #[.int .i64 ((P - F : Nat) : Int)] 3) := by
    rcases hR with ⟨q, _⟩ | ⟨_, q, _⟩ | ⟨q, _, q2⟩
    · rw [hv] at q; cases q
    · rw [hu] at q; cases q
    · rw [hv] at q; exact ⟨Option.some.inj q, q2⟩
  clear hR hv hu
  have hzV := HZV.out
  simp only [Vals.putAll, List.setIfInBounds_toArray, List.set_cons_zero, List.set_cons_succ]
  obtain ⟨V2, hV2⟩ : ∃ V2, (V.alloc (.cells #[.int .i64 ((P - F : Nat) : Int)] 3)).drew = V2 := ⟨_, rfl⟩
  have hb2 : Below V.heap.size V V2 := hV2 ▸ ((Below.refl _ _).alloc (Nat.le_refl _) _).drew
  have bR2 : Blk V2 V.heap.size 3 #[.int .i64 ((P - F : Nat) : Int)] := hV2 ▸ (Blk.new V _ _).drew
  have hz2 : V2.heap.size = Y.heap.size + 2 := by rw [← hV2]; show (V.alloc _).heap.size = _; simp [hzV]
  rw [hzV] at bR2 ⊢
  have bY2 := bY.keep hb2
  have bH2 := bH.keep hb2
  have bL2 := bL.keep hb2
  have bB2 := bB.keep hb2
  have bW2 := bW.keep hb2
  have hbY2 : Below Y.heap.size Y V2 := hbV.trans (hb2.mono hbV.size)
  have c1 := bH2.cell 0
  have c2 := bB2.cell 0
  obtain ⟨d0, d1, d2, d3, d4⟩ := bL2.lcells
  obtain ⟨y0, y1, y2⟩ := bW2.hcells
  simp only [List.getElem?_toArray, List.getElem?_cons_zero] at c1 c2
  clear hV bH bL bB bW bY hbV hWV hb1 hz1 bY1 hW1
  go_wp2_with fail
  refine Vals6.regionAll (fun X => Hid (X = V2)) [some 19, some 20, some 21, some 22, some 23, some 24, some 25, some 26, some 27] [.is ?_, .is ?_, .is ?_, .is ?_, .is ?_, .is ?_, .is ?_, .is ?_, .is ?_] (by kernel_rfl) rfl rfl (by kernel_rfl) (by kernel_rfl) (by kernel_rfl) (by kernel_rfl) (by kernel_rfl) (by kernel_rfl) rfl (Lib.hid hV2) ?hsteps ?hend
  case hsteps =>
    refine Vals5.Steps.run rfl (Vals5.Stable.is _) ?_ ?_
    · intro a W hS pre old K hK
      have e1 := old 1 _ (by kernel_rfl) rfl
      clear pre old
      simp only [Vals5.fits, Array.getD_eq_getD_getElem?, List.getElem?_toArray, List.getElem?_cons_zero, List.getElem?_cons_succ, Option.getD_some] at e1
      have hS9 := hS
      obtain rfl := hS9.out
      go_simp
      refine hK _ _ hS (Below.refl _ _) ?_
      exact fits_is _ Y
    refine Vals5.Steps.run rfl (Vals5.Stable.is _) ?_ ?_
    · intro a W hS pre old K hK
      have e1 := old 1 _ (by kernel_rfl) rfl
      clear pre old
      simp only [Vals5.fits, Array.getD_eq_getD_getElem?, List.getElem?_toArray, List.getElem?_cons_zero, List.getElem?_cons_succ, Option.getD_some] at e1
      have hS9 := hS
      obtain rfl := hS9.out
      go_simp
      refine hK _ _ hS (Below.refl _ _) ?_
      exact fits_is _ Y
    refine Vals5.Steps.run rfl (Vals5.Stable.is _) ?_ ?_
    · intro a W hS pre old K hK
      have e20 := pre 1 20 _ (by kernel_rfl) rfl rfl
      clear pre old
      simp only [Vals5.fits, Array.getD_eq_getD_getElem?, List.getElem?_toArray, List.getElem?_cons_zero, List.getElem?_cons_succ, Option.getD_some] at e20
      go_simp
      refine hK _ _ hS (Below.refl _ _) ?_
      exact fits_is _ Y
    refine Vals5.Steps.run rfl (Vals5.Stable.is _) ?_ ?_
    · intro a W hS pre old K hK
      have e21 := pre 2 21 _ (by kernel_rfl) rfl rfl
      clear pre old
      simp only [Vals5.fits, Array.getD_eq_getD_getElem?, List.getElem?_toArray, List.getElem?_cons_zero, List.getElem?_cons_succ, Option.getD_some] at e21
      go_simp
      refine hK _ _ hS (Below.refl _ _) ?_
      exact fits_is _ Y
    refine Vals5.Steps.run rfl (Vals5.Stable.is _) ?_ ?_
    · intro a W hS pre old K hK
      have e22 := pre 3 22 _ (by kernel_rfl) rfl rfl
      clear pre old
      simp only [Vals5.fits, Array.getD_eq_getD_getElem?, List.getElem?_toArray, List.getElem?_cons_zero, List.getElem?_cons_succ, Option.getD_some] at e22
      go_simp
      refine hK _ _ hS (Below.refl _ _) ?_
      exact fits_is _ Y
    refine Vals5.Steps.run rfl (Vals5.Stable.is _) ?_ ?_
    · intro a W hS pre old K hK
      have e23 := pre 4 23 _ (by kernel_rfl) rfl rfl
      clear pre old
      simp only [Vals5.fits, Array.getD_eq_getD_getElem?, List.getElem?_toArray, List.getElem?_cons_zero, List.getElem?_cons_succ, Option.getD_some] at e23
      have hS9 := hS
      obtain rfl := hS9.out
      go_simp
      refine hK _ _ hS (Below.refl _ _) ?_
      exact fits_is _ Y
    refine Vals5.Steps.run rfl (Vals5.Stable.is _) ?_ ?_
    · intro a W hS pre old K hK
      have e3 := old 3 _ (by kernel_rfl) rfl
      clear pre old
      simp only [Vals5.fits, Array.getD_eq_getD_getElem?, List.getElem?_toArray, List.getElem?_cons_zero, List.getElem?_cons_succ, Option.getD_some] at e3
      have hS9 := hS
      obtain rfl := hS9.out
      go_simp
      refine hK _ _ hS (Below.refl _ _) ?_
      exact fits_is _ Y
    refine Vals5.Steps.run rfl (Vals5.Stable.is _) ?_ ?_
    · intro a W hS pre old K hK
      have e2 := old 2 _ (by kernel_rfl) rfl
      clear pre old
      simp only [Vals5.fits, Array.getD_eq_getD_getElem?, List.getElem?_toArray, List.getElem?_cons_zero, List.getElem?_cons_succ, Option.getD_some] at e2
      go_simp
      refine hK _ _ hS (Below.refl _ _) ?_
      exact fits_is _ Y
    refine Vals5.Steps.run rfl (Vals5.Stable.is _) ?_ ?_
    · intro a W hS pre old K hK
      have e26 := pre 7 26 _ (by kernel_rfl) rfl rfl
      clear pre old
      simp only [Vals5.fits, Array.getD_eq_getD_getElem?, List.getElem?_toArray, List.getElem?_cons_zero, List.getElem?_cons_succ, Option.getD_some] at e26
      have hS9 := hS
      obtain rfl := hS9.out
      go_simp
      refine hK _ _ hS (Below.refl _ _) ?_
      exact fits_is _ Y
    exact Vals5.Steps.nil
  case hend =>
  rintro X hXV
  obtain rfl : X = V2 := hXV.out
  simp only [Vals5.All]
  simp only [List.getLast_cons_cons, List.getLast_singleton]
  simp only [Vals.putAll, List.setIfInBounds_toArray, List.set_cons_zero, List.set_cons_succ]
  intro K hK
  go_simp
  refine (shows_c g (P : Int) (d : Int) (F : Int) X).mono ?_
  rintro e X2 ⟨rfl, hX2⟩
  refine hK _ _ ?_
  clear hK K
  obtain ⟨hz0, hb0⟩ := shows_w0 hX2
  have C2 := Cs.mk4 (a := a) (b := b) hX2 bW2 (by omega) C.nw hdP hfP hpL
  clear hX2 c1 c2 d0 d1 d2 d3 d4 y0 y1 y2 hV2 hb2
  rw [hz2] at C2 ⊢
  go_wp2_with fail
  have hWX : Below w₀.heap.size w₀ X := hW.trans (hbY2.mono hW.size)
  have hWX2 : Below w₀.heap.size w₀ X2 := hWX.trans (hb0.mono hWX.size)
  have hYX2 : Below Y.heap.size Y X2 := hbY2.trans (hb0.mono hbY2.size)
  have hYz := hYX2.size
  refine (wpIn_wide (n := nn)).1 ?_
  refine rangeFunc_d (w := X2) rfl (by omega) (gf := 85) (lb := #[hpP (Y.heap.size + 2 + 1), hpP (Y.heap.size + 2 + 1 + 1), hpP (Y.heap.size + 2 + 1 + 1 + 1), hpP (Y.heap.size + 2)]) rfl trivial (enters_of Try.func85 (by kernel_rfl) rfl)
    (shows_seq (c := c) (ee := X2.heap.size + 2) _ (by omega) C2) Kp.trans (fun W o o' hg hc _ => Kp.put W _ o o' (by omega) (by omega) hg hc) (Below.refl _ _) (fun _ => rfl)
    (fun pre W => (((J (rowsOf P F pa S to d pre) W ∧ (∀ x ∈ pre, x.1 < fa)) ∧ Blk W Y.heap.size 123 #[.func (.yield l) #[] #[]]) ∧ Blk W (Y.heap.size + 1) 3 #[.int .i64 ((P - F : Nat) : Int)]) ∧ Kp a b c (X2.heap.size + 2) X2 W)
    (fun q pre W => q = .ret ∧ J (passL P F pa fa S to d) W)
    ((((AllFrom.and (I := fun pre W => J (rowsOf P F pa S to d pre) W) (fun s W W' row hs hg hr => hJ (rowsOf P F pa S to d s) W W' row hs hg (fun r e => Nat.le_trans hYz (hr r e))) (AllFrom.pure _ (fun pre : List (Nat × Nat) => ∀ x ∈ pre, x.1 < fa))).and (AllFrom.blk (g := Y.heap.size) (by omega) _ _)).and (AllFrom.blk (g := Y.heap.size + 1) (by omega) _ _)).and (AllFrom.kp (Nat.le_refl _)))
    (fun q s W W' row hs hg hr => ⟨hs.1, hJ _ W W' row hs.2 hg (fun r e => Nat.le_trans hYz (hr r e))⟩)
    ⟨⟨⟨⟨hJ.keep h0 hYX2, fun x hx => absurd hx (by simp)⟩, bY2.keep hb0⟩, bR2.keep hb0⟩, .refl _ _ _ _ _⟩
    (fun x a' W => ∃ b6, X2.heap.size ≤ b6 ∧ Blk W b6 3 #[.int .i64 (x.1 : Nat)] ∧ Blk W (b6 + 1) 3 #[.int .i64 (x.2 : Nat)] ∧ a' = { tmps := #[.func (.yield l) #[] #[], hpP g1, hpP g2, hpP g3, hpP Y.heap.size, hpP (Y.heap.size + 1), hpP b6, hpP (b6 + 1), undef, undef, undef, hpP g, hpP g, hpP g, hpP g, .int .i64 P, hpP g2, .int .i64 F, .int .i64 ((P - F : Nat) : Int), hpP g, hpP g, hpP g, hpP g, hpP g, .int .i64 P, .int .i64 d, hpP g2, .int .i64 F, .func (.func 85) #[] #[hpP (Y.heap.size + 2 + 1), hpP (Y.heap.size + 2 + 1 + 1), hpP (Y.heap.size + 2 + 1 + 1 + 1), hpP (Y.heap.size + 2)], .int .i64 (x.1 : Nat), .int .i64 (x.2 : Nat), undef, undef, undef, undef, undef, undef, undef, undef, undef, undef, undef, undef, undef, undef, undef, undef, undef, undef, undef, undef, undef, undef, undef, undef, undef, undef, undef, undef, undef, undef, undef, undef, undef, undef, undef, undef, undef, undef, undef, undef, undef, undef, undef, undef, undef, undef, undef, undef, undef, undef, undef, undef, undef], defers := [] })
    (fun x a' _ A B row hs hg hr => by
      obtain ⟨b6, q1, q2, q3, q4⟩ := hs
      exact ⟨b6, q1, q2.own hg (fun r e => (hr r e).2), q3.own hg (fun r e => (hr r e).2), q4⟩)
    ?assign ?body ?done ?stop
  case assign =>
    rintro l2 pre x W K ⟨⟨⟨⟨i1, i2⟩, i3⟩, i4⟩, i5⟩ hK
    have hzz := i5.size
    gi_wp2
    have hb : Below W.heap.size W ((W.alloc (.cells #[.int .i64 (x.1 : Nat)] 3)).alloc (.cells #[.int .i64 (x.2 : Nat)] 3)) := ((Below.refl _ W).alloc (Nat.le_refl _) _).alloc (by simp) _
    exact hK _ _ (keepsFrom_of_below hb) (.of hb) ⟨⟨⟨⟨hJ.keep i1 hb, i2⟩, i3.keep hb⟩, i4.keep hb⟩, i5.then hb⟩ ⟨W.heap.size, hzz, (Blk.new W _ _).alloc _, Blk.new1 W _ _ _, rfl⟩
  case stop =>
    rintro D q pre W hD - ⟨rfl, hq⟩ hK
    gi_wp2
    refine ⟨by simp, .inl ⟨_, _, rfl, run_takeDeferred hK, ?_⟩⟩
    exact ⟨_, results_none rfl _ _ _, ⟨_, rfl⟩, _, rfl, hJ.putObj _ hq (by omega)⟩
  case done =>
    rintro D ys W hD rfl ⟨⟨⟨⟨i1, i2⟩, i3⟩, i4⟩, i5⟩ hK
    have i1' : J (passL P F pa fa S to d) W := by rw [pass_all i2]; exact i1
    go_wp2_with fail
    refine ⟨by simp, .inl ⟨_, _, rfl, run_takeDeferred hK, ?_⟩⟩
    exact ⟨_, results_none rfl _ _ _, ⟨_, rfl⟩, _, rfl, hJ.putObj _ i1' (by omega)⟩
  case body =>
    rintro l2 pre x a' W hl ⟨r, hr⟩ ⟨⟨⟨⟨i1, i2⟩, i3⟩, i4⟩, i5⟩ ⟨b6, q1, q2, q3, rfl⟩ ⟨rest, hrest⟩
    have hxm := showsL_mem (x := x) (P := P) (b := d) (n := F) (by rw [hrest]; simp)
    obtain ⟨i, s⟩ := x
    dsimp only at hxm q2 q3 ⊢
    obtain ⟨hm1, hm2, rfl⟩ := hxm
    have hid : i ≤ d := by unfold hiS at hm2; omega
    have hiF : i ≤ F := by unfold hiS at hm2; omega
    have hlo : d - i ≤ P - F := by unfold loS at hm1; omega
    have hzW := i5.size
    have bH := (C.h1.keep hWX2).kp i5 C.n1
    have bL := (C.h2.keep hWX2).kp i5 C.n2
    have bB := (C.h3.keep hWX2).kp i5 C.n3
    have bW := (C.hw.keep hWX2).kp i5 C.nw
    obtain ⟨W1, hW1⟩ : ∃ W1, W.alloc (.cells #[.int .i64 ((d - i : Nat) : Int)] 3) = W1 := ⟨_, rfl⟩
    have hb1 : Below W.heap.size W W1 := by rw [← hW1]; exact (Below.refl _ _).alloc (Nat.le_refl _) _
    have b8 : Blk W1 W.heap.size 3 #[.int .i64 ((d - i : Nat) : Int)] := by rw [← hW1]; exact Blk.new _ _ _
    have c3 := bB.cell 0
    have c6 := q2.cell 0
    have c6' := (q2.keep hb1).cell 0
    obtain ⟨d0, d1, d2, d3, d4⟩ := (bL.keep hb1).lcells
    simp only [List.getElem?_toArray, List.getElem?_cons_zero] at c3 c6 c6'
    have w1 : IntKind.i64.wrap ((d : Int) - (i : Int)) = ((d - i : Nat) : Int) := by rw [wrapI (by unfold I64; omega)]; omega
    by_cases hf : i < fa
    · have t1 : ¬ (fa : Int) ≤ (i : Int) := by omega
      have t1' : ¬ fa ≤ i := by omega
      by_cases hp : i ≤ pa
      · have t2 : (i : Int) ≤ (pa : Int) := by omega
        obtain ⟨V8, hV8⟩ : ∃ V8, W1.drew = V8 := ⟨_, rfl⟩
        have hb8 : Below W.heap.size W V8 := hV8 ▸ hb1.drew
        have hbX8 : Below W1.heap.size W1 V8 := hV8 ▸ (Below.refl _ _).drew
        obtain ⟨pr, hpr⟩ := pass_part (pa := pa) (S := S) (to := to) hrest i2 hf
        rw [row_pass hp] at hpr
        have hyy := hY (rowsOf P F pa S to d pre) (d - i, sh P d F i * bn (P - F) S) V8 (hJ.keep i1 hb8) ⟨pr, hpr⟩
        obtain ⟨fn, tmps, assign, body, hy, hR⟩ := hyy
        dsimp only [encS] at hy
        have HR := Lib.hid hR
        have HJ9 : Hid (rowsOf P F pa S to d (pre ++ [(i, sh P d F i)]) = rowsOf P F pa S to d pre ++ [(d - i, sh P d F i * bn (P - F) S)]) := by show _ = _; rw [rowsOf_snoc, row_pass hp]
        have l1 := sh_le (P := P) (b := d) (n := F) (i := i) hdP hiF
        have l2' := bn_bd' (n := P) (by omega) F
        have l3 := bn_bd' (n := P - F) (by omega) S
        have l4 := Nat.mul_le_mul (Nat.le_trans l1 l2') l3
        have em : ((sh P d F i : Nat) : Int) * ((bn (P - F) S : Nat) : Int) = ((sh P d F i * bn (P - F) S : Nat) : Int) := by push_cast; rfl
        have e9 : IntKind.i64.wrap (((sh P d F i : Nat) : Int) * ((bn (P - F) S : Nat) : Int)) = ((sh P d F i * bn (P - F) S : Nat) : Int) := by rw [em]; exact wrapI (by unfold I64; omega)
        have k1 := ((bH.keep hb8).cell 0)
        have k2 := ((i3.keep hb8).cell 0)
        have k3 := ((i4.keep hb8).cell 0)
        have k4 := ((b8.keep hbX8).cell 0)
        have k5 := ((q3.keep hb8).cell 0)
        obtain ⟨k6, k7, k8, k9, k10⟩ := (bL.keep hb8).lcells
        have k11 := (bW.keep hb8).way (n := P - F) (k := S) (by omega) (by omega)
        simp only [List.getElem?_toArray, List.getElem?_cons_zero] at k1 k2 k3 k4 k5
        have t5 : ((P - F : Nat) : Int) < 21 := by omega
        have t6 : (S : Int) < 21 := by omega
        have t7 : P - F < 21 := by omega
        have t8 : S < 21 := by omega
        obtain ⟨sv, hsv⟩ : ∃ sv, sh P d F i = sv := ⟨_, rfl⟩
        rw [hsv] at e9 hy HR HJ9 k5 ⊢
        obtain ⟨mv, hmv⟩ : ∃ mv, sv * bn (P - F) S = mv := ⟨_, rfl⟩
        rw [hmv] at e9 hy HR HJ9
        clear hmv hsv
        clear l1 l2' l3 l4 em hR hpr
        gi_wp2
        refine Vals6T.regionAll 13 (fun X => Hid (X = V8)) [some 44, some 45, some 46, some 47, some 48, some 49, some 50, some 51, some 52, some 53, some 54, some 55, some 56] [.is ?_, .is ?_, .is ?_, .is ?_, .is ?_, .is ?_, .is ?_, .is ?_, .is ?_, .is ?_, .is ?_, .is ?_, .is ?_] (.inr ⟨l2, rfl⟩) (by kernel_rfl) (by kernel_rfl) (by kernel_rfl) rfl (by kernel_rfl) (by kernel_rfl) (by kernel_rfl) (by kernel_rfl) (by kernel_rfl) (by kernel_rfl) rfl (Lib.hid hV8) ?hsteps ?hend
        case hsteps =>
          refine Vals5.Steps.run rfl (Vals5.Stable.is _) ?_ ?_
          · intro a W hS pre old K hK
            have e4 := old 4 _ (by kernel_rfl) rfl
            clear pre old
            simp only [Vals5.fits, Array.getD_eq_getD_getElem?, List.getElem?_toArray, List.getElem?_cons_zero, List.getElem?_cons_succ, Option.getD_some] at e4
            have hS9 := hS
            obtain rfl := hS9.out
            go_simp
            refine hK _ _ hS (Below.refl _ _) ?_
            exact fits_is _ Y
          refine Vals5.Steps.run rfl (Vals5.Stable.is _) ?_ ?_
          · intro a W hS pre old K hK
            have e8 := old 8 _ (by kernel_rfl) rfl
            clear pre old
            simp only [Vals5.fits, Array.getD_eq_getD_getElem?, List.getElem?_toArray, List.getElem?_cons_zero, List.getElem?_cons_succ, Option.getD_some] at e8
            have hS9 := hS
            obtain rfl := hS9.out
            go_simp
            refine hK _ _ hS (Below.refl _ _) ?_
            exact fits_is _ Y
          refine Vals5.Steps.run rfl (Vals5.Stable.is _) ?_ ?_
          · intro a W hS pre old K hK
            have e7 := old 7 _ (by kernel_rfl) rfl
            clear pre old
            simp only [Vals5.fits, Array.getD_eq_getD_getElem?, List.getElem?_toArray, List.getElem?_cons_zero, List.getElem?_cons_succ, Option.getD_some] at e7
            have hS9 := hS
            obtain rfl := hS9.out
            go_simp
            refine hK _ _ hS (Below.refl _ _) ?_
            exact fits_is _ Y
          refine Vals5.Steps.run rfl (Vals5.Stable.is _) ?_ ?_
          · intro a W hS pre old K hK
            have e1 := old 1 _ (by kernel_rfl) rfl
            clear pre old
            simp only [Vals5.fits, Array.getD_eq_getD_getElem?, List.getElem?_toArray, List.getElem?_cons_zero, List.getElem?_cons_succ, Option.getD_some] at e1
            have hS9 := hS
            obtain rfl := hS9.out
            go_simp
            refine hK _ _ hS (Below.refl _ _) ?_
            exact fits_is _ Y
          refine Vals5.Steps.run rfl (Vals5.Stable.is _) ?_ ?_
          · intro a W hS pre old K hK
            have e5 := old 5 _ (by kernel_rfl) rfl
            clear pre old
            simp only [Vals5.fits, Array.getD_eq_getD_getElem?, List.getElem?_toArray, List.getElem?_cons_zero, List.getElem?_cons_succ, Option.getD_some] at e5
            have hS9 := hS
            obtain rfl := hS9.out
            go_simp
            refine hK _ _ hS (Below.refl _ _) ?_
            exact fits_is _ Y
          refine Vals5.Steps.run rfl (Vals5.Stable.is _) ?_ ?_
          · intro a W hS pre old K hK
            have e2 := old 2 _ (by kernel_rfl) rfl
            clear pre old
            simp only [Vals5.fits, Array.getD_eq_getD_getElem?, List.getElem?_toArray, List.getElem?_cons_zero, List.getElem?_cons_succ, Option.getD_some] at e2
            go_simp
            refine hK _ _ hS (Below.refl _ _) ?_
            exact fits_is _ Y
          refine Vals5.Steps.run rfl (Vals5.Stable.is _) ?_ ?_
          · intro a W hS pre old K hK
            have e49 := pre 5 49 _ (by kernel_rfl) rfl rfl
            clear pre old
            simp only [Vals5.fits, Array.getD_eq_getD_getElem?, List.getElem?_toArray, List.getElem?_cons_zero, List.getElem?_cons_succ, Option.getD_some] at e49
            have hS9 := hS
            obtain rfl := hS9.out
            go_simp
            refine hK _ _ hS (Below.refl _ _) ?_
            exact fits_is _ Y
          refine Vals5.Steps.run rfl (Vals5.Stable.is _) ?_ ?_
          · intro a W hS pre old K hK
            have e47 := pre 3 47 _ (by kernel_rfl) rfl rfl
            clear pre old
            simp only [Vals5.fits, Array.getD_eq_getD_getElem?, List.getElem?_toArray, List.getElem?_cons_zero, List.getElem?_cons_succ, Option.getD_some] at e47
            go_simp
            refine hK _ _ hS (Below.refl _ _) ?_
            exact fits_is _ Y
          refine Vals5.Steps.run rfl (Vals5.Stable.is _) ?_ ?_
          · intro a W hS pre old K hK
            have e51 := pre 7 51 _ (by kernel_rfl) rfl rfl
            clear pre old
            simp only [Vals5.fits, Array.getD_eq_getD_getElem?, List.getElem?_toArray, List.getElem?_cons_zero, List.getElem?_cons_succ, Option.getD_some] at e51
            go_simp
            refine hK _ _ hS (Below.refl _ _) ?_
            exact fits_is _ Y
          refine Vals5.Steps.run rfl (Vals5.Stable.is _) ?_ ?_
          · intro a W hS pre old K hK
            have e48 := pre 4 48 _ (by kernel_rfl) rfl rfl
            have e52 := pre 8 52 _ (by kernel_rfl) rfl rfl
            clear pre old
            simp only [Vals5.fits, Array.getD_eq_getD_getElem?, List.getElem?_toArray, List.getElem?_cons_zero, List.getElem?_cons_succ, Option.getD_some] at e48 e52
            go_simp
            refine hK _ _ hS (Below.refl _ _) ?_
            exact fits_is _ Y
          refine Vals5.Steps.run rfl (Vals5.Stable.is _) ?_ ?_
          · intro a W hS pre old K hK
            have e50 := pre 6 50 _ (by kernel_rfl) rfl rfl
            have e53 := pre 9 53 _ (by kernel_rfl) rfl rfl
            clear pre old
            simp only [Vals5.fits, Array.getD_eq_getD_getElem?, List.getElem?_toArray, List.getElem?_cons_zero, List.getElem?_cons_succ, Option.getD_some] at e50 e53
            go_simp
            refine hK _ _ hS (Below.refl _ _) ?_
            exact fits_is _ Y
          refine Vals5.Steps.run rfl (Vals5.Stable.is _) ?_ ?_
          · intro a W hS pre old K hK
            have e54 := pre 10 54 _ (by kernel_rfl) rfl rfl
            clear pre old
            simp only [Vals5.fits, Array.getD_eq_getD_getElem?, List.getElem?_toArray, List.getElem?_cons_zero, List.getElem?_cons_succ, Option.getD_some] at e54
            have hS9 := hS
            obtain rfl := hS9.out
            go_simp
            refine hK _ _ hS (Below.refl _ _) ?_
            exact fits_is _ Y
          refine Vals5.Steps.run rfl (Vals5.Stable.is _) ?_ ?_
          · intro a W hS pre old K hK
            have e46 := pre 2 46 _ (by kernel_rfl) rfl rfl
            have e55 := pre 11 55 _ (by kernel_rfl) rfl rfl
            clear pre old
            simp only [Vals5.fits, Array.getD_eq_getD_getElem?, List.getElem?_toArray, List.getElem?_cons_zero, List.getElem?_cons_succ, Option.getD_some] at e46 e55
            go_simp
            refine hK _ _ hS (Below.refl _ _) ?_
            exact fits_is _ Y
          exact Vals5.Steps.nil
        case hend =>
        rintro X8 hX8
        obtain rfl : X8 = V8 := hX8.out
        simp only [Vals5.All]
        simp only [Vals.putAll, List.setIfInBounds_toArray, List.set_cons_zero, List.set_cons_succ]
        show wpListIn _ _ _ _ _ [_, _] _ _
        gi_wp2
        refine ⟨fun e => (by cases e), (roundIn_any (.inr ⟨l2, rfl⟩) HR.out).mono ?_⟩
        have hbW8 := hb8.size
        rintro e W9 ⟨rfl, hJ9, hk9⟩
        · have hkW : Kp a b c (X2.heap.size + 2) W W9 := (Kp.of hb8).trans (hk9.mono (by omega))
          have hkf : KeepsFrom X2.heap.size W W9 := (keepsFrom_of_below hb8).trans (keepsFrom_mono (hk9.from (by omega)) (by omega))
          gi_wp2
          exact ⟨hkf, hkW, ⟨⟨⟨by rw [HJ9.out]; exact hJ9, fun y hy => by rcases List.mem_append.1 hy with h | h; exact i2 y h; rw [List.mem_singleton.1 h]; exact hf⟩, i3.kp hkW (by omega)⟩, i4.kp hkW (by omega)⟩, i5.trans hkW⟩
      · have t2 : ¬ (i : Int) ≤ (pa : Int) := by omega
        have c1 := (bH.keep hb1).cell 0
        have c4 := (i4.keep hb1).cell 0
        have c8 := b8.cell 0
        simp only [List.getElem?_toArray, List.getElem?_cons_zero] at c1 c4 c8
        gi_wp2
        refine ⟨trivial, fun e => (by cases e), (Wd.calls (.inr ⟨l2, rfl⟩) (shows_c g ((P - F : Nat) : Int) ((d - i : Nat) : Int) (S : Int) W1)).mono ?_⟩
        rintro e W2 ⟨rfl, hW2⟩
        obtain ⟨hz2', hb2'⟩ := shows_w0 hW2
        have hzb1 := hb1.size
        have C3 := Cs.mk4 (a := a) (b := b) hW2 (bW.keep hb1) (by omega) C.nw hlo hsP (by omega)
        have hbW2 : Below W.heap.size W W2 := hb1.trans (hb2'.mono hzb1)
        clear hW2 c1 c3 c4 c6 c6' c8 d0 d1 d2 d3 d4
        obtain ⟨pr, hpr⟩ := pass_part (pa := pa) (S := S) (to := to) hrest i2 hf
        rw [row_more hp] at hpr
        have hr2 : W2.heap[l2]? = some (.loop r) := (hbW2.block l2 (Array.getElem?_eq_some_iff.1 hr).1).trans hr
        have hXW2 : Kp a b c (X2.heap.size + 2) X2 W2 := i5.then hbW2
        have jH := bH.keep hbW2
        have jL := bL.keep hbW2
        have j6 := q2.keep hbW2
        have j7 := q3.keep hbW2
        have jY := i3.keep hbW2
        have j8 := b8.keep hb2'
        have hJ2 := hJ.keep i1 hbW2
        have hzW2 := hbW2.size
        have hJW2 : AllFrom W2.heap.size J := hJ.more (by omega)
        have HJ9 : Hid (rowsOf P F pa S to d (pre ++ [(i, sh P d F i)]) = rowsOf P F pa S to d pre ++ mf P F to d i (showsL (P - F) (d - i) S)) := by show _ = _; rw [rowsOf_snoc, row_more hp]
        have l1 := sh_le (P := P) (b := d) (n := F) (i := i) hdP hiF
        have l2' := bn_bd' (n := P) (by omega) F
        obtain ⟨sv, hsv⟩ : ∃ sv, sh P d F i = sv := ⟨_, rfl⟩
        rw [hsv] at j7 l1 ⊢
        have HSV := Lib.hid hsv
        clear hsv
        gi_wp2
        refine rangeFunc_cN (w := W2) (l₀ := l2) rfl hr2 (by omega) (gf := 85) (lb := #[hpP (W1.heap.size + 1), hpP (W1.heap.size + 1 + 1), hpP (W1.heap.size + 1 + 1 + 1), hpP W1.heap.size]) rfl trivial (enters_of Try.func85 (by kernel_rfl) rfl)
          (shows_seqR (c := c) (ee := W2.heap.size + 1) _ (by omega) C3 l2) Kp.trans (fun Z o o' hg hc _ => Kp.put Z _ o o' (by omega) (by omega) hg hc) (Below.refl _ _) (fun _ => rfl)
          (fun p2 Z => (J (rowsOf P F pa S to d pre ++ mf P F to d i p2) Z ∧ Kp a b c (X2.heap.size + 2) W2 Z) ∧ KeepsFrom X2.heap.size W2 Z)
          (fun _ _ _ => False)
          ((AllFrom.and (I := fun p2 Z => J (rowsOf P F pa S to d pre ++ mf P F to d i p2) Z) (fun s A B row hs hg hr => hJW2 (rowsOf P F pa S to d pre ++ mf P F to d i s) A B row hs hg hr) (AllFrom.kp (Nat.le_refl _))).and (AllFrom.keeps (Nat.le_refl _)))
          (fun _ _ _ _ _ hs _ _ => hs)
          ⟨⟨by rw [mf_nil, List.append_nil]; exact hJ2, .refl _ _ _ _ _⟩, KeepsFrom.refl _ _⟩
          (fun y a' Z => a' = { tmps := #[.func (.yield l) #[] #[], hpP g1, hpP g2, hpP g3, hpP Y.heap.size, hpP (Y.heap.size + 1), hpP b6, hpP (b6 + 1), hpP W.heap.size, .int .i64 (y.1 : Nat), .int .i64 (y.2 : Nat), hpP g, hpP g, hpP g, hpP g, .int .i64 P, hpP g2, .int .i64 F, .int .i64 ((P - F : Nat) : Int), hpP g, hpP g, hpP g, hpP g, hpP g, .int .i64 P, .int .i64 d, hpP g2, .int .i64 F, .func (.func 85) #[] #[hpP (Y.heap.size + 2 + 1), hpP (Y.heap.size + 2 + 1 + 1), hpP (Y.heap.size + 2 + 1 + 1 + 1), hpP (Y.heap.size + 2)], .int .i64 (i : Nat), .int .i64 (sv : Nat), .int .i64 d, .int .i64 i, .int .i64 ((d - i : Nat) : Int), .bool false, .int .i64 i, .pointer (some ⟨g2, 2, none⟩), .int .i64 fa, .bool false, .bool false, .int .i64 i, .pointer (some ⟨g2, 1, none⟩), .int .i64 pa, .bool false, undef, undef, undef, undef, undef, undef, undef, undef, undef, undef, undef, undef, undef, undef, undef, hpP g, .int .i64 ((P - F : Nat) : Int), .int .i64 ((d - i : Nat) : Int), .pointer (some ⟨g2, 3, none⟩), .int .i64 S, .func (.func 85) #[] #[hpP (W1.heap.size + 1), hpP (W1.heap.size + 1 + 1), hpP (W1.heap.size + 1 + 1 + 1), hpP W1.heap.size], .int .i64 (y.1 : Nat), .int .i64 (y.2 : Nat), undef, undef, undef, undef, undef, undef, undef, undef, undef, undef, undef, undef, undef, undef, undef, undef, undef], defers := [] })
          (fun y a' _ A B row hs hg hr => hs)
          ?assign ?body ?done ?stop
        case assign =>
          rintro l3 p2 y Z K i0 hK
          gi_wp2
          exact hK _ _ (keepsFrom_of_below (Below.refl _ _)) (.refl _ _ _ _ _) i0 rfl
        case stop =>
          rintro q p2 Z hs h
          exact h.elim
        case done =>
          rintro p2 Z rfl ⟨⟨m1, m2⟩, m3⟩
          have hkW : Kp a b c (X2.heap.size + 2) W Z := (Kp.of hbW2).trans m2
          have hkf : KeepsFrom X2.heap.size W Z := (keepsFrom_of_below hbW2).trans m3
          gi_wp2
          exact ⟨hkf, hkW, ⟨⟨⟨by rw [HJ9.out]; exact m1, fun y hy => by rcases List.mem_append.1 hy with h | h; exact i2 y h; rw [List.mem_singleton.1 h]; exact hf⟩, i3.kp hkW (by omega)⟩, i4.kp hkW (by omega)⟩, i5.trans hkW⟩
        case body =>
          rintro l3 p2 y a' Z hl3 ⟨r3, hr3⟩ ⟨⟨m1, m2⟩, m3⟩ rfl ⟨rest2, hrest2⟩
          have hym := showsL_mem (x := y) (P := P - F) (b := d - i) (n := S) (by rw [hrest2]; simp)
          obtain ⟨j, t⟩ := y
          dsimp only at hym ⊢
          obtain ⟨hj1, hj2, rfl⟩ := hym
          have hjd : j ≤ d - i := by unfold hiS at hj2; omega
          have hjS : j ≤ S := by unfold hiS at hj2; omega
          have n1 := sh_le (P := P - F) (b := d - i) (n := S) (i := j) hlo hjS
          have n2 := bn_bd' (n := P - F) (by omega) S
          have c4 := (jY.kp m2 (by omega)).cell 0
          have c6 := (j6.kp m2 (by omega)).cell 0
          have c7 := (j7.kp m2 (by omega)).cell 0
          have c8 := (j8.kp m2 (by omega)).cell 0
          obtain ⟨d0, d1, d2, d3, d4⟩ := (jL.kp m2 C.n2).lcells
          simp only [List.getElem?_toArray, List.getElem?_cons_zero] at c4 c6 c7 c8
          have w5 : IntKind.i64.wrap ((i : Int) + (j : Int)) = (i : Int) + (j : Int) := wrapI (by unfold I64; omega)
          by_cases ht : i + j ≤ to
          · have t5 : (i : Int) + (j : Int) ≤ (to : Int) := by omega
            have w6 : IntKind.i64.wrap (((d - i : Nat) : Int) - (j : Int)) = ((d - i - j : Nat) : Int) := by rw [wrapI (by unfold I64; omega)]; omega
            have n3 := Nat.mul_le_mul (Nat.le_trans l1 l2') (Nat.le_trans n1 n2)
            have em : (sv : Int) * ((sh (P - F) (d - i) S j : Nat) : Int) = ((sv * sh (P - F) (d - i) S j : Nat) : Int) := by push_cast; rfl
            have w7 : IntKind.i64.wrap ((sv : Int) * ((sh (P - F) (d - i) S j : Nat) : Int)) = ((sv * sh (P - F) (d - i) S j : Nat) : Int) := by rw [em]; exact wrapI (by unfold I64; omega)
            have hmf : mf P F to d i (p2 ++ [(j, sh (P - F) (d - i) S j)]) = mf P F to d i p2 ++ [(d - i - j, sv * sh (P - F) (d - i) S j)] := by rw [mf_yes p2 (x := (j, sh (P - F) (d - i) S j)) ht, HSV.out]
            have hyy := hY (rowsOf P F pa S to d pre ++ mf P F to d i p2) (d - i - j, sv * sh (P - F) (d - i) S j) Z m1 ⟨mf P F to d i rest2 ++ pr, by
              rw [hpr, hrest2, show p2 ++ (j, sh (P - F) (d - i) S j) :: rest2 = (p2 ++ [(j, sh (P - F) (d - i) S j)]) ++ rest2 from by simp, mf_app, hmf]
              simp⟩
            rw [List.append_assoc, ← hmf] at hyy
            have HMF := Lib.hid hmf
            obtain ⟨fn, tmps, assign, body, hy, hR⟩ := hyy
            dsimp only [encS] at hy
            obtain ⟨tv, htv⟩ : ∃ tv, sh (P - F) (d - i) S j = tv := ⟨_, rfl⟩
            rw [htv] at w7 hy hR ⊢
            obtain ⟨mv, hmv⟩ : ∃ mv, sv * tv = mv := ⟨_, rfl⟩
            rw [hmv] at w7 hy
            have HR := Lib.hid hR
            have HTV := Lib.hid htv
            clear hmv htv hR n3 em n1 n2 hmf l1 l2'
            gi_wp2
            refine ⟨fun e => (by cases e), (roundIn_any (.inr ⟨l3, rfl⟩) HR.out).mono ?_⟩
            rintro e Z9 ⟨rfl, hJ9, hk9⟩
            have hk1 : Kp a b c (W2.heap.size + 1) Z Z9 := hk9.mono (by omega)
            have hk2 : Kp a b c (X2.heap.size + 2) W2 Z9 := m2.trans (hk9.mono (by omega))
            have hkf : KeepsFrom W2.heap.size Z Z9 := keepsFrom_mono (hk9.from (by omega)) (by omega)
            have hkf2 : KeepsFrom X2.heap.size W2 Z9 := m3.trans (keepsFrom_mono (hk9.from (by omega)) (by omega))
            gi_wp2
            exact ⟨hkf, hk1, ⟨hJ9, hk2⟩, hkf2⟩
          · have t5 : ¬ (i : Int) + (j : Int) ≤ (to : Int) := by omega
            gi_wp2
            refine ⟨fun _ h => (by cases h), ?_⟩
            gi_wp2
            exact ⟨KeepsFrom.refl _ _, .refl _ _ _ _ _, ⟨by rw [mf_no p2 (x := (j, sh (P - F) (d - i) S j)) ht]; exact m1, m2⟩, m3⟩
    · have t1 : (fa : Int) ≤ (i : Int) := by omega
      have t1' : fa ≤ i := by omega
      gi_wp2
      refine ⟨keepsFrom_of_below hb1, rfl, ?_⟩
      rw [pass_full hrest i2 hf]
      exact hJ.keep i1 hb1
end Td
end Go.Proofs.Ytgkdidnmndmlhaa
/- The average of what a heap that passes is worth: its chance to pass, what stays. -/
namespace Go.Proofs.Ytgkdidnmndmlhaa
open Go.RowKit
namespace Td
set_option linter.unusedSimpArgs false
set_option linter.unusedVariables false
attribute [local go_sem] Oper.semAt_some
theorem passing_seq (nn : Nat) (hnn : 4 ≤ nn) {a b : Nat} {w₀ : World} {g1 g2 g3 g : Nat} {lo hi : Int} {P F pa fa S to d : Nat} (C : Cq a b w₀ g1 g2 g3 g lo hi P F pa fa S to d) :
    SeqE Fence.wide nn Try.prog 97 #[hpP g1, hpP g2, hpP g3] encS (Kp a b w₀.heap.size (w₀.heap.size + 2)) (fun xs => xs = passL P F pa fa S to d) (fun pre x => ∃ rest, passL P F pa fa S to d = pre ++ x :: rest) w₀ :=
  fun l J W hW hz hJ hY h0 => passing1_in nn hnn C l J W (by omega) (Nat.le_refl _) hz hW hJ hY h0
/-- the boxes of the iterator that a call of passing has just laid. -/
theorem Cq.mk3 {a b : Nat} {wa w0 : World} {g : Nat} {lo hi : Int} {P F pa fa S to d : Nat} (h0 : ((wa.alloc (.cells #[hpP g] 87)).alloc (.cells (lV F pa fa S to) 38)).alloc (.cells #[.int .i64 (d : Int)] 3) = w0)
    (hg : Blk wa g 97 (hpV (P : Int) lo hi)) (hba : b ≤ wa.heap.size) (hab : a ≤ b) (hga : ¬ (a ≤ g ∧ g < b)) (hd : d ≤ P) (hF : F ≤ P) (hS : S ≤ P - F) (hP : P ≤ 20) :
    Cq a b w0 wa.heap.size (wa.heap.size + 1) (wa.heap.size + 1 + 1) g lo hi P F pa fa S to d ∧ w0.heap.size = wa.heap.size + 3 ∧ Below wa.heap.size wa w0 := by
  subst h0
  refine ⟨⟨((Blk.new wa _ _).alloc _).alloc _, (Blk.new1 wa _ _ _).alloc _, Blk.new2 wa _ _ _ _, ((hg.alloc _).alloc _).alloc _, by omega, by omega, by omega, hga, hd, hF, hS, hP, hab, by simp; omega⟩, by simp, ?_⟩
  exact ((((Below.refl _ wa).alloc (Nat.le_refl _) _).alloc (by simp) _).alloc (by simp; omega) _)
set_option maxRecDepth 100000 in
set_option maxHeartbeats 4000000 in
theorem average_c (g : Nat) (lo hi : Int) (P F pa fa S to d : Nat) (wf : FuncId) (wo : Nat → Nat) (w : World) (hent : ∀ args W, (callFunc wf args).run Try.prog W = .ok (.enter wf args) W)
    (hwo : ∀ (v : Nat) (W : World), Calls Try.prog wf #[.int .i64 v] W fun e w' => e = .returned (.int .i64 (wo v)) ∧ W = w') (hwl : ∀ v, v ≤ d → wo v ≤ 20)
    (hg : Blk w g 97 (hpV (P : Int) lo hi)) (hd : d ≤ P) (hF : F ≤ P) (hS : S ≤ P - F) (hP : P ≤ 20) (hpf : pa + 1 ≤ fa) :
    Calls Try.prog 87 #[hpP g, .agg (lV F pa fa S to), .int .i64 d, .func (.func wf) #[] #[]] w fun e w' => e = .returned (.agg (fV (ip (shr (avgS P F pa fa S to d wo) (bn P F * bn (P - F) S))))) ∧ Below w.heap.size w w' := by
  have hgl := hg.lt
  have hB1 := bn_bd' (n := P) (by omega) F
  have hB2 := bn_bd' (n := P - F) (by omega) S
  have hB3 := Nat.mul_le_mul hB1 hB2
  have hp1 := bn_pos hF
  have hp2 := bn_pos hS
  have hp3 := Nat.mul_pos hp1 hp2
  have HSUM : Hid (lsum (fun x : Nat × Nat => x.2 * wo x.1) (passL P F pa fa S to d) ≤ 87960930222080) := by
    show _ ≤ _
    rw [lsum_pass hd hF hS hpf wo]
    have h1 := avgS_le (pa := pa) (fa := fa) (to := to) (S := S) (F := F) hd hwl
    have h2 := Nat.mul_le_mul_right 20 hB3
    omega
  have HWO := Lib.hid hwo
  have HWE := Lib.hid hent
  have hee : bn P F * bn (P - F) S ≤ 4398046511104 := hB3
  clear hwo hent hwl hB1 hB2 hB3
  refine (callsIn_wide (n := 6)).1 ?_
  refine callsIn_of_wp_marks Try.func87 rfl trivial ?_ rfl
  simp only [Try.ntmps87, List.size_toArray, List.length_cons, List.length_nil, Nat.reduceAdd, Nat.reduceSub, Array.replicate_succ, Array.replicate_zero, List.push_toArray, List.append_toArray, List.nil_append, List.cons_append]
  refine wpIn_wide.2 ?_
  obtain ⟨wa, hwa⟩ : ∃ wa, (((w.alloc (.cells (lV F pa fa S to) 38)).alloc (.cells #[.func (.func wf) #[] #[]] 125)).alloc (.cells (fV (0, 0)) 90)).alloc (.cells #[.int .i64 0] 3) = wa := ⟨_, rfl⟩
  have hsa : Since w wa := by rw [← hwa]; exact ((((Since.refl w).alloc _).alloc _).alloc _).alloc _
  have bL : Blk wa w.heap.size 38 (lV F pa fa S to) := by rw [← hwa]; exact (((Blk.new w _ _).alloc _).alloc _).alloc _
  have bF : Blk wa (w.heap.size + 1) 125 #[.func (.func wf) #[] #[]] := by rw [← hwa]; exact ((Blk.new1 w _ _ _).alloc _).alloc _
  have bR : Blk wa (w.heap.size + 1 + 1) 90 (fV (0, 0)) := by rw [← hwa]; exact (Blk.new2 w _ _ _ _).alloc _
  have bS : Blk wa (w.heap.size + 1 + 1 + 1) 3 #[.int .i64 0] := by rw [← hwa]; exact Blk.new3 w _ _ _ _ _
  have bG : Blk wa g 97 (hpV (P : Int) lo hi) := hg.keep hsa.1
  have hza : wa.heap.size = w.heap.size + 4 := by rw [← hwa]; simp
  have hsh := passing_c g (F : Int) (pa : Int) (fa : Int) (S : Int) (to : Int) (d : Int) wa
  rw [← hwa] at hsh
  have HSH := Lib.hid hsh
  have HWA := Lib.hid hwa
  obtain ⟨p0, p1, p2, p3, p4⟩ := (hwa ▸ bL : Blk ((((w.alloc (.cells (lV F pa fa S to) 38)).alloc (.cells #[.func (.func wf) #[] #[]] 125)).alloc (.cells (fV (0, 0)) 90)).alloc (.cells #[.int .i64 0] 3)) w.heap.size 38 (lV F pa fa S to)).lcells
  clear hsh hwa
  go_wp2_with fail
  refine HSH.out.mono ?_
  rintro e w0 ⟨rfl, hw0⟩
  rw [HWA.out] at hw0 ⊢
  obtain ⟨C, hz0, hb0⟩ := Cq.mk3 (a := w.heap.size + 1 + 1 + 1) (b := w.heap.size + 1 + 1 + 1 + 1) hw0 bG (by omega) (by omega) (by omega) hd hF hS hP
  clear hw0 HSH HWA p0 p1 p2 p3 p4
  go_wp2_with fail
  refine (wpIn_wide (n := 6)).1 ?_
  refine rangeFunc_e (w := w0) rfl (by omega) (gf := 97) (lb := #[hpP wa.heap.size, hpP (wa.heap.size + 1), hpP (wa.heap.size + 1 + 1)]) (by first | rfl | (rw [hza]; rfl)) trivial (enters_of Try.func97 (by kernel_rfl) rfl)
    (passing_seq _ (by omega) C) Kp.trans (fun W o o' hg hc _ => Kp.put W _ o o' (by omega) (by omega) hg hc) (Below.refl _ _) (fun _ => rfl)
    (fun pre W => ((((Blk W (w.heap.size + 1 + 1 + 1) 3 #[.int .i64 (lsum (fun x : Nat × Nat => x.2 * wo x.1) pre : Nat)] ∧ Blk W w.heap.size 38 (lV F pa fa S to)) ∧ Blk W (w.heap.size + 1 + 1) 90 (fV (0, 0))) ∧ Blk W g 97 (hpV (P : Int) lo hi)) ∧ Blk W (w.heap.size + 1) 125 #[.func (.func wf) #[] #[]]) ∧ Below w.heap.size w W)
    ((((((AllFrom.blk (by omega) _ (fun pre => #[.int .i64 (lsum (fun x : Nat × Nat => x.2 * wo x.1) pre : Nat)])).and (AllFrom.blk (by omega) _ _)).and (AllFrom.blk (by omega) _ _)).and (AllFrom.blk (by omega) _ _)).and (AllFrom.blk (by omega) _ _)).and (AllFrom.below (Nat.le_refl _) (by omega)))
    ⟨⟨⟨⟨⟨bS.keep hb0, bL.keep hb0⟩, bR.keep hb0⟩, bG.keep hb0⟩, bF.keep hb0⟩, hsa.1.trans (hb0.mono hsa.2)⟩
    (fun x a' W => a' = { tmps := #[hpP g, .agg (lV F pa fa S to), .int .i64 d, .func (.func wf) #[] #[], undef, hpP w.heap.size, undef, hpP (w.heap.size + 1), hpP (w.heap.size + 1 + 1), hpP (w.heap.size + 1 + 1 + 1), .int .i64 (x.1 : Nat), .int .i64 (x.2 : Nat), hpP g, .agg (lV F pa fa S to), .int .i64 d, .func (.func 97) #[] #[hpP (w.heap.size + 4), hpP (w.heap.size + 4 + 1), hpP (w.heap.size + 4 + 1 + 1)], .int .i64 (x.1 : Nat), .int .i64 (x.2 : Nat), undef, undef, undef, undef, undef, undef, undef, undef, undef, undef, undef, undef, undef, undef, undef, undef, undef, undef, undef, undef, undef, undef, undef, undef, undef, undef, undef, undef, undef, undef, undef, undef, undef, undef, undef, undef, undef, undef, undef], defers := [] })
    (fun x a' _ X Y row hs hg hr => hs)
    ?assign ?body ?done
  case assign =>
    rintro l pre x W K i0 hK
    gi_wp2
    exact hK _ _ (keepsFrom_of_below (Below.refl _ _)) (.refl _ _ _ _ _) i0 rfl
  case body =>
    rintro l pre x a' W hl ⟨r, hr⟩ ⟨⟨⟨⟨⟨i1, i2⟩, i3⟩, i4⟩, i6⟩, i5⟩ rfl ⟨rest, hrest⟩
    obtain ⟨i, s⟩ := x
    dsimp only at hrest ⊢
    have hsum : lsum (fun x : Nat × Nat => x.2 * wo x.1) (pre ++ [(i, s)]) ≤ 87960930222080 := Nat.le_trans (lsum_le_of _ (l := passL P F pa fa S to d) (r := rest) (by rw [hrest]; simp)) HSUM.out
    rw [lsum_snoc] at hsum
    have HN : Hid (lsum (fun x : Nat × Nat => x.2 * wo x.1) (pre ++ [(i, s)]) = lsum (fun x : Nat × Nat => x.2 * wo x.1) pre + s * wo i) := by show _ = _; rw [lsum_snoc]
    dsimp only at hsum
    obtain ⟨q, hq⟩ : ∃ q, lsum (fun x : Nat × Nat => x.2 * wo x.1) pre = q := ⟨_, rfl⟩
    rw [hq] at i1 HN hsum
    obtain ⟨m, hm⟩ : ∃ m, s * wo i = m := ⟨_, rfl⟩
    have em : (s : Int) * ((wo i : Nat) : Int) = (m : Int) := by rw [← hm]; push_cast; rfl
    rw [hm] at HN hsum
    have e1 : IntKind.i64.wrap ((s : Int) * ((wo i : Nat) : Int)) = (m : Int) := by rw [em]; exact wrapI (by unfold I64; omega)
    have e2 : IntKind.i64.wrap ((q : Int) + (m : Int)) = ((q + m : Nat) : Int) := by rw [wrapI (by unfold I64; omega)]; push_cast; rfl
    clear hq hm em
    obtain ⟨V, hV⟩ : ∃ V, W.drew = V := ⟨_, rfl⟩
    have j1 : Blk V (w.heap.size + 1 + 1 + 1) 3 #[.int .i64 (q : Int)] := hV ▸ i1.drew
    have j2 : Blk V (w.heap.size + 1) 125 #[.func (.func wf) #[] #[]] := hV ▸ i6.drew
    have c1 := j1.cell 0
    have c2 := j2.cell 0
    have f1 := j1.frozen 0
    simp only [List.getElem?_toArray, List.getElem?_cons_zero] at c1 c2
    gi_wp2
    refine Vals6T.regionAll 7 (fun X => Hid (X = V)) [some 18, some 19, some 20, some 21, some 22, some 23, some 24] [.is ?_, .is ?_, .is ?_, .is ?_, .is ?_, .is ?_, .is ?_] (.inr ⟨l, rfl⟩) (by kernel_rfl) (by kernel_rfl) (by kernel_rfl) rfl (by kernel_rfl) (by kernel_rfl) (by kernel_rfl) (by kernel_rfl) (by kernel_rfl) (by kernel_rfl) rfl (Lib.hid hV) ?hsteps ?hend
    case hsteps =>
      refine Vals5.Steps.run rfl (Vals5.Stable.is _) ?_ ?_
      · intro a W hS pre old K hK
        have e9 := old 9 _ (by kernel_rfl) rfl
        clear pre old
        simp only [Vals5.fits, Array.getD_eq_getD_getElem?, List.getElem?_toArray, List.getElem?_cons_zero, List.getElem?_cons_succ, Option.getD_some] at e9
        have hS9 := hS
        obtain rfl := hS9.out
        go_simp
        refine hK _ _ hS (Below.refl _ _) ?_
        exact fits_is _ w
      refine Vals5.Steps.run rfl (Vals5.Stable.is _) ?_ ?_
      · intro a W hS pre old K hK
        have e11 := old 11 _ (by kernel_rfl) rfl
        clear pre old
        simp only [Vals5.fits, Array.getD_eq_getD_getElem?, List.getElem?_toArray, List.getElem?_cons_zero, List.getElem?_cons_succ, Option.getD_some] at e11
        go_simp
        refine hK _ _ hS (Below.refl _ _) ?_
        exact fits_is _ w
      refine Vals5.Steps.run rfl (Vals5.Stable.is _) ?_ ?_
      · intro a W hS pre old K hK
        have e7 := old 7 _ (by kernel_rfl) rfl
        clear pre old
        simp only [Vals5.fits, Array.getD_eq_getD_getElem?, List.getElem?_toArray, List.getElem?_cons_zero, List.getElem?_cons_succ, Option.getD_some] at e7
        have hS9 := hS
        obtain rfl := hS9.out
        go_simp
        refine hK _ _ hS (Below.refl _ _) ?_
        exact fits_is _ w
      refine Vals5.Steps.run rfl (Vals5.Stable.is _) ?_ ?_
      · intro a W hS pre old K hK
        have e10 := old 10 _ (by kernel_rfl) rfl
        clear pre old
        simp only [Vals5.fits, Array.getD_eq_getD_getElem?, List.getElem?_toArray, List.getElem?_cons_zero, List.getElem?_cons_succ, Option.getD_some] at e10
        go_simp
        refine hK _ _ hS (Below.refl _ _) ?_
        exact fits_is _ w
      refine Vals5.Steps.run rfl (Vals5.Stable.is _) ?_ ?_
      · intro a W hS pre old K hK
        have e20 := pre 2 20 _ (by kernel_rfl) rfl rfl
        have e21 := pre 3 21 _ (by kernel_rfl) rfl rfl
        clear pre old
        simp only [Vals5.fits, Array.getD_eq_getD_getElem?, List.getElem?_toArray, List.getElem?_cons_zero, List.getElem?_cons_succ, Option.getD_some] at e20 e21
        have hCW := HWO.out i W
        have e9 := HWE.out
        go_simp
        refine hCW.mono ?_
        rintro e w' ⟨rfl, rfl⟩
        refine hK _ _ hS (Below.refl _ _) ?_
        exact fits_is _ w
      refine Vals5.Steps.run rfl (Vals5.Stable.is _) ?_ ?_
      · intro a W hS pre old K hK
        have e19 := pre 1 19 _ (by kernel_rfl) rfl rfl
        have e22 := pre 4 22 _ (by kernel_rfl) rfl rfl
        clear pre old
        simp only [Vals5.fits, Array.getD_eq_getD_getElem?, List.getElem?_toArray, List.getElem?_cons_zero, List.getElem?_cons_succ, Option.getD_some] at e19 e22
        go_simp
        refine hK _ _ hS (Below.refl _ _) ?_
        exact fits_is _ w
      refine Vals5.Steps.run rfl (Vals5.Stable.is _) ?_ ?_
      · intro a W hS pre old K hK
        have e18 := pre 0 18 _ (by kernel_rfl) rfl rfl
        have e23 := pre 5 23 _ (by kernel_rfl) rfl rfl
        clear pre old
        simp only [Vals5.fits, Array.getD_eq_getD_getElem?, List.getElem?_toArray, List.getElem?_cons_zero, List.getElem?_cons_succ, Option.getD_some] at e18 e23
        go_simp
        refine hK _ _ hS (Below.refl _ _) ?_
        exact fits_is _ w
      exact Vals5.Steps.nil
    case hend =>
    rintro X hXV
    obtain rfl : X = V := hXV.out
    simp only [Vals5.All]
    simp only [Vals.putAll, List.setIfInBounds_toArray, List.set_cons_zero, List.set_cons_succ]
    show wpListIn _ _ _ _ _ [_] _ _
    gi_wp2
    have hWV : Below W.heap.size W X := hV ▸ (Below.refl _ _).drew
    refine ⟨(keepsFrom_of_below hWV).trans ((KeepsOthers.setCell _ _ _).from _), (Kp.of hWV).setCell _ _ _ (by omega) (by omega), ⟨⟨⟨⟨?_, (i2.keep hWV).far (by omega) _ _⟩, (i3.keep hWV).far (by omega) _ _⟩, (i4.keep hWV).far (by omega) _ _⟩, j2.far (by omega) _ _⟩, (i5.trans (hWV.mono i5.size)).setCell (p := ⟨w.heap.size + 1 + 1 + 1, 0, none⟩) (by simp; omega) _⟩
    rw [HN.out]
    exact j1.set 0 _
  case done =>
    rintro D ys W hD rfl ⟨⟨⟨⟨⟨i1, i2⟩, i3⟩, i4⟩, i6⟩, i5⟩ hK
    have hs0 := HSUM.out
    rw [lsum_pass hd hF hS hpf wo] at i1 hs0
    obtain ⟨q, hq⟩ : ∃ q, avgS P F pa fa S to d wo = q := ⟨_, rfl⟩
    rw [hq] at i1 hs0
    have HAV := Lib.hid hq
    clear hq
    have t1 : (P : Int) < 21 := by omega
    have t2 : (F : Int) < 21 := by omega
    have t3 : P < 21 := by omega
    have t4 : F < 21 := by omega
    have t5 : ((P - F : Nat) : Int) < 21 := by omega
    have t6 : (S : Int) < 21 := by omega
    have t7 : P - F < 21 := by omega
    have t8 : S < 21 := by omega
    have w1 : IntKind.i64.wrap ((P : Int) - (F : Int)) = ((P - F : Nat) : Int) := by rw [wrapI (by unfold I64; omega)]; omega
    obtain ⟨cs, hcs⟩ : ∃ cs, bn P F * bn (P - F) S = cs := ⟨_, rfl⟩
    have em : ((bn P F : Nat) : Int) * ((bn (P - F) S : Nat) : Int) = (cs : Int) := by rw [← hcs]; push_cast; rfl
    rw [hcs] at hp3 hee
    have HCS := Lib.hid hcs
    have w2 : IntKind.i64.wrap (((bn P F : Nat) : Int) * ((bn (P - F) S : Nat) : Int)) = (cs : Int) := by rw [em]; exact wrapI (by unfold I64; omega)
    clear em hcs
    have HS7 := fun X => Lib.hid (shareOf_c q cs X (by omega) (by omega) hp3)
    go_wp2_with fail
    refine Vals6.regionAll (fun X => ((Blk X (w.heap.size + 1 + 1) 90 (fV (0, 0)) ∧ Below w.heap.size w X) ∧ X.heap[D]? = some (.deferred (some []))) ∧ (Blk X (w.heap.size + 1 + 1 + 1) 3 #[.int .i64 (q : Int)] ∧ Blk X g 97 (hpV (P : Int) lo hi)) ∧ Blk X w.heap.size 38 (lV F pa fa S to)) [some 25, some 26, some 27, some 28, some 29, some 30, some 31, some 32, some 33, some 34, some 35, some 36, some 37, some 38, some 39, some 40, some 41, some 42, some 43, some 44, some 45, some 46, some 47, some 48, some 49, some 50, some 51, some 52, some 53, some 54, some 55, some 56] [.is ?_, .is ?_, .is ?_, .is ?_, .is ?_, .is ?_, .is ?_, .is ?_, .is ?_, .is ?_, .is ?_, .is ?_, .is ?_, .is ?_, .is ?_, .is ?_, .is ?_, .is ?_, .is ?_, .is ?_, .is ?_, .is ?_, .is ?_, .is ?_, .is ?_, .is ?_, .is ?_, .is ?_, .is ?_, .is ?_, .is ?_, .is ?_] (by kernel_rfl) rfl rfl (by kernel_rfl) (by kernel_rfl) (by kernel_rfl) (by kernel_rfl) (by kernel_rfl) (by kernel_rfl) rfl (⟨⟨⟨i3.drew, i5.drew⟩, hK⟩, ⟨i1.drew, i4.drew⟩, i2.drew⟩) ?hsteps ?hend
    case hsteps =>
      refine Vals5.Steps.run rfl (Vals5.Stable.is _) ?_ ?_
      · intro a W hS pre old K hK
        have e9 := old 9 _ (by kernel_rfl) rfl
        clear pre old
        simp only [Vals5.fits, Array.getD_eq_getD_getElem?, List.getElem?_toArray, List.getElem?_cons_zero, List.getElem?_cons_succ, Option.getD_some] at e9
        have hS9 := hS
        obtain ⟨-, ⟨q1, q2⟩, q3⟩ := hS9
        have c1 := q1.cell 0
        have c2 := q2.hcells.1
        have c3 := q2.way (n := P) (k := F) (by omega) (by omega)
        have c4 := q2.way (n := P - F) (k := S) (by omega) (by omega)
        obtain ⟨p0, p1, p2, p3, p4⟩ := q3.lcells
        simp only [List.getElem?_toArray, List.getElem?_cons_zero] at c1
        go_simp
        refine hK _ _ hS (Below.refl _ _) ?_
        exact fits_is _ _
      refine Vals5.Steps.run rfl (Vals5.Stable.is _) ?_ ?_
      · intro a W hS pre old K hK
        have e0 := old 0 _ (by kernel_rfl) rfl
        clear pre old
        simp only [Vals5.fits, Array.getD_eq_getD_getElem?, List.getElem?_toArray, List.getElem?_cons_zero, List.getElem?_cons_succ, Option.getD_some] at e0
        go_simp
        refine hK _ _ hS (Below.refl _ _) ?_
        exact fits_is _ _
      refine Vals5.Steps.run rfl (Vals5.Stable.is _) ?_ ?_
      · intro a W hS pre old K hK
        have e0 := old 0 _ (by kernel_rfl) rfl
        clear pre old
        simp only [Vals5.fits, Array.getD_eq_getD_getElem?, List.getElem?_toArray, List.getElem?_cons_zero, List.getElem?_cons_succ, Option.getD_some] at e0
        go_simp
        refine hK _ _ hS (Below.refl _ _) ?_
        exact fits_is _ _
      refine Vals5.Steps.run rfl (Vals5.Stable.is _) ?_ ?_
      · intro a W hS pre old K hK
        have e27 := pre 2 27 _ (by kernel_rfl) rfl rfl
        clear pre old
        simp only [Vals5.fits, Array.getD_eq_getD_getElem?, List.getElem?_toArray, List.getElem?_cons_zero, List.getElem?_cons_succ, Option.getD_some] at e27
        go_simp
        refine hK _ _ hS (Below.refl _ _) ?_
        exact fits_is _ _
      refine Vals5.Steps.run rfl (Vals5.Stable.is _) ?_ ?_
      · intro a W hS pre old K hK
        have e28 := pre 3 28 _ (by kernel_rfl) rfl rfl
        clear pre old
        simp only [Vals5.fits, Array.getD_eq_getD_getElem?, List.getElem?_toArray, List.getElem?_cons_zero, List.getElem?_cons_succ, Option.getD_some] at e28
        go_simp
        refine hK _ _ hS (Below.refl _ _) ?_
        exact fits_is _ _
      refine Vals5.Steps.run rfl (Vals5.Stable.is _) ?_ ?_
      · intro a W hS pre old K hK
        have e29 := pre 4 29 _ (by kernel_rfl) rfl rfl
        clear pre old
        simp only [Vals5.fits, Array.getD_eq_getD_getElem?, List.getElem?_toArray, List.getElem?_cons_zero, List.getElem?_cons_succ, Option.getD_some] at e29
        go_simp
        refine hK _ _ hS (Below.refl _ _) ?_
        exact fits_is _ _
      refine Vals5.Steps.run rfl (Vals5.Stable.is _) ?_ ?_
      · intro a W hS pre old K hK
        have e30 := pre 5 30 _ (by kernel_rfl) rfl rfl
        clear pre old
        simp only [Vals5.fits, Array.getD_eq_getD_getElem?, List.getElem?_toArray, List.getElem?_cons_zero, List.getElem?_cons_succ, Option.getD_some] at e30
        have hS9 := hS
        obtain ⟨-, ⟨q1, q2⟩, q3⟩ := hS9
        have c1 := q1.cell 0
        have c2 := q2.hcells.1
        have c3 := q2.way (n := P) (k := F) (by omega) (by omega)
        have c4 := q2.way (n := P - F) (k := S) (by omega) (by omega)
        obtain ⟨p0, p1, p2, p3, p4⟩ := q3.lcells
        simp only [List.getElem?_toArray, List.getElem?_cons_zero] at c1
        go_simp
        refine hK _ _ hS (Below.refl _ _) ?_
        exact fits_is _ _
      refine Vals5.Steps.run rfl (Vals5.Stable.is _) ?_ ?_
      · intro a W hS pre old K hK
        have e5 := old 5 _ (by kernel_rfl) rfl
        clear pre old
        simp only [Vals5.fits, Array.getD_eq_getD_getElem?, List.getElem?_toArray, List.getElem?_cons_zero, List.getElem?_cons_succ, Option.getD_some] at e5
        go_simp
        refine hK _ _ hS (Below.refl _ _) ?_
        exact fits_is _ _
      refine Vals5.Steps.run rfl (Vals5.Stable.is _) ?_ ?_
      · intro a W hS pre old K hK
        have e32 := pre 7 32 _ (by kernel_rfl) rfl rfl
        clear pre old
        simp only [Vals5.fits, Array.getD_eq_getD_getElem?, List.getElem?_toArray, List.getElem?_cons_zero, List.getElem?_cons_succ, Option.getD_some] at e32
        have hS9 := hS
        obtain ⟨-, ⟨q1, q2⟩, q3⟩ := hS9
        have c1 := q1.cell 0
        have c2 := q2.hcells.1
        have c3 := q2.way (n := P) (k := F) (by omega) (by omega)
        have c4 := q2.way (n := P - F) (k := S) (by omega) (by omega)
        obtain ⟨p0, p1, p2, p3, p4⟩ := q3.lcells
        simp only [List.getElem?_toArray, List.getElem?_cons_zero] at c1
        go_simp
        refine hK _ _ hS (Below.refl _ _) ?_
        exact fits_is _ _
      refine Vals5.Steps.run rfl (Vals5.Stable.is _) ?_ ?_
      · intro a W hS pre old K hK
        have e26 := pre 1 26 _ (by kernel_rfl) rfl rfl
        clear pre old
        simp only [Vals5.fits, Array.getD_eq_getD_getElem?, List.getElem?_toArray, List.getElem?_cons_zero, List.getElem?_cons_succ, Option.getD_some] at e26
        go_simp
        refine hK _ _ hS (Below.refl _ _) ?_
        exact fits_is _ _
      refine Vals5.Steps.run rfl (Vals5.Stable.is _) ?_ ?_
      · intro a W hS pre old K hK
        have e34 := pre 9 34 _ (by kernel_rfl) rfl rfl
        clear pre old
        simp only [Vals5.fits, Array.getD_eq_getD_getElem?, List.getElem?_toArray, List.getElem?_cons_zero, List.getElem?_cons_succ, Option.getD_some] at e34
        go_simp
        refine hK _ _ hS (Below.refl _ _) ?_
        exact fits_is _ _
      refine Vals5.Steps.run rfl (Vals5.Stable.is _) ?_ ?_
      · intro a W hS pre old K hK
        have e31 := pre 6 31 _ (by kernel_rfl) rfl rfl
        have e35 := pre 10 35 _ (by kernel_rfl) rfl rfl
        clear pre old
        simp only [Vals5.fits, Array.getD_eq_getD_getElem?, List.getElem?_toArray, List.getElem?_cons_zero, List.getElem?_cons_succ, Option.getD_some] at e31 e35
        go_simp
        refine hK _ _ hS (Below.refl _ _) ?_
        exact fits_is _ _
      refine Vals5.Steps.run rfl (Vals5.Stable.is _) ?_ ?_
      · intro a W hS pre old K hK
        have e33 := pre 8 33 _ (by kernel_rfl) rfl rfl
        have e36 := pre 11 36 _ (by kernel_rfl) rfl rfl
        clear pre old
        simp only [Vals5.fits, Array.getD_eq_getD_getElem?, List.getElem?_toArray, List.getElem?_cons_zero, List.getElem?_cons_succ, Option.getD_some] at e33 e36
        go_simp
        refine hK _ _ hS (Below.refl _ _) ?_
        exact fits_is _ _
      refine Vals5.Steps.run rfl (Vals5.Stable.is _) ?_ ?_
      · intro a W hS pre old K hK
        have e37 := pre 12 37 _ (by kernel_rfl) rfl rfl
        clear pre old
        simp only [Vals5.fits, Array.getD_eq_getD_getElem?, List.getElem?_toArray, List.getElem?_cons_zero, List.getElem?_cons_succ, Option.getD_some] at e37
        have hS9 := hS
        obtain ⟨-, ⟨q1, q2⟩, q3⟩ := hS9
        have c1 := q1.cell 0
        have c2 := q2.hcells.1
        have c3 := q2.way (n := P) (k := F) (by omega) (by omega)
        have c4 := q2.way (n := P - F) (k := S) (by omega) (by omega)
        obtain ⟨p0, p1, p2, p3, p4⟩ := q3.lcells
        simp only [List.getElem?_toArray, List.getElem?_cons_zero] at c1
        go_simp
        refine hK _ _ hS (Below.refl _ _) ?_
        exact fits_is _ _
      refine Vals5.Steps.run rfl (Vals5.Stable.is _) ?_ ?_
      · intro a W hS pre old K hK
        have e0 := old 0 _ (by kernel_rfl) rfl
        clear pre old
        simp only [Vals5.fits, Array.getD_eq_getD_getElem?, List.getElem?_toArray, List.getElem?_cons_zero, List.getElem?_cons_succ, Option.getD_some] at e0
        go_simp
        refine hK _ _ hS (Below.refl _ _) ?_
        exact fits_is _ _
      refine Vals5.Steps.run rfl (Vals5.Stable.is _) ?_ ?_
      · intro a W hS pre old K hK
        have e0 := old 0 _ (by kernel_rfl) rfl
        clear pre old
        simp only [Vals5.fits, Array.getD_eq_getD_getElem?, List.getElem?_toArray, List.getElem?_cons_zero, List.getElem?_cons_succ, Option.getD_some] at e0
        go_simp
        refine hK _ _ hS (Below.refl _ _) ?_
        exact fits_is _ _
      refine Vals5.Steps.run rfl (Vals5.Stable.is _) ?_ ?_
      · intro a W hS pre old K hK
        have e40 := pre 15 40 _ (by kernel_rfl) rfl rfl
        clear pre old
        simp only [Vals5.fits, Array.getD_eq_getD_getElem?, List.getElem?_toArray, List.getElem?_cons_zero, List.getElem?_cons_succ, Option.getD_some] at e40
        go_simp
        refine hK _ _ hS (Below.refl _ _) ?_
        exact fits_is _ _
      refine Vals5.Steps.run rfl (Vals5.Stable.is _) ?_ ?_
      · intro a W hS pre old K hK
        have e41 := pre 16 41 _ (by kernel_rfl) rfl rfl
        clear pre old
        simp only [Vals5.fits, Array.getD_eq_getD_getElem?, List.getElem?_toArray, List.getElem?_cons_zero, List.getElem?_cons_succ, Option.getD_some] at e41
        go_simp
        refine hK _ _ hS (Below.refl _ _) ?_
        exact fits_is _ _
      refine Vals5.Steps.run rfl (Vals5.Stable.is _) ?_ ?_
      · intro a W hS pre old K hK
        have e42 := pre 17 42 _ (by kernel_rfl) rfl rfl
        clear pre old
        simp only [Vals5.fits, Array.getD_eq_getD_getElem?, List.getElem?_toArray, List.getElem?_cons_zero, List.getElem?_cons_succ, Option.getD_some] at e42
        go_simp
        refine hK _ _ hS (Below.refl _ _) ?_
        exact fits_is _ _
      refine Vals5.Steps.run rfl (Vals5.Stable.is _) ?_ ?_
      · intro a W hS pre old K hK
        have e43 := pre 18 43 _ (by kernel_rfl) rfl rfl
        clear pre old
        simp only [Vals5.fits, Array.getD_eq_getD_getElem?, List.getElem?_toArray, List.getElem?_cons_zero, List.getElem?_cons_succ, Option.getD_some] at e43
        have hS9 := hS
        obtain ⟨-, ⟨q1, q2⟩, q3⟩ := hS9
        have c1 := q1.cell 0
        have c2 := q2.hcells.1
        have c3 := q2.way (n := P) (k := F) (by omega) (by omega)
        have c4 := q2.way (n := P - F) (k := S) (by omega) (by omega)
        obtain ⟨p0, p1, p2, p3, p4⟩ := q3.lcells
        simp only [List.getElem?_toArray, List.getElem?_cons_zero] at c1
        go_simp
        refine hK _ _ hS (Below.refl _ _) ?_
        exact fits_is _ _
      refine Vals5.Steps.run rfl (Vals5.Stable.is _) ?_ ?_
      · intro a W hS pre old K hK
        have e5 := old 5 _ (by kernel_rfl) rfl
        clear pre old
        simp only [Vals5.fits, Array.getD_eq_getD_getElem?, List.getElem?_toArray, List.getElem?_cons_zero, List.getElem?_cons_succ, Option.getD_some] at e5
        go_simp
        refine hK _ _ hS (Below.refl _ _) ?_
        exact fits_is _ _
      refine Vals5.Steps.run rfl (Vals5.Stable.is _) ?_ ?_
      · intro a W hS pre old K hK
        have e45 := pre 20 45 _ (by kernel_rfl) rfl rfl
        clear pre old
        simp only [Vals5.fits, Array.getD_eq_getD_getElem?, List.getElem?_toArray, List.getElem?_cons_zero, List.getElem?_cons_succ, Option.getD_some] at e45
        have hS9 := hS
        obtain ⟨-, ⟨q1, q2⟩, q3⟩ := hS9
        have c1 := q1.cell 0
        have c2 := q2.hcells.1
        have c3 := q2.way (n := P) (k := F) (by omega) (by omega)
        have c4 := q2.way (n := P - F) (k := S) (by omega) (by omega)
        obtain ⟨p0, p1, p2, p3, p4⟩ := q3.lcells
        simp only [List.getElem?_toArray, List.getElem?_cons_zero] at c1
        go_simp
        refine hK _ _ hS (Below.refl _ _) ?_
        exact fits_is _ _
      refine Vals5.Steps.run rfl (Vals5.Stable.is _) ?_ ?_
      · intro a W hS pre old K hK
        have e44 := pre 19 44 _ (by kernel_rfl) rfl rfl
        have e46 := pre 21 46 _ (by kernel_rfl) rfl rfl
        clear pre old
        simp only [Vals5.fits, Array.getD_eq_getD_getElem?, List.getElem?_toArray, List.getElem?_cons_zero, List.getElem?_cons_succ, Option.getD_some] at e44 e46
        go_simp
        refine hK _ _ hS (Below.refl _ _) ?_
        exact fits_is _ _
      refine Vals5.Steps.run rfl (Vals5.Stable.is _) ?_ ?_
      · intro a W hS pre old K hK
        have e5 := old 5 _ (by kernel_rfl) rfl
        clear pre old
        simp only [Vals5.fits, Array.getD_eq_getD_getElem?, List.getElem?_toArray, List.getElem?_cons_zero, List.getElem?_cons_succ, Option.getD_some] at e5
        go_simp
        refine hK _ _ hS (Below.refl _ _) ?_
        exact fits_is _ _
      refine Vals5.Steps.run rfl (Vals5.Stable.is _) ?_ ?_
      · intro a W hS pre old K hK
        have e48 := pre 23 48 _ (by kernel_rfl) rfl rfl
        clear pre old
        simp only [Vals5.fits, Array.getD_eq_getD_getElem?, List.getElem?_toArray, List.getElem?_cons_zero, List.getElem?_cons_succ, Option.getD_some] at e48
        have hS9 := hS
        obtain ⟨-, ⟨q1, q2⟩, q3⟩ := hS9
        have c1 := q1.cell 0
        have c2 := q2.hcells.1
        have c3 := q2.way (n := P) (k := F) (by omega) (by omega)
        have c4 := q2.way (n := P - F) (k := S) (by omega) (by omega)
        obtain ⟨p0, p1, p2, p3, p4⟩ := q3.lcells
        simp only [List.getElem?_toArray, List.getElem?_cons_zero] at c1
        go_simp
        refine hK _ _ hS (Below.refl _ _) ?_
        exact fits_is _ _
      refine Vals5.Steps.run rfl (Vals5.Stable.is _) ?_ ?_
      · intro a W hS pre old K hK
        have e39 := pre 14 39 _ (by kernel_rfl) rfl rfl
        clear pre old
        simp only [Vals5.fits, Array.getD_eq_getD_getElem?, List.getElem?_toArray, List.getElem?_cons_zero, List.getElem?_cons_succ, Option.getD_some] at e39
        go_simp
        refine hK _ _ hS (Below.refl _ _) ?_
        exact fits_is _ _
      refine Vals5.Steps.run rfl (Vals5.Stable.is _) ?_ ?_
      · intro a W hS pre old K hK
        have e50 := pre 25 50 _ (by kernel_rfl) rfl rfl
        clear pre old
        simp only [Vals5.fits, Array.getD_eq_getD_getElem?, List.getElem?_toArray, List.getElem?_cons_zero, List.getElem?_cons_succ, Option.getD_some] at e50
        go_simp
        refine hK _ _ hS (Below.refl _ _) ?_
        exact fits_is _ _
      refine Vals5.Steps.run rfl (Vals5.Stable.is _) ?_ ?_
      · intro a W hS pre old K hK
        have e47 := pre 22 47 _ (by kernel_rfl) rfl rfl
        have e51 := pre 26 51 _ (by kernel_rfl) rfl rfl
        clear pre old
        simp only [Vals5.fits, Array.getD_eq_getD_getElem?, List.getElem?_toArray, List.getElem?_cons_zero, List.getElem?_cons_succ, Option.getD_some] at e47 e51
        go_simp
        refine hK _ _ hS (Below.refl _ _) ?_
        exact fits_is _ _
      refine Vals5.Steps.run rfl (Vals5.Stable.is _) ?_ ?_
      · intro a W hS pre old K hK
        have e49 := pre 24 49 _ (by kernel_rfl) rfl rfl
        have e52 := pre 27 52 _ (by kernel_rfl) rfl rfl
        clear pre old
        simp only [Vals5.fits, Array.getD_eq_getD_getElem?, List.getElem?_toArray, List.getElem?_cons_zero, List.getElem?_cons_succ, Option.getD_some] at e49 e52
        go_simp
        refine hK _ _ hS (Below.refl _ _) ?_
        exact fits_is _ _
      refine Vals5.Steps.run rfl (Vals5.Stable.is _) ?_ ?_
      · intro a W hS pre old K hK
        have e53 := pre 28 53 _ (by kernel_rfl) rfl rfl
        clear pre old
        simp only [Vals5.fits, Array.getD_eq_getD_getElem?, List.getElem?_toArray, List.getElem?_cons_zero, List.getElem?_cons_succ, Option.getD_some] at e53
        have hS9 := hS
        obtain ⟨-, ⟨q1, q2⟩, q3⟩ := hS9
        have c1 := q1.cell 0
        have c2 := q2.hcells.1
        have c3 := q2.way (n := P) (k := F) (by omega) (by omega)
        have c4 := q2.way (n := P - F) (k := S) (by omega) (by omega)
        obtain ⟨p0, p1, p2, p3, p4⟩ := q3.lcells
        simp only [List.getElem?_toArray, List.getElem?_cons_zero] at c1
        go_simp
        refine hK _ _ hS (Below.refl _ _) ?_
        exact fits_is _ _
      refine Vals5.Steps.run rfl (Vals5.Stable.is _) ?_ ?_
      · intro a W hS pre old K hK
        have e38 := pre 13 38 _ (by kernel_rfl) rfl rfl
        have e54 := pre 29 54 _ (by kernel_rfl) rfl rfl
        clear pre old
        simp only [Vals5.fits, Array.getD_eq_getD_getElem?, List.getElem?_toArray, List.getElem?_cons_zero, List.getElem?_cons_succ, Option.getD_some] at e38 e54
        go_simp
        refine hK _ _ hS (Below.refl _ _) ?_
        exact fits_is _ _
      refine Vals5.Steps.run rfl (Vals5.Stable.is _) ?_ ?_
      · intro a W hS pre old K hK
        have e25 := pre 0 25 _ (by kernel_rfl) rfl rfl
        have e55 := pre 30 55 _ (by kernel_rfl) rfl rfl
        clear pre old
        simp only [Vals5.fits, Array.getD_eq_getD_getElem?, List.getElem?_toArray, List.getElem?_cons_zero, List.getElem?_cons_succ, Option.getD_some] at e25 e55
        obtain ⟨⟨⟨q1, q2⟩, q3⟩, ⟨q4, q5⟩, q6⟩ := hS
        have HCC := HS7 W
        go_simp
        refine HCC.out.mono ?_
        rintro e w' ⟨rfl, hb'⟩
        refine hK _ _ ⟨⟨⟨q1.keep hb', q2.trans (hb'.mono q2.size)⟩, (hb'.block D (Array.getElem?_eq_some_iff.1 q3).1).trans q3⟩, ⟨q4.keep hb', q5.keep hb'⟩, q6.keep hb'⟩ hb' ?_
        exact fits_is _ _
      exact Vals5.Steps.nil
    case hend =>
    rintro X ⟨⟨⟨i3, i5⟩, hK⟩, -⟩
    obtain ⟨v, hv⟩ : ∃ v, ip (shr q cs) = v := ⟨_, rfl⟩
    have HV2 : Hid (ip (shr q cs) = v) := hv
    have HR3 := Lib.hid i3
    simp only [Vals5.All]
    simp only [List.getLast_cons_cons, List.getLast_singleton]
    simp only [Vals.putAll, List.setIfInBounds_toArray, List.set_cons_zero, List.set_cons_succ]
    intro K hKK
    rw [hv]
    clear hv
    refine wp_store_row 90 _ _ rfl (w.heap.size + 1 + 1) (fV v) rfl rfl 90 _ HR3.out (by kernel_rfl) rfl (by simp [Value.oneCell']) ?_
    refine hKK _ _ ?_
    clear hKK K
    dsimp only [Act.put]
    go_wp2_with fail
    have i6 : Below w.heap.size w (X.setRow (w.heap.size + 1 + 1) (fV v)) := below_setRow i5 (by omega) _
    have hK' : (X.setRow (w.heap.size + 1 + 1) (fV v)).heap[D]? = some (.deferred (some [])) := (setRow_other X (w.heap.size + 1 + 1) D (fV v) (by omega)).trans hK
    have hR9 : Blk ((X.setRow (w.heap.size + 1 + 1) (fV v)).putObj D (.deferred none)) (w.heap.size + 1 + 1) 90 (fV v) := (i3.row (fV v)).grown (grownBy_putObj' _ D (.deferred none)) (fun e => by cases e; omega)
    refine ⟨by simp, .inl ⟨_, _, rfl, run_takeDeferred hK', ?_⟩⟩
    refine ⟨_, results_cell_row Try.results87 _ _ (w.heap.size + 1 + 1) 90 _ (0, 0) _ rfl hR9 Try.underlying90 rfl (by kernel_rfl), ?_, i6.trans (belowK_b (w := w) (Nat.le_refl _) _ D _ _ (by omega) hK' rfl rfl)⟩
    rw [HAV.out, HCS.out, HV2.out]
end Td
end Go.Proofs.Ytgkdidnmndmlhaa
