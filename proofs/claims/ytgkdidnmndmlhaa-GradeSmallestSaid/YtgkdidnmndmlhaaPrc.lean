import Derived.Test.YtgkdidnmndmlhaaSho
import Derived.Test.YtgkdidnmndmlhaaMathB
/- What is paid on average. -/
namespace Go.Proofs.Ytgkdidnmndmlhaa
open Go.RowKit
namespace Td
set_option linter.unusedSimpArgs false
set_option linter.unusedVariables false
attribute [local go_sem] Oper.semAt_some
/-- the boxes of the iterator that a call of shows has just laid. -/
theorem Cs.mk4 {a b : Nat} {wa w0 : World} {g : Nat} {tp lo hi : Int} {P d n : Nat} (h0 : (((wa.alloc (.cells #[hpP g] 87)).alloc (.cells #[.int .i64 (P : Int)] 3)).alloc (.cells #[.int .i64 (d : Int)] 3)).alloc (.cells #[.int .i64 (n : Int)] 3) = w0)
    (hg : Blk wa g 97 (hpV tp lo hi)) (hba : b ≤ wa.heap.size) (hga : ¬ (a ≤ g ∧ g < b)) (hd : d ≤ P) (hn : n ≤ P) (hP : P ≤ 20) :
    Cs a b w0 (wa.heap.size + 1) (wa.heap.size + 1 + 1) (wa.heap.size + 1 + 1 + 1) wa.heap.size g tp lo hi P d n := by
  subst h0
  exact ⟨((Blk.new1 wa _ _ _).alloc _).alloc _, (Blk.new2 wa _ _ _ _).alloc _, Blk.new3 wa _ _ _ _ _, (((Blk.new wa _ _).alloc _).alloc _).alloc _, (((hg.alloc _).alloc _).alloc _).alloc _, by omega, by omega, by omega, by omega, hga, hd, hn, hP⟩
theorem shows_w0 {wa w0 : World} {c1 c2 c3 c4 : Obj} (h0 : (((wa.alloc c1).alloc c2).alloc c3).alloc c4 = w0) : w0.heap.size = wa.heap.size + 4 ∧ Below wa.heap.size wa w0 := by
  subst h0
  refine ⟨by simp, ?_⟩
  exact (((((Below.refl _ wa).alloc (Nat.le_refl _) _).alloc (by simp) _).alloc (by simp; omega) _).alloc (by simp; omega) _)
set_option maxRecDepth 100000 in
set_option maxHeartbeats 4000000 in
theorem price_c (g : Nat) (lo hi : Int) (P d n : Nat) (A : Option Addr) (xs : List Int) (c : Nat) (w : World) (hg : Blk w g 97 (hpV (P : Int) lo hi)) (hp : InAt w A xs) (hxl : xs.length = n + 1) (hb : ∀ x ∈ xs, 0 ≤ x ∧ x ≤ 100000) (hd : d ≤ P) (hn : n ≤ P) (hP : P ≤ 20) :
    Calls Try.prog 79 #[hpP g, .slice A xs.length c, .int .i64 d] w fun e w' => e = .returned (.agg (fV (ip (shr (prcS P d n fun i => (xs[i]?.getD 0).toNat) (bn P n))))) ∧ Below w.heap.size w w' := by
  have hgl := hg.lt
  have HB := Lib.hid hb
  obtain ⟨pay, hpay⟩ : ∃ pay : Nat → Nat, pay = fun i => (xs[i]?.getD 0).toNat := ⟨_, rfl⟩
  rw [← hpay]
  have HPAY := Lib.hid hpay
  have HSUM : Hid (lsum (fun x : Nat × Nat => x.2 * pay x.1) (showsL P d n) ≤ 209715200000) := by
    show _ ≤ _
    rw [lsum_shows P d n hd hn pay]
    have h1 := prcS_le (P := P) (n := n) (pay := pay) hd (m := 100000) (fun i hi => by
      rw [hpay]
      have hk : i < xs.length := by omega
      have := hb _ (List.getElem_mem hk)
      simp only [List.getElem?_eq_getElem hk, Option.getD_some]
      omega)
    have h2 := bn_bd' (n := P) (by omega) n
    have h3 := Nat.mul_le_mul_right 100000 h2
    unfold prcS at h1
    omega
  clear hpay hb
  rw [hxl]
  have HXL := Lib.hid hxl
  clear hxl
  refine (callsIn_wide (n := 6)).1 ?_
  refine callsIn_of_wp_marks Try.func79 rfl trivial ?_ rfl
  simp only [Try.ntmps79, List.size_toArray, List.length_cons, List.length_nil, Nat.reduceAdd, Nat.reduceSub, Array.replicate_succ, Array.replicate_zero, List.push_toArray, List.append_toArray, List.nil_append, List.cons_append]
  refine wpIn_wide.2 ?_
  obtain ⟨wa, hwa⟩ : ∃ wa, ((w.alloc (.cells #[.slice A (n + 1) c] 51)).alloc (.cells (fV (0, 0)) 90)).alloc (.cells #[.int .i64 0] 3) = wa := ⟨_, rfl⟩
  have hsa : Since w wa := by rw [← hwa]; exact (((Since.refl w).alloc _).alloc _).alloc _
  have bX : Blk wa w.heap.size 51 #[.slice A (n + 1) c] := by rw [← hwa]; exact ((Blk.new w _ _).alloc _).alloc _
  have bR : Blk wa (w.heap.size + 1) 90 (fV (0, 0)) := by rw [← hwa]; exact (Blk.new1 w _ _ _).alloc _
  have bS : Blk wa (w.heap.size + 1 + 1) 3 #[.int .i64 0] := by rw [← hwa]; exact Blk.new2 w _ _ _ _
  have bG : Blk wa g 97 (hpV (P : Int) lo hi) := hg.keep hsa.1
  have hza : wa.heap.size = w.heap.size + 3 := by rw [← hwa]; simp
  have hsh := shows_c g (P : Int) (d : Int) (n : Int) wa
  rw [← hwa] at hsh
  have HSH := Lib.hid hsh
  have HWA := Lib.hid hwa
  have hgw : (((w.alloc (.cells #[.slice A (n + 1) c] 51)).alloc (.cells (fV (0, 0)) 90)).alloc (.cells #[.int .i64 0] 3)).cell? ⟨g, 0, none⟩ = some (.int .i64 (P : Int)) := by rw [hwa]; exact bG.hcells.1
  have hn1 : IntKind.i64.wrap ((n : Int) + 1 - 1) = (n : Int) := by rw [wrapI (by unfold I64; omega)]; omega
  have hn2 : IntKind.i64.wrap (n : Int) = (n : Int) := wrapI (by unfold I64; omega)
  clear hsh hwa
  go_wp2_with fail
  refine HSH.out.mono ?_
  rintro e w0 ⟨rfl, hw0⟩
  rw [HWA.out] at hw0 ⊢
  obtain ⟨hz0, hb0⟩ := shows_w0 hw0
  have C := Cs.mk4 (a := w.heap.size + 1 + 1) (b := w.heap.size + 1 + 1 + 1) hw0 bG (by omega) (by omega) hd hn hP
  clear hw0 HSH HWA hgw
  go_wp2_with fail
  refine (wpIn_wide (n := 6)).1 ?_
  refine rangeFunc_d (w := w0) rfl (by omega) (gf := 85) (lb := #[hpP (wa.heap.size + 1), hpP (wa.heap.size + 1 + 1), hpP (wa.heap.size + 1 + 1 + 1), hpP wa.heap.size]) (by first | rfl | (rw [hza]; rfl)) trivial (enters_of Try.func85 (by kernel_rfl) rfl)
    (shows_seq (c := w0.heap.size) (ee := w0.heap.size + 2) _ (by omega) C) Kp.trans (fun W o o' hg hc _ => Kp.put W _ o o' (by omega) (by omega) hg hc) (Below.refl _ _) (fun _ => rfl)
    (fun pre W => (((Blk W (w.heap.size + 1 + 1) 3 #[.int .i64 (lsum (fun x : Nat × Nat => x.2 * pay x.1) pre : Nat)] ∧ Blk W w.heap.size 51 #[.slice A (n + 1) c]) ∧ Blk W (w.heap.size + 1) 90 (fV (0, 0))) ∧ Blk W g 97 (hpV (P : Int) lo hi)) ∧ Below w.heap.size w W)
    (fun c pre W => False)
    (((((AllFrom.blk (by omega) _ (fun pre => #[.int .i64 (lsum (fun x : Nat × Nat => x.2 * pay x.1) pre : Nat)])).and (AllFrom.blk (by omega) _ _)).and (AllFrom.blk (by omega) _ _)).and (AllFrom.blk (by omega) _ _)).and (AllFrom.below (Nat.le_refl _) (by omega)))
    (fun _ _ _ _ _ hs _ _ => hs)
    ⟨⟨⟨⟨bS.keep hb0, bX.keep hb0⟩, bR.keep hb0⟩, bG.keep hb0⟩, hsa.1.trans (hb0.mono hsa.2)⟩
    (fun x a' W => a' = { tmps := #[hpP g, .slice A (n + 1) c, .int .i64 d, undef, hpP w.heap.size, undef, hpP (w.heap.size + 1), .int .i64 n, hpP (w.heap.size + 1 + 1), .int .i64 (x.1 : Nat), .int .i64 (x.2 : Nat), .slice A (n + 1) c, .int .i64 ((n : Int) + 1), .int .i64 n, hpP g, hpP g, hpP g, hpP g, hpP g, .int .i64 P, .int .i64 d, .int .i64 n, .func (.func 85) #[] #[hpP (w.heap.size + 3 + 1), hpP (w.heap.size + 3 + 1 + 1), hpP (w.heap.size + 3 + 1 + 1 + 1), hpP (w.heap.size + 3)], .int .i64 (x.1 : Nat), .int .i64 (x.2 : Nat), undef, undef, undef, undef, undef, undef, undef, undef, undef, undef, undef, undef, undef, undef, undef, undef, undef, undef, undef, undef, undef, undef], defers := [] })
    (fun x a' _ X Y row hs hg hr => hs)
    ?assign ?body ?done ?stop
  case assign =>
    rintro l pre x W K i0 hK
    gi_wp2
    exact hK _ _ (keepsFrom_of_below (Below.refl _ _)) (.refl _ _ _ _ _) i0 rfl
  case body =>
    rintro l pre x a' W hl ⟨r, hr⟩ ⟨⟨⟨⟨i1, i2⟩, i3⟩, i4⟩, i5⟩ rfl ⟨rest, hrest⟩
    have hxm := showsL_mem (x := x) (P := P) (b := d) (n := n) (by rw [hrest]; simp)
    have hxn : x.1 ≤ n := by have := hxm.2.1; unfold hiS at this; omega
    have hk : x.1 < xs.length := by have := HXL.out; omega
    obtain ⟨ad, hA, z0⟩ := (hp.keep i5).get hk
    subst hA
    have hxv : xs[x.1] = ((pay x.1 : Nat) : Int) := by
      rw [HPAY.out]
      have h1 := (HB.out _ (List.getElem_mem hk)).1
      simp only [List.getElem?_eq_getElem hk, Option.getD_some]
      omega
    rw [hxv] at z0
    obtain ⟨i, hi⟩ : ∃ i, x.1 = i := ⟨_, rfl⟩
    obtain ⟨s, hs⟩ : ∃ s, x.2 = s := ⟨_, rfl⟩
    have hsum : lsum (fun x : Nat × Nat => x.2 * pay x.1) (pre ++ [x]) ≤ 209715200000 := Nat.le_trans (lsum_le_of _ (l := showsL P d n) (r := rest) (by rw [hrest]; simp)) HSUM.out
    rw [lsum_snoc] at hsum
    have HN : Hid (lsum (fun x : Nat × Nat => x.2 * pay x.1) (pre ++ [x]) = lsum (fun x : Nat × Nat => x.2 * pay x.1) pre + s * pay i) := by show _ = _; rw [lsum_snoc, hs, hi]
    rw [hi] at z0 hxn
    rw [hi, hs] at hsum ⊢
    obtain ⟨q, hq⟩ : ∃ q, lsum (fun x : Nat × Nat => x.2 * pay x.1) pre = q := ⟨_, rfl⟩
    rw [hq] at i1 HN hsum
    obtain ⟨p, hpp⟩ : ∃ p, pay i = p := ⟨_, rfl⟩
    rw [hpp] at z0 HN hsum
    have em : (s : Int) * (p : Int) = ((s * p : Nat) : Int) := by push_cast; rfl
    have e1 : IntKind.i64.wrap ((s : Int) * (p : Int)) = ((s * p : Nat) : Int) := by rw [em]; exact wrapI (by unfold I64; omega)
    have e2 : IntKind.i64.wrap ((q : Int) + ((s * p : Nat) : Int)) = ((q + s * p : Nat) : Int) := by rw [wrapI (by unfold I64; omega)]; push_cast; rfl
    have t1 : i < n + 1 := by omega
    have t2 : (i : Int) < (n : Int) + 1 := by omega
    clear hxm hxv hk hi hs hq hpp em
    obtain ⟨V, hV⟩ : ∃ V, W.drew = V := ⟨_, rfl⟩
    have j1 : Blk V (w.heap.size + 1 + 1) 3 #[.int .i64 (q : Int)] := hV ▸ i1.drew
    have j2 : Blk V w.heap.size 51 #[.slice (some ad) (n + 1) c] := hV ▸ i2.drew
    have y0 : V.cell? (ad.add i) = some (.int .i64 (p : Int)) := hV ▸ z0
    have c1 := j1.cell 0
    have c2 := j2.cell 0
    have f1 := j1.frozen 0
    simp only [List.getElem?_toArray, List.getElem?_cons_zero] at c1 c2
    clear z0
    gi_wp2
    refine Vals6T.regionAll 8 (fun X => Hid (X = V)) [some 25, some 26, some 27, some 28, some 29, some 30, some 31, some 32] [.is ?_, .is ?_, .is ?_, .is ?_, .is ?_, .is ?_, .is ?_, .is ?_] (.inr ⟨l, rfl⟩) (by kernel_rfl) (by kernel_rfl) (by kernel_rfl) rfl (by kernel_rfl) (by kernel_rfl) (by kernel_rfl) (by kernel_rfl) (by kernel_rfl) (by kernel_rfl) rfl (Lib.hid hV) ?hsteps ?hend
    case hsteps =>
      refine Vals5.Steps.run rfl (Vals5.Stable.is _) ?_ ?_
      · intro a W hS pre old K hK
        have e8 := old 8 _ (by kernel_rfl) rfl
        clear pre old
        simp only [Vals5.fits, Array.getD_eq_getD_getElem?, List.getElem?_toArray, List.getElem?_cons_zero, List.getElem?_cons_succ, Option.getD_some] at e8
        have hS9 := hS
        obtain rfl := hS9.out
        go_simp
        refine hK _ _ hS (Below.refl _ _) ?_
        exact fits_is _ w
      refine Vals5.Steps.run rfl (Vals5.Stable.is _) ?_ ?_
      · intro a W hS pre old K hK
        have e10 := old 10 _ (by kernel_rfl) rfl
        clear pre old
        simp only [Vals5.fits, Array.getD_eq_getD_getElem?, List.getElem?_toArray, List.getElem?_cons_zero, List.getElem?_cons_succ, Option.getD_some] at e10
        go_simp
        refine hK _ _ hS (Below.refl _ _) ?_
        exact fits_is _ w
      refine Vals5.Steps.run rfl (Vals5.Stable.is _) ?_ ?_
      · intro a W hS pre old K hK
        have e4 := old 4 _ (by kernel_rfl) rfl
        clear pre old
        simp only [Vals5.fits, Array.getD_eq_getD_getElem?, List.getElem?_toArray, List.getElem?_cons_zero, List.getElem?_cons_succ, Option.getD_some] at e4
        have hS9 := hS
        obtain rfl := hS9.out
        go_simp
        refine hK _ _ hS (Below.refl _ _) ?_
        exact fits_is _ w
      refine Vals5.Steps.run rfl (Vals5.Stable.is _) ?_ ?_
      · intro a W hS pre old K hK
        have e9 := old 9 _ (by kernel_rfl) rfl
        clear pre old
        simp only [Vals5.fits, Array.getD_eq_getD_getElem?, List.getElem?_toArray, List.getElem?_cons_zero, List.getElem?_cons_succ, Option.getD_some] at e9
        go_simp
        refine hK _ _ hS (Below.refl _ _) ?_
        exact fits_is _ w
      refine Vals5.Steps.run rfl (Vals5.Stable.is _) ?_ ?_
      · intro a W hS pre old K hK
        have e27 := pre 2 27 _ (by kernel_rfl) rfl rfl
        have e28 := pre 3 28 _ (by kernel_rfl) rfl rfl
        clear pre old
        simp only [Vals5.fits, Array.getD_eq_getD_getElem?, List.getElem?_toArray, List.getElem?_cons_zero, List.getElem?_cons_succ, Option.getD_some] at e27 e28
        go_simp
        refine hK _ _ hS (Below.refl _ _) ?_
        exact fits_is _ w
      refine Vals5.Steps.run rfl (Vals5.Stable.is _) ?_ ?_
      · intro a W hS pre old K hK
        have e29 := pre 4 29 _ (by kernel_rfl) rfl rfl
        clear pre old
        simp only [Vals5.fits, Array.getD_eq_getD_getElem?, List.getElem?_toArray, List.getElem?_cons_zero, List.getElem?_cons_succ, Option.getD_some] at e29
        have hS9 := hS
        obtain rfl := hS9.out
        go_simp
        refine hK _ _ hS (Below.refl _ _) ?_
        exact fits_is _ w
      refine Vals5.Steps.run rfl (Vals5.Stable.is _) ?_ ?_
      · intro a W hS pre old K hK
        have e26 := pre 1 26 _ (by kernel_rfl) rfl rfl
        have e30 := pre 5 30 _ (by kernel_rfl) rfl rfl
        clear pre old
        simp only [Vals5.fits, Array.getD_eq_getD_getElem?, List.getElem?_toArray, List.getElem?_cons_zero, List.getElem?_cons_succ, Option.getD_some] at e26 e30
        go_simp
        refine hK _ _ hS (Below.refl _ _) ?_
        exact fits_is _ w
      refine Vals5.Steps.run rfl (Vals5.Stable.is _) ?_ ?_
      · intro a W hS pre old K hK
        have e25 := pre 0 25 _ (by kernel_rfl) rfl rfl
        have e31 := pre 6 31 _ (by kernel_rfl) rfl rfl
        clear pre old
        simp only [Vals5.fits, Array.getD_eq_getD_getElem?, List.getElem?_toArray, List.getElem?_cons_zero, List.getElem?_cons_succ, Option.getD_some] at e25 e31
        go_simp
        refine hK _ _ hS (Below.refl _ _) ?_
        exact fits_is _ w
      exact Vals5.Steps.nil
    case hend =>
    rintro X hXV
    obtain rfl : X = V := hXV.out
    simp only [Vals5.All]
    simp only [Vals.putAll, List.setIfInBounds_toArray, List.set_cons_zero, List.set_cons_succ]
    show wpListIn _ _ _ _ _ [_] _ _
    gi_wp2
    have hWV : Below W.heap.size W X := hV ▸ (Below.refl _ _).drew
    refine ⟨(keepsFrom_of_below hWV).trans ((KeepsOthers.setCell _ _ _).from _), (Kp.of hWV).setCell _ _ _ (by omega) (by omega), ⟨⟨⟨?_, j2.far (by omega) _ _⟩, (hV ▸ i3.drew : Blk X _ _ _).far (by omega) _ _⟩, (hV ▸ i4.drew : Blk X _ _ _).far (by omega) _ _⟩, (i5.trans (hWV.mono i5.size)).setCell (p := ⟨w.heap.size + 1 + 1, 0, none⟩) (by simp; omega) _⟩
    rw [HN.out]
    exact j1.set 0 _
  case stop =>
    rintro D c pre W hD ⟨rest, hE⟩ h hK
    exact h.elim
  case done =>
    rintro D ys W hD rfl ⟨⟨⟨⟨i1, i2⟩, i3⟩, i4⟩, i5⟩ hK
    rw [lsum_shows P d n hd hn pay] at i1
    obtain ⟨q, hq⟩ : ∃ q, sumN (n + 1) (fun i => sh P d n i * pay i) = q := ⟨_, rfl⟩
    have hql : q ≤ 209715200000 := by rw [← hq, ← lsum_shows P d n hd hn pay]; exact HSUM.out
    have HV : Hid (prcS P d n pay = q) := hq
    rw [hq] at i1
    clear hq
    have hbp := bn_pos hn
    have hbl := bn_bd' (n := P) (by omega) n
    have t1 : (P : Int) < 21 := by omega
    have t2 : (n : Int) < 21 := by omega
    have t3 : P < 21 := by omega
    have t4 : n < 21 := by omega
    have HS7 := fun X => Lib.hid (shareOf_c q (bn P n) X (by omega) (by omega) hbp)
    go_wp2_with fail
    refine Vals6.regionAll (fun X => ((Blk X (w.heap.size + 1) 90 (fV (0, 0)) ∧ Below w.heap.size w X) ∧ X.heap[D]? = some (.deferred (some []))) ∧ (Blk X (w.heap.size + 1 + 1) 3 #[.int .i64 (q : Int)] ∧ Blk X g 97 (hpV (P : Int) lo hi))) [some 33, some 34, some 35, some 36, some 37, some 38, some 39, some 40, some 41, some 42, some 43, some 44, some 45, some 46] [.is ?_, .is ?_, .is ?_, .is ?_, .is ?_, .is ?_, .is ?_, .is ?_, .is ?_, .is ?_, .is ?_, .is ?_, .is ?_, .is ?_] (by kernel_rfl) rfl rfl (by kernel_rfl) (by kernel_rfl) (by kernel_rfl) (by kernel_rfl) (by kernel_rfl) (by kernel_rfl) rfl (⟨⟨⟨i3.drew, i5.drew⟩, hK⟩, i1.drew, i4.drew⟩) ?hsteps ?hend
    case hsteps =>
      refine Vals5.Steps.run rfl (Vals5.Stable.is _) ?_ ?_
      · intro a W hS pre old K hK
        have e8 := old 8 _ (by kernel_rfl) rfl
        clear pre old
        simp only [Vals5.fits, Array.getD_eq_getD_getElem?, List.getElem?_toArray, List.getElem?_cons_zero, List.getElem?_cons_succ, Option.getD_some] at e8
        have hS9 := hS
        obtain ⟨-, q1, q2⟩ := hS9
        have c1 := q1.cell 0
        have c2 := q2.hcells.1
        have c3 := q2.way (n := P) (k := n) (by omega) (by omega)
        simp only [List.getElem?_toArray, List.getElem?_cons_zero] at c1
        go_simp
        refine hK _ _ hS (Below.refl _ _) ?_
        exact fits_is _ _
      refine Vals5.Steps.run rfl (Vals5.Stable.is _) ?_ ?_
      · intro a W hS pre old K hK
        have e0 := old 0 _ (by kernel_rfl) rfl
        clear pre old
        simp only [Vals5.fits, Array.getD_eq_getD_getElem?, List.getElem?_toArray, List.getElem?_cons_zero, List.getElem?_cons_succ, Option.getD_some] at e0
        go_simp
        refine hK _ _ hS (Below.refl _ _) ?_
        exact fits_is _ _
      refine Vals5.Steps.run rfl (Vals5.Stable.is _) ?_ ?_
      · intro a W hS pre old K hK
        have e0 := old 0 _ (by kernel_rfl) rfl
        clear pre old
        simp only [Vals5.fits, Array.getD_eq_getD_getElem?, List.getElem?_toArray, List.getElem?_cons_zero, List.getElem?_cons_succ, Option.getD_some] at e0
        go_simp
        refine hK _ _ hS (Below.refl _ _) ?_
        exact fits_is _ _
      refine Vals5.Steps.run rfl (Vals5.Stable.is _) ?_ ?_
      · intro a W hS pre old K hK
        have e35 := pre 2 35 _ (by kernel_rfl) rfl rfl
        clear pre old
        simp only [Vals5.fits, Array.getD_eq_getD_getElem?, List.getElem?_toArray, List.getElem?_cons_zero, List.getElem?_cons_succ, Option.getD_some] at e35
        go_simp
        refine hK _ _ hS (Below.refl _ _) ?_
        exact fits_is _ _
      refine Vals5.Steps.run rfl (Vals5.Stable.is _) ?_ ?_
      · intro a W hS pre old K hK
        have e36 := pre 3 36 _ (by kernel_rfl) rfl rfl
        clear pre old
        simp only [Vals5.fits, Array.getD_eq_getD_getElem?, List.getElem?_toArray, List.getElem?_cons_zero, List.getElem?_cons_succ, Option.getD_some] at e36
        go_simp
        refine hK _ _ hS (Below.refl _ _) ?_
        exact fits_is _ _
      refine Vals5.Steps.run rfl (Vals5.Stable.is _) ?_ ?_
      · intro a W hS pre old K hK
        have e37 := pre 4 37 _ (by kernel_rfl) rfl rfl
        clear pre old
        simp only [Vals5.fits, Array.getD_eq_getD_getElem?, List.getElem?_toArray, List.getElem?_cons_zero, List.getElem?_cons_succ, Option.getD_some] at e37
        go_simp
        refine hK _ _ hS (Below.refl _ _) ?_
        exact fits_is _ _
      refine Vals5.Steps.run rfl (Vals5.Stable.is _) ?_ ?_
      · intro a W hS pre old K hK
        have e38 := pre 5 38 _ (by kernel_rfl) rfl rfl
        clear pre old
        simp only [Vals5.fits, Array.getD_eq_getD_getElem?, List.getElem?_toArray, List.getElem?_cons_zero, List.getElem?_cons_succ, Option.getD_some] at e38
        have hS9 := hS
        obtain ⟨-, q1, q2⟩ := hS9
        have c1 := q1.cell 0
        have c2 := q2.hcells.1
        have c3 := q2.way (n := P) (k := n) (by omega) (by omega)
        simp only [List.getElem?_toArray, List.getElem?_cons_zero] at c1
        go_simp
        refine hK _ _ hS (Below.refl _ _) ?_
        exact fits_is _ _
      refine Vals5.Steps.run rfl (Vals5.Stable.is _) ?_ ?_
      · intro a W hS pre old K hK
        have e7 := old 7 _ (by kernel_rfl) rfl
        clear pre old
        simp only [Vals5.fits, Array.getD_eq_getD_getElem?, List.getElem?_toArray, List.getElem?_cons_zero, List.getElem?_cons_succ, Option.getD_some] at e7
        go_simp
        refine hK _ _ hS (Below.refl _ _) ?_
        exact fits_is _ _
      refine Vals5.Steps.run rfl (Vals5.Stable.is _) ?_ ?_
      · intro a W hS pre old K hK
        have e34 := pre 1 34 _ (by kernel_rfl) rfl rfl
        clear pre old
        simp only [Vals5.fits, Array.getD_eq_getD_getElem?, List.getElem?_toArray, List.getElem?_cons_zero, List.getElem?_cons_succ, Option.getD_some] at e34
        go_simp
        refine hK _ _ hS (Below.refl _ _) ?_
        exact fits_is _ _
      refine Vals5.Steps.run rfl (Vals5.Stable.is _) ?_ ?_
      · intro a W hS pre old K hK
        have e41 := pre 8 41 _ (by kernel_rfl) rfl rfl
        clear pre old
        simp only [Vals5.fits, Array.getD_eq_getD_getElem?, List.getElem?_toArray, List.getElem?_cons_zero, List.getElem?_cons_succ, Option.getD_some] at e41
        go_simp
        refine hK _ _ hS (Below.refl _ _) ?_
        exact fits_is _ _
      refine Vals5.Steps.run rfl (Vals5.Stable.is _) ?_ ?_
      · intro a W hS pre old K hK
        have e39 := pre 6 39 _ (by kernel_rfl) rfl rfl
        have e42 := pre 9 42 _ (by kernel_rfl) rfl rfl
        clear pre old
        simp only [Vals5.fits, Array.getD_eq_getD_getElem?, List.getElem?_toArray, List.getElem?_cons_zero, List.getElem?_cons_succ, Option.getD_some] at e39 e42
        go_simp
        refine hK _ _ hS (Below.refl _ _) ?_
        exact fits_is _ _
      refine Vals5.Steps.run rfl (Vals5.Stable.is _) ?_ ?_
      · intro a W hS pre old K hK
        have e40 := pre 7 40 _ (by kernel_rfl) rfl rfl
        have e43 := pre 10 43 _ (by kernel_rfl) rfl rfl
        clear pre old
        simp only [Vals5.fits, Array.getD_eq_getD_getElem?, List.getElem?_toArray, List.getElem?_cons_zero, List.getElem?_cons_succ, Option.getD_some] at e40 e43
        go_simp
        refine hK _ _ hS (Below.refl _ _) ?_
        exact fits_is _ _
      refine Vals5.Steps.run rfl (Vals5.Stable.is _) ?_ ?_
      · intro a W hS pre old K hK
        have e44 := pre 11 44 _ (by kernel_rfl) rfl rfl
        clear pre old
        simp only [Vals5.fits, Array.getD_eq_getD_getElem?, List.getElem?_toArray, List.getElem?_cons_zero, List.getElem?_cons_succ, Option.getD_some] at e44
        have hS9 := hS
        obtain ⟨-, q1, q2⟩ := hS9
        have c1 := q1.cell 0
        have c2 := q2.hcells.1
        have c3 := q2.way (n := P) (k := n) (by omega) (by omega)
        simp only [List.getElem?_toArray, List.getElem?_cons_zero] at c1
        go_simp
        refine hK _ _ hS (Below.refl _ _) ?_
        exact fits_is _ _
      refine Vals5.Steps.run rfl (Vals5.Stable.is _) ?_ ?_
      · intro a W hS pre old K hK
        have e33 := pre 0 33 _ (by kernel_rfl) rfl rfl
        have e45 := pre 12 45 _ (by kernel_rfl) rfl rfl
        clear pre old
        simp only [Vals5.fits, Array.getD_eq_getD_getElem?, List.getElem?_toArray, List.getElem?_cons_zero, List.getElem?_cons_succ, Option.getD_some] at e33 e45
        obtain ⟨⟨⟨q1, q2⟩, q3⟩, q4, q5⟩ := hS
        go_simp
        refine (HS7 _).out.mono ?_
        rintro e w' ⟨rfl, hb'⟩
        refine hK _ _ ⟨⟨⟨q1.keep hb', q2.trans (hb'.mono q2.size)⟩, (hb'.block D (Array.getElem?_eq_some_iff.1 q3).1).trans q3⟩, q4.keep hb', q5.keep hb'⟩ hb' ?_
        exact fits_is _ _
      exact Vals5.Steps.nil
    case hend =>
    rintro X ⟨⟨⟨i3, i5⟩, hK⟩, -⟩
    obtain ⟨v, hv⟩ : ∃ v, ip (shr q (bn P n)) = v := ⟨_, rfl⟩
    have HV2 : Hid (ip (shr q (bn P n)) = v) := hv
    have HR3 := Lib.hid i3
    simp only [Vals5.All]
    simp only [List.getLast_cons_cons, List.getLast_singleton]
    simp only [Vals.putAll, List.setIfInBounds_toArray, List.set_cons_zero, List.set_cons_succ]
    intro K hKK
    rw [hv]
    clear hv
    refine wp_store_row 90 _ _ rfl (w.heap.size + 1) (fV v) rfl rfl 90 _ HR3.out (by kernel_rfl) rfl (by simp [Value.oneCell']) ?_
    refine hKK _ _ ?_
    clear hKK K
    dsimp only [Act.put]
    go_wp2_with fail
    have i6 : Below w.heap.size w (X.setRow (w.heap.size + 1) (fV v)) := below_setRow i5 (by omega) _
    have hK' : (X.setRow (w.heap.size + 1) (fV v)).heap[D]? = some (.deferred (some [])) := (setRow_other X (w.heap.size + 1) D (fV v) (by omega)).trans hK
    have hR9 : Blk ((X.setRow (w.heap.size + 1) (fV v)).putObj D (.deferred none)) (w.heap.size + 1) 90 (fV v) := (i3.row (fV v)).grown (grownBy_putObj' _ D (.deferred none)) (fun e => by cases e; omega)
    refine ⟨by simp, .inl ⟨_, _, rfl, run_takeDeferred hK', ?_⟩⟩
    refine ⟨_, results_cell_row Try.results79 _ _ (w.heap.size + 1) 90 _ (0, 0) _ rfl hR9 Try.underlying90 rfl (by kernel_rfl), ?_, i6.trans (belowK_b (w := w) (Nat.le_refl _) _ D _ _ (by omega) hK' rfl rfl)⟩
    rw [HV.out, HV2.out]
end Td
end Go.Proofs.Ytgkdidnmndmlhaa
