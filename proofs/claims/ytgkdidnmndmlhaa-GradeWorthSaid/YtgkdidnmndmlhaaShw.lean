import Derived.Test.YtgkdidnmndmlhaaExpA
import Derived.Test.YtgkdidnmndmlhaaRep
import Derived.Test.YtgkdidnmndmlhaaPrc
/- The exported function Shows. -/
namespace Go.Proofs.Ytgkdidnmndmlhaa
open Go.RowKit
namespace Td
set_option linter.unusedSimpArgs false
set_option linter.unusedVariables false
attribute [local go_sem] Oper.semAt_some
/-- what a sample shows. -/
def shwL (P b n : Nat) : List (Nat × Nat) := (List.range (n + 1)).map fun i => shr (sh P b n i) (bn P n)
theorem shwL_len (P b n : Nat) : (shwL P b n).length = n + 1 := by simp [shwL]
theorem shwL_get {P b n i : Nat} (h : i ≤ n) : (shwL P b n)[i]? = some (shr (sh P b n i) (bn P n)) := by
  unfold shwL
  rw [List.getElem?_map, List.getElem?_range (by omega)]
  rfl
/-- the list as it is filled. -/
def filL (N q : Nat) (pre : List (Nat × Nat)) : List (Nat × Nat) := pre.foldl (fun l x => l.set x.1 (shr x.2 q)) (List.replicate N (0, 1))
theorem filL_snoc (N q : Nat) (pre : List (Nat × Nat)) (x : Nat × Nat) : filL N q (pre ++ [x]) = (filL N q pre).set x.1 (shr x.2 q) := by
  unfold filL; rw [List.foldl_append]; rfl
theorem filL_len (N q : Nat) (pre : List (Nat × Nat)) : (filL N q pre).length = N := by
  have : ∀ (pre l : List (Nat × Nat)), (pre.foldl (fun l x => l.set x.1 (shr x.2 q)) l).length = l.length := by
    intro pre
    induction pre with
    | nil => intro l; rfl
    | cons x r ih => intro l; rw [List.foldl_cons, ih, List.length_set]
  unfold filL
  rw [this, List.length_replicate]
theorem fil_range (N q lo : Nat) (f : Nat → Nat) (m : Nat) (hm : lo + m ≤ N) (i : Nat) (hi : i < N) :
    (filL N q ((List.range m).map fun k => (lo + k, f (lo + k))))[i]? = some (if lo ≤ i ∧ i < lo + m then shr (f i) q else (0, 1)) := by
  induction m with
  | zero =>
    rw [if_neg (by omega)]
    show (List.replicate N ((0, 1) : Nat × Nat))[i]? = _
    rw [List.getElem?_replicate, if_pos hi]
  | succ m ih =>
    rw [List.range_succ, List.map_append, List.map_cons, List.map_nil, filL_snoc]
    simp only
    by_cases h : lo + m = i
    · subst h
      rw [List.getElem?_set_self (by rw [filL_len]; omega), if_pos (by omega)]
    · rw [List.getElem?_set_ne h, ih (by omega)]
      by_cases h2 : lo ≤ i ∧ i < lo + m
      · rw [if_pos h2, if_pos (by omega)]
      · rw [if_neg h2, if_neg (by omega)]
theorem fil_shows {P b n : Nat} (hb : b ≤ P) (hn : n ≤ P) : filL (n + 1) (bn P n) (showsL P b n) = shwL P b n := by
  have hle := loS_le hb hn
  have hq := bn_pos hn
  have hhi : hiS b n ≤ n := by unfold hiS; omega
  apply List.ext_getElem?
  intro i
  by_cases hi : i < n + 1
  · unfold showsL
    rw [fil_range (n + 1) (bn P n) (loS P b n) (fun i => sh P b n i) _ (by omega) i hi, shwL_get (by omega)]
    by_cases h : loS P b n ≤ i ∧ i < loS P b n + (hiS b n + 1 - loS P b n)
    · rw [if_pos h]
    · rw [if_neg h]
      have h0 : sh P b n i = 0 := sh_none (by
        rcases Nat.lt_or_ge i (loS P b n) with k | k
        · right; unfold loS at k; omega
        · left
          have : hiS b n < i := by omega
          unfold hiS at this; omega)
      rw [h0, shr_zero hq]
  · rw [List.getElem?_eq_none (by rw [filL_len]; omega), List.getElem?_eq_none (by rw [shwL_len]; omega)]
/-- a share put into a row of them. -/
theorem putL_flS (l : List (Nat × Nat)) (i : Nat) (s : Nat × Nat) (hi : i < l.length) : putL (flS l).toArray (i * 2) (fV (ip s)).toList = (flS (l.set i s)).toArray := by
  have hlen : (flS (l.set i s)).length = (flS l).length := by rw [flS_len, flS_len, List.length_set]
  apply Array.ext_getElem?
  intro k
  rw [show (flS (l.set i s)).toArray[k]? = (flS (l.set i s))[k]? from List.getElem?_toArray]
  by_cases h0 : k = i * 2
  · subst h0
    have e1 := putL_in (fV (ip s)).toList (i * 2) (flS l).toArray 0 _ rfl (by rw [List.size_toArray, flS_len]; omega)
    have e2 := (flS_get (l.set i s) i s (by rw [List.getElem?_set_self hi])).1
    rw [Nat.add_zero] at e1
    rw [e1, e2]
  · by_cases h1 : k = i * 2 + 1
    · subst h1
      have e1 := putL_in (fV (ip s)).toList (i * 2) (flS l).toArray 1 _ rfl (by rw [List.size_toArray, flS_len]; omega)
      have e2 := (flS_get (l.set i s) i s (by rw [List.getElem?_set_self hi])).2
      rw [e1, e2]
    · have hl2 : (fV (ip s)).toList.length = 2 := rfl
      rw [putL_out _ _ _ _ (by rw [hl2]; omega), List.getElem?_toArray]
      by_cases hk : k < (flS l).length
      · rw [flS_len] at hk
        have hj : k / 2 < l.length := by omega
        have hne : i ≠ k / 2 := by omega
        obtain ⟨a1, a2⟩ := flS_get l (k / 2) _ (List.getElem?_eq_getElem hj)
        obtain ⟨b1, b2⟩ := flS_get (l.set i s) (k / 2) l[k / 2] (by rw [List.getElem?_set_ne hne, List.getElem?_eq_getElem hj])
        rcases Nat.mod_two_eq_zero_or_one k with h2 | h2
        · rw [show k = k / 2 * 2 by omega, a1, b1]
        · rw [show k = k / 2 * 2 + 1 by omega, a2, b2]
      · rw [List.getElem?_eq_none (by omega), List.getElem?_eq_none (by omega)]
theorem KeepsOthers.setCells : ∀ (vs : List Value) (W : World) (g o : Nat), KeepsOthers W (W.setCells g o vs)
  | [], W, _, _ => KeepsOthers.refl W
  | v :: r, W, g, o => by rw [World.setCells]; exact (KeepsOthers.setCell W ⟨g, o, none⟩ v).trans (KeepsOthers.setCells r _ g (o + 1))
theorem Kp.setCells : ∀ (vs : List Value) {a b c e : Nat} {A W : World} (g o : Nat), Kp a b c e A W → a ≤ g → g < b → Kp a b c e A (W.setCells g o vs)
  | [], _, _, _, _, _, _, _, _, h, _, _ => h
  | v :: r, _, _, _, _, _, _, g, o, h, h1, h2 => by rw [World.setCells]; exact Kp.setCells r g (o + 1) (h.setCell g o v h1 h2) h1 h2
theorem Below.setCellsB : ∀ (vs : List Value) {w W : World} {g : Nat} (o : Nat), w.heap.size ≤ g → Below w.heap.size w W → Below w.heap.size w (W.setCells g o vs)
  | [], _, _, _, _, _, h => h
  | v :: r, w, W, g, o, hg, h => by rw [World.setCells]; exact Below.setCellsB r (o + 1) hg (h.setCell (p := ⟨g, o, none⟩) hg v)
/-- the error of Shows. -/
def shwE (P lo hi b n : Int) : Int := if chkE P lo hi = 0 then (if wi lo hi b = true ∧ wi 0 P n = true then 0 else 7) else chkE P lo hi
set_option maxRecDepth 100000 in
set_option maxHeartbeats 4000000 in
theorem Shows_c (P lo hi b n : Int) (w : World) :
    Calls Try.prog 21 #[.agg (gV P lo hi), .int .i64 b, .int .i64 n] w fun e w' => Below w.heap.size w w' ∧
      ((shwE P lo hi b n = 0 ∧ ∃ g, e = .returned (.tuple #[.slice (some ⟨g, 0, none⟩) (n.toNat + 1) (n.toNat + 1), .int .i64 0]) ∧ w.heap.size ≤ g ∧ Blk w' g 41 (flS (shwL P.toNat b.toNat n.toNat)).toArray) ∨
       (shwE P lo hi b n ≠ 0 ∧ e = .returned (.tuple #[.slice none 0 0, .int .i64 (shwE P lo hi b n)]))) := by
  refine (callsIn_wide (n := 6)).1 ?_
  refine callsIn_of_wp_marks Try.func21 rfl trivial ?_ rfl
  simp only [Try.ntmps21, List.size_toArray, List.length_cons, List.length_nil, Nat.reduceAdd, Nat.reduceSub, Array.replicate_succ, Array.replicate_zero, List.push_toArray, List.append_toArray, List.nil_append, List.cons_append]
  refine wpIn_wide.2 ?_
  have hs0 := ((Since.refl w).alloc (.cells (gV P lo hi) 25)).alloc (.cells #[.int .i64 n] 3)
  have HG := Lib.hid ((Blk.new w 25 (gV P lo hi)).alloc (.cells #[.int .i64 n] 3))
  have HN := Lib.hid (Blk.new1 w (.cells (gV P lo hi) 25) 3 #[.int .i64 n])
  obtain ⟨c0, c1, c2⟩ := HG.out.gcells
  go_wp2_with fail
  refine (look_c P lo hi _).mono ?_
  rintro e w1 ⟨hb1, ⟨hc, g, rfl, hg⟩ | ⟨hc, rfl⟩⟩
  · have hs1 := (hs0.keep hb1).alloc (.cells #[hpP g] 87)
    have HG1 := Lib.hid ((HG.out.keep hb1).alloc (.cells #[hpP g] 87))
    have HN1 := Lib.hid ((HN.out.keep hb1).alloc (.cells #[hpP g] 87))
    have HB1 := Lib.hid (Blk.new w1 87 #[hpP g])
    have HQ1 := Lib.hid (hg.alloc (.cells #[hpP g] 87))
    have hz1 : w.heap.size + 1 < w1.heap.size := (HN.out.keep hb1).lt
    have HC := Lib.hid hc
    obtain ⟨a1, a2, a3, a4, a5⟩ := chkE_ok.1 hc
    clear c0 c1 c2 HG HN hb1 hg hc
    obtain ⟨W1, hW1⟩ : ∃ W1, w1.alloc (.cells #[hpP g] 87) = W1 := ⟨_, rfl⟩
    have hgbW : w1.heap.size < W1.heap.size := by rw [← hW1]; simp
    obtain ⟨gh, hgh⟩ : ∃ gh, w1.heap.size = gh := ⟨_, rfl⟩
    rw [hgh] at HB1 hz1 hgbW
    rw [hW1] at hs1 HG1 HN1 HB1 HQ1
    obtain ⟨c0, c1, c2⟩ := HG1.out.gcells
    have hs2 := hs1.alloc (.cells #[.int .i64 b] 3)
    cases h0 : wi lo hi b
    · have HV : Hid (shwE P lo hi b n = 7) := by show _ = _; unfold shwE; rw [if_pos HC.out, if_neg (by rw [h0]; rintro ⟨h, -⟩; cases h)]
      have H0 := Lib.hid h0
      clear h0 a1 a2 a3 a4 a5
      go_wp2_with fail
      refine (within1_c _ _ _ _ 3 _ (Blk.newS (by simp))).mono ?_
      rintro e w' ⟨rfl, rfl⟩
      rw [H0.out]
      clear c0 c1 c2 hW1
      go_wp2_with fail
      refine ⟨_, results_tmp2 Try.results21 _ _ _, hs2.1, .inr ⟨by rw [HV.out]; decide, by rw [HV.out]; rfl⟩⟩
    · have H0 := Lib.hid h0
      have hw0 := wi_iff.1 h0
      have HN2 := Lib.hid (HN1.out.alloc (.cells #[.int .i64 b] 3))
      have HG2 := Lib.hid (HG1.out.alloc (.cells #[.int .i64 b] 3))
      have HB2 := Lib.hid (HB1.out.alloc (.cells #[.int .i64 b] 3))
      have HQ2 := Lib.hid (HQ1.out.alloc (.cells #[.int .i64 b] 3))
      obtain ⟨W2, hW2⟩ : ∃ W2, W1.alloc (.cells #[.int .i64 b] 3) = W2 := ⟨_, rfl⟩
      have HW := Lib.hid (within1_c lo hi b W1.heap.size 3 _ (Blk.new W1 3 #[.int .i64 b]))
      have hW12 : W1.heap.size < W2.heap.size := by rw [← hW2]; simp
      rw [hW2] at hs2 HN2 HG2 HB2 HQ2 HW
      obtain ⟨d0, d1, d2⟩ := HG2.out.gcells
      have l0 := HN2.out.cell 0
      simp only [List.getElem?_toArray, List.getElem?_cons_zero] at l0
      cases h1 : wi 0 P n
      · have HV : Hid (shwE P lo hi b n = 7) := by show _ = _; unfold shwE; rw [if_pos HC.out, if_neg (by rw [h1]; rintro ⟨-, h⟩; cases h)]
        have H1 := Lib.hid h1
        have hs3 := hs2.alloc (.cells #[.int .i64 n] 3)
        clear h0 h1 hw0 a1 a2 a3 a4 a5
        go_wp2_with fail
        refine HW.out.mono ?_
        rintro e w' ⟨rfl, rfl⟩
        rw [H0.out]
        go_wp2_with fail
        refine (within1_c _ _ _ _ 3 _ (Blk.newS (by simp))).mono ?_
        rintro e w' ⟨rfl, rfl⟩
        rw [H1.out]
        clear c0 c1 c2 d0 d1 d2 l0 hW1 hW2
        go_wp2_with fail
        refine ⟨_, results_tmp2 Try.results21 _ _ _, hs3.1, .inr ⟨by rw [HV.out]; decide, by rw [HV.out]; rfl⟩⟩
      · have hw1 := wi_iff.1 h1
        have H1 := Lib.hid h1
        have HV : Hid (shwE P lo hi b n = 0) := by show _ = _; unfold shwE; rw [if_pos HC.out, if_pos ⟨h0, h1⟩]
        have hs3 := hs2.alloc (.cells #[.int .i64 n] 3)
        have HN3 := Lib.hid (HN2.out.alloc (.cells #[.int .i64 n] 3))
        have HG3 := Lib.hid (HG2.out.alloc (.cells #[.int .i64 n] 3))
        have HB3 := Lib.hid (HB2.out.alloc (.cells #[.int .i64 n] 3))
        have HQ3 := Lib.hid (HQ2.out.alloc (.cells #[.int .i64 n] 3))
        clear h0 h1
        obtain ⟨P, rfl⟩ : ∃ P' : Nat, P = P' := ⟨P.toNat, by omega⟩
        obtain ⟨lo, rfl⟩ : ∃ P' : Nat, lo = P' := ⟨lo.toNat, by omega⟩
        obtain ⟨hi, rfl⟩ : ∃ P' : Nat, hi = P' := ⟨hi.toNat, by omega⟩
        obtain ⟨b, rfl⟩ : ∃ P' : Nat, b = P' := ⟨b.toNat, by omega⟩
        obtain ⟨n, rfl⟩ : ∃ P' : Nat, n = P' := ⟨n.toNat, by omega⟩
        have hbP : b ≤ P := by omega
        have hnP : n ≤ P := by omega
        have hP : P ≤ 20 := by omega
        clear hw0 hw1 a1 a2 a3 a4 a5
        go_wp2_with fail
        refine HW.out.mono ?_
        rintro e w' ⟨rfl, rfl⟩
        rw [H0.out]
        go_wp2_with fail
        refine (within1_c _ _ _ _ 3 _ (Blk.newS (by simp))).mono ?_
        rintro e w' ⟨rfl, rfl⟩
        rw [H1.out]
        clear c0 c1 c2 d0 d1 d2 l0 hW1 hgh
        go_wp2_with fail
        obtain ⟨W3, hW3⟩ : ∃ W3, W2.alloc (.cells #[.int .i64 (n : Int)] 3) = W3 := ⟨_, rfl⟩
        rw [hW3] at hs3 HN3 HG3 HB3 HQ3 ⊢
        have hW23 : W2.heap.size < W3.heap.size := by rw [← hW3]; simp
        clear hW3 hW2 HN2 HG2 HB2 HQ2 HN1 HG1 HB1 HQ1 hs1 hs2 HW
        refine (shareOf_c 0 1 _ (by omega) (by omega) (by omega)).mono ?_
        rw [show ip (shr 0 1) = (0, 1) by rw [shr_zero (by omega)]; rfl]
        rintro e w4 ⟨rfl, hb4⟩
        have hs5 := (((hs3.keep hb4).alloc (.cells (fV (0, 1)) 41)).alloc (.cells (fV (0, 1)) 41))
        have HN5 := Lib.hid (((HN3.out.keep hb4).alloc (.cells (fV (0, 1)) 41)).alloc (.cells (fV (0, 1)) 41))
        have HG5 := Lib.hid (((HG3.out.keep hb4).alloc (.cells (fV (0, 1)) 41)).alloc (.cells (fV (0, 1)) 41))
        have HB5 := Lib.hid (((HB3.out.keep hb4).alloc (.cells (fV (0, 1)) 41)).alloc (.cells (fV (0, 1)) 41))
        have HQ5 := Lib.hid (((HQ3.out.keep hb4).alloc (.cells (fV (0, 1)) 41)).alloc (.cells (fV (0, 1)) 41))
        have HS5 := Lib.hid (Blk.new1 w4 (.cells (fV (0, 1)) 41) 41 (fV (0, 1)))
        have hg4 : g < w4.heap.size := (HQ3.out.keep hb4).lt
        have hz4 : gh < w4.heap.size := Nat.lt_of_lt_of_le hgbW (by have := hb4.size; omega)
        have l0 := HN5.out.cell 0
        have f0 := (Blk.new w4 41 (fV (0, 1))).fcells (s := (0, 1))
        obtain ⟨f0, f1⟩ := f0
        simp only [List.getElem?_toArray, List.getElem?_cons_zero] at l0
        obtain ⟨N, hN⟩ : ∃ N, n + 1 = N := ⟨_, rfl⟩
        have t1 : IntKind.i64.wrap ((n : Int) + 1) = (N : Int) := by rw [wrapI (by unfold I64; omega)]; omega
        have HREP := Lib.hid (Repeat_c (0, 1) (w4.heap.size + 1) N _ HS5.out (by omega) (by omega))
        have HNN := Lib.hid hN
        clear hN
        clear HN3 HG3 HB3 HQ3 hs3 hb4
        go_wp2_with fail
        refine HREP.out.mono ?_
        rintro e w6 ⟨gr, rfl, hgr, hR6, hb6⟩
        have hs7 := (hs5.keep hb6).alloc (.cells #[.slice (some ⟨gr, 0, none⟩) N N] 31)
        have HN7 := Lib.hid ((HN5.out.keep hb6).alloc (.cells #[.slice (some ⟨gr, 0, none⟩) N N] 31))
        have HG7 := Lib.hid ((HG5.out.keep hb6).alloc (.cells #[.slice (some ⟨gr, 0, none⟩) N N] 31))
        have HB7 := Lib.hid ((HB5.out.keep hb6).alloc (.cells #[.slice (some ⟨gr, 0, none⟩) N N] 31))
        have HQ7 := Lib.hid ((HQ5.out.keep hb6).alloc (.cells #[.slice (some ⟨gr, 0, none⟩) N N] 31))
        have HR7 := Lib.hid (hR6.alloc (.cells #[.slice (some ⟨gr, 0, none⟩) N N] 31))
        have HV7 := Lib.hid (Blk.new w6 31 #[.slice (some ⟨gr, 0, none⟩) N N])
        have hg45 : w4.heap.size + 1 + 1 ≤ gr := by simpa using hgr
        have hgr6 : gr < w6.heap.size := hR6.lt
        have hgl7 : g < w6.heap.size := (HQ5.out.keep hb6).lt
        obtain ⟨p1, hp1⟩ : ∃ p1, W1.heap.size = p1 := ⟨_, rfl⟩
        obtain ⟨p2, hp2⟩ : ∃ p2, W2.heap.size = p2 := ⟨_, rfl⟩
        obtain ⟨p4, hp4⟩ : ∃ p4, w4.heap.size = p4 := ⟨_, rfl⟩
        obtain ⟨wa, hwa⟩ : ∃ wa, w6.alloc (.cells #[.slice (some ⟨gr, 0, none⟩) N N] 31) = wa := ⟨_, rfl⟩
        obtain ⟨gv, hgv⟩ : ∃ gv, w6.heap.size = gv := ⟨_, rfl⟩
        have hza : wa.heap.size = gv + 1 := by rw [← hwa, ← hgv]; simp
        rw [hwa] at hs7 HN7 HG7 HB7 HQ7 HR7 HV7
        rw [hgv] at HV7 hgr6 hgl7
        rw [hp4] at hg45 hz4 hg4
        clear HREP HS5 HN5 HG5 HB5 HQ5 hgr hR6 hb6 hs5 t1 l0 f0 f1
        have l0 := HN7.out.cell 0
        have b0 := HB7.out.cell 0
        obtain ⟨c0, c1, c2⟩ := HG7.out.gcells
        simp only [List.getElem?_toArray, List.getElem?_cons_zero] at l0 b0
        clear hW23 hW12
        have hsh := shows_c g (P : Int) (b : Int) (n : Int) wa
        have HSH := Lib.hid hsh
        clear hsh
        go_wp2_with fail
        refine HSH.out.mono ?_
        rintro e w0 ⟨rfl, hw0⟩
        obtain ⟨hz0, hb0⟩ := shows_w0 hw0
        have C := Cs.mk4 (a := gr) (b := gr + 1) hw0 HQ7.out (by omega) (by omega) hbP hnP hP
        clear hw0 HSH hwa hp1 hp2 hp4 hgv l0 b0 c0 c1 c2
        go_wp2_with fail
        obtain ⟨q, hq⟩ : ∃ q, bn P n = q := ⟨_, rfl⟩
        have hql : 1 ≤ q ∧ q ≤ 184756 := by have h1 := bn_pos hnP; have h2 := bn_le (P := P) (n := n) hP; omega
        have HQ := Lib.hid hq
        clear hq
        refine (wpIn_wide (n := 6)).1 ?_
        refine rangeFunc_d (w := w0) rfl (by omega) (gf := 85) (lb := #[hpP (wa.heap.size + 1), hpP (wa.heap.size + 1 + 1), hpP (wa.heap.size + 1 + 1 + 1), hpP wa.heap.size]) (by first | rfl | (rw [hza]; rfl)) trivial (enters_of Try.func85 (by kernel_rfl) rfl)
          (shows_seq (c := w0.heap.size) (ee := w0.heap.size + 2) _ (by omega) C) Kp.trans (fun W o o' hg hc _ => Kp.put W _ o o' (by omega) (by omega) hg hc) (Below.refl _ _) (fun _ => rfl)
          (fun pre W => (((((Blk W gr 41 (flS (filL N q pre)).toArray ∧ Blk W gv 31 #[.slice (some ⟨gr, 0, none⟩) N N]) ∧ Blk W gh 87 #[hpP g]) ∧ Blk W w.heap.size 25 (gV P lo hi)) ∧ Blk W (w.heap.size + 1) 3 #[.int .i64 n]) ∧ Blk W g 97 (hpV P lo hi)) ∧ Below w.heap.size w W)
          (fun c pre W => False)
          (((((((AllFrom.blk (by omega) _ (fun pre => (flS (filL N q pre)).toArray)).and (AllFrom.blk (by omega) _ _)).and (AllFrom.blk (by omega) _ _)).and (AllFrom.blk (by omega) _ _)).and (AllFrom.blk (by omega) _ _)).and (AllFrom.blk (by omega) _ _)).and (AllFrom.below (Nat.le_refl _) (by omega)))
          (fun _ _ _ _ _ hs _ _ => hs)
          ⟨⟨⟨⟨⟨⟨?start, HV7.out.keep hb0⟩, HB7.out.keep hb0⟩, HG7.out.keep hb0⟩, HN7.out.keep hb0⟩, HQ7.out.keep hb0⟩, hs7.1.trans (hb0.mono hs7.2)⟩
          (fun x a' W => a' = { tmps := #[.agg (gV P lo hi), .int .i64 b, .int .i64 n, hpP w.heap.size, undef, hpP (w.heap.size + 1), .slice none 0 0, .int .i64 0, hpP gh, .int .i64 0, hpP p4, hpP gv, .int .i64 (x.1 : Nat), .int .i64 (x.2 : Nat), .tuple #[hpP g, .int .i64 0], .agg #[.int .i64 P, .int .i64 lo, .int .i64 hi], .tuple #[hpP g, .int .i64 0], hpP g, .int .i64 0, .int .i64 0, .bool false, undef, .pointer (some ⟨w.heap.size, 1, none⟩), .pointer (some ⟨w.heap.size, 1, none⟩), .int .i64 lo, .pointer (some ⟨w.heap.size, 1, none⟩), .pointer (some ⟨w.heap.size, 2, none⟩), .int .i64 hi, .int .i64 b, .slice (some ⟨p1, 0, none⟩) 1 1, .bool true, .bool false, .bool false, hpP w.heap.size, .int .i64 P, .int .i64 n, .slice (some ⟨p2, 0, none⟩) 1 1, .bool true, .bool false, .bool false, .agg (fV (0, 1)), .agg #[.int .i64 0, .int .i64 1], .slice (some ⟨p4 + 1, 0, none⟩) 1 1, .int .i64 n, .int .i64 N, .slice (some ⟨gr, 0, none⟩) N N, hpP g, hpP w.heap.size, .int .i64 P, .int .i64 b, .int .i64 n, .func (.func 85) #[] #[hpP (gv + 1 + 1), hpP (gv + 1 + 1 + 1), hpP (gv + 1 + 1 + 1 + 1), hpP (gv + 1)], .int .i64 (x.1 : Nat), .int .i64 (x.2 : Nat), undef, undef, undef, undef, undef, undef, undef, undef, undef, undef, undef, undef, undef, undef, undef], defers := [] })
          (fun x a' _ X Y row hs hg hr => hs)
          ?assign ?body ?done ?stop
        case start =>
          have e : (flS (filL N q [])).toArray = rpA (0, 1) N N := by
            unfold rpA filL
            rw [Nat.sub_self, List.replicate_zero, List.append_nil]
            rfl
          rw [e]
          exact HR7.out.keep hb0
        case assign =>
          rintro l pre x W K i0 hK
          gi_wp2
          exact hK _ _ (keepsFrom_of_below (Below.refl _ _)) (.refl _ _ _ _ _) i0 rfl
        case body =>
          rintro l pre x a' W hl ⟨r, hr⟩ ⟨⟨⟨⟨⟨⟨i1, i2⟩, i3⟩, i4⟩, i5⟩, i6⟩, i7⟩ rfl ⟨rest, hrest⟩
          have hxm := showsL_mem (x := x) (P := P) (b := b) (n := n) (by rw [hrest]; simp)
          have hxn : x.1 ≤ n := by have := hxm.2.1; unfold hiS at this; omega
          have hx2 : x.2 ≤ q := by rw [hxm.2.2, ← HQ.out]; exact sh_le hbP hxn
          have hN := HNN.out
          obtain ⟨i, hi'⟩ : ∃ i, x.1 = i := ⟨_, rfl⟩
          obtain ⟨s, hs⟩ : ∃ s, x.2 = s := ⟨_, rfl⟩
          have HF : Hid (filL N q (pre ++ [x]) = (filL N q pre).set i (shr s q)) := by show _ = _; rw [filL_snoc, hs, hi']
          have hiN : i < (filL N q pre).length := by rw [filL_len]; omega
          have HIN := Lib.hid hiN
          have HL : Hid ((flS (filL N q pre)).toArray.size = N * 2) := by show _ = _; rw [List.size_toArray, flS_len, filL_len]
          rw [hi'] at hxn
          rw [hs] at hx2
          rw [hi', hs]
          have HSO := Lib.hid (fun W => shareOf_c s q W (by omega) (by omega) (by omega))
          obtain ⟨v, hv⟩ : ∃ v, shr s q = v := ⟨_, rfl⟩
          rw [hv] at HF HSO
          obtain ⟨cur, hcur⟩ : ∃ cur, filL N q pre = cur := ⟨_, rfl⟩
          rw [hcur] at HF i1 HL HIN
          have t1 : (i : Int) < (N : Int) := by omega
          have t2 : i < N := by omega
          have t3 : (P : Int) < 21 := by omega
          have t4 : (n : Int) < 21 := by omega
          have t5 : P < 21 := by omega
          have t6 : n < 21 := by omega
          clear hxm hi' hs hv hcur hiN hrest hN
          obtain ⟨V, hV⟩ : ∃ V, W.drew = V := ⟨_, rfl⟩
          have hV7 : Below W.heap.size W V := hV ▸ (Below.refl _ _).drew
          have j1 := i1.keep hV7
          have j2 := i2.keep hV7
          have j3 := i3.keep hV7
          have j4 := i4.keep hV7
          have j5 := i5.keep hV7
          have j6 := i6.keep hV7
          gi_wp2
          refine Vals6T.regionAll 14 (fun X => Below V.heap.size V X) [some 54, some 55, some 56, some 57, some 58, some 59, some 60, some 61, some 62, some 63, some 64, some 65, some 66, some 67] [.is ?_, .is ?_, .is ?_, .is ?_, .is ?_, .is ?_, .is ?_, .is ?_, .is ?_, .is ?_, .is ?_, .is ?_, .is ?_, .is ?_] (.inr ⟨l, rfl⟩) (by kernel_rfl) (by kernel_rfl) (by kernel_rfl) rfl (by kernel_rfl) (by kernel_rfl) (by kernel_rfl) (by kernel_rfl) (by kernel_rfl) (by kernel_rfl) rfl (by rw [hV]; exact Below.refl _ _) ?hsteps ?hend
          case hsteps =>
            refine Vals5.Steps.run rfl (Vals5.Stable.is _) ?_ ?_
            · intro a W hS pre old K hK
              have e11 := old 11 _ (by kernel_rfl) rfl
              clear pre old
              simp only [Vals5.fits, Array.getD_eq_getD_getElem?, List.getElem?_toArray, List.getElem?_cons_zero, List.getElem?_cons_succ, Option.getD_some] at e11
              have hS9 := hS
              have c1 := (j2.keep hS9).cell 0
              have c2 := (j3.keep hS9).cell 0
              have c3 := (j5.keep hS9).cell 0
              obtain ⟨c4, c5, c6⟩ := (j4.keep hS9).gcells
              have c7 := (j6.keep hS9).way (n := P) (k := n) (by omega) (by omega)
              rw [HQ.out] at c7
              simp only [List.getElem?_toArray, List.getElem?_cons_zero] at c1 c2 c3
              go_simp
              refine hK _ _ hS (Below.refl _ _) ?_
              exact fits_is _ _
            refine Vals5.Steps.run rfl (Vals5.Stable.is _) ?_ ?_
            · intro a W hS pre old K hK
              have e12 := old 12 _ (by kernel_rfl) rfl
              clear pre old
              simp only [Vals5.fits, Array.getD_eq_getD_getElem?, List.getElem?_toArray, List.getElem?_cons_zero, List.getElem?_cons_succ, Option.getD_some] at e12
              go_simp
              refine hK _ _ hS (Below.refl _ _) ?_
              exact fits_is _ _
            refine Vals5.Steps.run rfl (Vals5.Stable.is _) ?_ ?_
            · intro a W hS pre old K hK
              have e13 := old 13 _ (by kernel_rfl) rfl
              clear pre old
              simp only [Vals5.fits, Array.getD_eq_getD_getElem?, List.getElem?_toArray, List.getElem?_cons_zero, List.getElem?_cons_succ, Option.getD_some] at e13
              go_simp
              refine hK _ _ hS (Below.refl _ _) ?_
              exact fits_is _ _
            refine Vals5.Steps.run rfl (Vals5.Stable.is _) ?_ ?_
            · intro a W hS pre old K hK
              have e8 := old 8 _ (by kernel_rfl) rfl
              clear pre old
              simp only [Vals5.fits, Array.getD_eq_getD_getElem?, List.getElem?_toArray, List.getElem?_cons_zero, List.getElem?_cons_succ, Option.getD_some] at e8
              have hS9 := hS
              have c1 := (j2.keep hS9).cell 0
              have c2 := (j3.keep hS9).cell 0
              have c3 := (j5.keep hS9).cell 0
              obtain ⟨c4, c5, c6⟩ := (j4.keep hS9).gcells
              have c7 := (j6.keep hS9).way (n := P) (k := n) (by omega) (by omega)
              rw [HQ.out] at c7
              simp only [List.getElem?_toArray, List.getElem?_cons_zero] at c1 c2 c3
              go_simp
              refine hK _ _ hS (Below.refl _ _) ?_
              exact fits_is _ _
            refine Vals5.Steps.run rfl (Vals5.Stable.is _) ?_ ?_
            · intro a W hS pre old K hK
              have e3 := old 3 _ (by kernel_rfl) rfl
              clear pre old
              simp only [Vals5.fits, Array.getD_eq_getD_getElem?, List.getElem?_toArray, List.getElem?_cons_zero, List.getElem?_cons_succ, Option.getD_some] at e3
              go_simp
              refine hK _ _ hS (Below.refl _ _) ?_
              exact fits_is _ _
            refine Vals5.Steps.run rfl (Vals5.Stable.is _) ?_ ?_
            · intro a W hS pre old K hK
              have e58 := pre 4 58 _ (by kernel_rfl) rfl rfl
              clear pre old
              simp only [Vals5.fits, Array.getD_eq_getD_getElem?, List.getElem?_toArray, List.getElem?_cons_zero, List.getElem?_cons_succ, Option.getD_some] at e58
              have hS9 := hS
              have c1 := (j2.keep hS9).cell 0
              have c2 := (j3.keep hS9).cell 0
              have c3 := (j5.keep hS9).cell 0
              obtain ⟨c4, c5, c6⟩ := (j4.keep hS9).gcells
              have c7 := (j6.keep hS9).way (n := P) (k := n) (by omega) (by omega)
              rw [HQ.out] at c7
              simp only [List.getElem?_toArray, List.getElem?_cons_zero] at c1 c2 c3
              go_simp
              refine hK _ _ hS (Below.refl _ _) ?_
              exact fits_is _ _
            refine Vals5.Steps.run rfl (Vals5.Stable.is _) ?_ ?_
            · intro a W hS pre old K hK
              have e5 := old 5 _ (by kernel_rfl) rfl
              clear pre old
              simp only [Vals5.fits, Array.getD_eq_getD_getElem?, List.getElem?_toArray, List.getElem?_cons_zero, List.getElem?_cons_succ, Option.getD_some] at e5
              have hS9 := hS
              have c1 := (j2.keep hS9).cell 0
              have c2 := (j3.keep hS9).cell 0
              have c3 := (j5.keep hS9).cell 0
              obtain ⟨c4, c5, c6⟩ := (j4.keep hS9).gcells
              have c7 := (j6.keep hS9).way (n := P) (k := n) (by omega) (by omega)
              rw [HQ.out] at c7
              simp only [List.getElem?_toArray, List.getElem?_cons_zero] at c1 c2 c3
              go_simp
              refine hK _ _ hS (Below.refl _ _) ?_
              exact fits_is _ _
            refine Vals5.Steps.run rfl (Vals5.Stable.is _) ?_ ?_
            · intro a W hS pre old K hK
              have e57 := pre 3 57 _ (by kernel_rfl) rfl rfl
              clear pre old
              simp only [Vals5.fits, Array.getD_eq_getD_getElem?, List.getElem?_toArray, List.getElem?_cons_zero, List.getElem?_cons_succ, Option.getD_some] at e57
              go_simp
              refine hK _ _ hS (Below.refl _ _) ?_
              exact fits_is _ _
            refine Vals5.Steps.run rfl (Vals5.Stable.is _) ?_ ?_
            · intro a W hS pre old K hK
              have e61 := pre 7 61 _ (by kernel_rfl) rfl rfl
              clear pre old
              simp only [Vals5.fits, Array.getD_eq_getD_getElem?, List.getElem?_toArray, List.getElem?_cons_zero, List.getElem?_cons_succ, Option.getD_some] at e61
              go_simp
              refine hK _ _ hS (Below.refl _ _) ?_
              exact fits_is _ _
            refine Vals5.Steps.run rfl (Vals5.Stable.is _) ?_ ?_
            · intro a W hS pre old K hK
              have e59 := pre 5 59 _ (by kernel_rfl) rfl rfl
              have e62 := pre 8 62 _ (by kernel_rfl) rfl rfl
              clear pre old
              simp only [Vals5.fits, Array.getD_eq_getD_getElem?, List.getElem?_toArray, List.getElem?_cons_zero, List.getElem?_cons_succ, Option.getD_some] at e59 e62
              go_simp
              refine hK _ _ hS (Below.refl _ _) ?_
              exact fits_is _ _
            refine Vals5.Steps.run rfl (Vals5.Stable.is _) ?_ ?_
            · intro a W hS pre old K hK
              have e60 := pre 6 60 _ (by kernel_rfl) rfl rfl
              have e63 := pre 9 63 _ (by kernel_rfl) rfl rfl
              clear pre old
              simp only [Vals5.fits, Array.getD_eq_getD_getElem?, List.getElem?_toArray, List.getElem?_cons_zero, List.getElem?_cons_succ, Option.getD_some] at e60 e63
              go_simp
              refine hK _ _ hS (Below.refl _ _) ?_
              exact fits_is _ _
            refine Vals5.Steps.run rfl (Vals5.Stable.is _) ?_ ?_
            · intro a W hS pre old K hK
              have e64 := pre 10 64 _ (by kernel_rfl) rfl rfl
              clear pre old
              simp only [Vals5.fits, Array.getD_eq_getD_getElem?, List.getElem?_toArray, List.getElem?_cons_zero, List.getElem?_cons_succ, Option.getD_some] at e64
              have hS9 := hS
              have c1 := (j2.keep hS9).cell 0
              have c2 := (j3.keep hS9).cell 0
              have c3 := (j5.keep hS9).cell 0
              obtain ⟨c4, c5, c6⟩ := (j4.keep hS9).gcells
              have c7 := (j6.keep hS9).way (n := P) (k := n) (by omega) (by omega)
              rw [HQ.out] at c7
              simp only [List.getElem?_toArray, List.getElem?_cons_zero] at c1 c2 c3
              go_simp
              refine hK _ _ hS (Below.refl _ _) ?_
              exact fits_is _ _
            refine Vals5.Steps.run rfl (Vals5.Stable.is _) ?_ ?_
            · intro a W hS pre old K hK
              have e56 := pre 2 56 _ (by kernel_rfl) rfl rfl
              have e65 := pre 11 65 _ (by kernel_rfl) rfl rfl
              clear pre old
              simp only [Vals5.fits, Array.getD_eq_getD_getElem?, List.getElem?_toArray, List.getElem?_cons_zero, List.getElem?_cons_succ, Option.getD_some] at e56 e65
              go_simp
              refine (HSO.out _).mono ?_
              rintro e w' ⟨rfl, hb'⟩
              refine hK _ _ (hS.trans (hb'.mono hS.size)) hb' ?_
              exact fits_is _ _
            refine Vals5.Steps.run rfl (Vals5.Stable.is _) ?_ ?_
            · intro a W hS pre old K hK
              have e54 := pre 0 54 _ (by kernel_rfl) rfl rfl
              have e55 := pre 1 55 _ (by kernel_rfl) rfl rfl
              clear pre old
              simp only [Vals5.fits, Array.getD_eq_getD_getElem?, List.getElem?_toArray, List.getElem?_cons_zero, List.getElem?_cons_succ, Option.getD_some] at e54 e55
              go_simp
              refine hK _ _ hS (Below.refl _ _) ?_
              exact fits_is _ _
            exact Vals5.Steps.nil
          case hend =>
          rintro X hVX
          simp only [Vals5.All]
          simp only [Vals.putAll, List.setIfInBounds_toArray, List.set_cons_zero, List.set_cons_succ]
          show wpListIn _ _ _ _ _ [_] _ _
          refine wpListIn_plain rfl fun K hKK => ?_
          refine wpIn_of_wp (.inr ⟨l, rfl⟩) rfl ?_
          have bX := j1.keep hVX
          refine wp_store_mid 41 _ _ rfl gr (i * 2) (fV (ip v)) rfl rfl (there_of bX (by rw [HL.out]; show i * 2 + 2 ≤ N * 2; omega)) (by kernel_rfl) (by simp [Value.oneCell']) ?_
          refine hKK _ _ ?_
          have hWX : Below W.heap.size W X := hV7.trans (hVX.mono hV7.size)
          refine ⟨(keepsFrom_of_below hWX).trans ((KeepsOthers.setCells _ _ _ _).from _), Kp.setCells _ _ _ (Kp.of hWX) (by omega) (by omega), ⟨⟨⟨⟨⟨⟨?_, Blk.setCellsFar _ _ (by omega) (j2.keep hVX)⟩, Blk.setCellsFar _ _ (by omega) (j3.keep hVX)⟩, Blk.setCellsFar _ _ (by omega) (j4.keep hVX)⟩, Blk.setCellsFar _ _ (by omega) (j5.keep hVX)⟩, Blk.setCellsFar _ _ (by omega) (j6.keep hVX)⟩, Below.setCellsB _ _ (by omega) (i7.trans (hWX.mono i7.size))⟩⟩
          rw [HF.out, ← putL_flS cur i v HIN.out]
          exact Blk.setCells (fV (ip v)).toList (i * 2) bX
        case stop =>
          rintro D c pre W hD ⟨rest, hE⟩ h hK
          exact h.elim
        case done =>
          rintro D ys W hD rfl ⟨⟨⟨⟨⟨⟨i1, i2⟩, i3⟩, i4⟩, i5⟩, i6⟩, i7⟩ hK
          rw [← HNN.out, ← HQ.out, fil_shows hbP hnP] at i1
          have e2 := i2.cell 0
          simp only [List.getElem?_toArray, List.getElem?_cons_zero] at e2
          go_wp2_with fail
          have hN := HNN.out
          refine ⟨by simp, .inl ⟨_, _, rfl, run_takeDeferred hK, ?_⟩⟩
          refine ⟨_, results_tmp2 Try.results21 _ _ _, i7.trans (belowK_b (w := w) (Nat.le_refl _) _ D _ _ (by omega) hK rfl rfl), .inl ⟨HV.out, gr, ?_, by omega, ?_⟩⟩
          · rw [Int.toNat_natCast, hN]
            rfl
          · simp only [Int.toNat_natCast]
            exact i1.grown (grownBy_putObj' _ D (.deferred none)) (fun e => by cases e; omega)
  · have hs1 := (hs0.keep hb1).alloc (.cells #[.pointer none] 87)
    have HV : Hid (shwE P lo hi b n = chkE P lo hi) := by show _ = _; unfold shwE; rw [if_neg hc]
    obtain ⟨e, he⟩ : ∃ e, chkE P lo hi = e := ⟨_, rfl⟩
    rw [he] at HV hc ⊢
    have hc' : (e != 0) = true := by simpa using hc
    have HE := Lib.hid hc
    clear c0 c1 c2 HG HN hb1 he hc
    go_wp2_with fail
    refine ⟨_, results_tmp2 Try.results21 _ _ _, hs1.1, .inr ⟨by rw [HV.out]; exact HE.out, by rw [HV.out]; rfl⟩⟩
end Td
end Go.Proofs.Ytgkdidnmndmlhaa
