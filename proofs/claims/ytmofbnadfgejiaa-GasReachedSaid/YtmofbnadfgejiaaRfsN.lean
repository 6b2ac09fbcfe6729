import Derived.Test.YtmofbnadfgejiaaBef
/- The refusal's sets, one for each minute; the least levels among them are the first truth. -/
namespace Go.Proofs.Ytmofbnadfgejiaa
open Go.RowKit
namespace Td
set_option linter.unusedSimpArgs false
set_option linter.unusedVariables false
/-- a row of values. -/
def rowL (V : Nat → Value) (n : Nat) : Array Value := ((List.range n).map V).toArray
theorem rowL_size (V : Nat → Value) (n : Nat) : (rowL V n).size = n := by simp [rowL]
theorem rowL_get (V : Nat → Value) {n k : Nat} (h : k < n) : (rowL V n)[k]? = some (V k) := by simp [rowL, h]
theorem rowL_set (V : Nat → Value) (n k : Nat) (v : Value) : (rowL V n).setIfInBounds k v = rowL (fun i => if i = k then v else V i) n := by
  apply Array.ext_getElem?
  intro i
  rw [Array.getElem?_setIfInBounds]
  by_cases hi : i < n
  · rw [rowL_get _ hi, rowL_get _ hi]
    by_cases h : k = i
    · subst h
      simp [rowL_size, hi]
    · simp [h, Ne.symm h]
  · have h1 : (rowL V n)[i]? = none := Array.getElem?_eq_none (by rw [rowL_size]; omega)
    have h2 : (rowL (fun i => if i = k then v else V i) n)[i]? = none := Array.getElem?_eq_none (by rw [rowL_size]; omega)
    rw [h1, h2]
    by_cases h : k = i
    · rw [if_pos h, if_neg (by rw [rowL_size]; omega)]
    · rw [if_neg h]
theorem made_rowL (n : Nat) : madeCells #[.slice none 0 0] n = rowL (fun _ => .slice none 0 0) n := by
  apply Array.ext
  · rw [size_madeCells, rowL_size]
  · intro i h1 h2
    simp [madeCells, rowL, Nat.mod_one]
theorem infoLv : (Try.prog.info? 99).map (fun i => (i.zero, i.size, i.bytes)) = some (some (.slice none 0 0), 1, 24) := by kernel_rfl
/-- the sets of the minutes from t on are there. -/
structure AllAt (W : World) (gA : Nat) (V : Nat → Value) (s : Spc) (l : List Rd) (mn t : Nat) : Prop where
  b : Blk W gA 99 (rowL V (mn + 1))
  r : ∀ j, t ≤ j → j ≤ mn → ∃ g, V j = .slice (some ⟨g, 0, none⟩) 201 201 ∧ g ≠ gA ∧ Blk W g 4 (rB (fun i => alB s l (mn : Int) (mn - j) (i : Int)) 201)
theorem AllAt.keep {W W' : World} {gA : Nat} {V : Nat → Value} {s : Spc} {l : List Rd} {mn t : Nat} (h : AllAt W gA V s l mn t) (hb : Below W.heap.size W W') : AllAt W' gA V s l mn t :=
  ⟨h.b.keep hb, fun j h1 h2 => by obtain ⟨g, h3, h4, h5⟩ := h.r j h1 h2; exact ⟨g, h3, h4, h5.keep hb⟩⟩
theorem AllAt.far {W : World} {gA : Nat} {V : Nat → Value} {s : Spc} {l : List Rd} {mn t : Nat} (h : AllAt W gA V s l mn t) {W' : World} {B : Option Nat} (hg : W.grownBy W' B) (hA : B ≠ some gA) (hB : ∀ k, B = some k → ∃ cs : Array Value, Blk W k 3 cs) : AllAt W' gA V s l mn t :=
  ⟨h.b.grown hg (fun e => hA e.symm), fun j h1 h2 => by
    obtain ⟨g, h3, h4, h5⟩ := h.r j h1 h2
    refine ⟨g, h3, h4, h5.grown hg (fun e => ?_)⟩
    obtain ⟨cs, h6⟩ := hB g e.symm
    have := h6.symm.trans h5
    have h7 : (3 : Nat) = 4 := by injection this with h8; injection h8
    exact absurd h7 (by decide)⟩
theorem AllAt.next {W : World} {gA g : Nat} {V : Nat → Value} {s : Spc} {l : List Rd} {mn t : Nat} (h : AllAt W gA V s l mn (t + 1)) (hg : g ≠ gA) (ht : t ≤ mn) (hb : Blk W g 4 (rB (fun i => alB s l (mn : Int) (mn - t) (i : Int)) 201)) : AllAt (W.setCell ⟨gA, t, none⟩ (.slice (some ⟨g, 0, none⟩) 201 201)) gA (fun i => if i = t then .slice (some ⟨g, 0, none⟩) 201 201 else V i) s l mn t := by
  refine ⟨?_, fun j h1 h2 => ?_⟩
  · have := h.b.set t (.slice (some ⟨g, 0, none⟩) 201 201)
    rwa [rowL_set] at this
  · by_cases hj : j = t
    · subst hj
      exact ⟨g, by simp, hg, hb.far (Ne.symm hg) _ _⟩
    · obtain ⟨g2, h3, h4, h5⟩ := h.r j (by omega) h2
      exact ⟨g2, by rw [if_neg hj]; exact h3, h4, h5.far (Ne.symm h4) _ _⟩
theorem orr_al {s : Spc} {l : List Rd} {mn t : Nat} (ht : t < mn) (i : Nat) : (orr (fun i => alB s l (mn : Int) (mn - (t + 1)) (i : Int)) i (chg s (t : Int)).1 ((chg s (t : Int)).2 - (chg s (t : Int)).1 + 1).toNat && agB s l (t : Int) (i : Int)) = alB s l (mn : Int) (mn - t) (i : Int) := by
  rw [show mn - t = (mn - (t + 1)) + 1 by omega, alB]
  have e : ((mn : Int) - (((mn - (t + 1) : Nat) : Int) + 1)) = (t : Int) := by omega
  rw [e]
  congr 1
  unfold orr
  congr 1
  funext d
  have := hld_in ((i : Int) + ((chg s (t : Int)).1 + (d : Int)))
  show alB s l (mn : Int) (mn - (t + 1)) ((hld ((i : Int) + ((chg s (t : Int)).1 + (d : Int)))).toNat : Int) = _
  rw [Int.toNat_of_nonneg this.1]
theorem bkd_cut {lo lo' c : Nat → Int} {last : Int} {n : Nat} (h : ∀ k, k ≤ n → lo k = lo' k) (j : Nat) : bkd lo c last n j = bkd lo' c last n j := by
  induction j with
  | zero => rfl
  | succ j ih => rw [bkd, bkd, ih, h _ (by omega)]
theorem tru_kno (s : Spc) (l : List Rd) (n : Nat) (last : Int) : tru s (kno l (n : Int)) n last = (List.range (n + 1)).map fun k => bk s l last n (n - k) := by
  unfold tru bk
  refine List.map_congr_left fun k _ => bkd_cut (fun j hj => ?_) _
  unfold lowOf
  rw [lv_cut (l := kno l (n : Int)) (l' := l) (fun i hi => atM_kno_le (by omega))]
/-- the first level. -/
theorem first_al {s : Spc} (hs : SOk s) {l : List Rd} {n : Nat} {x : Int × Int} (hx : lv s l 0 (btw s.s0 s.s1) n = some x) (hlim : s.lim < x.2) :
    (s.s0 ≤ bk s l (max x.1 (s.lim + 1)) n n ∧ bk s l (max x.1 (s.lim + 1)) n n ≤ s.s1) ∧ alB s l (n : Int) n (bk s l (max x.1 (s.lim + 1)) n n) = true ∧ ∀ v, s.s0 ≤ v → v < bk s l (max x.1 (s.lim + 1)) n n → alB s l (n : Int) n v = false := by
  have hxv := vd_lv (s := s) (l := l) (m := 0) (vd_start hs) n x hx
  have h0 : mem (lv s l 0 (btw s.s0 s.s1) n) (max x.1 (s.lim + 1)) := ⟨x, hx, by omega, by omega⟩
  have hm := bk_mem hs h0 n (Nat.le_refl _)
  rw [Nat.sub_self, lv_eq, mem_agr, pre, mem_btw] at hm
  refine ⟨hm.1, bk_al hs hx hlim (Nat.le_refl _), fun v h1 h2 => ?_⟩
  cases ha : alB s l (n : Int) n v with
  | false => rfl
  | true =>
    exfalso
    have hag : agB s l 0 v = true := by
      cases n with
      | zero => rw [alB, Bool.and_eq_true] at ha; exact ha.2
      | succ n =>
        have := ((alB_succ hs).1 ha).2
        rwa [show (((n + 1 : Nat) : Int) - ((n : Int) + 1)) = 0 by omega] at this
    have hmv : mem (lv s l 0 (btw s.s0 s.s1) (n - n)) v := by
      rw [Nat.sub_self, lv_eq, mem_agr, pre, mem_btw]
      exact ⟨⟨h1, by omega⟩, agB_iff.1 (by simpa using hag)⟩
    have := bk_least hs hx hlim (Nat.le_refl _) ha hmv
    omega
/-- the next level: the least one that leads on. -/
theorem next_al {s : Spc} (hs : SOk s) {l : List Rd} {n t : Nat} {x : Int × Int} (hx : lv s l 0 (btw s.s0 s.s1) n = some x) (hlim : s.lim < x.2) (ht : t < n) :
    ∃ b, (chg s (t : Int)).1 ≤ b ∧ b ≤ (chg s (t : Int)).2 ∧ hld (bk s l (max x.1 (s.lim + 1)) n (n - t) + b) = bk s l (max x.1 (s.lim + 1)) n (n - (t + 1)) ∧ alB s l (n : Int) (n - (t + 1)) (hld (bk s l (max x.1 (s.lim + 1)) n (n - t) + b)) = true
      ∧ ∀ e, (chg s (t : Int)).1 ≤ e → e < b → alB s l (n : Int) (n - (t + 1)) (hld (bk s l (max x.1 (s.lim + 1)) n (n - t) + e)) = false := by
  have hxv := vd_lv (s := s) (l := l) (m := 0) (vd_start hs) n x hx
  have h0 : mem (lv s l 0 (btw s.s0 s.s1) n) (max x.1 (s.lim + 1)) := ⟨x, hx, by omega, by omega⟩
  have hc := chg_ok hs (t : Int)
  obtain ⟨p, hp⟩ : ∃ p, bk s l (max x.1 (s.lim + 1)) n (n - t) = p := ⟨_, rfl⟩
  obtain ⟨q, hq⟩ : ∃ q, bk s l (max x.1 (s.lim + 1)) n (n - (t + 1)) = q := ⟨_, rfl⟩
  have hq1 := bk_al hs hx hlim (k := n - (t + 1)) (by omega)
  have hstep := bk_next hs (j := n - (t + 1)) (by omega) (bk_mem hs h0 (n - (t + 1)) (by omega))
  rw [show n - (t + 1) + 1 = n - t by omega, show n - (n - t) = t by omega, hp, hq] at hstep
  rw [hq] at hq1
  obtain ⟨hmp, h1, h2⟩ := hstep
  have hqb := (vd_lv (s := s) (l := l) (m := 0) (vd_start hs) (n - (n - (t + 1)))).mem (bk_mem hs h0 (n - (t + 1)) (by omega))
  rw [hq] at hqb
  -- what leads on is nowhere below
  have hge : ∀ e, (chg s (t : Int)).1 ≤ e → e ≤ (chg s (t : Int)).2 → alB s l (n : Int) (n - (t + 1)) (hld (p + e)) = true → q ≤ hld (p + e) := fun e e0 e1 e2 => by
    rw [← hq]
    refine bk_least hs hx hlim (by omega) e2 ?_
    have hag : agB s l ((t : Int) + 1) (hld (p + e)) = true := by
      by_cases hk : n - (t + 1) = 0
      · rw [hk, alB, Bool.and_eq_true] at e2
        rw [show (t : Int) + 1 = (n : Int) by omega]; exact e2.2
      · obtain ⟨k, hk2⟩ : ∃ k, n - (t + 1) = k + 1 := ⟨n - (t + 1) - 1, by omega⟩
        rw [hk2] at e2
        have := ((alB_succ hs).1 e2).2
        rwa [show ((n : Int) - ((k : Int) + 1)) = (t : Int) + 1 by omega] at this
    rw [show n - (n - (t + 1)) = t + 1 by omega, ← lv_step0, mem_agr]
    refine ⟨?_, agB_iff.1 hag⟩
    obtain ⟨y, hy, y1, y2⟩ := hmp
    rw [hy]
    have hyv := vd_lv (s := s) (l := l) (m := 0) (vd_start hs) t y hy
    exact (mem_aft hyv.2.1 hc.2.1 _).2 ⟨p, e, y1, y2, e0, e1, rfl⟩
  -- the least change that comes to the next level
  obtain ⟨c0, hc0⟩ : ∃ c, (chg s (t : Int)).1 = c := ⟨_, rfl⟩
  obtain ⟨c1, hc1⟩ : ∃ c, (chg s (t : Int)).2 = c := ⟨_, rfl⟩
  rw [hc0, hc1] at hc hge
  rw [hc0] at h1 ⊢
  rw [hc1] at h2 ⊢
  rw [hp, hq]
  have hb2 := (vd_lv (s := s) (l := l) (m := 0) (vd_start hs) t).mem hmp
  obtain ⟨b, b0, b1, b2, b3⟩ : ∃ b, c0 ≤ b ∧ b ≤ c1 ∧ hld (p + b) = q ∧ ∀ e, c0 ≤ e → e < b → hld (p + e) < q := by
    unfold hld at h1 h2 ⊢
    by_cases h5 : q - p < c0
    · exact ⟨c0, by omega, by omega, by omega, fun e _ _ => by omega⟩
    · by_cases h6 : q = 0
      · exact ⟨c0, by omega, by omega, by omega, fun e _ _ => by omega⟩
      · exact ⟨q - p, by omega, by omega, by omega, fun e _ _ => by omega⟩
  refine ⟨b, b0, b1, b2, by rw [b2]; exact hq1, fun e e0 e1 => ?_⟩
  cases ha : alB s l (n : Int) (n - (t + 1)) (hld (p + e)) with
  | false => rfl
  | true =>
    have := hge e e0 (by omega) ha
    have := b3 e e0 e1
    omega
end Td
end Go.Proofs.Ytmofbnadfgejiaa
