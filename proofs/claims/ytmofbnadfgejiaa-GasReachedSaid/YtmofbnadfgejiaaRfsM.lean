import Derived.Test.YtmofbnadfgejiaaLvlM
/- The first truth of a refusal: the reference's sets of levels that lead to too much gas, and the least levels among them. -/
namespace Go.Proofs.Ytmofbnadfgejiaa
namespace Td
set_option linter.unusedVariables false
/-- from which levels, k minutes ahead of minute m, there can be too much gas at m. -/
def alB (s : Spc) (l : List Rd) (m : Int) : Nat → Int → Bool
  | 0, n => decide (s.lim < n) && agB s l m n
  | k + 1, n => ((List.range ((chg s (m - (k + 1))).2 - (chg s (m - (k + 1))).1 + 1).toNat).any fun d => alB s l m k (hld (n + ((chg s (m - (k + 1))).1 + (d : Int))))) && agB s l (m - (k + 1)) n
theorem alB_succ {s : Spc} (hs : SOk s) {l : List Rd} {m : Int} {k : Nat} {n : Int} : alB s l m (k + 1) n = true ↔ (∃ b, (chg s (m - (k + 1))).1 ≤ b ∧ b ≤ (chg s (m - (k + 1))).2 ∧ alB s l m k (hld (n + b)) = true) ∧ agB s l (m - (k + 1)) n = true := by
  have hc := chg_ok hs (m - (k + 1))
  rw [alB, Bool.and_eq_true, List.any_eq_true]
  constructor
  · rintro ⟨⟨d, hd, h⟩, h2⟩
    have := List.mem_range.1 hd
    exact ⟨⟨_, by omega, by omega, h⟩, h2⟩
  · rintro ⟨⟨b, h1, h2, h3⟩, h4⟩
    refine ⟨⟨(b - (chg s (m - (k + 1))).1).toNat, List.mem_range.2 (by omega), ?_⟩, h4⟩
    rw [show (chg s (m - (k + 1))).1 + ((b - (chg s (m - (k + 1))).1).toNat : Int) = b by omega]
    exact h3
/-- every truth that comes to too much gas is nowhere below the one that is built backwards. -/
theorem bk_least {s : Spc} (hs : SOk s) {l : List Rd} {n : Nat} {x : Int × Int} (hx : lv s l 0 (btw s.s0 s.s1) n = some x) (hlim : s.lim < x.2) {k : Nat} (hk : k ≤ n) {v : Int} (hv : alB s l (n : Int) k v = true) (hm : mem (lv s l 0 (btw s.s0 s.s1) (n - k)) v) :
    bk s l (max x.1 (s.lim + 1)) n k ≤ v := by
  induction k generalizing v with
  | zero =>
    rw [alB, Bool.and_eq_true, decide_eq_true_eq] at hv
    rw [Nat.sub_zero, hx, mem_some] at hm
    show max x.1 (s.lim + 1) ≤ v
    omega
  | succ k ih =>
    obtain ⟨⟨b, h1, h2, h3⟩, h4⟩ := (alB_succ hs).1 hv
    have hc : ((n : Int) - ((k : Int) + 1)) = ((n - (k + 1) : Nat) : Int) := by omega
    rw [hc] at h1 h2 h4
    -- the next level is one of the levels, too
    have hnx : mem (lv s l 0 (btw s.s0 s.s1) (n - k)) (hld (v + b)) := by
      have hlk : lv s l 0 (btw s.s0 s.s1) (n - k) = agr s (atM l (((n - k : Nat) : Int))) ((lv s l 0 (btw s.s0 s.s1) (n - (k + 1))).bind fun y => aft y (chg s ((n - (k + 1) : Nat) : Int))) := by
        rw [show n - k = (n - (k + 1)) + 1 by omega, lv, Int.zero_add, Int.zero_add]
      have hag : agB s l ((n - k : Nat) : Int) (hld (v + b)) = true := by
        cases k with
        | zero =>
          rw [alB, Bool.and_eq_true] at h3
          rw [Nat.sub_zero]; exact h3.2
        | succ k =>
          have h5 := ((alB_succ hs).1 h3).2
          rw [show ((n - (k + 1) : Nat) : Int) = (n : Int) - (((k : Nat) : Int) + 1) by omega]; exact h5
      rw [hlk, mem_agr]
      refine ⟨?_, agB_iff.1 hag⟩
      obtain ⟨y, hy, y1, y2⟩ := hm
      rw [hy]
      have hyv := vd_lv (s := s) (l := l) (m := 0) (vd_start hs) (n - (k + 1)) y hy
      exact (mem_aft hyv.2.1 (chg_ok hs _).2.1 _).2 ⟨v, b, y1, y2, h1, h2, rfl⟩
    have h5 := ih (by omega) h3 hnx
    have hxv := vd_lv (s := s) (l := l) (m := 0) (vd_start hs) n x hx
    have h00 : mem (lv s l 0 (btw s.s0 s.s1) n) (max x.1 (s.lim + 1)) := ⟨x, hx, by omega, by omega⟩
    have hqb := (vd_lv (s := s) (l := l) (m := 0) (vd_start hs) (n - k)).mem (bk_mem hs h00 k (by omega))
    have hd : bk s l (max x.1 (s.lim + 1)) n (k + 1) = if bk s l (max x.1 (s.lim + 1)) n k = 0 then lowOf s l 0 (btw s.s0 s.s1) (n - (k + 1)) else max (lowOf s l 0 (btw s.s0 s.s1) (n - (k + 1))) (bk s l (max x.1 (s.lim + 1)) n k - (chg s ((n - (k + 1) : Nat) : Int)).2) := rfl
    rw [hd]
    obtain ⟨y, hy, y1, y2⟩ := hm
    have hlo : lowOf s l 0 (btw s.s0 s.s1) (n - (k + 1)) = y.1 := by simp [lowOf, hy]
    rw [hlo]
    obtain ⟨q, hq⟩ : ∃ q, bk s l (max x.1 (s.lim + 1)) n k = q := ⟨_, rfl⟩
    rw [hq] at h5 hqb ⊢
    unfold hld at h5
    split <;> omega
/-- the one that is built backwards comes to too much gas. -/
theorem bk_al {s : Spc} (hs : SOk s) {l : List Rd} {n : Nat} {x : Int × Int} (hx : lv s l 0 (btw s.s0 s.s1) n = some x) (hlim : s.lim < x.2) {k : Nat} (hk : k ≤ n) : alB s l (n : Int) k (bk s l (max x.1 (s.lim + 1)) n k) = true := by
  have hxv := vd_lv (s := s) (l := l) (m := 0) (vd_start hs) n x hx
  have h0 : mem (lv s l 0 (btw s.s0 s.s1) n) (max x.1 (s.lim + 1)) := ⟨x, hx, by omega, by omega⟩
  have hag : ∀ j, j ≤ n → agB s l ((n - j : Nat) : Int) (bk s l (max x.1 (s.lim + 1)) n j) = true := fun j hj => by
    have := bk_mem hs h0 j hj
    rw [lv_eq, mem_agr, Int.zero_add] at this
    exact agB_iff.2 this.2
  induction k with
  | zero =>
    rw [alB, Bool.and_eq_true, decide_eq_true_eq]
    refine ⟨?_, ?_⟩
    · show s.lim < max x.1 (s.lim + 1); omega
    · have := hag 0 (by omega); rwa [Nat.sub_zero] at this
  | succ k ih =>
    refine (alB_succ hs).2 ⟨?_, ?_⟩
    · have hn := bk_next hs hk (bk_mem hs h0 k (by omega))
      rw [show ((n : Int) - ((k : Int) + 1)) = ((n - (k + 1) : Nat) : Int) by omega]
      have hc := chg_ok hs ((n - (k + 1) : Nat) : Int)
      obtain ⟨_, h1, h2⟩ := hn
      have hb := (vd_lv (s := s) (l := l) (m := 0) (vd_start hs) (n - k)).mem (bk_mem hs h0 k (by omega))
      have hb2 := (vd_lv (s := s) (l := l) (m := 0) (vd_start hs) (n - (k + 1))).mem (bk_mem hs h0 (k + 1) hk)
      have ih := ih (by omega)
      obtain ⟨p, hp⟩ : ∃ p, bk s l (max x.1 (s.lim + 1)) n (k + 1) = p := ⟨_, rfl⟩
      obtain ⟨q, hq⟩ : ∃ q, bk s l (max x.1 (s.lim + 1)) n k = q := ⟨_, rfl⟩
      rw [hp] at h1 h2 hb2 ⊢
      rw [hq] at h1 h2 hb ih
      obtain ⟨c0, hc0⟩ : ∃ c, (chg s ((n - (k + 1) : Nat) : Int)).1 = c := ⟨_, rfl⟩
      obtain ⟨c1, hc1⟩ : ∃ c, (chg s ((n - (k + 1) : Nat) : Int)).2 = c := ⟨_, rfl⟩
      rw [hc0, hc1] at hc
      rw [hc0] at h1 ⊢
      rw [hc1] at h2 ⊢
      obtain ⟨b, b0, b1, b2⟩ : ∃ b, c0 ≤ b ∧ b ≤ c1 ∧ hld (p + b) = q := by
        unfold hld at h1 h2 ⊢
        by_cases h5 : q - p < c0
        · exact ⟨c0, by omega, by omega, by omega⟩
        · by_cases h6 : c1 < q - p
          · exact ⟨c1, by omega, by omega, by omega⟩
          · exact ⟨q - p, by omega, by omega, by omega⟩
      exact ⟨b, b0, b1, by rw [b2]; exact ih⟩
    · rw [show ((n : Int) - ((k : Int) + 1)) = ((n - (k + 1) : Nat) : Int) by omega]
      exact hag (k + 1) hk
end Td
end Go.Proofs.Ytmofbnadfgejiaa
