import Derived.Test.YtmofbnadfgejiaaMath
/- While a reading covers a minute, no level can be above the limit then: what GasFewest says of a truth. -/
namespace Go.Proofs.Ytmofbnadfgejiaa
namespace Td
set_option linter.unusedVariables false
/-- a truth that is at most h at minute m is at most Tp afterwards. -/
theorem step_Tp {s : Spc} {m : Int} {t : Nat → Int} {h : Int} {n : Nat} (hst : Step s m t n) (h0 : t 0 ≤ h) : ∀ k, k ≤ n → t k ≤ Tp s m h k := by
  intro k
  induction k with
  | zero => intro _; exact h0
  | succ k ih =>
    intro hk
    obtain ⟨b, b1, b2, b3⟩ := hst k (by omega)
    have := ih (by omega)
    rw [b3, Tp]
    exact hld_mono (by omega)
theorem step_shift {s : Spc} {t : Nat → Int} {n : Nat} (hst : Step s 0 t n) {j k : Nat} (h : j + k ≤ n) : Step s (j : Int) (fun i => t (j + i)) k := fun i hi => by
  obtain ⟨b, h1, h2, h3⟩ := hst (j + i) (by omega)
  refine ⟨b, ?_, ?_, h3⟩
  · rw [show (j : Int) + (i : Int) = 0 + ((j + i : Nat) : Int) by omega]; exact h1
  · rw [show (j : Int) + (i : Int) = 0 + ((j + i : Nat) : Int) by omega]; exact h2
theorem few_burns {s : Spc} (hs : SOk s) {tool shown : Int} {T : Nat → Int} {R : List Rd} {j t : Nat} (h0 : s.s0 ≤ T 0 ∧ T 0 ≤ s.s1) (hst : ∀ n, Step s 0 T n) (hf : ∀ r ∈ R, near s r (T r.min.toNat)) (hjt : j ≤ t) (ht : t ≤ 60)
    (hc : (t : Int) ≤ hol s ⟨(j : Int), tool, shown⟩) {q : Rd} (hq : q ∈ R) (hqm : q.min = (j : Int)) (hqt : q.tool = tool) (hqs : q.shown ≤ shown) :
    ∃ x, now s R (t : Int) = some x ∧ (t : Int) ≤ untl s (kno R (t : Int)) (t : Int) (some x) ∧ T t ≤ s.lim := by
  obtain ⟨x, hx, hx1, hx2⟩ := true_now (mi := t) hs h0 hst hf
  have hv := now_vd hs x hx
  have heo : errOf s ⟨(j : Int), tool, shown⟩ = errOf s q := by unfold errOf; rw [← hqt]
  have hneg : 0 ≤ shown + errOf s q := by
    rcases Int.lt_or_le (shown + errOf s q) 0 with h | h
    · unfold hol at hc
      rw [if_pos (by rw [heo]; exact h)] at hc
      omega
    · exact h
  obtain ⟨L, hL⟩ : ∃ L, hld (shown + errOf s q) = L := ⟨_, rfl⟩
  rw [hol_eq (by rw [heo]; exact hneg), heo] at hc
  have hc2 : (t : Int) ≤ untl s [] (j : Int) (some (L, L)) := by rw [← hL]; exact hc
  have hg : good s [] (j : Int) (some (L, L)) (t - j) = true := by
    unfold untl at hc2
    simp only [] at hc2
    refine lead_true (n := (61 - (j : Int)).toNat) ?_
    split at hc2 <;> omega
  rw [good_hol hs, decide_eq_true_eq] at hg
  have hm : mem (now s R (t : Int)) x.2 := ⟨x, hx, hv.2.1, Int.le_refl _⟩
  unfold now at hm
  rw [Int.toNat_natCast] at hm
  obtain ⟨T', t1, t2, t3, t4⟩ := (mem_lv hs (vd_start hs) t x.2).1 hm
  have hn : near s q (T' j) := t3 j hjt q (List.mem_filter.2 ⟨hq, by simp; omega⟩) (by omega)
  have hb : T' j ≤ L := by
    rw [← hL]
    have h1 : T' j ≤ 200 ∧ 0 ≤ T' j := by
      cases j with
      | zero =>
        obtain ⟨y, hy, y1, y2⟩ := t1
        have := vd_start hs y hy
        omega
      | succ j =>
        obtain ⟨b, b1, b2, b3⟩ := t2 j (by omega)
        rw [b3]
        have := hld_in (T' j + b)
        omega
    have h2 := hn.2
    unfold hld
    omega
  have hT := step_Tp (s := s) (h := L) (n := t - j) (step_shift t2 (j := j) (k := t - j) (by omega)) hb (t - j) (Nat.le_refl _)
  have hT2 : T' t ≤ Tp s (j : Int) L (t - j) := by
    have : T' (j + (t - j)) ≤ Tp s (j : Int) L (t - j) := hT
    rwa [show j + (t - j) = t by omega] at this
  have hlim : x.2 ≤ s.lim := by omega
  refine ⟨x, hx, ?_, by omega⟩
  refine (untl_ge (by omega) (by omega)).1.2 ?_
  have h5 := good_now hs hx 0
  rw [h5, decide_eq_true_eq]
  exact hlim
end Td
end Go.Proofs.Ytmofbnadfgejiaa
