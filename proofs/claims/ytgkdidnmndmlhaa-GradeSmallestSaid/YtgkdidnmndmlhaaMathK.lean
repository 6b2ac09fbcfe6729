import Derived.Test.YtgkdidnmndmlhaaMathJ
/- Larger samples pass no more often; the least that does. -/
namespace Go.Proofs.Ytgkdidnmndmlhaa
open Go.RowKit
namespace Td
set_option linter.unusedVariables false
set_option linter.unusedSimpArgs false
/-- the chance that a sample of n shows at most m, as a sum that both sizes share. -/
theorem hd_turn {P n d m : Nat} (hn : n ≤ P) (hd : d ≤ P) : hdS P n d m * bn P d = hdS P d n m * bn P n := by
  have key : ∀ {n d : Nat}, n ≤ P → d ≤ P → hdS P n d m * bn P d = sumN (min n d + 1) (fun i => if i ≤ m then sh P d n i * bn P d else 0) := fun {n d} hn hd => by
    unfold hdS
    rw [Nat.mul_comm, ← sumN_mul]
    rw [sumN_short (m := min n d + 1) (n := n + 1) (by omega) (fun i h1 h2 => by
      rw [sh_none (.inl (by omega))]
      split <;> simp)]
    refine sumN_congr fun i _ => ?_
    split
    · rw [Nat.mul_comm]
    · simp
  rw [key hn hd, key hd hn, Nat.min_comm]
  refine sumN_congr fun i hi => ?_
  rw [turned_sh hd hn (by omega) (by omega)]
theorem ch_swap {P n d m : Nat} (hn : n ≤ P) (hd : d ≤ P) : chS P n m (m + 1) 0 0 d = chS P d m (m + 1) 0 0 n := by
  unfold chS
  rw [avg_once, avg_once, shr_eq (den_pos hn (Nat.zero_le _)) (den_pos hd (Nat.zero_le _)), bn_zero, bn_zero, Nat.mul_one, Nat.mul_one]
  exact hd_turn hn hd
/-- a larger sample passes no more often. -/
theorem ch_less {P n n' d m : Nat} (h : n ≤ n') (hn : n' ≤ P) (hd : d ≤ P) : lt' (chS P n m (m + 1) 0 0 d) (chS P n' m (m + 1) 0 0 d) = false := by
  rw [ch_swap (by omega) hd, ch_swap hn hd]
  exact ch_mono h hn hd (Nat.zero_le _)
theorem ch_min {P n d m : Nat} : chS P n (min m n) (min m n + 1) 0 0 d = chS P n m (m + 1) 0 0 d := by
  unfold chS
  rw [avg_once, avg_once]
  congr 1
  unfold hdS
  refine sumN_congr fun i hi => ?_
  by_cases h : i ≤ m
  · rw [if_pos h, if_pos (by omega)]
  · rw [if_neg h, if_neg (by omega)]
theorem lt_low {a b : Nat} {t : Nat × Nat} (hb : 0 < b) : lt' (a, b) t = lt' (shr a b) t := by
  obtain ⟨g, hg, h1, h2, -⟩ := shr_spec a hb
  unfold lt'
  congr 1
  refine propext ?_
  show a * t.2 < t.1 * b ↔ _
  have e1 : a * t.2 = g * ((shr a b).1 * t.2) := by rw [← Nat.mul_assoc, ← h1]
  have e2 : t.1 * b = g * (t.1 * (shr a b).2) := by rw [Nat.mul_left_comm, ← h2]
  rw [e1, e2]
  exact Nat.mul_lt_mul_left hg
theorem lt_le_tr {s t u : Nat × Nat} (ht : 0 < t.2) (hs : 0 < s.2) (hu : 0 < u.2) (h1 : lt' s t = true) (h2 : lt' u t = false) : lt' s u = true := by
  by_cases h : lt' s u = true
  · exact h
  · have h := lt_no.1 (Bool.eq_false_iff.2 h)
    have h2 := lt_no.1 h2
    have h3 := le_tr hu h2 h
    unfold lt' at h1
    have h1 := of_decide_eq_true h1
    omega
theorem le_le {s t u : Nat × Nat} (ht : 0 < t.2) (h1 : lt' s t = false) (h2 : lt' t u = false) : lt' s u = false := by
  rw [lt_no] at *
  exact le_tr ht h2 h1
theorem ch_pos {P F pa fa S to d : Nat} (hF : F ≤ P) (hS : S ≤ P - F) : 0 < (chS P F pa fa S to d).2 := by unfold chS; exact shr_pos _ (den_pos hF hS)
theorem ok_true {P lo hi pass a b n d : Nat} (hb : 0 < b) (hn : n ≤ P) (h : okS P lo hi pass (shr a b) n = true) (h1 : lo ≤ d) (h2 : d ≤ hi) : lt' (shr a b) (chS P n pass (pass + 1) 0 0 d) = false := by
  unfold okS at h
  have := List.all_eq_true.1 h (d - lo) (List.mem_range.2 (by omega))
  rw [show lo + (d - lo) = d by omega] at this
  rcases (Bool.or_eq_true _ _).mp this with e | e
  · rw [of_decide_eq_true e]
    exact decide_eq_false (Nat.lt_irrefl _)
  · exact lt_asym e
theorem ok_false {P lo hi pass a b n : Nat} (hb : 0 < b) (hn : n ≤ P) (h : okS P lo hi pass (shr a b) n = false) : ∃ d, lo ≤ d ∧ d ≤ hi ∧ lt' (shr a b) (chS P n pass (pass + 1) 0 0 d) = true := by
  unfold okS at h
  obtain ⟨k, hk, e⟩ := List.all_eq_false.1 h
  have hk := List.mem_range.1 hk
  refine ⟨lo + k, by omega, by omega, ?_⟩
  have e := Bool.eq_false_iff.2 e
  rw [Bool.or_eq_false_iff] at e
  by_cases h3 : lt' (shr a b) (chS P n pass (pass + 1) 0 0 (lo + k)) = true
  · exact h3
  · refine absurd ?_ (of_decide_eq_false e.1)
    unfold chS at e h3 ⊢
    exact shr_both (den_pos hn (Nat.zero_le _)) hb e.2 (Bool.eq_false_iff.2 h3)
/-- with a sample that is at least the least one. -/
theorem sma_big {P lo hi pass a b n o d : Nat} (hb : 0 < b) (hok : okS P lo hi pass (shr a b) n = true) (hno : n ≤ o) (ho : o ≤ P) (h1 : lo ≤ d) (h2 : d ≤ hi) (hh : hi ≤ P) : lt' (a, b) (chS P o (min pass o) (min pass o + 1) 0 0 d) = false := by
  rw [lt_low hb, ch_min]
  exact le_le (ch_pos (by omega) (Nat.zero_le _)) (ok_true hb (by omega) hok h1 h2) (ch_less hno ho (by omega))
/-- with a smaller one. -/
theorem sma_small {P lo hi pass a b o : Nat} (hb : 0 < b) (hno : okS P lo hi pass (shr a b) o = false) (ho : o ≤ P) (hlh : lo ≤ hi) (hh : hi ≤ P) : lt' (a, b) (chS P o (min pass o) (min pass o + 1) 0 0 lo) = true := by
  rw [lt_low hb, ch_min]
  obtain ⟨d, h1, h2, h3⟩ := ok_false hb ho hno
  exact lt_le_tr (ch_pos ho (Nat.zero_le _)) (shr_pos _ hb) (ch_pos ho (Nat.zero_le _)) h3 (ch_mono h1 (by omega) ho (Nat.zero_le _))
end Td
end Go.Proofs.Ytgkdidnmndmlhaa
