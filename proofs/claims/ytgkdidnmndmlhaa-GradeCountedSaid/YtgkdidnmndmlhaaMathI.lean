import Derived.Test.YtgkdidnmndmlhaaMathH
/- All sets of pieces, gone through: how many have so many pieces, and so many of the bad ones. -/
namespace Go.Proofs.Ytgkdidnmndmlhaa
namespace Td
/-- how many of the first bits of a number are 1. -/
def bt : Nat → Nat → Nat
  | _, 0 => 0
  | s, n + 1 => s % 2 + bt (s / 2) n
theorem bt_succ (s n : Nat) : bt s (n + 1) = s % 2 + bt (s / 2) n := rfl
theorem bt_le : ∀ s n : Nat, bt s n ≤ n
  | _, 0 => Nat.le_refl 0
  | s, n + 1 => by rw [bt_succ]; have := bt_le (s / 2) n; omega
theorem bt_mono : ∀ {b P : Nat} (s : Nat), b ≤ P → bt s b ≤ bt s P
  | 0, _, _, _ => Nat.zero_le _
  | b + 1, 0, _, h => by omega
  | b + 1, P + 1, s, h => by rw [bt_succ, bt_succ]; have := bt_mono (b := b) (P := P) (s / 2) (by omega); omega
theorem bt_even (s n : Nat) : bt (2 * s) (n + 1) = bt s n := by
  rw [bt_succ, show 2 * s % 2 = 0 by omega, show 2 * s / 2 = s by omega, Nat.zero_add]
theorem bt_odd (s n : Nat) : bt (2 * s + 1) (n + 1) = 1 + bt s n := by
  rw [bt_succ, show (2 * s + 1) % 2 = 1 by omega, show (2 * s + 1) / 2 = s by omega]
theorem sumN_pairs (N : Nat) (f : Nat → Nat) : sumN (2 * N) f = sumN N (fun s => f (2 * s) + f (2 * s + 1)) := by
  induction N with
  | zero => rfl
  | succ N ih => rw [show 2 * (N + 1) = 2 * N + 1 + 1 by omega, sumN_succ, sumN_succ, sumN_succ, ih]; omega
/-- one for each set of n pieces. -/
def fA (P n s : Nat) : Nat := if bt s P = n then 1 else 0
def fB (P b n i s : Nat) : Nat := if bt s P = n ∧ bt s b = i then 1 else 0
theorem allSets : ∀ P n : Nat, sumN (2 ^ P) (fA P n) = bn P n
  | 0, 0 => rfl
  | 0, n + 1 => by
    rw [Nat.pow_zero, sumN_succ]
    show 0 + (if 0 = n + 1 then 1 else 0) = 0
    rw [if_neg (by omega)]
  | P + 1, 0 => by
    have h := allSets P 0
    rw [bn_zero] at h
    rw [Nat.pow_succ, Nat.mul_comm, sumN_pairs, bn_zero]
    refine Eq.trans (sumN_congr fun s _ => ?_) h
    unfold fA
    rw [bt_even, bt_odd, if_neg (by omega : ¬ 1 + bt s P = 0), Nat.add_zero]
  | P + 1, n + 1 => by
    rw [Nat.pow_succ, Nat.mul_comm, sumN_pairs, bn_succ, ← allSets P n, ← allSets P (n + 1), ← sumN_add]
    refine sumN_congr fun s _ => ?_
    have e : fA (P + 1) (n + 1) (2 * s + 1) = fA P n s := by
      unfold fA
      rw [bt_odd]
      by_cases h : bt s P = n
      · rw [if_pos h, if_pos (by omega)]
      · rw [if_neg h, if_neg (by omega)]
    have e2 : fA (P + 1) (n + 1) (2 * s) = fA P (n + 1) s := by unfold fA; rw [bt_even]
    rw [e, e2, Nat.add_comm]
theorem badSets : ∀ P b n i : Nat, b ≤ P → i ≤ n → sumN (2 ^ P) (fB P b n i) = sh P b n i
  | P, 0, n, 0, _, _ => by
    have e : sh P 0 n 0 = bn P n := by unfold sh; rw [bn_zero, Nat.sub_zero, Nat.sub_zero, Nat.one_mul]
    rw [e, ← allSets P n]
    refine sumN_congr fun s _ => ?_
    unfold fB fA
    by_cases h : bt s P = n
    · rw [if_pos ⟨h, rfl⟩, if_pos h]
    · rw [if_neg (fun e => h e.1), if_neg h]
  | P, 0, n, i + 1, _, _ => by
    rw [sh_none (.inl (Nat.succ_pos i))]
    refine sumN_zero fun s _ => ?_
    unfold fB
    exact if_neg fun e => by have := e.2; exact absurd this (by show ¬ 0 = i + 1; omega)
  | 0, b + 1, n, i, h, _ => by omega
  | P + 1, b + 1, n, 0, h, _ => by
    have e : sh (P + 1) (b + 1) n 0 = sh P b n 0 := by unfold sh; rw [bn_zero, bn_zero, show P + 1 - (b + 1) = P - b by omega]
    rw [Nat.pow_succ, Nat.mul_comm, sumN_pairs, e, ← badSets P b n 0 (by omega) (Nat.zero_le _)]
    refine sumN_congr fun s _ => ?_
    unfold fB
    rw [bt_even, bt_even, bt_odd, bt_odd, if_neg (by omega : ¬ (1 + bt s P = n ∧ 1 + bt s b = 0)), Nat.add_zero]
  | P + 1, b + 1, 0, i + 1, h, h2 => by omega
  | P + 1, b + 1, n + 1, i + 1, h, h2 => by
    have e : sh (P + 1) (b + 1) (n + 1) (i + 1) = sh P b n i + sh P b (n + 1) (i + 1) := by
      unfold sh
      rw [bn_succ, show P + 1 - (b + 1) = P - b by omega, show n + 1 - (i + 1) = n - i by omega, Nat.add_mul]
    rw [Nat.pow_succ, Nat.mul_comm, sumN_pairs, e, ← badSets P b n i (by omega) (by omega), ← badSets P b (n + 1) (i + 1) (by omega) h2, ← sumN_add]
    refine sumN_congr fun s _ => ?_
    have e : fB (P + 1) (b + 1) (n + 1) (i + 1) (2 * s + 1) = fB P b n i s := by
      unfold fB
      rw [bt_odd, bt_odd]
      by_cases hh : bt s P = n ∧ bt s b = i
      · rw [if_pos hh, if_pos (by omega)]
      · rw [if_neg hh, if_neg (by omega)]
    have e2 : fB (P + 1) (b + 1) (n + 1) (i + 1) (2 * s) = fB P b (n + 1) (i + 1) s := by unfold fB; rw [bt_even, bt_even]
    rw [e, e2, Nat.add_comm]
theorem fA_yes {P n s : Nat} (h : bt s P = n) : fA P n s = 1 := if_pos h
theorem fA_no {P n s : Nat} (h : ¬ bt s P = n) : fA P n s = 0 := if_neg h
theorem fB_yes {P b n s : Nat} (h : bt s P = n) (i : Nat) : fB P b n i s = if i = bt s b then 1 else 0 := by
  unfold fB
  by_cases e : i = bt s b
  · rw [if_pos ⟨h, e.symm⟩, if_pos e]
  · rw [if_neg (fun k => e k.2.symm), if_neg e]
theorem fB_no {P b n s : Nat} (h : ¬ bt s P = n) (i : Nat) : fB P b n i s = 0 := if_neg fun k => h k.1
theorem fA_le (P n t : Nat) : sumN t (fA P n) ≤ t := by
  induction t with
  | zero => exact Nat.le_refl _
  | succ t ih => rw [sumN_succ]; have : fA P n t ≤ 1 := by unfold fA; split <;> omega
                 omega
theorem fB_le (P b n i t : Nat) : sumN t (fB P b n i) ≤ t := by
  induction t with
  | zero => exact Nat.le_refl _
  | succ t ih => rw [sumN_succ]; have : fB P b n i t ≤ 1 := by unfold fB; split <;> omega
                 omega
theorem share_cross {P b n k : Nat} (hn : n ≤ P) (hk : k ≤ n) : ∃ s : Nat × Nat, (shwL P b n)[k]? = some s ∧ s.2 ≤ bn P n ∧ sh P b n k * s.2 = bn P n * s.1 := by
  have hpos := bn_pos (n := P) (k := n) hn
  refine ⟨_, shwL_get hk, (shr_le _ _).2, ?_⟩
  rw [Nat.mul_comm (bn P n)]
  exact (shr_mul _ hpos).symm
end Td
end Go.Proofs.Ytgkdidnmndmlhaa
