import Derived.Test.YtgkdidnmndmlhaaRWay
import Derived.Test.YtgkdidnmndmlhaaPsc
import Derived.Test.YtgkdidnmndmlhaaMathE
/- What the reference goes through: cases, as numbers. -/
namespace Go.Proofs.Ytgkdidnmndmlhaa
open Go.RowKit
namespace Td
set_option linter.unusedVariables false
theorem wyI_nat (n k : Nat) : wyI n k = bn n k := by
  unfold wyI
  by_cases h : k ≤ n
  · rw [if_pos (by omega), Int.toNat_natCast, Int.toNat_natCast]
  · rw [if_neg (by omega), bn_gt (by omega)]
theorem wyI_neg {n k : Int} (h : n < 0) : wyI n k = 0 := by
  unfold wyI
  exact if_neg (by omega)
theorem shI_nat {P b n i : Nat} (hb : b ≤ P) (hi : i ≤ n) : shI P b n i = sh P b n i := by
  unfold shI sh
  rw [show (P : Int) - (b : Int) = ((P - b : Nat) : Int) by omega, show (n : Int) - (i : Int) = ((n - i : Nat) : Int) by omega, wyI_nat, wyI_nat]
theorem case_nat {P F S d i j : Nat} (hd : d ≤ P) (hF : F ≤ P) (hi : i ≤ F) (hj : j ≤ S) : shI P d F i * shI ((P : Int) - F) ((d : Int) - i) S j = case2 P F S d i j := by
  unfold case2
  rw [shI_nat hd hi]
  by_cases h1 : d < i
  · rw [sh_none (.inl h1)]; simp
  by_cases h2 : P - F < d - i
  · rw [sh_none (P := P) (b := d) (n := F) (i := i) (.inr (by omega))]; simp
  rw [show (P : Int) - (F : Int) = ((P - F : Nat) : Int) by omega, show (d : Int) - (i : Int) = ((d - i : Nat) : Int) by omega, shI_nat (by omega) hj]
theorem case_le {P F S d i j : Nat} (hd : d ≤ P) (hi : i ≤ F) (hj : j ≤ S) : case2 P F S d i j ≤ bn P F * bn (P - F) S := by
  rw [← cases_sum (S := S) (F := F) hd]
  exact Nat.le_trans (sumN_get (case2 P F S d i) (by omega)) (sumN_get (fun i => sumN (S + 1) (case2 P F S d i)) (by omega))
theorem case_zero {P F S d i j : Nat} (h : d < i + j) : case2 P F S d i j = 0 := by
  unfold case2
  by_cases h1 : d < i
  · rw [sh_none (P := P) (b := d) (n := F) (i := i) (.inl h1)]; simp
  · rw [sh_none (P := P - F) (b := d - i) (n := S) (i := j) (.inl (by omega))]; simp
theorem mul_left_nat {n d i : Nat} (h : i ≤ d ∨ n = 0) : (n : Int) * ((d : Int) - (i : Int)) = ((n * (d - i) : Nat) : Int) := by
  rcases h with h | h
  · rw [show (d : Int) - (i : Int) = ((d - i : Nat) : Int) by omega, ← Int.natCast_mul]
  · subst h; simp
/-- sums of sums. -/
theorem rows_le {F S i j : Nat} (t : Nat → Nat → Nat) (hi : i ≤ F) (hj : j ≤ S + 1) : sumN i (fun i => sumN (S + 1) (t i)) + sumN j (t i) ≤ sumN (F + 1) (fun i => sumN (S + 1) (t i)) := by
  have h1 : sumN j (t i) ≤ sumN (S + 1) (t i) := sumN_le_of hj
  have h2 : sumN (i + 1) (fun i => sumN (S + 1) (t i)) ≤ sumN (F + 1) (fun i => sumN (S + 1) (t i)) := sumN_le_of (by omega)
  rw [sumN_succ] at h2
  omega
end Td
end Go.Proofs.Ytgkdidnmndmlhaa
