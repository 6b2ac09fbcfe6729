import Derived.Test.YtgkdidnmndmlhaaMath
/- The sample and the bad pieces change places. -/
namespace Go.Proofs.Ytgkdidnmndmlhaa
namespace Td
def fac : Nat → Nat
  | 0 => 1
  | n + 1 => (n + 1) * fac n
theorem fac_pos : ∀ n, 0 < fac n
  | 0 => Nat.one_pos
  | n + 1 => Nat.mul_pos (Nat.succ_pos n) (fac_pos n)
theorem bn_fac : ∀ {n k : Nat}, k ≤ n → bn n k * (fac k * fac (n - k)) = fac n
  | n, 0, _ => by rw [bn_zero, Nat.sub_zero]; simp [fac]
  | 0, k + 1, h => by omega
  | n + 1, k + 1, h => by
    have ih := bn_fac (n := n) (k := k) (by omega)
    have ha := bn_abs n k
    have e : n + 1 - (k + 1) = n - k := by omega
    rw [e]
    show bn (n + 1) (k + 1) * ((k + 1) * fac k * fac (n - k)) = (n + 1) * fac n
    calc bn (n + 1) (k + 1) * ((k + 1) * fac k * fac (n - k)) = (k + 1) * bn (n + 1) (k + 1) * (fac k * fac (n - k)) := by simp only [Nat.mul_assoc, Nat.mul_comm, Nat.mul_left_comm]
      _ = (n + 1) * bn n k * (fac k * fac (n - k)) := by rw [ha]
      _ = (n + 1) * (bn n k * (fac k * fac (n - k))) := by rw [Nat.mul_assoc]
      _ = _ := by rw [ih]
/-- three numbers of a heap: each sample of n with i of the b bad ones. -/
theorem tri_fac {P b n i : Nat} (hb : b ≤ P) (h1 : i ≤ b) (h2 : i ≤ n) (h3 : n - i ≤ P - b) : sh P b n i * bn P b * (fac i * fac (b - i) * (fac (n - i) * fac (P - b - (n - i)))) = fac P := by
  have e1 := bn_fac h1
  have e2 := bn_fac h3
  have e3 := bn_fac hb
  unfold sh
  calc bn b i * bn (P - b) (n - i) * bn P b * (fac i * fac (b - i) * (fac (n - i) * fac (P - b - (n - i))))
      = bn P b * ((bn b i * (fac i * fac (b - i))) * (bn (P - b) (n - i) * (fac (n - i) * fac (P - b - (n - i))))) := by simp only [Nat.mul_assoc, Nat.mul_comm, Nat.mul_left_comm]
    _ = bn P b * (fac b * fac (P - b)) := by rw [e1, e2]
    _ = _ := e3
/-- the chance that a sample shows some number is the same if the sizes change places. -/
theorem turned_sh {P b n i : Nat} (hb : b ≤ P) (hn : n ≤ P) (h1 : i ≤ b) (h2 : i ≤ n) : sh P b n i * bn P b = sh P n b i * bn P n := by
  by_cases h3 : n - i ≤ P - b
  · have e1 := tri_fac hb h1 h2 h3
    have e2 := tri_fac (P := P) (b := n) (n := b) (i := i) hn h2 h1 (by omega)
    have e3 : P - n - (b - i) = P - b - (n - i) := by omega
    rw [e3] at e2
    have hpos : 0 < fac i * fac (b - i) * (fac (n - i) * fac (P - b - (n - i))) := Nat.mul_pos (Nat.mul_pos (fac_pos _) (fac_pos _)) (Nat.mul_pos (fac_pos _) (fac_pos _))
    refine Nat.eq_of_mul_eq_mul_right hpos ?_
    rw [e1, ← e2]
    simp only [Nat.mul_assoc, Nat.mul_comm, Nat.mul_left_comm]
  · rw [sh_none (.inr (by omega)), sh_none (P := P) (b := n) (n := b) (i := i) (.inr (by omega)), Nat.zero_mul, Nat.zero_mul]
/-- the chance as a share. -/
theorem turned_shr {P b n i : Nat} (hb : b ≤ P) (hn : n ≤ P) (h1 : i ≤ b) (h2 : i ≤ n) : shr (sh P b n i) (bn P n) = shr (sh P n b i) (bn P b) :=
  (shr_eq (bn_pos hn) (bn_pos hb)).2 (turned_sh hb hn h1 h2)
/-- good and bad change places. -/
theorem good_sh {P b n i : Nat} (hb : b ≤ P) (h2 : i ≤ n) : sh P (P - b) n (n - i) = sh P b n i := by
  unfold sh
  rw [show P - (P - b) = b by omega, show n - (n - i) = i by omega, Nat.mul_comm]
/-- on average a sample shows its part of the bad pieces. -/
theorem mean_sh {P b n : Nat} (hb : b ≤ P) (hP : 1 ≤ P) : sumN (n + 1) (fun i => i * sh P b n i) * P = n * b * bn P n := by
  cases b with
  | zero =>
    rw [sumN_zero fun i hi => ?_]
    · simp
    · cases i with
      | zero => rw [Nat.zero_mul]
      | succ i => rw [sh_none (.inl (Nat.succ_pos i)), Nat.mul_zero]
  | succ c =>
    cases n with
    | zero => rw [sumN_succ]; show (0 + 0 * _) * P = _; simp
    | succ k =>
      obtain ⟨Q, rfl⟩ : ∃ Q, P = Q + 1 := ⟨P - 1, by omega⟩
      rw [sumN_first]
      have e : ∀ i, i < k + 1 → (i + 1) * sh (Q + 1) (c + 1) (k + 1) (i + 1) = (c + 1) * (bn c i * bn (Q - c) (k - i)) := fun i hi => by
        unfold sh
        rw [show Q + 1 - (c + 1) = Q - c by omega, show k + 1 - (i + 1) = k - i by omega, ← Nat.mul_assoc, bn_abs, Nat.mul_assoc]
      rw [sumN_congr e, sumN_mul, vander, show c + (Q - c) = Q by omega, Nat.zero_mul, Nat.zero_add]
      have h2 := bn_abs Q k
      calc (c + 1) * bn Q k * (Q + 1) = (c + 1) * ((Q + 1) * bn Q k) := by simp only [Nat.mul_assoc, Nat.mul_comm, Nat.mul_left_comm]
        _ = (c + 1) * ((k + 1) * bn (Q + 1) (k + 1)) := by rw [h2]
        _ = _ := by simp only [Nat.mul_assoc, Nat.mul_comm, Nat.mul_left_comm]
end Td
end Go.Proofs.Ytgkdidnmndmlhaa
