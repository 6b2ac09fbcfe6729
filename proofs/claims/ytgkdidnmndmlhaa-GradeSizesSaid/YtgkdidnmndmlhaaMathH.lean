import Derived.Test.YtgkdidnmndmlhaaMath
import Derived.Test.YtgkdidnmndmlhaaShw
/- All chances together; a sample of all pieces. -/
namespace Go.Proofs.Ytgkdidnmndmlhaa
namespace Td
/-- a sample of all pieces shows just the bad ones. -/
theorem sh_full {P b i : Nat} (hb : b ≤ P) (hi : i ≤ P) : sh P b P i = if i = b then 1 else 0 := by
  by_cases h : i = b
  · subst h
    rw [if_pos rfl]
    unfold sh
    rw [bn_self, bn_self]
  · rw [if_neg h]
    exact sh_none (by omega)
theorem shw_full {P b k : Nat} (hb : b ≤ P) (hk : k ≤ P) : (shwL P b P)[k]? = some (if k = b then (1, 1) else (0, 1)) := by
  rw [shwL_get hk, sh_full hb hk, bn_self]
  congr 1
  split
  · exact shr_one Nat.one_pos
  · exact shr_zero Nat.one_pos
/-- a share in lowest terms divides all cases. -/
theorem share_all {P b n k : Nat} (hb : b ≤ P) (hn : n ≤ P) (hk : k ≤ n) : ∃ s : Nat × Nat, ∃ q : Nat, (shwL P b n)[k]? = some s ∧ 0 < s.2 ∧ s.1 ≤ s.2 ∧ s.2 ≤ bn P n ∧ Nat.gcd s.1 s.2 = 1 ∧ bn P n % s.2 = 0 ∧ bn P n / s.2 = q ∧ s.1 * q = sh P b n k := by
  have hpos := bn_pos (n := P) (k := n) hn
  obtain ⟨g, hg, h1, h2, h3⟩ := shr_spec (sh P b n k) hpos
  have hp := shr_pos (sh P b n k) hpos
  refine ⟨_, g, shwL_get hk, hp, ?_, (shr_le _ _).2, h3, ?_, ?_, ?_⟩
  · have h := sh_le (P := P) (b := b) hb hk
    exact Nat.le_of_mul_le_mul_left (by rw [← h1, ← h2]; exact h) hg
  · exact Nat.mod_eq_zero_of_dvd ⟨g, by rw [Nat.mul_comm]; exact h2⟩
  · generalize (shr (sh P b n k) (bn P n)).2 = r at h2 hp
    rw [h2]
    exact Nat.mul_div_cancel _ hp
  · rw [Nat.mul_comm]; exact h1.symm
theorem part_le {P b n k : Nat} (hb : b ≤ P) (hk : k ≤ n + 1) : sumN k (sh P b n) ≤ bn P n := by
  rw [← sh_sum hb]
  exact sumN_le_of hk
theorem mean_le {P b n k : Nat} (hb : b ≤ P) (hn : n ≤ 20) (hk : k ≤ n + 1) : sumN k (fun i => i * sh P b n i) ≤ 20 * bn P n := by
  refine Nat.le_trans ?_ (Nat.mul_le_mul_left 20 (part_le (k := k) (n := n) hb hk))
  rw [← sumN_mul]
  exact sumN_le fun i hi => Nat.mul_le_mul_right _ (by omega)
end Td
end Go.Proofs.Ytgkdidnmndmlhaa
