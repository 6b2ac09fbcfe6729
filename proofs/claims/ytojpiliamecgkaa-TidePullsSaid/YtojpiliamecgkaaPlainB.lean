import Derived.Test.YtojpiliamecgkaaPlain
/- The plain mathematics of layer 2, second part: the least ballast, the first tide, pulls. -/
namespace Go.Proofs.Ytojpiliamecgkaa
namespace Td
/-- the first ballast that does, of 41. -/
def leastOf (p : Nat → Bool) : Option Nat := (List.range 41).find? p
theorem leastOf_some {p : Nat → Bool} {n : Nat} (hn : n < 41) (h0 : ∀ j, j < n → p j = false) (h1 : p n = true) : leastOf p = some n := by
  unfold leastOf
  rw [List.find?_range_eq_some]
  exact ⟨h1, by simpa using hn, fun j hj => by simp [h0 j hj]⟩
theorem leastOf_none {p : Nat → Bool} (h0 : ∀ j, j < 41 → p j = false) : leastOf p = none := by
  unfold leastOf
  rw [List.find?_range_eq_none]
  intro j hj
  simp [h0 j hj]
theorem leastOf_spec {p : Nat → Bool} {n : Nat} (h : leastOf p = some n) : n < 41 ∧ p n = true ∧ ∀ j, j < n → p j = false := by
  unfold leastOf at h
  rw [List.find?_range_eq_some] at h
  obtain ⟨h1, h2, h3⟩ := h
  exact ⟨by simpa using h2, h1, fun j hj => by simpa using h3 j hj⟩
theorem leastOf_no {p : Nat → Bool} (h : leastOf p = none) : ∀ j, j < 41 → p j = false := by
  unfold leastOf at h
  rw [List.find?_range_eq_none] at h
  intro j hj
  simpa using h j hj
/-- the first of k numbers from i on with a least ballast. -/
def firstFrom (p : Nat → Nat → Bool) : Nat → Nat → Option (Nat × Nat)
  | _, 0 => none
  | i, k + 1 => match leastOf (p i) with
    | some n => some (i, n)
    | none => firstFrom p (i + 1) k
theorem firstFrom_step {p : Nat → Nat → Bool} {i k : Nat} (h : leastOf (p i) = none) : firstFrom p i (k + 1) = firstFrom p (i + 1) k := by simp [firstFrom, h]
theorem firstFrom_hit {p : Nat → Nat → Bool} {i k n : Nat} (h : leastOf (p i) = some n) : firstFrom p i (k + 1) = some (i, n) := by simp [firstFrom, h]
theorem firstFrom_spec {p : Nat → Nat → Bool} : ∀ {k i j n : Nat}, firstFrom p i k = some (j, n) → i ≤ j ∧ j < i + k ∧ leastOf (p j) = some n ∧ ∀ m, i ≤ m → m < j → leastOf (p m) = none
  | 0, _, _, _, h => by simp [firstFrom] at h
  | k + 1, i, j, n, h => by
    cases hl : leastOf (p i) with
    | some m =>
      rw [firstFrom_hit hl] at h
      obtain ⟨rfl, rfl⟩ : i = j ∧ m = n := by simpa using h
      exact ⟨Nat.le_refl _, by omega, hl, fun m h1 h2 => by omega⟩
    | none =>
      rw [firstFrom_step hl] at h
      obtain ⟨h1, h2, h3, h4⟩ := firstFrom_spec h
      refine ⟨by omega, by omega, h3, fun m h5 h6 => ?_⟩
      rcases Nat.lt_or_ge i m with h7 | h7
      · exact h4 m h7 h6
      · obtain rfl : m = i := by omega
        exact hl
theorem firstFrom_none {p : Nat → Nat → Bool} : ∀ {k i : Nat}, firstFrom p i k = none → ∀ m, i ≤ m → m < i + k → leastOf (p m) = none
  | 0, _, _, _, _, _ => by omega
  | k + 1, i, h, m, h1, h2 => by
    cases hl : leastOf (p i) with
    | some n => rw [firstFrom_hit hl] at h; cases h
    | none =>
      rw [firstFrom_step hl] at h
      rcases Nat.lt_or_ge i m with h7 | h7
      · exact firstFrom_none h m h7 (by omega)
      · obtain rfl : m = i := by omega
        exact hl
def earl (r : Option (Nat × Nat)) : Int × Int × Int := match r with | some (i, n) => (i, n, 0) | none => (0, 0, 9)
/-- does a tide do with some ballast. -/
def doesB (b : Bch) (s : Shp) (i n : Nat) : Bool := sur b.mlo b.mhi (bx b s i) (-s.sink * (n : Int))
end Td
end Go.Proofs.Ytojpiliamecgkaa
