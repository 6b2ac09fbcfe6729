import Derived.Test.YtgkdidnmndmlhaaMathC
import Derived.KernelRfl
/- How great the ways to choose can be; the least size that does. -/
namespace Go.Proofs.Ytgkdidnmndmlhaa
namespace Td
set_option linter.unusedVariables false
/-- a row of ways to choose. -/
def pr : Nat → List Nat
  | 0 => [1]
  | n + 1 => List.zipWith (· + ·) (0 :: pr n) (pr n ++ [0])
theorem pr_len : ∀ n, (pr n).length = n + 1
  | 0 => rfl
  | n + 1 => by rw [pr, List.length_zipWith, List.length_cons, List.length_append, pr_len n]; simp
theorem pr_get : ∀ n k : Nat, (pr n).getD k 0 = bn n k
  | 0, 0 => rfl
  | 0, k + 1 => by simp [pr, bn_none]
  | n + 1, 0 => by
    have h := pr_get n 0
    rw [bn_zero] at h ⊢
    have hl := pr_len n
    rw [pr]
    cases hp : pr n with
    | nil => rw [hp] at hl; simp at hl
    | cons x r =>
      rw [hp] at h
      simpa using h
  | n + 1, k + 1 => by
    have h1 := pr_get n k
    have h2 := pr_get n (k + 1)
    have hl := pr_len n
    rw [bn_succ, ← h1, ← h2, pr]
    simp only [List.getD_eq_getElem?_getD, List.getElem?_zipWith, List.getElem?_cons_succ]
    by_cases h : k < n + 1
    · rw [List.getElem?_eq_getElem (by omega : k < (pr n).length)]
      by_cases h3 : k + 1 < n + 1
      · rw [List.getElem?_append_left (by omega), List.getElem?_eq_getElem (by omega : k + 1 < (pr n).length)]
        simp
      · have : k = n := by omega
        subst this
        rw [List.getElem?_append_right (by omega), List.getElem?_eq_none (by omega : (pr k).length ≤ k + 1)]
        simp [hl]
    · rw [List.getElem?_eq_none (by omega : (pr n).length ≤ k), List.getElem?_eq_none (by omega : (pr n).length ≤ k + 1)]
      simp
def chk2 : Bool := (List.range 21).all fun P => (pr P).all fun x => decide (x ≤ 184756)
def chk3 : Bool := (List.range 21).all fun P => (List.range 21).all fun F => decide (P < F) || ((pr (P - F)).all fun y => decide ((pr P).getD F 0 * y ≤ 133024320))
theorem chk2_is : chk2 = true := by kernel_rfl
theorem chk3_is : chk3 = true := by kernel_rfl
theorem bn_le {P n : Nat} (h : P ≤ 20) : bn P n ≤ 184756 := by
  rcases Nat.lt_or_ge P n with h2 | h2
  · rw [bn_gt h2]; omega
  · have h1 := List.all_eq_true.1 chk2_is P (List.mem_range.2 (by omega))
    have hl := pr_len P
    have h3 := List.all_eq_true.1 h1 ((pr P)[n]'(by omega)) (List.getElem_mem _)
    have h4 := pr_get P n
    rw [List.getD_eq_getElem?_getD, List.getElem?_eq_getElem (by omega : n < (pr P).length)] at h4
    simp only [Option.getD_some] at h4
    rw [h4] at h3
    simpa using h3
theorem cases_le {P F S : Nat} (h : P ≤ 20) (hF : F ≤ P) : bn P F * bn (P - F) S ≤ 133024320 := by
  rcases Nat.lt_or_ge (P - F) S with h2 | h2
  · rw [bn_gt h2]; omega
  · have h1 := List.all_eq_true.1 chk3_is P (List.mem_range.2 (by omega))
    have h1' := List.all_eq_true.1 h1 F (List.mem_range.2 (by omega))
    rw [show decide (P < F) = false from decide_eq_false (by omega), Bool.false_or] at h1'
    have hl := pr_len (P - F)
    have h3 := List.all_eq_true.1 h1' ((pr (P - F))[S]'(by omega)) (List.getElem_mem _)
    have h4 := pr_get (P - F) S
    rw [List.getD_eq_getElem?_getD, List.getElem?_eq_getElem (by omega : S < (pr (P - F)).length)] at h4
    simp only [Option.getD_some] at h4
    rw [h4, pr_get] at h3
    simpa using h3
/-- the least number from 1 to P that does, or 0. -/
def smF (ok : Nat → Bool) (P : Nat) : Nat := ((List.range P).find? fun k => ok (k + 1)).elim 0 (· + 1)
theorem smF_is {ok : Nat → Bool} {P n : Nat} (h1 : 1 ≤ n) (h2 : n ≤ P) (h : ok n = true) (hm : ∀ m, 1 ≤ m → m < n → ok m = false) : smF ok P = n := by
  unfold smF
  have : (List.range P).find? (fun k => ok (k + 1)) = some (n - 1) := by
    rw [List.find?_eq_some_iff_append]
    refine ⟨by rw [show n - 1 + 1 = n by omega]; exact h, List.range (n - 1), (List.range (P - n)).map (n + ·), ?_, fun m hm' => ?_⟩
    · apply List.ext_getElem
      · simp; omega
      · intro i hi1 hi2
        simp only [List.getElem_range, List.getElem_append, List.length_range]
        split
        · rfl
        · rw [List.getElem_cons]
          split
          · omega
          · simp; omega
    · have := List.mem_range.1 hm'
      rw [hm (m + 1) (by omega) (by omega)]
      rfl
  rw [this]
  simp
  omega
theorem smF_none {ok : Nat → Bool} {P : Nat} (hm : ∀ m, 1 ≤ m → m ≤ P → ok m = false) : smF ok P = 0 := by
  unfold smF
  have : (List.range P).find? (fun k => ok (k + 1)) = none := by
    rw [List.find?_eq_none]
    intro k hk
    have := List.mem_range.1 hk
    rw [hm (k + 1) (by omega) (by omega)]
    simp
  rw [this]
  rfl
theorem smF_cases (ok : Nat → Bool) (P : Nat) : (∃ n, 1 ≤ n ∧ n ≤ P ∧ ok n = true ∧ (∀ m, 1 ≤ m → m < n → ok m = false) ∧ smF ok P = n) ∨ ((∀ m, 1 ≤ m → m ≤ P → ok m = false) ∧ smF ok P = 0) := by
  by_cases h : ∃ n, 1 ≤ n ∧ n ≤ P ∧ ok n = true
  · have : ∃ n, (1 ≤ n ∧ n ≤ P ∧ ok n = true) ∧ ∀ m, m < n → ¬ (1 ≤ m ∧ m ≤ P ∧ ok m = true) := by
      obtain ⟨n, hn⟩ := h
      induction n using Nat.strongRecOn with
      | _ n ih =>
        by_cases hm : ∃ m, m < n ∧ (1 ≤ m ∧ m ≤ P ∧ ok m = true)
        · obtain ⟨m, h1, h2⟩ := hm
          exact ih m h1 h2
        · exact ⟨n, hn, fun m h1 h2 => hm ⟨m, h1, h2⟩⟩
    obtain ⟨n, ⟨h1, h2, h3⟩, h4⟩ := this
    have h5 : ∀ m, 1 ≤ m → m < n → ok m = false := fun m hm1 hm2 => by
      cases hk : ok m
      · rfl
      · exact absurd ⟨hm1, by omega, hk⟩ (h4 m hm2)
    exact .inl ⟨n, h1, h2, h3, h5, smF_is h1 h2 h3 h5⟩
  · have h5 : ∀ m, 1 ≤ m → m ≤ P → ok m = false := fun m hm1 hm2 => by
      cases hk : ok m
      · rfl
      · exact absurd ⟨m, hm1, hm2, hk⟩ h
    exact .inr ⟨h5, smF_none h5⟩
end Td
end Go.Proofs.Ytgkdidnmndmlhaa
