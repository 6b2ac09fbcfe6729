import Derived.Test.YtgkdidnmndmlhaaMathB
/- How the cases in which a heap passes come one after the other. It imports nothing of the program. -/
namespace Go.Proofs.Ytgkdidnmndmlhaa
namespace Td
set_option linter.unusedVariables false
/-- what is yielded behind some second samples. -/
def mf (P F to b i : Nat) (l : List (Nat × Nat)) : List (Nat × Nat) := (l.filter fun x => decide (i + x.1 ≤ to)).map fun x => (b - i - x.1, sh P b F i * x.2)
theorem mf_nil (P F to b i : Nat) : mf P F to b i [] = [] := rfl
theorem mf_yes {P F to b i : Nat} (l : List (Nat × Nat)) {x : Nat × Nat} (h : i + x.1 ≤ to) : mf P F to b i (l ++ [x]) = mf P F to b i l ++ [(b - i - x.1, sh P b F i * x.2)] := by simp [mf, h]
theorem mf_no {P F to b i : Nat} (l : List (Nat × Nat)) {x : Nat × Nat} (h : ¬ i + x.1 ≤ to) : mf P F to b i (l ++ [x]) = mf P F to b i l := by simp [mf, h]
theorem mf_app (P F to b i : Nat) (l r : List (Nat × Nat)) : mf P F to b i (l ++ r) = mf P F to b i l ++ mf P F to b i r := by simp [mf]
theorem row_pass {P F pa S to b i : Nat} (h : i ≤ pa) : passRow P F pa S to b i = [(b - i, sh P b F i * bn (P - F) S)] := by unfold passRow; rw [if_pos h]
theorem row_more {P F pa S to b i : Nat} (h : ¬ i ≤ pa) : passRow P F pa S to b i = mf P F to b i (showsL (P - F) (b - i) S) := by unfold passRow mf; rw [if_neg h]
/-- the rows of some first samples. -/
def rowsOf (P F pa S to b : Nat) (l : List (Nat × Nat)) : List (Nat × Nat) := l.flatMap fun x => passRow P F pa S to b x.1
theorem rowsOf_nil (P F pa S to b : Nat) : rowsOf P F pa S to b [] = [] := rfl
theorem rowsOf_snoc (P F pa S to b : Nat) (l : List (Nat × Nat)) (x : Nat × Nat) : rowsOf P F pa S to b (l ++ [x]) = rowsOf P F pa S to b l ++ passRow P F pa S to b x.1 := by simp [rowsOf]
theorem takeWhile_all {α : Type} {p : α → Bool} : ∀ {l r : List α}, (∀ y ∈ l, p y = true) → (l ++ r).takeWhile p = l ++ r.takeWhile p
  | [], _, _ => rfl
  | y :: l, r, h => by
    rw [List.cons_append, List.takeWhile_cons_of_pos (h y (by simp)), takeWhile_all (fun z hz => h z (by simp [hz])), List.cons_append]
theorem pass_full {P F pa fa S to b : Nat} {pre rest : List (Nat × Nat)} {x : Nat × Nat} (h : showsL P b F = pre ++ x :: rest) (hp : ∀ y ∈ pre, y.1 < fa) (hx : ¬ x.1 < fa) : passL P F pa fa S to b = rowsOf P F pa S to b pre := by
  unfold passL firsts rowsOf
  rw [h, takeWhile_all (fun y hy => by simpa using hp y hy), List.takeWhile_cons_of_neg (by simpa using hx), List.append_nil]
theorem pass_part {P F pa fa S to b : Nat} {pre rest : List (Nat × Nat)} {x : Nat × Nat} (h : showsL P b F = pre ++ x :: rest) (hp : ∀ y ∈ pre, y.1 < fa) (hx : x.1 < fa) : ∃ r, passL P F pa fa S to b = rowsOf P F pa S to b pre ++ (passRow P F pa S to b x.1 ++ r) := by
  unfold passL firsts rowsOf
  rw [h, takeWhile_all (fun y hy => by simpa using hp y hy), List.takeWhile_cons_of_pos (by simpa using hx), List.flatMap_append, List.flatMap_cons]
  exact ⟨_, rfl⟩
theorem pass_all {P F pa fa S to b : Nat} (hp : ∀ y ∈ showsL P b F, y.1 < fa) : passL P F pa fa S to b = rowsOf P F pa S to b (showsL P b F) := by
  unfold passL firsts rowsOf
  congr 1
  have := takeWhile_all (p := fun y : Nat × Nat => decide (y.1 < fa)) (l := showsL P b F) (r := []) (fun y hy => by simpa using hp y hy)
  simpa using this
theorem case2_sum {P F S b i : Nat} (hb : b ≤ P) : sumN (S + 1) (case2 P F S b i) = sh P b F i * bn (P - F) S := by
  have e : sumN (S + 1) (case2 P F S b i) = sh P b F i * sumN (S + 1) (sh (P - F) (b - i) S) := by rw [← sumN_mul]; rfl
  rw [e]
  by_cases h : b - i ≤ P - F
  · rw [sh_sum h]
  · rw [sh_none (P := P) (b := b) (n := F) (i := i) (.inr (by omega))]
    simp
theorem cases_sum {P F S b : Nat} (hb : b ≤ P) : sumN (F + 1) (fun i => sumN (S + 1) (case2 P F S b i)) = bn P F * bn (P - F) S := by
  rw [sumN_congr (g := fun i => bn (P - F) S * sh P b F i) (fun i _ => by rw [case2_sum hb, Nat.mul_comm]), sumN_mul, sh_sum hb, Nat.mul_comm]
theorem avgS_le {P F pa fa S to b : Nat} (hb : b ≤ P) {wo : Nat → Nat} {m : Nat} (h : ∀ v, v ≤ b → wo v ≤ m) : avgS P F pa fa S to b wo ≤ bn P F * bn (P - F) S * m := by
  rw [← cases_sum (S := S) (F := F) hb, Nat.mul_comm, ← sumN_mul]
  unfold avgS
  refine sumN_le fun i _ => ?_
  rw [← sumN_mul]
  refine sumN_le fun j _ => ?_
  split
  · rw [Nat.mul_comm]
    exact Nat.mul_le_mul_right _ (h _ (by unfold left2; split <;> omega))
  · omega
end Td
end Go.Proofs.Ytgkdidnmndmlhaa
