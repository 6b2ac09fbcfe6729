import Derived.Test.YtgkdidnmndmlhaaMathE
import Derived.Test.YtgkdidnmndmlhaaExpF
/- The most that stays; what stays against what passes. -/
namespace Go.Proofs.Ytgkdidnmndmlhaa
open Go.RowKit
namespace Td
set_option linter.unusedVariables false
theorem le_tr {s t u : Nat × Nat} (ht : 0 < t.2) (h1 : s.1 * t.2 ≤ t.1 * s.2) (h2 : t.1 * u.2 ≤ u.1 * t.2) : s.1 * u.2 ≤ u.1 * s.2 := by
  refine Nat.le_of_mul_le_mul_right (c := t.2) ?_ ht
  calc s.1 * u.2 * t.2 = s.1 * t.2 * u.2 := by simp only [Nat.mul_assoc, Nat.mul_comm, Nat.mul_left_comm]
    _ ≤ t.1 * s.2 * u.2 := Nat.mul_le_mul_right _ h1
    _ = t.1 * u.2 * s.2 := by simp only [Nat.mul_assoc, Nat.mul_comm, Nat.mul_left_comm]
    _ ≤ u.1 * t.2 * s.2 := Nat.mul_le_mul_right _ h2
    _ = _ := by simp only [Nat.mul_assoc, Nat.mul_comm, Nat.mul_left_comm]
theorem lt_no {s t : Nat × Nat} : lt' s t = false ↔ t.1 * s.2 ≤ s.1 * t.2 := by
  unfold lt'
  rw [decide_eq_false_iff_not, Nat.not_lt]
theorem fold_max : ∀ (r : List (Nat × Nat)) (x : Nat × Nat), (∀ y ∈ x :: r, 0 < y.2) → ∀ y ∈ x :: r, y.1 * (r.foldl (fun f y => if lt' f y then y else f) x).2 ≤ (r.foldl (fun f y => if lt' f y then y else f) x).1 * y.2
  | [], x, _, y, hy => by
    obtain rfl : y = x := by simpa using hy
    exact Nat.le_refl _
  | z :: r, x, h, y, hy => by
    rw [List.foldl_cons]
    obtain ⟨m, hm⟩ : ∃ m, (if lt' x z then z else x) = m := ⟨_, rfl⟩
    rw [hm]
    have hmm : m = z ∨ m = x := by rw [← hm]; split <;> simp
    have hpos : ∀ q ∈ m :: r, 0 < q.2 := fun q hq => by
      rcases List.mem_cons.1 hq with rfl | hq
      · rcases hmm with e | e <;> rw [e] <;> exact h _ (by simp)
      · exact h q (by simp [hq])
    have ih := fold_max r m hpos
    have hxm : x.1 * m.2 ≤ m.1 * x.2 ∧ z.1 * m.2 ≤ m.1 * z.2 := by
      rw [← hm]
      by_cases hl : lt' x z = true
      · rw [if_pos hl]
        unfold lt' at hl
        have := of_decide_eq_true hl
        exact ⟨by omega, Nat.le_refl _⟩
      · rw [if_neg hl]
        have := lt_no.1 (Bool.eq_false_iff.2 hl)
        exact ⟨Nat.le_refl _, this⟩
    rcases List.mem_cons.1 hy with rfl | hy
    · exact le_tr (hpos m (by simp)) hxm.1 (ih m (by simp))
    · rcases List.mem_cons.1 hy with rfl | hy
      · exact le_tr (hpos m (by simp)) hxm.2 (ih m (by simp))
      · exact ih y (by simp [hy])
/-- no share of the list is more than the most. -/
theorem most_max {l : List (Nat × Nat)} (h : ∀ y ∈ l, 0 < y.2) {y : Nat × Nat} (hy : y ∈ l) : lt' (mostS l) y = false := by
  cases l with
  | nil => simp at hy
  | cons x r => exact lt_no.2 (fold_max r x h y hy)
theorem posS_le {x : Nat × Nat} : ∀ {l : List (Nat × Nat)} {k : Nat} (h : k < l.length), l[k] = x → posS x l ≤ k
  | [], k, h, _ => by simp at h
  | y :: r, 0, h, e => by
    have e' : y = x := by simpa using e
    unfold posS
    rw [if_pos e']
    exact Nat.le_refl _
  | y :: r, k + 1, h, e => by
    have hk : k < r.length := by simpa using h
    have ih := posS_le (x := x) (l := r) (k := k) hk (by simpa using e)
    unfold posS
    split <;> omega
theorem eachL_get {f : Nat → Nat × Nat} {lo hi d : Nat} (h1 : lo ≤ d) (h2 : d ≤ hi) : (eachL f lo hi)[d - lo]? = some (f d) := by
  unfold eachL
  rw [List.getElem?_map, List.getElem?_range (by omega)]
  simp only [Option.map_some]
  rw [show lo + (d - lo) = d by omega]
theorem avg_stays {P F pa fa S to d : Nat} : avgS P F pa fa S to d (fun v => v) ≤ avgS P F pa fa S to d (fun _ => 1) * d := by
  unfold avgS
  rw [Nat.mul_comm, ← sumN_mul]
  refine sumN_le fun i hi => ?_
  rw [← sumN_mul]
  refine sumN_le fun j hj => ?_
  have hl : left2 pa d i j ≤ d := by unfold left2; split <;> omega
  split
  · rw [Nat.mul_one, Nat.mul_comm]
    exact Nat.mul_le_mul_right _ hl
  · exact Nat.zero_le _
theorem stays_pass {P F pa fa S to d : Nat} (k : Fit P F pa fa S d) : lt' ((chS P F pa fa S to d).1 * d, (chS P F pa fa S to d).2) (stS P F pa fa S to d) = false := by
  have hD := den_pos k.f k.s
  have h := avg_stays (P := P) (F := F) (pa := pa) (fa := fa) (S := S) (to := to) (d := d)
  have e1 := shr_mul (avgS P F pa fa S to d fun v => v) hD
  have e2 := shr_mul (avgS P F pa fa S to d fun _ => 1) hD
  refine lt_no.2 ?_
  show (stS P F pa fa S to d).1 * (chS P F pa fa S to d).2 ≤ (chS P F pa fa S to d).1 * d * (stS P F pa fa S to d).2
  unfold stS chS
  obtain ⟨D, hDD⟩ : ∃ D, bn P F * bn (P - F) S = D := ⟨_, rfl⟩
  rw [hDD] at e1 e2 hD ⊢
  obtain ⟨A, hA⟩ : ∃ A, (avgS P F pa fa S to d fun v => v) = A := ⟨_, rfl⟩
  obtain ⟨B, hB⟩ : ∃ B, (avgS P F pa fa S to d fun _ => 1) = B := ⟨_, rfl⟩
  rw [hA] at e1 h ⊢
  rw [hB] at e2 h ⊢
  obtain ⟨⟨a, b⟩, hab⟩ : ∃ s, shr A D = s := ⟨_, rfl⟩
  obtain ⟨⟨c, e⟩, hce⟩ : ∃ s, shr B D = s := ⟨_, rfl⟩
  rw [hab] at e1 ⊢
  rw [hce] at e2 ⊢
  simp only at e1 e2 ⊢
  refine Nat.le_of_mul_le_mul_right (c := D) ?_ hD
  calc a * e * D = a * D * e := by simp only [Nat.mul_assoc, Nat.mul_comm, Nat.mul_left_comm]
    _ = A * b * e := by rw [e1]
    _ ≤ B * d * b * e := by exact Nat.mul_le_mul_right _ (Nat.mul_le_mul_right _ h)
    _ = B * e * d * b := by simp only [Nat.mul_assoc, Nat.mul_comm, Nat.mul_left_comm]
    _ = c * D * d * b := by rw [e2]
    _ = _ := by simp only [Nat.mul_assoc, Nat.mul_comm, Nat.mul_left_comm]
end Td
end Go.Proofs.Ytgkdidnmndmlhaa
