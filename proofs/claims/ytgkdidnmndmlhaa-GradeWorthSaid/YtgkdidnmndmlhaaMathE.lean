import Derived.Test.YtgkdidnmndmlhaaExpA
import Derived.Test.YtgkdidnmndmlhaaMath
/- A plan with two samples against its first one alone. -/
namespace Go.Proofs.Ytgkdidnmndmlhaa
open Go.RowKit
namespace Td
set_option linter.unusedVariables false
/-- in how many samples there are at most m bad pieces. -/
def hdS (P F d m : Nat) : Nat := sumN (F + 1) fun i => if i ≤ m then sh P d F i else 0
theorem avg_once (P F pa d : Nat) : avgS P F pa (pa + 1) 0 0 d (fun _ => 1) = hdS P F d pa := by
  unfold avgS hdS
  refine sumN_congr fun i hi => ?_
  rw [sumN_succ]
  show 0 + _ = _
  rw [Nat.zero_add]
  have hs : sh (P - F) (d - i) 0 0 = 1 := by unfold sh; rw [bn_zero, bn_zero]
  by_cases h : i ≤ pa
  · have hp : pas2 pa (pa + 1) 0 i 0 = true := by simp [pas2, h, Nat.lt_succ_of_le h]
    rw [hp, if_pos rfl, if_pos h]
    unfold case2
    rw [hs, Nat.mul_one, Nat.mul_one]
  · have hp : pas2 pa (pa + 1) 0 i 0 = false := by simp [pas2]; omega
    rw [hp, if_neg h]
    rfl
theorem hd_le {P F pa fa S to d : Nat} (hd : d ≤ P) (hp : pa + 1 ≤ fa) : hdS P F d pa * bn (P - F) S ≤ avgS P F pa fa S to d (fun _ => 1) := by
  unfold hdS avgS
  rw [Nat.mul_comm, ← sumN_mul]
  refine sumN_le fun i hi => ?_
  by_cases h : i ≤ pa
  · rw [if_pos h, Nat.mul_comm, ← case2_sum hd]
    refine sumN_le fun j hj => ?_
    have h2 : pas2 pa fa to i j = true := by simp [pas2, h]; omega
    rw [h2, if_pos rfl, Nat.mul_one]
    exact Nat.le_refl _
  · rw [if_neg h, Nat.mul_zero]
    exact Nat.zero_le _
theorem le_hd {P F pa fa S to d : Nat} (hd : d ≤ P) : avgS P F pa (fa + 1) S to d (fun _ => 1) ≤ hdS P F d fa * bn (P - F) S := by
  unfold hdS avgS
  rw [Nat.mul_comm, ← sumN_mul]
  refine sumN_le fun i hi => ?_
  by_cases h : i ≤ fa
  · rw [if_pos h, Nat.mul_comm, ← case2_sum hd]
    refine sumN_le fun j hj => ?_
    split
    · rw [Nat.mul_one]; exact Nat.le_refl _
    · exact Nat.zero_le _
  · rw [sumN_zero fun j hj => ?_]
    · exact Nat.zero_le _
    · have h2 : pas2 pa (fa + 1) to i j = false := by
        have : ¬ i < fa + 1 := by omega
        simp [pas2, this]
      rw [h2]
      rfl
theorem den_pos {P F S : Nat} (hF : F ≤ P) (hS : S ≤ P - F) : 0 < bn P F * bn (P - F) S := Nat.mul_pos (bn_pos hF) (bn_pos hS)
/-- no less often than with the first sample and Pass alone. -/
theorem twice_low {P F pa fa S to d : Nat} (k : Fit P F pa fa S d) : lt' (chS P F pa fa S to d) (chS P F pa (pa + 1) 0 0 d) = false := by
  have hF := k.f
  unfold chS
  rw [lt_shr (den_pos hF k.s) (den_pos hF (Nat.zero_le _)), avg_once]
  refine decide_eq_false (Nat.not_lt.2 ?_)
  have h := hd_le (F := F) (S := S) (to := to) k.d k.t
  rw [bn_zero, Nat.mul_one]
  calc hdS P F d pa * (bn P F * bn (P - F) S) = hdS P F d pa * bn (P - F) S * bn P F := by simp only [Nat.mul_assoc, Nat.mul_comm, Nat.mul_left_comm]
    _ ≤ _ := Nat.mul_le_mul_right _ h
/-- no more often than with less than Fail. -/
theorem twice_high {P F pa fa S to d : Nat} (k : Fit P F pa (fa + 1) S d) : lt' (chS P F fa (fa + 1) 0 0 d) (chS P F pa (fa + 1) S to d) = false := by
  have hF := k.f
  unfold chS
  rw [lt_shr (den_pos hF (Nat.zero_le _)) (den_pos hF k.s), avg_once]
  refine decide_eq_false (Nat.not_lt.2 ?_)
  have h := le_hd (P := P) (F := F) (pa := pa) (fa := fa) (S := S) (to := to) k.d
  rw [bn_zero, Nat.mul_one]
  calc avgS P F pa (fa + 1) S to d (fun _ => 1) * bn P F ≤ hdS P F d fa * bn (P - F) S * bn P F := Nat.mul_le_mul_right _ h
    _ = _ := by simp only [Nat.mul_assoc, Nat.mul_comm, Nat.mul_left_comm]
theorem each_one (f : Nat → Nat × Nat) (d : Nat) : eachL f d d = [f d] := by
  unfold eachL
  rw [show d + 1 - d = 1 by omega]
  rfl
theorem least_one (x : Nat × Nat) : leastS [x] = x := rfl
theorem most_one (x : Nat × Nat) : mostS [x] = x := rfl
theorem chkE_one {P lo hi d : Nat} (h : chkE P lo hi = 0) (h1 : lo ≤ d) (h2 : d ≤ hi) : chkE P d d = 0 := by
  obtain ⟨a1, a2, a3, a4, a5⟩ := chkE_ok.1 h
  exact chkE_ok.2 ⟨a1, a2, by omega, Int.le_refl _, by omega⟩
theorem chkP_of {P lo hi fi pa fa se to : Int} (h1 : chkE P lo hi = 0) (h2 : planE P fi pa fa se to = 0) : chkP P lo hi fi pa fa se to = 0 := by unfold chkP; rw [if_pos h1]; exact h2
theorem planE_once {P F pa : Nat} (h1 : 1 ≤ F) (h2 : F ≤ P) (h3 : pa ≤ F) : planE P F pa (pa + 1 : Nat) 0 0 = 0 := by
  have hf : fits P F pa (pa + 1 : Nat) 0 0 = true := by
    unfold fits
    simp only [Bool.and_eq_true, wi_iff]
    omega
  unfold planE
  rw [if_pos hf, if_neg (by
    rintro (⟨-, h | h⟩ | ⟨h, -⟩)
    · exact h (by push_cast; rfl)
    · exact h rfl
    · exact h rfl)]
/-- what Passes answers for just so many bad pieces. -/
theorem pas_one {P d F pa fa S to : Nat} (h : chkP P d d F pa fa S to = 0) : pasA P d d F pa fa S to = (ip (chS P F pa fa S to d), ip (chS P F pa fa S to d), 0) := by
  unfold pasA
  rw [if_pos h]
  simp only [Int.toNat_natCast, each_one, least_one, most_one]
end Td
end Go.Proofs.Ytgkdidnmndmlhaa
/- The most that stays; what stays against what passes. -/
namespace Go.Proofs.Ytgkdidnmndmlhaa
open Go.RowKit
namespace Td
set_option linter.unusedVariables false
theorem le_tr {s t u : Nat × Nat} (ht : 0 < t.2) (h1 : s.1 * t.2 ≤ t.1 * s.2) (h2 : t.1 * u.2 ≤ u.1 * t.2) : s.1 * u.2 ≤ u.1 * s.2 := by
  refine Nat.le_of_mul_le_mul_right (c := t.2) ?_ ht
  calc s.1 * u.2 * t.2 = s.1 * t.2 * u.2 := by simp only [Nat.mul_assoc, Nat.mul_comm, Nat.mul_left_comm]
    _ ≤ t.1 * s.2 * u.2 := Nat.mul_le_mul_right _ h1
    _ = t.1 * u.2 * s.2 := by simp only [Nat.mul_assoc, Nat.mul_comm, Nat.mul_left_comm]
    _ ≤ u.1 * t.2 * s.2 := Nat.mul_le_mul_right _ h2
    _ = _ := by simp only [Nat.mul_assoc, Nat.mul_comm, Nat.mul_left_comm]
theorem lt_no {s t : Nat × Nat} : lt' s t = false ↔ t.1 * s.2 ≤ s.1 * t.2 := by
  unfold lt'
  rw [decide_eq_false_iff_not, Nat.not_lt]
theorem fold_max : ∀ (r : List (Nat × Nat)) (x : Nat × Nat), (∀ y ∈ x :: r, 0 < y.2) → ∀ y ∈ x :: r, y.1 * (r.foldl (fun f y => if lt' f y then y else f) x).2 ≤ (r.foldl (fun f y => if lt' f y then y else f) x).1 * y.2
  | [], x, _, y, hy => by
    obtain rfl : y = x := by simpa using hy
    exact Nat.le_refl _
  | z :: r, x, h, y, hy => by
    rw [List.foldl_cons]
    obtain ⟨m, hm⟩ : ∃ m, (if lt' x z then z else x) = m := ⟨_, rfl⟩
    rw [hm]
    have hmm : m = z ∨ m = x := by rw [← hm]; split <;> simp
    have hpos : ∀ q ∈ m :: r, 0 < q.2 := fun q hq => by
      rcases List.mem_cons.1 hq with rfl | hq
      · rcases hmm with e | e <;> rw [e] <;> exact h _ (by simp)
      · exact h q (by simp [hq])
    have ih := fold_max r m hpos
    have hxm : x.1 * m.2 ≤ m.1 * x.2 ∧ z.1 * m.2 ≤ m.1 * z.2 := by
      rw [← hm]
      by_cases hl : lt' x z = true
      · rw [if_pos hl]
        unfold lt' at hl
        have := of_decide_eq_true hl
        exact ⟨by omega, Nat.le_refl _⟩
      · rw [if_neg hl]
        have := lt_no.1 (Bool.eq_false_iff.2 hl)
        exact ⟨Nat.le_refl _, this⟩
    rcases List.mem_cons.1 hy with rfl | hy
    · exact le_tr (hpos m (by simp)) hxm.1 (ih m (by simp))
    · rcases List.mem_cons.1 hy with rfl | hy
      · exact le_tr (hpos m (by simp)) hxm.2 (ih m (by simp))
      · exact ih y (by simp [hy])
/-- no share of the list is more than the most. -/
theorem most_max {l : List (Nat × Nat)} (h : ∀ y ∈ l, 0 < y.2) {y : Nat × Nat} (hy : y ∈ l) : lt' (mostS l) y = false := by
  cases l with
  | nil => simp at hy
  | cons x r => exact lt_no.2 (fold_max r x h y hy)
theorem posS_le {x : Nat × Nat} : ∀ {l : List (Nat × Nat)} {k : Nat} (h : k < l.length), l[k] = x → posS x l ≤ k
  | [], k, h, _ => by simp at h
  | y :: r, 0, h, e => by
    have e' : y = x := by simpa using e
    unfold posS
    rw [if_pos e']
    exact Nat.le_refl _
  | y :: r, k + 1, h, e => by
    have hk : k < r.length := by simpa using h
    have ih := posS_le (x := x) (l := r) (k := k) hk (by simpa using e)
    unfold posS
    split <;> omega
theorem eachL_get {f : Nat → Nat × Nat} {lo hi d : Nat} (h1 : lo ≤ d) (h2 : d ≤ hi) : (eachL f lo hi)[d - lo]? = some (f d) := by
  unfold eachL
  rw [List.getElem?_map, List.getElem?_range (by omega)]
  simp only [Option.map_some]
  rw [show lo + (d - lo) = d by omega]
theorem avg_stays {P F pa fa S to d : Nat} : avgS P F pa fa S to d (fun v => v) ≤ avgS P F pa fa S to d (fun _ => 1) * d := by
  unfold avgS
  rw [Nat.mul_comm, ← sumN_mul]
  refine sumN_le fun i hi => ?_
  rw [← sumN_mul]
  refine sumN_le fun j hj => ?_
  have hl : left2 pa d i j ≤ d := by unfold left2; split <;> omega
  split
  · rw [Nat.mul_one, Nat.mul_comm]
    exact Nat.mul_le_mul_right _ hl
  · exact Nat.zero_le _
theorem stays_pass {P F pa fa S to d : Nat} (k : Fit P F pa fa S d) : lt' ((chS P F pa fa S to d).1 * d, (chS P F pa fa S to d).2) (stS P F pa fa S to d) = false := by
  have hD := den_pos k.f k.s
  have h := avg_stays (P := P) (F := F) (pa := pa) (fa := fa) (S := S) (to := to) (d := d)
  have e1 := shr_mul (avgS P F pa fa S to d fun v => v) hD
  have e2 := shr_mul (avgS P F pa fa S to d fun _ => 1) hD
  refine lt_no.2 ?_
  show (stS P F pa fa S to d).1 * (chS P F pa fa S to d).2 ≤ (chS P F pa fa S to d).1 * d * (stS P F pa fa S to d).2
  unfold stS chS
  obtain ⟨D, hDD⟩ : ∃ D, bn P F * bn (P - F) S = D := ⟨_, rfl⟩
  rw [hDD] at e1 e2 hD ⊢
  obtain ⟨A, hA⟩ : ∃ A, (avgS P F pa fa S to d fun v => v) = A := ⟨_, rfl⟩
  obtain ⟨B, hB⟩ : ∃ B, (avgS P F pa fa S to d fun _ => 1) = B := ⟨_, rfl⟩
  rw [hA] at e1 h ⊢
  rw [hB] at e2 h ⊢
  obtain ⟨⟨a, b⟩, hab⟩ : ∃ s, shr A D = s := ⟨_, rfl⟩
  obtain ⟨⟨c, e⟩, hce⟩ : ∃ s, shr B D = s := ⟨_, rfl⟩
  rw [hab] at e1 ⊢
  rw [hce] at e2 ⊢
  simp only at e1 e2 ⊢
  refine Nat.le_of_mul_le_mul_right (c := D) ?_ hD
  calc a * e * D = a * D * e := by simp only [Nat.mul_assoc, Nat.mul_comm, Nat.mul_left_comm]
    _ = A * b * e := by rw [e1]
    _ ≤ B * d * b * e := by exact Nat.mul_le_mul_right _ (Nat.mul_le_mul_right _ h)
    _ = B * e * d * b := by simp only [Nat.mul_assoc, Nat.mul_comm, Nat.mul_left_comm]
    _ = c * D * d * b := by rw [e2]
    _ = _ := by simp only [Nat.mul_assoc, Nat.mul_comm, Nat.mul_left_comm]
end Td
end Go.Proofs.Ytgkdidnmndmlhaa
/- With more bad pieces a heap passes no more often. -/
namespace Go.Proofs.Ytgkdidnmndmlhaa
open Go.RowKit
namespace Td
set_option linter.unusedVariables false
set_option linter.unusedSimpArgs false
/-- the ways to choose d - m of R, none if d is below m. -/
def rr (R d m : Nat) : Nat := if m ≤ d then bn R (d - m) else 0
/-- d bad pieces, of which the first sample has i, the second one j. -/
def uu (F S R d i j : Nat) : Nat := bn F i * bn S j * rr R d (i + j)
theorem uu_i (F S R d i j : Nat) : (i + 1) * uu F S R (d + 1) (i + 1) j = (F - i) * uu F S R d i j := by
  have e : rr R (d + 1) (i + 1 + j) = rr R d (i + j) := by
    unfold rr
    by_cases h : i + j ≤ d
    · rw [if_pos h, if_pos (by omega)]; congr 1; omega
    · rw [if_neg h, if_neg (by omega)]
  unfold uu
  rw [e]
  calc (i + 1) * (bn F (i + 1) * bn S j * rr R d (i + j)) = (i + 1) * bn F (i + 1) * (bn S j * rr R d (i + j)) := by simp only [Nat.mul_assoc]
    _ = (F - i) * bn F i * (bn S j * rr R d (i + j)) := by rw [bn_rest]
    _ = _ := by simp only [Nat.mul_assoc]
theorem uu_j (F S R d i j : Nat) : (j + 1) * uu F S R (d + 1) i (j + 1) = (S - j) * uu F S R d i j := by
  have e : rr R (d + 1) (i + (j + 1)) = rr R d (i + j) := by
    unfold rr
    by_cases h : i + j ≤ d
    · rw [if_pos h, if_pos (by omega)]; congr 1; omega
    · rw [if_neg h, if_neg (by omega)]
  unfold uu
  rw [e]
  calc (j + 1) * (bn F i * bn S (j + 1) * rr R d (i + j)) = (j + 1) * bn S (j + 1) * (bn F i * rr R d (i + j)) := by simp only [Nat.mul_assoc, Nat.mul_left_comm]
    _ = (S - j) * bn S j * (bn F i * rr R d (i + j)) := by rw [bn_rest]
    _ = _ := by simp only [Nat.mul_assoc, Nat.mul_left_comm]
theorem uu_k (F S R d i j : Nat) : (d + 1 - (i + j)) * uu F S R (d + 1) i j = (R - (d - (i + j))) * uu F S R d i j := by
  have e : (d + 1 - (i + j)) * rr R (d + 1) (i + j) = (R - (d - (i + j))) * rr R d (i + j) := by
    unfold rr
    by_cases h : i + j ≤ d
    · rw [if_pos h, if_pos (by omega), show d + 1 - (i + j) = (d - (i + j)) + 1 by omega, bn_rest]
    · rw [if_neg h, Nat.mul_zero, show d + 1 - (i + j) = 0 by omega, Nat.zero_mul]
  unfold uu
  calc (d + 1 - (i + j)) * (bn F i * bn S j * rr R (d + 1) (i + j)) = (d + 1 - (i + j)) * rr R (d + 1) (i + j) * (bn F i * bn S j) := by simp only [Nat.mul_assoc, Nat.mul_left_comm, Nat.mul_comm]
    _ = (R - (d - (i + j))) * rr R d (i + j) * (bn F i * bn S j) := by rw [e]
    _ = _ := by simp only [Nat.mul_assoc, Nat.mul_left_comm, Nat.mul_comm]
theorem uu_sum (F S R d i j : Nat) : d * uu F S R d i j = i * uu F S R d i j + (j * uu F S R d i j + (d - (i + j)) * uu F S R d i j) := by
  by_cases h : i + j ≤ d
  · rw [← Nat.add_mul, ← Nat.add_mul]; congr 1; omega
  · have e : uu F S R d i j = 0 := by unfold uu rr; rw [if_neg h, Nat.mul_zero]
    rw [e]; simp
theorem uu_all (F S R d i j : Nat) : (F - i) * uu F S R d i j + ((S - j) * uu F S R d i j + (R - (d - (i + j))) * uu F S R d i j) ≤ (F + S + R - d) * uu F S R d i j := by
  by_cases h0 : uu F S R d i j = 0
  · rw [h0]; simp
  · rw [← Nat.add_mul, ← Nat.add_mul]
    refine Nat.mul_le_mul_right _ ?_
    have h1 : i ≤ F := Nat.le_of_not_lt fun h => h0 (by unfold uu; rw [bn_gt h]; simp)
    have h2 : j ≤ S := Nat.le_of_not_lt fun h => h0 (by unfold uu; rw [bn_gt h]; simp)
    have h3 : i + j ≤ d := Nat.le_of_not_lt fun h => h0 (by unfold uu rr; rw [if_neg (by omega)]; simp)
    have h4 : d - (i + j) ≤ R := Nat.le_of_not_lt fun h => h0 (by unfold uu rr; rw [if_pos h3, bn_gt h]; simp)
    omega
/-- all ways that pass. -/
def tt (p : Nat → Nat → Bool) (F S R d : Nat) : Nat := sumN (F + 1) fun i => sumN (S + 1) fun j => if p i j then uu F S R d i j else 0
theorem tt_step {p : Nat → Nat → Bool} (hi : ∀ i j, p (i + 1) j = true → p i j = true) (hj : ∀ i j, p i (j + 1) = true → p i j = true) (F S R d : Nat) : (d + 1) * tt p F S R (d + 1) ≤ (F + S + R - d) * tt p F S R d := by
  have e1 : (d + 1) * tt p F S R (d + 1) = (sumN (F + 1) fun i => sumN (S + 1) fun j => if p i j then i * uu F S R (d + 1) i j else 0) + ((sumN (F + 1) fun i => sumN (S + 1) fun j => if p i j then j * uu F S R (d + 1) i j else 0) + (sumN (F + 1) fun i => sumN (S + 1) fun j => if p i j then (d + 1 - (i + j)) * uu F S R (d + 1) i j else 0)) := by
    unfold tt
    rw [← sumN_mul, ← sumN_add, ← sumN_add]
    refine sumN_congr fun i _ => ?_
    rw [← sumN_mul, ← sumN_add, ← sumN_add]
    refine sumN_congr fun j _ => ?_
    by_cases h : p i j = true
    · simp only [h, if_true]; exact uu_sum F S R (d + 1) i j
    · simp only [h, if_false, Bool.false_eq_true, Nat.mul_zero]
  have e2 : (F + S + R - d) * tt p F S R d ≥ (sumN (F + 1) fun i => sumN (S + 1) fun j => if p i j then (F - i) * uu F S R d i j else 0) + ((sumN (F + 1) fun i => sumN (S + 1) fun j => if p i j then (S - j) * uu F S R d i j else 0) + (sumN (F + 1) fun i => sumN (S + 1) fun j => if p i j then (R - (d - (i + j))) * uu F S R d i j else 0)) := by
    unfold tt
    rw [← sumN_mul, ← sumN_add, ← sumN_add]
    refine sumN_le fun i _ => ?_
    rw [← sumN_mul, ← sumN_add, ← sumN_add]
    refine sumN_le fun j _ => ?_
    by_cases h : p i j = true
    · simp only [h, if_true]; exact uu_all F S R d i j
    · simp only [h, if_false, Bool.false_eq_true]; omega
  have x1 : (sumN (F + 1) fun i => sumN (S + 1) fun j => if p i j then i * uu F S R (d + 1) i j else 0) ≤ sumN (F + 1) fun i => sumN (S + 1) fun j => if p i j then (F - i) * uu F S R d i j else 0 := by
    rw [sumN_first]
    rw [show (sumN (S + 1) fun j => if p 0 j then 0 * uu F S R (d + 1) 0 j else 0) = 0 from sumN_zero fun j _ => by rw [Nat.zero_mul]; split <;> rfl, Nat.zero_add]
    refine Nat.le_trans (sumN_le fun i _ => ?_) (sumN_le_of (Nat.le_succ F))
    refine sumN_le fun j _ => ?_
    by_cases h : p (i + 1) j = true
    · rw [if_pos h, if_pos (hi i j h), uu_i]; exact Nat.le_refl _
    · rw [if_neg h]; exact Nat.zero_le _
  have x2 : (sumN (F + 1) fun i => sumN (S + 1) fun j => if p i j then j * uu F S R (d + 1) i j else 0) ≤ sumN (F + 1) fun i => sumN (S + 1) fun j => if p i j then (S - j) * uu F S R d i j else 0 := by
    refine sumN_le fun i _ => ?_
    rw [sumN_first]
    rw [show (if p i 0 then 0 * uu F S R (d + 1) i 0 else 0) = 0 from by rw [Nat.zero_mul]; split <;> rfl, Nat.zero_add]
    refine Nat.le_trans (sumN_le fun j _ => ?_) (sumN_le_of (Nat.le_succ S))
    by_cases h : p i (j + 1) = true
    · rw [if_pos h, if_pos (hj i j h), uu_j]; exact Nat.le_refl _
    · rw [if_neg h]; exact Nat.zero_le _
  have x3 : (sumN (F + 1) fun i => sumN (S + 1) fun j => if p i j then (d + 1 - (i + j)) * uu F S R (d + 1) i j else 0) = sumN (F + 1) fun i => sumN (S + 1) fun j => if p i j then (R - (d - (i + j))) * uu F S R d i j else 0 := by
    refine sumN_congr fun i _ => sumN_congr fun j _ => ?_
    rw [uu_k]
  omega
/-- each case, told the other way round. -/
theorem case_turn {P F S d i j : Nat} (hd : d ≤ P) (hF : F ≤ P) (hS : S ≤ P - F) (hi : i ≤ F) (hj : j ≤ S) : case2 P F S d i j * bn P d = uu F S (P - F - S) d i j * (bn P F * bn (P - F) S) := by
  unfold case2 uu rr
  by_cases h1 : i + j ≤ d
  · rw [if_pos h1]
    have e1 := turned_sh (P := P) (b := d) (n := F) (i := i) hd hF (by omega) hi
    by_cases h2 : d - i ≤ P - F
    · have e2 := turned_sh (P := P - F) (b := d - i) (n := S) (i := j) h2 hS (by omega) hj
      have e3 : sh P F d i = bn F i * bn (P - F) (d - i) := rfl
      have e4 : sh (P - F) S (d - i) j = bn S j * bn (P - F - S) (d - i - j) := rfl
      rw [show d - (i + j) = d - i - j by omega]
      calc sh P d F i * sh (P - F) (d - i) S j * bn P d = sh P d F i * bn P d * sh (P - F) (d - i) S j := by simp only [Nat.mul_assoc, Nat.mul_comm, Nat.mul_left_comm]
        _ = bn F i * bn (P - F) (d - i) * bn P F * sh (P - F) (d - i) S j := by rw [e1, e3]
        _ = bn F i * bn P F * (sh (P - F) (d - i) S j * bn (P - F) (d - i)) := by simp only [Nat.mul_assoc, Nat.mul_comm, Nat.mul_left_comm]
        _ = bn F i * bn P F * (bn S j * bn (P - F - S) (d - i - j) * bn (P - F) S) := by rw [e2, e4]
        _ = _ := by simp only [Nat.mul_assoc, Nat.mul_comm, Nat.mul_left_comm]
    · rw [sh_none (P := P) (b := d) (n := F) (i := i) (.inr (by omega)), bn_gt (n := P - F - S) (k := d - (i + j)) (by omega)]
      simp
  · rw [if_neg h1]
    by_cases h2 : d < i
    · rw [sh_none (P := P) (b := d) (n := F) (i := i) (.inl h2)]; simp
    · rw [sh_none (P := P - F) (b := d - i) (n := S) (i := j) (.inl (by omega))]; simp
theorem avg_turn {P F pa fa S to d : Nat} (hd : d ≤ P) (hF : F ≤ P) (hS : S ≤ P - F) : avgS P F pa fa S to d (fun _ => 1) * bn P d = tt (pas2 pa fa to) F S (P - F - S) d * (bn P F * bn (P - F) S) := by
  unfold avgS tt
  rw [Nat.mul_comm _ (bn P d), ← sumN_mul, Nat.mul_comm _ (bn P F * bn (P - F) S), ← sumN_mul]
  refine sumN_congr fun i hi => ?_
  rw [← sumN_mul, ← sumN_mul]
  refine sumN_congr fun j hj => ?_
  by_cases h : pas2 pa fa to i j = true
  · rw [if_pos h, if_pos h, Nat.mul_one, Nat.mul_comm, case_turn hd hF hS (by omega) (by omega), Nat.mul_comm]
  · rw [if_neg h, if_neg h, Nat.mul_zero, Nat.mul_zero]
theorem pas2_i {pa fa to i j : Nat} (h : pas2 pa fa to (i + 1) j = true) : pas2 pa fa to i j = true := by
  simp only [pas2, Bool.and_eq_true, Bool.or_eq_true, decide_eq_true_eq] at h ⊢
  omega
theorem pas2_j {pa fa to i j : Nat} (h : pas2 pa fa to i (j + 1) = true) : pas2 pa fa to i j = true := by
  simp only [pas2, Bool.and_eq_true, Bool.or_eq_true, decide_eq_true_eq] at h ⊢
  omega
/-- one more bad piece. -/
theorem avg_step {P F pa fa S to d : Nat} (hd : d + 1 ≤ P) (hF : F ≤ P) (hS : S ≤ P - F) : avgS P F pa fa S to (d + 1) (fun _ => 1) ≤ avgS P F pa fa S to d (fun _ => 1) := by
  have h1 := avg_turn (pa := pa) (fa := fa) (to := to) (d := d + 1) hd hF hS
  have h2 := avg_turn (pa := pa) (fa := fa) (to := to) (d := d) (by omega) hF hS
  have h3 := tt_step (p := pas2 pa fa to) (fun i j => pas2_i) (fun i j => pas2_j) F S (P - F - S) d
  rw [show F + S + (P - F - S) - d = P - d by omega] at h3
  have h4 := bn_rest P d
  have hpos : 0 < (d + 1) * bn P (d + 1) := Nat.mul_pos (Nat.succ_pos d) (bn_pos hd)
  refine Nat.le_of_mul_le_mul_left (c := (d + 1) * bn P (d + 1)) ?_ hpos
  calc (d + 1) * bn P (d + 1) * avgS P F pa fa S to (d + 1) (fun _ => 1) = (d + 1) * (avgS P F pa fa S to (d + 1) (fun _ => 1) * bn P (d + 1)) := by simp only [Nat.mul_assoc, Nat.mul_comm, Nat.mul_left_comm]
    _ = (d + 1) * tt (pas2 pa fa to) F S (P - F - S) (d + 1) * (bn P F * bn (P - F) S) := by rw [h1, Nat.mul_assoc]
    _ ≤ (P - d) * tt (pas2 pa fa to) F S (P - F - S) d * (bn P F * bn (P - F) S) := Nat.mul_le_mul_right _ h3
    _ = (P - d) * (avgS P F pa fa S to d (fun _ => 1) * bn P d) := by rw [h2, Nat.mul_assoc]
    _ = (P - d) * bn P d * avgS P F pa fa S to d (fun _ => 1) := by simp only [Nat.mul_assoc, Nat.mul_comm, Nat.mul_left_comm]
    _ = _ := by rw [← h4]
theorem avg_mono {P F pa fa S to d e : Nat} (hde : d ≤ e) (he : e ≤ P) (hF : F ≤ P) (hS : S ≤ P - F) : avgS P F pa fa S to e (fun _ => 1) ≤ avgS P F pa fa S to d (fun _ => 1) := by
  induction e with
  | zero => obtain rfl : d = 0 := by omega
            exact Nat.le_refl _
  | succ e ih =>
    rcases Nat.lt_or_ge e d with h | h
    · obtain rfl : d = e + 1 := by omega
      exact Nat.le_refl _
    · exact Nat.le_trans (avg_step he hF hS) (ih h (by omega))
/-- more bad pieces: no greater a chance. -/
theorem ch_mono {P F pa fa S to d e : Nat} (hde : d ≤ e) (he : e ≤ P) (hF : F ≤ P) (hS : S ≤ P - F) : lt' (chS P F pa fa S to d) (chS P F pa fa S to e) = false := by
  unfold chS
  rw [lt_shr (den_pos hF hS) (den_pos hF hS)]
  exact decide_eq_false (Nat.not_lt.2 (Nat.mul_le_mul_right _ (avg_mono hde he hF hS)))
theorem lt_asym {s t : Nat × Nat} (h : lt' s t = true) : lt' t s = false := by
  rw [lt_no]
  unfold lt' at h
  have := of_decide_eq_true h
  omega
/-- the first of a list, before which none comes, is some element; none comes before it. -/
theorem fold_min : ∀ (r : List (Nat × Nat)) (x : Nat × Nat), (∀ y ∈ x :: r, 0 < y.2) → ∀ y ∈ x :: r, (r.foldl (fun f y => if lt' y f then y else f) x).1 * y.2 ≤ y.1 * (r.foldl (fun f y => if lt' y f then y else f) x).2
  | [], x, _, y, hy => by
    obtain rfl : y = x := by simpa using hy
    exact Nat.le_refl _
  | z :: r, x, h, y, hy => by
    rw [List.foldl_cons]
    obtain ⟨m, hm⟩ : ∃ m, (if lt' z x then z else x) = m := ⟨_, rfl⟩
    rw [hm]
    have hmm : m = z ∨ m = x := by rw [← hm]; split <;> simp
    have hpos : ∀ q ∈ m :: r, 0 < q.2 := fun q hq => by
      rcases List.mem_cons.1 hq with rfl | hq
      · rcases hmm with e | e <;> rw [e] <;> exact h _ (by simp)
      · exact h q (by simp [hq])
    have ih := fold_min r m hpos
    have hxm : m.1 * x.2 ≤ x.1 * m.2 ∧ m.1 * z.2 ≤ z.1 * m.2 := by
      rw [← hm]
      by_cases hl : lt' z x = true
      · rw [if_pos hl]
        unfold lt' at hl
        have := of_decide_eq_true hl
        exact ⟨by omega, Nat.le_refl _⟩
      · rw [if_neg hl]
        have := lt_no.1 (Bool.eq_false_iff.2 hl)
        exact ⟨Nat.le_refl _, this⟩
    rcases List.mem_cons.1 hy with rfl | hy
    · exact le_tr (hpos m (by simp)) (ih m (by simp)) hxm.1
    · rcases List.mem_cons.1 hy with rfl | hy
      · exact le_tr (hpos m (by simp)) (ih m (by simp)) hxm.2
      · exact ih y (by simp [hy])
theorem least_min {l : List (Nat × Nat)} (h : ∀ y ∈ l, 0 < y.2) {y : Nat × Nat} (hy : y ∈ l) : lt' y (leastS l) = false := by
  cases l with
  | nil => simp at hy
  | cons x r => exact lt_no.2 (fold_min r x h y hy)
theorem shr_both {a b c d : Nat} (hb : 0 < b) (hd : 0 < d) (h1 : lt' (shr a b) (shr c d) = false) (h2 : lt' (shr c d) (shr a b) = false) : shr a b = shr c d := by
  rw [lt_shr hb hd] at h1
  rw [lt_shr hd hb] at h2
  have h1 := of_decide_eq_false h1
  have h2 := of_decide_eq_false h2
  exact (shr_eq hb hd).2 (by omega)
/-- the ends are those of the most and of the fewest. -/
theorem ch_ends {P F pa fa S to lo hi : Nat} (hlh : lo ≤ hi) (hhi : hi ≤ P) (hF : F ≤ P) (hS : S ≤ P - F) :
    leastS (eachL (fun d => chS P F pa fa S to d) lo hi) = chS P F pa fa S to hi ∧ mostS (eachL (fun d => chS P F pa fa S to d) lo hi) = chS P F pa fa S to lo := by
  obtain ⟨L, hL⟩ : ∃ L, eachL (fun d => chS P F pa fa S to d) lo hi = L := ⟨_, rfl⟩
  have hpos : ∀ y ∈ L, 0 < y.2 := fun y hy => by
    rw [← hL] at hy
    obtain ⟨b, h1, h2, rfl⟩ := eachL_mem hy
    unfold chS
    exact shr_pos _ (den_pos hF hS)
  have m1 : chS P F pa fa S to hi ∈ L := by rw [← hL]; exact List.mem_of_getElem? (eachL_get hlh (Nat.le_refl _))
  have m2 : chS P F pa fa S to lo ∈ L := by rw [← hL]; exact List.mem_of_getElem? (eachL_get (Nat.le_refl _) hlh)
  have hne : L ≠ [] := List.ne_nil_of_mem m1
  rw [hL]
  constructor
  · have k1 := least_min hpos m1
    have k2 : leastS L ∈ L := fore_mem _ hne
    rw [← hL] at k2
    obtain ⟨b, h1, h2, h3⟩ := eachL_mem k2
    rw [hL] at h3
    rw [h3] at k1 ⊢
    exact shr_both (den_pos hF hS) (den_pos hF hS) (ch_mono h2 hhi hF hS) k1
  · have k1 := most_max hpos m2
    have k2 : mostS L ∈ L := fore_mem _ hne
    rw [← hL] at k2
    obtain ⟨b, h1, h2, h3⟩ := eachL_mem k2
    rw [hL] at h3
    rw [h3] at k1 ⊢
    exact shr_both (den_pos hF hS) (den_pos hF hS) k1 (ch_mono h1 (by omega) hF hS)
end Td
end Go.Proofs.Ytgkdidnmndmlhaa
/- Larger samples pass no more often; the least that does. -/
namespace Go.Proofs.Ytgkdidnmndmlhaa
open Go.RowKit
namespace Td
set_option linter.unusedVariables false
set_option linter.unusedSimpArgs false
/-- the chance that a sample of n shows at most m, as a sum that both sizes share. -/
theorem hd_turn {P n d m : Nat} (hn : n ≤ P) (hd : d ≤ P) : hdS P n d m * bn P d = hdS P d n m * bn P n := by
  have key : ∀ {n d : Nat}, n ≤ P → d ≤ P → hdS P n d m * bn P d = sumN (min n d + 1) (fun i => if i ≤ m then sh P d n i * bn P d else 0) := fun {n d} hn hd => by
    unfold hdS
    rw [Nat.mul_comm, ← sumN_mul]
    rw [sumN_short (m := min n d + 1) (n := n + 1) (by omega) (fun i h1 h2 => by
      rw [sh_none (.inl (by omega))]
      split <;> simp)]
    refine sumN_congr fun i _ => ?_
    split
    · rw [Nat.mul_comm]
    · simp
  rw [key hn hd, key hd hn, Nat.min_comm]
  refine sumN_congr fun i hi => ?_
  rw [turned_sh hd hn (by omega) (by omega)]
theorem ch_swap {P n d m : Nat} (hn : n ≤ P) (hd : d ≤ P) : chS P n m (m + 1) 0 0 d = chS P d m (m + 1) 0 0 n := by
  unfold chS
  rw [avg_once, avg_once, shr_eq (den_pos hn (Nat.zero_le _)) (den_pos hd (Nat.zero_le _)), bn_zero, bn_zero, Nat.mul_one, Nat.mul_one]
  exact hd_turn hn hd
/-- a larger sample passes no more often. -/
theorem ch_less {P n n' d m : Nat} (h : n ≤ n') (hn : n' ≤ P) (hd : d ≤ P) : lt' (chS P n m (m + 1) 0 0 d) (chS P n' m (m + 1) 0 0 d) = false := by
  rw [ch_swap (by omega) hd, ch_swap hn hd]
  exact ch_mono h hn hd (Nat.zero_le _)
theorem ch_min {P n d m : Nat} : chS P n (min m n) (min m n + 1) 0 0 d = chS P n m (m + 1) 0 0 d := by
  unfold chS
  rw [avg_once, avg_once]
  congr 1
  unfold hdS
  refine sumN_congr fun i hi => ?_
  by_cases h : i ≤ m
  · rw [if_pos h, if_pos (by omega)]
  · rw [if_neg h, if_neg (by omega)]
theorem lt_low {a b : Nat} {t : Nat × Nat} (hb : 0 < b) : lt' (a, b) t = lt' (shr a b) t := by
  obtain ⟨g, hg, h1, h2, -⟩ := shr_spec a hb
  unfold lt'
  congr 1
  refine propext ?_
  show a * t.2 < t.1 * b ↔ _
  have e1 : a * t.2 = g * ((shr a b).1 * t.2) := by rw [← Nat.mul_assoc, ← h1]
  have e2 : t.1 * b = g * (t.1 * (shr a b).2) := by rw [Nat.mul_left_comm, ← h2]
  rw [e1, e2]
  exact Nat.mul_lt_mul_left hg
theorem lt_le_tr {s t u : Nat × Nat} (ht : 0 < t.2) (hs : 0 < s.2) (hu : 0 < u.2) (h1 : lt' s t = true) (h2 : lt' u t = false) : lt' s u = true := by
  by_cases h : lt' s u = true
  · exact h
  · have h := lt_no.1 (Bool.eq_false_iff.2 h)
    have h2 := lt_no.1 h2
    have h3 := le_tr hu h2 h
    unfold lt' at h1
    have h1 := of_decide_eq_true h1
    omega
theorem le_le {s t u : Nat × Nat} (ht : 0 < t.2) (h1 : lt' s t = false) (h2 : lt' t u = false) : lt' s u = false := by
  rw [lt_no] at *
  exact le_tr ht h2 h1
theorem ch_pos {P F pa fa S to d : Nat} (hF : F ≤ P) (hS : S ≤ P - F) : 0 < (chS P F pa fa S to d).2 := by unfold chS; exact shr_pos _ (den_pos hF hS)
theorem ok_true {P lo hi pass a b n d : Nat} (hb : 0 < b) (hn : n ≤ P) (h : okS P lo hi pass (shr a b) n = true) (h1 : lo ≤ d) (h2 : d ≤ hi) : lt' (shr a b) (chS P n pass (pass + 1) 0 0 d) = false := by
  unfold okS at h
  have := List.all_eq_true.1 h (d - lo) (List.mem_range.2 (by omega))
  rw [show lo + (d - lo) = d by omega] at this
  rcases (Bool.or_eq_true _ _).mp this with e | e
  · rw [of_decide_eq_true e]
    exact decide_eq_false (Nat.lt_irrefl _)
  · exact lt_asym e
theorem ok_false {P lo hi pass a b n : Nat} (hb : 0 < b) (hn : n ≤ P) (h : okS P lo hi pass (shr a b) n = false) : ∃ d, lo ≤ d ∧ d ≤ hi ∧ lt' (shr a b) (chS P n pass (pass + 1) 0 0 d) = true := by
  unfold okS at h
  obtain ⟨k, hk, e⟩ := List.all_eq_false.1 h
  have hk := List.mem_range.1 hk
  refine ⟨lo + k, by omega, by omega, ?_⟩
  have e := Bool.eq_false_iff.2 e
  rw [Bool.or_eq_false_iff] at e
  by_cases h3 : lt' (shr a b) (chS P n pass (pass + 1) 0 0 (lo + k)) = true
  · exact h3
  · refine absurd ?_ (of_decide_eq_false e.1)
    unfold chS at e h3 ⊢
    exact shr_both (den_pos hn (Nat.zero_le _)) hb e.2 (Bool.eq_false_iff.2 h3)
/-- with a sample that is at least the least one. -/
theorem sma_big {P lo hi pass a b n o d : Nat} (hb : 0 < b) (hok : okS P lo hi pass (shr a b) n = true) (hno : n ≤ o) (ho : o ≤ P) (h1 : lo ≤ d) (h2 : d ≤ hi) (hh : hi ≤ P) : lt' (a, b) (chS P o (min pass o) (min pass o + 1) 0 0 d) = false := by
  rw [lt_low hb, ch_min]
  exact le_le (ch_pos (by omega) (Nat.zero_le _)) (ok_true hb (by omega) hok h1 h2) (ch_less hno ho (by omega))
/-- with a smaller one. -/
theorem sma_small {P lo hi pass a b o : Nat} (hb : 0 < b) (hno : okS P lo hi pass (shr a b) o = false) (ho : o ≤ P) (hlh : lo ≤ hi) (hh : hi ≤ P) : lt' (a, b) (chS P o (min pass o) (min pass o + 1) 0 0 lo) = true := by
  rw [lt_low hb, ch_min]
  obtain ⟨d, h1, h2, h3⟩ := ok_false hb ho hno
  exact lt_le_tr (ch_pos ho (Nat.zero_le _)) (shr_pos _ hb) (ch_pos ho (Nat.zero_le _)) h3 (ch_mono h1 (by omega) ho (Nat.zero_le _))
end Td
end Go.Proofs.Ytgkdidnmndmlhaa
/- The first of the greatest shares. -/
namespace Go.Proofs.Ytgkdidnmndmlhaa
open Go.RowKit
namespace Td
set_option linter.unusedVariables false
/-- m is the first of the greatest, of k shares from lo on. -/
structure Fst (f : Nat → Nat × Nat) (lo k m : Nat) : Prop where
  ge : lo ≤ m
  up : m < lo + k ∨ (k = 0 ∧ m = lo)
  max : ∀ d, lo ≤ d → d < lo + k → lt' (f m) (f d) = false
  fst : ∀ d, lo ≤ d → d < m → lt' (f d) (f m) = true
theorem lt_irr (s : Nat × Nat) : lt' s s = false := decide_eq_false (Nat.lt_irrefl _)
theorem le_lt_tr {s t u : Nat × Nat} (hs : 0 < s.2) (ht : 0 < t.2) (hu : 0 < u.2) (h1 : lt' t s = false) (h2 : lt' t u = true) : lt' s u = true := by
  by_cases h : lt' s u = true
  · exact h
  · have h := Bool.eq_false_iff.2 h
    have h3 := le_le (s := t) (t := s) (u := u) hs h1 h
    rw [h3] at h2
    cases h2
theorem Fst.start (f : Nat → Nat × Nat) (lo : Nat) : Fst f lo 0 lo := ⟨Nat.le_refl _, .inr ⟨rfl, rfl⟩, fun d h1 h2 => by omega, fun d h1 h2 => by omega⟩
theorem Fst.yes {f : Nat → Nat × Nat} {lo k m : Nat} (hp : ∀ d, lo ≤ d → d ≤ lo + k → 0 < (f d).2) (h : Fst f lo k m) (hl : lt' (f m) (f (lo + k)) = true) : Fst f lo (k + 1) (lo + k) := by
  have hm : m ≤ lo + k := by rcases h.up with q | ⟨q, q2⟩ <;> omega
  have key : ∀ d, lo ≤ d → d < lo + k → lt' (f d) (f (lo + k)) = true := fun d h1 h2 => le_lt_tr (hp d h1 (by omega)) (hp m h.ge hm) (hp _ (by omega) (Nat.le_refl _)) (h.max d h1 h2) hl
  refine ⟨by omega, .inl (by omega), fun d h1 h2 => ?_, fun d h1 h2 => key d h1 h2⟩
  rcases Nat.lt_or_ge d (lo + k) with q | q
  · exact lt_asym (key d h1 q)
  · obtain rfl : d = lo + k := by omega
    exact lt_irr _
theorem Fst.no {f : Nat → Nat × Nat} {lo k m : Nat} (h : Fst f lo k m) (hl : lt' (f m) (f (lo + k)) = false) : Fst f lo (k + 1) m :=
  ⟨h.ge, .inl (by rcases h.up with q | ⟨q, q2⟩ <;> omega), fun d h1 h2 => by
    rcases Nat.lt_or_ge d (lo + k) with q | q
    · exact h.max d h1 q
    · obtain rfl : d = lo + k := by omega
      exact hl, h.fst⟩
theorem Fst.done {f : Nat → Nat × Nat} {lo hi m : Nat} (hlh : lo ≤ hi) (hp : ∀ d, d ≤ hi → 0 < (f d).2) (heq : ∀ d e, d ≤ hi → e ≤ hi → lt' (f d) (f e) = false → lt' (f e) (f d) = false → f d = f e) (h : Fst f lo (hi + 1 - lo) m) : m ≤ hi ∧ mostS (eachL f lo hi) = f m ∧ lo + posS (f m) (eachL f lo hi) = m := by
  have hm : m ≤ hi := by rcases h.up with q | ⟨q, q2⟩ <;> omega
  have hget := eachL_get (f := f) h.ge hm
  have hmem : f m ∈ eachL f lo hi := List.mem_of_getElem? hget
  have hne : eachL f lo hi ≠ [] := List.ne_nil_of_mem hmem
  have hpos : ∀ y ∈ eachL f lo hi, 0 < y.2 := fun y hy => by
    obtain ⟨b, h1, h2, rfl⟩ := eachL_mem hy
    exact hp b h2
  have hmost : mostS (eachL f lo hi) = f m := by
    obtain ⟨d, h1, h2, h3⟩ := eachL_mem (fore_mem (fun s t => lt' t s) hne)
    have k1 := most_max hpos hmem
    have h3' : mostS (eachL f lo hi) = f d := h3
    rw [h3'] at k1 ⊢
    exact heq d m h2 hm k1 (h.max d h1 (by omega))
  obtain ⟨h1, h2⟩ := List.getElem?_eq_some_iff.1 hget
  have := posS_is h1 h2 fun j hj => by
    intro e
    have hj2 : j < (eachL f lo hi).length := by omega
    have e2 : (eachL f lo hi)[j]? = some (f (lo + j)) := by
      have := eachL_get (f := f) (lo := lo) (hi := hi) (d := lo + j) (by omega) (by rw [eachL_len] at h1; omega)
      rwa [show lo + j - lo = j by omega] at this
    rw [List.getElem?_eq_getElem hj2] at e2
    have e3 : f (lo + j) = f m := by rw [← Option.some.inj e2]; exact e
    have := h.fst (lo + j) (by omega) (by omega)
    rw [e3, lt_irr] at this
    cases this
  exact ⟨hm, hmost, by have := h.ge; omega⟩
end Td
end Go.Proofs.Ytgkdidnmndmlhaa
