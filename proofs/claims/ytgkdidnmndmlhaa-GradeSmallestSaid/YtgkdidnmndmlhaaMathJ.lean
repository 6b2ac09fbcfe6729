import Derived.Test.YtgkdidnmndmlhaaMathF
import Derived.Test.YtgkdidnmndmlhaaMathG
/- With more bad pieces a heap passes no more often. -/
namespace Go.Proofs.Ytgkdidnmndmlhaa
open Go.RowKit
namespace Td
set_option linter.unusedVariables false
set_option linter.unusedSimpArgs false
/-- the ways to choose d - m of R, none if d is below m. -/
def rr (R d m : Nat) : Nat := if m ≤ d then bn R (d - m) else 0
/-- d bad pieces, of which the first sample has i, the second one j. -/
def uu (F S R d i j : Nat) : Nat := bn F i * bn S j * rr R d (i + j)
theorem uu_i (F S R d i j : Nat) : (i + 1) * uu F S R (d + 1) (i + 1) j = (F - i) * uu F S R d i j := by
  have e : rr R (d + 1) (i + 1 + j) = rr R d (i + j) := by
    unfold rr
    by_cases h : i + j ≤ d
    · rw [if_pos h, if_pos (by omega)]; congr 1; omega
    · rw [if_neg h, if_neg (by omega)]
  unfold uu
  rw [e]
  calc (i + 1) * (bn F (i + 1) * bn S j * rr R d (i + j)) = (i + 1) * bn F (i + 1) * (bn S j * rr R d (i + j)) := by simp only [Nat.mul_assoc]
    _ = (F - i) * bn F i * (bn S j * rr R d (i + j)) := by rw [bn_rest]
    _ = _ := by simp only [Nat.mul_assoc]
theorem uu_j (F S R d i j : Nat) : (j + 1) * uu F S R (d + 1) i (j + 1) = (S - j) * uu F S R d i j := by
  have e : rr R (d + 1) (i + (j + 1)) = rr R d (i + j) := by
    unfold rr
    by_cases h : i + j ≤ d
    · rw [if_pos h, if_pos (by omega)]; congr 1; omega
    · rw [if_neg h, if_neg (by omega)]
  unfold uu
  rw [e]
  calc (j + 1) * (bn F i * bn S (j + 1) * rr R d (i + j)) = (j + 1) * bn S (j + 1) * (bn F i * rr R d (i + j)) := by simp only [Nat.mul_assoc, Nat.mul_left_comm]
    _ = (S - j) * bn S j * (bn F i * rr R d (i + j)) := by rw [bn_rest]
    _ = _ := by simp only [Nat.mul_assoc, Nat.mul_left_comm]
theorem uu_k (F S R d i j : Nat) : (d + 1 - (i + j)) * uu F S R (d + 1) i j = (R - (d - (i + j))) * uu F S R d i j := by
  have e : (d + 1 - (i + j)) * rr R (d + 1) (i + j) = (R - (d - (i + j))) * rr R d (i + j) := by
    unfold rr
    by_cases h : i + j ≤ d
    · rw [if_pos h, if_pos (by omega), show d + 1 - (i + j) = (d - (i + j)) + 1 by omega, bn_rest]
    · rw [if_neg h, Nat.mul_zero, show d + 1 - (i + j) = 0 by omega, Nat.zero_mul]
  unfold uu
  calc (d + 1 - (i + j)) * (bn F i * bn S j * rr R (d + 1) (i + j)) = (d + 1 - (i + j)) * rr R (d + 1) (i + j) * (bn F i * bn S j) := by simp only [Nat.mul_assoc, Nat.mul_left_comm, Nat.mul_comm]
    _ = (R - (d - (i + j))) * rr R d (i + j) * (bn F i * bn S j) := by rw [e]
    _ = _ := by simp only [Nat.mul_assoc, Nat.mul_left_comm, Nat.mul_comm]
theorem uu_sum (F S R d i j : Nat) : d * uu F S R d i j = i * uu F S R d i j + (j * uu F S R d i j + (d - (i + j)) * uu F S R d i j) := by
  by_cases h : i + j ≤ d
  · rw [← Nat.add_mul, ← Nat.add_mul]; congr 1; omega
  · have e : uu F S R d i j = 0 := by unfold uu rr; rw [if_neg h, Nat.mul_zero]
    rw [e]; simp
theorem uu_all (F S R d i j : Nat) : (F - i) * uu F S R d i j + ((S - j) * uu F S R d i j + (R - (d - (i + j))) * uu F S R d i j) ≤ (F + S + R - d) * uu F S R d i j := by
  by_cases h0 : uu F S R d i j = 0
  · rw [h0]; simp
  · rw [← Nat.add_mul, ← Nat.add_mul]
    refine Nat.mul_le_mul_right _ ?_
    have h1 : i ≤ F := Nat.le_of_not_lt fun h => h0 (by unfold uu; rw [bn_gt h]; simp)
    have h2 : j ≤ S := Nat.le_of_not_lt fun h => h0 (by unfold uu; rw [bn_gt h]; simp)
    have h3 : i + j ≤ d := Nat.le_of_not_lt fun h => h0 (by unfold uu rr; rw [if_neg (by omega)]; simp)
    have h4 : d - (i + j) ≤ R := Nat.le_of_not_lt fun h => h0 (by unfold uu rr; rw [if_pos h3, bn_gt h]; simp)
    omega
/-- all ways that pass. -/
def tt (p : Nat → Nat → Bool) (F S R d : Nat) : Nat := sumN (F + 1) fun i => sumN (S + 1) fun j => if p i j then uu F S R d i j else 0
theorem tt_step {p : Nat → Nat → Bool} (hi : ∀ i j, p (i + 1) j = true → p i j = true) (hj : ∀ i j, p i (j + 1) = true → p i j = true) (F S R d : Nat) : (d + 1) * tt p F S R (d + 1) ≤ (F + S + R - d) * tt p F S R d := by
  have e1 : (d + 1) * tt p F S R (d + 1) = (sumN (F + 1) fun i => sumN (S + 1) fun j => if p i j then i * uu F S R (d + 1) i j else 0) + ((sumN (F + 1) fun i => sumN (S + 1) fun j => if p i j then j * uu F S R (d + 1) i j else 0) + (sumN (F + 1) fun i => sumN (S + 1) fun j => if p i j then (d + 1 - (i + j)) * uu F S R (d + 1) i j else 0)) := by
    unfold tt
    rw [← sumN_mul, ← sumN_add, ← sumN_add]
    refine sumN_congr fun i _ => ?_
    rw [← sumN_mul, ← sumN_add, ← sumN_add]
    refine sumN_congr fun j _ => ?_
    by_cases h : p i j = true
    · simp only [h, if_true]; exact uu_sum F S R (d + 1) i j
    · simp only [h, if_false, Bool.false_eq_true, Nat.mul_zero]
  have e2 : (F + S + R - d) * tt p F S R d ≥ (sumN (F + 1) fun i => sumN (S + 1) fun j => if p i j then (F - i) * uu F S R d i j else 0) + ((sumN (F + 1) fun i => sumN (S + 1) fun j => if p i j then (S - j) * uu F S R d i j else 0) + (sumN (F + 1) fun i => sumN (S + 1) fun j => if p i j then (R - (d - (i + j))) * uu F S R d i j else 0)) := by
    unfold tt
    rw [← sumN_mul, ← sumN_add, ← sumN_add]
    refine sumN_le fun i _ => ?_
    rw [← sumN_mul, ← sumN_add, ← sumN_add]
    refine sumN_le fun j _ => ?_
    by_cases h : p i j = true
    · simp only [h, if_true]; exact uu_all F S R d i j
    · simp only [h, if_false, Bool.false_eq_true]; omega
  have x1 : (sumN (F + 1) fun i => sumN (S + 1) fun j => if p i j then i * uu F S R (d + 1) i j else 0) ≤ sumN (F + 1) fun i => sumN (S + 1) fun j => if p i j then (F - i) * uu F S R d i j else 0 := by
    rw [sumN_first]
    rw [show (sumN (S + 1) fun j => if p 0 j then 0 * uu F S R (d + 1) 0 j else 0) = 0 from sumN_zero fun j _ => by rw [Nat.zero_mul]; split <;> rfl, Nat.zero_add]
    refine Nat.le_trans (sumN_le fun i _ => ?_) (sumN_le_of (Nat.le_succ F))
    refine sumN_le fun j _ => ?_
    by_cases h : p (i + 1) j = true
    · rw [if_pos h, if_pos (hi i j h), uu_i]; exact Nat.le_refl _
    · rw [if_neg h]; exact Nat.zero_le _
  have x2 : (sumN (F + 1) fun i => sumN (S + 1) fun j => if p i j then j * uu F S R (d + 1) i j else 0) ≤ sumN (F + 1) fun i => sumN (S + 1) fun j => if p i j then (S - j) * uu F S R d i j else 0 := by
    refine sumN_le fun i _ => ?_
    rw [sumN_first]
    rw [show (if p i 0 then 0 * uu F S R (d + 1) i 0 else 0) = 0 from by rw [Nat.zero_mul]; split <;> rfl, Nat.zero_add]
    refine Nat.le_trans (sumN_le fun j _ => ?_) (sumN_le_of (Nat.le_succ S))
    by_cases h : p i (j + 1) = true
    · rw [if_pos h, if_pos (hj i j h), uu_j]; exact Nat.le_refl _
    · rw [if_neg h]; exact Nat.zero_le _
  have x3 : (sumN (F + 1) fun i => sumN (S + 1) fun j => if p i j then (d + 1 - (i + j)) * uu F S R (d + 1) i j else 0) = sumN (F + 1) fun i => sumN (S + 1) fun j => if p i j then (R - (d - (i + j))) * uu F S R d i j else 0 := by
    refine sumN_congr fun i _ => sumN_congr fun j _ => ?_
    rw [uu_k]
  omega
/-- each case, told the other way round. -/
theorem case_turn {P F S d i j : Nat} (hd : d ≤ P) (hF : F ≤ P) (hS : S ≤ P - F) (hi : i ≤ F) (hj : j ≤ S) : case2 P F S d i j * bn P d = uu F S (P - F - S) d i j * (bn P F * bn (P - F) S) := by
  unfold case2 uu rr
  by_cases h1 : i + j ≤ d
  · rw [if_pos h1]
    have e1 := turned_sh (P := P) (b := d) (n := F) (i := i) hd hF (by omega) hi
    by_cases h2 : d - i ≤ P - F
    · have e2 := turned_sh (P := P - F) (b := d - i) (n := S) (i := j) h2 hS (by omega) hj
      have e3 : sh P F d i = bn F i * bn (P - F) (d - i) := rfl
      have e4 : sh (P - F) S (d - i) j = bn S j * bn (P - F - S) (d - i - j) := rfl
      rw [show d - (i + j) = d - i - j by omega]
      calc sh P d F i * sh (P - F) (d - i) S j * bn P d = sh P d F i * bn P d * sh (P - F) (d - i) S j := by simp only [Nat.mul_assoc, Nat.mul_comm, Nat.mul_left_comm]
        _ = bn F i * bn (P - F) (d - i) * bn P F * sh (P - F) (d - i) S j := by rw [e1, e3]
        _ = bn F i * bn P F * (sh (P - F) (d - i) S j * bn (P - F) (d - i)) := by simp only [Nat.mul_assoc, Nat.mul_comm, Nat.mul_left_comm]
        _ = bn F i * bn P F * (bn S j * bn (P - F - S) (d - i - j) * bn (P - F) S) := by rw [e2, e4]
        _ = _ := by simp only [Nat.mul_assoc, Nat.mul_comm, Nat.mul_left_comm]
    · rw [sh_none (P := P) (b := d) (n := F) (i := i) (.inr (by omega)), bn_gt (n := P - F - S) (k := d - (i + j)) (by omega)]
      simp
  · rw [if_neg h1]
    by_cases h2 : d < i
    · rw [sh_none (P := P) (b := d) (n := F) (i := i) (.inl h2)]; simp
    · rw [sh_none (P := P - F) (b := d - i) (n := S) (i := j) (.inl (by omega))]; simp
theorem avg_turn {P F pa fa S to d : Nat} (hd : d ≤ P) (hF : F ≤ P) (hS : S ≤ P - F) : avgS P F pa fa S to d (fun _ => 1) * bn P d = tt (pas2 pa fa to) F S (P - F - S) d * (bn P F * bn (P - F) S) := by
  unfold avgS tt
  rw [Nat.mul_comm _ (bn P d), ← sumN_mul, Nat.mul_comm _ (bn P F * bn (P - F) S), ← sumN_mul]
  refine sumN_congr fun i hi => ?_
  rw [← sumN_mul, ← sumN_mul]
  refine sumN_congr fun j hj => ?_
  by_cases h : pas2 pa fa to i j = true
  · rw [if_pos h, if_pos h, Nat.mul_one, Nat.mul_comm, case_turn hd hF hS (by omega) (by omega), Nat.mul_comm]
  · rw [if_neg h, if_neg h, Nat.mul_zero, Nat.mul_zero]
theorem pas2_i {pa fa to i j : Nat} (h : pas2 pa fa to (i + 1) j = true) : pas2 pa fa to i j = true := by
  simp only [pas2, Bool.and_eq_true, Bool.or_eq_true, decide_eq_true_eq] at h ⊢
  omega
theorem pas2_j {pa fa to i j : Nat} (h : pas2 pa fa to i (j + 1) = true) : pas2 pa fa to i j = true := by
  simp only [pas2, Bool.and_eq_true, Bool.or_eq_true, decide_eq_true_eq] at h ⊢
  omega
/-- one more bad piece. -/
theorem avg_step {P F pa fa S to d : Nat} (hd : d + 1 ≤ P) (hF : F ≤ P) (hS : S ≤ P - F) : avgS P F pa fa S to (d + 1) (fun _ => 1) ≤ avgS P F pa fa S to d (fun _ => 1) := by
  have h1 := avg_turn (pa := pa) (fa := fa) (to := to) (d := d + 1) hd hF hS
  have h2 := avg_turn (pa := pa) (fa := fa) (to := to) (d := d) (by omega) hF hS
  have h3 := tt_step (p := pas2 pa fa to) (fun i j => pas2_i) (fun i j => pas2_j) F S (P - F - S) d
  rw [show F + S + (P - F - S) - d = P - d by omega] at h3
  have h4 := bn_rest P d
  have hpos : 0 < (d + 1) * bn P (d + 1) := Nat.mul_pos (Nat.succ_pos d) (bn_pos hd)
  refine Nat.le_of_mul_le_mul_left (c := (d + 1) * bn P (d + 1)) ?_ hpos
  calc (d + 1) * bn P (d + 1) * avgS P F pa fa S to (d + 1) (fun _ => 1) = (d + 1) * (avgS P F pa fa S to (d + 1) (fun _ => 1) * bn P (d + 1)) := by simp only [Nat.mul_assoc, Nat.mul_comm, Nat.mul_left_comm]
    _ = (d + 1) * tt (pas2 pa fa to) F S (P - F - S) (d + 1) * (bn P F * bn (P - F) S) := by rw [h1, Nat.mul_assoc]
    _ ≤ (P - d) * tt (pas2 pa fa to) F S (P - F - S) d * (bn P F * bn (P - F) S) := Nat.mul_le_mul_right _ h3
    _ = (P - d) * (avgS P F pa fa S to d (fun _ => 1) * bn P d) := by rw [h2, Nat.mul_assoc]
    _ = (P - d) * bn P d * avgS P F pa fa S to d (fun _ => 1) := by simp only [Nat.mul_assoc, Nat.mul_comm, Nat.mul_left_comm]
    _ = _ := by rw [← h4]
theorem avg_mono {P F pa fa S to d e : Nat} (hde : d ≤ e) (he : e ≤ P) (hF : F ≤ P) (hS : S ≤ P - F) : avgS P F pa fa S to e (fun _ => 1) ≤ avgS P F pa fa S to d (fun _ => 1) := by
  induction e with
  | zero => obtain rfl : d = 0 := by omega
            exact Nat.le_refl _
  | succ e ih =>
    rcases Nat.lt_or_ge e d with h | h
    · obtain rfl : d = e + 1 := by omega
      exact Nat.le_refl _
    · exact Nat.le_trans (avg_step he hF hS) (ih h (by omega))
/-- more bad pieces: no greater a chance. -/
theorem ch_mono {P F pa fa S to d e : Nat} (hde : d ≤ e) (he : e ≤ P) (hF : F ≤ P) (hS : S ≤ P - F) : lt' (chS P F pa fa S to d) (chS P F pa fa S to e) = false := by
  unfold chS
  rw [lt_shr (den_pos hF hS) (den_pos hF hS)]
  exact decide_eq_false (Nat.not_lt.2 (Nat.mul_le_mul_right _ (avg_mono hde he hF hS)))
theorem lt_asym {s t : Nat × Nat} (h : lt' s t = true) : lt' t s = false := by
  rw [lt_no]
  unfold lt' at h
  have := of_decide_eq_true h
  omega
/-- the first of a list, before which none comes, is some element; none comes before it. -/
theorem fold_min : ∀ (r : List (Nat × Nat)) (x : Nat × Nat), (∀ y ∈ x :: r, 0 < y.2) → ∀ y ∈ x :: r, (r.foldl (fun f y => if lt' y f then y else f) x).1 * y.2 ≤ y.1 * (r.foldl (fun f y => if lt' y f then y else f) x).2
  | [], x, _, y, hy => by
    obtain rfl : y = x := by simpa using hy
    exact Nat.le_refl _
  | z :: r, x, h, y, hy => by
    rw [List.foldl_cons]
    obtain ⟨m, hm⟩ : ∃ m, (if lt' z x then z else x) = m := ⟨_, rfl⟩
    rw [hm]
    have hmm : m = z ∨ m = x := by rw [← hm]; split <;> simp
    have hpos : ∀ q ∈ m :: r, 0 < q.2 := fun q hq => by
      rcases List.mem_cons.1 hq with rfl | hq
      · rcases hmm with e | e <;> rw [e] <;> exact h _ (by simp)
      · exact h q (by simp [hq])
    have ih := fold_min r m hpos
    have hxm : m.1 * x.2 ≤ x.1 * m.2 ∧ m.1 * z.2 ≤ z.1 * m.2 := by
      rw [← hm]
      by_cases hl : lt' z x = true
      · rw [if_pos hl]
        unfold lt' at hl
        have := of_decide_eq_true hl
        exact ⟨by omega, Nat.le_refl _⟩
      · rw [if_neg hl]
        have := lt_no.1 (Bool.eq_false_iff.2 hl)
        exact ⟨Nat.le_refl _, this⟩
    rcases List.mem_cons.1 hy with rfl | hy
    · exact le_tr (hpos m (by simp)) (ih m (by simp)) hxm.1
    · rcases List.mem_cons.1 hy with rfl | hy
      · exact le_tr (hpos m (by simp)) (ih m (by simp)) hxm.2
      · exact ih y (by simp [hy])
theorem least_min {l : List (Nat × Nat)} (h : ∀ y ∈ l, 0 < y.2) {y : Nat × Nat} (hy : y ∈ l) : lt' y (leastS l) = false := by
  cases l with
  | nil => simp at hy
  | cons x r => exact lt_no.2 (fold_min r x h y hy)
theorem shr_both {a b c d : Nat} (hb : 0 < b) (hd : 0 < d) (h1 : lt' (shr a b) (shr c d) = false) (h2 : lt' (shr c d) (shr a b) = false) : shr a b = shr c d := by
  rw [lt_shr hb hd] at h1
  rw [lt_shr hd hb] at h2
  have h1 := of_decide_eq_false h1
  have h2 := of_decide_eq_false h2
  exact (shr_eq hb hd).2 (by omega)
/-- the ends are those of the most and of the fewest. -/
theorem ch_ends {P F pa fa S to lo hi : Nat} (hlh : lo ≤ hi) (hhi : hi ≤ P) (hF : F ≤ P) (hS : S ≤ P - F) :
    leastS (eachL (fun d => chS P F pa fa S to d) lo hi) = chS P F pa fa S to hi ∧ mostS (eachL (fun d => chS P F pa fa S to d) lo hi) = chS P F pa fa S to lo := by
  obtain ⟨L, hL⟩ : ∃ L, eachL (fun d => chS P F pa fa S to d) lo hi = L := ⟨_, rfl⟩
  have hpos : ∀ y ∈ L, 0 < y.2 := fun y hy => by
    rw [← hL] at hy
    obtain ⟨b, h1, h2, rfl⟩ := eachL_mem hy
    unfold chS
    exact shr_pos _ (den_pos hF hS)
  have m1 : chS P F pa fa S to hi ∈ L := by rw [← hL]; exact List.mem_of_getElem? (eachL_get hlh (Nat.le_refl _))
  have m2 : chS P F pa fa S to lo ∈ L := by rw [← hL]; exact List.mem_of_getElem? (eachL_get (Nat.le_refl _) hlh)
  have hne : L ≠ [] := List.ne_nil_of_mem m1
  rw [hL]
  constructor
  · have k1 := least_min hpos m1
    have k2 : leastS L ∈ L := fore_mem _ hne
    rw [← hL] at k2
    obtain ⟨b, h1, h2, h3⟩ := eachL_mem k2
    rw [hL] at h3
    rw [h3] at k1 ⊢
    exact shr_both (den_pos hF hS) (den_pos hF hS) (ch_mono h2 hhi hF hS) k1
  · have k1 := most_max hpos m2
    have k2 : mostS L ∈ L := fore_mem _ hne
    rw [← hL] at k2
    obtain ⟨b, h1, h2, h3⟩ := eachL_mem k2
    rw [hL] at h3
    rw [h3] at k1 ⊢
    exact shr_both (den_pos hF hS) (den_pos hF hS) k1 (ch_mono h1 (by omega) hF hS)
end Td
end Go.Proofs.Ytgkdidnmndmlhaa
