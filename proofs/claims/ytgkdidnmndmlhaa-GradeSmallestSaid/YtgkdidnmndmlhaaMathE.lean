import Derived.Test.YtgkdidnmndmlhaaExpA
import Derived.Test.YtgkdidnmndmlhaaMathC
/- A plan with two samples against its first one alone. -/
namespace Go.Proofs.Ytgkdidnmndmlhaa
open Go.RowKit
namespace Td
set_option linter.unusedVariables false
/-- in how many samples there are at most m bad pieces. -/
def hdS (P F d m : Nat) : Nat := sumN (F + 1) fun i => if i ≤ m then sh P d F i else 0
theorem avg_once (P F pa d : Nat) : avgS P F pa (pa + 1) 0 0 d (fun _ => 1) = hdS P F d pa := by
  unfold avgS hdS
  refine sumN_congr fun i hi => ?_
  rw [sumN_succ]
  show 0 + _ = _
  rw [Nat.zero_add]
  have hs : sh (P - F) (d - i) 0 0 = 1 := by unfold sh; rw [bn_zero, bn_zero]
  by_cases h : i ≤ pa
  · have hp : pas2 pa (pa + 1) 0 i 0 = true := by simp [pas2, h, Nat.lt_succ_of_le h]
    rw [hp, if_pos rfl, if_pos h]
    unfold case2
    rw [hs, Nat.mul_one, Nat.mul_one]
  · have hp : pas2 pa (pa + 1) 0 i 0 = false := by simp [pas2]; omega
    rw [hp, if_neg h]
    rfl
theorem hd_le {P F pa fa S to d : Nat} (hd : d ≤ P) (hp : pa + 1 ≤ fa) : hdS P F d pa * bn (P - F) S ≤ avgS P F pa fa S to d (fun _ => 1) := by
  unfold hdS avgS
  rw [Nat.mul_comm, ← sumN_mul]
  refine sumN_le fun i hi => ?_
  by_cases h : i ≤ pa
  · rw [if_pos h, Nat.mul_comm, ← case2_sum hd]
    refine sumN_le fun j hj => ?_
    have h2 : pas2 pa fa to i j = true := by simp [pas2, h]; omega
    rw [h2, if_pos rfl, Nat.mul_one]
    exact Nat.le_refl _
  · rw [if_neg h, Nat.mul_zero]
    exact Nat.zero_le _
theorem le_hd {P F pa fa S to d : Nat} (hd : d ≤ P) : avgS P F pa (fa + 1) S to d (fun _ => 1) ≤ hdS P F d fa * bn (P - F) S := by
  unfold hdS avgS
  rw [Nat.mul_comm, ← sumN_mul]
  refine sumN_le fun i hi => ?_
  by_cases h : i ≤ fa
  · rw [if_pos h, Nat.mul_comm, ← case2_sum hd]
    refine sumN_le fun j hj => ?_
    split
    · rw [Nat.mul_one]; exact Nat.le_refl _
    · exact Nat.zero_le _
  · rw [sumN_zero fun j hj => ?_]
    · exact Nat.zero_le _
    · have h2 : pas2 pa (fa + 1) to i j = false := by
        have : ¬ i < fa + 1 := by omega
        simp [pas2, this]
      rw [h2]
      rfl
theorem den_pos {P F S : Nat} (hF : F ≤ P) (hS : S ≤ P - F) : 0 < bn P F * bn (P - F) S := Nat.mul_pos (bn_pos hF) (bn_pos hS)
/-- no less often than with the first sample and Pass alone. -/
theorem twice_low {P F pa fa S to d : Nat} (k : Fit P F pa fa S d) : lt' (chS P F pa fa S to d) (chS P F pa (pa + 1) 0 0 d) = false := by
  have hF := k.f
  unfold chS
  rw [lt_shr (den_pos hF k.s) (den_pos hF (Nat.zero_le _)), avg_once]
  refine decide_eq_false (Nat.not_lt.2 ?_)
  have h := hd_le (F := F) (S := S) (to := to) k.d k.t
  rw [bn_zero, Nat.mul_one]
  calc hdS P F d pa * (bn P F * bn (P - F) S) = hdS P F d pa * bn (P - F) S * bn P F := by simp only [Nat.mul_assoc, Nat.mul_comm, Nat.mul_left_comm]
    _ ≤ _ := Nat.mul_le_mul_right _ h
/-- no more often than with less than Fail. -/
theorem twice_high {P F pa fa S to d : Nat} (k : Fit P F pa (fa + 1) S d) : lt' (chS P F fa (fa + 1) 0 0 d) (chS P F pa (fa + 1) S to d) = false := by
  have hF := k.f
  unfold chS
  rw [lt_shr (den_pos hF (Nat.zero_le _)) (den_pos hF k.s), avg_once]
  refine decide_eq_false (Nat.not_lt.2 ?_)
  have h := le_hd (P := P) (F := F) (pa := pa) (fa := fa) (S := S) (to := to) k.d
  rw [bn_zero, Nat.mul_one]
  calc avgS P F pa (fa + 1) S to d (fun _ => 1) * bn P F ≤ hdS P F d fa * bn (P - F) S * bn P F := Nat.mul_le_mul_right _ h
    _ = _ := by simp only [Nat.mul_assoc, Nat.mul_comm, Nat.mul_left_comm]
theorem each_one (f : Nat → Nat × Nat) (d : Nat) : eachL f d d = [f d] := by
  unfold eachL
  rw [show d + 1 - d = 1 by omega]
  rfl
theorem least_one (x : Nat × Nat) : leastS [x] = x := rfl
theorem most_one (x : Nat × Nat) : mostS [x] = x := rfl
theorem chkE_one {P lo hi d : Nat} (h : chkE P lo hi = 0) (h1 : lo ≤ d) (h2 : d ≤ hi) : chkE P d d = 0 := by
  obtain ⟨a1, a2, a3, a4, a5⟩ := chkE_ok.1 h
  exact chkE_ok.2 ⟨a1, a2, by omega, Int.le_refl _, by omega⟩
theorem chkP_of {P lo hi fi pa fa se to : Int} (h1 : chkE P lo hi = 0) (h2 : planE P fi pa fa se to = 0) : chkP P lo hi fi pa fa se to = 0 := by unfold chkP; rw [if_pos h1]; exact h2
theorem planE_once {P F pa : Nat} (h1 : 1 ≤ F) (h2 : F ≤ P) (h3 : pa ≤ F) : planE P F pa (pa + 1 : Nat) 0 0 = 0 := by
  have hf : fits P F pa (pa + 1 : Nat) 0 0 = true := by
    unfold fits
    simp only [Bool.and_eq_true, wi_iff]
    omega
  unfold planE
  rw [if_pos hf, if_neg (by
    rintro (⟨-, h | h⟩ | ⟨h, -⟩)
    · exact h (by push_cast; rfl)
    · exact h rfl
    · exact h rfl)]
/-- what Passes answers for just so many bad pieces. -/
theorem pas_one {P d F pa fa S to : Nat} (h : chkP P d d F pa fa S to = 0) : pasA P d d F pa fa S to = (ip (chS P F pa fa S to d), ip (chS P F pa fa S to d), 0) := by
  unfold pasA
  rw [if_pos h]
  simp only [Int.toNat_natCast, each_one, least_one, most_one]
end Td
end Go.Proofs.Ytgkdidnmndmlhaa
