import Derived.Test.YtccacinnelmnpaaPlainG
/- A truth is among the levels; while a torch may burn its level is at most the limit. -/
namespace Go.Proofs.Ytccacinnelmnpaa
namespace Td
set_option linter.unusedVariables false
theorem true_now {s : Spc} (hs : SOk s) {T : Nat → Int} {R : List Rd} {mi : Nat} (h0 : s.s0 ≤ T 0 ∧ T 0 ≤ s.s1) (hst : ∀ n, Step s 0 T n) (hf : ∀ r ∈ R, near s r (T r.min.toNat)) :
    ∃ x, now s R (mi : Int) = some x ∧ x.1 ≤ T mi ∧ T mi ≤ x.2 := by
  have hm : mem (now s R (mi : Int)) (T mi) := by
    unfold now
    rw [Int.toNat_natCast]
    refine (mem_lv hs (vd_start hs) mi (T mi)).2 ⟨T, (mem_btw _ _ _).2 h0, hst mi, fun j hj r hr he => ?_, rfl⟩
    have := hf r (List.mem_filter.1 hr).1
    rwa [show r.min.toNat = j by omega] at this
  obtain ⟨x, hx, h1, h2⟩ := hm
  exact ⟨x, hx, h1, h2⟩
theorem step_from {s : Spc} {T : Nat → Int} (hst : ∀ n, Step s 0 T n) (mi k : Nat) : Step s (mi : Int) (fun j => T (mi + j)) k := fun j hj => by
  obtain ⟨b, h1, h2, h3⟩ := hst (mi + j + 1) (mi + j) (by omega)
  refine ⟨b, ?_, ?_, ?_⟩
  · rw [show (mi : Int) + (j : Int) = 0 + ((mi + j : Nat) : Int) by omega]; exact h1
  · rw [show (mi : Int) + (j : Int) = 0 + ((mi + j : Nat) : Int) by omega]; exact h2
  · exact h3
theorem true_until {s : Spc} (hs : SOk s) {T : Nat → Int} {R : List Rd} {mi : Nat} (hst : ∀ n, Step s 0 T n) (hf : ∀ r ∈ R, near s r (T r.min.toNat)) {x : Int × Int} (hv : Vd (some x)) (hx : x.1 ≤ T mi ∧ T mi ≤ x.2) (hmi : mi ≤ 60) {t : Nat} (h1 : mi ≤ t) (h2 : (t : Int) ≤ untl s (kno R (mi : Int)) (mi : Int) (some x)) : T t ≤ s.lim := by
  obtain ⟨k, rfl⟩ : ∃ k, t = mi + k := ⟨t - mi, by omega⟩
  have hk : k < lead (good s (kno R (mi : Int)) (mi : Int) (some x)) (61 - (mi : Int)).toNat := by
    unfold untl at h2
    simp only [] at h2
    split at h2 <;> omega
  have hg := lead_true hk
  have hm : mem (lv s (kno R (mi : Int)) (mi : Int) (some x) k) (T (mi + k)) := by
    refine (mem_lv hs hv k _).2 ⟨fun j => T (mi + j), (mem_some _ _).2 hx, step_from hst mi k, fun j hj r hr he => ?_, rfl⟩
    obtain ⟨hr1, hr2⟩ := List.mem_filter.1 hr
    have hr3 : r.min ≤ (mi : Int) := by simpa using hr2
    have := hf r hr1
    rwa [show r.min.toNat = mi + j by omega] at this
  obtain ⟨z, hz, _, h4⟩ := hm
  rw [good, hz] at hg
  have : z.2 ≤ s.lim := by simpa using hg
  omega
end Td
end Go.Proofs.Ytccacinnelmnpaa
