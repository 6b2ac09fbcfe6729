/- How lists of forces read. -/
import Derived.Test.YthdcklonamgpiaaOpenW
namespace Go.Proofs.Ythdcklonamgpiaa
open Go.ChangeShapes Go.WideShapes Go.ChangeAt Go.RowKit
namespace Td
set_option linter.unusedSimpArgs false
set_option linter.unusedVariables false
section
variable {H : Type} {enc : TypeId × Value → H} {w : World} {base : Nat} {spare : Nat → Bool} {held : Bool}
theorem cForce : Try.prog.cellsOf 57 = 2 := by kernel_rfl
theorem rForce {fuel : Nat} {cs : List Value} {x : DataW H × List MemPlace} (h : DataW.trod enc Try.prog w base spare held fuel 57 cs = some x) : ∃ p : Int × Int, cs = [.int .i64 p.1, .int .i64 p.2] := by
  obtain ⟨hl, n, hf⟩ := fld Try.underlying57 h
  rw [cForce] at hl
  obtain ⟨u, v, rfl⟩ := len2 hl
  obtain ⟨_, h0⟩ := hf 0 _ rfl
  obtain ⟨_, h1⟩ := hf 1 _ rfl
  obtain ⟨a, ha, _⟩ := rInt h0
  obtain ⟨c, hc, _⟩ := rInt h1
  simp [cInt] at ha hc
  exact ⟨(a, c), by rw [ha, hc]⟩
theorem rForces {fuel : Nat} {v : Value} {x : DataW H × List MemPlace} (h : DataW.trod enc Try.prog w base spare held fuel 38 [v] = some x) : ∃ A l c, v = .slice A (List.length l) c ∧ FoAt w A l ∧ l.length ≤ c ∧ c ≤ maxLen := by
  rcases Go.Deep.open_slice Try.underlying38 h with ⟨h0, _⟩ | ⟨a, len, cap, m, n, D, Pl, h0, _, hlc, hcm, hm, _, hi⟩
  · obtain rfl : v = .slice none 0 0 := by simpa using h0
    exact ⟨none, [], 0, rfl, fun h => absurd rfl h, by simp, by simp⟩
  · obtain rfl : v = .slice (some a) len cap := by simpa using h0
    have hlm : len ≤ m := by rw [hm]; split <;> omega
    have hex : ∀ i, ∃ t : Int × Int, i < len → w.cell? (a.add (i * 2)) = some (.int .i64 t.1) ∧ w.cell? (at_ (a.add (i * 2)) 1) = some (.int .i64 t.2) := fun i => by
      by_cases hil : i < len
      · obtain ⟨cs', hc, ht⟩ := hi i (by omega)
        obtain ⟨t, rfl⟩ := rForce ht
        rw [cForce] at hc
        obtain ⟨_, _, hat⟩ := World.cells?_some hc
        have e0 := hat 0 (by omega)
        have e1 := hat 1 (by omega)
        rw [add_zero'] at e0
        rw [add_at _ _ _ (by omega)] at e1
        exact ⟨t, fun _ => ⟨e0, e1⟩⟩
      · exact ⟨(0, 0), fun h => absurd h hil⟩
    obtain ⟨f, hf⟩ : ∃ f : Nat → Int × Int, ∀ i, i < len → w.cell? (a.add (i * 2)) = some (.int .i64 (f i).1) ∧ w.cell? (at_ (a.add (i * 2)) 1) = some (.int .i64 (f i).2) := ⟨fun i => (hex i).choose, fun i hil => (hex i).choose_spec hil⟩
    refine ⟨some a, (List.range len).map f, cap, by simp, fun _ => ⟨a, rfl, fun i t hit => ?_⟩, by simp; omega, hcm⟩
    rw [List.getElem?_map] at hit
    by_cases hil : i < len
    · rw [List.getElem?_range hil] at hit
      obtain rfl : f i = t := by simpa using hit
      exact hf i hil
    · rw [List.getElem?_eq_none (by simp; omega)] at hit
      cases hit
set_option maxRecDepth 100000 in
theorem open_forces {r : Reach} {b0 : Nat} {v : Value} {d : DataW H} {p : List MemPlace} (hv : Value.okWide Try.prog w r b0 38 v) (h : DataW.Trod enc Try.prog w base spare held 38 v d p) :
    ∃ A l c, v = .slice A (List.length l) c ∧ FoAt w A l ∧ l.length ≤ 9223372036854775807 := by
  obtain ⟨a, len, cap, rfl⟩ := okWide_slice Try.underlying38 hv
  obtain ⟨fuel, hf⟩ := h
  obtain ⟨A, l, c, h1, h2, h3, h4⟩ := rForces (v := .slice a len cap) hf
  have := max63
  exact ⟨A, l, c, h1, h2, by omega⟩
end
end Td
end Go.Proofs.Ythdcklonamgpiaa
