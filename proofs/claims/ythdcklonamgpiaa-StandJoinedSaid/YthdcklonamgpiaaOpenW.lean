/- How further arguments read: a tide, a height and a truth by turns. -/
import Derived.Test.YthdcklonamgpiaaOpenH
import Derived.Test.YthdcklonamgpiaaStt
namespace Go.Proofs.Ythdcklonamgpiaa
open Go.ChangeShapes Go.WideShapes Go.ChangeAt Go.RowKit
namespace Td
set_option linter.unusedSimpArgs false
set_option linter.unusedVariables false
section
variable {H : Type} {enc : TypeId × Value → H} {w : World} {base : Nat} {spare : Nat → Bool} {held : Bool}
theorem cU32 : Try.prog.cellsOf 121 = 1 := by kernel_rfl
theorem cU32s : Try.prog.cellsOf 61 = 1 := by kernel_rfl
theorem cWet : Try.prog.cellsOf 63 = 4 := by kernel_rfl
theorem rU32 {fuel : Nat} {cs : List Value} {x : DataW H × List MemPlace} (h : DataW.trod enc Try.prog w base spare held fuel 121 cs = some x) : ∃ n : Int, cs = [.int .u32 n] ∧ 0 ≤ n ∧ n ≤ 4294967295 := by
  obtain ⟨n, h1, _, h2⟩ := DataW.trod_int Try.underlying121 h
  have := bounds_u32 h2
  exact ⟨n, h1, by omega, by omega⟩
set_option maxRecDepth 100000 in
theorem rU32s {fuel : Nat} {v : Value} {x : DataW H × List MemPlace} (h : DataW.trod enc Try.prog w base spare held fuel 61 [v] = some x) : ∃ P l c, v = .slice P (List.length l) c ∧ U32At w P l ∧ U32Ok l := by
  rcases Go.Deep.open_slice Try.underlying61 h with ⟨h0, _⟩ | ⟨a, len, cap, m, n, D, Pl, h0, _, hlc, hcm, hm, _, hi⟩
  · obtain rfl : v = .slice none 0 0 := by simpa using h0
    exact ⟨none, [], 0, rfl, fun h => absurd rfl h, fun j h => by simp at h⟩
  · obtain rfl : v = .slice (some a) len cap := by simpa using h0
    have hlm : len ≤ m := by rw [hm]; split <;> omega
    have hex : ∀ i, ∃ t : Int, i < len → w.cell? (a.add i) = some (.int .u32 t) ∧ 0 ≤ t ∧ t ≤ 4294967295 := fun i => by
      by_cases hil : i < len
      · obtain ⟨cs', hc, ht⟩ := hi i (by omega)
        obtain ⟨t, rfl, t0, t1⟩ := rU32 ht
        rw [cU32] at hc
        obtain ⟨_, _, hat⟩ := World.cells?_some hc
        have e0 := hat 0 (by omega)
        rw [add_zero', Nat.mul_one] at e0
        exact ⟨t, fun _ => ⟨e0, t0, t1⟩⟩
      · exact ⟨0, fun h => absurd h hil⟩
    obtain ⟨f, hf⟩ : ∃ f : Nat → Int, ∀ i, i < len → w.cell? (a.add i) = some (.int .u32 (f i)) ∧ 0 ≤ f i ∧ f i ≤ 4294967295 := ⟨fun i => (hex i).choose, fun i hil => (hex i).choose_spec hil⟩
    refine ⟨some a, (List.range len).map f, cap, by simp, fun _ => ⟨a, rfl, fun i t hit => ?_⟩, fun j hj => ?_⟩
    · rw [List.getElem?_map] at hit
      by_cases hil : i < len
      · rw [List.getElem?_range hil] at hit
        obtain rfl : f i = t := by simpa using hit
        exact (hf i hil).1
      · rw [List.getElem?_eq_none (by simp; omega)] at hit
        cases hit
    · have hjl : j < len := by simpa using hj
      have hq := (hf j hjl).2
      rw [List.getElem_map, List.getElem_range]
      exact hq
set_option maxRecDepth 100000 in
theorem rU16x2 {fuel : Nat} {cs : List Value} {x : DataW H × List MemPlace} (h : DataW.trod enc Try.prog w base spare held fuel 60 cs = some x) (hl : cs.length = 2) : ∃ n0 n1 : Nat, cs = [.int .u16 n0, .int .u16 n1] ∧ n0 ≤ 65535 ∧ n1 ≤ 65535 := by
  obtain ⟨xs, m, _, _, _, hxl, hg⟩ := DataW.trod_array Try.underlying60 h
  obtain ⟨u0, u1, rfl⟩ := len2 hl
  obtain ⟨x0, x1, rfl⟩ := len2 hxl
  have h0 := hg 0 (by omega)
  have h1 := hg 1 (by omega)
  rw [cU16] at h0 h1
  obtain ⟨n0, e0, b0⟩ := rU16 (x := x0) h0
  obtain ⟨n1, e1, b1⟩ := rU16 (x := x1) h1
  simp at e0 e1
  exact ⟨n0, n1, by rw [e0, e1], b0, b1⟩
set_option maxRecDepth 100000 in
theorem open_wet {r : Reach} {b0 : Nat} {v : Value} {d : DataW H} {p : List MemPlace} (hv : Value.okWide Try.prog w r b0 63 v) (h : DataW.Trod enc Try.prog w base spare held 63 v d p) :
    ∃ (a0 a1 aw : Nat) (P : Option Addr) (U : List Int) (pc : Nat), v = .agg (xV a0 a1 aw P U.length pc) ∧ U32At w P U ∧ U32Ok U ∧ a0 ≤ 65535 ∧ a1 ≤ 65535 ∧ aw ≤ 65535 := by
  obtain ⟨cs, rfl, hsz⟩ := okWide_struct Try.underlying63 hv
  obtain ⟨l⟩ := cs
  obtain ⟨fuel, hf⟩ := h
  obtain ⟨hl, n, hg⟩ := fld Try.underlying63 hf
  obtain ⟨u0, u1, u2, u3, rfl⟩ := len4 (l := l) (hsz.trans cWet)
  obtain ⟨_, h0⟩ := hg 0 _ rfl
  obtain ⟨_, h1⟩ := hg 1 _ rfl
  obtain ⟨y2, h2⟩ := hg 2 _ rfl
  have h0' := rU16x2 h0 (by simp [cU16x2, Value.cells])
  obtain ⟨a0, a1, e0, b0, b1⟩ := h0'
  obtain ⟨aw, e1, b2⟩ := rU16 h1
  have h2' : DataW.trod enc Try.prog w base spare held n 61 [u3] = some y2 := by simpa [cU32s, Value.cells] using h2
  obtain ⟨P, U, pc, rfl, hu, ho⟩ := rU32s h2'
  simp [cU16x2, cU16, Value.cells] at e0 e1
  exact ⟨a0, a1, aw, P, U, pc, by rw [e0.1, e0.2, e1], hu, ho, b0, b1, b2⟩
end
end Td
end Go.Proofs.Ythdcklonamgpiaa
