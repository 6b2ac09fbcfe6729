import Derived.Test.YtccacinnelmnpaaOpenH
/- How further arguments read: readings, a byte, an int, two bytes, four ints. -/
namespace Go.Proofs.Ytccacinnelmnpaa
open Go.ChangeShapes Go.WideShapes Go.ChangeAt Go.RowKit
namespace Td
set_option linter.unusedSimpArgs false
set_option linter.unusedVariables false
theorem cReads : Try.prog.cellsOf 28 = 1 := by kernel_rfl
theorem cInt4 : Try.prog.cellsOf 42 = 4 := by kernel_rfl
theorem cByte2 : Try.prog.cellsOf 63 = 2 := by kernel_rfl
section
variable {H : Type} {enc : TypeId × Value → H} {w : World} {base : Nat} {spare : Nat → Bool} {held : Bool}
set_option maxRecDepth 100000 in
theorem open_reads {r : Reach} {b0 : Nat} {v : Value} {d : DataW H} {p : List MemPlace} (hv : Value.okWide Try.prog w r b0 28 v) (h : DataW.Trod enc Try.prog w base spare held 28 v d p) :
    ∃ A l c, v = .slice A (List.length l) c ∧ RdAt w A l ∧ l.length ≤ c ∧ c ≤ 9223372036854775807 := by
  obtain ⟨a, len, cap, rfl⟩ := okWide_slice Try.underlying28 hv
  obtain ⟨fuel, hf⟩ := h
  obtain ⟨A, l, c, h1, h2, h3, h4⟩ := rReads (v := .slice a len cap) hf
  have := max63
  exact ⟨A, l, c, h1, h2, h3, by omega⟩
set_option maxRecDepth 100000 in
theorem open_u8 {r : Reach} {b0 : Nat} {v : Value} {d : DataW H} {p : List MemPlace} (hv : Value.okWide Try.prog w r b0 5 v) (h : DataW.Trod enc Try.prog w base spare held 5 v d p) :
    ∃ n : Nat, v = .int .u8 n ∧ n ≤ 255 := by
  obtain ⟨n, rfl⟩ := okWide_int Try.underlying5 hv
  obtain ⟨fuel, hf⟩ := h
  obtain ⟨k, h1, h2⟩ := rByte hf
  refine ⟨k, ?_, h2⟩
  simpa [Value.cells] using h1
set_option maxRecDepth 100000 in
theorem open_int {r : Reach} {b0 : Nat} {v : Value} (hv : Value.okWide Try.prog w r b0 3 v) : ∃ n : Int, v = .int .i64 n := okWide_int Try.underlying3 hv
set_option maxRecDepth 100000 in
theorem open_int4 {r : Reach} {b0 : Nat} {v : Value} {d : DataW H} {p : List MemPlace} (hv : Value.okWide Try.prog w r b0 42 v) (h : DataW.Trod enc Try.prog w base spare held 42 v d p) :
    ∃ n0 n1 n2 n3 : Int, v = .agg #[.int .i64 n0, .int .i64 n1, .int .i64 n2, .int .i64 n3] := by
  have hv' := hv
  simp only [Value.okWide, Try.underlying42] at hv'
  obtain ⟨cs, rfl, hsz, _⟩ := hv'
  obtain ⟨l⟩ := cs
  obtain ⟨fuel, hf⟩ := h
  obtain ⟨xs, m, _, _, _, hxl, hg⟩ := DataW.trod_array Try.underlying42 hf
  obtain ⟨u0, u1, u2, u3, rfl⟩ := len4 (l := l) (hsz.trans cInt4)
  obtain ⟨x0, x1, x2, x3, rfl⟩ := len4 hxl
  have h0 := hg 0 (by omega)
  have h1 := hg 1 (by omega)
  have h2 := hg 2 (by omega)
  have h3 := hg 3 (by omega)
  rw [cInt] at h0 h1 h2 h3
  obtain ⟨n0, e0, _⟩ := rInt (x := x0) h0
  obtain ⟨n1, e1, _⟩ := rInt (x := x1) h1
  obtain ⟨n2, e2, _⟩ := rInt (x := x2) h2
  obtain ⟨n3, e3, _⟩ := rInt (x := x3) h3
  simp [Value.cells] at e0 e1 e2 e3
  exact ⟨n0, n1, n2, n3, by rw [e0, e1, e2, e3]⟩
set_option maxRecDepth 100000 in
theorem open_u8x2 {r : Reach} {b0 : Nat} {v : Value} {d : DataW H} {p : List MemPlace} (hv : Value.okWide Try.prog w r b0 63 v) (h : DataW.Trod enc Try.prog w base spare held 63 v d p) :
    ∃ n0 n1 : Nat, v = .agg #[.int .u8 n0, .int .u8 n1] ∧ n0 ≤ 255 ∧ n1 ≤ 255 := by
  have hv' := hv
  simp only [Value.okWide, Try.underlying63] at hv'
  obtain ⟨cs, rfl, hsz, _⟩ := hv'
  obtain ⟨l⟩ := cs
  obtain ⟨fuel, hf⟩ := h
  obtain ⟨xs, m, _, _, _, hxl, hg⟩ := DataW.trod_array Try.underlying63 hf
  obtain ⟨u0, u1, rfl⟩ := len2 (l := l) (hsz.trans cByte2)
  obtain ⟨x0, x1, rfl⟩ := len2 hxl
  have h0 := hg 0 (by omega)
  have h1 := hg 1 (by omega)
  rw [cByte] at h0 h1
  obtain ⟨n0, e0, b0⟩ := rByte (x := x0) h0
  obtain ⟨n1, e1, b1⟩ := rByte (x := x1) h1
  simp [Value.cells] at e0 e1
  exact ⟨n0, n1, by rw [e0, e1], b0, b1⟩
end
end Td
end Go.Proofs.Ytccacinnelmnpaa
