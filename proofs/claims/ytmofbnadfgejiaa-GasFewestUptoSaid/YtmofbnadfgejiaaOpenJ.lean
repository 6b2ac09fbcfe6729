import Derived.Test.YtmofbnadfgejiaaOpens
/- How further arguments read: a further reading; and how much a list of readings bears. -/
namespace Go.Proofs.Ytmofbnadfgejiaa
open Go.ChangeShapes Go.WideShapes Go.ChangeAt Go.RowKit
namespace Td
set_option linter.unusedSimpArgs false
set_option linter.unusedVariables false
theorem cFurther : Try.prog.cellsOf 68 = 4 := by kernel_rfl
theorem bulk_pos {H : Type} (d : DataW H) : 1 ≤ Rows.uptoBulk d := by
  cases d <;> first | (simp [Rows.uptoBulk]; done) | (rename_i l; cases l <;> simp [Rows.uptoBulk])
theorem bulk_len {H : Type} (l : List (DataW H)) : l.length ≤ Rows.uptoBulkAll l := by
  induction l with
  | nil => simp [Rows.uptoBulkAll]
  | cons x r ih =>
    have := bulk_pos x
    simp only [Rows.uptoBulkAll, List.length_cons]
    omega
section
variable {H : Type} {enc : TypeId × Value → H} {w : World} {base : Nat} {spare : Nat → Bool} {held : Bool}
theorem reads_bulk {A : Option Addr} {n c : Nat} {d : DataW H} {p : List MemPlace} (h : DataW.Trod enc Try.prog w base spare held 28 (.slice A n c) d p) : n ≤ Rows.uptoBulk d := by
  obtain ⟨fuel, hf⟩ := h
  rcases Go.Deep.open_slice Try.underlying28 hf with ⟨h0, _⟩ | ⟨a, len, cap, m, k, D, Pl, h0, _, _, _, _, hx, _⟩
  · have h1 : Value.slice A n c = .slice none 0 0 := by simpa [Value.cells] using h0
    cases h1
    omega
  · have h1 : Value.slice A n c = .slice (some a) len cap := by simpa [Value.cells] using h0
    cases h1
    obtain ⟨rfl, _⟩ := Prod.mk.inj hx
    have := bulk_len ((List.range n).map D)
    rw [List.length_map, List.length_range] at this
    simp only [Rows.uptoBulk]
    omega
set_option maxRecDepth 100000 in
theorem open_further {r : Reach} {b0 : Nat} {v : Value} {d : DataW H} {p : List MemPlace} (hv : Value.okWide Try.prog w r b0 68 v) (h : DataW.Trod enc Try.prog w base spare held 68 v d p) :
    ∃ (x : Rd) (nw : Nat), v = .agg #[.int .i64 x.min, .int .i64 x.tool, .int .i64 x.shown, .int .u8 (nw : Int)] ∧ nw ≤ 255 := by
  obtain ⟨cs, rfl, hsz⟩ := okWide_struct Try.underlying68 hv
  obtain ⟨l⟩ := cs
  obtain ⟨fuel, hf⟩ := h
  obtain ⟨hl, n, hg⟩ := fld Try.underlying68 hf
  obtain ⟨u0, u1, u2, u3, rfl⟩ := len4 (l := l) (hsz.trans cFurther)
  obtain ⟨_, h0⟩ := hg 0 _ rfl
  obtain ⟨_, h1⟩ := hg 1 _ rfl
  obtain ⟨x, e0⟩ := rRead h0
  obtain ⟨k, e1, b1⟩ := rByte h1
  simp [cRead, cByte, Value.cells] at e0 e1
  exact ⟨x, k, by rw [e0.1, e0.2.1, e0.2.2, e1], b1⟩
theorem cWider : Try.prog.cellsOf 80 = 5 := by kernel_rfl
theorem len5 {α : Type} {l : List α} (h : l.length = 5) : ∃ u0 u1 u2 u3 u4, l = [u0, u1, u2, u3, u4] := by
  match l, h with
  | [u0, u1, u2, u3, u4], _ => exact ⟨u0, u1, u2, u3, u4, rfl⟩
set_option maxRecDepth 100000 in
theorem open_wider {r : Reach} {b0 : Nat} {v : Value} {d : DataW H} {p : List MemPlace} (hv : Value.okWide Try.prog w r b0 80 v) (h : DataW.Trod enc Try.prog w base spare held 80 v d p) :
    ∃ n0 n1 n2 n3 n4 : Nat, v = .agg #[.int .u8 (n0 : Int), .int .u8 (n1 : Int), .int .u8 (n2 : Int), .int .u8 (n3 : Int), .int .u8 (n4 : Int)] ∧ n0 ≤ 255 ∧ n1 ≤ 255 ∧ n2 ≤ 255 ∧ n3 ≤ 255 ∧ n4 ≤ 255 := by
  obtain ⟨cs, rfl, hsz⟩ := okWide_struct Try.underlying80 hv
  obtain ⟨l⟩ := cs
  obtain ⟨fuel, hf⟩ := h
  obtain ⟨hl, n, hg⟩ := fld Try.underlying80 hf
  obtain ⟨u0, u1, u2, u3, u4, rfl⟩ := len5 (l := l) (hsz.trans cWider)
  obtain ⟨_, h0⟩ := hg 0 _ rfl
  obtain ⟨_, h1⟩ := hg 1 _ rfl
  obtain ⟨_, h2⟩ := hg 2 _ rfl
  obtain ⟨_, h3⟩ := hg 3 _ rfl
  obtain ⟨_, h4⟩ := hg 4 _ rfl
  obtain ⟨k0, e0, b0⟩ := rByte h0
  obtain ⟨k1, e1, b1⟩ := rByte h1
  obtain ⟨k2, e2, b2⟩ := rByte h2
  obtain ⟨k3, e3, b3⟩ := rByte h3
  obtain ⟨k4, e4, b4⟩ := rByte h4
  simp [cByte, Value.cells] at e0 e1 e2 e3 e4
  exact ⟨k0, k1, k2, k3, k4, by rw [e0, e1, e2, e3, e4], b0, b1, b2, b3, b4⟩
end
end Td
end Go.Proofs.Ytmofbnadfgejiaa
