import Derived.Test.YthdcklonamgpiaaGreatOpenH
/- How further arguments read, of the two laws of a seat of their own. -/
namespace Go.Proofs.YthdcklonamgpiaaGreat
open Go.ChangeShapes Go.WideShapes Go.ChangeAt Go.RowKit
namespace Td
set_option linter.unusedSimpArgs false
set_option linter.unusedVariables false
section
variable {H : Type} {enc : TypeId × Value → H} {w : World} {base : Nat} {spare : Nat → Bool} {held : Bool}
theorem cWetz : Tryz.prog.cellsOf 44 = 4 := by kernel_rfl
theorem cU32z : Tryz.prog.cellsOf 45 = 1 := by kernel_rfl
theorem cU32sz : Tryz.prog.cellsOf 42 = 1 := by kernel_rfl
theorem cU32x2 : Tryz.prog.cellsOf 46 = 2 := by kernel_rfl
theorem rU32n {fuel : Nat} {cs : List Value} {x : DataW H × List MemPlace} (h : DataW.trod enc Tryz.prog w base spare held fuel 45 cs = some x) : ∃ n : Nat, cs = [.int .u32 n] ∧ n ≤ 4294967295 := by
  obtain ⟨n, h1, _, h2⟩ := DataW.trod_int Tryz.underlying45 h
  have := bounds_u32 h2
  exact ⟨n.toNat, by rw [h1]; congr 2; omega, by omega⟩
set_option maxRecDepth 100000 in
theorem open_int {r : Reach} {b0 : Nat} {v : Value} (hv : Value.okWide Tryz.prog w r b0 3 v) : ∃ n : Int, v = .int .i64 n := okWide_int Tryz.underlying3 hv
set_option maxRecDepth 100000 in
theorem open_span {r : Reach} {b0 : Nat} {v : Value} {d : DataW H} {p : List MemPlace} (hv : Value.okWide Tryz.prog w r b0 26 v) (h : DataW.Trod enc Tryz.prog w base spare held 26 v d p) :
    ∃ lo hi : Int, v = .agg #[.int .i64 lo, .int .i64 hi] := by
  obtain ⟨cs, rfl, hsz⟩ := okWide_struct Tryz.underlying26 hv
  obtain ⟨l⟩ := cs
  obtain ⟨fuel, hf⟩ := h
  obtain ⟨p, e⟩ := rSpan hf
  have e' : l = [.int .i64 p.1, .int .i64 p.2] := by simpa [Value.cells] using e
  subst e'
  exact ⟨p.1, p.2, rfl⟩
set_option maxRecDepth 100000 in
theorem rU16x2z {fuel : Nat} {cs : List Value} {x : DataW H × List MemPlace} (h : DataW.trod enc Tryz.prog w base spare held fuel 41 cs = some x) (hl : cs.length = 2) : ∃ n0 n1 : Nat, cs = [.int .u16 n0, .int .u16 n1] ∧ n0 ≤ 65535 ∧ n1 ≤ 65535 := by
  obtain ⟨xs, m, _, _, _, hxl, hg⟩ := DataW.trod_array Tryz.underlying41 h
  obtain ⟨u0, u1, rfl⟩ := len2 hl
  obtain ⟨x0, x1, rfl⟩ := len2 hxl
  have h0 := hg 0 (by omega)
  have h1 := hg 1 (by omega)
  rw [cU16] at h0 h1
  obtain ⟨n0, e0, b0⟩ := rU16 (x := x0) h0
  obtain ⟨n1, e1, b1⟩ := rU16 (x := x1) h1
  simp at e0 e1
  exact ⟨n0, n1, by rw [e0, e1], b0, b1⟩
set_option maxRecDepth 100000 in
/-- a tide, a height and turns, of which the turns are not read. -/
theorem open_wetz {r : Reach} {b0 : Nat} {v : Value} {d : DataW H} {p : List MemPlace} (hv : Value.okWide Tryz.prog w r b0 44 v) (h : DataW.Trod enc Tryz.prog w base spare held 44 v d p) :
    ∃ (a0 a1 aw : Nat) (u : Value), v = .agg #[.int .u16 a0, .int .u16 a1, .int .u16 aw, u] ∧ a0 ≤ 65535 ∧ a1 ≤ 65535 := by
  obtain ⟨cs, rfl, hsz⟩ := okWide_struct Tryz.underlying44 hv
  obtain ⟨l⟩ := cs
  obtain ⟨fuel, hf⟩ := h
  obtain ⟨hl, n, hg⟩ := fld Tryz.underlying44 hf
  obtain ⟨u0, u1, u2, u3, rfl⟩ := len4 (l := l) (hsz.trans cWetz)
  obtain ⟨_, h0⟩ := hg 0 _ rfl
  obtain ⟨_, h1⟩ := hg 1 _ rfl
  obtain ⟨a0, a1, e0, b0, b1⟩ := rU16x2z h0 (by simp [cU16x2, Value.cells])
  obtain ⟨aw, e1, b2⟩ := rU16 h1
  simp [cU16x2, cU16, Value.cells] at e0 e1
  exact ⟨a0, a1, aw, u3, by rw [e0.1, e0.2, e1], b0, b1⟩
set_option maxRecDepth 100000 in
theorem open_u32x2 {r : Reach} {b0 : Nat} {v : Value} {d : DataW H} {p : List MemPlace} (hv : Value.okWide Tryz.prog w r b0 46 v) (h : DataW.Trod enc Tryz.prog w base spare held 46 v d p) :
    ∃ n0 n1 : Nat, v = .agg #[.int .u32 n0, .int .u32 n1] ∧ n0 ≤ 4294967295 ∧ n1 ≤ 4294967295 := by
  have hv' := hv
  simp only [Value.okWide, Tryz.underlying46] at hv'
  obtain ⟨cs, rfl, hsz, _⟩ := hv'
  obtain ⟨l⟩ := cs
  obtain ⟨fuel, hf⟩ := h
  obtain ⟨xs, m, _, _, _, hxl, hg⟩ := DataW.trod_array Tryz.underlying46 hf
  obtain ⟨u0, u1, rfl⟩ := len2 (l := l) (hsz.trans cU32x2)
  obtain ⟨x0, x1, rfl⟩ := len2 hxl
  have h0 := hg 0 (by omega)
  have h1 := hg 1 (by omega)
  rw [cU32z] at h0 h1
  obtain ⟨n0, e0, b0⟩ := rU32n (x := x0) h0
  obtain ⟨n1, e1, b1⟩ := rU32n (x := x1) h1
  simp [Value.cells] at e0 e1
  exact ⟨n0, n1, by rw [e0, e1], b0, b1⟩
end
end Td
end Go.Proofs.YthdcklonamgpiaaGreat
