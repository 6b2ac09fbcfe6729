import Derived.Test.YthdcklonamgpiaaOpenF
/- How further arguments read: truths, tides, forces with a truth, numbers by turns. -/
namespace Go.Proofs.Ythdcklonamgpiaa
open Go.ChangeShapes Go.WideShapes Go.ChangeAt Go.RowKit
namespace Td
set_option linter.unusedSimpArgs false
set_option linter.unusedVariables false
section
variable {H : Type} {enc : TypeId × Value → H} {w : World} {base : Nat} {spare : Nat → Bool} {held : Bool}
theorem cInts : Try.prog.cellsOf 25 = 1 := by kernel_rfl
theorem cTruth : Try.prog.cellsOf 27 = 2 := by kernel_rfl
theorem cForces : Try.prog.cellsOf 38 = 1 := by kernel_rfl
theorem cPressed : Try.prog.cellsOf 40 = 4 := by kernel_rfl
theorem cU16x4 : Try.prog.cellsOf 80 = 4 := by kernel_rfl
set_option maxRecDepth 100000 in
theorem rInts {fuel : Nat} {v : Value} {x : DataW H × List MemPlace} (h : DataW.trod enc Try.prog w base spare held fuel 25 [v] = some x) : ∃ A l c, v = .slice A (List.length l) c ∧ InAt w A l := by
  rcases Go.Deep.open_slice Try.underlying25 h with ⟨h0, _⟩ | ⟨a, len, cap, m, n, D, Pl, h0, _, hlc, hcm, hm, _, hi⟩
  · obtain rfl : v = .slice none 0 0 := by simpa using h0
    exact ⟨none, [], 0, rfl, fun h => absurd rfl h⟩
  · obtain rfl : v = .slice (some a) len cap := by simpa using h0
    have hlm : len ≤ m := by rw [hm]; split <;> omega
    have hex : ∀ i, ∃ t : Int, i < len → w.cell? (a.add i) = some (.int .i64 t) := fun i => by
      by_cases hil : i < len
      · obtain ⟨cs', hc, ht⟩ := hi i (by omega)
        obtain ⟨t, rfl, _⟩ := rInt ht
        rw [cInt] at hc
        obtain ⟨_, _, hat⟩ := World.cells?_some hc
        have e0 := hat 0 (by omega)
        rw [add_zero', Nat.mul_one] at e0
        exact ⟨t, fun _ => e0⟩
      · exact ⟨0, fun h => absurd h hil⟩
    obtain ⟨f, hf⟩ : ∃ f : Nat → Int, ∀ i, i < len → w.cell? (a.add i) = some (.int .i64 (f i)) := ⟨fun i => (hex i).choose, fun i hil => (hex i).choose_spec hil⟩
    refine ⟨some a, (List.range len).map f, cap, by simp, fun _ => ⟨a, rfl, fun i t hit => ?_⟩⟩
    rw [List.getElem?_map] at hit
    by_cases hil : i < len
    · rw [List.getElem?_range hil] at hit
      obtain rfl : f i = t := by simpa using hit
      exact hf i hil
    · rw [List.getElem?_eq_none (by simp; omega)] at hit
      cases hit
set_option maxRecDepth 100000 in
theorem rTruth {fuel : Nat} {cs : List Value} {x : DataW H × List MemPlace} (h : DataW.trod enc Try.prog w base spare held fuel 27 cs = some x) : ∃ GA gs gc LA ls lc, cs = [.slice GA (List.length gs) gc, .slice LA (List.length ls) lc] ∧ InAt w GA gs ∧ InAt w LA ls := by
  obtain ⟨hl, n, hf⟩ := fld Try.underlying27 h
  rw [cTruth] at hl
  obtain ⟨u, v, rfl⟩ := len2 hl
  obtain ⟨y0, h0⟩ := hf 0 _ rfl
  obtain ⟨y1, h1⟩ := hf 1 _ rfl
  have h0' : DataW.trod enc Try.prog w base spare held n 25 [u] = some y0 := by simpa [cInts] using h0
  have h1' : DataW.trod enc Try.prog w base spare held n 25 [v] = some y1 := by simpa [cInts] using h1
  obtain ⟨GA, gs, gc, rfl, hg⟩ := rInts h0'
  obtain ⟨LA, ls, lc, rfl, hk⟩ := rInts h1'
  exact ⟨GA, gs, gc, LA, ls, lc, rfl, hg, hk⟩
set_option maxRecDepth 100000 in
theorem open_truth {r : Reach} {b0 : Nat} {v : Value} {d : DataW H} {p : List MemPlace} (hv : Value.okWide Try.prog w r b0 27 v) (h : DataW.Trod enc Try.prog w base spare held 27 v d p) :
    ∃ GA gs gc LA ls lc, v = .agg (tV GA (List.length gs) gc LA (List.length ls) lc) ∧ InAt w GA gs ∧ InAt w LA ls := by
  obtain ⟨cs, rfl, hsz⟩ := okWide_struct Try.underlying27 hv
  obtain ⟨l⟩ := cs
  obtain ⟨fuel, hf⟩ := h
  obtain ⟨GA, gs, gc, LA, ls, lc, e, hg, hk⟩ := rTruth hf
  have e' : l = [.slice GA (List.length gs) gc, .slice LA (List.length ls) lc] := by simpa [Value.cells] using e
  subst e'
  exact ⟨GA, gs, gc, LA, ls, lc, rfl, hg, hk⟩
set_option maxRecDepth 100000 in
theorem open_int {r : Reach} {b0 : Nat} {v : Value} (hv : Value.okWide Try.prog w r b0 3 v) : ∃ n : Int, v = .int .i64 n := okWide_int Try.underlying3 hv
set_option maxRecDepth 100000 in
theorem open_span {r : Reach} {b0 : Nat} {v : Value} {d : DataW H} {p : List MemPlace} (hv : Value.okWide Try.prog w r b0 48 v) (h : DataW.Trod enc Try.prog w base spare held 48 v d p) :
    ∃ lo hi : Int, v = .agg #[.int .i64 lo, .int .i64 hi] := by
  obtain ⟨cs, rfl, hsz⟩ := okWide_struct Try.underlying48 hv
  obtain ⟨l⟩ := cs
  obtain ⟨fuel, hf⟩ := h
  obtain ⟨p, e⟩ := rSpan hf
  have e' : l = [.int .i64 p.1, .int .i64 p.2] := by simpa [Value.cells] using e
  subst e'
  exact ⟨p.1, p.2, rfl⟩
set_option maxRecDepth 100000 in
theorem open_pressed {r : Reach} {b0 : Nat} {v : Value} {d : DataW H} {p : List MemPlace} (hv : Value.okWide Try.prog w r b0 40 v) (h : DataW.Trod enc Try.prog w base spare held 40 v d p) :
    ∃ GA gs gc LA ls lc, ∃ wt : Int, ∃ FA fl fc, v = .agg #[.slice GA (List.length gs) gc, .slice LA (List.length ls) lc, .int .i64 wt, .slice FA (List.length fl) fc] ∧ InAt w GA gs ∧ InAt w LA ls ∧ FoAt w FA fl ∧ fl.length ≤ 9223372036854775807 := by
  obtain ⟨cs, rfl, hsz⟩ := okWide_struct Try.underlying40 hv
  obtain ⟨l⟩ := cs
  obtain ⟨fuel, hf⟩ := h
  obtain ⟨hl, n, hg⟩ := fld Try.underlying40 hf
  obtain ⟨u0, u1, u2, u3, rfl⟩ := len4 (l := l) (hsz.trans cPressed)
  obtain ⟨_, h0⟩ := hg 0 _ rfl
  obtain ⟨_, h1⟩ := hg 1 _ rfl
  obtain ⟨y2, h2⟩ := hg 2 _ rfl
  obtain ⟨GA, gs, gc, LA, ls, lc, e0, hgs, hls⟩ := rTruth h0
  obtain ⟨wt, e1, _⟩ := rInt h1
  have h2' : DataW.trod enc Try.prog w base spare held n 38 [u3] = some y2 := by simpa [cForces, Value.cells] using h2
  obtain ⟨FA, fl, fc, rfl, hfo, hf1, hf2⟩ := rForces h2'
  simp [cTruth, cInt, Value.cells] at e0 e1
  have := max63
  exact ⟨GA, gs, gc, LA, ls, lc, wt, FA, fl, fc, by rw [e0.1, e0.2, e1], hgs, hls, hfo, by omega⟩
set_option maxRecDepth 100000 in
theorem open_u16x4 {r : Reach} {b0 : Nat} {v : Value} {d : DataW H} {p : List MemPlace} (hv : Value.okWide Try.prog w r b0 80 v) (h : DataW.Trod enc Try.prog w base spare held 80 v d p) :
    ∃ n0 n1 n2 n3 : Nat, v = .agg #[.int .u16 n0, .int .u16 n1, .int .u16 n2, .int .u16 n3] ∧ n0 ≤ 65535 ∧ n1 ≤ 65535 ∧ n2 ≤ 65535 ∧ n3 ≤ 65535 := by
  have hv' := hv
  simp only [Value.okWide, Try.underlying80] at hv'
  obtain ⟨cs, rfl, hsz, _⟩ := hv'
  obtain ⟨l⟩ := cs
  obtain ⟨fuel, hf⟩ := h
  obtain ⟨xs, m, _, _, _, hxl, hg⟩ := DataW.trod_array Try.underlying80 hf
  obtain ⟨u0, u1, u2, u3, rfl⟩ := len4 (l := l) (hsz.trans cU16x4)
  obtain ⟨x0, x1, x2, x3, rfl⟩ := len4 hxl
  have h0 := hg 0 (by omega)
  have h1 := hg 1 (by omega)
  have h2 := hg 2 (by omega)
  have h3 := hg 3 (by omega)
  rw [cU16] at h0 h1 h2 h3
  obtain ⟨n0, e0, b0⟩ := rU16 (x := x0) h0
  obtain ⟨n1, e1, b1⟩ := rU16 (x := x1) h1
  obtain ⟨n2, e2, b2⟩ := rU16 (x := x2) h2
  obtain ⟨n3, e3, b3⟩ := rU16 (x := x3) h3
  simp [Value.cells] at e0 e1 e2 e3
  exact ⟨n0, n1, n2, n3, by rw [e0, e1, e2, e3], b0, b1, b2, b3⟩
set_option maxRecDepth 100000 in
theorem open_u32s {r : Reach} {b0 : Nat} {v : Value} {d : DataW H} {p : List MemPlace} (hv : Value.okWide Try.prog w r b0 61 v) (h : DataW.Trod enc Try.prog w base spare held 61 v d p) :
    ∃ P U pc, v = .slice P (List.length U) pc ∧ U32At w P U ∧ U32Ok U := by
  obtain ⟨a, len, cap, rfl⟩ := okWide_slice Try.underlying61 hv
  obtain ⟨fuel, hf⟩ := h
  exact rU32s (v := .slice a len cap) hf
end
end Td
end Go.Proofs.Ythdcklonamgpiaa
