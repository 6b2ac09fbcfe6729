import Derived.Test.YtgkdidnmndmlhaaOpens
import Derived.Test.YtgkdidnmndmlhaaChkA
/- How the arguments of the statements read: heaps, plans, shares, numbers. -/
namespace Go.Proofs.Ytgkdidnmndmlhaa
open Go.ChangeShapes Go.WideShapes Go.ChangeAt Go.RowKit
namespace Td
set_option linter.unusedSimpArgs false
set_option linter.unusedVariables false
section
variable {H : Type} {enc : TypeId × Value → H} {w : World} {base : Nat} {spare : Nat → Bool} {held : Bool}
theorem len2 {α : Type} {l : List α} (h : l.length = 2) : ∃ u0 u1, l = [u0, u1] := by
  match l, h with
  | [u0, u1], _ => exact ⟨u0, u1, rfl⟩
theorem len3 {α : Type} {l : List α} (h : l.length = 3) : ∃ u0 u1 u2, l = [u0, u1, u2] := by
  match l, h with
  | [u0, u1, u2], _ => exact ⟨u0, u1, u2, rfl⟩
theorem len5 {α : Type} {l : List α} (h : l.length = 5) : ∃ u0 u1 u2 u3 u4, l = [u0, u1, u2, u3, u4] := by
  match l, h with
  | [u0, u1, u2, u3, u4], _ => exact ⟨u0, u1, u2, u3, u4, rfl⟩
theorem fld {P : Program} {t : TypeId} {fs : Array Field} {fuel : Nat} {cs : List Value} {x : DataW H × List MemPlace} (ht : P.underlying t = some (.struct fs)) (h : DataW.trod enc P w base spare held fuel t cs = some x) :
    cs.length = P.cellsOf t ∧ ∃ n, ∀ (i : Nat) (f : Field), fs[i]? = some f → ∃ y, DataW.trod enc P w base spare held n f.type ((cs.drop f.offset).take (P.cellsOf f.type)) = some y := by
  obtain ⟨xs, n, _, _, hlen, hxl, hf⟩ := DataW.trod_struct ht h
  refine ⟨hlen, n, fun i f hi => ?_⟩
  have hlt : i < xs.length := by rw [hxl]; exact (Array.getElem?_eq_some_iff.1 hi).1
  exact ⟨xs[i], by rw [hf i f hi]; exact List.getElem?_eq_getElem hlt⟩
theorem cInt : Try.prog.cellsOf 3 = 1 := by kernel_rfl
theorem cU8 : Try.prog.cellsOf 5 = 1 := by kernel_rfl
theorem cSpan : Try.prog.cellsOf 23 = 2 := by kernel_rfl
theorem cHeap : Try.prog.cellsOf 25 = 3 := by kernel_rfl
theorem cPlan : Try.prog.cellsOf 38 = 5 := by kernel_rfl
theorem cShare : Try.prog.cellsOf 41 = 2 := by kernel_rfl
theorem cSampled : Try.prog.cellsOf 58 = 3 := by kernel_rfl
theorem rInt {fuel : Nat} {cs : List Value} {x : DataW H × List MemPlace} (h : DataW.trod enc Try.prog w base spare held fuel 3 cs = some x) : ∃ n, cs = [.int .i64 n] ∧ (Lit.int .i64 n).wf = true := by
  obtain ⟨n, h1, _, h2⟩ := DataW.trod_int Try.underlying3 h
  exact ⟨n, h1, h2⟩
theorem rU8 {fuel : Nat} {cs : List Value} {x : DataW H × List MemPlace} (h : DataW.trod enc Try.prog w base spare held fuel 5 cs = some x) : ∃ n : Nat, cs = [.int .u8 n] ∧ n ≤ 255 := by
  obtain ⟨n, h1, _, h2⟩ := DataW.trod_int Try.underlying5 h
  have := bounds_u8 h2
  exact ⟨n.toNat, by rw [h1]; congr 2; omega, by omega⟩
theorem rSpan {fuel : Nat} {cs : List Value} {x : DataW H × List MemPlace} (h : DataW.trod enc Try.prog w base spare held fuel 23 cs = some x) : ∃ p : Int × Int, cs = [.int .i64 p.1, .int .i64 p.2] := by
  obtain ⟨hl, n, hf⟩ := fld Try.underlying23 h
  rw [cSpan] at hl
  obtain ⟨u, v, rfl⟩ := len2 hl
  obtain ⟨_, h0⟩ := hf 0 _ rfl
  obtain ⟨_, h1⟩ := hf 1 _ rfl
  obtain ⟨a, ha, _⟩ := rInt h0
  obtain ⟨c, hc, _⟩ := rInt h1
  simp [cInt] at ha hc
  exact ⟨(a, c), by rw [ha, hc]⟩
theorem rHeap {fuel : Nat} {cs : List Value} {x : DataW H × List MemPlace} (h : DataW.trod enc Try.prog w base spare held fuel 25 cs = some x) : ∃ P lo hi : Int, cs = [.int .i64 P, .int .i64 lo, .int .i64 hi] := by
  obtain ⟨hl, n, hf⟩ := fld Try.underlying25 h
  rw [cHeap] at hl
  obtain ⟨u0, u1, u2, rfl⟩ := len3 hl
  obtain ⟨_, h0⟩ := hf 0 _ rfl
  obtain ⟨_, h1⟩ := hf 1 _ rfl
  obtain ⟨a, ha, _⟩ := rInt h0
  obtain ⟨p, hp⟩ := rSpan h1
  simp [cInt, cSpan] at ha hp
  exact ⟨a, p.1, p.2, by rw [ha, hp.1, hp.2]⟩
theorem rPlan {fuel : Nat} {cs : List Value} {x : DataW H × List MemPlace} (h : DataW.trod enc Try.prog w base spare held fuel 38 cs = some x) : ∃ fi pa fa se to : Int, cs = [.int .i64 fi, .int .i64 pa, .int .i64 fa, .int .i64 se, .int .i64 to] := by
  obtain ⟨hl, n, hf⟩ := fld Try.underlying38 h
  rw [cPlan] at hl
  obtain ⟨u0, u1, u2, u3, u4, rfl⟩ := len5 hl
  obtain ⟨_, h0⟩ := hf 0 _ rfl
  obtain ⟨_, h1⟩ := hf 1 _ rfl
  obtain ⟨_, h2⟩ := hf 2 _ rfl
  obtain ⟨_, h3⟩ := hf 3 _ rfl
  obtain ⟨_, h4⟩ := hf 4 _ rfl
  obtain ⟨a0, e0, _⟩ := rInt h0
  obtain ⟨a1, e1, _⟩ := rInt h1
  obtain ⟨a2, e2, _⟩ := rInt h2
  obtain ⟨a3, e3, _⟩ := rInt h3
  obtain ⟨a4, e4, _⟩ := rInt h4
  simp [cInt] at e0 e1 e2 e3 e4
  exact ⟨a0, a1, a2, a3, a4, by rw [e0, e1, e2, e3, e4]⟩
theorem rSampled {fuel : Nat} {cs : List Value} {x : DataW H × List MemPlace} (h : DataW.trod enc Try.prog w base spare held fuel 58 cs = some x) : ∃ a b c : Nat, cs = [.int .u8 a, .int .u8 b, .int .u8 c] ∧ a ≤ 255 ∧ b ≤ 255 ∧ c ≤ 255 := by
  obtain ⟨hl, n, hf⟩ := fld Try.underlying58 h
  rw [cSampled] at hl
  obtain ⟨u0, u1, u2, rfl⟩ := len3 hl
  obtain ⟨_, h0⟩ := hf 0 _ rfl
  obtain ⟨_, h1⟩ := hf 1 _ rfl
  obtain ⟨_, h2⟩ := hf 2 _ rfl
  obtain ⟨a0, e0, b0⟩ := rU8 h0
  obtain ⟨a1, e1, b1⟩ := rU8 h1
  obtain ⟨a2, e2, b2⟩ := rU8 h2
  simp [cU8] at e0 e1 e2
  exact ⟨a0, a1, a2, by rw [e0, e1, e2], b0, b1, b2⟩
set_option maxRecDepth 100000 in
theorem open_int {r : Reach} {b0 : Nat} {v : Value} (hv : Value.okWide Try.prog w r b0 3 v) : ∃ n : Int, v = .int .i64 n := okWide_int Try.underlying3 hv
set_option maxRecDepth 100000 in
theorem open_u8 {r : Reach} {b0 : Nat} {v : Value} {d : DataW H} {p : List MemPlace} (hv : Value.okWide Try.prog w r b0 5 v) (h : DataW.Trod enc Try.prog w base spare held 5 v d p) : ∃ n : Nat, v = .int .u8 n ∧ n ≤ 255 := by
  obtain ⟨n, rfl⟩ := okWide_int Try.underlying5 hv
  obtain ⟨fuel, hf⟩ := h
  obtain ⟨m, e, hm⟩ := rU8 hf
  have e' : n = (m : Int) := by simpa [Value.cells] using e
  exact ⟨m, by rw [e'], hm⟩
set_option maxRecDepth 100000 in
theorem open_heap {r : Reach} {b0 : Nat} {v : Value} {d : DataW H} {p : List MemPlace} (hv : Value.okWide Try.prog w r b0 25 v) (h : DataW.Trod enc Try.prog w base spare held 25 v d p) :
    ∃ P lo hi : Int, v = .agg (gV P lo hi) := by
  obtain ⟨cs, rfl, hsz⟩ := okWide_struct Try.underlying25 hv
  obtain ⟨l⟩ := cs
  obtain ⟨fuel, hf⟩ := h
  obtain ⟨P, lo, hi, e⟩ := rHeap hf
  have e' : l = [.int .i64 P, .int .i64 lo, .int .i64 hi] := by simpa [Value.cells] using e
  subst e'
  exact ⟨P, lo, hi, rfl⟩
set_option maxRecDepth 100000 in
theorem open_plan {r : Reach} {b0 : Nat} {v : Value} {d : DataW H} {p : List MemPlace} (hv : Value.okWide Try.prog w r b0 38 v) (h : DataW.Trod enc Try.prog w base spare held 38 v d p) :
    ∃ fi pa fa se to : Int, v = .agg (lV fi pa fa se to) := by
  obtain ⟨cs, rfl, hsz⟩ := okWide_struct Try.underlying38 hv
  obtain ⟨l⟩ := cs
  obtain ⟨fuel, hf⟩ := h
  obtain ⟨fi, pa, fa, se, to, e⟩ := rPlan hf
  have e' : l = [.int .i64 fi, .int .i64 pa, .int .i64 fa, .int .i64 se, .int .i64 to] := by simpa [Value.cells] using e
  subst e'
  exact ⟨fi, pa, fa, se, to, rfl⟩
set_option maxRecDepth 100000 in
theorem open_sampled {r : Reach} {b0 : Nat} {v : Value} {d : DataW H} {p : List MemPlace} (hv : Value.okWide Try.prog w r b0 58 v) (h : DataW.Trod enc Try.prog w base spare held 58 v d p) :
    ∃ a b c : Nat, v = .agg #[.int .u8 a, .int .u8 b, .int .u8 c] ∧ a ≤ 255 ∧ b ≤ 255 ∧ c ≤ 255 := by
  obtain ⟨cs, rfl, hsz⟩ := okWide_struct Try.underlying58 hv
  obtain ⟨l⟩ := cs
  obtain ⟨fuel, hf⟩ := h
  obtain ⟨a, b, c, e, h1, h2, h3⟩ := rSampled hf
  have e' : l = [.int .u8 a, .int .u8 b, .int .u8 c] := by simpa [Value.cells] using e
  subst e'
  exact ⟨a, b, c, rfl, h1, h2, h3⟩
end
end Td
end Go.Proofs.Ytgkdidnmndmlhaa
/- How the arguments of the statements read: pairs of small numbers, lists of numbers, shares, samples. -/
namespace Go.Proofs.Ytgkdidnmndmlhaa
open Go.ChangeShapes Go.WideShapes Go.ChangeAt Go.RowKit
namespace Td
set_option linter.unusedSimpArgs false
set_option linter.unusedVariables false
section
variable {H : Type} {enc : TypeId × Value → H} {w : World} {base : Nat} {spare : Nat → Bool} {held : Bool}
theorem cU8x2 : Try.prog.cellsOf 64 = 2 := by kernel_rfl
theorem cU16 : Try.prog.cellsOf 73 = 1 := by kernel_rfl
theorem cU16x2 : Try.prog.cellsOf 74 = 2 := by kernel_rfl
theorem cInt2 : Try.prog.cellsOf 26 = 2 := by kernel_rfl
theorem cSample : Try.prog.cellsOf 70 = 5 := by kernel_rfl
theorem rU16 {fuel : Nat} {cs : List Value} {x : DataW H × List MemPlace} (h : DataW.trod enc Try.prog w base spare held fuel 73 cs = some x) : ∃ n : Nat, cs = [.int .u16 n] ∧ n ≤ 65535 := by
  obtain ⟨n, h1, _, h2⟩ := DataW.trod_int Try.underlying73 h
  have := bounds_u16 h2
  exact ⟨n.toNat, by rw [h1]; congr 2; omega, by omega⟩
theorem rShare {fuel : Nat} {cs : List Value} {x : DataW H × List MemPlace} (h : DataW.trod enc Try.prog w base spare held fuel 41 cs = some x) : ∃ p : Int × Int, cs = [.int .i64 p.1, .int .i64 p.2] := by
  obtain ⟨hl, n, hf⟩ := fld Try.underlying41 h
  rw [cShare] at hl
  obtain ⟨u, v, rfl⟩ := len2 hl
  obtain ⟨_, h0⟩ := hf 0 _ rfl
  obtain ⟨_, h1⟩ := hf 1 _ rfl
  obtain ⟨a, ha, _⟩ := rInt h0
  obtain ⟨c, hc, _⟩ := rInt h1
  simp [cInt] at ha hc
  exact ⟨(a, c), by rw [ha, hc]⟩
theorem rInts {fuel : Nat} {v : Value} {x : DataW H × List MemPlace} (h : DataW.trod enc Try.prog w base spare held fuel 51 [v] = some x) : ∃ A l c, v = .slice A (List.length l) c ∧ InAt w A l := by
  rcases Go.Deep.open_slice Try.underlying51 h with ⟨h0, _⟩ | ⟨a, len, cap, m, n, D, Pl, h0, _, hlc, hcm, hm, _, hi⟩
  · obtain rfl : v = .slice none 0 0 := by simpa using h0
    exact ⟨none, [], 0, rfl, fun h => absurd rfl h⟩
  · obtain rfl : v = .slice (some a) len cap := by simpa using h0
    have hlm : len ≤ m := by rw [hm]; split <;> omega
    have hex : ∀ i, ∃ t : Int, i < len → w.cell? (a.add i) = some (.int .i64 t) := fun i => by
      by_cases hil : i < len
      · obtain ⟨cs', hc, ht⟩ := hi i (by omega)
        obtain ⟨t, rfl, _⟩ := rInt ht
        rw [cInt] at hc
        obtain ⟨_, _, hat⟩ := World.cells?_some hc
        have e0 := hat 0 (by omega)
        have ea : ∀ b : Addr, b.add 0 = b := fun b => rfl
        simp only [Nat.mul_one] at e0
        first | exact ⟨t, fun _ => e0⟩ | (rw [ea] at e0; exact ⟨t, fun _ => e0⟩)
      · exact ⟨0, fun h => absurd h hil⟩
    obtain ⟨f, hf⟩ : ∃ f : Nat → Int, ∀ i, i < len → w.cell? (a.add i) = some (.int .i64 (f i)) := ⟨fun i => (hex i).choose, fun i hil => (hex i).choose_spec hil⟩
    refine ⟨some a, (List.range len).map f, cap, by simp, fun _ => ⟨a, rfl, fun i t hit => ?_⟩⟩
    rw [List.getElem?_map] at hit
    by_cases hil : i < len
    · rw [List.getElem?_range hil] at hit
      obtain rfl : f i = t := by simpa using hit
      exact hf i hil
    · rw [List.getElem?_eq_none (by simp; omega)] at hit
      cases hit
set_option maxRecDepth 100000 in
theorem open_u82 {r : Reach} {b0 : Nat} {v : Value} {d : DataW H} {p : List MemPlace} (hv : Value.okWide Try.prog w r b0 64 v) (h : DataW.Trod enc Try.prog w base spare held 64 v d p) :
    ∃ n0 n1 : Nat, v = .agg #[.int .u8 n0, .int .u8 n1] ∧ n0 ≤ 255 ∧ n1 ≤ 255 := by
  have hv' := hv
  simp only [Value.okWide, Try.underlying64] at hv'
  obtain ⟨cs, rfl, hsz, _⟩ := hv'
  obtain ⟨l⟩ := cs
  obtain ⟨fuel, hf⟩ := h
  obtain ⟨xs, m, _, _, _, hxl, hg⟩ := DataW.trod_array Try.underlying64 hf
  obtain ⟨u0, u1, rfl⟩ := len2 (l := l) (hsz.trans cU8x2)
  obtain ⟨x0, x1, rfl⟩ := len2 hxl
  have h0 := hg 0 (by omega)
  have h1 := hg 1 (by omega)
  rw [cU8] at h0 h1
  obtain ⟨n0, e0, b0⟩ := rU8 (x := x0) h0
  obtain ⟨n1, e1, b1⟩ := rU8 (x := x1) h1
  simp [Value.cells] at e0 e1
  exact ⟨n0, n1, by rw [e0, e1], b0, b1⟩
set_option maxRecDepth 100000 in
theorem open_u16x2 {r : Reach} {b0 : Nat} {v : Value} {d : DataW H} {p : List MemPlace} (hv : Value.okWide Try.prog w r b0 74 v) (h : DataW.Trod enc Try.prog w base spare held 74 v d p) :
    ∃ n0 n1 : Nat, v = .agg #[.int .u16 n0, .int .u16 n1] ∧ n0 ≤ 65535 ∧ n1 ≤ 65535 := by
  have hv' := hv
  simp only [Value.okWide, Try.underlying74] at hv'
  obtain ⟨cs, rfl, hsz, _⟩ := hv'
  obtain ⟨l⟩ := cs
  obtain ⟨fuel, hf⟩ := h
  obtain ⟨xs, m, _, _, _, hxl, hg⟩ := DataW.trod_array Try.underlying74 hf
  obtain ⟨u0, u1, rfl⟩ := len2 (l := l) (hsz.trans cU16x2)
  obtain ⟨x0, x1, rfl⟩ := len2 hxl
  have h0 := hg 0 (by omega)
  have h1 := hg 1 (by omega)
  rw [cU16] at h0 h1
  obtain ⟨n0, e0, b0⟩ := rU16 (x := x0) h0
  obtain ⟨n1, e1, b1⟩ := rU16 (x := x1) h1
  simp [Value.cells] at e0 e1
  exact ⟨n0, n1, by rw [e0, e1], b0, b1⟩
set_option maxRecDepth 100000 in
theorem open_int2 {r : Reach} {b0 : Nat} {v : Value} {d : DataW H} {p : List MemPlace} (hv : Value.okWide Try.prog w r b0 26 v) (h : DataW.Trod enc Try.prog w base spare held 26 v d p) :
    ∃ n0 n1 : Int, v = .agg #[.int .i64 n0, .int .i64 n1] := by
  have hv' := hv
  simp only [Value.okWide, Try.underlying26] at hv'
  obtain ⟨cs, rfl, hsz, _⟩ := hv'
  obtain ⟨l⟩ := cs
  obtain ⟨fuel, hf⟩ := h
  obtain ⟨xs, m, _, _, _, hxl, hg⟩ := DataW.trod_array Try.underlying26 hf
  obtain ⟨u0, u1, rfl⟩ := len2 (l := l) (hsz.trans cInt2)
  obtain ⟨x0, x1, rfl⟩ := len2 hxl
  have h0 := hg 0 (by omega)
  have h1 := hg 1 (by omega)
  rw [cInt] at h0 h1
  obtain ⟨n0, e0, b0⟩ := rInt (x := x0) h0
  obtain ⟨n1, e1, b1⟩ := rInt (x := x1) h1
  simp [Value.cells] at e0 e1
  exact ⟨n0, n1, by rw [e0, e1]⟩
set_option maxRecDepth 100000 in
theorem open_ints {r : Reach} {b0 : Nat} {v : Value} {d : DataW H} {p : List MemPlace} (hv : Value.okWide Try.prog w r b0 51 v) (h : DataW.Trod enc Try.prog w base spare held 51 v d p) :
    ∃ A l c, v = .slice A (List.length l) c ∧ InAt w A l := by
  obtain ⟨a, len, cap, rfl⟩ := okWide_slice Try.underlying51 hv
  obtain ⟨fuel, hf⟩ := h
  exact rInts (v := .slice a len cap) hf
set_option maxRecDepth 100000 in
theorem open_share {r : Reach} {b0 : Nat} {v : Value} {d : DataW H} {p : List MemPlace} (hv : Value.okWide Try.prog w r b0 41 v) (h : DataW.Trod enc Try.prog w base spare held 41 v d p) :
    ∃ s : Int × Int, v = .agg (fV s) := by
  obtain ⟨cs, rfl, hsz⟩ := okWide_struct Try.underlying41 hv
  obtain ⟨l⟩ := cs
  obtain ⟨fuel, hf⟩ := h
  obtain ⟨s, e⟩ := rShare hf
  have e' : l = [.int .i64 s.1, .int .i64 s.2] := by simpa [Value.cells] using e
  subst e'
  exact ⟨s, rfl⟩
set_option maxRecDepth 100000 in
theorem open_sample {r : Reach} {b0 : Nat} {v : Value} {d : DataW H} {p : List MemPlace} (hv : Value.okWide Try.prog w r b0 70 v) (h : DataW.Trod enc Try.prog w base spare held 70 v d p) :
    ∃ (a b c : Nat) (m : Int × Int), v = .agg #[.int .u8 a, .int .u8 b, .int .u8 c, .int .i64 m.1, .int .i64 m.2] ∧ a ≤ 255 ∧ b ≤ 255 ∧ c ≤ 255 := by
  obtain ⟨cs, rfl, hsz⟩ := okWide_struct Try.underlying70 hv
  obtain ⟨l⟩ := cs
  obtain ⟨fuel, hf⟩ := h
  obtain ⟨hl, n, hg⟩ := fld Try.underlying70 hf
  rw [cSample] at hl
  have hl' : l.length = 5 := by simpa [Value.cells] using hl
  obtain ⟨u0, u1, u2, u3, u4, rfl⟩ := len5 hl'
  obtain ⟨_, h0⟩ := hg 0 _ rfl
  obtain ⟨_, h1⟩ := hg 1 _ rfl
  obtain ⟨_, h2⟩ := hg 2 _ rfl
  obtain ⟨_, h3⟩ := hg 3 _ rfl
  obtain ⟨a0, e0, b0⟩ := rU8 h0
  obtain ⟨a1, e1, b1⟩ := rU8 h1
  obtain ⟨a2, e2, b2⟩ := rU8 h2
  obtain ⟨m, e3⟩ := rShare h3
  simp [Value.cells, cU8, cShare] at e0 e1 e2 e3
  exact ⟨a0, a1, a2, m, by rw [e0, e1, e2, e3.1, e3.2], b0, b1, b2⟩
end
end Td
end Go.Proofs.Ytgkdidnmndmlhaa
