import Derived.Test.YtgkdidnmndmlhaaOpens
import Derived.Test.YtgkdidnmndmlhaaChkA
/- How the arguments of the statements read: heaps, plans, shares, numbers. -/
namespace Go.Proofs.Ytgkdidnmndmlhaa
open Go.ChangeShapes Go.WideShapes Go.ChangeAt Go.RowKit
namespace Td
set_option linter.unusedSimpArgs false
set_option linter.unusedVariables false
section
variable {H : Type} {enc : TypeId × Value → H} {w : World} {base : Nat} {spare : Nat → Bool} {held : Bool}
theorem len2 {α : Type} {l : List α} (h : l.length = 2) : ∃ u0 u1, l = [u0, u1] := by
  match l, h with
  | [u0, u1], _ => exact ⟨u0, u1, rfl⟩
theorem len3 {α : Type} {l : List α} (h : l.length = 3) : ∃ u0 u1 u2, l = [u0, u1, u2] := by
  match l, h with
  | [u0, u1, u2], _ => exact ⟨u0, u1, u2, rfl⟩
theorem len5 {α : Type} {l : List α} (h : l.length = 5) : ∃ u0 u1 u2 u3 u4, l = [u0, u1, u2, u3, u4] := by
  match l, h with
  | [u0, u1, u2, u3, u4], _ => exact ⟨u0, u1, u2, u3, u4, rfl⟩
theorem fld {P : Program} {t : TypeId} {fs : Array Field} {fuel : Nat} {cs : List Value} {x : DataW H × List MemPlace} (ht : P.underlying t = some (.struct fs)) (h : DataW.trod enc P w base spare held fuel t cs = some x) :
    cs.length = P.cellsOf t ∧ ∃ n, ∀ (i : Nat) (f : Field), fs[i]? = some f → ∃ y, DataW.trod enc P w base spare held n f.type ((cs.drop f.offset).take (P.cellsOf f.type)) = some y := by
  obtain ⟨xs, n, _, _, hlen, hxl, hf⟩ := DataW.trod_struct ht h
  refine ⟨hlen, n, fun i f hi => ?_⟩
  have hlt : i < xs.length := by rw [hxl]; exact (Array.getElem?_eq_some_iff.1 hi).1
  exact ⟨xs[i], by rw [hf i f hi]; exact List.getElem?_eq_getElem hlt⟩
theorem cInt : Try.prog.cellsOf 3 = 1 := by kernel_rfl
theorem cU8 : Try.prog.cellsOf 5 = 1 := by kernel_rfl
theorem cSpan : Try.prog.cellsOf 23 = 2 := by kernel_rfl
theorem cHeap : Try.prog.cellsOf 25 = 3 := by kernel_rfl
theorem cPlan : Try.prog.cellsOf 38 = 5 := by kernel_rfl
theorem cShare : Try.prog.cellsOf 41 = 2 := by kernel_rfl
theorem cSampled : Try.prog.cellsOf 58 = 3 := by kernel_rfl
theorem rInt {fuel : Nat} {cs : List Value} {x : DataW H × List MemPlace} (h : DataW.trod enc Try.prog w base spare held fuel 3 cs = some x) : ∃ n, cs = [.int .i64 n] ∧ (Lit.int .i64 n).wf = true := by
  obtain ⟨n, h1, _, h2⟩ := DataW.trod_int Try.underlying3 h
  exact ⟨n, h1, h2⟩
theorem rU8 {fuel : Nat} {cs : List Value} {x : DataW H × List MemPlace} (h : DataW.trod enc Try.prog w base spare held fuel 5 cs = some x) : ∃ n : Nat, cs = [.int .u8 n] ∧ n ≤ 255 := by
  obtain ⟨n, h1, _, h2⟩ := DataW.trod_int Try.underlying5 h
  have := bounds_u8 h2
  exact ⟨n.toNat, by rw [h1]; congr 2; omega, by omega⟩
theorem rSpan {fuel : Nat} {cs : List Value} {x : DataW H × List MemPlace} (h : DataW.trod enc Try.prog w base spare held fuel 23 cs = some x) : ∃ p : Int × Int, cs = [.int .i64 p.1, .int .i64 p.2] := by
  obtain ⟨hl, n, hf⟩ := fld Try.underlying23 h
  rw [cSpan] at hl
  obtain ⟨u, v, rfl⟩ := len2 hl
  obtain ⟨_, h0⟩ := hf 0 _ rfl
  obtain ⟨_, h1⟩ := hf 1 _ rfl
  obtain ⟨a, ha, _⟩ := rInt h0
  obtain ⟨c, hc, _⟩ := rInt h1
  simp [cInt] at ha hc
  exact ⟨(a, c), by rw [ha, hc]⟩
theorem rHeap {fuel : Nat} {cs : List Value} {x : DataW H × List MemPlace} (h : DataW.trod enc Try.prog w base spare held fuel 25 cs = some x) : ∃ P lo hi : Int, cs = [.int .i64 P, .int .i64 lo, .int .i64 hi] := by
  obtain ⟨hl, n, hf⟩ := fld Try.underlying25 h
  rw [cHeap] at hl
  obtain ⟨u0, u1, u2, rfl⟩ := len3 hl
  obtain ⟨_, h0⟩ := hf 0 _ rfl
  obtain ⟨_, h1⟩ := hf 1 _ rfl
  obtain ⟨a, ha, _⟩ := rInt h0
  obtain ⟨p, hp⟩ := rSpan h1
  simp [cInt, cSpan] at ha hp
  exact ⟨a, p.1, p.2, by rw [ha, hp.1, hp.2]⟩
theorem rPlan {fuel : Nat} {cs : List Value} {x : DataW H × List MemPlace} (h : DataW.trod enc Try.prog w base spare held fuel 38 cs = some x) : ∃ fi pa fa se to : Int, cs = [.int .i64 fi, .int .i64 pa, .int .i64 fa, .int .i64 se, .int .i64 to] := by
  obtain ⟨hl, n, hf⟩ := fld Try.underlying38 h
  rw [cPlan] at hl
  obtain ⟨u0, u1, u2, u3, u4, rfl⟩ := len5 hl
  obtain ⟨_, h0⟩ := hf 0 _ rfl
  obtain ⟨_, h1⟩ := hf 1 _ rfl
  obtain ⟨_, h2⟩ := hf 2 _ rfl
  obtain ⟨_, h3⟩ := hf 3 _ rfl
  obtain ⟨_, h4⟩ := hf 4 _ rfl
  obtain ⟨a0, e0, _⟩ := rInt h0
  obtain ⟨a1, e1, _⟩ := rInt h1
  obtain ⟨a2, e2, _⟩ := rInt h2
  obtain ⟨a3, e3, _⟩ := rInt h3
  obtain ⟨a4, e4, _⟩ := rInt h4
  simp [cInt] at e0 e1 e2 e3 e4
  exact ⟨a0, a1, a2, a3, a4, by rw [e0, e1, e2, e3, e4]⟩
theorem rSampled {fuel : Nat} {cs : List Value} {x : DataW H × List MemPlace} (h : DataW.trod enc Try.prog w base spare held fuel 58 cs = some x) : ∃ a b c : Nat, cs = [.int .u8 a, .int .u8 b, .int .u8 c] ∧ a ≤ 255 ∧ b ≤ 255 ∧ c ≤ 255 := by
  obtain ⟨hl, n, hf⟩ := fld Try.underlying58 h
  rw [cSampled] at hl
  obtain ⟨u0, u1, u2, rfl⟩ := len3 hl
  obtain ⟨_, h0⟩ := hf 0 _ rfl
  obtain ⟨_, h1⟩ := hf 1 _ rfl
  obtain ⟨_, h2⟩ := hf 2 _ rfl
  obtain ⟨a0, e0, b0⟩ := rU8 h0
  obtain ⟨a1, e1, b1⟩ := rU8 h1
  obtain ⟨a2, e2, b2⟩ := rU8 h2
  simp [cU8] at e0 e1 e2
  exact ⟨a0, a1, a2, by rw [e0, e1, e2], b0, b1, b2⟩
set_option maxRecDepth 100000 in
theorem open_int {r : Reach} {b0 : Nat} {v : Value} (hv : Value.okWide Try.prog w r b0 3 v) : ∃ n : Int, v = .int .i64 n := okWide_int Try.underlying3 hv
set_option maxRecDepth 100000 in
theorem open_u8 {r : Reach} {b0 : Nat} {v : Value} {d : DataW H} {p : List MemPlace} (hv : Value.okWide Try.prog w r b0 5 v) (h : DataW.Trod enc Try.prog w base spare held 5 v d p) : ∃ n : Nat, v = .int .u8 n ∧ n ≤ 255 := by
  obtain ⟨n, rfl⟩ := okWide_int Try.underlying5 hv
  obtain ⟨fuel, hf⟩ := h
  obtain ⟨m, e, hm⟩ := rU8 hf
  have e' : n = (m : Int) := by simpa [Value.cells] using e
  exact ⟨m, by rw [e'], hm⟩
set_option maxRecDepth 100000 in
theorem open_heap {r : Reach} {b0 : Nat} {v : Value} {d : DataW H} {p : List MemPlace} (hv : Value.okWide Try.prog w r b0 25 v) (h : DataW.Trod enc Try.prog w base spare held 25 v d p) :
    ∃ P lo hi : Int, v = .agg (gV P lo hi) := by
  obtain ⟨cs, rfl, hsz⟩ := okWide_struct Try.underlying25 hv
  obtain ⟨l⟩ := cs
  obtain ⟨fuel, hf⟩ := h
  obtain ⟨P, lo, hi, e⟩ := rHeap hf
  have e' : l = [.int .i64 P, .int .i64 lo, .int .i64 hi] := by simpa [Value.cells] using e
  subst e'
  exact ⟨P, lo, hi, rfl⟩
set_option maxRecDepth 100000 in
theorem open_plan {r : Reach} {b0 : Nat} {v : Value} {d : DataW H} {p : List MemPlace} (hv : Value.okWide Try.prog w r b0 38 v) (h : DataW.Trod enc Try.prog w base spare held 38 v d p) :
    ∃ fi pa fa se to : Int, v = .agg (lV fi pa fa se to) := by
  obtain ⟨cs, rfl, hsz⟩ := okWide_struct Try.underlying38 hv
  obtain ⟨l⟩ := cs
  obtain ⟨fuel, hf⟩ := h
  obtain ⟨fi, pa, fa, se, to, e⟩ := rPlan hf
  have e' : l = [.int .i64 fi, .int .i64 pa, .int .i64 fa, .int .i64 se, .int .i64 to] := by simpa [Value.cells] using e
  subst e'
  exact ⟨fi, pa, fa, se, to, rfl⟩
set_option maxRecDepth 100000 in
theorem open_sampled {r : Reach} {b0 : Nat} {v : Value} {d : DataW H} {p : List MemPlace} (hv : Value.okWide Try.prog w r b0 58 v) (h : DataW.Trod enc Try.prog w base spare held 58 v d p) :
    ∃ a b c : Nat, v = .agg #[.int .u8 a, .int .u8 b, .int .u8 c] ∧ a ≤ 255 ∧ b ≤ 255 ∧ c ≤ 255 := by
  obtain ⟨cs, rfl, hsz⟩ := okWide_struct Try.underlying58 hv
  obtain ⟨l⟩ := cs
  obtain ⟨fuel, hf⟩ := h
  obtain ⟨a, b, c, e, h1, h2, h3⟩ := rSampled hf
  have e' : l = [.int .u8 a, .int .u8 b, .int .u8 c] := by simpa [Value.cells] using e
  subst e'
  exact ⟨a, b, c, rfl, h1, h2, h3⟩
end
end Td
end Go.Proofs.Ytgkdidnmndmlhaa
