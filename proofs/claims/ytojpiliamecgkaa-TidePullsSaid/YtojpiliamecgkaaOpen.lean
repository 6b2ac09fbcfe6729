import Derived.Test.YtojpiliamecgkaaBase
import Derived.ProofKit
import Derived.Deep.Slices
import Derived.Carry
/- How the arguments of the statements read: beaches, ships, pulls, numbers, slices of numbers. -/
namespace Go.Proofs.Ytojpiliamecgkaa
open Go.ChangeShapes Go.WideShapes Go.ChangeAt Go.RowKit
namespace Td
set_option linter.unusedSimpArgs false
set_option linter.unusedVariables false
section
variable {H : Type} {enc : TypeId × Value → H} {w : World} {base : Nat} {spare : Nat → Bool} {held : Bool}
theorem len2 {α : Type} {l : List α} (h : l.length = 2) : ∃ u0 u1, l = [u0, u1] := by
  match l, h with
  | [u0, u1], _ => exact ⟨u0, u1, rfl⟩
theorem len3 {α : Type} {l : List α} (h : l.length = 3) : ∃ u0 u1 u2, l = [u0, u1, u2] := by
  match l, h with
  | [u0, u1, u2], _ => exact ⟨u0, u1, u2, rfl⟩
theorem len5 {α : Type} {l : List α} (h : l.length = 5) : ∃ u0 u1 u2 u3 u4, l = [u0, u1, u2, u3, u4] := by
  match l, h with
  | [u0, u1, u2, u3, u4], _ => exact ⟨u0, u1, u2, u3, u4, rfl⟩
theorem len6 {α : Type} {l : List α} (h : l.length = 6) : ∃ u0 u1 u2 u3 u4 u5, l = [u0, u1, u2, u3, u4, u5] := by
  match l, h with
  | [u0, u1, u2, u3, u4, u5], _ => exact ⟨u0, u1, u2, u3, u4, u5, rfl⟩
theorem fld {P : Program} {t : TypeId} {fs : Array Field} {fuel : Nat} {cs : List Value} {x : DataW H × List MemPlace} (ht : P.underlying t = some (.struct fs)) (h : DataW.trod enc P w base spare held fuel t cs = some x) :
    cs.length = P.cellsOf t ∧ ∃ n, ∀ (i : Nat) (f : Field), fs[i]? = some f → ∃ y, DataW.trod enc P w base spare held n f.type ((cs.drop f.offset).take (P.cellsOf f.type)) = some y := by
  obtain ⟨xs, n, _, _, hlen, hxl, hf⟩ := DataW.trod_struct ht h
  refine ⟨hlen, n, fun i f hi => ?_⟩
  have hlt : i < xs.length := by rw [hxl]; exact (Array.getElem?_eq_some_iff.1 hi).1
  exact ⟨xs[i], by rw [hf i f hi]; exact List.getElem?_eq_getElem hlt⟩
theorem cInt : Try.prog.cellsOf 3 = 1 := by kernel_rfl
theorem cSpan : Try.prog.cellsOf 23 = 2 := by kernel_rfl
theorem cTide : Try.prog.cellsOf 67 = 5 := by kernel_rfl
theorem cPull : Try.prog.cellsOf 49 = 2 := by kernel_rfl
theorem cBeach : Try.prog.cellsOf 26 = 6 := by kernel_rfl
theorem cShip : Try.prog.cellsOf 28 = 3 := by kernel_rfl
theorem cTides : Try.prog.cellsOf 24 = 1 := by kernel_rfl
theorem cPulls : Try.prog.cellsOf 50 = 1 := by kernel_rfl
theorem rInt {fuel : Nat} {cs : List Value} {x : DataW H × List MemPlace} (h : DataW.trod enc Try.prog w base spare held fuel 3 cs = some x) : ∃ n, cs = [.int .i64 n] ∧ (Lit.int .i64 n).wf = true := by
  obtain ⟨n, h1, _, h2⟩ := DataW.trod_int Try.underlying3 h
  exact ⟨n, h1, h2⟩
theorem rSpan {fuel : Nat} {cs : List Value} {x : DataW H × List MemPlace} (h : DataW.trod enc Try.prog w base spare held fuel 23 cs = some x) : ∃ a c, cs = [.int .i64 a, .int .i64 c] ∧ (Lit.int .i64 a).wf = true ∧ (Lit.int .i64 c).wf = true := by
  obtain ⟨hl, n, hf⟩ := fld Try.underlying23 h
  rw [cSpan] at hl
  obtain ⟨u, v, rfl⟩ := len2 hl
  obtain ⟨_, h0⟩ := hf 0 _ rfl
  obtain ⟨_, h1⟩ := hf 1 _ rfl
  obtain ⟨a, ha, wa⟩ := rInt h0
  obtain ⟨c, hc, wc⟩ := rInt h1
  simp [cInt] at ha hc
  exact ⟨a, c, by rw [ha, hc], wa, wc⟩
theorem rTide {fuel : Nat} {cs : List Value} {x : DataW H × List MemPlace} (h : DataW.trod enc Try.prog w base spare held fuel 67 cs = some x) : ∃ t : Tid, cs = [.int .i64 t.day, .int .i64 t.hlo, .int .i64 t.hhi, .int .i64 t.wlo, .int .i64 t.whi] := by
  obtain ⟨hl, n, hf⟩ := fld Try.underlying67 h
  rw [cTide] at hl
  obtain ⟨u0, u1, u2, u3, u4, rfl⟩ := len5 hl
  obtain ⟨_, h0⟩ := hf 0 _ rfl
  obtain ⟨_, h1⟩ := hf 1 _ rfl
  obtain ⟨_, h2⟩ := hf 2 _ rfl
  obtain ⟨a, ha, _⟩ := rInt h0
  obtain ⟨c, d, hc, _⟩ := rSpan h1
  obtain ⟨e, f, he, _⟩ := rSpan h2
  simp [cInt, cSpan] at ha hc he
  exact ⟨⟨a, c, d, e, f⟩, by rw [ha, hc.1, hc.2, he.1, he.2]⟩
theorem rPull {fuel : Nat} {cs : List Value} {x : DataW H × List MemPlace} (h : DataW.trod enc Try.prog w base spare held fuel 49 cs = some x) : ∃ t : Pul, cs = [.int .i64 t.tide, .int .i64 t.bal] := by
  obtain ⟨hl, n, hf⟩ := fld Try.underlying49 h
  rw [cPull] at hl
  obtain ⟨u0, u1, rfl⟩ := len2 hl
  obtain ⟨_, h0⟩ := hf 0 _ rfl
  obtain ⟨_, h1⟩ := hf 1 _ rfl
  obtain ⟨a, ha, _⟩ := rInt h0
  obtain ⟨c, hc, _⟩ := rInt h1
  simp [cInt] at ha hc
  exact ⟨⟨a, c⟩, by rw [ha, hc]⟩
theorem add_at (a : Addr) (i j : Nat) (h : 0 < j) : (a.add i).add j = at_ (a.add i) j := by
  generalize a.add i = c
  unfold Addr.add
  rw [if_neg (by omega)]
theorem add_zero' (a : Addr) : a.add 0 = a := by unfold Addr.add; rw [if_pos rfl]
theorem rTides {fuel : Nat} {v : Value} {x : DataW H × List MemPlace} (h : DataW.trod enc Try.prog w base spare held fuel 24 [v] = some x) : ∃ A ts c, v = .slice A (List.length ts) c ∧ TsAt w A ts ∧ ts.length ≤ maxLen := by
  rcases Go.Deep.open_slice Try.underlying24 h with ⟨h0, _⟩ | ⟨a, len, cap, m, n, D, Pl, h0, _, hlc, hcm, hm, _, hi⟩
  · obtain rfl : v = .slice none 0 0 := by simpa using h0
    exact ⟨none, [], 0, rfl, fun h => absurd rfl h, by simp⟩
  · obtain rfl : v = .slice (some a) len cap := by simpa using h0
    have hlm : len ≤ m := by rw [hm]; split <;> omega
    have hex : ∀ i, ∃ t : Tid, i < len → TidAt w (a.add (i * 5)) t := fun i => by
      by_cases hil : i < len
      · obtain ⟨cs', hc, ht⟩ := hi i (by omega)
        obtain ⟨t, rfl⟩ := rTide ht
        rw [cTide] at hc
        obtain ⟨_, _, hat⟩ := World.cells?_some hc
        have e0 := hat 0 (by omega)
        have e1 := hat 1 (by omega)
        have e2 := hat 2 (by omega)
        have e3 := hat 3 (by omega)
        have e4 := hat 4 (by omega)
        rw [add_zero'] at e0
        rw [add_at _ _ _ (by omega)] at e1 e2 e3 e4
        exact ⟨t, fun _ => ⟨e0, e1, e2, e3, e4⟩⟩
      · exact ⟨tid0, fun h => absurd h hil⟩
    obtain ⟨f, hf⟩ : ∃ f : Nat → Tid, ∀ i, i < len → TidAt w (a.add (i * 5)) (f i) := ⟨fun i => (hex i).choose, fun i hil => (hex i).choose_spec hil⟩
    refine ⟨some a, (List.range len).map f, cap, by simp, fun _ => ⟨a, rfl, fun i t hit => ?_⟩, by simp; omega⟩
    rw [List.getElem?_map] at hit
    by_cases hil : i < len
    · rw [List.getElem?_range hil] at hit
      obtain rfl : f i = t := by simpa using hit
      exact hf i hil
    · rw [List.getElem?_eq_none (by simp; omega)] at hit
      cases hit
theorem rPulls {fuel : Nat} {v : Value} {x : DataW H × List MemPlace} (h : DataW.trod enc Try.prog w base spare held fuel 50 [v] = some x) : ∃ A ts c, v = .slice A (List.length ts) c ∧ PuAt w A ts ∧ ts.length ≤ maxLen := by
  rcases Go.Deep.open_slice Try.underlying50 h with ⟨h0, _⟩ | ⟨a, len, cap, m, n, D, Pl, h0, _, hlc, hcm, hm, _, hi⟩
  · obtain rfl : v = .slice none 0 0 := by simpa using h0
    exact ⟨none, [], 0, rfl, fun h => absurd rfl h, by simp⟩
  · obtain rfl : v = .slice (some a) len cap := by simpa using h0
    have hlm : len ≤ m := by rw [hm]; split <;> omega
    have hex : ∀ i, ∃ t : Pul, i < len → w.cell? (a.add (i * 2)) = some (.int .i64 t.tide) ∧ w.cell? (at_ (a.add (i * 2)) 1) = some (.int .i64 t.bal) := fun i => by
      by_cases hil : i < len
      · obtain ⟨cs', hc, ht⟩ := hi i (by omega)
        obtain ⟨t, rfl⟩ := rPull ht
        rw [cPull] at hc
        obtain ⟨_, _, hat⟩ := World.cells?_some hc
        have e0 := hat 0 (by omega)
        have e1 := hat 1 (by omega)
        rw [add_zero'] at e0
        rw [add_at _ _ _ (by omega)] at e1
        exact ⟨t, fun _ => ⟨e0, e1⟩⟩
      · exact ⟨⟨0, 0⟩, fun h => absurd h hil⟩
    obtain ⟨f, hf⟩ : ∃ f : Nat → Pul, ∀ i, i < len → w.cell? (a.add (i * 2)) = some (.int .i64 (f i).tide) ∧ w.cell? (at_ (a.add (i * 2)) 1) = some (.int .i64 (f i).bal) := ⟨fun i => (hex i).choose, fun i hil => (hex i).choose_spec hil⟩
    refine ⟨some a, (List.range len).map f, cap, by simp, fun _ => ⟨a, rfl, fun i t hit => ?_⟩, by simp; omega⟩
    rw [List.getElem?_map] at hit
    by_cases hil : i < len
    · rw [List.getElem?_range hil] at hit
      obtain rfl : f i = t := by simpa using hit
      exact hf i hil
    · rw [List.getElem?_eq_none (by simp; omega)] at hit
      cases hit
set_option maxRecDepth 100000 in
/-- a beach, by value. -/
theorem open_beach {r : Reach} {b0 : Nat} {v : Value} {d : DataW H} {p : List MemPlace} (hv : Value.okWide Try.prog w r b0 26 v) (h : DataW.Trod enc Try.prog w base spare held 26 v d p) :
    ∃ (b : Bch) (A : Option Addr) (c : Nat), v = .agg #[.int .i64 b.slo, .int .i64 b.shi, .int .i64 b.mlo, .int .i64 b.mhi, .int .i64 b.bite, .slice A b.ts.length c] ∧ TsAt w A b.ts ∧ b.ts.length ≤ maxLen := by
  obtain ⟨cs, rfl, hsz⟩ := okWide_struct Try.underlying26 hv
  obtain ⟨l⟩ := cs
  obtain ⟨fuel, hf⟩ := h
  obtain ⟨hl, n, hg⟩ := fld Try.underlying26 hf
  obtain ⟨u0, u1, u2, u3, u4, u5, rfl⟩ := len6 (l := l) (hsz.trans cBeach)
  obtain ⟨_, h0⟩ := hg 0 _ rfl
  obtain ⟨_, h1⟩ := hg 1 _ rfl
  obtain ⟨_, h2⟩ := hg 2 _ rfl
  obtain ⟨y3, h3⟩ := hg 3 _ rfl
  obtain ⟨a0, a1, ha, _⟩ := rSpan h0
  obtain ⟨m0, m1, hm, _⟩ := rSpan h1
  obtain ⟨bi, hb, _⟩ := rInt h2
  have h3' : DataW.trod enc Try.prog w base spare held n 24 [u5] = some y3 := by simpa [cTides, Value.cells] using h3
  obtain ⟨A, ts, c, rfl, hts, hlen⟩ := rTides h3'
  simp [cInt, cSpan, Value.cells] at ha hm hb
  exact ⟨⟨a0, a1, m0, m1, bi, ts⟩, A, c, by rw [ha.1, ha.2, hm.1, hm.2, hb], hts, hlen⟩
set_option maxRecDepth 100000 in
theorem open_ship {r : Reach} {b0 : Nat} {v : Value} {d : DataW H} {p : List MemPlace} (hv : Value.okWide Try.prog w r b0 28 v) (h : DataW.Trod enc Try.prog w base spare held 28 v d p) :
    ∃ s : Shp, v = .agg #[.int .i64 s.dlo, .int .i64 s.dhi, .int .i64 s.sink] := by
  obtain ⟨cs, rfl, hsz⟩ := okWide_struct Try.underlying28 hv
  obtain ⟨l⟩ := cs
  obtain ⟨fuel, hf⟩ := h
  obtain ⟨hl, n, hg⟩ := fld Try.underlying28 hf
  obtain ⟨u0, u1, u2, rfl⟩ := len3 (l := l) (hsz.trans cShip)
  obtain ⟨_, h0⟩ := hg 0 _ rfl
  obtain ⟨_, h1⟩ := hg 1 _ rfl
  obtain ⟨a0, a1, ha, _⟩ := rSpan h0
  obtain ⟨bi, hb, _⟩ := rInt h1
  simp [cInt, cSpan, Value.cells] at ha hb
  exact ⟨⟨a0, a1, bi⟩, by rw [ha.1, ha.2, hb]⟩
end
end Td
end Go.Proofs.Ytojpiliamecgkaa
