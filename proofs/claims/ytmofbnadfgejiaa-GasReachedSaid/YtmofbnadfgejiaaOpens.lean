import Derived.Test.YtmofbnadfgejiaaCore
import Derived.Test.YtmofbnadfgejiaaLeaf
import Derived.Test.YtmofbnadfgejiaaLrd
import Derived.ProofKit
import Derived.Deep.Slices
import Derived.Carry
import Derived.OpenShut
/- What the program knobs are; where its blocks may lie. -/
namespace Go.Proofs.Ytmofbnadfgejiaa
open Go.ChangeShapes Go.WideShapes Go.ChangeAt Go.RowKit
namespace Td
theorem ownB : ownKnob Try.prog.godebug = none := by kernel_rfl
theorem laidOutB' : laidOutB Try.prog = true := by kernel_rfl
end Td
end Go.Proofs.Ytmofbnadfgejiaa
/- How the arguments of the statements read: spaces, readings, numbers. -/
namespace Go.Proofs.Ytmofbnadfgejiaa
open Go.ChangeShapes Go.WideShapes Go.ChangeAt Go.RowKit
namespace Td
set_option linter.unusedSimpArgs false
set_option linter.unusedVariables false
section
variable {H : Type} {enc : TypeId × Value → H} {w : World} {base : Nat} {spare : Nat → Bool} {held : Bool}
theorem len2 {α : Type} {l : List α} (h : l.length = 2) : ∃ u0 u1, l = [u0, u1] := by
  match l, h with
  | [u0, u1], _ => exact ⟨u0, u1, rfl⟩
theorem len3 {α : Type} {l : List α} (h : l.length = 3) : ∃ u0 u1 u2, l = [u0, u1, u2] := by
  match l, h with
  | [u0, u1, u2], _ => exact ⟨u0, u1, u2, rfl⟩
theorem len4 {α : Type} {l : List α} (h : l.length = 4) : ∃ u0 u1 u2 u3, l = [u0, u1, u2, u3] := by
  match l, h with
  | [u0, u1, u2, u3], _ => exact ⟨u0, u1, u2, u3, rfl⟩
theorem len9 {α : Type} {l : List α} (h : l.length = 9) : ∃ u0 u1 u2 u3 u4 u5 u6 u7 u8, l = [u0, u1, u2, u3, u4, u5, u6, u7, u8] := by
  match l, h with
  | [u0, u1, u2, u3, u4, u5, u6, u7, u8], _ => exact ⟨u0, u1, u2, u3, u4, u5, u6, u7, u8, rfl⟩
theorem fld {P : Program} {t : TypeId} {fs : Array Field} {fuel : Nat} {cs : List Value} {x : DataW H × List MemPlace} (ht : P.underlying t = some (.struct fs)) (h : DataW.trod enc P w base spare held fuel t cs = some x) :
    cs.length = P.cellsOf t ∧ ∃ n, ∀ (i : Nat) (f : Field), fs[i]? = some f → ∃ y, DataW.trod enc P w base spare held n f.type ((cs.drop f.offset).take (P.cellsOf f.type)) = some y := by
  obtain ⟨xs, n, _, _, hlen, hxl, hf⟩ := DataW.trod_struct ht h
  refine ⟨hlen, n, fun i f hi => ?_⟩
  have hlt : i < xs.length := by rw [hxl]; exact (Array.getElem?_eq_some_iff.1 hi).1
  exact ⟨xs[i], by rw [hf i f hi]; exact List.getElem?_eq_getElem hlt⟩
theorem cInt : Try.prog.cellsOf 3 = 1 := by kernel_rfl
theorem cStr : Try.prog.cellsOf 9 = 1 := by kernel_rfl
theorem cSpan : Try.prog.cellsOf 23 = 2 := by kernel_rfl
theorem cTool : Try.prog.cellsOf 65 = 2 := by kernel_rfl
theorem cRead : Try.prog.cellsOf 61 = 3 := by kernel_rfl
theorem cSpace : Try.prog.cellsOf 27 = 9 := by kernel_rfl
theorem cSpans : Try.prog.cellsOf 24 = 1 := by kernel_rfl
theorem cTools : Try.prog.cellsOf 25 = 1 := by kernel_rfl
theorem cByte : Try.prog.cellsOf 5 = 1 := by kernel_rfl
theorem cByte4 : Try.prog.cellsOf 82 = 4 := by kernel_rfl
theorem rInt {fuel : Nat} {cs : List Value} {x : DataW H × List MemPlace} (h : DataW.trod enc Try.prog w base spare held fuel 3 cs = some x) : ∃ n, cs = [.int .i64 n] ∧ (Lit.int .i64 n).wf = true := by
  obtain ⟨n, h1, _, h2⟩ := DataW.trod_int Try.underlying3 h
  exact ⟨n, h1, h2⟩
theorem rByte {fuel : Nat} {cs : List Value} {x : DataW H × List MemPlace} (h : DataW.trod enc Try.prog w base spare held fuel 5 cs = some x) : ∃ n : Nat, cs = [.int .u8 n] ∧ n ≤ 255 := by
  obtain ⟨n, h1, _, h2⟩ := DataW.trod_int Try.underlying5 h
  have := bounds_u8 h2
  exact ⟨n.toNat, by rw [h1]; congr 2; omega, by omega⟩
theorem rStr {fuel : Nat} {cs : List Value} {x : DataW H × List MemPlace} (h : DataW.trod enc Try.prog w base spare held fuel 9 cs = some x) : ∃ s, cs = [.string s] ∧ s.size ≤ maxLen := by
  obtain ⟨s, h1, h2, h3⟩ := DataW.trod_string Try.underlying9 h
  exact ⟨s, h1, by first | exact h2 | exact h3⟩
theorem rSpan {fuel : Nat} {cs : List Value} {x : DataW H × List MemPlace} (h : DataW.trod enc Try.prog w base spare held fuel 23 cs = some x) : ∃ p : Int × Int, cs = [.int .i64 p.1, .int .i64 p.2] := by
  obtain ⟨hl, n, hf⟩ := fld Try.underlying23 h
  rw [cSpan] at hl
  obtain ⟨u, v, rfl⟩ := len2 hl
  obtain ⟨_, h0⟩ := hf 0 _ rfl
  obtain ⟨_, h1⟩ := hf 1 _ rfl
  obtain ⟨a, ha, _⟩ := rInt h0
  obtain ⟨c, hc, _⟩ := rInt h1
  simp [cInt] at ha hc
  exact ⟨(a, c), by rw [ha, hc]⟩
theorem rTool {fuel : Nat} {cs : List Value} {x : DataW H × List MemPlace} (h : DataW.trod enc Try.prog w base spare held fuel 65 cs = some x) : ∃ t : Tl, cs = [.string t.name, .int .i64 t.err] ∧ t.name.size ≤ maxLen := by
  obtain ⟨hl, n, hf⟩ := fld Try.underlying65 h
  rw [cTool] at hl
  obtain ⟨u, v, rfl⟩ := len2 hl
  obtain ⟨_, h0⟩ := hf 0 _ rfl
  obtain ⟨_, h1⟩ := hf 1 _ rfl
  obtain ⟨a, ha, hz⟩ := rStr h0
  obtain ⟨c, hc, _⟩ := rInt h1
  simp [cInt, cStr] at ha hc
  exact ⟨⟨a, c⟩, by rw [ha, hc], hz⟩
theorem rRead {fuel : Nat} {cs : List Value} {x : DataW H × List MemPlace} (h : DataW.trod enc Try.prog w base spare held fuel 61 cs = some x) : ∃ t : Rd, cs = [.int .i64 t.min, .int .i64 t.tool, .int .i64 t.shown] := by
  obtain ⟨hl, n, hf⟩ := fld Try.underlying61 h
  rw [cRead] at hl
  obtain ⟨u0, u1, u2, rfl⟩ := len3 hl
  obtain ⟨_, h0⟩ := hf 0 _ rfl
  obtain ⟨_, h1⟩ := hf 1 _ rfl
  obtain ⟨_, h2⟩ := hf 2 _ rfl
  obtain ⟨a, ha, _⟩ := rInt h0
  obtain ⟨b, hb, _⟩ := rInt h1
  obtain ⟨c, hc, _⟩ := rInt h2
  simp [cInt] at ha hb hc
  exact ⟨⟨a, b, c⟩, by rw [ha, hb, hc]⟩
theorem add_at (a : Addr) (i j : Nat) (h : 0 < j) : (a.add i).add j = at_ (a.add i) j := by
  generalize a.add i = c
  unfold Addr.add
  rw [if_neg (by omega)]
theorem add_zero' (a : Addr) : a.add 0 = a := by unfold Addr.add; rw [if_pos rfl]
theorem rSpans {fuel : Nat} {v : Value} {x : DataW H × List MemPlace} (h : DataW.trod enc Try.prog w base spare held fuel 24 [v] = some x) : ∃ A l c, v = .slice A (List.length l) c ∧ SpAt w A l ∧ l.length ≤ c ∧ c ≤ maxLen := by
  rcases Go.Deep.open_slice Try.underlying24 h with ⟨h0, _⟩ | ⟨a, len, cap, m, n, D, Pl, h0, _, hlc, hcm, hm, _, hi⟩
  · obtain rfl : v = .slice none 0 0 := by simpa using h0
    exact ⟨none, [], 0, rfl, fun h => absurd rfl h, by simp, by simp⟩
  · obtain rfl : v = .slice (some a) len cap := by simpa using h0
    have hlm : len ≤ m := by rw [hm]; split <;> omega
    have hex : ∀ i, ∃ t : Int × Int, i < len → w.cell? (a.add (i * 2)) = some (.int .i64 t.1) ∧ w.cell? (at_ (a.add (i * 2)) 1) = some (.int .i64 t.2) := fun i => by
      by_cases hil : i < len
      · obtain ⟨cs', hc, ht⟩ := hi i (by omega)
        obtain ⟨t, rfl⟩ := rSpan ht
        rw [cSpan] at hc
        obtain ⟨_, _, hat⟩ := World.cells?_some hc
        have e0 := hat 0 (by omega)
        have e1 := hat 1 (by omega)
        rw [add_zero'] at e0
        rw [add_at _ _ _ (by omega)] at e1
        exact ⟨t, fun _ => ⟨e0, e1⟩⟩
      · exact ⟨(0, 0), fun h => absurd h hil⟩
    obtain ⟨f, hf⟩ : ∃ f : Nat → Int × Int, ∀ i, i < len → w.cell? (a.add (i * 2)) = some (.int .i64 (f i).1) ∧ w.cell? (at_ (a.add (i * 2)) 1) = some (.int .i64 (f i).2) := ⟨fun i => (hex i).choose, fun i hil => (hex i).choose_spec hil⟩
    refine ⟨some a, (List.range len).map f, cap, by simp, fun _ => ⟨a, rfl, fun i t hit => ?_⟩, by simp; omega, hcm⟩
    rw [List.getElem?_map] at hit
    by_cases hil : i < len
    · rw [List.getElem?_range hil] at hit
      obtain rfl : f i = t := by simpa using hit
      exact hf i hil
    · rw [List.getElem?_eq_none (by simp; omega)] at hit
      cases hit
theorem rTools {fuel : Nat} {v : Value} {x : DataW H × List MemPlace} (h : DataW.trod enc Try.prog w base spare held fuel 25 [v] = some x) : ∃ A l c, v = .slice A (List.length l) c ∧ TlAt w A l ∧ l.length ≤ c ∧ c ≤ maxLen ∧ ∀ t ∈ l, t.name.size ≤ maxLen := by
  rcases Go.Deep.open_slice Try.underlying25 h with ⟨h0, _⟩ | ⟨a, len, cap, m, n, D, Pl, h0, _, hlc, hcm, hm, _, hi⟩
  · obtain rfl : v = .slice none 0 0 := by simpa using h0
    exact ⟨none, [], 0, rfl, fun h => absurd rfl h, by simp, by simp, by simp⟩
  · obtain rfl : v = .slice (some a) len cap := by simpa using h0
    have hlm : len ≤ m := by rw [hm]; split <;> omega
    have hex : ∀ i, ∃ t : Tl, (i < len → w.cell? (a.add (i * 2)) = some (.string t.name) ∧ w.cell? (at_ (a.add (i * 2)) 1) = some (.int .i64 t.err)) ∧ t.name.size ≤ maxLen := fun i => by
      by_cases hil : i < len
      · obtain ⟨cs', hc, ht⟩ := hi i (by omega)
        obtain ⟨t, rfl, hz⟩ := rTool ht
        rw [cTool] at hc
        obtain ⟨_, _, hat⟩ := World.cells?_some hc
        have e0 := hat 0 (by omega)
        have e1 := hat 1 (by omega)
        rw [add_zero'] at e0
        rw [add_at _ _ _ (by omega)] at e1
        exact ⟨t, fun _ => ⟨e0, e1⟩, hz⟩
      · exact ⟨⟨ByteArray.empty, 0⟩, fun h => absurd h hil, by show (0 : Nat) ≤ _; exact Nat.zero_le _⟩
    obtain ⟨f, hf⟩ : ∃ f : Nat → Tl, ∀ i, (i < len → w.cell? (a.add (i * 2)) = some (.string (f i).name) ∧ w.cell? (at_ (a.add (i * 2)) 1) = some (.int .i64 (f i).err)) ∧ (f i).name.size ≤ maxLen := ⟨fun i => (hex i).choose, fun i => (hex i).choose_spec⟩
    refine ⟨some a, (List.range len).map f, cap, by simp, fun _ => ⟨a, rfl, fun i t hit => ?_⟩, by simp; omega, hcm, fun t ht => ?_⟩
    · rw [List.getElem?_map] at hit
      by_cases hil : i < len
      · rw [List.getElem?_range hil] at hit
        obtain rfl : f i = t := by simpa using hit
        exact (hf i).1 hil
      · rw [List.getElem?_eq_none (by simp; omega)] at hit
        cases hit
    · obtain ⟨i, _, rfl⟩ := List.mem_map.1 ht
      exact (hf i).2
theorem rReads {fuel : Nat} {v : Value} {x : DataW H × List MemPlace} (h : DataW.trod enc Try.prog w base spare held fuel 28 [v] = some x) : ∃ A l c, v = .slice A (List.length l) c ∧ RdAt w A l ∧ l.length ≤ c ∧ c ≤ maxLen := by
  rcases Go.Deep.open_slice Try.underlying28 h with ⟨h0, _⟩ | ⟨a, len, cap, m, n, D, Pl, h0, _, hlc, hcm, hm, _, hi⟩
  · obtain rfl : v = .slice none 0 0 := by simpa using h0
    exact ⟨none, [], 0, rfl, fun h => absurd rfl h, by simp, by simp⟩
  · obtain rfl : v = .slice (some a) len cap := by simpa using h0
    have hlm : len ≤ m := by rw [hm]; split <;> omega
    have hex : ∀ i, ∃ t : Rd, i < len → w.cell? (a.add (i * 3)) = some (.int .i64 t.min) ∧ w.cell? (at_ (a.add (i * 3)) 1) = some (.int .i64 t.tool) ∧ w.cell? (at_ (a.add (i * 3)) 2) = some (.int .i64 t.shown) := fun i => by
      by_cases hil : i < len
      · obtain ⟨cs', hc, ht⟩ := hi i (by omega)
        obtain ⟨t, rfl⟩ := rRead ht
        rw [cRead] at hc
        obtain ⟨_, _, hat⟩ := World.cells?_some hc
        have e0 := hat 0 (by omega)
        have e1 := hat 1 (by omega)
        have e2 := hat 2 (by omega)
        rw [add_zero'] at e0
        rw [add_at _ _ _ (by omega)] at e1 e2
        exact ⟨t, fun _ => ⟨e0, e1, e2⟩⟩
      · exact ⟨⟨0, 0, 0⟩, fun h => absurd h hil⟩
    obtain ⟨f, hf⟩ : ∃ f : Nat → Rd, ∀ i, i < len → w.cell? (a.add (i * 3)) = some (.int .i64 (f i).min) ∧ w.cell? (at_ (a.add (i * 3)) 1) = some (.int .i64 (f i).tool) ∧ w.cell? (at_ (a.add (i * 3)) 2) = some (.int .i64 (f i).shown) := ⟨fun i => (hex i).choose, fun i hil => (hex i).choose_spec hil⟩
    refine ⟨some a, (List.range len).map f, cap, by simp, fun _ => ⟨a, rfl, fun i t hit => ?_⟩, by simp; omega, hcm⟩
    rw [List.getElem?_map] at hit
    by_cases hil : i < len
    · rw [List.getElem?_range hil] at hit
      obtain rfl : f i = t := by simpa using hit
      exact hf i hil
    · rw [List.getElem?_eq_none (by simp; omega)] at hit
      cases hit
theorem max63 : maxLen ≤ 9223372036854775807 := by simp only [maxLen]; omega
set_option maxRecDepth 100000 in
/-- a space, by value. -/
theorem open_space {r : Reach} {b0 : Nat} {v : Value} {d : DataW H} {p : List MemPlace} (hv : Value.okWide Try.prog w r b0 27 v) (h : DataW.Trod enc Try.prog w base spare held 27 v d p) :
    ∃ (s : Spc) (m : Sl), v = .agg (sV s m) ∧ SAt w m s := by
  obtain ⟨cs, rfl, hsz⟩ := okWide_struct Try.underlying27 hv
  obtain ⟨l⟩ := cs
  obtain ⟨fuel, hf⟩ := h
  obtain ⟨hl, n, hg⟩ := fld Try.underlying27 hf
  obtain ⟨u0, u1, u2, u3, u4, u5, u6, u7, u8, rfl⟩ := len9 (l := l) (hsz.trans cSpace)
  obtain ⟨_, h0⟩ := hg 0 _ rfl
  obtain ⟨_, h1⟩ := hg 1 _ rfl
  obtain ⟨_, h2⟩ := hg 2 _ rfl
  obtain ⟨_, h3⟩ := hg 3 _ rfl
  obtain ⟨y4, h4⟩ := hg 4 _ rfl
  obtain ⟨y5, h5⟩ := hg 5 _ rfl
  obtain ⟨p0, e0⟩ := rSpan h0
  obtain ⟨p1, e1⟩ := rSpan h1
  obtain ⟨p2, e2⟩ := rSpan h2
  obtain ⟨li, e3, _⟩ := rInt h3
  have h4' : DataW.trod enc Try.prog w base spare held n 24 [u7] = some y4 := by simpa [cSpans, Value.cells] using h4
  have h5' : DataW.trod enc Try.prog w base spare held n 25 [u8] = some y5 := by simpa [cTools, Value.cells] using h5
  obtain ⟨A, bl, c, rfl, hb1, hb2, hb3⟩ := rSpans h4'
  obtain ⟨T, tl, d, rfl, ht1, ht2, ht3, ht4⟩ := rTools h5'
  simp [cInt, cSpan, Value.cells] at e0 e1 e2 e3
  have := max63
  exact ⟨⟨p0.1, p0.2, p1.1, p1.2, p2.1, p2.2, li, bl, tl⟩, ⟨A, c, T, d⟩, by rw [e0.1, e0.2, e1.1, e1.2, e2.1, e2.2, e3], ⟨hb1, ht1, hb2, ht2, by show c ≤ _; omega, by show d ≤ _; omega, ht4⟩⟩
set_option maxRecDepth 100000 in
theorem open_u8x4 {r : Reach} {b0 : Nat} {v : Value} {d : DataW H} {p : List MemPlace} (hv : Value.okWide Try.prog w r b0 82 v) (h : DataW.Trod enc Try.prog w base spare held 82 v d p) :
    ∃ n0 n1 n2 n3 : Nat, v = .agg #[.int .u8 n0, .int .u8 n1, .int .u8 n2, .int .u8 n3] ∧ n0 ≤ 255 ∧ n1 ≤ 255 ∧ n2 ≤ 255 ∧ n3 ≤ 255 := by
  have hv' := hv
  simp only [Value.okWide, Try.underlying82] at hv'
  obtain ⟨cs, rfl, hsz, _⟩ := hv'
  obtain ⟨l⟩ := cs
  obtain ⟨fuel, hf⟩ := h
  obtain ⟨xs, m, _, _, _, hxl, hg⟩ := DataW.trod_array Try.underlying82 hf
  obtain ⟨u0, u1, u2, u3, rfl⟩ := len4 (l := l) (hsz.trans cByte4)
  obtain ⟨x0, x1, x2, x3, rfl⟩ := len4 hxl
  have h0 := hg 0 (by omega)
  have h1 := hg 1 (by omega)
  have h2 := hg 2 (by omega)
  have h3 := hg 3 (by omega)
  rw [cByte] at h0 h1 h2 h3
  obtain ⟨n0, e0, b0⟩ := rByte (x := x0) h0
  obtain ⟨n1, e1, b1⟩ := rByte (x := x1) h1
  obtain ⟨n2, e2, b2⟩ := rByte (x := x2) h2
  obtain ⟨n3, e3, b3⟩ := rByte (x := x3) h3
  simp [Value.cells] at e0 e1 e2 e3
  exact ⟨n0, n1, n2, n3, by rw [e0, e1, e2, e3], b0, b1, b2, b3⟩
end
end Td
end Go.Proofs.Ytmofbnadfgejiaa
/- How the second argument of GasTrue reads: the past. -/
namespace Go.Proofs.Ytmofbnadfgejiaa
open Go.ChangeShapes Go.WideShapes Go.ChangeAt Go.RowKit
namespace Td
set_option linter.unusedSimpArgs false
set_option linter.unusedVariables false
theorem cU16 : Try.prog.cellsOf 75 = 1 := by kernel_rfl
theorem cU16s : Try.prog.cellsOf 49 = 1 := by kernel_rfl
theorem cU8s : Try.prog.cellsOf 50 = 1 := by kernel_rfl
theorem cPast : Try.prog.cellsOf 52 = 4 := by kernel_rfl
section
variable {H : Type} {enc : TypeId × Value → H} {w : World} {base : Nat} {spare : Nat → Bool} {held : Bool}
theorem rU16 {fuel : Nat} {cs : List Value} {x : DataW H × List MemPlace} (h : DataW.trod enc Try.prog w base spare held fuel 75 cs = some x) : ∃ n : Int, cs = [.int .u16 n] ∧ 0 ≤ n ∧ n ≤ 65535 := by
  obtain ⟨n, h1, _, h2⟩ := DataW.trod_int Try.underlying75 h
  have := bounds_u16 h2
  exact ⟨n, h1, by omega, by omega⟩
theorem rU16s {fuel : Nat} {v : Value} {x : DataW H × List MemPlace} (h : DataW.trod enc Try.prog w base spare held fuel 49 [v] = some x) : ∃ P l c, v = .slice P (List.length l) c ∧ U16At w P l ∧ U16Ok l ∧ l.length ≤ maxLen := by
  rcases Go.Deep.open_slice Try.underlying49 h with ⟨h0, _⟩ | ⟨a, len, cap, m, n, D, Pl, h0, _, hlc, hcm, hm, _, hi⟩
  · obtain rfl : v = .slice none 0 0 := by simpa using h0
    exact ⟨none, [], 0, rfl, fun h => absurd rfl h, fun j h => by simp at h, by simp⟩
  · obtain rfl : v = .slice (some a) len cap := by simpa using h0
    have hlm : len ≤ m := by rw [hm]; split <;> omega
    have hex : ∀ i, ∃ t : Int, i < len → w.cell? (a.add i) = some (.int .u16 t) ∧ 0 ≤ t ∧ t ≤ 65535 := fun i => by
      by_cases hil : i < len
      · obtain ⟨cs', hc, ht⟩ := hi i (by omega)
        obtain ⟨t, rfl, t0, t1⟩ := rU16 ht
        rw [cU16] at hc
        obtain ⟨_, _, hat⟩ := World.cells?_some hc
        have e0 := hat 0 (by omega)
        rw [add_zero', Nat.mul_one] at e0
        exact ⟨t, fun _ => ⟨e0, t0, t1⟩⟩
      · exact ⟨0, fun h => absurd h hil⟩
    obtain ⟨f, hf⟩ : ∃ f : Nat → Int, ∀ i, i < len → w.cell? (a.add i) = some (.int .u16 (f i)) ∧ 0 ≤ f i ∧ f i ≤ 65535 := ⟨fun i => (hex i).choose, fun i hil => (hex i).choose_spec hil⟩
    refine ⟨some a, (List.range len).map f, cap, by simp, fun _ => ⟨a, rfl, fun i t hit => ?_⟩, fun j hj => ?_, by simp; omega⟩
    · rw [List.getElem?_map] at hit
      by_cases hil : i < len
      · rw [List.getElem?_range hil] at hit
        obtain rfl : f i = t := by simpa using hit
        exact (hf i hil).1
      · rw [List.getElem?_eq_none (by simp; omega)] at hit
        cases hit
    · have hjl : j < len := by simpa using hj
      simpa using (hf j hjl).2
theorem rU8s {fuel : Nat} {v : Value} {x : DataW H × List MemPlace} (h : DataW.trod enc Try.prog w base spare held fuel 50 [v] = some x) : ∃ P l c, v = .slice P (List.length l) c ∧ U8At w P l ∧ U8Ok l ∧ l.length ≤ maxLen := by
  rcases Go.Deep.open_slice Try.underlying50 h with ⟨h0, _⟩ | ⟨a, len, cap, m, n, D, Pl, h0, _, hlc, hcm, hm, _, hi⟩
  · obtain rfl : v = .slice none 0 0 := by simpa using h0
    exact ⟨none, [], 0, rfl, fun h => absurd rfl h, fun j h => by simp at h, by simp⟩
  · obtain rfl : v = .slice (some a) len cap := by simpa using h0
    have hlm : len ≤ m := by rw [hm]; split <;> omega
    have hex : ∀ i, ∃ t : Nat, i < len → w.cell? (a.add i) = some (.int .u8 t) ∧ t ≤ 255 := fun i => by
      by_cases hil : i < len
      · obtain ⟨cs', hc, ht⟩ := hi i (by omega)
        obtain ⟨t, rfl, t1⟩ := rByte ht
        rw [cByte] at hc
        obtain ⟨_, _, hat⟩ := World.cells?_some hc
        have e0 := hat 0 (by omega)
        rw [add_zero', Nat.mul_one] at e0
        exact ⟨t, fun _ => ⟨e0, t1⟩⟩
      · exact ⟨0, fun h => absurd h hil⟩
    obtain ⟨f, hf⟩ : ∃ f : Nat → Nat, ∀ i, i < len → w.cell? (a.add i) = some (.int .u8 (f i : Nat)) ∧ f i ≤ 255 := ⟨fun i => (hex i).choose, fun i hil => (hex i).choose_spec hil⟩
    refine ⟨some a, (List.range len).map (fun i => (f i : Int)), cap, by simp, fun _ => ⟨a, rfl, fun i t hit => ?_⟩, fun j hj => ?_, by simp; omega⟩
    · rw [List.getElem?_map] at hit
      by_cases hil : i < len
      · rw [List.getElem?_range hil] at hit
        obtain rfl : (f i : Int) = t := by simpa using hit
        exact (hf i hil).1
      · rw [List.getElem?_eq_none (by simp; omega)] at hit
        cases hit
    · have hjl : j < len := by simpa using hj
      have := (hf j hjl).2
      simp
      omega
set_option maxRecDepth 100000 in
theorem open_past {r : Reach} {b0 : Nat} {v : Value} {d : DataW H} {p : List MemPlace} (hv : Value.okWide Try.prog w r b0 52 v) (h : DataW.Trod enc Try.prog w base spare held 52 v d p) :
    ∃ (P : Option Addr) (X : List Int) (pc : Nat) (MA : Option Addr) (Mn : List Int) (mc : Nat) (WA : Option Addr) (Ws : List Int) (wc nw : Nat),
      v = .agg (pV P X pc MA Mn mc WA Ws wc nw) ∧ U16At w P X ∧ U16Ok X ∧ U8At w MA Mn ∧ U8Ok Mn ∧ U8At w WA Ws ∧ U8Ok Ws ∧ Mn.length ≤ maxLen ∧ Ws.length ≤ maxLen ∧ nw ≤ 255 := by
  obtain ⟨cs, rfl, hsz⟩ := okWide_struct Try.underlying52 hv
  obtain ⟨l⟩ := cs
  obtain ⟨fuel, hf⟩ := h
  obtain ⟨hl, n, hg⟩ := fld Try.underlying52 hf
  obtain ⟨u0, u1, u2, u3, rfl⟩ := len4 (l := l) (hsz.trans cPast)
  obtain ⟨y0, h0⟩ := hg 0 _ rfl
  obtain ⟨y1, h1⟩ := hg 1 _ rfl
  obtain ⟨y2, h2⟩ := hg 2 _ rfl
  obtain ⟨_, h3⟩ := hg 3 _ rfl
  have h0' : DataW.trod enc Try.prog w base spare held n 49 [u0] = some y0 := by simpa [cU16s, Value.cells] using h0
  have h1' : DataW.trod enc Try.prog w base spare held n 50 [u1] = some y1 := by simpa [cU8s, Value.cells] using h1
  have h2' : DataW.trod enc Try.prog w base spare held n 50 [u2] = some y2 := by simpa [cU8s, Value.cells] using h2
  obtain ⟨P, X, pc, rfl, hu, ho, _⟩ := rU16s h0'
  obtain ⟨MA, Mn, mc, rfl, hm, hmo, hM⟩ := rU8s h1'
  obtain ⟨WA, Ws, wc, rfl, hw, hwo, hWl⟩ := rU8s h2'
  obtain ⟨nw, e3, b3⟩ := rByte h3
  simp [cByte, Value.cells] at e3
  exact ⟨P, X, pc, MA, Mn, mc, WA, Ws, wc, nw, by rw [e3], hu, ho, hm, hmo, hw, hwo, hM, hWl, b3⟩
end
end Td
end Go.Proofs.Ytmofbnadfgejiaa
/- How further arguments read: readings, a byte, an int, two bytes, four ints. -/
namespace Go.Proofs.Ytmofbnadfgejiaa
open Go.ChangeShapes Go.WideShapes Go.ChangeAt Go.RowKit
namespace Td
set_option linter.unusedSimpArgs false
set_option linter.unusedVariables false
theorem cReads : Try.prog.cellsOf 28 = 1 := by kernel_rfl
theorem cInt4 : Try.prog.cellsOf 42 = 4 := by kernel_rfl
theorem cByte2 : Try.prog.cellsOf 63 = 2 := by kernel_rfl
section
variable {H : Type} {enc : TypeId × Value → H} {w : World} {base : Nat} {spare : Nat → Bool} {held : Bool}
set_option maxRecDepth 100000 in
theorem open_reads {r : Reach} {b0 : Nat} {v : Value} {d : DataW H} {p : List MemPlace} (hv : Value.okWide Try.prog w r b0 28 v) (h : DataW.Trod enc Try.prog w base spare held 28 v d p) :
    ∃ A l c, v = .slice A (List.length l) c ∧ RdAt w A l ∧ l.length ≤ c ∧ c ≤ 9223372036854775807 := by
  obtain ⟨a, len, cap, rfl⟩ := okWide_slice Try.underlying28 hv
  obtain ⟨fuel, hf⟩ := h
  obtain ⟨A, l, c, h1, h2, h3, h4⟩ := rReads (v := .slice a len cap) hf
  have := max63
  exact ⟨A, l, c, h1, h2, h3, by omega⟩
set_option maxRecDepth 100000 in
theorem open_u8 {r : Reach} {b0 : Nat} {v : Value} {d : DataW H} {p : List MemPlace} (hv : Value.okWide Try.prog w r b0 5 v) (h : DataW.Trod enc Try.prog w base spare held 5 v d p) :
    ∃ n : Nat, v = .int .u8 n ∧ n ≤ 255 := by
  obtain ⟨n, rfl⟩ := okWide_int Try.underlying5 hv
  obtain ⟨fuel, hf⟩ := h
  obtain ⟨k, h1, h2⟩ := rByte hf
  refine ⟨k, ?_, h2⟩
  simpa [Value.cells] using h1
set_option maxRecDepth 100000 in
theorem open_int {r : Reach} {b0 : Nat} {v : Value} (hv : Value.okWide Try.prog w r b0 3 v) : ∃ n : Int, v = .int .i64 n := okWide_int Try.underlying3 hv
set_option maxRecDepth 100000 in
theorem open_int4 {r : Reach} {b0 : Nat} {v : Value} {d : DataW H} {p : List MemPlace} (hv : Value.okWide Try.prog w r b0 42 v) (h : DataW.Trod enc Try.prog w base spare held 42 v d p) :
    ∃ n0 n1 n2 n3 : Int, v = .agg #[.int .i64 n0, .int .i64 n1, .int .i64 n2, .int .i64 n3] := by
  have hv' := hv
  simp only [Value.okWide, Try.underlying42] at hv'
  obtain ⟨cs, rfl, hsz, _⟩ := hv'
  obtain ⟨l⟩ := cs
  obtain ⟨fuel, hf⟩ := h
  obtain ⟨xs, m, _, _, _, hxl, hg⟩ := DataW.trod_array Try.underlying42 hf
  obtain ⟨u0, u1, u2, u3, rfl⟩ := len4 (l := l) (hsz.trans cInt4)
  obtain ⟨x0, x1, x2, x3, rfl⟩ := len4 hxl
  have h0 := hg 0 (by omega)
  have h1 := hg 1 (by omega)
  have h2 := hg 2 (by omega)
  have h3 := hg 3 (by omega)
  rw [cInt] at h0 h1 h2 h3
  obtain ⟨n0, e0, _⟩ := rInt (x := x0) h0
  obtain ⟨n1, e1, _⟩ := rInt (x := x1) h1
  obtain ⟨n2, e2, _⟩ := rInt (x := x2) h2
  obtain ⟨n3, e3, _⟩ := rInt (x := x3) h3
  simp [Value.cells] at e0 e1 e2 e3
  exact ⟨n0, n1, n2, n3, by rw [e0, e1, e2, e3]⟩
set_option maxRecDepth 100000 in
theorem open_u8x2 {r : Reach} {b0 : Nat} {v : Value} {d : DataW H} {p : List MemPlace} (hv : Value.okWide Try.prog w r b0 63 v) (h : DataW.Trod enc Try.prog w base spare held 63 v d p) :
    ∃ n0 n1 : Nat, v = .agg #[.int .u8 n0, .int .u8 n1] ∧ n0 ≤ 255 ∧ n1 ≤ 255 := by
  have hv' := hv
  simp only [Value.okWide, Try.underlying63] at hv'
  obtain ⟨cs, rfl, hsz, _⟩ := hv'
  obtain ⟨l⟩ := cs
  obtain ⟨fuel, hf⟩ := h
  obtain ⟨xs, m, _, _, _, hxl, hg⟩ := DataW.trod_array Try.underlying63 hf
  obtain ⟨u0, u1, rfl⟩ := len2 (l := l) (hsz.trans cByte2)
  obtain ⟨x0, x1, rfl⟩ := len2 hxl
  have h0 := hg 0 (by omega)
  have h1 := hg 1 (by omega)
  rw [cByte] at h0 h1
  obtain ⟨n0, e0, b0⟩ := rByte (x := x0) h0
  obtain ⟨n1, e1, b1⟩ := rByte (x := x1) h1
  simp [Value.cells] at e0 e1
  exact ⟨n0, n1, by rw [e0, e1], b0, b1⟩
end
end Td
end Go.Proofs.Ytmofbnadfgejiaa
