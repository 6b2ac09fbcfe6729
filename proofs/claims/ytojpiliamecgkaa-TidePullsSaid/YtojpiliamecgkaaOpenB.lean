import Derived.Test.YtojpiliamecgkaaOpen
import Derived.Test.YtojpiliamecgkaaLawB
import Derived.OpenShut
/- How the third arguments of the statements read. -/
namespace Go.Proofs.Ytojpiliamecgkaa
open Go.ChangeShapes Go.WideShapes Go.ChangeAt Go.RowKit
namespace Td
set_option linter.unusedSimpArgs false
set_option linter.unusedVariables false
theorem ownB : ownKnob Try.prog.godebug = none := by kernel_rfl
theorem laidOutB' : laidOutB Try.prog = true := by kernel_rfl
section
variable {H : Type} {enc : TypeId × Value → H} {w : World} {base : Nat} {spare : Nat → Bool} {held : Bool}
theorem rByte {fuel : Nat} {cs : List Value} {x : DataW H × List MemPlace} (h : DataW.trod enc Try.prog w base spare held fuel 5 cs = some x) : ∃ n : Nat, cs = [.int .u8 n] ∧ n ≤ 255 := by
  obtain ⟨n, h1, _, h2⟩ := DataW.trod_int Try.underlying5 h
  have := bounds_u8 h2
  exact ⟨n.toNat, by rw [h1]; congr 2; omega, by omega⟩
theorem rU16 {fuel : Nat} {cs : List Value} {x : DataW H × List MemPlace} (h : DataW.trod enc Try.prog w base spare held fuel 72 cs = some x) : ∃ n : Int, cs = [.int .u16 n] ∧ 0 ≤ n ∧ n ≤ 65535 := by
  obtain ⟨n, h1, _, h2⟩ := DataW.trod_int Try.underlying72 h
  have := bounds_u16 h2
  exact ⟨n, h1, by omega, by omega⟩
theorem rI32 {fuel : Nat} {cs : List Value} {x : DataW H × List MemPlace} (h : DataW.trod enc Try.prog w base spare held fuel 21 cs = some x) : ∃ n : Int, cs = [.int .i32 n] ∧ -2147483648 ≤ n ∧ n ≤ 2147483647 := by
  obtain ⟨n, h1, _, h2⟩ := DataW.trod_int Try.underlying21 h
  have := bounds_i32 h2
  exact ⟨n, h1, by omega, by omega⟩
theorem cByte : Try.prog.cellsOf 5 = 1 := by kernel_rfl
theorem cU16 : Try.prog.cellsOf 72 = 1 := by kernel_rfl
theorem cI32 : Try.prog.cellsOf 21 = 1 := by kernel_rfl
theorem cU16s : Try.prog.cellsOf 59 = 1 := by kernel_rfl
theorem cAsked : Try.prog.cellsOf 61 = 3 := by kernel_rfl
theorem cPulled : Try.prog.cellsOf 76 = 3 := by kernel_rfl
theorem cMore : Try.prog.cellsOf 81 = 3 := by kernel_rfl
theorem cVoyage : Try.prog.cellsOf 52 = 4 := by kernel_rfl
theorem cInt2 : Try.prog.cellsOf 29 = 2 := by kernel_rfl
theorem cU16x4 : Try.prog.cellsOf 73 = 4 := by kernel_rfl
theorem len4 {α : Type} {l : List α} (h : l.length = 4) : ∃ u0 u1 u2 u3, l = [u0, u1, u2, u3] := by
  match l, h with
  | [u0, u1, u2, u3], _ => exact ⟨u0, u1, u2, u3, rfl⟩
theorem rU16s {fuel : Nat} {v : Value} {x : DataW H × List MemPlace} (h : DataW.trod enc Try.prog w base spare held fuel 59 [v] = some x) : ∃ P l c, v = .slice P (List.length l) c ∧ U16At w P l ∧ U16Ok l := by
  rcases Go.Deep.open_slice Try.underlying59 h with ⟨h0, _⟩ | ⟨a, len, cap, m, n, D, Pl, h0, _, hlc, hcm, hm, _, hi⟩
  · obtain rfl : v = .slice none 0 0 := by simpa using h0
    exact ⟨none, [], 0, rfl, fun h => absurd rfl h, fun j h => by simp at h⟩
  · obtain rfl : v = .slice (some a) len cap := by simpa using h0
    have hlm : len ≤ m := by rw [hm]; split <;> omega
    have hex : ∀ i, ∃ t : Int, i < len → w.cell? (a.add i) = some (.int .u16 t) ∧ 0 ≤ t ∧ t ≤ 65535 := fun i => by
      by_cases hil : i < len
      · obtain ⟨cs', hc, ht⟩ := hi i (by omega)
        obtain ⟨t, rfl, t0, t1⟩ := rU16 ht
        rw [cU16] at hc
        obtain ⟨_, _, hat⟩ := World.cells?_some hc
        have e0 := hat 0 (by omega)
        rw [add_zero', Nat.mul_one] at e0
        exact ⟨t, fun _ => ⟨e0, t0, t1⟩⟩
      · exact ⟨0, fun h => absurd h hil⟩
    obtain ⟨f, hf⟩ : ∃ f : Nat → Int, ∀ i, i < len → w.cell? (a.add i) = some (.int .u16 (f i)) ∧ 0 ≤ f i ∧ f i ≤ 65535 := ⟨fun i => (hex i).choose, fun i hil => (hex i).choose_spec hil⟩
    refine ⟨some a, (List.range len).map f, cap, by simp, fun _ => ⟨a, rfl, fun i t hit => ?_⟩, fun j hj => ?_⟩
    · rw [List.getElem?_map] at hit
      by_cases hil : i < len
      · rw [List.getElem?_range hil] at hit
        obtain rfl : f i = t := by simpa using hit
        exact (hf i hil).1
      · rw [List.getElem?_eq_none (by simp; omega)] at hit
        cases hit
    · have hjl : j < len := by simpa using hj
      simpa using (hf j hjl).2
set_option maxRecDepth 100000 in
theorem open_asked {r : Reach} {b0 : Nat} {v : Value} {d : DataW H} {p : List MemPlace} (hv : Value.okWide Try.prog w r b0 61 v) (h : DataW.Trod enc Try.prog w base spare held 61 v d p) :
    ∃ (n0 n1 : Nat) (P : Option Addr) (l : List Int) (c : Nat), v = .agg #[.int .u8 n0, .int .u8 n1, .slice P l.length c] ∧ n0 ≤ 255 ∧ n1 ≤ 255 ∧ U16At w P l ∧ U16Ok l := by
  obtain ⟨cs, rfl, hsz⟩ := okWide_struct Try.underlying61 hv
  obtain ⟨l⟩ := cs
  obtain ⟨fuel, hf⟩ := h
  obtain ⟨hl, n, hg⟩ := fld Try.underlying61 hf
  obtain ⟨u0, u1, u2, rfl⟩ := len3 (l := l) (hsz.trans cAsked)
  obtain ⟨_, h0⟩ := hg 0 _ rfl
  obtain ⟨_, h1⟩ := hg 1 _ rfl
  obtain ⟨y2, h2⟩ := hg 2 _ rfl
  obtain ⟨n0, e0, b0⟩ := rByte h0
  obtain ⟨n1, e1, b1⟩ := rByte h1
  have h2' : DataW.trod enc Try.prog w base spare held n 59 [u2] = some y2 := by simpa [cU16s, Value.cells] using h2
  obtain ⟨P, l, c, rfl, hu, ho⟩ := rU16s h2'
  simp [cByte, Value.cells] at e0 e1
  exact ⟨n0, n1, P, l, c, by rw [e0, e1], b0, b1, hu, ho⟩
set_option maxRecDepth 100000 in
theorem open_pulled {r : Reach} {b0 : Nat} {v : Value} {d : DataW H} {p : List MemPlace} (hv : Value.okWide Try.prog w r b0 76 v) (h : DataW.Trod enc Try.prog w base spare held 76 v d p) :
    ∃ (P : Option Addr) (l : List Int) (c : Nat) (P2 : Option Addr) (l2 : List Int) (c2 : Nat) (g : Int), v = .agg #[.slice P l.length c, .slice P2 l2.length c2, .int .i32 g] ∧ -2147483648 ≤ g ∧ g ≤ 2147483647 ∧ U16At w P l ∧ U16Ok l ∧ U16At w P2 l2 ∧ U16Ok l2 := by
  obtain ⟨cs, rfl, hsz⟩ := okWide_struct Try.underlying76 hv
  obtain ⟨l⟩ := cs
  obtain ⟨fuel, hf⟩ := h
  obtain ⟨hl, n, hg⟩ := fld Try.underlying76 hf
  obtain ⟨u0, u1, u2, rfl⟩ := len3 (l := l) (hsz.trans cPulled)
  obtain ⟨y0, h0⟩ := hg 0 _ rfl
  obtain ⟨y1, h1⟩ := hg 1 _ rfl
  obtain ⟨_, h2⟩ := hg 2 _ rfl
  have h0' : DataW.trod enc Try.prog w base spare held n 59 [u0] = some y0 := by simpa [cU16s, Value.cells] using h0
  have h1' : DataW.trod enc Try.prog w base spare held n 59 [u1] = some y1 := by simpa [cU16s, Value.cells] using h1
  obtain ⟨P, l, c, rfl, hu, ho⟩ := rU16s h0'
  obtain ⟨P2, l2, c2, rfl, hu2, ho2⟩ := rU16s h1'
  obtain ⟨g, e2, b2⟩ := rI32 h2
  simp [cI32, Value.cells] at e2
  exact ⟨P, l, c, P2, l2, c2, g, by rw [e2], b2.1, b2.2, hu, ho, hu2, ho2⟩
set_option maxRecDepth 100000 in
theorem open_more {r : Reach} {b0 : Nat} {v : Value} {d : DataW H} {p : List MemPlace} (hv : Value.okWide Try.prog w r b0 81 v) (h : DataW.Trod enc Try.prog w base spare held 81 v d p) :
    ∃ (P : Option Addr) (l : List Int) (c n0 n1 : Nat), v = .agg #[.slice P l.length c, .int .u8 n0, .int .u8 n1] ∧ n0 ≤ 255 ∧ n1 ≤ 255 ∧ U16At w P l ∧ U16Ok l := by
  obtain ⟨cs, rfl, hsz⟩ := okWide_struct Try.underlying81 hv
  obtain ⟨l⟩ := cs
  obtain ⟨fuel, hf⟩ := h
  obtain ⟨hl, n, hg⟩ := fld Try.underlying81 hf
  obtain ⟨u0, u1, u2, rfl⟩ := len3 (l := l) (hsz.trans cMore)
  obtain ⟨y0, h0⟩ := hg 0 _ rfl
  obtain ⟨_, h1⟩ := hg 1 _ rfl
  obtain ⟨_, h2⟩ := hg 2 _ rfl
  have h0' : DataW.trod enc Try.prog w base spare held n 59 [u0] = some y0 := by simpa [cU16s, Value.cells] using h0
  obtain ⟨P, l, c, rfl, hu, ho⟩ := rU16s h0'
  obtain ⟨n0, e0, b0⟩ := rByte h1
  obtain ⟨n1, e1, b1⟩ := rByte h2
  simp [cByte, Value.cells] at e0 e1
  exact ⟨P, l, c, n0, n1, by rw [e0, e1], b0, b1, hu, ho⟩
set_option maxRecDepth 100000 in
theorem open_voyage {r : Reach} {b0 : Nat} {v : Value} {d : DataW H} {p : List MemPlace} (hv : Value.okWide Try.prog w r b0 52 v) (h : DataW.Trod enc Try.prog w base spare held 52 v d p) :
    ∃ (run : Pul) (P : Option Addr) (ps : List Pul) (c : Nat) (g : Int), v = .agg #[.int .i64 run.tide, .int .i64 run.bal, .slice P ps.length c, .int .i64 g] ∧ PuAt w P ps := by
  obtain ⟨cs, rfl, hsz⟩ := okWide_struct Try.underlying52 hv
  obtain ⟨l⟩ := cs
  obtain ⟨fuel, hf⟩ := h
  obtain ⟨hl, n, hg⟩ := fld Try.underlying52 hf
  obtain ⟨u0, u1, u2, u3, rfl⟩ := len4 (l := l) (hsz.trans cVoyage)
  obtain ⟨y0, h0⟩ := hg 0 _ rfl
  obtain ⟨y1, h1⟩ := hg 1 _ rfl
  obtain ⟨_, h2⟩ := hg 2 _ rfl
  have h0' : DataW.trod enc Try.prog w base spare held n 49 [u0, u1] = some y0 := by simpa [cPull, Value.cells] using h0
  have h1' : DataW.trod enc Try.prog w base spare held n 50 [u2] = some y1 := by simpa [cPulls, Value.cells] using h1
  obtain ⟨run, e0⟩ := rPull h0'
  obtain ⟨P, ps, c, rfl, hu, _⟩ := rPulls h1'
  obtain ⟨g, e2, _⟩ := rInt h2
  simp [cInt, Value.cells] at e0 e2
  exact ⟨run, P, ps, c, g, by rw [e0.1, e0.2, e2], hu⟩
set_option maxRecDepth 100000 in
theorem open_int2 {r : Reach} {b0 : Nat} {v : Value} {d : DataW H} {p : List MemPlace} (hv : Value.okWide Try.prog w r b0 29 v) (h : DataW.Trod enc Try.prog w base spare held 29 v d p) :
    ∃ n0 n1 : Int, v = .agg #[.int .i64 n0, .int .i64 n1] := by
  have hv' := hv
  simp only [Value.okWide, Try.underlying29] at hv'
  obtain ⟨cs, rfl, hsz, _⟩ := hv'
  obtain ⟨l⟩ := cs
  obtain ⟨fuel, hf⟩ := h
  obtain ⟨xs, m, _, _, _, hxl, hg⟩ := DataW.trod_array Try.underlying29 hf
  obtain ⟨u0, u1, rfl⟩ := len2 (l := l) (hsz.trans cInt2)
  obtain ⟨x0, x1, rfl⟩ := len2 hxl
  have h0 := hg 0 (by omega)
  have h1 := hg 1 (by omega)
  rw [cInt] at h0 h1
  obtain ⟨n0, e0, _⟩ := rInt (x := x0) h0
  obtain ⟨n1, e1, _⟩ := rInt (x := x1) h1
  simp [Value.cells] at e0 e1
  exact ⟨n0, n1, by rw [e0, e1]⟩
set_option maxRecDepth 100000 in
theorem open_u16x4 {r : Reach} {b0 : Nat} {v : Value} {d : DataW H} {p : List MemPlace} (hv : Value.okWide Try.prog w r b0 73 v) (h : DataW.Trod enc Try.prog w base spare held 73 v d p) :
    ∃ n0 n1 n2 n3 : Int, v = .agg #[.int .u16 n0, .int .u16 n1, .int .u16 n2, .int .u16 n3] ∧ (0 ≤ n0 ∧ n0 ≤ 65535) ∧ (0 ≤ n1 ∧ n1 ≤ 65535) ∧ (0 ≤ n2 ∧ n2 ≤ 65535) ∧ (0 ≤ n3 ∧ n3 ≤ 65535) := by
  have hv' := hv
  simp only [Value.okWide, Try.underlying73] at hv'
  obtain ⟨cs, rfl, hsz, _⟩ := hv'
  obtain ⟨l⟩ := cs
  obtain ⟨fuel, hf⟩ := h
  obtain ⟨xs, m, _, _, _, hxl, hg⟩ := DataW.trod_array Try.underlying73 hf
  obtain ⟨u0, u1, u2, u3, rfl⟩ := len4 (l := l) (hsz.trans cU16x4)
  obtain ⟨x0, x1, x2, x3, rfl⟩ := len4 hxl
  have h0 := hg 0 (by omega)
  have h1 := hg 1 (by omega)
  have h2 := hg 2 (by omega)
  have h3 := hg 3 (by omega)
  rw [cU16] at h0 h1 h2 h3
  obtain ⟨n0, e0, b0⟩ := rU16 (x := x0) h0
  obtain ⟨n1, e1, b1⟩ := rU16 (x := x1) h1
  obtain ⟨n2, e2, b2⟩ := rU16 (x := x2) h2
  obtain ⟨n3, e3, b3⟩ := rU16 (x := x3) h3
  simp [Value.cells] at e0 e1 e2 e3
  exact ⟨n0, n1, n2, n3, by rw [e0, e1, e2, e3], b0, b1, b2, b3⟩
end
end Td
end Go.Proofs.Ytojpiliamecgkaa
