import Derived.Test.YtccacinnelmnpaaOpenG
import Derived.Test.YtccacinnelmnpaaLrdW
/- How the second argument of GasTrue reads: the past. -/
namespace Go.Proofs.Ytccacinnelmnpaa
open Go.ChangeShapes Go.WideShapes Go.ChangeAt Go.RowKit
namespace Td
set_option linter.unusedSimpArgs false
set_option linter.unusedVariables false
theorem cU16 : Try.prog.cellsOf 75 = 1 := by kernel_rfl
theorem cU16s : Try.prog.cellsOf 49 = 1 := by kernel_rfl
theorem cU8s : Try.prog.cellsOf 50 = 1 := by kernel_rfl
theorem cPast : Try.prog.cellsOf 52 = 4 := by kernel_rfl
section
variable {H : Type} {enc : TypeId × Value → H} {w : World} {base : Nat} {spare : Nat → Bool} {held : Bool}
theorem rU16 {fuel : Nat} {cs : List Value} {x : DataW H × List MemPlace} (h : DataW.trod enc Try.prog w base spare held fuel 75 cs = some x) : ∃ n : Int, cs = [.int .u16 n] ∧ 0 ≤ n ∧ n ≤ 65535 := by
  obtain ⟨n, h1, _, h2⟩ := DataW.trod_int Try.underlying75 h
  have := bounds_u16 h2
  exact ⟨n, h1, by omega, by omega⟩
theorem rU16s {fuel : Nat} {v : Value} {x : DataW H × List MemPlace} (h : DataW.trod enc Try.prog w base spare held fuel 49 [v] = some x) : ∃ P l c, v = .slice P (List.length l) c ∧ U16At w P l ∧ U16Ok l ∧ l.length ≤ maxLen := by
  rcases Go.Deep.open_slice Try.underlying49 h with ⟨h0, _⟩ | ⟨a, len, cap, m, n, D, Pl, h0, _, hlc, hcm, hm, _, hi⟩
  · obtain rfl : v = .slice none 0 0 := by simpa using h0
    exact ⟨none, [], 0, rfl, fun h => absurd rfl h, fun j h => by simp at h, by simp⟩
  · obtain rfl : v = .slice (some a) len cap := by simpa using h0
    have hlm : len ≤ m := by rw [hm]; split <;> omega
    have hex : ∀ i, ∃ t : Int, i < len → w.cell? (a.add i) = some (.int .u16 t) ∧ 0 ≤ t ∧ t ≤ 65535 := fun i => by
      by_cases hil : i < len
      · obtain ⟨cs', hc, ht⟩ := hi i (by omega)
        obtain ⟨t, rfl, t0, t1⟩ := rU16 ht
        rw [cU16] at hc
        obtain ⟨_, _, hat⟩ := World.cells?_some hc
        have e0 := hat 0 (by omega)
        rw [add_zero', Nat.mul_one] at e0
        exact ⟨t, fun _ => ⟨e0, t0, t1⟩⟩
      · exact ⟨0, fun h => absurd h hil⟩
    obtain ⟨f, hf⟩ : ∃ f : Nat → Int, ∀ i, i < len → w.cell? (a.add i) = some (.int .u16 (f i)) ∧ 0 ≤ f i ∧ f i ≤ 65535 := ⟨fun i => (hex i).choose, fun i hil => (hex i).choose_spec hil⟩
    refine ⟨some a, (List.range len).map f, cap, by simp, fun _ => ⟨a, rfl, fun i t hit => ?_⟩, fun j hj => ?_, by simp; omega⟩
    · rw [List.getElem?_map] at hit
      by_cases hil : i < len
      · rw [List.getElem?_range hil] at hit
        obtain rfl : f i = t := by simpa using hit
        exact (hf i hil).1
      · rw [List.getElem?_eq_none (by simp; omega)] at hit
        cases hit
    · have hjl : j < len := by simpa using hj
      simpa using (hf j hjl).2
theorem rU8s {fuel : Nat} {v : Value} {x : DataW H × List MemPlace} (h : DataW.trod enc Try.prog w base spare held fuel 50 [v] = some x) : ∃ P l c, v = .slice P (List.length l) c ∧ U8At w P l ∧ U8Ok l ∧ l.length ≤ maxLen := by
  rcases Go.Deep.open_slice Try.underlying50 h with ⟨h0, _⟩ | ⟨a, len, cap, m, n, D, Pl, h0, _, hlc, hcm, hm, _, hi⟩
  · obtain rfl : v = .slice none 0 0 := by simpa using h0
    exact ⟨none, [], 0, rfl, fun h => absurd rfl h, fun j h => by simp at h, by simp⟩
  · obtain rfl : v = .slice (some a) len cap := by simpa using h0
    have hlm : len ≤ m := by rw [hm]; split <;> omega
    have hex : ∀ i, ∃ t : Nat, i < len → w.cell? (a.add i) = some (.int .u8 t) ∧ t ≤ 255 := fun i => by
      by_cases hil : i < len
      · obtain ⟨cs', hc, ht⟩ := hi i (by omega)
        obtain ⟨t, rfl, t1⟩ := rByte ht
        rw [cByte] at hc
        obtain ⟨_, _, hat⟩ := World.cells?_some hc
        have e0 := hat 0 (by omega)
        rw [add_zero', Nat.mul_one] at e0
        exact ⟨t, fun _ => ⟨e0, t1⟩⟩
      · exact ⟨0, fun h => absurd h hil⟩
    obtain ⟨f, hf⟩ : ∃ f : Nat → Nat, ∀ i, i < len → w.cell? (a.add i) = some (.int .u8 (f i : Nat)) ∧ f i ≤ 255 := ⟨fun i => (hex i).choose, fun i hil => (hex i).choose_spec hil⟩
    refine ⟨some a, (List.range len).map (fun i => (f i : Int)), cap, by simp, fun _ => ⟨a, rfl, fun i t hit => ?_⟩, fun j hj => ?_, by simp; omega⟩
    · rw [List.getElem?_map] at hit
      by_cases hil : i < len
      · rw [List.getElem?_range hil] at hit
        obtain rfl : (f i : Int) = t := by simpa using hit
        exact (hf i hil).1
      · rw [List.getElem?_eq_none (by simp; omega)] at hit
        cases hit
    · have hjl : j < len := by simpa using hj
      have := (hf j hjl).2
      simp
      omega
set_option maxRecDepth 100000 in
theorem open_past {r : Reach} {b0 : Nat} {v : Value} {d : DataW H} {p : List MemPlace} (hv : Value.okWide Try.prog w r b0 52 v) (h : DataW.Trod enc Try.prog w base spare held 52 v d p) :
    ∃ (P : Option Addr) (X : List Int) (pc : Nat) (MA : Option Addr) (Mn : List Int) (mc : Nat) (WA : Option Addr) (Ws : List Int) (wc nw : Nat),
      v = .agg (pV P X pc MA Mn mc WA Ws wc nw) ∧ U16At w P X ∧ U16Ok X ∧ U8At w MA Mn ∧ U8Ok Mn ∧ U8At w WA Ws ∧ U8Ok Ws ∧ Mn.length ≤ maxLen ∧ Ws.length ≤ maxLen ∧ nw ≤ 255 := by
  obtain ⟨cs, rfl, hsz⟩ := okWide_struct Try.underlying52 hv
  obtain ⟨l⟩ := cs
  obtain ⟨fuel, hf⟩ := h
  obtain ⟨hl, n, hg⟩ := fld Try.underlying52 hf
  obtain ⟨u0, u1, u2, u3, rfl⟩ := len4 (l := l) (hsz.trans cPast)
  obtain ⟨y0, h0⟩ := hg 0 _ rfl
  obtain ⟨y1, h1⟩ := hg 1 _ rfl
  obtain ⟨y2, h2⟩ := hg 2 _ rfl
  obtain ⟨_, h3⟩ := hg 3 _ rfl
  have h0' : DataW.trod enc Try.prog w base spare held n 49 [u0] = some y0 := by simpa [cU16s, Value.cells] using h0
  have h1' : DataW.trod enc Try.prog w base spare held n 50 [u1] = some y1 := by simpa [cU8s, Value.cells] using h1
  have h2' : DataW.trod enc Try.prog w base spare held n 50 [u2] = some y2 := by simpa [cU8s, Value.cells] using h2
  obtain ⟨P, X, pc, rfl, hu, ho, _⟩ := rU16s h0'
  obtain ⟨MA, Mn, mc, rfl, hm, hmo, hM⟩ := rU8s h1'
  obtain ⟨WA, Ws, wc, rfl, hw, hwo, hWl⟩ := rU8s h2'
  obtain ⟨nw, e3, b3⟩ := rByte h3
  simp [cByte, Value.cells] at e3
  exact ⟨P, X, pc, MA, Mn, mc, WA, Ws, wc, nw, by rw [e3], hu, ho, hm, hmo, hw, hwo, hM, hWl, b3⟩
end
end Td
end Go.Proofs.Ytccacinnelmnpaa
