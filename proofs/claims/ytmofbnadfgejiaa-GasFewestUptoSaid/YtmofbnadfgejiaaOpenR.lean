import Derived.Test.YtmofbnadfgejiaaOpens
import Derived.Test.YtmofbnadfgejiaaOpenJ
/- How a round of readings reads (GasFewest's argument). -/
namespace Go.Proofs.Ytmofbnadfgejiaa
open Go.ChangeShapes Go.WideShapes Go.ChangeAt Go.RowKit
namespace Td
set_option linter.unusedSimpArgs false
set_option linter.unusedVariables false
theorem cI16 : Try.prog.cellsOf 72 = 1 := by kernel_rfl
theorem cRound : Try.prog.cellsOf 74 = 7 := by kernel_rfl
theorem len7 {α : Type} {l : List α} (h : l.length = 7) : ∃ u0 u1 u2 u3 u4 u5 u6, l = [u0, u1, u2, u3, u4, u5, u6] := by
  match l, h with
  | [u0, u1, u2, u3, u4, u5, u6], _ => exact ⟨u0, u1, u2, u3, u4, u5, u6, rfl⟩
/-- a round of readings. -/
def rrV (a : Nat) (sh : Int) (f t : Nat) (OA : Option Addr) (Ot : List Int) (oc : Nat) (LA : Option Addr) (Lo : List Int) (lc : Nat) (P : Option Addr) (X : List Int) (pc : Nat) : Array Value :=
  #[.int .u8 a, .int .i16 sh, .int .u8 f, .int .u8 t, .slice OA Ot.length oc, .slice LA Lo.length lc, .slice P X.length pc]
section
variable {H : Type} {enc : TypeId × Value → H} {w : World} {base : Nat} {spare : Nat → Bool} {held : Bool}
theorem rI16 {fuel : Nat} {cs : List Value} {x : DataW H × List MemPlace} (h : DataW.trod enc Try.prog w base spare held fuel 72 cs = some x) : ∃ n : Int, cs = [.int .i16 n] ∧ -32768 ≤ n ∧ n ≤ 32767 := by
  obtain ⟨n, h1, _, h2⟩ := DataW.trod_int Try.underlying72 h
  refine ⟨n, h1, ?_⟩
  simp [Lit.wf, IntKind.min, IntKind.max, IntKind.signed, IntKind.bits] at h2
  omega
set_option maxRecDepth 100000 in
theorem open_round {r : Reach} {b0 : Nat} {v : Value} {d : DataW H} {p : List MemPlace} (hv : Value.okWide Try.prog w r b0 74 v) (h : DataW.Trod enc Try.prog w base spare held 74 v d p) :
    ∃ (a : Nat) (sh : Int) (f t : Nat) (OA : Option Addr) (Ot : List Int) (oc : Nat) (LA : Option Addr) (Lo : List Int) (lc : Nat) (P : Option Addr) (X : List Int) (pc : Nat),
      v = .agg (rrV a sh f t OA Ot oc LA Lo lc P X pc) ∧ a ≤ 255 ∧ (-32768 ≤ sh ∧ sh ≤ 32767) ∧ f ≤ 255 ∧ t ≤ 255 ∧ U8At w OA Ot ∧ U8Ok Ot ∧ Ot.length ≤ maxLen ∧ U8At w LA Lo ∧ U8Ok Lo ∧ Lo.length ≤ maxLen ∧ U16At w P X ∧ U16Ok X := by
  obtain ⟨cs, rfl, hsz⟩ := okWide_struct Try.underlying74 hv
  obtain ⟨l⟩ := cs
  obtain ⟨fuel, hf⟩ := h
  obtain ⟨hl, n, hg⟩ := fld Try.underlying74 hf
  obtain ⟨u0, u1, u2, u3, u4, u5, u6, rfl⟩ := len7 (l := l) (hsz.trans cRound)
  obtain ⟨_, h0⟩ := hg 0 _ rfl
  obtain ⟨_, h1⟩ := hg 1 _ rfl
  obtain ⟨_, h2⟩ := hg 2 _ rfl
  obtain ⟨_, h3⟩ := hg 3 _ rfl
  obtain ⟨y4, h4⟩ := hg 4 _ rfl
  obtain ⟨y5, h5⟩ := hg 5 _ rfl
  obtain ⟨y6, h6⟩ := hg 6 _ rfl
  obtain ⟨a, e0, b0⟩ := rByte h0
  obtain ⟨sh, e1, b1⟩ := rI16 h1
  obtain ⟨f, e2, b2⟩ := rByte h2
  obtain ⟨t, e3, b3⟩ := rByte h3
  have h4' : DataW.trod enc Try.prog w base spare held n 50 [u4] = some y4 := by simpa [cByte, cI16, cU8s, Value.cells] using h4
  have h5' : DataW.trod enc Try.prog w base spare held n 50 [u5] = some y5 := by simpa [cByte, cI16, cU8s, Value.cells] using h5
  have h6' : DataW.trod enc Try.prog w base spare held n 49 [u6] = some y6 := by simpa [cByte, cI16, cU8s, cU16s, Value.cells] using h6
  obtain ⟨OA, Ot, oc, rfl, ho1, ho2, ho3⟩ := rU8s h4'
  obtain ⟨LA, Lo, lc, rfl, hl1, hl2, hl3⟩ := rU8s h5'
  obtain ⟨P, X, pc, rfl, hu, ho, _⟩ := rU16s h6'
  simp [cByte, cI16, Value.cells] at e0 e1 e2 e3
  exact ⟨a, sh, f, t, OA, Ot, oc, LA, Lo, lc, P, X, pc, by rw [e0, e1, e2, e3]; rfl, b0, b1, b2, b3, ho1, ho2, ho3, hl1, hl2, hl3, hu, ho⟩
end
end Td
end Go.Proofs.Ytmofbnadfgejiaa
