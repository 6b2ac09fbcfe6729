import Derived.Test.YtmofbnadfgejiaaOpenR
/- How much a round of readings bears. -/
namespace Go.Proofs.Ytmofbnadfgejiaa
open Go.ChangeShapes Go.WideShapes Go.ChangeAt Go.RowKit
namespace Td
set_option linter.unusedSimpArgs false
set_option linter.unusedVariables false
theorem bulk_mem {H : Type} {d : DataW H} : ∀ {l : List (DataW H)}, d ∈ l → Rows.uptoBulk d ≤ Rows.uptoBulkAll l
  | [], h => by cases h
  | x :: r, h => by
    simp only [Rows.uptoBulkAll]
    rcases List.mem_cons.1 h with rfl | h
    · omega
    · have := bulk_mem h; omega
section
variable {H : Type} {enc : TypeId × Value → H} {w : World} {base : Nat} {spare : Nat → Bool} {held : Bool}
theorem u8s_bulk {A : Option Addr} {n c fuel : Nat} {x : DataW H × List MemPlace} (h : DataW.trod enc Try.prog w base spare held fuel 50 [.slice A n c] = some x) : n ≤ Rows.uptoBulk x.1 := by
  rcases Go.Deep.open_slice Try.underlying50 h with ⟨h0, _⟩ | ⟨a, len, cap, m, k, D, Pl, h0, _, _, _, _, hx, _⟩
  · have h1 : Value.slice A n c = .slice none 0 0 := by simpa [Value.cells] using h0
    cases h1
    omega
  · have h1 : Value.slice A n c = .slice (some a) len cap := by simpa [Value.cells] using h0
    cases h1
    subst hx
    have := bulk_len ((List.range n).map D)
    rw [List.length_map, List.length_range] at this
    simp only [Rows.uptoBulk]
    omega
theorem round_bulk {a : Nat} {sh : Int} {f t : Nat} {OA : Option Addr} {Ot : List Int} {oc : Nat} {LA : Option Addr} {Lo : List Int} {lc : Nat} {P : Option Addr} {X : List Int} {pc : Nat} {d : DataW H} {p : List MemPlace}
    (h : DataW.Trod enc Try.prog w base spare held 74 (.agg (rrV a sh f t OA Ot oc LA Lo lc P X pc)) d p) : Ot.length ≤ Rows.uptoBulk d ∧ Lo.length ≤ Rows.uptoBulk d := by
  obtain ⟨fuel, hf⟩ := h
  obtain ⟨xs, n, _, hx, hlen, hxl, hg⟩ := DataW.trod_struct Try.underlying74 hf
  have hd : d = .agg (xs.map (·.1)) := (Prod.mk.inj hx).1
  have h4 := hg 4 _ rfl
  have h5 := hg 5 _ rfl
  have l4 : 4 < xs.length := by rw [hxl]; decide
  have l5 : 5 < xs.length := by rw [hxl]; decide
  rw [List.getElem?_eq_getElem l4] at h4
  rw [List.getElem?_eq_getElem l5] at h5
  have b4 : DataW.trod enc Try.prog w base spare held n 50 [.slice OA Ot.length oc] = some xs[4] := by simpa [rrV, cByte, cI16, cU8s, Value.cells] using h4
  have b5 : DataW.trod enc Try.prog w base spare held n 50 [.slice LA Lo.length lc] = some xs[5] := by simpa [rrV, cByte, cI16, cU8s, Value.cells] using h5
  have c4 := u8s_bulk b4
  have c5 := u8s_bulk b5
  have m4 := bulk_mem (l := xs.map (·.1)) (List.mem_map.2 ⟨xs[4], List.getElem_mem l4, rfl⟩)
  have m5 := bulk_mem (l := xs.map (·.1)) (List.mem_map.2 ⟨xs[5], List.getElem_mem l5, rfl⟩)
  subst hd
  simp only [Rows.uptoBulk]
  omega
end
end Td
end Go.Proofs.Ytmofbnadfgejiaa
