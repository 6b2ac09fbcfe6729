import Derived.Test.YtolkngbpmhdjkaaLrdW
import Derived.Test.YtolkngbpmhdjkaaPlainH
/- The law's readings are true of its truth. -/
namespace Go.Proofs.Ytolkngbpmhdjkaa
open Go.RowKit
namespace Td
set_option linter.unusedVariables false
theorem lrd_facts {s : Spc} (hs : SOk s) {T : Nat → Int} (hT : ∀ k, 0 ≤ T k ∧ T k ≤ 200) {Mn Ws : List Int} (hmo : U8Ok Mn) (hwo : U8Ok Ws) (i : Nat) : ROk s (lrd s T Mn Ws i) ∧ near s (lrd s T Mn Ws i) (T (lrd s T Mn Ws i).min.toNat) := by
  have ht1 := hs.t1
  have hm : 0 ≤ Mn[i]?.getD 0 := by
    cases h : Mn[i]? with
    | none => simp
    | some x =>
      obtain ⟨hi, rfl⟩ := List.getElem?_eq_some_iff.1 h
      simpa using (hmo i hi).1
  have hw := wrV_bd hwo i
  have h1 := Int.emod_nonneg (Mn[i]?.getD 0) (show (61 : Int) ≠ 0 by decide)
  have h2 := Int.emod_lt_of_pos (Mn[i]?.getD 0) (show (0 : Int) < 61 by decide)
  have h3 := Int.emod_nonneg (wrV Ws i) (show (s.tools.length : Int) ≠ 0 by omega)
  have h4 := Int.emod_lt_of_pos (wrV Ws i) (show (0 : Int) < (s.tools.length : Int) by omega)
  have he := errOf_ok hs (lrd s T Mn Ws i)
  have heq : errOf s (lrd s T Mn Ws i) = (s.tools[(wrV Ws i % (s.tools.length : Int)).toNat]?.map Tl.err).getD 0 := rfl
  obtain ⟨er, her⟩ : ∃ er, (s.tools[(wrV Ws i % (s.tools.length : Int)).toNat]?.map Tl.err).getD 0 = er := ⟨_, rfl⟩
  rw [her] at heq
  rw [heq] at he
  have hTm := hT (Mn[i]?.getD 0 % 61).toNat
  have hsh : (lrd s T Mn Ws i).shown = amongV (T (Mn[i]?.getD 0 % 61).toNat - er) (T (Mn[i]?.getD 0 % 61).toNat + er) (wrV Ws i) := by rw [← her]; rfl
  have ha := amongV_in (lo := T (Mn[i]?.getD 0 % 61).toNat - er) (hi := T (Mn[i]?.getD 0 % 61).toNat + er) (n := wrV Ws i) (by omega)
  rw [← hsh] at ha
  refine ⟨⟨h3, h4, h1, by show Mn[i]?.getD 0 % 61 ≤ 60; omega, by omega, by omega⟩, ?_⟩
  unfold near
  rw [heq]
  show _ ≤ T (Mn[i]?.getD 0 % 61).toNat ∧ T (Mn[i]?.getD 0 % 61).toNat ≤ _
  omega
end Td
end Go.Proofs.Ytolkngbpmhdjkaa
