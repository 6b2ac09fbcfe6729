import Derived.Test.YtccacinnelmnpaaLim
import Derived.Test.YtccacinnelmnpaaRf
import Derived.BigQuiet
namespace Go.Proofs.Ytccacinnelmnpaa
open Go.RowKit
namespace Td
set_option linter.unusedSimpArgs false
set_option linter.unusedVariables false
theorem take_next {l m : List Int} {k : Nat} (hl : k < l.length) (hm : k < m.length) (h : l.take k = m.take k) : (l.take (k + 1) = m.take (k + 1)) ↔ l[k] = m[k] := by
  rw [List.take_succ_eq_append_getElem hl, List.take_succ_eq_append_getElem hm, h]
  simp only [List.append_cancel_left_eq, List.cons.injEq, and_true]
set_option maxRecDepth 100000 in
set_option maxHeartbeats 4000000 in
theorem ints_c (P Q : Option Addr) (l m : List Int) (pc qc : Nat) (w : World) (hl : l.length ≤ 1000) (hm : m.length ≤ 1000) (hp : InAt w P l) (hq : InAt w Q m) :
    Calls Try.prog 24 #[.slice P l.length pc, .slice Q m.length qc] w fun e w' => e = .returned (.bool (decide (l = m))) ∧ Below w.heap.size w w' := by
  by_cases hlen : l.length = m.length
  · have HL := Lib.hid hlen
    rw [← hlen]
    clear hlen
    go_enter Try.func24, Try.ntmps24
    go_wp2_with fail
    go_loopw [5, 6] (fun b i wr => ∃ (k n : Nat) (bv : Bool), k ≤ l.length ∧ i = .int .i64 k ∧ b = .bool bv ∧ wr = w.drewN n ∧ Hid (bv = true → l.take k = m.take k) ∧ Hid (bv = false → l ≠ m)) (fun _ i _ => l.length - (intOf i).toNat)
    case atStart => exact ⟨0, 0, true, Nat.zero_le _, rfl, rfl, rfl, fun _ => rfl, fun h => by cases h⟩
    case round =>
      obtain ⟨k, nd, bv, hk, rfl, rfl, rfl, HT, HF⟩ := hrel
      by_cases hlt : k < l.length
      · cases bv
        · have HV : Hid (decide (l = m) = false) := by show _ = _; exact decide_eq_false (HF.out rfl)
          go_wp2_with fail
          go_ret
          exact ⟨ret_bool HV.out.symm, bdrew (Below.refl _ _) _⟩
        · have hltm : k < m.length := by have := HL.out; omega
          obtain ⟨pa, hP, c0⟩ := hp.get hlt
          obtain ⟨qa, hQ, d0⟩ := hq.get hltm
          subst hP
          subst hQ
          have HN := Lib.hid (take_next hlt hltm (HT.out rfl))
          by_cases he : l[k] = m[k]
          · have he' : (l[k] == m[k]) = true := by simpa using he
            have HE := Lib.hid he
            clear he
            go_wp2_with fail
            go_quiet (fail)
            go_wp2_with fail
            go_roundw
            case rel => exact ⟨k + 1, _, true, by omega, by go_num, rfl, rfl, fun _ => HN.out.2 HE.out, fun h => by cases h⟩
            case measure => simp [intOf]; omega
          · have he' : (l[k] == m[k]) = false := by simpa using he
            have HE := Lib.hid he
            clear he
            go_wp2_with fail
            go_quiet (fail)
            go_wp2_with fail
            go_roundw
            case rel => exact ⟨k + 1, _, false, by omega, by go_num, rfl, rfl, (fun h => by cases h), fun _ e => HE.out (by subst e; rfl)⟩
            case measure => simp [intOf]; omega
      · cases bv
        · have HV : Hid (decide (l = m) = false) := by show _ = _; exact decide_eq_false (HF.out rfl)
          go_wp2_with fail
          go_ret
          exact ⟨ret_bool HV.out.symm, bdrew (Below.refl _ _) _⟩
        · have HV : Hid (decide (l = m) = true) := by
            show _ = _
            have h := HT.out rfl
            have hl := HL.out
            rw [List.take_of_length_le (by omega), List.take_of_length_le (by omega)] at h
            exact decide_eq_true h
          go_wp2_with fail
          go_ret
          exact ⟨ret_bool HV.out.symm, bdrew (Below.refl _ _) _⟩
  · have HV : Hid (decide (l = m) = false) := by show _ = _; exact decide_eq_false (fun e => hlen (by rw [e]))
    have h1 : ((l.length : Int) == (m.length : Int)) = false := by simp; omega
    have h2 : (l.length == m.length) = false := by simpa using hlen
    have HH := Lib.hid hlen
    clear hlen
    go_enter Try.func24, Try.ntmps24
    go_wp2_with fail
    refine wp_loop_rounds 1 ?_
    rw [rounds_succ]
    by_cases h0 : 0 < l.length
    · go_wp2_with fail
      go_ret
      exact ⟨ret_bool HV.out.symm, Below.refl _ _⟩
    · have h00 : l.length = 0 := by omega
      go_wp2_with fail
      go_ret
      exact ⟨ret_bool HV.out.symm, Below.refl _ _⟩
end Td
end Go.Proofs.Ytccacinnelmnpaa
