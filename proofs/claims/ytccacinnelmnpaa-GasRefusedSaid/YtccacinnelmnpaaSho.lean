import Derived.Test.YtccacinnelmnpaaExp
/- The first of the shortest lists. -/
namespace Go.Proofs.Ytccacinnelmnpaa
open Go.RowKit
namespace Td
set_option linter.unusedSimpArgs false
set_option linter.unusedVariables false
attribute [local go_sem] Oper.semAt_some
/-- a slice that holds a list. -/
def Lv (W : World) (v : Value) (l : List Int) : Prop := ∃ A c, v = .slice A l.length c ∧ InAt W A l
theorem Lv.keep {W W' : World} {v : Value} {l : List Int} (h : Lv W v l) (hb : Below W.heap.size W W') : Lv W' v l := by
  obtain ⟨A, c, h1, h2⟩ := h
  exact ⟨A, c, h1, h2.keep hb⟩
theorem Lv.nil (W : World) : Lv W (.slice none 0 0) [] := ⟨none, 0, rfl, fun h => absurd rfl h⟩
theorem shortest_snoc (ls : Nat → List Int) (k : Nat) : shortest ((List.range (k + 1)).map ls) = shorter (shortest ((List.range k).map ls)) (ls k) := by
  unfold shortest
  rw [List.range_succ, List.map_append, List.foldl_append]
  rfl
set_option maxHeartbeats 1000000 in
theorem shortest_c (g off n c : Nat) (vals : Nat → Value) (ls : Nat → List Int) (w : World) (hn : n ≤ 1000) (hcell : ∀ i, i < n → w.cell? ⟨g, off + i, none⟩ = some (vals i)) (hv : ∀ i, i < n → Lv w (vals i) (ls i)) :
    Calls Try.prog 86 #[.slice (some ⟨g, off, none⟩) n c] w fun e w' => (∃ v, e = .returned v ∧ Lv w v (shortest ((List.range n).map ls))) ∧ w = w' := by
  go_enter Try.func86, Try.ntmps86
  go_wp2_with fail
  go_loop [3, 5, 8] (fun b _ i => ∃ k : Nat, k ≤ n ∧ i = .int .i64 k ∧ Hid (Lv w b (shortest ((List.range k).map ls)))) (fun _ _ i => n - (intOf i).toNat)
  case atStart => exact ⟨0, Nat.zero_le _, rfl, Lv.nil w⟩
  case round =>
    obtain ⟨k, hk, rfl, HB⟩ := hrel
    obtain ⟨bA, bc, hb1, hb2⟩ := HB.out
    by_cases hlt : k < n
    · have c0 := hcell k hlt
      obtain ⟨lA, lc, hl1, hl2⟩ := hv k hlt
      have hadd : (⟨g, off, none⟩ : Addr).add k = ⟨g, off + k, none⟩ := by simp [Addr.add]
      rw [hl1] at c0
      obtain ⟨bl, hbl⟩ : ∃ bl, shortest ((List.range k).map ls) = bl := ⟨_, rfl⟩
      have HS := Lib.hid (shortest_snoc ls k)
      rw [hbl] at hb1 hb2 HS
      have HB1 := Lib.hid hb1
      have HB2 := Lib.hid hb2
      have HL2 := Lib.hid hl2
      subst hb1
      have hlM : (ls k).length ≤ 9223372036854775807 ∨ True := .inr trivial
      obtain ⟨q, hq⟩ : ∃ q, (ls k).length = q := ⟨_, rfl⟩
      obtain ⟨p, hp⟩ : ∃ p, bl.length = p := ⟨_, rfl⟩
      rw [hq] at c0 hl1
      have HQ := Lib.hid hq
      have HP := Lib.hid hp
      rw [hp]
      clear hq hp hl2 hb2 hbl hl1 hadd hlM hcell hv HB
      by_cases h1 : p = 0
      · subst h1
        go_wp2_with fail
        go_round
        case rel => exact ⟨k + 1, by omega, by go_num, by rw [HS.out, shorter, if_pos (.inl HP.out)]; exact ⟨lA, lc, by rw [HQ.out], HL2.out⟩⟩
        case measure => simp [intOf]; omega
      · have h1' : ((p : Int) == 0) = false := by simp [h1]
        by_cases h2 : 0 < q
        · have h2' : (0 : Int) < (q : Int) := by omega
          by_cases h3 : q < p
          · have h3' : (q : Int) < (p : Int) := by omega
            go_wp2_with fail
            go_round
            case rel => exact ⟨k + 1, by omega, by go_num, by rw [HS.out, shorter, if_pos (.inr ⟨by rw [HQ.out]; exact h2, by rw [HQ.out, HP.out]; exact h3⟩)]; exact ⟨lA, lc, by rw [HQ.out], HL2.out⟩⟩
            case measure => simp [intOf]; omega
          · have h3' : ¬ (q : Int) < (p : Int) := by omega
            go_wp2_with fail
            go_round
            case rel => exact ⟨k + 1, by omega, by go_num, by rw [HS.out, shorter, if_neg (by rw [HP.out, HQ.out]; omega)]; exact ⟨bA, bc, by rw [HP.out], HB2.out⟩⟩
            case measure => simp [intOf]; omega
        · have h2' : ¬ (0 : Int) < (q : Int) := by omega
          go_wp2_with fail
          go_round
          case rel => exact ⟨k + 1, by omega, by go_num, by rw [HS.out, shorter, if_neg (by rw [HP.out, HQ.out]; omega)]; exact ⟨bA, bc, by rw [HP.out], HB2.out⟩⟩
          case measure => simp [intOf]; omega
    · obtain rfl : k = n := by omega
      have HB1 := Lib.hid hb1
      subst hb1
      go_wp2_with fail
      go_ret
      exact ⟨⟨_, rfl, HB.out⟩, rfl⟩
end Td
end Go.Proofs.Ytccacinnelmnpaa
