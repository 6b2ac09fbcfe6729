import Derived.Test.YthdcklonamgpiaaShw
/- sort.Search: by halves. -/
namespace Go.Proofs.Ythdcklonamgpiaa
open Go.RowKit
namespace Td
set_option linter.unusedSimpArgs false
set_option linter.unusedVariables false
attribute [local go_sem] Oper.semAt_some
set_option maxRecDepth 100000 in
set_option maxHeartbeats 4000000 in
theorem search_c (n : Nat) (g : FuncId) (cp : Array Value) (P : Nat → Bool) (w : World) (hn : n ≤ 2000000) (hmono : ∀ i j, i ≤ j → P i = true → P j = true)
    (hg : ∀ (args : Array Value) (W : World), (callFunc g args).run Try.prog W = .ok (.enter g args) W)
    (hf : ∀ (i : Nat) (W : World), i < n → Below w.heap.size w W → Calls Try.prog g (#[.int .i64 (i : Int)] ++ cp) W fun e W' => e = .returned (.bool (P i)) ∧ Below W.heap.size W W') :
    Calls Try.prog 68 #[.int .i64 (n : Int), .func (.func g) #[] cp] w fun e w' => e = .returned (.int .i64 (frst P n : Nat)) ∧ Below w.heap.size w w' := by
  have HF := Lib.hid hf
  have HG := Lib.hid hg
  clear hf hg
  go_enter Try.func68, Try.ntmps68
  go_wp2_with fail
  go_loopw [5, 6] (fun lo hi wr => ∃ i j : Nat, i ≤ j ∧ j ≤ n ∧ lo = .int .i64 i ∧ hi = .int .i64 j ∧ Hid (Since w wr) ∧ Hid (∀ k, k < i → P k = false) ∧ Hid (j < n → P j = true)) (fun lo hi _ => (intOf hi).toNat - (intOf lo).toNat)
  case atStart => exact ⟨0, n, by omega, by omega, rfl, rfl, Since.refl _, fun k hk => absurd hk (by omega), fun h => absurd h (by omega)⟩
  case round =>
    obtain ⟨i, j, hij, hjn, rfl, rfl, HS, H0, H1⟩ := hrel
    by_cases hlt : i < j
    · have e1 := HG.out
      obtain ⟨k, hk⟩ : ∃ k, (i + j) / 2 = k := ⟨_, rfl⟩
      have hkc : ((i : Int) + (j : Int)) / 2 = (k : Int) := by omega
      have HKC := Lib.hid hkc
      have hk1 : i ≤ k := by omega
      have hk2 : k < j := by omega
      clear hk hkc
      go_wp2_with fail
      rw [HKC.out]
      refine (HF.out k wr (by omega) HS.out.1).mono ?_
      rintro e w' ⟨rfl, hb⟩
      have HS2 := Lib.hid (HS.out.keep hb)
      clear e1
      rcases Bool.eq_false_or_eq_true (P k) with hp | hp
      · rw [hp]
        have HP : Hid (k < n → P k = true) := fun _ => hp
        clear hp
        go_wp2_with fail
        go_roundw
        case rel => exact ⟨i, k, by omega, by omega, rfl, rfl, HS2, H0, HP⟩
        case measure => simp [intOf]; omega
      · rw [hp]
        have HP : Hid (∀ t, t < k + 1 → P t = false) := fun t ht => by
          cases e : P t
          · rfl
          · rw [hmono t k (by omega) e] at hp; cases hp
        clear hp
        go_wp2_with fail
        go_roundw
        case rel => exact ⟨k + 1, j, by omega, by omega, by go_num, rfl, HS2, HP, H1⟩
        case measure => simp [intOf]; omega
    · obtain rfl : i = j := by omega
      have HV : Hid (frst P n = i) := frst_cut hjn H0.out H1.out
      go_wp2_with fail
      go_ret
      exact ⟨by rw [HV.out]; rfl, HS.out.1⟩
end Td
end Go.Proofs.Ythdcklonamgpiaa
