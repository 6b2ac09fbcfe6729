import Derived.Test.YtgkdidnmndmlhaaShr
import Derived.Deep.QuietTactic
import Derived.BigQuiet
/- Shares in lowest terms, as the law asks. -/
namespace Go.Proofs.Ytgkdidnmndmlhaa
open Go.RowKit
namespace Td
set_option linter.unusedSimpArgs false
set_option linter.unusedVariables false
attribute [local go_sem] Oper.semAt_some
set_option maxRecDepth 100000 in
set_option maxHeartbeats 2000000 in
theorem whole_c (s : Nat × Nat) (w : World) (h1 : s.1 < 9223372036854775807) (h2 : s.2 < 9223372036854775807) (hp : 0 < s.2) (hg : Nat.gcd s.1 s.2 = 1) :
    Calls Try.prog 41 #[.agg (fV (ip s))] w fun e w' => e = .returned (.bool true) ∧ Below w.heap.size w w' := by
  have HS0 := Lib.hid ((Since.refl w).alloc (.cells (fV (ip s)) 41))
  obtain ⟨c0, c1⟩ := (Blk.new w 41 (fV (ip s))).fcells
  obtain ⟨a, b⟩ := s
  simp only at h1 h2 hp hg c0 c1
  have q1 : ¬ (b : Int) < 1 := by omega
  have q2 : ¬ (a : Int) < 0 := by omega
  have HG := Lib.hid hg
  clear hg
  go_enter Try.func41, Try.ntmps41
  go_wp2_with fail
  go_quiet (fail)
  have HSd : Hid (∀ n, Since w ((w.alloc (.cells (fV (ip (a, b))) 41)).drewN n)) := fun n => ⟨bdrew HS0.out.1 n, HS0.out.2⟩
  have hsd := HSd.out nq
  go_wp2_with fail
  obtain ⟨w2, hw2⟩ : ∃ w2, (w.alloc (.cells (fV (ip (a, b))) 41)).drewN nq = w2 := ⟨_, rfl⟩
  rw [hw2] at hsd
  have HSS := Lib.hid hsd
  first | rw [hw2] | skip
  clear c0 c1 q1 q2 HSd HS0 hsd
  go_loopw [3, 4] (fun i j wr => ∃ x y : Nat, i = .int .i64 x ∧ j = .int .i64 y ∧ x < 9223372036854775807 ∧ y < 9223372036854775807 ∧ Hid (Nat.gcd x y = 1) ∧ Hid (Since w wr)) (fun _ j _ => (intOf j).toNat)
  case atStart => exact ⟨a, b, rfl, rfl, h1, h2, HG, by first | exact HSS | (rw [hw2]; exact HSS)⟩
  case round =>
    obtain ⟨x, y, rfl, rfl, hx, hy, HXY, HS⟩ := hrel
    by_cases h0 : y = 0
    · subst h0
      have hx1 : x = 1 := by have := HXY.out; rw [Nat.gcd_zero_right] at this; exact this
      subst hx1
      go_wp2_with fail
      go_ret
      exact ⟨rfl, HS.out.1⟩
    · have hz : (0 : Int) < (y : Int) := by omega
      have hz1 : 0 < y := by omega
      have hz2 : ¬ (y : Int) = 0 := by omega
      have hm : x % y < y := Nat.mod_lt _ hz1
      have ht : (x : Int).tmod (y : Int) = ((x % y : Nat) : Int) := rfl
      have HR : Hid (Nat.gcd y (x % y) = 1) := by show _ = _; rw [← HXY.out, Nat.gcd_comm, ← Nat.gcd_rec, Nat.gcd_comm]
      obtain ⟨r, hr⟩ : ∃ r, x % y = r := ⟨_, rfl⟩
      rw [hr] at ht HR hm
      have hw : IntKind.i64.wrap (r : Int) = (r : Int) := wrapI (by unfold I64; omega)
      clear hr HXY
      go_wp2_with fail
      go_roundw
      case rel => exact ⟨y, r, rfl, rfl, hy, by omega, HR, HS⟩
      case measure => simp [intOf]; omega
end Td
end Go.Proofs.Ytgkdidnmndmlhaa
