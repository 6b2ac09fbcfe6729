import Derived.Test.YtgkdidnmndmlhaaExpE
import Derived.Deep.QuietTactic
import Derived.BigQuiet
/- Equal lists of shares. -/
namespace Go.Proofs.Ytgkdidnmndmlhaa
open Go.RowKit
namespace Td
set_option linter.unusedSimpArgs false
set_option linter.unusedVariables false
attribute [local go_sem] Oper.semAt_some
/-- shares in a row, if there are any. -/
def FrO (w : World) (A : Option Addr) (l : List (Nat × Nat)) : Prop := l ≠ [] → ∃ g, A = some ⟨g, 0, none⟩ ∧ FrB w g l
theorem FrO.keep {w w' : World} {A : Option Addr} {l : List (Nat × Nat)} (h : FrO w A l) (hb : Below w.heap.size w w') : FrO w' A l := fun hl =>
  let ⟨g, e, k⟩ := h hl; ⟨g, e, k.keep hb⟩
theorem FrO.get {w : World} {A : Option Addr} {l : List (Nat × Nat)} (h : FrO w A l) {k : Nat} (hk : k < l.length) : ∃ g, A = some ⟨g, 0, none⟩ ∧ w.cell? ⟨g, k * 2, none⟩ = some (.int .i64 (l[k].1 : Int)) ∧ w.cell? ⟨g, k * 2 + 1, none⟩ = some (.int .i64 (l[k].2 : Int)) := by
  obtain ⟨g, e, hb⟩ := h (fun e => by simp [e] at hk)
  exact ⟨g, e, hb.get hk⟩
theorem FrO.drewN {w : World} {A : Option Addr} {l : List (Nat × Nat)} (h : FrO w A l) (n : Nat) : FrO (w.drewN n) A l := h
set_option maxRecDepth 100000 in
set_option maxHeartbeats 2000000 in
theorem Same_c (A B : Option Addr) (a b : List (Nat × Nat)) (c d : Nat) (w : World) (ha : FrO w A a) (hb : FrO w B b) (hl : a.length ≤ 1000) :
    Calls Try.prog 23 #[.slice A a.length c, .slice B b.length d] w fun e w' => e = .returned (.bool (decide (a = b))) ∧ Below w.heap.size w w' := by
  by_cases hlen : a.length = b.length
  · have HA := Lib.hid ha
    have HB := Lib.hid hb
    have HD : Hid (∀ k, k ≤ a.length → (∀ j (h1 : j < k) (h2 : j < a.length) (h3 : j < b.length), a[j] = b[j]) → k = a.length → decide (a = b) = true) := fun k hk hj e => by
      subst e
      exact decide_eq_true (List.ext_getElem hlen fun j h1 h2 => hj j h1 h1 h2)
    have HE : Hid (∀ k (h1 : k < a.length) (h2 : k < b.length), a[k] ≠ b[k] → decide (a = b) = false) := fun k h1 h2 hne => decide_eq_false (fun e => hne (by subst e; rfl))
    obtain ⟨n, hn⟩ : ∃ n, a.length = n := ⟨_, rfl⟩
    have HN := Lib.hid hn
    have HN2 : Hid (b.length = n) := hlen.symm.trans hn
    rw [hn] at hl ⊢
    rw [show b.length = n from HN2.out]
    obtain ⟨r, hr⟩ : ∃ r, decide (a = b) = r := ⟨_, rfl⟩
    rw [hr] at HD HE ⊢
    clear hn hr hlen ha hb
    go_enter Try.func23, Try.ntmps23
    go_wp2_with fail
    go_loopw [5] (fun i wr => ∃ k : Nat, k ≤ n ∧ i = .int .i64 k ∧ Hid (∀ j (h1 : j < k) (h2 : j < a.length) (h3 : j < b.length), a[j] = b[j]) ∧ Hid (Since w wr)) (fun i _ => n - (intOf i).toNat)
    case atStart => exact ⟨0, by omega, rfl, (fun j h1 => by omega), Lib.hid (Since.refl w)⟩
    case round =>
      obtain ⟨k, hk, rfl, HJ, HS⟩ := hrel
      by_cases hlt : k < n
      · have ka : k < a.length := by have := HN.out; omega
        have kb : k < b.length := by have := HN2.out; omega
        obtain ⟨gA, hA, a0, a1⟩ := (HA.out.keep HS.out.1).get ka
        obtain ⟨gB, hB, b0, b1⟩ := (HB.out.keep HS.out.1).get kb
        subst hA hB
        have HE2 := Lib.hid (HE.out k ka kb)
        have HJ2 : Hid (a[k] = b[k] → ∀ j (h1 : j < k + 1) (h2 : j < a.length) (h3 : j < b.length), a[j] = b[j]) := fun e j h1 h2 h3 => by
          rcases Nat.lt_or_ge j k with h | h
          · exact HJ.out j h h2 h3
          · have : j = k := by omega
            subst this
            exact e
        obtain ⟨x, hx⟩ : ∃ x, a[k] = x := ⟨_, rfl⟩
        obtain ⟨y, hy⟩ : ∃ y, b[k] = y := ⟨_, rfl⟩
        rw [hx] at a0 a1 HE2 HJ2
        rw [hy] at b0 b1 HE2 HJ2
        have q1 : (k : Int) < (n : Int) := by omega
        have q2 : (0 : Int) ≤ (k : Int) := by omega
        have w1 : IntKind.i64.wrap ((k : Int) + 1) = ((k + 1 : Nat) : Int) := by rw [wrapI (by unfold I64; omega)]; omega
        have HSd : Hid (∀ n, Since w (wr.drewN n)) := fun n => ⟨bdrew HS.out.1 n, HS.out.2⟩
        clear hx hy ka kb HS HJ
        by_cases he : x = y
        · subst he
          have HJ3 := Lib.hid (HJ2.out rfl)
          clear HJ2 HE2
          go_wp2_with fail
          go_quiet (fail)
          go_wp2_with fail
          go_roundw
          case rel => exact ⟨k + 1, by omega, by go_num, HJ3, HSd.out _⟩
          case measure => simp [intOf]; omega
        · have hf : r = false := HE2.out he
          subst hf
          clear HJ2 HE2 HD HE
          have hcase : (¬ (x.1 : Int) = (y.1 : Int)) ∨ ((x.1 : Int) = (y.1 : Int) ∧ ¬ (x.2 : Int) = (y.2 : Int)) := by
            rcases Nat.lt_trichotomy x.1 y.1 with h | h | h
            · left; omega
            · right
              refine ⟨by omega, fun h2 => he (Prod.ext h (by omega))⟩
            · left; omega
          clear he
          rcases hcase with r1 | ⟨r1, r2⟩
          · go_wp2_with fail
            go_quiet (fail)
            go_wp2_with fail
            go_ret
            exact ⟨rfl, (HSd.out _).1⟩
          · obtain ⟨x1, x2⟩ := x
            obtain ⟨y1, y2⟩ := y
            obtain rfl : x1 = y1 := by have := r1; simp only at this; omega
            clear r1
            dsimp only at r2
            go_wp2_with fail
            go_quiet (fail)
            go_wp2_with fail
            go_ret
            exact ⟨rfl, (HSd.out _).1⟩
      · have hkn : k = n := by omega
        have hf : r = true := HD.out k (by have := HN.out; omega) HJ.out (by have := HN.out; omega)
        subst hf hkn
        have q1 : ¬ (k : Int) < (k : Int) := by omega
        clear HD HE
        go_wp2_with fail
        go_ret
        exact ⟨rfl, HS.out.1⟩
  · have hr : decide (a = b) = false := decide_eq_false (fun e => hlen (by rw [e]))
    rw [hr]
    have q1 : ¬ (a.length : Int) = (b.length : Int) := by omega
    obtain ⟨n, hn⟩ : ∃ n, a.length = n := ⟨_, rfl⟩
    obtain ⟨m, hm⟩ : ∃ m, b.length = m := ⟨_, rfl⟩
    rw [hn] at q1 hlen ⊢
    rw [hm] at q1 hlen ⊢
    clear hn hm hr ha hb
    go_enter Try.func23, Try.ntmps23
    go_wp2_with fail
    go_ret
    exact ⟨rfl, Below.refl _ _⟩
end Td
end Go.Proofs.Ytgkdidnmndmlhaa
