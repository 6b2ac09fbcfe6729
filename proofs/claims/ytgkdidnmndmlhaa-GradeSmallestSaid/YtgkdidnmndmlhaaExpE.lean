import Derived.Test.YtgkdidnmndmlhaaExpA
import Derived.Deep.QuietTactic
import Derived.BigQuiet
/- Where a share stands first. -/
namespace Go.Proofs.Ytgkdidnmndmlhaa
open Go.RowKit
namespace Td
set_option linter.unusedSimpArgs false
set_option linter.unusedVariables false
attribute [local go_sem] Oper.semAt_some
/-- where a share stands first. -/
def posS (x : Nat × Nat) : List (Nat × Nat) → Nat
  | [] => 0
  | y :: r => if y = x then 0 else posS x r + 1
theorem posS_is {x : Nat × Nat} : ∀ {l : List (Nat × Nat)} {k : Nat} (h : k < l.length), l[k] = x → (∀ j (hj : j < k), l[j] ≠ x) → posS x l = k
  | [], k, h, _, _ => by simp at h
  | y :: r, 0, h, e, _ => by
    have e' : y = x := by simpa using e
    unfold posS
    rw [if_pos e']
  | y :: r, k + 1, h, e, hn => by
    have hk : k < r.length := by simpa using h
    have h0 : y ≠ x := by simpa using hn 0 (by omega)
    have ih := posS_is (x := x) (l := r) (k := k) hk (by simpa using e) (fun j hj => by simpa using hn (j + 1) (by omega))
    unfold posS
    rw [if_neg h0, ih]
theorem posS_lt {x : Nat × Nat} : ∀ {l : List (Nat × Nat)}, x ∈ l → posS x l < l.length
  | [], h => by simp at h
  | y :: r, h => by
    unfold posS
    by_cases e : y = x
    · rw [if_pos e]; simp
    · rw [if_neg e]
      have := posS_lt (l := r) (x := x) (by
        rcases List.mem_cons.1 h with h | h
        · exact absurd h.symm e
        · exact h)
      simp; omega
set_option maxRecDepth 100000 in
set_option maxHeartbeats 2000000 in
theorem Index_c (g : Nat) (l : List (Nat × Nat)) (c : Nat) (x : Nat × Nat) (w : World) (hlen : l.length ≤ 100) (hp : FrB w g l) (hx : x ∈ l) :
    Calls Try.prog 73 #[.slice (some ⟨g, 0, none⟩) l.length c, .agg (fV (ip x))] w fun e w' => e = .returned (.int .i64 (posS x l)) ∧ Below w.heap.size w w' := by
  have hl0 : 0 < l.length := List.length_pos_of_mem hx
  have hgl : g < w.heap.size := cell_lt (hp.get hl0).1
  have HS0 := Lib.hid ((Since.refl w).alloc (.cells (fV (ip x)) 90))
  have HX0 := Lib.hid (Blk.new w 90 (fV (ip x)))
  obtain ⟨L, hL⟩ : ∃ L, l.length = L := ⟨_, rfl⟩
  have HL := Lib.hid hL
  rw [hL] at hlen hl0 ⊢
  clear hL
  have HP := Lib.hid hp
  have HM := Lib.hid hx
  clear hp hx
  go_enter Try.func73, Try.ntmps73
  go_wp2_with fail
  obtain ⟨w2, hw2⟩ : ∃ w2, w.alloc (.cells (fV (ip x)) 90) = w2 := ⟨_, rfl⟩
  rw [hw2] at HS0 HX0 ⊢
  clear hw2
  go_loopw [8] (fun i wr => ∃ k : Nat, k ≤ L ∧ i = .int .i64 k ∧ Hid (Blk wr w.heap.size 90 (fV (ip x))) ∧ Hid (Since w wr) ∧ Hid (∀ j (hj : j < k) (hl : j < l.length), l[j] ≠ x)) (fun i _ => L - (intOf i).toNat)
  case atStart => exact ⟨0, by omega, rfl, HX0, HS0, fun j hj => by omega⟩
  case round =>
    obtain ⟨k, hk, rfl, HX, HS, HN⟩ := hrel
    by_cases hlt : k < L
    · have hkl : k < l.length := by have := HL.out; omega
      obtain ⟨d0, d1⟩ := (HP.out.keep HS.out.1).get hkl
      obtain ⟨f0, f1⟩ := HX.out.fcells
      have q2 : (k : Int) < (L : Int) := by omega
      have q4 : (0 : Int) ≤ (k : Int) := by omega
      have HQ : Hid (l[k] = x → posS x l = k) := fun e => posS_is hkl e (fun j hj => HN.out j hj (by omega))
      have HN2 : Hid (l[k] ≠ x → ∀ j (hj : j < k + 1) (hl : j < l.length), l[j] ≠ x) := fun e j hj hl => by
        rcases Nat.lt_or_ge j k with h | h
        · exact HN.out j h hl
        · have : j = k := by omega
          subst this
          exact e
      obtain ⟨y, hyy⟩ : ∃ y, l[k] = y := ⟨_, rfl⟩
      rw [hyy] at d0 d1 HQ HN2
      clear hyy hkl
      by_cases he : y = x
      · subst he
        have HV : Hid (posS y l = k) := HQ.out rfl
        go_wp2_with fail
        go_quiet (fail)
        go_wp2_with fail
        go_ret
        exact ⟨by rw [HV.out]; rfl, bdrew HS.out.1 _⟩
      · have HN3 := Lib.hid (HN2.out he)
        clear HN2 HQ
        have hcase : (¬ (x.1 : Int) = (y.1 : Int)) ∨ ((x.1 : Int) = (y.1 : Int) ∧ ¬ (x.2 : Int) = (y.2 : Int)) := by
          rcases Nat.lt_trichotomy x.1 y.1 with h | h | h
          · left; omega
          · right
            refine ⟨by omega, fun h2 => he (Prod.ext h.symm (by omega))⟩
          · left; omega
        have w1 : IntKind.i64.wrap ((k : Int) + 1) = ((k + 1 : Nat) : Int) := by rw [wrapI (by unfold I64; omega)]; omega
        have HSd : Hid (∀ n, Since w (wr.drewN n)) := fun n => ⟨bdrew HS.out.1 n, HS.out.2⟩
        have HXd : Hid (∀ n, Blk (wr.drewN n) w.heap.size 90 (fV (ip x))) := fun n => HX.out
        clear he
        rcases hcase with r1 | ⟨r1, r2⟩
        · go_wp2_with fail
          go_quiet (fail)
          go_wp2_with fail
          go_roundw
          case rel => exact ⟨k + 1, by omega, by go_num, HXd.out _, HSd.out _, HN3⟩
          case measure => simp [intOf]; omega
        · obtain ⟨x1, x2⟩ := x
          obtain ⟨y1, y2⟩ := y
          obtain rfl : x1 = y1 := by have := r1; simp only at this; omega
          clear r1
          dsimp only at r2
          go_wp2_with fail
          go_quiet (fail)
          go_wp2_with fail
          go_roundw
          case rel => exact ⟨k + 1, by omega, by go_num, HXd.out _, HSd.out _, HN3⟩
          case measure => simp [intOf]; omega
    · exfalso
      obtain ⟨i, hi, e⟩ := List.getElem_of_mem HM.out
      exact HN.out i (by have := HL.out; omega) hi e
end Td
end Go.Proofs.Ytgkdidnmndmlhaa
