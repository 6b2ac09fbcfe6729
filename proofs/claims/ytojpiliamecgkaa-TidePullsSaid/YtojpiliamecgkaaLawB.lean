import Derived.Test.YtojpiliamecgkaaLawA
namespace Go.Proofs.Ytojpiliamecgkaa
open Go.RowKit
namespace Td
set_option linter.unusedSimpArgs false
set_option linter.unusedVariables false
/-- numbers of 16 bits in a row. -/
def U16At (w : World) (A : Option Addr) (l : List Int) : Prop :=
  l ≠ [] → ∃ a, A = some a ∧ ∀ i p, l[i]? = some p → w.cell? (a.add i) = some (.int .u16 p)
theorem U16At.keep {w w' : World} {A : Option Addr} {l : List Int} (h : U16At w A l) (hb : Below w.heap.size w w') : U16At w' A l := fun hx =>
  let ⟨a, ha, hc⟩ := h hx; ⟨a, ha, fun i p hp => keep_cell hb (hc i p hp)⟩
theorem U16At.get {w : World} {A : Option Addr} {l : List Int} (h : U16At w A l) {k : Nat} (hk : k < l.length) : ∃ a, A = some a ∧ w.cell? (a.add k) = some (.int .u16 l[k]) := by
  obtain ⟨a, ha, hc⟩ := h (fun e => by simp [e] at hk)
  exact ⟨a, ha, hc k _ (List.getElem?_eq_getElem hk)⟩
theorem U16At.alloc {w : World} {A : Option Addr} {l : List Int} (h : U16At w A l) (o : Obj) : U16At (w.alloc o) A l := h.keep ((Below.refl _ _).alloc (Nat.le_refl _) _)
theorem U16At.drew {w : World} {A : Option Addr} {l : List Int} (h : U16At w A l) : U16At w.drew A l := h
def U16Ok (l : List Int) : Prop := ∀ j (h : j < l.length), 0 ≤ l[j] ∧ l[j] ≤ 65535
/-- the n-th number of a list, by turns. -/
def turnV (l : List Int) (n : Nat) : Int := l[n % l.length]?.getD 0
theorem turnV_nil (n : Nat) : turnV [] n = 0 := by simp [turnV]
theorem turnV_at {l : List Int} {n : Nat} (h : n % l.length < l.length) : turnV l n = l[n % l.length] := by simp [turnV, List.getElem?_eq_getElem h]
theorem turnV_bd {l : List Int} (ho : U16Ok l) (n : Nat) : 0 ≤ turnV l n ∧ turnV l n ≤ 65535 := by
  rcases Nat.eq_zero_or_pos l.length with h | h
  · obtain rfl := List.eq_nil_of_length_eq_zero h
    simp [turnV]
  · have := ho (n % l.length) (Nat.mod_lt _ h)
    rw [turnV_at (Nat.mod_lt _ h)]
    exact this
set_option maxRecDepth 100000 in
set_option maxHeartbeats 2000000 in
theorem turn_c (P : Option Addr) (l : List Int) (pc n : Nat) (w : World) (hn : n ≤ 1000000) (hp : U16At w P l) (ho : U16Ok l) :
    Calls Try.prog 43 #[.slice P l.length pc, .int .i64 n] w fun e w' => e = .returned (.int .i64 (turnV l n)) ∧ w = w' := by
  rcases Nat.eq_zero_or_pos l.length with h | h
  · obtain rfl := List.eq_nil_of_length_eq_zero h
    have HV := Lib.hid (turnV_nil n)
    go_enter Try.func43, Try.ntmps43
    go_wp2_with fail
    go_ret
    exact ⟨ret_int HV.out.symm, rfl⟩
  · have hm := Nat.mod_lt n h
    have HV := Lib.hid (turnV_at hm)
    obtain ⟨ad, hA, c0⟩ := hp.get hm
    subst hA
    obtain ⟨v, hv⟩ : ∃ v, l[n % l.length] = v := ⟨_, rfl⟩
    obtain ⟨v0, v1⟩ := ho _ hm
    rw [hv] at c0 HV v0 v1
    clear hv ho
    obtain ⟨L, hL⟩ : ∃ L, l.length = L := ⟨_, rfl⟩
    rw [hL] at h hm c0 ⊢
    have HL := Lib.hid hL
    clear hL hp
    have hz : ((L : Int) == 0) = false := by simp; omega
    have hz2 : (L == 0) = false := by simp; omega
    have hcast : ((n : Int) % (L : Int)) = ((n % L : Nat) : Int) := by omega
    have htm : ((n : Int).tmod (L : Int)) = ((n % L : Nat) : Int) := by rw [Int.tmod_eq_emod_of_nonneg (by omega)]; omega
    obtain ⟨m, hmm⟩ : ∃ m, n % L = m := ⟨_, rfl⟩
    rw [hmm] at hm c0 hcast htm
    have HM := Lib.hid hmm
    clear hmm
    go_enter Try.func43, Try.ntmps43
    go_wp2_with fail
    go_ret
    exact ⟨ret_int HV.out.symm, rfl⟩
def amongV (lo hi n : Int) : Int := lo + n % (hi - lo + 1)
theorem amongV_in {lo hi n : Int} (h : lo ≤ hi) : lo ≤ amongV lo hi n ∧ amongV lo hi n ≤ hi := by
  unfold amongV
  have := Int.emod_nonneg n (show hi - lo + 1 ≠ 0 by omega)
  have := Int.emod_lt_of_pos n (show 0 < hi - lo + 1 by omega)
  omega
set_option maxRecDepth 100000 in
set_option maxHeartbeats 2000000 in
theorem among_c (lo hi n : Int) (w : World) (h : lo ≤ hi) (h0 : -10000 ≤ lo) (h1 : hi ≤ 10000) (n0 : 0 ≤ n) (n1 : n ≤ 1000000) :
    Calls Try.prog 72 #[.agg #[.int .i64 lo, .int .i64 hi], .int .i64 n] w fun e w' => e = .returned (.int .i64 (amongV lo hi n)) ∧ Below w.heap.size w w' := by
  have hin := amongV_in (n := n) h
  have HV : Hid (lo + n % (hi - lo + 1) = amongV lo hi n) := by rfl
  have e1 : IntKind.i64.wrap (hi - lo) = hi - lo := IntWalk.i64_in _ (by omega)
  have e2 : IntKind.i64.wrap (hi - lo + 1) = hi - lo + 1 := IntWalk.i64_in _ (by omega)
  have e4 : n.tmod (hi - lo + 1) = n % (hi - lo + 1) := Int.tmod_eq_emod_of_nonneg n0
  have e3 : IntKind.i64.wrap (lo + n % (hi - lo + 1)) = lo + n % (hi - lo + 1) := IntWalk.i64_in _ (by rw [HV.out]; omega)
  have hne : ((hi - lo + 1) == 0) = false := by simp; omega
  have hne2 : hi - lo + 1 ≠ 0 := by omega
  have e5 : IntKind.i64.wrap (n % (hi - lo + 1)) = n % (hi - lo + 1) := IntWalk.i64_in _ (by
    have := Int.emod_nonneg n (show hi - lo + 1 ≠ 0 by omega)
    have := Int.emod_lt_of_pos n (show 0 < hi - lo + 1 by omega)
    omega)
  obtain ⟨hi0, hi1⟩ := hin
  go_enter Try.func72, Try.ntmps72
  go_wp2_with fail
  go_quiet (fail)
  go_wp2_with fail
  go_ret
  exact ⟨ret_int HV.out, bdrew ((Below.refl _ _).alloc (Nat.le_refl _) _) _⟩
end Td
end Go.Proofs.Ytojpiliamecgkaa
