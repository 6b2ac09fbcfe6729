import Derived.Test.YtccacinnelmnpaaRefB
/- The reference: fresh names, the plan of a space. -/
namespace Go.Proofs.Ytccacinnelmnpaa
open Go.RowKit
namespace Td
set_option linter.unusedSimpArgs false
set_option linter.unusedVariables false
attribute [local go_sem] Oper.semAt_some
/-- strings in a row. -/
def StAt (w : World) (A : Option Addr) (l : List ByteArray) : Prop :=
  l ≠ [] → ∃ a, A = some a ∧ ∀ i p, l[i]? = some p → w.cell? (a.add i) = some (.string p)
theorem StAt.keep {w w' : World} {A : Option Addr} {l : List ByteArray} (h : StAt w A l) (hb : Below w.heap.size w w') : StAt w' A l := fun hx =>
  let ⟨a, ha, hc⟩ := h hx; ⟨a, ha, fun i p hp => keep_cell hb (hc i p hp)⟩
theorem StAt.get {w : World} {A : Option Addr} {l : List ByteArray} (h : StAt w A l) {k : Nat} (hk : k < l.length) : ∃ a, A = some a ∧ w.cell? (a.add k) = some (.string l[k]) := by
  obtain ⟨a, ha, hc⟩ := h (fun e => by simp [e] at hk)
  exact ⟨a, ha, hc k _ (List.getElem?_eq_getElem hk)⟩
/-- the index of a string in a list, or -1. -/
def idxS (l : List ByteArray) (nm : ByteArray) : Int := match l.findIdx? (fun u => eqS u nm) with | some i => i | none => -1
theorem idxS_at {l : List ByteArray} {nm : ByteArray} {k : Nat} (hk : k < l.length) (h0 : ∀ j (h : j < l.length), j < k → eqS l[j] nm = false) (h1 : eqS l[k] nm = true) : idxS l nm = k := by
  have : l.findIdx? (fun u => eqS u nm) = some k := by
    rw [List.findIdx?_eq_some_iff_getElem]
    exact ⟨hk, h1, fun j hj => by simp [h0 j (by omega) hj]⟩
  simp [idxS, this]
theorem idxS_none {l : List ByteArray} {nm : ByteArray} (h0 : ∀ j (h : j < l.length), j < l.length → eqS l[j] nm = false) : idxS l nm = -1 := by
  have : l.findIdx? (fun u => eqS u nm) = none := by
    rw [List.findIdx?_eq_none_iff]
    intro x hx
    obtain ⟨j, hj, rfl⟩ := List.mem_iff_getElem.1 hx
    exact h0 j hj hj
  simp [idxS, this]
theorem idxS_any (l : List ByteArray) (nm : ByteArray) : 0 ≤ idxS l nm ↔ l.any (fun u => eqS u nm) = true := by
  unfold idxS
  cases h : l.findIdx? (fun u => eqS u nm) with
  | none =>
    rw [List.findIdx?_eq_none_iff] at h
    constructor
    · intro h'; simp at h'
    · intro h'
      rw [List.any_eq_true] at h'
      obtain ⟨x, hx, h2⟩ := h'
      rw [h x hx] at h2
      cases h2
  | some i =>
    rw [List.findIdx?_eq_some_iff_getElem] at h
    obtain ⟨hi, h1, _⟩ := h
    constructor
    · intro _; rw [List.any_eq_true]; exact ⟨l[i], List.getElem_mem _, h1⟩
    · intro _; simp
theorem place_c (A : Option Addr) (l : List ByteArray) (c : Nat) (nm : ByteArray) (w : World) (hl : l.length ≤ 1000) (hp : StAt w A l) :
    Calls Try.prog 77 #[.slice A l.length c, .string nm] w fun e w' => e = .returned (.int .i64 (idxS l nm)) ∧ w = w' := by
  go_enter Try.func77, Try.ntmps77
  go_wp2_with fail
  go_loop [5] (fun i => ∃ k : Nat, k ≤ l.length ∧ i = .int .i64 k ∧ Hid (∀ j (h : j < l.length), j < k → eqS l[j] nm = false)) (fun i => l.length - (intOf i).toNat)
  case atStart => exact ⟨0, Nat.zero_le _, rfl, fun j _ h => absurd h (by omega)⟩
  case round =>
    obtain ⟨k, hk, rfl, H0⟩ := hrel
    by_cases hlt : k < l.length
    · obtain ⟨ad, hA, c0⟩ := hp.get hlt
      subst hA
      rcases Bool.eq_false_or_eq_true (eqS l[k] nm) with he | he
      · have HV := Lib.hid (idxS_at hlt H0.out he)
        have he' : (l[k].toList == nm.toList) = true := he
        clear he
        go_wp2_with fail
        go_ret
        exact ⟨ret_int HV.out.symm, rfl⟩
      · have HE := Lib.hid he
        have he' : (l[k].toList == nm.toList) = false := he
        clear he
        go_wp2_with fail
        go_round
        case rel =>
          refine ⟨k + 1, by omega, by go_num, fun j h hj => ?_⟩
          rcases Nat.lt_or_ge j k with h1 | h1
          · exact H0.out j h h1
          · obtain rfl : j = k := by omega
            exact HE.out
        case measure => simp [intOf]; omega
    · have HV := Lib.hid (idxS_none (l := l) (nm := nm) (by obtain rfl : k = l.length := by omega
                                                            exact H0.out))
      go_wp2_with fail
      go_ret
      exact ⟨ret_int HV.out.symm, rfl⟩
def freshE (nm : ByteArray) (l : List ByteArray) : Int := if isName nm then (if l.any (fun u => eqS u nm) then 5 else 0) else 6
theorem fresh_c (A : Option Addr) (l : List ByteArray) (c : Nat) (nm : ByteArray) (w : World) (hl : l.length ≤ 1000) (hn : nm.size ≤ maxLen) (hp : StAt w A l) :
    Calls Try.prog 47 #[.string nm, .slice A l.length c] w fun e w' => e = .returned (.int .i64 (freshE nm l)) ∧ Below w.heap.size w w' := by
  go_enter Try.func47, Try.ntmps47
  go_wp2_with fail
  refine (rname_c _ _ hn).mono ?_
  rintro e w1 ⟨rfl, hb1⟩
  rcases Bool.eq_false_or_eq_true (isName nm) with h1 | h1
  · rw [h1]
    have H1 := Lib.hid h1
    clear h1
    go_wp2_with fail
    refine (place_c A l c nm _ hl (hp.keep hb1)).mono ?_
    rintro e w2 ⟨rfl, rfl⟩
    have hA := idxS_any l nm
    by_cases h2 : 0 ≤ idxS l nm
    · have HV : Hid (5 = freshE nm l) := by show _ = _; rw [freshE, if_pos H1.out, if_pos (hA.1 h2)]
      clear hA
      go_wp2_with fail
      go_ret
      exact ⟨ret_int HV.out, hb1⟩
    · have HV : Hid (0 = freshE nm l) := by show _ = _; rw [freshE, if_pos H1.out, if_neg (fun h => h2 (hA.2 h))]
      have h2' : idxS l nm < 0 := by omega
      clear hA
      go_wp2_with fail
      go_ret
      exact ⟨ret_int HV.out, hb1⟩
  · rw [h1]
    have HV : Hid (6 = freshE nm l) := by show _ = _; rw [freshE, h1]; rfl
    clear h1
    go_wp2_with fail
    go_ret
    exact ⟨ret_int HV.out, hb1⟩
theorem spr_cases (lo hi : Int) (l : List (Int × Int)) : (spr lo hi l = 7 ∧ sw lo hi l = false) ∨ (spr lo hi l = 2 ∧ sw lo hi l = true ∧ tn l = true) ∨ (spr lo hi l = 0 ∧ sw lo hi l = true ∧ tn l = false) := by
  unfold spr
  cases h : sw lo hi l
  · left; simp
  · cases h2 : tn l
    · right; right; simp
    · right; left; simp
def planE (s : Spc) : Int := if spr 0 200 [(s.s0, s.s1)] = 7 ∨ spr (-20) 20 [(s.r0, s.r1), (s.b0, s.b1)] = 7 ∨ wi 0 200 s.lim = false then 7 else if spr 0 200 [(s.s0, s.s1)] ≠ 0 then spr 0 200 [(s.s0, s.s1)] else spr (-20) 20 [(s.r0, s.r1), (s.b0, s.b1)]
theorem planE_eq (s : Spc) : planE s = levE s := by
  unfold planE levE
  have ht : tn [(s.s0, s.s1), (s.r0, s.r1), (s.b0, s.b1)] = (tn [(s.s0, s.s1)] || tn [(s.r0, s.r1), (s.b0, s.b1)]) := by simp [tn]
  rw [ht]
  rcases spr_cases 0 200 [(s.s0, s.s1)] with ⟨a, b⟩ | ⟨a, b, c⟩ | ⟨a, b, c⟩ <;> rcases spr_cases (-20) 20 [(s.r0, s.r1), (s.b0, s.b1)] with ⟨d, e⟩ | ⟨d, e, f⟩ | ⟨d, e, f⟩ <;> cases g : wi 0 200 s.lim <;> simp_all
end Td
end Go.Proofs.Ytccacinnelmnpaa
