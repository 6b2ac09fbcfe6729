import Derived.Test.YthdcklonamgpiaaLeaf
/- The reference: numbers and spans within a span. -/
namespace Go.Proofs.Ythdcklonamgpiaa
open Go.RowKit
namespace Td
set_option linter.unusedSimpArgs false
set_option linter.unusedVariables false
attribute [local go_sem] Oper.semAt_some
theorem rin_c (lo hi n : Int) (w : World) : Calls Try.prog 46 #[.int .i64 n, .int .i64 lo, .int .i64 hi] w fun e w' => e = .returned (.bool (wi lo hi n)) ∧ w = w' := by
  by_cases h1 : lo ≤ n <;> by_cases h2 : n ≤ hi
  all_goals
    have hv : wi lo hi n = (decide (lo ≤ n) && decide (n ≤ hi)) := rfl
    simp only [h1, h2, decide_true, decide_false, Bool.and_true, Bool.and_false] at hv
    have HV := Lib.hid hv
    clear hv
    go_enter Try.func46, Try.ntmps46
    go_wp2
    go_ret
    exact ⟨ret_bool HV.out.symm, rfl⟩
theorem rwithin_c (lo hi n : Int) (w : World) : Calls Try.prog 73 #[.int .i64 n, .int .i64 lo, .int .i64 hi] w fun e w' => e = .returned (.bool (wi lo hi n)) ∧ w = w' := by
  by_cases h1 : lo ≤ n <;> by_cases h2 : n ≤ hi
  all_goals
    have hv : wi lo hi n = (decide (lo ≤ n) && decide (n ≤ hi)) := rfl
    simp only [h1, h2, decide_true, decide_false, Bool.and_true, Bool.and_false] at hv
    have HV := Lib.hid hv
    clear hv
    go_enter Try.func73, Try.ntmps73
    go_wp2
    go_ret
    exact ⟨ret_bool HV.out.symm, rfl⟩
/-- the error of spans. -/
def spr (lo hi : Int) (l : List (Int × Int)) : Int := if sw lo hi l then (if tn l then 2 else 0) else 7
theorem sw_next {lo hi : Int} {l : List (Int × Int)} {k : Nat} (hk : k < l.length) : sw lo hi (l.take (k + 1)) = (sw lo hi (l.take k) && (wi lo hi l[k].1 && wi lo hi l[k].2)) := by
  unfold sw
  rw [List.take_succ_eq_append_getElem hk, List.all_append]
  simp
theorem tn_next {l : List (Int × Int)} {k : Nat} (hk : k < l.length) : tn (l.take (k + 1)) = (tn (l.take k) || decide (l[k].2 < l[k].1)) := by
  unfold tn
  rw [List.take_succ_eq_append_getElem hk, List.any_append]
  simp
set_option maxRecDepth 100000 in
set_option maxHeartbeats 4000000 in
theorem spread_c (A : Option Addr) (l : List (Int × Int)) (c : Nat) (lo hi : Int) (w : World) (hl : l.length ≤ 1000) (hp : SpAt w A l) :
    Calls Try.prog 96 #[.slice A l.length c, .int .i64 lo, .int .i64 hi] w fun e w' => e = .returned (.int .i64 (spr lo hi l)) ∧ Below w.heap.size w w' := by
  go_enter Try.func96, Try.ntmps96
  go_wp2_with fail
  go_loopw [7, 8] (fun b i wr => ∃ (k : Nat) (bv : Bool), k ≤ l.length ∧ i = .int .i64 k ∧ b = .bool bv ∧ Since w wr ∧ Hid (bv = tn (l.take k)) ∧ Hid (sw lo hi (l.take k) = true)) (fun _ i _ => l.length - (intOf i).toNat)
  case atStart => exact ⟨0, false, Nat.zero_le _, rfl, rfl, Since.refl _, rfl, rfl⟩
  case round =>
    obtain ⟨k, bv, hk, rfl, rfl, hsn, HT, HS⟩ := hrel
    by_cases hlt : k < l.length
    · obtain ⟨ad, hA, c0, c1⟩ := hp.get hlt
      subst hA
      have k0 := keep_cell hsn.1 c0
      have k1 := keep_cell hsn.1 c1
      have HTN := Lib.hid (tn_next hlt)
      have HSN := Lib.hid (sw_next (lo := lo) (hi := hi) hlt)
      clear c0 c1
      have HNo : Hid ((wi lo hi l[k].1 && wi lo hi l[k].2) = false → spr lo hi l = 7) := fun h => by
        unfold spr
        rw [if_neg (by rw [sw_at hlt h]; decide)]
      go_wp2_with fail
      refine (rwithin_c lo hi l[k].1 _).mono ?_
      rintro e w' ⟨rfl, rfl⟩
      rcases Bool.eq_false_or_eq_true (wi lo hi l[k].1) with h1 | h1
      · have H1 := Lib.hid h1
        rw [h1]
        clear h1
        go_wp2_with fail
        refine (rwithin_c lo hi l[k].2 _).mono ?_
        rintro e w' ⟨rfl, rfl⟩
        rcases Bool.eq_false_or_eq_true (wi lo hi l[k].2) with h2 | h2
        · have H2 := Lib.hid h2
          rw [h2]
          clear h2
          have HSk : Hid (sw lo hi (l.take (k + 1)) = true) := by show _ = _; rw [HSN.out, HS.out, H1.out, H2.out]; rfl
          cases bv
          · by_cases h3 : l[k].2 < l[k].1
            · have HT2 : Hid (true = tn (l.take (k + 1))) := by show _ = _; rw [HTN.out, ← HT.out]; simp [h3]
              go_wp2_with fail
              go_quiet (fail)
              go_wp2_with fail
              go_roundw
              case rel => exact ⟨k + 1, true, by omega, by go_num, rfl, ⟨bdrew hsn.1 _, hsn.2⟩, HT2, HSk⟩
              case measure => simp [intOf]; omega
            · have HT2 : Hid (false = tn (l.take (k + 1))) := by show _ = _; rw [HTN.out, ← HT.out]; simp [h3]
              have h3' : decide (l[k].2 < l[k].1) = false := decide_eq_false h3
              go_wp2_with fail
              go_quiet (fail)
              go_wp2_with fail
              go_roundw
              case rel => exact ⟨k + 1, false, by omega, by go_num, rfl, ⟨bdrew hsn.1 _, hsn.2⟩, HT2, HSk⟩
              case measure => simp [intOf]; omega
          · have HT2 : Hid (true = tn (l.take (k + 1))) := by show _ = _; rw [HTN.out, ← HT.out]; rfl
            go_wp2_with fail
            go_quiet (fail)
            go_wp2_with fail
            go_roundw
            case rel => exact ⟨k + 1, true, by omega, by go_num, rfl, ⟨bdrew hsn.1 _, hsn.2⟩, HT2, HSk⟩
            case measure => simp [intOf]; omega
        · rw [h2]
          have HV := Lib.hid (HNo.out (by rw [H1.out, h2]; rfl))
          clear h2
          go_wp2_with fail
          go_ret
          exact ⟨ret_int HV.out.symm, hsn.1⟩
      · rw [h1]
        have HV := Lib.hid (HNo.out (by rw [h1]; rfl))
        clear h1
        go_wp2_with fail
        go_ret
        exact ⟨ret_int HV.out.symm, hsn.1⟩
    · obtain rfl : k = l.length := by omega
      rw [List.take_length] at HT HS
      cases bv
      · have HV : Hid (0 = spr lo hi l) := by show _ = _; unfold spr; rw [if_pos HS.out, ← HT.out]; rfl
        go_wp2_with fail
        go_ret
        exact ⟨ret_int HV.out, hsn.1⟩
      · have HV : Hid (2 = spr lo hi l) := by show _ = _; unfold spr; rw [if_pos HS.out, ← HT.out]; rfl
        go_wp2_with fail
        go_ret
        exact ⟨ret_int HV.out, hsn.1⟩
theorem range_c (p : Int × Int) (lo hi : Int) (w : World) :
    Calls Try.prog 82 #[.agg #[.int .i64 p.1, .int .i64 p.2], .int .i64 lo, .int .i64 hi] w fun e w' => e = .returned (.int .i64 (spr lo hi [p])) ∧ Below w.heap.size w w' := by
  have hs0 := ((Since.refl w).alloc (.cells #[.int .i64 p.1, .int .i64 p.2] 48)).alloc (.cells #[.int .i64 p.1, .int .i64 p.2] 48)
  go_enter Try.func82, Try.ntmps82
  go_wp2_with fail
  refine (spread_c _ [p] _ lo hi _ (by simp) (SpAt.one (Blk.new1 _ _ _ _))).mono ?_
  rintro e w' ⟨rfl, hb⟩
  go_wp2_with fail
  go_ret
  exact ⟨rfl, (hs0.keep hb).1⟩
end Td
end Go.Proofs.Ythdcklonamgpiaa
/- The reference: names. -/
namespace Go.Proofs.Ythdcklonamgpiaa
open Go.RowKit
namespace Td
set_option linter.unusedSimpArgs false
set_option linter.unusedVariables false
attribute [local go_sem] Oper.semAt_some
theorem letterI_iff {a : Int} : letterI a = true ↔ 97 ≤ a ∧ a ≤ 122 := by simp [letterI]
theorem nameB_iff {b : UInt8} : nameB b = true ↔ (97 ≤ (b.toNat : Int) ∧ (b.toNat : Int) ≤ 122) ∨ (48 ≤ (b.toNat : Int) ∧ (b.toNat : Int) ≤ 57) := by simp [nameB, letterI, digitI]
set_option maxRecDepth 100000 in
set_option maxHeartbeats 4000000 in
theorem rname_c (s : ByteArray) (w : World) (hs : s.size ≤ maxLen) :
    Calls Try.prog 33 #[.string s] w fun e w' => e = .returned (.bool (isName s)) ∧ Below w.heap.size w w' := by
  unfold maxLen at hs
  by_cases h0 : wi 1 16 s.size = true
  · obtain ⟨p1, p16⟩ := wi_iff.1 h0
    have hpos : 0 < s.size := by omega
    have HE := Lib.hid (isName_eq hpos)
    have H0 := Lib.hid h0
    obtain ⟨c0, hc0⟩ : ∃ c : Nat, s[0].toNat = c := ⟨_, rfl⟩
    have HC0 := Lib.hid hc0
    clear h0
    have hp0 : (0 : Int) < (s.size : Int) := by omega
    go_enter Try.func33, Try.ntmps33
    go_wp2_with fail
    refine (rwithin_c 1 16 _ _).mono ?_
    rintro e w' ⟨rfl, rfl⟩
    rw [H0.out]
    rcases (by omega : (c0 : Int) < 97 ∨ (97 ≤ (c0 : Int) ∧ (c0 : Int) ≤ 122) ∨ (97 ≤ (c0 : Int) ∧ 122 < (c0 : Int))) with h | ⟨h1, h2⟩ | ⟨h1, h2⟩
    · have HV : Hid (false = isName s) := by
        show _ = _
        rw [HE.out, hc0]
        have : letterI (c0 : Int) = false := by rw [Bool.eq_false_iff, Ne, letterI_iff]; omega
        rw [this]; simp
      go_wp2_with fail
      go_ret
      exact ⟨ret_bool HV.out, Below.refl _ _⟩
    · have HL : Hid (letterI (s[0].toNat : Int) = true) := by show _ = _; rw [letterI_iff, hc0]; exact ⟨h1, h2⟩
      have h2' : ¬ (122 : Int) < (c0 : Int) := by omega
      have h1' : ¬ (c0 : Int) < 97 := by omega
      go_wp2_with fail
      clear h1 h2 h1' h2' hc0
      go_loopw [3, 4, 5] (fun i _ _ wr => ∃ k : Nat, 1 ≤ k ∧ k ≤ s.size ∧ i = .int .i64 k ∧ Since w wr ∧ Hid (∀ j (h : j < s.size), j < k → nameB s[j] = true)) (fun i _ _ _ => s.size - (intOf i).toNat)
      case atStart =>
        refine ⟨1, Nat.le_refl _, by omega, rfl, Since.refl _, fun j h hj => ?_⟩
        obtain rfl : j = 0 := by omega
        rw [nameB_iff]
        exact .inl (letterI_iff.1 HL.out)
      case round =>
        obtain ⟨k, hk1, hk, rfl, hsn, H⟩ := hrel
        by_cases hlt : k < s.size
        · obtain ⟨c, hc⟩ : ∃ c : Nat, s[k].toNat = c := ⟨_, rfl⟩
          have HC := Lib.hid hc
          have hki : (k : Int) < (s.size : Int) := by omega
          have hyes : Hid (((97 ≤ (c : Int) ∧ (c : Int) ≤ 122) ∨ (48 ≤ (c : Int) ∧ (c : Int) ≤ 57)) → ∀ j (h : j < s.size), j < k + 1 → nameB s[j] = true) := fun hcc j h hj => by
            by_cases e : j < k
            · exact H.out j h e
            · obtain rfl : j = k := by omega
              rw [nameB_iff, HC.out]; exact hcc
          have hno : Hid (¬ ((97 ≤ (c : Int) ∧ (c : Int) ≤ 122) ∨ (48 ≤ (c : Int) ∧ (c : Int) ≤ 57)) → false = isName s) := fun hcc => by
            rw [HE.out, all_not hlt (by rw [Bool.eq_false_iff, Ne, nameB_iff, HC.out]; exact hcc)]
            simp
          clear hp0 p1 p16
          rcases (by omega : (c : Int) < 48 ∨ (48 ≤ (c : Int) ∧ (c : Int) ≤ 57) ∨ (57 < (c : Int) ∧ (c : Int) < 97) ∨ (97 ≤ (c : Int) ∧ (c : Int) ≤ 122) ∨ 122 < (c : Int)) with h | ⟨h1, h2⟩ | ⟨h1, h2⟩ | ⟨h1, h2⟩ | h
          · have HV := Lib.hid (hno.out (by omega))
            have q1 : decide ((97 : Int) ≤ (c : Int)) = false := decide_eq_false (by omega)
            have q3 : decide ((48 : Int) ≤ (c : Int)) = false := decide_eq_false (by omega)
            go_wp2_with fail
            go_quiet (fail)
            go_wp2_with fail
            go_ret
            exact ⟨ret_bool HV.out, bdrew hsn.1 _⟩
          · have HV := Lib.hid (hyes.out (by omega))
            have q1 : decide ((97 : Int) ≤ (c : Int)) = false := decide_eq_false (by omega)
            have q3 : decide ((48 : Int) ≤ (c : Int)) = true := decide_eq_true (by omega)
            have q4 : decide ((c : Int) ≤ 57) = true := decide_eq_true (by omega)
            go_wp2_with fail
            go_quiet (fail)
            go_wp2_with fail
            go_roundw
            case rel => exact ⟨k + 1, by omega, by omega, by go_num, ⟨bdrew hsn.1 _, hsn.2⟩, HV⟩
            case measure => simp [intOf]; omega
          · have HV := Lib.hid (hno.out (by omega))
            have q1 : decide ((97 : Int) ≤ (c : Int)) = false := decide_eq_false (by omega)
            have q3 : decide ((48 : Int) ≤ (c : Int)) = true := decide_eq_true (by omega)
            have q4 : decide ((c : Int) ≤ 57) = false := decide_eq_false (by omega)
            go_wp2_with fail
            go_quiet (fail)
            go_wp2_with fail
            go_ret
            exact ⟨ret_bool HV.out, bdrew hsn.1 _⟩
          · have HV := Lib.hid (hyes.out (by omega))
            have q1 : decide ((97 : Int) ≤ (c : Int)) = true := decide_eq_true (by omega)
            have q2 : decide ((c : Int) ≤ 122) = true := decide_eq_true (by omega)
            have q3 : decide ((48 : Int) ≤ (c : Int)) = true := decide_eq_true (by omega)
            have q4 : decide ((c : Int) ≤ 57) = false := decide_eq_false (by omega)
            go_wp2_with fail
            go_quiet (fail)
            go_wp2_with fail
            go_roundw
            case rel => exact ⟨k + 1, by omega, by omega, by go_num, ⟨bdrew hsn.1 _, hsn.2⟩, HV⟩
            case measure => simp [intOf]; omega
          · have HV := Lib.hid (hno.out (by omega))
            have q1 : decide ((97 : Int) ≤ (c : Int)) = true := decide_eq_true (by omega)
            have q2 : decide ((c : Int) ≤ 122) = false := decide_eq_false (by omega)
            have q3 : decide ((48 : Int) ≤ (c : Int)) = true := decide_eq_true (by omega)
            have q4 : decide ((c : Int) ≤ 57) = false := decide_eq_false (by omega)
            go_wp2_with fail
            go_quiet (fail)
            go_wp2_with fail
            go_ret
            exact ⟨ret_bool HV.out, bdrew hsn.1 _⟩
        · have HV : Hid (true = isName s) := by
            show _ = _
            rw [HE.out, all_at (fun j h => H.out j h (by omega)), HL.out]
            have := wi_iff.1 H0.out
            rw [decide_eq_true (by omega)]
            rfl
          go_wp2_with fail
          go_ret
          exact ⟨ret_bool HV.out, hsn.1⟩
    · have HV : Hid (false = isName s) := by
        show _ = _
        rw [HE.out, hc0]
        have : letterI (c0 : Int) = false := by rw [Bool.eq_false_iff, Ne, letterI_iff]; omega
        rw [this]; simp
      have h1' : ¬ (c0 : Int) < 97 := by omega
      go_wp2_with fail
      go_ret
      exact ⟨ret_bool HV.out, Below.refl _ _⟩
  · have h0' : wi 1 16 s.size = false := by simpa using h0
    have HV : Hid (false = isName s) := by
      show _ = _
      by_cases hz : s.size = 0
      · exact (isName_size0 hz).symm
      · rw [isName_eq (by omega)]
        have := wi_no.1 h0'
        rw [decide_eq_false (by omega)]
        rfl
    have H0 := Lib.hid h0'
    clear h0 h0'
    go_enter Try.func33, Try.ntmps33
    go_wp2_with fail
    refine (rwithin_c 1 16 _ _).mono ?_
    rintro e w' ⟨rfl, rfl⟩
    rw [H0.out]
    go_wp2_with fail
    go_ret
    exact ⟨ret_bool HV.out, Below.refl _ _⟩
end Td
end Go.Proofs.Ythdcklonamgpiaa
/- The reference: fresh names, the plan of a space. -/
namespace Go.Proofs.Ythdcklonamgpiaa
open Go.RowKit
namespace Td
set_option linter.unusedSimpArgs false
set_option linter.unusedVariables false
attribute [local go_sem] Oper.semAt_some
/-- strings in a row. -/
def StAt (w : World) (A : Option Addr) (l : List ByteArray) : Prop :=
  l ≠ [] → ∃ a, A = some a ∧ ∀ i p, l[i]? = some p → w.cell? (a.add i) = some (.string p)
theorem StAt.keep {w w' : World} {A : Option Addr} {l : List ByteArray} (h : StAt w A l) (hb : Below w.heap.size w w') : StAt w' A l := fun hx =>
  let ⟨a, ha, hc⟩ := h hx; ⟨a, ha, fun i p hp => keep_cell hb (hc i p hp)⟩
theorem StAt.get {w : World} {A : Option Addr} {l : List ByteArray} (h : StAt w A l) {k : Nat} (hk : k < l.length) : ∃ a, A = some a ∧ w.cell? (a.add k) = some (.string l[k]) := by
  obtain ⟨a, ha, hc⟩ := h (fun e => by simp [e] at hk)
  exact ⟨a, ha, hc k _ (List.getElem?_eq_getElem hk)⟩
/-- the index of a string in a list, or -1. -/
def idxS (l : List ByteArray) (nm : ByteArray) : Int := match l.findIdx? (fun u => eqS u nm) with | some i => i | none => -1
theorem idxS_at {l : List ByteArray} {nm : ByteArray} {k : Nat} (hk : k < l.length) (h0 : ∀ j (h : j < l.length), j < k → eqS l[j] nm = false) (h1 : eqS l[k] nm = true) : idxS l nm = k := by
  have : l.findIdx? (fun u => eqS u nm) = some k := by
    rw [List.findIdx?_eq_some_iff_getElem]
    exact ⟨hk, h1, fun j hj => by simp [h0 j (by omega) hj]⟩
  simp [idxS, this]
theorem idxS_none {l : List ByteArray} {nm : ByteArray} (h0 : ∀ j (h : j < l.length), j < l.length → eqS l[j] nm = false) : idxS l nm = -1 := by
  have : l.findIdx? (fun u => eqS u nm) = none := by
    rw [List.findIdx?_eq_none_iff]
    intro x hx
    obtain ⟨j, hj, rfl⟩ := List.mem_iff_getElem.1 hx
    exact h0 j hj hj
  simp [idxS, this]
theorem idxS_any (l : List ByteArray) (nm : ByteArray) : 0 ≤ idxS l nm ↔ l.any (fun u => eqS u nm) = true := by
  unfold idxS
  cases h : l.findIdx? (fun u => eqS u nm) with
  | none =>
    rw [List.findIdx?_eq_none_iff] at h
    constructor
    · intro h'; simp at h'
    · intro h'
      rw [List.any_eq_true] at h'
      obtain ⟨x, hx, h2⟩ := h'
      rw [h x hx] at h2
      cases h2
  | some i =>
    rw [List.findIdx?_eq_some_iff_getElem] at h
    obtain ⟨hi, h1, _⟩ := h
    constructor
    · intro _; rw [List.any_eq_true]; exact ⟨l[i], List.getElem_mem _, h1⟩
    · intro _; simp
theorem place_c (A : Option Addr) (l : List ByteArray) (c : Nat) (nm : ByteArray) (w : World) (hl : l.length ≤ 1000) (hp : StAt w A l) :
    Calls Try.prog 81 #[.slice A l.length c, .string nm] w fun e w' => e = .returned (.int .i64 (idxS l nm)) ∧ w = w' := by
  go_enter Try.func81, Try.ntmps81
  go_wp2_with fail
  go_loop [5] (fun i => ∃ k : Nat, k ≤ l.length ∧ i = .int .i64 k ∧ Hid (∀ j (h : j < l.length), j < k → eqS l[j] nm = false)) (fun i => l.length - (intOf i).toNat)
  case atStart => exact ⟨0, Nat.zero_le _, rfl, fun j _ h => absurd h (by omega)⟩
  case round =>
    obtain ⟨k, hk, rfl, H0⟩ := hrel
    by_cases hlt : k < l.length
    · obtain ⟨ad, hA, c0⟩ := hp.get hlt
      subst hA
      rcases Bool.eq_false_or_eq_true (eqS l[k] nm) with he | he
      · have HV := Lib.hid (idxS_at hlt H0.out he)
        have he' : (l[k].toList == nm.toList) = true := he
        clear he
        go_wp2_with fail
        go_ret
        exact ⟨ret_int HV.out.symm, rfl⟩
      · have HE := Lib.hid he
        have he' : (l[k].toList == nm.toList) = false := he
        clear he
        go_wp2_with fail
        go_round
        case rel =>
          refine ⟨k + 1, by omega, by go_num, fun j h hj => ?_⟩
          rcases Nat.lt_or_ge j k with h1 | h1
          · exact H0.out j h h1
          · obtain rfl : j = k := by omega
            exact HE.out
        case measure => simp [intOf]; omega
    · have HV := Lib.hid (idxS_none (l := l) (nm := nm) (by obtain rfl : k = l.length := by omega
                                                            exact H0.out))
      go_wp2_with fail
      go_ret
      exact ⟨ret_int HV.out.symm, rfl⟩
def freshE (nm : ByteArray) (l : List ByteArray) : Int := if isName nm then (if l.any (fun u => eqS u nm) then 5 else 0) else 6
theorem fresh_c (A : Option Addr) (l : List ByteArray) (c : Nat) (nm : ByteArray) (w : World) (hl : l.length ≤ 1000) (hn : nm.size ≤ maxLen) (hp : StAt w A l) :
    Calls Try.prog 47 #[.string nm, .slice A l.length c] w fun e w' => e = .returned (.int .i64 (freshE nm l)) ∧ Below w.heap.size w w' := by
  go_enter Try.func47, Try.ntmps47
  go_wp2_with fail
  refine (rname_c _ _ hn).mono ?_
  rintro e w1 ⟨rfl, hb1⟩
  rcases Bool.eq_false_or_eq_true (isName nm) with h1 | h1
  · rw [h1]
    have H1 := Lib.hid h1
    clear h1
    go_wp2_with fail
    refine (place_c A l c nm _ hl (hp.keep hb1)).mono ?_
    rintro e w2 ⟨rfl, rfl⟩
    have hA := idxS_any l nm
    by_cases h2 : 0 ≤ idxS l nm
    · have HV : Hid (5 = freshE nm l) := by show _ = _; rw [freshE, if_pos H1.out, if_pos (hA.1 h2)]
      clear hA
      go_wp2_with fail
      go_ret
      exact ⟨ret_int HV.out, hb1⟩
    · have HV : Hid (0 = freshE nm l) := by show _ = _; rw [freshE, if_pos H1.out, if_neg (fun h => h2 (hA.2 h))]
      have h2' : idxS l nm < 0 := by omega
      clear hA
      go_wp2_with fail
      go_ret
      exact ⟨ret_int HV.out, hb1⟩
  · rw [h1]
    have HV : Hid (6 = freshE nm l) := by show _ = _; rw [freshE, h1]; rfl
    clear h1
    go_wp2_with fail
    go_ret
    exact ⟨ret_int HV.out, hb1⟩
theorem spr_cases (lo hi : Int) (l : List (Int × Int)) : (spr lo hi l = 7 ∧ sw lo hi l = false) ∨ (spr lo hi l = 2 ∧ sw lo hi l = true ∧ tn l = true) ∨ (spr lo hi l = 0 ∧ sw lo hi l = true ∧ tn l = false) := by
  unfold spr
  cases h : sw lo hi l
  · left; simp
  · cases h2 : tn l
    · right; right; simp
    · right; left; simp
end Td
end Go.Proofs.Ythdcklonamgpiaa
/- Strings that are appended. -/
namespace Go.Proofs.Ythdcklonamgpiaa
open Go.RowKit
namespace Td
set_option linter.unusedSimpArgs false
set_option linter.unusedVariables false
attribute [local go_sem] Oper.semAt_some
theorem info9 : (Try.prog.info? 9).map (fun i => (i.zero, i.size, i.bytes)) = some (some (.string ByteArray.empty), 1, 16) := by kernel_rfl
/-- append of one string behind a slice that owns its row. -/
theorem append_str {W : World} {B g : Nat} {v : Value} {l : List ByteArray} {s : ByteArray} (hown : W.ownsRow B 9 1 v l.length (l.map Value.string)) (hg : Blk W g 9 #[.string s]) (hl : l.length ≤ 1000) (hB : B ≤ W.heap.size) (ty : TypeId) :
    ∃ v' w', (Builtin.append_ #[85, 85] ty #[v, .slice (some ⟨g, 0, none⟩) 1 1]).run Try.prog W = .ok v' w' ∧ w'.ownsRow B 9 1 v' (l ++ [s]).length ((l ++ [s]).map Value.string) ∧ W.grownBy w' v.ownBlock := by
  obtain ⟨i0, hi0, hi1⟩ := Option.map_eq_some_iff.1 info9
  simp only [Prod.mk.injEq] at hi1
  obtain ⟨hz0, hz1, hz2⟩ := hi1
  obtain ⟨v', w', h1, h2, h3, _, h5⟩ := run_append_own_at (P := Try.prog) W B 85 ty 9 i0 _ 1 16 Try.underlying85 hi0 hz0 hz1 hz2 rfl (by omega)
    v l.length (l.map Value.string) hown ⟨g, 0, none⟩ 1 1 [.string s] (by simp) (fun j u hj => by
      rw [add_new]
      have := hg.cell j
      rw [this]
      simpa using hj) (by intro u hu; simp at hu; subst hu; rfl) (by simp only [maxLen]; omega) (by omega) hB
  refine ⟨v', w', h1, ?_, h3⟩
  rw [List.map_append, List.length_append]
  exact h2
theorem wpList_append_str {W : World} {ops : Array Oper} {rest : List Oper} {o : Oper} {a : Act} {Q : Exit → Act → World → Prop} (hgd : o.guard = none) (x y : Operand) (ho : o.op = .call { callee := .builtin .append, args := #[x, y], argTypes := #[85, 85] })
    (B g : Nat) (v : Value) (l : List ByteArray) (s : ByteArray) (hx : a.eval x = v) (hy : a.eval y = .slice (some ⟨g, 0, none⟩) 1 1) (hown : W.ownsRow B 9 1 v l.length (l.map Value.string)) (hg : Blk W g 9 #[.string s]) (hl : l.length ≤ 1000) (hB : B ≤ W.heap.size)
    (h : ∀ v' w', w'.ownsRow B 9 1 v' (l ++ [s]).length ((l ++ [s]).map Value.string) → W.grownBy w' v.ownBlock → wpList Try.prog ops Q rest (a.put o.dst v') w') : wpList Try.prog ops Q (o :: rest) a W := by
  refine wpList_plain hgd fun _ hK => ?_
  obtain ⟨v', w', hr, h2, h3⟩ := append_str hown hg hl hB o.type
  unfold Oper.wp execOp
  simp only [ho, resolve, invoke, builtin, Sem.run_bind, Sem.run_pure, Result.andThen_ok, List.map_toArray, List.map_cons, List.map_nil, hx, hy, hr]
  exact hK _ _ (h v' w' h2 h3)
theorem own_st {W : World} {B : Nat} {v : Value} {l : List ByteArray} (h : W.ownsRow B 9 1 v l.length (l.map Value.string)) : ∃ A c, v = .slice A l.length c ∧ StAt W A l := by
  rcases h.2 with ⟨rfl, h0⟩ | ⟨g, cap, cur, rfl, hB, hg, hn, hm, hs, ht⟩
  · have : l = [] := List.eq_nil_of_length_eq_zero h0
    subst this
    exact ⟨none, 0, rfl, fun hx => absurd rfl hx⟩
  · refine ⟨_, cap, rfl, fun hx => ⟨_, rfl, fun i p hp => ?_⟩⟩
    have hil : i < l.length := (List.getElem?_eq_some_iff.1 hp).1
    rw [add_new]
    have h1 : (l.map Value.string)[i]? = some (.string p) := by rw [List.getElem?_map, hp]; rfl
    rw [← ht, List.getElem?_take, if_pos (by omega)] at h1
    simp [World.cell?, hg]
    simpa using h1
theorem own_keep {W W' : World} {B sz n : Nat} {t : TypeId} {v : Value} {xs : List Value} (h : W.ownsRow B t sz v n xs) (hb : Below W.heap.size W W') : W'.ownsRow B t sz v n xs :=
  h.kept (row := none) ⟨hb.os, hb.tape, hb.output, hb.size, fun k hk _ => hb.block k hk⟩ (by cases hv : v.ownBlock <;> simp)
theorem info3 : (Try.prog.info? 3).map (fun i => (i.zero, i.size, i.bytes)) = some (some (.int .i64 0), 1, 8) := by kernel_rfl
/-- append of one number behind a slice that owns its row. -/
theorem append_one {W : World} {B g : Nat} {v : Value} {l : List Int} {x : Int} (hown : W.ownsRow B 3 1 v l.length (l.map fun x => .int .i64 x)) (hg : Blk W g 3 #[.int .i64 x]) (hl : l.length ≤ 1000) (hB : B ≤ W.heap.size) (ty : TypeId) :
    ∃ v' w', (Builtin.append_ #[25, 25] ty #[v, .slice (some ⟨g, 0, none⟩) 1 1]).run Try.prog W = .ok v' w' ∧ w'.ownsRow B 3 1 v' (l ++ [x]).length ((l ++ [x]).map fun x => .int .i64 x) ∧ W.grownBy w' v.ownBlock := by
  obtain ⟨i0, hi0, hi1⟩ := Option.map_eq_some_iff.1 info3
  simp only [Prod.mk.injEq] at hi1
  obtain ⟨hz0, hz1, hz2⟩ := hi1
  obtain ⟨v', w', h1, h2, h3, _, h5⟩ := run_append_own_at (P := Try.prog) W B 25 ty 3 i0 _ 1 8 Try.underlying25 hi0 hz0 hz1 hz2 rfl (by omega)
    v l.length (l.map fun x => .int .i64 x) hown ⟨g, 0, none⟩ 1 1 [.int .i64 x] (by simp) (fun j u hj => by
      rw [add_new]
      have := hg.cell j
      rw [this]
      simpa using hj) (by intro u hu; simp at hu; subst hu; rfl) (by simp only [maxLen]; omega) (by omega) hB
  refine ⟨v', w', h1, ?_, h3⟩
  rw [List.map_append, List.length_append]
  exact h2
theorem wpList_append_one {W : World} {ops : Array Oper} {rest : List Oper} {o : Oper} {a : Act} {Q : Exit → Act → World → Prop} (hgd : o.guard = none) (x y : Operand) (ho : o.op = .call { callee := .builtin .append, args := #[x, y], argTypes := #[25, 25] })
    (B g : Nat) (v : Value) (l : List Int) (n : Int) (hx : a.eval x = v) (hy : a.eval y = .slice (some ⟨g, 0, none⟩) 1 1) (hown : W.ownsRow B 3 1 v l.length (l.map fun x => .int .i64 x)) (hg : Blk W g 3 #[.int .i64 n]) (hl : l.length ≤ 1000) (hB : B ≤ W.heap.size)
    (h : ∀ v' w', w'.ownsRow B 3 1 v' (l ++ [n]).length ((l ++ [n]).map fun x => .int .i64 x) → W.grownBy w' v.ownBlock → wpList Try.prog ops Q rest (a.put o.dst v') w') : wpList Try.prog ops Q (o :: rest) a W := by
  refine wpList_plain hgd fun _ hK => ?_
  obtain ⟨v', w', hr, h2, h3⟩ := append_one hown hg hl hB o.type
  unfold Oper.wp execOp
  simp only [ho, resolve, invoke, builtin, Sem.run_bind, Sem.run_pure, Result.andThen_ok, List.map_toArray, List.map_cons, List.map_nil, hx, hy, hr]
  exact hK _ _ (h v' w' h2 h3)
end Td
end Go.Proofs.Ythdcklonamgpiaa
