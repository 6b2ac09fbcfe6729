import Derived.Test.YtmofbnadfgejiaaAwak
/- The reference: numbers and spans within a span. -/
namespace Go.Proofs.Ytmofbnadfgejiaa
open Go.RowKit
namespace Td
set_option linter.unusedSimpArgs false
set_option linter.unusedVariables false
attribute [local go_sem] Oper.semAt_some
theorem rin_c (lo hi n : Int) (w : World) : Calls Try.prog 46 #[.int .i64 n, .int .i64 lo, .int .i64 hi] w fun e w' => e = .returned (.bool (wi lo hi n)) ∧ w = w' := by
  by_cases h1 : lo ≤ n <;> by_cases h2 : n ≤ hi
  all_goals
    have hv : wi lo hi n = (decide (lo ≤ n) && decide (n ≤ hi)) := rfl
    simp only [h1, h2, decide_true, decide_false, Bool.and_true, Bool.and_false] at hv
    have HV := Lib.hid hv
    clear hv
    go_enter Try.func46, Try.ntmps46
    go_wp2
    go_ret
    exact ⟨ret_bool HV.out.symm, rfl⟩
theorem rwithin_c (lo hi n : Int) (w : World) : Calls Try.prog 90 #[.int .i64 n, .int .i64 lo, .int .i64 hi] w fun e w' => e = .returned (.bool (wi lo hi n)) ∧ w = w' := by
  by_cases h1 : lo ≤ n <;> by_cases h2 : n ≤ hi
  all_goals
    have hv : wi lo hi n = (decide (lo ≤ n) && decide (n ≤ hi)) := rfl
    simp only [h1, h2, decide_true, decide_false, Bool.and_true, Bool.and_false] at hv
    have HV := Lib.hid hv
    clear hv
    go_enter Try.func90, Try.ntmps90
    go_wp2
    go_ret
    exact ⟨ret_bool HV.out.symm, rfl⟩
/-- the error of spans. -/
def spr (lo hi : Int) (l : List (Int × Int)) : Int := if sw lo hi l then (if tn l then 2 else 0) else 7
theorem sw_next {lo hi : Int} {l : List (Int × Int)} {k : Nat} (hk : k < l.length) : sw lo hi (l.take (k + 1)) = (sw lo hi (l.take k) && (wi lo hi l[k].1 && wi lo hi l[k].2)) := by
  unfold sw
  rw [List.take_succ_eq_append_getElem hk, List.all_append]
  simp
theorem tn_next {l : List (Int × Int)} {k : Nat} (hk : k < l.length) : tn (l.take (k + 1)) = (tn (l.take k) || decide (l[k].2 < l[k].1)) := by
  unfold tn
  rw [List.take_succ_eq_append_getElem hk, List.any_append]
  simp
set_option maxRecDepth 100000 in
set_option maxHeartbeats 4000000 in
theorem spread_c (A : Option Addr) (l : List (Int × Int)) (c : Nat) (lo hi : Int) (w : World) (hl : l.length ≤ 1000) (hp : SpAt w A l) :
    Calls Try.prog 75 #[.slice A l.length c, .int .i64 lo, .int .i64 hi] w fun e w' => e = .returned (.int .i64 (spr lo hi l)) ∧ Below w.heap.size w w' := by
  go_enter Try.func75, Try.ntmps75
  go_wp2_with fail
  go_loopw [7, 8] (fun b i wr => ∃ (k : Nat) (bv : Bool), k ≤ l.length ∧ i = .int .i64 k ∧ b = .bool bv ∧ Since w wr ∧ Hid (bv = tn (l.take k)) ∧ Hid (sw lo hi (l.take k) = true)) (fun _ i _ => l.length - (intOf i).toNat)
  case atStart => exact ⟨0, false, Nat.zero_le _, rfl, rfl, Since.refl _, rfl, rfl⟩
  case round =>
    obtain ⟨k, bv, hk, rfl, rfl, hsn, HT, HS⟩ := hrel
    by_cases hlt : k < l.length
    · obtain ⟨ad, hA, c0, c1⟩ := hp.get hlt
      subst hA
      have k0 := keep_cell hsn.1 c0
      have k1 := keep_cell hsn.1 c1
      have HTN := Lib.hid (tn_next hlt)
      have HSN := Lib.hid (sw_next (lo := lo) (hi := hi) hlt)
      clear c0 c1
      have HNo : Hid ((wi lo hi l[k].1 && wi lo hi l[k].2) = false → spr lo hi l = 7) := fun h => by
        unfold spr
        rw [if_neg (by rw [sw_at hlt h]; decide)]
      go_wp2_with fail
      refine (rwithin_c lo hi l[k].1 _).mono ?_
      rintro e w' ⟨rfl, rfl⟩
      rcases Bool.eq_false_or_eq_true (wi lo hi l[k].1) with h1 | h1
      · have H1 := Lib.hid h1
        rw [h1]
        clear h1
        go_wp2_with fail
        refine (rwithin_c lo hi l[k].2 _).mono ?_
        rintro e w' ⟨rfl, rfl⟩
        rcases Bool.eq_false_or_eq_true (wi lo hi l[k].2) with h2 | h2
        · have H2 := Lib.hid h2
          rw [h2]
          clear h2
          have HSk : Hid (sw lo hi (l.take (k + 1)) = true) := by show _ = _; rw [HSN.out, HS.out, H1.out, H2.out]; rfl
          cases bv
          · by_cases h3 : l[k].2 < l[k].1
            · have HT2 : Hid (true = tn (l.take (k + 1))) := by show _ = _; rw [HTN.out, ← HT.out]; simp [h3]
              go_wp2_with fail
              go_quiet (fail)
              go_wp2_with fail
              go_roundw
              case rel => exact ⟨k + 1, true, by omega, by go_num, rfl, ⟨bdrew hsn.1 _, hsn.2⟩, HT2, HSk⟩
              case measure => simp [intOf]; omega
            · have HT2 : Hid (false = tn (l.take (k + 1))) := by show _ = _; rw [HTN.out, ← HT.out]; simp [h3]
              have h3' : decide (l[k].2 < l[k].1) = false := decide_eq_false h3
              go_wp2_with fail
              go_quiet (fail)
              go_wp2_with fail
              go_roundw
              case rel => exact ⟨k + 1, false, by omega, by go_num, rfl, ⟨bdrew hsn.1 _, hsn.2⟩, HT2, HSk⟩
              case measure => simp [intOf]; omega
          · have HT2 : Hid (true = tn (l.take (k + 1))) := by show _ = _; rw [HTN.out, ← HT.out]; rfl
            go_wp2_with fail
            go_quiet (fail)
            go_wp2_with fail
            go_roundw
            case rel => exact ⟨k + 1, true, by omega, by go_num, rfl, ⟨bdrew hsn.1 _, hsn.2⟩, HT2, HSk⟩
            case measure => simp [intOf]; omega
        · rw [h2]
          have HV := Lib.hid (HNo.out (by rw [H1.out, h2]; rfl))
          clear h2
          go_wp2_with fail
          go_ret
          exact ⟨ret_int HV.out.symm, hsn.1⟩
      · rw [h1]
        have HV := Lib.hid (HNo.out (by rw [h1]; rfl))
        clear h1
        go_wp2_with fail
        go_ret
        exact ⟨ret_int HV.out.symm, hsn.1⟩
    · obtain rfl : k = l.length := by omega
      rw [List.take_length] at HT HS
      cases bv
      · have HV : Hid (0 = spr lo hi l) := by show _ = _; unfold spr; rw [if_pos HS.out, ← HT.out]; rfl
        go_wp2_with fail
        go_ret
        exact ⟨ret_int HV.out, hsn.1⟩
      · have HV : Hid (2 = spr lo hi l) := by show _ = _; unfold spr; rw [if_pos HS.out, ← HT.out]; rfl
        go_wp2_with fail
        go_ret
        exact ⟨ret_int HV.out, hsn.1⟩
theorem range_c (p : Int × Int) (lo hi : Int) (w : World) :
    Calls Try.prog 45 #[.agg #[.int .i64 p.1, .int .i64 p.2], .int .i64 lo, .int .i64 hi] w fun e w' => e = .returned (.int .i64 (spr lo hi [p])) ∧ Below w.heap.size w w' := by
  have hs0 := ((Since.refl w).alloc (.cells #[.int .i64 p.1, .int .i64 p.2] 23)).alloc (.cells #[.int .i64 p.1, .int .i64 p.2] 23)
  go_enter Try.func45, Try.ntmps45
  go_wp2_with fail
  refine (spread_c _ [p] _ lo hi _ (by simp) (SpAt.one (Blk.new1 _ _ _ _))).mono ?_
  rintro e w' ⟨rfl, hb⟩
  go_wp2_with fail
  go_ret
  exact ⟨rfl, (hs0.keep hb).1⟩
end Td
end Go.Proofs.Ytmofbnadfgejiaa
/- The reference: names. -/
namespace Go.Proofs.Ytmofbnadfgejiaa
open Go.RowKit
namespace Td
set_option linter.unusedSimpArgs false
set_option linter.unusedVariables false
attribute [local go_sem] Oper.semAt_some
theorem letterI_iff {a : Int} : letterI a = true ↔ 97 ≤ a ∧ a ≤ 122 := by simp [letterI]
theorem nameB_iff {b : UInt8} : nameB b = true ↔ (97 ≤ (b.toNat : Int) ∧ (b.toNat : Int) ≤ 122) ∨ (48 ≤ (b.toNat : Int) ∧ (b.toNat : Int) ≤ 57) := by simp [nameB, letterI, digitI]
set_option maxRecDepth 100000 in
set_option maxHeartbeats 4000000 in
theorem rname_c (s : ByteArray) (w : World) (hs : s.size ≤ maxLen) :
    Calls Try.prog 76 #[.string s] w fun e w' => e = .returned (.bool (isName s)) ∧ Below w.heap.size w w' := by
  unfold maxLen at hs
  by_cases h0 : wi 1 16 s.size = true
  · obtain ⟨p1, p16⟩ := wi_iff.1 h0
    have hpos : 0 < s.size := by omega
    have HE := Lib.hid (isName_eq hpos)
    have H0 := Lib.hid h0
    obtain ⟨c0, hc0⟩ : ∃ c : Nat, s[0].toNat = c := ⟨_, rfl⟩
    have HC0 := Lib.hid hc0
    clear h0
    have hp0 : (0 : Int) < (s.size : Int) := by omega
    go_enter Try.func76, Try.ntmps76
    go_wp2_with fail
    refine (rwithin_c 1 16 _ _).mono ?_
    rintro e w' ⟨rfl, rfl⟩
    rw [H0.out]
    rcases (by omega : (c0 : Int) < 97 ∨ (97 ≤ (c0 : Int) ∧ (c0 : Int) ≤ 122) ∨ (97 ≤ (c0 : Int) ∧ 122 < (c0 : Int))) with h | ⟨h1, h2⟩ | ⟨h1, h2⟩
    · have HV : Hid (false = isName s) := by
        show _ = _
        rw [HE.out, hc0]
        have : letterI (c0 : Int) = false := by rw [Bool.eq_false_iff, Ne, letterI_iff]; omega
        rw [this]; simp
      go_wp2_with fail
      go_ret
      exact ⟨ret_bool HV.out, Below.refl _ _⟩
    · have HL : Hid (letterI (s[0].toNat : Int) = true) := by show _ = _; rw [letterI_iff, hc0]; exact ⟨h1, h2⟩
      have h2' : ¬ (122 : Int) < (c0 : Int) := by omega
      have h1' : ¬ (c0 : Int) < 97 := by omega
      go_wp2_with fail
      clear h1 h2 h1' h2' hc0
      go_loopw [3, 4, 5] (fun i _ _ wr => ∃ k : Nat, 1 ≤ k ∧ k ≤ s.size ∧ i = .int .i64 k ∧ Since w wr ∧ Hid (∀ j (h : j < s.size), j < k → nameB s[j] = true)) (fun i _ _ _ => s.size - (intOf i).toNat)
      case atStart =>
        refine ⟨1, Nat.le_refl _, by omega, rfl, Since.refl _, fun j h hj => ?_⟩
        obtain rfl : j = 0 := by omega
        rw [nameB_iff]
        exact .inl (letterI_iff.1 HL.out)
      case round =>
        obtain ⟨k, hk1, hk, rfl, hsn, H⟩ := hrel
        by_cases hlt : k < s.size
        · obtain ⟨c, hc⟩ : ∃ c : Nat, s[k].toNat = c := ⟨_, rfl⟩
          have HC := Lib.hid hc
          have hki : (k : Int) < (s.size : Int) := by omega
          have hyes : Hid (((97 ≤ (c : Int) ∧ (c : Int) ≤ 122) ∨ (48 ≤ (c : Int) ∧ (c : Int) ≤ 57)) → ∀ j (h : j < s.size), j < k + 1 → nameB s[j] = true) := fun hcc j h hj => by
            by_cases e : j < k
            · exact H.out j h e
            · obtain rfl : j = k := by omega
              rw [nameB_iff, HC.out]; exact hcc
          have hno : Hid (¬ ((97 ≤ (c : Int) ∧ (c : Int) ≤ 122) ∨ (48 ≤ (c : Int) ∧ (c : Int) ≤ 57)) → false = isName s) := fun hcc => by
            rw [HE.out, all_not hlt (by rw [Bool.eq_false_iff, Ne, nameB_iff, HC.out]; exact hcc)]
            simp
          clear hp0 p1 p16
          rcases (by omega : (c : Int) < 48 ∨ (48 ≤ (c : Int) ∧ (c : Int) ≤ 57) ∨ (57 < (c : Int) ∧ (c : Int) < 97) ∨ (97 ≤ (c : Int) ∧ (c : Int) ≤ 122) ∨ 122 < (c : Int)) with h | ⟨h1, h2⟩ | ⟨h1, h2⟩ | ⟨h1, h2⟩ | h
          · have HV := Lib.hid (hno.out (by omega))
            have q1 : decide ((97 : Int) ≤ (c : Int)) = false := decide_eq_false (by omega)
            have q3 : decide ((48 : Int) ≤ (c : Int)) = false := decide_eq_false (by omega)
            go_wp2_with fail
            go_quiet (fail)
            go_wp2_with fail
            go_ret
            exact ⟨ret_bool HV.out, bdrew hsn.1 _⟩
          · have HV := Lib.hid (hyes.out (by omega))
            have q1 : decide ((97 : Int) ≤ (c : Int)) = false := decide_eq_false (by omega)
            have q3 : decide ((48 : Int) ≤ (c : Int)) = true := decide_eq_true (by omega)
            have q4 : decide ((c : Int) ≤ 57) = true := decide_eq_true (by omega)
            go_wp2_with fail
            go_quiet (fail)
            go_wp2_with fail
            go_roundw
            case rel => exact ⟨k + 1, by omega, by omega, by go_num, ⟨bdrew hsn.1 _, hsn.2⟩, HV⟩
            case measure => simp [intOf]; omega
          · have HV := Lib.hid (hno.out (by omega))
            have q1 : decide ((97 : Int) ≤ (c : Int)) = false := decide_eq_false (by omega)
            have q3 : decide ((48 : Int) ≤ (c : Int)) = true := decide_eq_true (by omega)
            have q4 : decide ((c : Int) ≤ 57) = false := decide_eq_false (by omega)
            go_wp2_with fail
            go_quiet (fail)
            go_wp2_with fail
            go_ret
            exact ⟨ret_bool HV.out, bdrew hsn.1 _⟩
          · have HV := Lib.hid (hyes.out (by omega))
            have q1 : decide ((97 : Int) ≤ (c : Int)) = true := decide_eq_true (by omega)
            have q2 : decide ((c : Int) ≤ 122) = true := decide_eq_true (by omega)
            have q3 : decide ((48 : Int) ≤ (c : Int)) = true := decide_eq_true (by omega)
            have q4 : decide ((c : Int) ≤ 57) = false := decide_eq_false (by omega)
            go_wp2_with fail
            go_quiet (fail)
            go_wp2_with fail
            go_roundw
            case rel => exact ⟨k + 1, by omega, by omega, by go_num, ⟨bdrew hsn.1 _, hsn.2⟩, HV⟩
            case measure => simp [intOf]; omega
          · have HV := Lib.hid (hno.out (by omega))
            have q1 : decide ((97 : Int) ≤ (c : Int)) = true := decide_eq_true (by omega)
            have q2 : decide ((c : Int) ≤ 122) = false := decide_eq_false (by omega)
            have q3 : decide ((48 : Int) ≤ (c : Int)) = true := decide_eq_true (by omega)
            have q4 : decide ((c : Int) ≤ 57) = false := decide_eq_false (by omega)
            go_wp2_with fail
            go_quiet (fail)
            go_wp2_with fail
            go_ret
            exact ⟨ret_bool HV.out, bdrew hsn.1 _⟩
        · have HV : Hid (true = isName s) := by
            show _ = _
            rw [HE.out, all_at (fun j h => H.out j h (by omega)), HL.out]
            have := wi_iff.1 H0.out
            rw [decide_eq_true (by omega)]
            rfl
          go_wp2_with fail
          go_ret
          exact ⟨ret_bool HV.out, hsn.1⟩
    · have HV : Hid (false = isName s) := by
        show _ = _
        rw [HE.out, hc0]
        have : letterI (c0 : Int) = false := by rw [Bool.eq_false_iff, Ne, letterI_iff]; omega
        rw [this]; simp
      have h1' : ¬ (c0 : Int) < 97 := by omega
      go_wp2_with fail
      go_ret
      exact ⟨ret_bool HV.out, Below.refl _ _⟩
  · have h0' : wi 1 16 s.size = false := by simpa using h0
    have HV : Hid (false = isName s) := by
      show _ = _
      by_cases hz : s.size = 0
      · exact (isName_size0 hz).symm
      · rw [isName_eq (by omega)]
        have := wi_no.1 h0'
        rw [decide_eq_false (by omega)]
        rfl
    have H0 := Lib.hid h0'
    clear h0 h0'
    go_enter Try.func76, Try.ntmps76
    go_wp2_with fail
    refine (rwithin_c 1 16 _ _).mono ?_
    rintro e w' ⟨rfl, rfl⟩
    rw [H0.out]
    go_wp2_with fail
    go_ret
    exact ⟨ret_bool HV.out, Below.refl _ _⟩
end Td
end Go.Proofs.Ytmofbnadfgejiaa
/- The reference: fresh names, the plan of a space. -/
namespace Go.Proofs.Ytmofbnadfgejiaa
open Go.RowKit
namespace Td
set_option linter.unusedSimpArgs false
set_option linter.unusedVariables false
attribute [local go_sem] Oper.semAt_some
/-- strings in a row. -/
def StAt (w : World) (A : Option Addr) (l : List ByteArray) : Prop :=
  l ≠ [] → ∃ a, A = some a ∧ ∀ i p, l[i]? = some p → w.cell? (a.add i) = some (.string p)
theorem StAt.keep {w w' : World} {A : Option Addr} {l : List ByteArray} (h : StAt w A l) (hb : Below w.heap.size w w') : StAt w' A l := fun hx =>
  let ⟨a, ha, hc⟩ := h hx; ⟨a, ha, fun i p hp => keep_cell hb (hc i p hp)⟩
theorem StAt.get {w : World} {A : Option Addr} {l : List ByteArray} (h : StAt w A l) {k : Nat} (hk : k < l.length) : ∃ a, A = some a ∧ w.cell? (a.add k) = some (.string l[k]) := by
  obtain ⟨a, ha, hc⟩ := h (fun e => by simp [e] at hk)
  exact ⟨a, ha, hc k _ (List.getElem?_eq_getElem hk)⟩
/-- the index of a string in a list, or -1. -/
def idxS (l : List ByteArray) (nm : ByteArray) : Int := match l.findIdx? (fun u => eqS u nm) with | some i => i | none => -1
theorem idxS_at {l : List ByteArray} {nm : ByteArray} {k : Nat} (hk : k < l.length) (h0 : ∀ j (h : j < l.length), j < k → eqS l[j] nm = false) (h1 : eqS l[k] nm = true) : idxS l nm = k := by
  have : l.findIdx? (fun u => eqS u nm) = some k := by
    rw [List.findIdx?_eq_some_iff_getElem]
    exact ⟨hk, h1, fun j hj => by simp [h0 j (by omega) hj]⟩
  simp [idxS, this]
theorem idxS_none {l : List ByteArray} {nm : ByteArray} (h0 : ∀ j (h : j < l.length), j < l.length → eqS l[j] nm = false) : idxS l nm = -1 := by
  have : l.findIdx? (fun u => eqS u nm) = none := by
    rw [List.findIdx?_eq_none_iff]
    intro x hx
    obtain ⟨j, hj, rfl⟩ := List.mem_iff_getElem.1 hx
    exact h0 j hj hj
  simp [idxS, this]
theorem idxS_any (l : List ByteArray) (nm : ByteArray) : 0 ≤ idxS l nm ↔ l.any (fun u => eqS u nm) = true := by
  unfold idxS
  cases h : l.findIdx? (fun u => eqS u nm) with
  | none =>
    rw [List.findIdx?_eq_none_iff] at h
    constructor
    · intro h'; simp at h'
    · intro h'
      rw [List.any_eq_true] at h'
      obtain ⟨x, hx, h2⟩ := h'
      rw [h x hx] at h2
      cases h2
  | some i =>
    rw [List.findIdx?_eq_some_iff_getElem] at h
    obtain ⟨hi, h1, _⟩ := h
    constructor
    · intro _; rw [List.any_eq_true]; exact ⟨l[i], List.getElem_mem _, h1⟩
    · intro _; simp
theorem place_c (A : Option Addr) (l : List ByteArray) (c : Nat) (nm : ByteArray) (w : World) (hl : l.length ≤ 1000) (hp : StAt w A l) :
    Calls Try.prog 77 #[.slice A l.length c, .string nm] w fun e w' => e = .returned (.int .i64 (idxS l nm)) ∧ w = w' := by
  go_enter Try.func77, Try.ntmps77
  go_wp2_with fail
  go_loop [5] (fun i => ∃ k : Nat, k ≤ l.length ∧ i = .int .i64 k ∧ Hid (∀ j (h : j < l.length), j < k → eqS l[j] nm = false)) (fun i => l.length - (intOf i).toNat)
  case atStart => exact ⟨0, Nat.zero_le _, rfl, fun j _ h => absurd h (by omega)⟩
  case round =>
    obtain ⟨k, hk, rfl, H0⟩ := hrel
    by_cases hlt : k < l.length
    · obtain ⟨ad, hA, c0⟩ := hp.get hlt
      subst hA
      rcases Bool.eq_false_or_eq_true (eqS l[k] nm) with he | he
      · have HV := Lib.hid (idxS_at hlt H0.out he)
        have he' : (l[k].toList == nm.toList) = true := he
        clear he
        go_wp2_with fail
        go_ret
        exact ⟨ret_int HV.out.symm, rfl⟩
      · have HE := Lib.hid he
        have he' : (l[k].toList == nm.toList) = false := he
        clear he
        go_wp2_with fail
        go_round
        case rel =>
          refine ⟨k + 1, by omega, by go_num, fun j h hj => ?_⟩
          rcases Nat.lt_or_ge j k with h1 | h1
          · exact H0.out j h h1
          · obtain rfl : j = k := by omega
            exact HE.out
        case measure => simp [intOf]; omega
    · have HV := Lib.hid (idxS_none (l := l) (nm := nm) (by obtain rfl : k = l.length := by omega
                                                            exact H0.out))
      go_wp2_with fail
      go_ret
      exact ⟨ret_int HV.out.symm, rfl⟩
def freshE (nm : ByteArray) (l : List ByteArray) : Int := if isName nm then (if l.any (fun u => eqS u nm) then 5 else 0) else 6
theorem fresh_c (A : Option Addr) (l : List ByteArray) (c : Nat) (nm : ByteArray) (w : World) (hl : l.length ≤ 1000) (hn : nm.size ≤ maxLen) (hp : StAt w A l) :
    Calls Try.prog 47 #[.string nm, .slice A l.length c] w fun e w' => e = .returned (.int .i64 (freshE nm l)) ∧ Below w.heap.size w w' := by
  go_enter Try.func47, Try.ntmps47
  go_wp2_with fail
  refine (rname_c _ _ hn).mono ?_
  rintro e w1 ⟨rfl, hb1⟩
  rcases Bool.eq_false_or_eq_true (isName nm) with h1 | h1
  · rw [h1]
    have H1 := Lib.hid h1
    clear h1
    go_wp2_with fail
    refine (place_c A l c nm _ hl (hp.keep hb1)).mono ?_
    rintro e w2 ⟨rfl, rfl⟩
    have hA := idxS_any l nm
    by_cases h2 : 0 ≤ idxS l nm
    · have HV : Hid (5 = freshE nm l) := by show _ = _; rw [freshE, if_pos H1.out, if_pos (hA.1 h2)]
      clear hA
      go_wp2_with fail
      go_ret
      exact ⟨ret_int HV.out, hb1⟩
    · have HV : Hid (0 = freshE nm l) := by show _ = _; rw [freshE, if_pos H1.out, if_neg (fun h => h2 (hA.2 h))]
      have h2' : idxS l nm < 0 := by omega
      clear hA
      go_wp2_with fail
      go_ret
      exact ⟨ret_int HV.out, hb1⟩
  · rw [h1]
    have HV : Hid (6 = freshE nm l) := by show _ = _; rw [freshE, h1]; rfl
    clear h1
    go_wp2_with fail
    go_ret
    exact ⟨ret_int HV.out, hb1⟩
theorem spr_cases (lo hi : Int) (l : List (Int × Int)) : (spr lo hi l = 7 ∧ sw lo hi l = false) ∨ (spr lo hi l = 2 ∧ sw lo hi l = true ∧ tn l = true) ∨ (spr lo hi l = 0 ∧ sw lo hi l = true ∧ tn l = false) := by
  unfold spr
  cases h : sw lo hi l
  · left; simp
  · cases h2 : tn l
    · right; right; simp
    · right; left; simp
def planE (s : Spc) : Int := if spr 0 200 [(s.s0, s.s1)] = 7 ∨ spr (-20) 20 [(s.r0, s.r1), (s.b0, s.b1)] = 7 ∨ wi 0 200 s.lim = false then 7 else if spr 0 200 [(s.s0, s.s1)] ≠ 0 then spr 0 200 [(s.s0, s.s1)] else spr (-20) 20 [(s.r0, s.r1), (s.b0, s.b1)]
theorem planE_eq (s : Spc) : planE s = levE s := by
  unfold planE levE
  have ht : tn [(s.s0, s.s1), (s.r0, s.r1), (s.b0, s.b1)] = (tn [(s.s0, s.s1)] || tn [(s.r0, s.r1), (s.b0, s.b1)]) := by simp [tn]
  rw [ht]
  rcases spr_cases 0 200 [(s.s0, s.s1)] with ⟨a, b⟩ | ⟨a, b, c⟩ | ⟨a, b, c⟩ <;> rcases spr_cases (-20) 20 [(s.r0, s.r1), (s.b0, s.b1)] with ⟨d, e⟩ | ⟨d, e, f⟩ | ⟨d, e, f⟩ <;> cases g : wi 0 200 s.lim <;> simp_all
end Td
end Go.Proofs.Ytmofbnadfgejiaa
/- The reference: the error of a space's plan. -/
namespace Go.Proofs.Ytmofbnadfgejiaa
open Go.RowKit
namespace Td
set_option linter.unusedSimpArgs false
set_option linter.unusedVariables false
attribute [local go_sem] Oper.semAt_some
def NewS2 (p q : Int × Int) (v : Value) (X : World) : Prop := ∃ g : Nat, v = .slice (some ⟨g, 0, none⟩) 2 2 ∧ Blk X g 23 #[.int .i64 p.1, .int .i64 p.2, .int .i64 q.1, .int .i64 q.2]
theorem NewS2.stable (p q : Int × Int) : Vals5.Stable (.has (NewS2 p q)) := by
  rintro v w w' ⟨g, h1, h2⟩ hb
  exact ⟨g, h1, h2.keep hb⟩
set_option maxRecDepth 100000 in
set_option maxHeartbeats 4000000 in
theorem rplan_c (s : Spc) (m : Sl) (w : World) : Calls Try.prog 44 #[.agg (sV s m)] w fun e w' => e = .returned (.int .i64 (levE s)) ∧ Below w.heap.size w w' := by
  rw [← planE_eq]
  obtain ⟨E, hE⟩ : ∃ E, planE s = E := ⟨_, rfl⟩
  rw [hE]
  unfold planE at hE
  have hsn0 := (Since.refl w).alloc (.cells (sV s m) 27)
  have HS0 := Lib.hid (Blk.new w 27 (sV s m))
  go_enter Try.func44, Try.ntmps44
  go_wp2_with fail
  refine Vals6.regionAll (fun X => Blk X w.heap.size 27 (sV s m) ∧ Since w X) [some 5, some 6, some 7, some 8, some 9, some 10, some 11, some 12, some 13, some 3] [.is (.pointer (some ⟨w.heap.size, 0, none⟩)), .is (.agg #[.int .i64 s.s0, .int .i64 s.s1]), .is (.int .i64 (spr 0 200 [(s.s0, s.s1)])), .is (.pointer (some ⟨w.heap.size, 2, none⟩)), .is (.agg #[.int .i64 s.r0, .int .i64 s.r1]), .is (.pointer (some ⟨w.heap.size, 4, none⟩)), .is (.agg #[.int .i64 s.b0, .int .i64 s.b1]), .has (NewS2 (s.r0, s.r1) (s.b0, s.b1)), .is (.int .i64 (spr (-20) 20 [(s.r0, s.r1), (s.b0, s.b1)])), .is (.int .i64 (spr 0 200 [(s.s0, s.s1)]))] (by kernel_rfl) rfl rfl (by kernel_rfl) (by kernel_rfl) (by kernel_rfl) (by kernel_rfl) (by kernel_rfl) (by kernel_rfl) (by kernel_rfl) (⟨HS0.out.drew, hsn0.drew⟩) ?_ ?_
  · refine Vals5.Steps.run (by kernel_rfl) (Vals5.Stable.is _) ?_ ?_
    · intro a W hS pre old K hK
      have e1 : a.tmps.getD 1 undef = .pointer (some ⟨w.heap.size, 0, none⟩) := old 1 _ (by kernel_rfl) rfl
      clear pre old
      simp only [Array.getD_eq_getD_getElem?] at e1
      go_simp
      exact hK _ _ hS (Below.refl _ _) rfl
    refine Vals5.Steps.run (by kernel_rfl) (Vals5.Stable.is _) ?_ ?_
    · intro a W hS pre old K hK
      have e5 : a.tmps.getD 5 undef = .pointer (some ⟨w.heap.size, 0, none⟩) := pre 0 5 _ (by kernel_rfl) rfl rfl
      clear pre old
      simp only [Array.getD_eq_getD_getElem?] at e5
      have hS9 := hS
      obtain ⟨l1, _⟩ := hS9
      obtain ⟨c0, c1, c2, c3, c4, c5, c6, c7, c8⟩ := l1.space
      go_simp
      exact hK _ _ hS (Below.refl _ _) rfl
    refine Vals5.Steps.run (by kernel_rfl) (Vals5.Stable.is _) ?_ ?_
    · intro a W hS pre old K hK
      have e6 : a.tmps.getD 6 undef = .agg #[.int .i64 s.s0, .int .i64 s.s1] := pre 1 6 _ (by kernel_rfl) rfl rfl
      clear pre old
      simp only [Array.getD_eq_getD_getElem?] at e6
      go_simp
      refine (range_c (s.s0, s.s1) 0 200 _).mono ?_
      rintro e w' ⟨rfl, hb'⟩
      obtain ⟨h1, h2⟩ := hS
      exact hK _ _ ⟨h1.keep hb', h2.keep hb'⟩ hb' rfl
    refine Vals5.Steps.run (by kernel_rfl) (Vals5.Stable.is _) ?_ ?_
    · intro a W hS pre old K hK
      have e1 : a.tmps.getD 1 undef = .pointer (some ⟨w.heap.size, 0, none⟩) := old 1 _ (by kernel_rfl) rfl
      clear pre old
      simp only [Array.getD_eq_getD_getElem?] at e1
      go_simp
      exact hK _ _ hS (Below.refl _ _) rfl
    refine Vals5.Steps.run (by kernel_rfl) (Vals5.Stable.is _) ?_ ?_
    · intro a W hS pre old K hK
      have e8 : a.tmps.getD 8 undef = .pointer (some ⟨w.heap.size, 2, none⟩) := pre 3 8 _ (by kernel_rfl) rfl rfl
      clear pre old
      simp only [Array.getD_eq_getD_getElem?] at e8
      have hS9 := hS
      obtain ⟨l1, _⟩ := hS9
      obtain ⟨c0, c1, c2, c3, c4, c5, c6, c7, c8⟩ := l1.space
      go_simp
      exact hK _ _ hS (Below.refl _ _) rfl
    refine Vals5.Steps.run (by kernel_rfl) (Vals5.Stable.is _) ?_ ?_
    · intro a W hS pre old K hK
      have e1 : a.tmps.getD 1 undef = .pointer (some ⟨w.heap.size, 0, none⟩) := old 1 _ (by kernel_rfl) rfl
      clear pre old
      simp only [Array.getD_eq_getD_getElem?] at e1
      go_simp
      exact hK _ _ hS (Below.refl _ _) rfl
    refine Vals5.Steps.run (by kernel_rfl) (Vals5.Stable.is _) ?_ ?_
    · intro a W hS pre old K hK
      have e10 : a.tmps.getD 10 undef = .pointer (some ⟨w.heap.size, 4, none⟩) := pre 5 10 _ (by kernel_rfl) rfl rfl
      clear pre old
      simp only [Array.getD_eq_getD_getElem?] at e10
      have hS9 := hS
      obtain ⟨l1, _⟩ := hS9
      obtain ⟨c0, c1, c2, c3, c4, c5, c6, c7, c8⟩ := l1.space
      go_simp
      exact hK _ _ hS (Below.refl _ _) rfl
    refine Vals5.Steps.run (by kernel_rfl) (NewS2.stable _ _) ?_ ?_
    · intro a W hS pre old K hK
      have e9 : a.tmps.getD 9 undef = .agg #[.int .i64 s.r0, .int .i64 s.r1] := pre 4 9 _ (by kernel_rfl) rfl rfl
      have e11 : a.tmps.getD 11 undef = .agg #[.int .i64 s.b0, .int .i64 s.b1] := pre 6 11 _ (by kernel_rfl) rfl rfl
      clear pre old
      simp only [Array.getD_eq_getD_getElem?] at e9 e11
      go_simp
      have hb' : Below W.heap.size W (W.alloc (.cells #[.int .i64 s.r0, .int .i64 s.r1, .int .i64 s.b0, .int .i64 s.b1] 23)) := (Below.refl _ _).alloc (Nat.le_refl _) _
      obtain ⟨h1, h2⟩ := hS
      exact hK _ _ ⟨h1.keep hb', h2.keep hb'⟩ hb' ⟨_, rfl, Blk.new _ _ _⟩
    refine Vals5.Steps.run (by kernel_rfl) (Vals5.Stable.is _) ?_ ?_
    · intro a W hS pre old K hK
      have f12 := pre 7 12 _ (by kernel_rfl) rfl rfl
      clear pre old
      obtain ⟨g9, hy9, hg9⟩ := f12
      simp only [Array.getD_eq_getD_getElem?] at hy9
      go_simp
      refine (spread_c _ [(s.r0, s.r1), (s.b0, s.b1)] 2 (-20) 20 _ (by simp) (SpAt.two (p := (s.r0, s.r1)) (r := (s.b0, s.b1)) hg9)).mono ?_
      rintro e w' ⟨rfl, hb'⟩
      obtain ⟨h1, h2⟩ := hS
      exact hK _ _ ⟨h1.keep hb', h2.keep hb'⟩ hb' rfl
    refine Vals5.Steps.run (by kernel_rfl) (Vals5.Stable.is _) ?_ ?_
    · intro a W hS pre old K hK
      have e7 : a.tmps.getD 7 undef = .int .i64 (spr 0 200 [(s.s0, s.s1)]) := pre 2 7 _ (by kernel_rfl) rfl rfl
      clear pre old
      simp only [Array.getD_eq_getD_getElem?] at e7
      go_simp
      exact hK _ _ hS (Below.refl _ _) rfl
    exact Vals5.Steps.nil
  rintro X ⟨HS1, hsn1⟩
  simp only [Vals5.All, List.getLast_cons_cons, List.getLast_singleton]
  rintro v12 -
  simp only [Vals.putAll, List.setIfInBounds_toArray, List.set_cons_zero, List.set_cons_succ]
  intro K hK
  go_simp
  refine hK _ _ ?_
  clear hK K
  obtain ⟨a, ha⟩ : ∃ a, spr 0 200 [(s.s0, s.s1)] = a := ⟨_, rfl⟩
  obtain ⟨b, hb⟩ : ∃ b, spr (-20) 20 [(s.r0, s.r1), (s.b0, s.b1)] = b := ⟨_, rfl⟩
  rw [ha, hb] at hE
  rw [ha, hb]
  clear ha hb
  have HE := Lib.hid hE
  clear hE
  have c6 := HS1.cell 6
  simp only [List.getElem?_toArray, List.getElem?_cons_zero, List.getElem?_cons_succ] at c6
  by_cases h1 : a = 7
  · have HV : Hid (7 = E) := by have := HE.out; rwa [if_pos (.inl h1)] at this
    subst h1
    clear HE
    go_wp2_with fail
    go_ret
    exact ⟨ret_int HV.out, hsn1.1⟩
  · have h1' : ((a : Int) == 7) = false := by simpa using h1
    by_cases h2 : b = 7
    · have HV : Hid (7 = E) := by have := HE.out; rwa [if_pos (.inr (.inl h2))] at this
      subst h2
      clear HE h1
      go_wp2_with fail
      go_ret
      exact ⟨ret_int HV.out, hsn1.1⟩
    · have h2' : ((b : Int) == 7) = false := by simpa using h2
      have H1 := Lib.hid h1
      have H2 := Lib.hid h2
      clear h1 h2
      go_wp2_with fail
      refine (rin_c 0 200 s.lim _).mono ?_
      rintro e w' ⟨rfl, rfl⟩
      rcases Bool.eq_false_or_eq_true (wi 0 200 s.lim) with h3 | h3
      · have HV : Hid ((if a ≠ 0 then a else b) = E) := by
          have := HE.out
          rwa [if_neg (by rintro (h | h | h); exact H1.out h; exact H2.out h; rw [h3] at h; cases h)] at this
        rw [h3]
        clear h3 HE
        by_cases h4 : a = 0
        · have HV2 : Hid (b = E) := by have := HV.out; rwa [if_neg (by simpa using h4)] at this
          subst h4
          go_wp2_with fail
          go_ret
          exact ⟨ret_int HV2.out, hsn1.1⟩
        · have HV2 : Hid (a = E) := by have := HV.out; rwa [if_pos h4] at this
          have h4' : (a != 0) = true := by simpa using h4
          clear h4
          go_wp2_with fail
          go_ret
          exact ⟨ret_int HV2.out, hsn1.1⟩
      · have HV : Hid (7 = E) := by have := HE.out; rwa [if_pos (.inr (.inr h3))] at this
        rw [h3]
        clear h3 HE
        go_wp2_with fail
        go_ret
        exact ⟨ret_int HV.out, hsn1.1⟩
end Td
end Go.Proofs.Ytmofbnadfgejiaa
/- The reference: Check. -/
namespace Go.Proofs.Ytmofbnadfgejiaa
open Go.RowKit
namespace Td
set_option linter.unusedSimpArgs false
set_option linter.unusedVariables false
attribute [local go_sem] Oper.semAt_some
theorem blow_bad {l : List (Int × Int)} {k : Nat} (hk : k < l.length) (h : spr 0 60 [l[k]] ≠ 0) : blowAt l k = spr 0 60 [l[k]] := by
  simp only [blowAt, List.getElem?_eq_getElem hk, blowE]
  rcases spr_cases 0 60 [l[k]] with ⟨a, b⟩ | ⟨a, b, c⟩ | ⟨a, b, c⟩
  · rw [b, a]; rfl
  · rw [b, c, a]; rfl
  · exact absurd a h
theorem blow_first {l : List (Int × Int)} (hk : 0 < l.length) (h : spr 0 60 [l[0]] = 0) : blowAt l 0 = 0 := by
  simp only [blowAt, List.getElem?_eq_getElem hk, blowE]
  rcases spr_cases 0 60 [l[0]] with ⟨a, b⟩ | ⟨a, b, c⟩ | ⟨a, b, c⟩
  · rw [h] at a; cases a
  · rw [h] at a; cases a
  · rw [b, c]; rfl
theorem blow_next {l : List (Int × Int)} {j : Nat} (hk : j + 1 < l.length) (h : spr 0 60 [l[j + 1]] = 0) : blowAt l (j + 1) = if l[j + 1].1 ≤ l[j].2 then 2 else 0 := by
  simp only [blowAt, List.getElem?_eq_getElem hk, blowE]
  rcases spr_cases 0 60 [l[j + 1]] with ⟨a, b⟩ | ⟨a, b, c⟩ | ⟨a, b, c⟩
  · rw [h] at a; cases a
  · rw [h] at a; cases a
  · rw [b, c, last_take (by omega) rfl]; rfl
theorem chk_blow {s : Spc} {k : Nat} (h1 : levE s = 0) (h4 : s.blows.length ≤ 4) (hk : k < s.blows.length) (h0 : ∀ j, j < k → blowAt s.blows j = 0) (h : blowAt s.blows k ≠ 0) : chk s = (2, (k : Int), blowAt s.blows k) := by
  have hb : blowsE s.blows = ((k : Int), blowAt s.blows k) := by unfold blowsE; rw [if_neg (by omega), ff_at hk h0 h]
  simp [chk, h1, hb, h]
theorem chk_tool {s : Spc} {k : Nat} (h1 : levE s = 0) (h2 : (blowsE s.blows).2 = 0) (h3 : wi 1 3 s.tools.length = true) (hk : k < s.tools.length) (h0 : ∀ j, j < k → toolAt s.tools j = 0) (h : toolAt s.tools k ≠ 0) : chk s = (3, (k : Int), toolAt s.tools k) := by
  have hb : toolsE s.tools = ((k : Int), toolAt s.tools k) := by unfold toolsE; rw [if_pos h3, ff_at hk h0 h]
  simp [chk, h1, h2, hb, h]
theorem tool_fresh {l : List Tl} {k : Nat} (hk : k < l.length) (h : freshE l[k].name ((l.take k).map Tl.name) ≠ 0) : toolAt l k = freshE l[k].name ((l.take k).map Tl.name) := by
  simp only [toolAt, List.getElem?_eq_getElem hk, toolE, freshE, List.any_map] at h ⊢
  split at h
  · rename_i h1
    split at h
    · rename_i h2
      rw [if_pos h1, if_pos h1, if_pos h2, if_pos (by simpa [Function.comp_def] using h2)]
    · exact absurd rfl h
  · rename_i h1
    rw [if_neg h1, if_neg h1]
theorem tool_err {l : List Tl} {k : Nat} (hk : k < l.length) (h : freshE l[k].name ((l.take k).map Tl.name) = 0) : toolAt l k = if wi 0 50 l[k].err then 0 else 7 := by
  simp only [toolAt, List.getElem?_eq_getElem hk, toolE, freshE, List.any_map] at h ⊢
  split at h
  · rename_i h1
    split at h
    · cases h
    · rename_i h2
      rw [if_pos h1, if_neg (by simpa [Function.comp_def] using h2)]
  · cases h
theorem info9 : (Try.prog.info? 9).map (fun i => (i.zero, i.size, i.bytes)) = some (some (.string ByteArray.empty), 1, 16) := by kernel_rfl
/-- append of one string behind a slice that owns its row. -/
theorem append_str {W : World} {B g : Nat} {v : Value} {l : List ByteArray} {s : ByteArray} (hown : W.ownsRow B 9 1 v l.length (l.map Value.string)) (hg : Blk W g 9 #[.string s]) (hl : l.length ≤ 1000) (hB : B ≤ W.heap.size) (ty : TypeId) :
    ∃ v' w', (Builtin.append_ #[89, 89] ty #[v, .slice (some ⟨g, 0, none⟩) 1 1]).run Try.prog W = .ok v' w' ∧ w'.ownsRow B 9 1 v' (l ++ [s]).length ((l ++ [s]).map Value.string) ∧ W.grownBy w' v.ownBlock := by
  obtain ⟨i0, hi0, hi1⟩ := Option.map_eq_some_iff.1 info9
  simp only [Prod.mk.injEq] at hi1
  obtain ⟨hz0, hz1, hz2⟩ := hi1
  obtain ⟨v', w', h1, h2, h3, _, h5⟩ := run_append_own_at (P := Try.prog) W B 89 ty 9 i0 _ 1 16 Try.underlying89 hi0 hz0 hz1 hz2 rfl (by omega)
    v l.length (l.map Value.string) hown ⟨g, 0, none⟩ 1 1 [.string s] (by simp) (fun j u hj => by
      rw [add_new]
      have := hg.cell j
      rw [this]
      simpa using hj) (by intro u hu; simp at hu; subst hu; rfl) (by simp only [maxLen]; omega) (by omega) hB
  refine ⟨v', w', h1, ?_, h3⟩
  rw [List.map_append, List.length_append]
  exact h2
theorem wpList_append_str {W : World} {ops : Array Oper} {rest : List Oper} {o : Oper} {a : Act} {Q : Exit → Act → World → Prop} (hgd : o.guard = none) (x y : Operand) (ho : o.op = .call { callee := .builtin .append, args := #[x, y], argTypes := #[89, 89] })
    (B g : Nat) (v : Value) (l : List ByteArray) (s : ByteArray) (hx : a.eval x = v) (hy : a.eval y = .slice (some ⟨g, 0, none⟩) 1 1) (hown : W.ownsRow B 9 1 v l.length (l.map Value.string)) (hg : Blk W g 9 #[.string s]) (hl : l.length ≤ 1000) (hB : B ≤ W.heap.size)
    (h : ∀ v' w', w'.ownsRow B 9 1 v' (l ++ [s]).length ((l ++ [s]).map Value.string) → W.grownBy w' v.ownBlock → wpList Try.prog ops Q rest (a.put o.dst v') w') : wpList Try.prog ops Q (o :: rest) a W := by
  refine wpList_plain hgd fun _ hK => ?_
  obtain ⟨v', w', hr, h2, h3⟩ := append_str hown hg hl hB o.type
  unfold Oper.wp execOp
  simp only [ho, resolve, invoke, builtin, Sem.run_bind, Sem.run_pure, Result.andThen_ok, List.map_toArray, List.map_cons, List.map_nil, hx, hy, hr]
  exact hK _ _ (h v' w' h2 h3)
theorem own_st {W : World} {B : Nat} {v : Value} {l : List ByteArray} (h : W.ownsRow B 9 1 v l.length (l.map Value.string)) : ∃ A c, v = .slice A l.length c ∧ StAt W A l := by
  rcases h.2 with ⟨rfl, h0⟩ | ⟨g, cap, cur, rfl, hB, hg, hn, hm, hs, ht⟩
  · have : l = [] := List.eq_nil_of_length_eq_zero h0
    subst this
    exact ⟨none, 0, rfl, fun hx => absurd rfl hx⟩
  · refine ⟨_, cap, rfl, fun hx => ⟨_, rfl, fun i p hp => ?_⟩⟩
    have hil : i < l.length := (List.getElem?_eq_some_iff.1 hp).1
    rw [add_new]
    have h1 : (l.map Value.string)[i]? = some (.string p) := by rw [List.getElem?_map, hp]; rfl
    rw [← ht, List.getElem?_take, if_pos (by omega)] at h1
    simp [World.cell?, hg]
    simpa using h1
end Td
end Go.Proofs.Ytmofbnadfgejiaa
/- The reference: Check, whole. -/
namespace Go.Proofs.Ytmofbnadfgejiaa
open Go.RowKit
namespace Td
set_option linter.unusedSimpArgs false
set_option linter.unusedVariables false
attribute [local go_sem] Oper.semAt_some
theorem own_keep {W W' : World} {B sz n : Nat} {t : TypeId} {v : Value} {xs : List Value} (h : W.ownsRow B t sz v n xs) (hb : Below W.heap.size W W') : W'.ownsRow B t sz v n xs :=
  h.kept (row := none) ⟨hb.os, hb.tape, hb.output, hb.size, fun k hk _ => hb.block k hk⟩ (by cases hv : v.ownBlock <;> simp)
theorem names_next {l : List Tl} {k : Nat} (hk : k < l.length) : (l.take (k + 1)).map Tl.name = (l.take k).map Tl.name ++ [l[k].name] := by
  rw [List.take_succ_eq_append_getElem hk, List.map_append]
  rfl
set_option maxRecDepth 100000 in
set_option maxHeartbeats 8000000 in
theorem rcheck_c (s : Spc) (m : Sl) (w : World) (hp : SAt w m s) :
    Calls Try.prog 16 #[.agg (sV s m)] w fun e w' => e = .returned (.tuple #[.int .i64 (chk s).1, .int .i64 (chk s).2.1, .int .i64 (chk s).2.2]) ∧ Below w.heap.size w w' := by
  have hs0 := (Since.refl w).alloc (.cells (sV s m) 27)
  have HB0 := Lib.hid (Blk.new w 27 (sV s m))
  go_enter Try.func16, Try.ntmps16
  go_wp2_with fail
  refine (rplan_c s m _).mono ?_
  rintro e w1 ⟨rfl, hb1⟩
  have hs1 := hs0.keep hb1
  have HB1 := Lib.hid (HB0.out.keep hb1)
  clear hs0 HB0 hb1
  by_cases h1 : levE s = 0
  · rw [h1]
    have H1 := Lib.hid h1
    clear h1
    obtain ⟨c0, c1, c2, c3, c4, c5, c6, c7, c8⟩ := HB1.out.space
    by_cases h4 : 4 < s.blows.length
    · have HV : Hid (chk s = (2, 0, 3)) := by show _ = _; simp [chk, H1.out, blowsE, h4]
      have h4' : (4 : Int) < (s.blows.length : Int) := by omega
      clear h4
      go_wp2_with fail
      go_ret3
      exact ⟨by rw [HV.out]; rfl, hs1.1⟩
    · have h4n : s.blows.length ≤ 4 := by omega
      have h4' : ¬ (4 : Int) < (s.blows.length : Int) := by omega
      clear h4
      go_wp2_with fail
      clear c0 c1 c2 c3 c4 c5 c6 c7 c8 h4'
      go_loopw [5, 6] (fun _ i wr => ∃ k : Nat, k ≤ s.blows.length ∧ i = .int .i64 k ∧ Since w wr ∧ Hid (Blk wr w.heap.size 27 (sV s m)) ∧ Hid (∀ j, j < k → blowAt s.blows j = 0)) (fun _ i _ => s.blows.length - (intOf i).toNat)
      case atStart => exact ⟨0, Nat.zero_le _, rfl, hs1, HB1, fun j h => absurd h (by omega)⟩
      case round =>
        obtain ⟨k, hk, rfl, hsn, HB, H0⟩ := hrel
        by_cases hlt : k < s.blows.length
        · obtain ⟨ad, hA, b0, b1⟩ := hp.bl.get hlt
          have k0 := keep_cell hsn.1 b0
          have k1 := keep_cell hsn.1 b1
          have HA := Lib.hid hA
          clear hA
          have hki : (k : Int) < (s.blows.length : Int) := by omega
          obtain ⟨_, _, _, _, _, _, _, c7, _⟩ := HB.out.space
          rw [HA.out] at c7
          clear b0 b1
          go_wp2_with fail
          refine (range_c s.blows[k] 0 60 _).mono ?_
          rintro e w2 ⟨rfl, hb2⟩
          have hsn2 := hsn.keep hb2
          have HB2 := Lib.hid (HB.out.keep hb2)
          have k2 := keep_cell hb2 k0
          clear k0 k1 c7
          obtain ⟨_, _, _, _, _, _, _, c7, _⟩ := HB2.out.space
          rw [HA.out] at c7
          obtain ⟨E, hE⟩ : ∃ E, spr 0 60 [s.blows[k]] = E := ⟨_, rfl⟩
          rw [hE]
          by_cases h5 : E = 0
          · subst h5
            cases k with
            | zero =>
              have HF := Lib.hid (blow_first hlt hE)
              clear hE
              go_wp2_with fail
              go_quiet (fail)
              go_wp2_with fail
              go_roundw
              case rel =>
                refine ⟨1, by omega, by go_num, ⟨bdrew hsn2.1 _, hsn2.2⟩, HB2, fun j h => ?_⟩
                obtain rfl : j = 0 := by omega
                exact HF.out
              case measure => simp [intOf]; omega
            | succ j =>
              have HF := Lib.hid (blow_next hlt hE)
              clear hE
              obtain ⟨ad2, hA2, b2, b3⟩ := hp.bl.get (show j < s.blows.length by omega)
              rw [HA.out] at hA2
              obtain rfl : ad = ad2 := Option.some.inj hA2
              have k3 := keep_cell hsn2.1 b3
              have hj0 : (0 : Int) < ((j + 1 : Nat) : Int) := by omega
              have hj2 : (j : Int) < (s.blows.length : Int) := by omega
              have hw9 : IntKind.i64.wrap (((j + 1 : Nat) : Int) - 1) = (j : Int) := by rw [IntWalk.i64_in _ (by omega)]; omega
              push_cast at hj0 hw9 hki k2 ⊢
              clear b2 b3 hA2
              by_cases h6 : s.blows[j + 1].1 ≤ s.blows[j].2
              · have HV : Hid (chk s = (2, ((j + 1 : Nat) : Int), 2)) := by
                  show _ = _
                  have hh : blowAt s.blows (j + 1) = 2 := by rw [HF.out, if_pos h6]
                  rw [chk_blow H1.out h4n hlt H0.out (by rw [hh]; decide), hh]
                go_wp2_with fail
                go_quiet (fail)
                go_wp2_with fail
                go_ret3
                exact ⟨by rw [HV.out]; push_cast; rfl, bdrew hsn2.1 _⟩
              · have HN : Hid (blowAt s.blows (j + 1) = 0) := by show _ = _; rw [HF.out, if_neg h6]
                have h6' : ¬ s.blows[j + 1].1 ≤ s.blows[j].2 := h6
                go_wp2_with fail
                go_quiet (fail)
                go_wp2_with fail
                go_roundw
                case rel =>
                  refine ⟨j + 1 + 1, by omega, by first | go_num | (push_cast; rfl), ⟨bdrew hsn2.1 _, hsn2.2⟩, HB2, fun i h => ?_⟩
                  rcases Nat.lt_or_ge i (j + 1) with h7 | h7
                  · exact H0.out i h7
                  · obtain rfl : i = j + 1 := by omega
                    exact HN.out
                case measure => simp [intOf]; omega
          · have HV : Hid (chk s = (2, (k : Int), E)) := by
              show _ = _
              have hh := blow_bad hlt (by rw [hE]; exact h5)
              rw [hE] at hh
              rw [chk_blow H1.out h4n hlt H0.out (by rw [hh]; exact h5), hh]
            have h5' : ((E : Int) == 0) = false := by simpa using h5
            have h5n : ((E : Int) != 0) = true := by simpa using h5
            clear h5 hE
            go_wp2_with fail
            go_quiet (fail)
            go_wp2_with fail
            go_ret3
            exact ⟨by rw [HV.out]; rfl, bdrew hsn2.1 _⟩
        · obtain rfl : k = s.blows.length := by omega
          have H2 : Hid ((blowsE s.blows).2 = 0) := by show _ = _; unfold blowsE; rw [if_neg (by omega), ff_ok H0.out]
          clear H0
          obtain ⟨c0, c1, c2, c3, c4, c5, c6, c7, c8⟩ := HB.out.space
          go_wp2_with fail
          refine (rin_c 1 3 _ _).mono ?_
          rintro e w2 ⟨rfl, rfl⟩
          rcases Bool.eq_false_or_eq_true (wi 1 3 s.tools.length) with h3 | h3
          · rw [h3]
            have H3 := Lib.hid h3
            obtain ⟨t1, t3⟩ := wi_iff.1 h3
            clear h3
            go_wp2_with fail
            clear c0 c1 c2 c3 c4 c5 c6 c7 c8
            have hown0 : wr.ownsRow w.heap.size 9 1 (.slice none 0 0) ((s.tools.take 0).map Tl.name).length (((s.tools.take 0).map Tl.name).map Value.string) := ⟨rfl, .inl ⟨rfl, rfl⟩⟩
            have HO0 := Lib.hid hown0
            clear hown0
            go_loopw [5, 7, 8] (fun _ nv i wx => ∃ k : Nat, k ≤ s.tools.length ∧ i = .int .i64 k ∧ Since w wx ∧ Hid (Blk wx w.heap.size 27 (sV s m)) ∧ Hid (wx.ownsRow (w.heap.size + 1) 9 1 nv ((s.tools.take k).map Tl.name).length (((s.tools.take k).map Tl.name).map Value.string)) ∧ Hid (∀ j, j < k → toolAt s.tools j = 0)) (fun _ _ i _ => s.tools.length - (intOf i).toNat)
            case atStart => exact ⟨0, Nat.zero_le _, rfl, hsn, HB, ⟨rfl, .inl ⟨rfl, rfl⟩⟩, fun j h => absurd h (by omega)⟩
            case round =>
              obtain ⟨k, hk, rfl, hsk, HBk, HOk, HTk⟩ := hrel
              by_cases hkt : k < s.tools.length
              · obtain ⟨ad, hA, n0, n1⟩ := hp.tl.get hkt
                have HA := Lib.hid hA
                have k0 := keep_cell hsk.1 n0
                have HN1 := Lib.hid n1
                have hnm := hp.nm _ (List.getElem_mem hkt)
                have HNX := Lib.hid (names_next hkt)
                obtain ⟨NA, Nc, hnv, hst⟩ := own_st HOk.out
                have hki : (k : Int) < (s.tools.length : Int) := by omega
                have HF1 : Hid (freshE s.tools[k].name ((s.tools.take k).map Tl.name) ≠ 0 → toolAt s.tools k = freshE s.tools[k].name ((s.tools.take k).map Tl.name)) := fun h => tool_fresh hkt h
                have HF2 : Hid (freshE s.tools[k].name ((s.tools.take k).map Tl.name) = 0 → toolAt s.tools k = if wi 0 50 s.tools[k].err then 0 else 7) := fun h => tool_err hkt h
                obtain ⟨L, hL⟩ : ∃ L, (s.tools.take k).map Tl.name = L := ⟨_, rfl⟩
                have hLl : L.length ≤ 1000 := by rw [← hL]; simp; omega
                rw [hL] at HOk hnv hst HF1 HF2 HNX
                have hnv' := hnv
                subst hnv
                obtain ⟨_, _, _, _, _, _, _, _, c8⟩ := HBk.out.space
                rw [HA.out] at c8
                clear hA n0 n1 hL
                go_wp2_with fail
                refine (fresh_c NA L Nc s.tools[k].name _ hLl hnm hst).mono ?_
                rintro e w2 ⟨rfl, hb2⟩
                obtain ⟨E, hE⟩ : ∃ E, freshE s.tools[k].name L = E := ⟨_, rfl⟩
                rw [hE] at HF1 HF2 ⊢
                have hs2 := hsk.keep hb2
                have HB2 := Lib.hid (HBk.out.keep hb2)
                have HO2 := Lib.hid (own_keep HOk.out hb2)
                have k2 := keep_cell hb2 k0
                clear k0 c8 hst hE HOk HBk
                obtain ⟨_, _, _, _, _, _, _, _, c8⟩ := HB2.out.space
                rw [HA.out] at c8
                have hq3 : Below w2.heap.size w2 (w2.alloc (.cells #[.string s.tools[k].name] 9)) := (Below.refl _ _).alloc (Nat.le_refl _) _
                have HO3 := Lib.hid (own_keep HO2.out hq3)
                have HN3 := Lib.hid (Blk.new w2 9 #[.string s.tools[k].name])
                have hzb := HB2.out.lt
                have HLl := Lib.hid hLl
                clear hLl hnm
                go_wp2_with (at_builtin; refine wpList_append_str rfl (.tmp 77) (.tmp 84) rfl (w.heap.size + 1) w2.heap.size _ L s.tools[k].name (by go_simp) (by go_simp) HO3.out HN3.out HLl.out (by simp; omega) ?_)
                intro v3 w3 ho3 hg3
                have hlt3 := HO3.out.lt
                have HB4 := Lib.hid ((HB2.out.keep hq3).grown hg3 (fun h => by have := (hlt3 _ h.symm).1; omega))
                have hs4 : Since w w3 := ⟨(hs2.keep hq3).1.grown hg3 (hs2.keep hq3).2 (fun q h => by have := (hlt3 q h).1; omega), Nat.le_trans (hs2.keep hq3).2 hg3.size⟩
                have HO4 : Hid (w3.ownsRow (w.heap.size + 1) 9 1 v3 ((s.tools.take (k + 1)).map Tl.name).length (((s.tools.take (k + 1)).map Tl.name).map Value.string)) := by
                  show World.ownsRow _ _ _ _ _ _ _
                  rw [HNX.out]
                  rw [List.length_append, List.map_append]
                  exact ho3
                have k4 := keep_cell hs4.1 HN1.out
                clear c8 k2 ho3 hg3 hlt3 HO3 HN3 hq3
                obtain ⟨_, _, _, _, _, _, _, _, c8⟩ := HB4.out.space
                rw [HA.out] at c8
                by_cases h5 : E = 0
                · have HT := Lib.hid (HF2.out h5)
                  subst h5
                  go_wp2_with fail
                  refine (rin_c 0 50 s.tools[k].err _).mono ?_
                  rintro e w5 ⟨rfl, rfl⟩
                  clear c8 k4
                  rcases Bool.eq_false_or_eq_true (wi 0 50 s.tools[k].err) with h6 | h6
                  · have HT2 : Hid (toolAt s.tools k = 0) := by show _ = _; rw [HT.out, if_pos h6]
                    rw [h6]
                    clear h6
                    go_wp2_with fail
                    go_roundw
                    case rel =>
                      refine ⟨k + 1, by omega, by go_num, hs4, HB4, HO4, fun j h => ?_⟩
                      rcases Nat.lt_or_ge j k with h7 | h7
                      · exact HTk.out j h7
                      · obtain rfl : j = k := by omega
                        exact HT2.out
                    case measure => simp [intOf]; omega
                  · have HV : Hid (chk s = (3, (k : Int), 7)) := by
                      show _ = _
                      have hh : toolAt s.tools k = 7 := by rw [HT.out, if_neg (by rw [h6]; decide)]
                      rw [chk_tool H1.out H2.out H3.out hkt HTk.out (by rw [hh]; decide), hh]
                    rw [h6]
                    clear h6
                    go_wp2_with fail
                    go_ret3
                    exact ⟨by rw [HV.out]; rfl, hs4.1⟩
                · have HV : Hid (chk s = (3, (k : Int), E)) := by
                    show _ = _
                    rw [chk_tool H1.out H2.out H3.out hkt HTk.out (by rw [HF1.out h5]; exact h5), HF1.out h5]
                  have h5' : ((E : Int) == 0) = false := by simpa using h5
                  have h5n : ((E : Int) != 0) = true := by simpa using h5
                  clear h5
                  go_wp2_with fail
                  go_ret3
                  exact ⟨by rw [HV.out]; rfl, hs4.1⟩
              · have hkl : k = s.tools.length := by omega
                have HV : Hid (chk s = (0, 0, 0)) := by
                  show _ = _
                  have ht : toolsE s.tools = (0, 0) := by unfold toolsE; rw [if_pos H3.out, ff_ok (fun j h => HTk.out j (by omega))]
                  simp [chk, H1.out, H2.out, ht]
                obtain ⟨_, _, _, _, _, _, _, _, c8⟩ := HBk.out.space
                subst hkl
                go_wp2_with fail
                go_ret3
                exact ⟨by rw [HV.out]; rfl, hsk.1⟩
          · have HV : Hid (chk s = (3, 0, 3)) := by show _ = _; simp [chk, H1.out, H2.out, toolsE, h3]
            rw [h3]
            clear h3
            go_wp2_with fail
            go_ret3
            exact ⟨by rw [HV.out]; rfl, hsn.1⟩
  · have HV : Hid (chk s = (1, 0, levE s)) := by show _ = _; simp [chk, h1]
    have h1' : (levE s != 0) = true := by simpa using h1
    clear h1
    go_wp2_with fail
    go_ret3
    exact ⟨by rw [HV.out]; rfl, hs1.1⟩
end Td
end Go.Proofs.Ytmofbnadfgejiaa
