import Derived.Test.YtccacinnelmnpaaRefA
/- The reference: names. -/
namespace Go.Proofs.Ytccacinnelmnpaa
open Go.RowKit
namespace Td
set_option linter.unusedSimpArgs false
set_option linter.unusedVariables false
attribute [local go_sem] Oper.semAt_some
theorem letterI_iff {a : Int} : letterI a = true ↔ 97 ≤ a ∧ a ≤ 122 := by simp [letterI]
theorem nameB_iff {b : UInt8} : nameB b = true ↔ (97 ≤ (b.toNat : Int) ∧ (b.toNat : Int) ≤ 122) ∨ (48 ≤ (b.toNat : Int) ∧ (b.toNat : Int) ≤ 57) := by simp [nameB, letterI, digitI]
set_option maxRecDepth 100000 in
set_option maxHeartbeats 4000000 in
theorem rname_c (s : ByteArray) (w : World) (hs : s.size ≤ maxLen) :
    Calls Try.prog 76 #[.string s] w fun e w' => e = .returned (.bool (isName s)) ∧ Below w.heap.size w w' := by
  unfold maxLen at hs
  by_cases h0 : wi 1 16 s.size = true
  · obtain ⟨p1, p16⟩ := wi_iff.1 h0
    have hpos : 0 < s.size := by omega
    have HE := Lib.hid (isName_eq hpos)
    have H0 := Lib.hid h0
    obtain ⟨c0, hc0⟩ : ∃ c : Nat, s[0].toNat = c := ⟨_, rfl⟩
    have HC0 := Lib.hid hc0
    clear h0
    have hp0 : (0 : Int) < (s.size : Int) := by omega
    go_enter Try.func76, Try.ntmps76
    go_wp2_with fail
    refine (rwithin_c 1 16 _ _).mono ?_
    rintro e w' ⟨rfl, rfl⟩
    rw [H0.out]
    rcases (by omega : (c0 : Int) < 97 ∨ (97 ≤ (c0 : Int) ∧ (c0 : Int) ≤ 122) ∨ (97 ≤ (c0 : Int) ∧ 122 < (c0 : Int))) with h | ⟨h1, h2⟩ | ⟨h1, h2⟩
    · have HV : Hid (false = isName s) := by
        show _ = _
        rw [HE.out, hc0]
        have : letterI (c0 : Int) = false := by rw [Bool.eq_false_iff, Ne, letterI_iff]; omega
        rw [this]; simp
      go_wp2_with fail
      go_ret
      exact ⟨ret_bool HV.out, Below.refl _ _⟩
    · have HL : Hid (letterI (s[0].toNat : Int) = true) := by show _ = _; rw [letterI_iff, hc0]; exact ⟨h1, h2⟩
      have h2' : ¬ (122 : Int) < (c0 : Int) := by omega
      have h1' : ¬ (c0 : Int) < 97 := by omega
      go_wp2_with fail
      clear h1 h2 h1' h2' hc0
      go_loopw [3, 4, 5] (fun i _ _ wr => ∃ k : Nat, 1 ≤ k ∧ k ≤ s.size ∧ i = .int .i64 k ∧ Since w wr ∧ Hid (∀ j (h : j < s.size), j < k → nameB s[j] = true)) (fun i _ _ _ => s.size - (intOf i).toNat)
      case atStart =>
        refine ⟨1, Nat.le_refl _, by omega, rfl, Since.refl _, fun j h hj => ?_⟩
        obtain rfl : j = 0 := by omega
        rw [nameB_iff]
        exact .inl (letterI_iff.1 HL.out)
      case round =>
        obtain ⟨k, hk1, hk, rfl, hsn, H⟩ := hrel
        by_cases hlt : k < s.size
        · obtain ⟨c, hc⟩ : ∃ c : Nat, s[k].toNat = c := ⟨_, rfl⟩
          have HC := Lib.hid hc
          have hki : (k : Int) < (s.size : Int) := by omega
          have hyes : Hid (((97 ≤ (c : Int) ∧ (c : Int) ≤ 122) ∨ (48 ≤ (c : Int) ∧ (c : Int) ≤ 57)) → ∀ j (h : j < s.size), j < k + 1 → nameB s[j] = true) := fun hcc j h hj => by
            by_cases e : j < k
            · exact H.out j h e
            · obtain rfl : j = k := by omega
              rw [nameB_iff, HC.out]; exact hcc
          have hno : Hid (¬ ((97 ≤ (c : Int) ∧ (c : Int) ≤ 122) ∨ (48 ≤ (c : Int) ∧ (c : Int) ≤ 57)) → false = isName s) := fun hcc => by
            rw [HE.out, all_not hlt (by rw [Bool.eq_false_iff, Ne, nameB_iff, HC.out]; exact hcc)]
            simp
          clear hp0 p1 p16
          rcases (by omega : (c : Int) < 48 ∨ (48 ≤ (c : Int) ∧ (c : Int) ≤ 57) ∨ (57 < (c : Int) ∧ (c : Int) < 97) ∨ (97 ≤ (c : Int) ∧ (c : Int) ≤ 122) ∨ 122 < (c : Int)) with h | ⟨h1, h2⟩ | ⟨h1, h2⟩ | ⟨h1, h2⟩ | h
          · have HV := Lib.hid (hno.out (by omega))
            have q1 : decide ((97 : Int) ≤ (c : Int)) = false := decide_eq_false (by omega)
            have q3 : decide ((48 : Int) ≤ (c : Int)) = false := decide_eq_false (by omega)
            go_wp2_with fail
            go_quiet (fail)
            go_wp2_with fail
            go_ret
            exact ⟨ret_bool HV.out, bdrew hsn.1 _⟩
          · have HV := Lib.hid (hyes.out (by omega))
            have q1 : decide ((97 : Int) ≤ (c : Int)) = false := decide_eq_false (by omega)
            have q3 : decide ((48 : Int) ≤ (c : Int)) = true := decide_eq_true (by omega)
            have q4 : decide ((c : Int) ≤ 57) = true := decide_eq_true (by omega)
            go_wp2_with fail
            go_quiet (fail)
            go_wp2_with fail
            go_roundw
            case rel => exact ⟨k + 1, by omega, by omega, by go_num, ⟨bdrew hsn.1 _, hsn.2⟩, HV⟩
            case measure => simp [intOf]; omega
          · have HV := Lib.hid (hno.out (by omega))
            have q1 : decide ((97 : Int) ≤ (c : Int)) = false := decide_eq_false (by omega)
            have q3 : decide ((48 : Int) ≤ (c : Int)) = true := decide_eq_true (by omega)
            have q4 : decide ((c : Int) ≤ 57) = false := decide_eq_false (by omega)
            go_wp2_with fail
            go_quiet (fail)
            go_wp2_with fail
            go_ret
            exact ⟨ret_bool HV.out, bdrew hsn.1 _⟩
          · have HV := Lib.hid (hyes.out (by omega))
            have q1 : decide ((97 : Int) ≤ (c : Int)) = true := decide_eq_true (by omega)
            have q2 : decide ((c : Int) ≤ 122) = true := decide_eq_true (by omega)
            have q3 : decide ((48 : Int) ≤ (c : Int)) = true := decide_eq_true (by omega)
            have q4 : decide ((c : Int) ≤ 57) = false := decide_eq_false (by omega)
            go_wp2_with fail
            go_quiet (fail)
            go_wp2_with fail
            go_roundw
            case rel => exact ⟨k + 1, by omega, by omega, by go_num, ⟨bdrew hsn.1 _, hsn.2⟩, HV⟩
            case measure => simp [intOf]; omega
          · have HV := Lib.hid (hno.out (by omega))
            have q1 : decide ((97 : Int) ≤ (c : Int)) = true := decide_eq_true (by omega)
            have q2 : decide ((c : Int) ≤ 122) = false := decide_eq_false (by omega)
            have q3 : decide ((48 : Int) ≤ (c : Int)) = true := decide_eq_true (by omega)
            have q4 : decide ((c : Int) ≤ 57) = false := decide_eq_false (by omega)
            go_wp2_with fail
            go_quiet (fail)
            go_wp2_with fail
            go_ret
            exact ⟨ret_bool HV.out, bdrew hsn.1 _⟩
        · have HV : Hid (true = isName s) := by
            show _ = _
            rw [HE.out, all_at (fun j h => H.out j h (by omega)), HL.out]
            have := wi_iff.1 H0.out
            rw [decide_eq_true (by omega)]
            rfl
          go_wp2_with fail
          go_ret
          exact ⟨ret_bool HV.out, hsn.1⟩
    · have HV : Hid (false = isName s) := by
        show _ = _
        rw [HE.out, hc0]
        have : letterI (c0 : Int) = false := by rw [Bool.eq_false_iff, Ne, letterI_iff]; omega
        rw [this]; simp
      have h1' : ¬ (c0 : Int) < 97 := by omega
      go_wp2_with fail
      go_ret
      exact ⟨ret_bool HV.out, Below.refl _ _⟩
  · have h0' : wi 1 16 s.size = false := by simpa using h0
    have HV : Hid (false = isName s) := by
      show _ = _
      by_cases hz : s.size = 0
      · exact (isName_size0 hz).symm
      · rw [isName_eq (by omega)]
        have := wi_no.1 h0'
        rw [decide_eq_false (by omega)]
        rfl
    have H0 := Lib.hid h0'
    clear h0 h0'
    go_enter Try.func76, Try.ntmps76
    go_wp2_with fail
    refine (rwithin_c 1 16 _ _).mono ?_
    rintro e w' ⟨rfl, rfl⟩
    rw [H0.out]
    go_wp2_with fail
    go_ret
    exact ⟨ret_bool HV.out, Below.refl _ _⟩
end Td
end Go.Proofs.Ytccacinnelmnpaa
