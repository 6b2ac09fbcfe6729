import Derived.Test.YtccacinnelmnpaaLim
namespace Go.Proofs.Ytccacinnelmnpaa
open Go.RowKit
namespace Td
set_option linter.unusedSimpArgs false
set_option linter.unusedVariables false
set_option maxHeartbeats 400000 in
theorem letter_c (a : Int) (w : World) :
    Calls Try.prog 87 #[.int .u8 a] w fun e w' => e = .returned (.bool (letterI a)) ∧ w = w' := by
  by_cases hc : 97 ≤ a
  · go_enter Try.func87, Try.ntmps87
    go_wp2
    go_ret
    exact ⟨ret_bool (by simp [letterI, hc]), rfl⟩
  · go_enter Try.func87, Try.ntmps87
    go_wp2
    go_ret
    exact ⟨ret_bool (by simp [letterI]; omega), rfl⟩
set_option maxHeartbeats 400000 in
theorem digit_c (a : Int) (w : World) :
    Calls Try.prog 88 #[.int .u8 a] w fun e w' => e = .returned (.bool (digitI a)) ∧ w = w' := by
  by_cases hc : 48 ≤ a
  · go_enter Try.func88, Try.ntmps88
    go_wp2
    go_ret
    exact ⟨ret_bool (by simp [digitI, hc]), rfl⟩
  · go_enter Try.func88, Try.ntmps88
    go_wp2
    go_ret
    exact ⟨ret_bool (by simp [digitI]; omega), rfl⟩
theorem isName_size0 {s : ByteArray} (h : s.size = 0) : isName s = false := by
  unfold isName
  have : s.data.toList = [] := by
    apply List.eq_nil_of_length_eq_zero; simpa using h
  rw [this]
theorem byte_at {s : ByteArray} {k : Nat} (h : k < s.size) : s[k] = s.data.toList[k]'(by simpa using h) := by
  simp only [Array.getElem_toList]; rfl
theorem get0 (l : List UInt8) (h : 0 < l.length) : l[0] = l.headD 0 := by
  cases l with
  | nil => simp at h
  | cons b r => rfl
theorem isName_eq {s : ByteArray} (h : 0 < s.size) : isName s = (decide (s.size ≤ 16) && letterI (s[0].toNat) && s.data.toList.all nameB) := by
  have hl : s.size = s.data.toList.length := by simp
  rw [byte_at h, hl]
  unfold isName
  have h' : 0 < s.data.toList.length := by rw [← hl]; exact h
  rw [get0 _ h']
  generalize s.data.toList = l at *
  cases l with
  | nil => simp at h'
  | cons b r => rfl
theorem all_at {s : ByteArray} (h : ∀ j (h : j < s.size), nameB s[j] = true) : s.data.toList.all nameB = true := by
  rw [List.all_eq_true]
  intro x hx
  obtain ⟨j, hj, rfl⟩ := List.mem_iff_getElem.1 hx
  have hj' : j < s.size := by simpa using hj
  rw [← byte_at hj']
  exact h j hj'
theorem all_not {s : ByteArray} {k : Nat} (hk : k < s.size) (h : nameB s[k] = false) : s.data.toList.all nameB = false := by
  rw [Bool.eq_false_iff]
  intro ha
  rw [List.all_eq_true] at ha
  have := ha (s[k]) (by rw [byte_at hk]; exact List.getElem_mem _)
  rw [h] at this
  cases this
set_option maxHeartbeats 1000000 in
theorem name_c (s : ByteArray) (w : World) (hs : s.size ≤ maxLen) :
    Calls Try.prog 72 #[.string s] w fun e w' => e = .returned (.bool (isName s)) ∧ w = w' := by
  unfold maxLen at hs
  by_cases h0 : s.size = 0
  · have HV := Lib.hid (isName_size0 h0)
    have hz : ((s.size : Int) == 0) = true := by simp [h0]
    clear h0
    go_enter Try.func72, Try.ntmps72
    go_wp2
    go_ret
    exact ⟨ret_bool HV.out.symm, rfl⟩
  · have hpos : 0 < s.size := by omega
    have hz : ((s.size : Int) == 0) = false := beq_eq_false_iff_ne.2 (by omega)
    have HE := Lib.hid (isName_eq hpos)
    clear h0
    by_cases h16 : s.size ≤ 16
    · have h16' : decide ((16 : Int) < (s.size : Int)) = false := decide_eq_false (by omega)
      have H16 := Lib.hid (decide_eq_true h16)
      by_cases hl : letterI s[0].toNat = true
      · have HL := Lib.hid hl
        clear hl
        go_enter Try.func72, Try.ntmps72
        go_wp2_with (go_at_call 87; refine (letter_c _ _).mono ?_; rintro e w' ⟨rfl, rfl⟩; rw [HL.out])
        go_loop [3, 20] (fun _ i => ∃ k : Nat, k ≤ s.size ∧ i = .int .i64 k ∧ Hid (∀ j (h : j < s.size), j < k → nameB s[j] = true)) (fun _ i => s.size - (intOf i).toNat)
        case atStart => exact ⟨0, Nat.zero_le _, rfl, fun j _ h => absurd h (by omega)⟩
        case round =>
          obtain ⟨k, hk, rfl, H0⟩ := hrel
          by_cases hlt : k < s.size
          · by_cases hb : nameB s[k] = true
            · have HB := Lib.hid hb
              by_cases h1 : letterI s[k].toNat = true
              · have H1 := Lib.hid h1
                clear hb h1
                go_wp2_with (go_at_call 87; refine (letter_c _ _).mono ?_; rintro e w' ⟨rfl, rfl⟩; rw [H1.out])
                go_round
                case rel =>
                  refine ⟨k + 1, by omega, by go_num, fun j h hj => ?_⟩
                  rcases Nat.lt_or_ge j k with h1 | h1
                  · exact H0.out j h h1
                  · obtain rfl : j = k := by omega
                    exact HB.out
                case measure => simp [intOf]; omega
              · have H1 := Lib.hid (Bool.eq_false_iff.2 h1)
                have H2 : Hid (digitI s[k].toNat = true) := by
                  have : (letterI s[k].toNat || digitI s[k].toNat) = true := hb
                  rw [H1.out, Bool.false_or] at this
                  exact this
                clear hb h1
                go_wp2_with (first | (go_at_call 87; refine (letter_c _ _).mono ?_; rintro e w' ⟨rfl, rfl⟩; rw [H1.out]) | (go_at_call 88; refine (digit_c _ _).mono ?_; rintro e w' ⟨rfl, rfl⟩; rw [H2.out]))
                go_round
                case rel =>
                  refine ⟨k + 1, by omega, by go_num, fun j h hj => ?_⟩
                  rcases Nat.lt_or_ge j k with h1 | h1
                  · exact H0.out j h h1
                  · obtain rfl : j = k := by omega
                    exact HB.out
                case measure => simp [intOf]; omega
            · have hb' := Bool.eq_false_iff.2 hb
              have HV : Hid (isName s = false) := by
                show isName s = false
                rw [HE.out, all_not hlt hb', Bool.and_false]
              have hor : (letterI s[k].toNat || digitI s[k].toNat) = false := hb'
              rw [Bool.or_eq_false_iff] at hor
              have H1 := Lib.hid hor.1
              have H2 := Lib.hid hor.2
              clear hb hb' hor
              go_wp2_with (first | (go_at_call 87; refine (letter_c _ _).mono ?_; rintro e w' ⟨rfl, rfl⟩; rw [H1.out]) | (go_at_call 88; refine (digit_c _ _).mono ?_; rintro e w' ⟨rfl, rfl⟩; rw [H2.out]))
              go_ret
              exact ⟨ret_bool HV.out.symm, rfl⟩
          · have HV : Hid (isName s = true) := by
              show isName s = true
              rw [HE.out, HL.out, H16.out, all_at (fun j h => H0.out j h (by omega))]
              rfl
            go_wp2
            go_ret
            exact ⟨ret_bool HV.out.symm, rfl⟩
      · have HL := Lib.hid (Bool.eq_false_iff.2 hl)
        have HV : Hid (isName s = false) := by
          show isName s = false
          rw [HE.out, HL.out, Bool.and_false, Bool.false_and]
        clear hl
        go_enter Try.func72, Try.ntmps72
        go_wp2_with (go_at_call 87; refine (letter_c _ _).mono ?_; rintro e w' ⟨rfl, rfl⟩; rw [HL.out])
        go_ret
        exact ⟨ret_bool HV.out.symm, rfl⟩
    · have h16' : decide ((16 : Int) < (s.size : Int)) = true := decide_eq_true (by omega)
      have HV : Hid (isName s = false) := by
        show isName s = false
        rw [HE.out, decide_eq_false h16, Bool.false_and, Bool.false_and]
      go_enter Try.func72, Try.ntmps72
      go_wp2
      go_ret
      exact ⟨ret_bool HV.out.symm, rfl⟩
end Td
end Go.Proofs.Ytccacinnelmnpaa
