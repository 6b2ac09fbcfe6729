import Derived.Test.YtojpiliamecgkaaLieA
import Derived.Test.YtojpiliamecgkaaView
namespace Go.Proofs.Ytojpiliamecgkaa
open Go.RowKit
namespace Td
set_option linter.unusedSimpArgs false
set_option linter.unusedVariables false
set_option maxHeartbeats 1000000 in
theorem valid_c (b : Bch) (s : Shp) (A : Option Addr) (c : Nat) (w : World) (hp : TsAt w A b.ts) :
    Calls Try.prog 37 #[.agg (bV b A c), .agg (sV s)] w fun e w' => e = .returned (.bool (decide ((chk b s).2.2 = 0))) ∧ Below w.heap.size w w' := by
  have hs0 := ((Since.refl w).alloc (.cells (bV b A c) 26)).alloc (.cells (sV s) 28)
  go_enter Try.func37, Try.ntmps37
  go_wp2_with fail
  refine (rcheck_c b s A c _ (hp.keep hs0.1)).mono ?_
  rintro e w1 ⟨rfl, hb1⟩
  have hs1 := hs0.keep hb1
  by_cases h : (chk b s).2.2 = 0
  · have HV : Hid (decide ((chk b s).2.2 = 0) = true) := decide_eq_true h
    rw [h]
    clear h
    go_wp2_with fail
    go_ret
    exact ⟨ret_bool HV.out.symm, hs1.1⟩
  · have HV : Hid (decide ((chk b s).2.2 = 0) = false) := decide_eq_false h
    have h' : ((chk b s).2.2 == 0) = false := by simpa using h
    clear h
    go_wp2_with fail
    go_ret
    exact ⟨ret_bool HV.out.symm, hs1.1⟩
theorem quo_cases {n d : Int} (h1 : 1 ≤ d) : n.tdiv d = n / d ∨ n.tdiv d = n / d + 1 := by
  by_cases h : n.tmod d < 0
  · have := tdiv_neg h1 h
    omega
  · exact .inl (tdiv_pos h1 (by omega))
theorem quo_facts {n d : Int} (h1 : 1 ≤ d) : n / d * d ≤ n ∧ n < (n / d + 1) * d := by
  refine ⟨Int.ediv_mul_le n (by omega), ?_⟩
  exact Int.lt_ediv_add_one_mul_self n (by omega)
set_option maxRecDepth 100000 in
set_option maxHeartbeats 2000000 in
theorem stop_c (s : Shp) (sl dr he wn bal : Int) (w : World) (ht : TrOk sl dr he wn) (k0 : 0 ≤ s.sink) (k1 : s.sink ≤ 50) (n0 : 0 ≤ bal) (n1 : bal ≤ 100) :
    Calls Try.prog 38 #[.agg (sV s), .agg (trV sl dr he wn), .int .i64 bal] w fun e w' => e = .returned (.int .i64 (pl sl dr he wn (-s.sink * bal))) ∧ Below w.heap.size w w' := by
  obtain ⟨s0, s1, d0, d1, h0, h1, w0, w1⟩ := ht
  have hm1 : 0 ≤ s.sink * bal := Int.mul_nonneg k0 n0
  have hm2 : s.sink * bal ≤ 50 * 100 := Int.mul_le_mul k1 n1 n0 (by omega)
  have HV : Hid (1000 * (he + wn - dr - s.sink * bal) / sl = pl sl dr he wn (-s.sink * bal)) := by
    show _ = _
    unfold pl
    rw [Int.neg_mul]
    congr 2
  have hqc := quo_cases (n := 1000 * (he + wn - dr - s.sink * bal)) s0
  have hqf := quo_facts (n := 1000 * (he + wn - dr - s.sink * bal)) s0
  have hbd := tdiv_bd (n := 1000 * (he + wn - dr - s.sink * bal)) s0 1000000000 (by omega) (by omega) (by omega)
  have hs0 := ((Since.refl w).alloc (.cells (sV s) 28)).alloc (.cells (trV sl dr he wn) 45)
  have HT0 := Lib.hid (Blk.new1 w (.cells (sV s) 28) 45 (trV sl dr he wn))
  obtain ⟨Q, hQ⟩ : ∃ Q, 1000 * (he + wn - dr - s.sink * bal) / sl = Q := ⟨_, rfl⟩
  rw [hQ] at HV hqc hqf
  have hexp : (Q + 1) * sl = Q * sl + sl := by rw [Int.add_mul, Int.one_mul]
  have hq2 : -2000000000 ≤ Q * sl ∧ Q * sl ≤ 2000000000 ∧ -2000000000 ≤ (Q + 1) * sl ∧ (Q + 1) * sl ≤ 2000000000 := by
    obtain ⟨a, c⟩ := hqf
    rw [hexp] at c ⊢
    omega
  have hqb : -2000000000 ≤ Q ∧ Q ≤ 2000000000 := by omega
  obtain ⟨q1, q2, q3, q4⟩ := hq2
  obtain ⟨q5, q6⟩ := hqf
  obtain ⟨q7, q8⟩ := hqb
  clear hQ hexp
  have HQ := Lib.hid hqc
  clear hqc
  have hsl : decide (sl < 1) = false := decide_eq_false (by omega)
  clear hsl
  go_enter Try.func38, Try.ntmps38
  go_wp2_with fail
  obtain ⟨W0, hW0⟩ : ∃ W0, (w.alloc (.cells (sV s) 28)).alloc (.cells (trV sl dr he wn) 45) = W0 := ⟨_, rfl⟩
  rw [hW0] at hs0 HT0 ⊢
  clear hW0
  obtain ⟨c0, c1, c2, c3⟩ := HT0.out.tr
  go_loop [8] (fun m => m = .int .i64 Q ∨ m = .int .i64 (Q + 1)) (fun m => (intOf m - Q).toNat)
  case atStart =>
    rcases HQ.out with h | h
    · exact .inl (by rw [h])
    · exact .inr (by rw [h])
  case round =>
    rcases hrel with rfl | rfl
    · go_wp2_with fail
      go_ret
      exact ⟨ret_int HV.out, hs0.1⟩
    · go_wp2_with fail
      go_round
      case rel => exact .inl (by first | rfl | go_num | (congr 1; omega))
      case measure => simp [intOf]; omega
/-- the truth of a box in which she floats least, or most, with the flatter or the steeper slope. -/
def endV (x : Box) (high steep : Bool) : Int × Int × Int × Int := (if steep then x.shi else x.slo, if high then x.dlo else x.dhi, if high then x.hhi else x.hlo, if high then x.whi else x.wlo)
theorem endV_ok {x : Box} (hx : BoxOk x) (high steep : Bool) : TrOk (endV x high steep).1 (endV x high steep).2.1 (endV x high steep).2.2.1 (endV x high steep).2.2.2 := by
  obtain ⟨_, _, _, _, _, _, _, _, _, _, _, _⟩ := hx
  cases high <;> cases steep <;> simp only [endV, if_true, Bool.false_eq_true, if_false] <;> refine ⟨?_, ?_, ?_, ?_, ?_, ?_, ?_, ?_⟩ <;> omega
set_option maxRecDepth 100000 in
set_option maxHeartbeats 2000000 in
theorem end_c (b : Bch) (s : Shp) (A : Option Addr) (c : Nat) (i : Nat) (high steep : Bool) (w : World) (hp : TsAt w A b.ts) (hi : i < b.ts.length) (hl : b.ts.length ≤ 1000) :
    Calls Try.prog 41 #[.agg (bV b A c), .agg (sV s), .int .i64 i, .bool high, .bool steep] w fun e w' => e = .returned (.agg (trV (endV (bx b s i) high steep).1 (endV (bx b s i) high steep).2.1 (endV (bx b s i) high steep).2.2.1 (endV (bx b s i) high steep).2.2.2)) ∧ Below w.heap.size w w' := by
  obtain ⟨ad, hA, hat⟩ := hp.get hi
  rw [tAt_get hi] at hat
  subst hA
  have hb3 : Below w.heap.size w (((w.alloc (.cells (bV b (some ad) c) 26)).alloc (.cells (sV s) 28)).alloc (.cells (trV 0 0 0 0) 45)) := (((Below.refl _ _).alloc (Nat.le_refl _) _).alloc (by simp) _).alloc (by simp; omega) _
  obtain ⟨c0, c1, c2, c3, c4⟩ := hat.keep hb3
  have HR0 := Lib.hid (Blk.new2 w (.cells (bV b (some ad) c) 26) (.cells (sV s) 28) 45 (trV 0 0 0 0))
  cases high <;> cases steep
  all_goals
    simp only [endV, bx, if_true, Bool.false_eq_true, if_false]
    go_enter Try.func41, Try.ntmps41
    go_wp2_with fail
    refine bodyPost_ret (v := .agg (trV _ _ _ _)) (by simp [results, Try.results41, go_sem]) rfl ⟨rfl, ?_⟩
    exact (((((Below.refl _ _).alloc (Nat.le_refl _) _).alloc (by simp) _).alloc (by simp; omega) _).alloc (by simp; omega) _).alloc (by simp; omega) _
end Td
end Go.Proofs.Ytojpiliamecgkaa
