import Derived.Test.YtojpiliamecgkaaLim
namespace Go.Proofs.Ytojpiliamecgkaa
open Go.RowKit
namespace Td
set_option linter.unusedSimpArgs false
set_option linter.unusedVariables false
theorem in_c (lo hi n : Int) (w : World) : Calls Try.prog 51 #[.int .i64 n, .int .i64 lo, .int .i64 hi] w fun e w' => e = .returned (.bool (wi lo hi n)) ∧ w = w' := by
  by_cases h1 : lo ≤ n <;> by_cases h2 : n ≤ hi
  all_goals
    have hv : wi lo hi n = (decide (lo ≤ n) && decide (n ≤ hi)) := rfl
    simp only [h1, h2, decide_true, decide_false, Bool.and_true, Bool.and_false] at hv
    have HV := Lib.hid hv
    clear hv
    go_enter Try.func51, Try.ntmps51
    go_wp2
    go_ret
    exact ⟨ret_bool HV.out.symm, rfl⟩
theorem rwithin_c (lo hi n : Int) (w : World) : Calls Try.prog 82 #[.int .i64 n, .int .i64 lo, .int .i64 hi] w fun e w' => e = .returned (.bool (wi lo hi n)) ∧ w = w' := by
  by_cases h1 : lo ≤ n <;> by_cases h2 : n ≤ hi
  all_goals
    have hv : wi lo hi n = (decide (lo ≤ n) && decide (n ≤ hi)) := rfl
    simp only [h1, h2, decide_true, decide_false, Bool.and_true, Bool.and_false] at hv
    have HV := Lib.hid hv
    clear hv
    go_enter Try.func82, Try.ntmps82
    go_wp2
    go_ret
    exact ⟨ret_bool HV.out.symm, rfl⟩
theorem divide_c (n d : Int) (w : World) (h1 : 1 ≤ d) (h2 : d ≤ 1000) (hn : -1000000000000 ≤ n) (hn2 : n ≤ 1000000000000) :
    Calls Try.prog 80 #[.int .i64 n, .int .i64 d] w fun e w' => e = .returned (.int .i64 (n / d)) ∧ w = w' := by
  have hb := tdiv_bd (n := n) h1 1000000000000 (by omega) (by omega) (by omega)
  by_cases h : n.tmod d < 0
  · have HV := Lib.hid (tdiv_neg h1 h)
    go_enter Try.func80, Try.ntmps80
    go_wp2
    go_ret
    exact ⟨ret_int HV.out, rfl⟩
  · have HV := Lib.hid (tdiv_pos h1 (by omega : 0 ≤ n.tmod d))
    go_enter Try.func80, Try.ntmps80
    go_wp2
    go_ret
    exact ⟨ret_int HV.out, rfl⟩
theorem down_c (n d : Int) (w : World) (h1 : 1 ≤ d) (h2 : d ≤ 1000) (hn : -1000000000000 ≤ n) (hn2 : n ≤ 1000000000000) :
    Calls Try.prog 81 #[.int .i64 n, .int .i64 d] w fun e w' => e = .returned (.int .i64 (n / d)) ∧ w = w' := by
  have hb := tdiv_bd (n := n) h1 1000000000000 (by omega) (by omega) (by omega)
  have hm := tdiv_mul (n := n) (d := d)
  have hm2 : n.tmod d < d ∧ -d < n.tmod d := by
    have := Int.tmod_lt_of_pos n (show 0 < d by omega)
    have := Int.lt_tmod_of_pos n (show 0 < d by omega)
    omega
  have hm3 : -1000000002000 ≤ n.tdiv d * d ∧ n.tdiv d * d ≤ 1000000002000 := by omega
  obtain ⟨q1, q2⟩ := hm3
  by_cases h : n.tmod d < 0
  · have HV := Lib.hid (tdiv_neg h1 h)
    have hg : n < n.tdiv d * d := by omega
    clear hm hm2
    go_enter Try.func81, Try.ntmps81
    go_wp2
    go_ret
    exact ⟨ret_int HV.out, rfl⟩
  · have HV := Lib.hid (tdiv_pos h1 (by omega : 0 ≤ n.tmod d))
    have hg : n.tdiv d * d ≤ n := by omega
    clear hm hm2
    go_enter Try.func81, Try.ntmps81
    go_wp2
    go_ret
    exact ⟨ret_int HV.out, rfl⟩
abbrev bV (b : Bch) (A : Option Addr) (c : Nat) : Array Value := #[.int .i64 b.slo, .int .i64 b.shi, .int .i64 b.mlo, .int .i64 b.mhi, .int .i64 b.bite, .slice A b.ts.length c]
abbrev sV (s : Shp) : Array Value := #[.int .i64 s.dlo, .int .i64 s.dhi, .int .i64 s.sink]
abbrev shV (b : Bch) (A : Option Addr) (c : Nat) (s : Shp) : Array Value := #[.int .i64 b.slo, .int .i64 b.shi, .int .i64 b.mlo, .int .i64 b.mhi, .int .i64 b.bite, .slice A b.ts.length c, .int .i64 s.dlo, .int .i64 s.dhi, .int .i64 s.sink]
abbrev boxV (x : Box) : Array Value := #[.int .i64 x.slo, .int .i64 x.shi, .int .i64 x.dlo, .int .i64 x.dhi, .int .i64 x.hlo, .int .i64 x.hhi, .int .i64 x.wlo, .int .i64 x.whi]
abbrev vwV (b : Bch) (A : Option Addr) (c : Nat) (s : Shp) (x : Box) (lift : Int) : Array Value := #[.int .i64 b.slo, .int .i64 b.shi, .int .i64 b.mlo, .int .i64 b.mhi, .int .i64 b.bite, .slice A b.ts.length c, .int .i64 s.dlo, .int .i64 s.dhi, .int .i64 s.sink, .int .i64 x.slo, .int .i64 x.shi, .int .i64 x.dlo, .int .i64 x.dhi, .int .i64 x.hlo, .int .i64 x.hhi, .int .i64 x.wlo, .int .i64 x.whi, .int .i64 lift]
abbrev trV (sl dr he wn : Int) : Array Value := #[.int .i64 sl, .int .i64 dr, .int .i64 he, .int .i64 wn]
/-- the numbers of a truth are in the ranges that any tide has. -/
structure TrOk (sl dr he wn : Int) : Prop where
  s0 : 1 ≤ sl
  s1 : sl ≤ 200
  d0 : -10000 ≤ dr
  d1 : dr ≤ 10000
  h0 : -10000 ≤ he
  h1 : he ≤ 10000
  w0 : -10000 ≤ wn
  w1 : wn ≤ 10000
set_option maxRecDepth 100000 in
theorem place_c (b : Bch) (A : Option Addr) (c : Nat) (s : Shp) (x : Box) (lift sl dr he wn : Int) (w : World) (ht : TrOk sl dr he wn) (l0 : -10000 ≤ lift) (l1 : lift ≤ 10000) :
    Calls Try.prog 66 #[.agg (vwV b A c s x lift), .agg (trV sl dr he wn)] w fun e w' => e = .returned (.int .i64 (pl sl dr he wn lift)) ∧ Below w.heap.size w w' := by
  obtain ⟨s0, s1, d0, d1, h0, h1, w0, w1⟩ := ht
  go_enter Try.func66, Try.ntmps66
  go_wp2_with fail
  refine (divide_c _ _ _ (by omega) (by omega) (by omega) (by omega)).mono ?_
  rintro e w' ⟨rfl, rfl⟩
  go_wp2_with fail
  go_ret
  exact ⟨rfl, ((Below.refl _ _).alloc (Nat.le_refl _) _).alloc (by simp) _⟩
set_option maxRecDepth 100000 in
theorem at_c (s : Shp) (sl dr he wn bal bite : Int) (w : World) (ht : TrOk sl dr he wn) (k0 : 0 ≤ s.sink) (k1 : s.sink ≤ 50) (n0 : 0 ≤ bal) (n1 : bal ≤ 100) (b0 : -1000 ≤ bite) (b1 : bite ≤ 1000) :
    Calls Try.prog 68 #[.agg (sV s), .agg (trV sl dr he wn), .int .i64 bal, .int .i64 bite] w fun e w' => e = .returned (.int .i64 (pl sl dr he wn (-s.sink * bal + bite))) ∧ Below w.heap.size w w' := by
  obtain ⟨s0, s1, d0, d1, h0, h1, w0, w1⟩ := ht
  have hm1 : 0 ≤ s.sink * bal := Int.mul_nonneg k0 n0
  have hm2 : s.sink * bal ≤ 50 * 100 := Int.mul_le_mul k1 n1 n0 (by omega)
  have HV : Hid (1000 * (he + wn + bite - dr - s.sink * bal) / sl = pl sl dr he wn (-s.sink * bal + bite)) := by
    show _ = _
    unfold pl
    rw [Int.neg_mul]
    congr 2
    omega
  go_enter Try.func68, Try.ntmps68
  go_wp2_with fail
  refine (down_c _ _ _ (by omega) (by omega) (by omega) (by omega)).mono ?_
  rintro e w' ⟨rfl, rfl⟩
  go_wp2_with fail
  go_ret
  exact ⟨ret_int HV.out, ((Below.refl _ _).alloc (Nat.le_refl _) _).alloc (by simp) _⟩
end Td
end Go.Proofs.Ytojpiliamecgkaa
