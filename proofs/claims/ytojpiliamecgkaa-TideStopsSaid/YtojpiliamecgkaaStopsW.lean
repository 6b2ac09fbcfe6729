import Derived.Test.YtojpiliamecgkaaRefD
import Derived.Test.YtojpiliamecgkaaLeastsW
namespace Go.Proofs.Ytojpiliamecgkaa
open Go.RowKit
namespace Td
set_option linter.unusedSimpArgs false
set_option linter.unusedVariables false
theorem eqSpan2 (a c : Int) (W : World) : (Op.equalIn 10000 23 (.agg #[.int .i64 a, .int .i64 c]) (.agg #[.int .i64 a, .int .i64 c])).run Try.prog W = .ok true W := by
  go_simp
theorem stopsV_two (b : Bch) (s : Shp) (t n : Int) : ∃ x y z : Int, stopsV b s t n = .tuple #[.agg #[.int .i64 x, .int .i64 y], .int .i64 z] := by
  unfold stopsV
  split
  · exact ⟨_, _, _, rfl⟩
  · exact ⟨_, _, _, rfl⟩
/-- what Ashore comes to, in one form: the list, a slice of it, the error. -/
theorem AshV.one {b : Bch} {s : Shp} {bal : Int} {e : Ending} {w : World} (h : AshV b s bal e w) : ∃ P pc, e = .returned (.tuple #[.slice P (if stepE b s 0 bal = 0 then ashL b s bal.toNat b.ts.length else []).length pc, .int .i64 (stepE b s 0 bal)]) ∧ InAt w P (if stepE b s 0 bal = 0 then ashL b s bal.toNat b.ts.length else []) := by
  rcases h with ⟨h0, h1⟩ | ⟨h0, v, h1, h2⟩
  · rw [if_neg h0]
    exact ⟨none, 0, h1, fun h => absurd rfl h⟩
  · rw [if_pos h0]
    obtain ⟨P, pc, hv, hin⟩ := h2.slice
    exact ⟨P, pc, by rw [h1, hv, h0], hin⟩
set_option maxRecDepth 100000 in
set_option maxHeartbeats 4000000 in
theorem tideStops_c (b : Bch) (s : Shp) (A : Option Addr) (c : Nat) (n0 n1 : Int) (w : World) (hp : TsAt w A b.ts) :
    Calls Try.prog 3 #[.agg (bV b A c), .agg (sV s), .agg #[.int .i64 n0, .int .i64 n1]] w fun e w' => e = .returned (.bool true) ∧ Below w.heap.size w w' := by
  have HE0 := Lib.hid (Env2.start b A c s n0 n1 w hp)
  obtain ⟨p, q, z, hpq⟩ := stopsV_two b s n0 n1
  have HPQ := Lib.hid hpq
  clear hpq
  obtain ⟨L, hL⟩ : ∃ L, (if stepE b s 0 n1 = 0 then ashL b s n1.toNat b.ts.length else []) = L := ⟨_, rfl⟩
  obtain ⟨z2, hz2⟩ : ∃ z2, stepE b s 0 n1 = z2 := ⟨_, rfl⟩
  have HLn : Hid (L.length ≤ 1000) := by
    show _ ≤ _
    rw [← hL]
    split
    · rename_i h0
      have h1 := (stepE_ok h0).1
      have h2 := (chk_ok.1 h1).1.n1
      have h3 := ashL_len b s n1.toNat b.ts.length
      omega
    · simp
  have HC : Hid (∀ W : World, TsAt W A b.ts → Calls Try.prog 20 #[.agg (bV b A c), .agg (sV s), .int .i64 n1] W fun e w' => (∃ P pc, e = .returned (.tuple #[.slice P L.length pc, .int .i64 z2]) ∧ InAt w' P L) ∧ Below W.heap.size W w') := fun W hW => by
    refine (ashore_c b s A c n1 W hW).mono ?_
    rintro e w' ⟨h1, h2⟩
    have := h1.one
    rw [hL, hz2] at this
    exact ⟨this, h2⟩
  have HD : Hid (∀ W : World, TsAt W A b.ts → Calls Try.prog 21 #[.agg (bV b A c), .agg (sV s), .int .i64 n1] W fun e w' => (∃ P pc, e = .returned (.tuple #[.slice P L.length pc, .int .i64 z2]) ∧ InAt w' P L) ∧ Below W.heap.size W w') := fun W hW => by
    refine (rAshore_c b s A c n1 W hW).mono ?_
    rintro e w' ⟨h1, h2⟩
    have := h1.one
    rw [hL, hz2] at this
    exact ⟨this, h2⟩
  clear hL hz2
  have heq := eqSpan2 p q
  go_enter Try.func3, Try.ntmps3
  go_wp2_with fail
  refine (check_c b s A c _ HE0.out.ts).mono ?_
  rintro e w1 ⟨rfl, hb1⟩
  have HE1 := Lib.hid (HE0.out.keep hb1)
  clear HE0 hb1
  obtain ⟨⟨c0, c1, c2, c3, c4, c5⟩, ⟨d0, d1, d2⟩, x0, x1, _, _⟩ := HE1.out
  go_wp2_with fail
  refine (rcheck_c b s A c _ HE1.out.ts).mono ?_
  rintro e w2 ⟨rfl, hb2⟩
  have HE2 := Lib.hid (HE1.out.keep hb2)
  clear HE1 hb2 c0 c1 c2 c3 c4 c5 d0 d1 d2 x0 x1
  obtain ⟨⟨c0, c1, c2, c3, c4, c5⟩, ⟨d0, d1, d2⟩, x0, x1, _, _⟩ := HE2.out
  go_wp2_with fail
  refine (stops_c b s A c n0 n1 _ HE2.out.ts).mono ?_
  rintro e w3 ⟨rfl, hb3⟩
  rw [HPQ.out]
  have HE3 := Lib.hid ((HE2.out.keep hb3).alloc (.cells #[.int .i64 p, .int .i64 q] 23))
  have hS3 := Lib.hid (show C2 w3.heap.size p q _ from (Blk.new w3 23 #[.int .i64 p, .int .i64 q]).span)
  clear HE2 hb3 c0 c1 c2 c3 c4 c5 d0 d1 d2 x0 x1
  obtain ⟨⟨c0, c1, c2, c3, c4, c5⟩, ⟨d0, d1, d2⟩, x0, x1, _, _⟩ := HE3.out
  go_wp2_with fail
  refine (rStops_c b s A c n0 n1 _ HE3.out.ts).mono ?_
  rintro e w4 ⟨rfl, hb4⟩
  rw [HPQ.out]
  have HE4 := Lib.hid ((HE3.out.keep hb4).alloc (.cells #[.int .i64 p, .int .i64 q] 23))
  have hS4 := Lib.hid ((hS3.out.keep hb4).alloc (.cells #[.int .i64 p, .int .i64 q] 23))
  have hT4 := Lib.hid (show C2 w4.heap.size p q _ from (Blk.new w4 23 #[.int .i64 p, .int .i64 q]).span)
  clear HE3 hS3 hb4 c0 c1 c2 c3 c4 c5 d0 d1 d2 x0 x1
  obtain ⟨⟨c0, c1, c2, c3, c4, c5⟩, ⟨d0, d1, d2⟩, x0, x1, _, _⟩ := HE4.out
  obtain ⟨r0, r1⟩ := hS4.out
  obtain ⟨t0, t1⟩ := hT4.out
  go_wp2_with fail
  refine (HC.out _ HE4.out.ts).mono ?_
  rintro e w5 ⟨⟨P, pc, rfl, hin⟩, hb5⟩
  have HE5 := Lib.hid (HE4.out.keep hb5)
  have HI := Lib.hid hin
  clear HE4 hS4 hT4 hb5 hin c0 c1 c2 c3 c4 c5 d0 d1 d2 x0 x1 r0 r1 t0 t1
  obtain ⟨⟨c0, c1, c2, c3, c4, c5⟩, ⟨d0, d1, d2⟩, x0, x1, _, _⟩ := HE5.out
  go_wp2_with fail
  refine (HD.out _ HE5.out.ts).mono ?_
  rintro e w6 ⟨⟨P2, pc2, rfl, hin2⟩, hb6⟩
  have HE6 := Lib.hid (HE5.out.keep hb6)
  have HI6 := Lib.hid (HI.out.keep hb6)
  have HJ := Lib.hid hin2
  clear HE5 HI hb6 hin2 c0 c1 c2 c3 c4 c5 d0 d1 d2 x0 x1
  go_wp2_with fail
  refine (ints_same P P2 L pc pc2 _ HLn.out HI6.out HJ.out).mono ?_
  rintro e w7 ⟨rfl, hb7⟩
  have HE7 := Lib.hid (HE6.out.keep hb7)
  go_wp2_with fail
  refine (awake_c _).mono ?_
  rintro e w8 ⟨rfl, hb8⟩
  go_wp2_with fail
  go_ret
  exact ⟨rfl, (HE7.out.keep hb8).sn.1⟩
end Td
end Go.Proofs.Ytojpiliamecgkaa
