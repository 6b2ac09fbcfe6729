import Derived.Test.YtojpiliamecgkaaRefE
import Derived.Test.YtojpiliamecgkaaLeastsW
namespace Go.Proofs.Ytojpiliamecgkaa
open Go.RowKit
namespace Td
set_option linter.unusedSimpArgs false
set_option linter.unusedVariables false
theorem eqTruth (p q r t : Int) (W : World) : (Op.equalIn 10000 45 (.agg #[.int .i64 p, .int .i64 q, .int .i64 r, .int .i64 t]) (.agg #[.int .i64 p, .int .i64 q, .int .i64 r, .int .i64 t])).run Try.prog W = .ok true W := by
  go_simp
theorem missesV_six (b : Bch) (s : Shp) (t n : Int) : ∃ p q r u x z : Int, missesV b s t n = .tuple #[.agg (trV p q r u), .int .i64 x, .int .i64 z] := by
  unfold missesV
  split
  · split
    · exact ⟨_, _, _, _, _, _, rfl⟩
    · exact ⟨_, _, _, _, _, _, rfl⟩
  · exact ⟨_, _, _, _, _, _, rfl⟩
set_option maxRecDepth 100000 in
set_option maxHeartbeats 4000000 in
theorem tideMisses_c (b : Bch) (s : Shp) (A : Option Addr) (c : Nat) (n0 n1 : Int) (w : World) (hp : TsAt w A b.ts) :
    Calls Try.prog 5 #[.agg (bV b A c), .agg (sV s), .agg #[.int .i64 n0, .int .i64 n1]] w fun e w' => e = .returned (.bool true) ∧ Below w.heap.size w w' := by
  have HE0 := Lib.hid (Env2.start b A c s n0 n1 w hp)
  obtain ⟨p, q, r, u, x, z, hpq⟩ := missesV_six b s n0 n1
  have HPQ := Lib.hid hpq
  clear hpq
  have heq := eqTruth p q r u
  go_enter Try.func5, Try.ntmps5
  go_wp2_with fail
  refine (misses_c b s A c n0 n1 _ HE0.out.ts).mono ?_
  rintro e w3 ⟨rfl, hb3⟩
  rw [HPQ.out]
  have HE3 := Lib.hid ((HE0.out.keep hb3).alloc (.cells (trV p q r u) 45))
  have hS3 := Lib.hid (show C4 w3.heap.size p q r u _ from (Blk.new w3 45 (trV p q r u)).tr)
  clear HE0 hb3
  obtain ⟨⟨c0, c1, c2, c3, c4, c5⟩, ⟨d0, d1, d2⟩, x0, x1, _, _⟩ := HE3.out
  go_wp2_with fail
  refine (rMisses_c b s A c n0 n1 _ HE3.out.ts).mono ?_
  rintro e w4 ⟨rfl, hb4⟩
  rw [HPQ.out]
  have HE4 := Lib.hid ((HE3.out.keep hb4).alloc (.cells (trV p q r u) 45))
  have hS4 := Lib.hid ((hS3.out.keep hb4).alloc (.cells (trV p q r u) 45))
  have hT4 := Lib.hid (show C4 w4.heap.size p q r u _ from (Blk.new w4 45 (trV p q r u)).tr)
  clear HE3 hS3 hb4 c0 c1 c2 c3 c4 c5 d0 d1 d2 x0 x1
  obtain ⟨r0, r1, r2, r3⟩ := hS4.out
  obtain ⟨t0, t1, t2, t3⟩ := hT4.out
  go_wp2_with fail
  refine (awake_c _).mono ?_
  rintro e w8 ⟨rfl, hb8⟩
  go_wp2_with fail
  go_ret
  exact ⟨rfl, (HE4.out.keep hb8).sn.1⟩
end Td
end Go.Proofs.Ytojpiliamecgkaa
