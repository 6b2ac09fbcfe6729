import Derived.Test.YtojpiliamecgkaaRefC
namespace Go.Proofs.Ytojpiliamecgkaa
open Go.RowKit
namespace Td
set_option linter.unusedSimpArgs false
set_option linter.unusedVariables false
theorem leastV_two (b : Bch) (s : Shp) (t : Int) : ∃ x y : Int, leastV b s t = .tuple #[.int .i64 x, .int .i64 y] := by
  unfold leastV
  split
  · exact ⟨_, _, rfl⟩
  · exact ⟨_, _, rfl⟩
theorem firstV_three (b : Bch) (s : Shp) (t : Int) : ∃ x y z : Int, firstV b s t = .tuple #[.int .i64 x, .int .i64 y, .int .i64 z] := by
  unfold firstV
  split
  · split
    · exact ⟨_, _, _, rfl⟩
    · exact ⟨_, _, _, rfl⟩
  · exact ⟨_, _, _, rfl⟩
/-- what a law with a beach, a ship and two numbers holds. -/
structure Env2 (gb gs gx : Nat) (b : Bch) (A : Option Addr) (c : Nat) (s : Shp) (n0 n1 : Int) (w X : World) : Prop where
  sb : SB gb b A c X
  ss : SS gs s X
  x0 : X.cell? ⟨gx, 0, none⟩ = some (.int .i64 n0)
  x1 : X.cell? ⟨gx, 1, none⟩ = some (.int .i64 n1)
  ts : TsAt X A b.ts
  sn : Since w X
theorem Env2.keep {gb gs gx : Nat} {b : Bch} {A : Option Addr} {c : Nat} {s : Shp} {n0 n1 : Int} {w X Y : World} (h : Env2 gb gs gx b A c s n0 n1 w X) (hb : Below X.heap.size X Y) : Env2 gb gs gx b A c s n0 n1 w Y :=
  ⟨h.sb.keep hb, h.ss.keep hb, keep_cell hb h.x0, keep_cell hb h.x1, h.ts.keep hb, h.sn.keep hb⟩
theorem Env2.alloc {gb gs gx : Nat} {b : Bch} {A : Option Addr} {c : Nat} {s : Shp} {n0 n1 : Int} {w X : World} (h : Env2 gb gs gx b A c s n0 n1 w X) (o : Obj) : Env2 gb gs gx b A c s n0 n1 w (X.alloc o) := h.keep ((Below.refl _ _).alloc (Nat.le_refl _) _)
theorem Env2.start (b : Bch) (A : Option Addr) (c : Nat) (s : Shp) (n0 n1 : Int) (w : World) (hp : TsAt w A b.ts) : Env2 w.heap.size (w.heap.size + 1) (w.heap.size + 1 + 1) b A c s n0 n1 w (((w.alloc (.cells (bV b A c) 26)).alloc (.cells (sV s) 28)).alloc (.cells #[.int .i64 n0, .int .i64 n1] 29)) := by
  have hs0 := (((Since.refl w).alloc (.cells (bV b A c) 26)).alloc (.cells (sV s) 28)).alloc (.cells #[.int .i64 n0, .int .i64 n1] 29)
  have hx := Blk.new2 w (.cells (bV b A c) 26) (.cells (sV s) 28) 29 #[.int .i64 n0, .int .i64 n1]
  exact ⟨(((Blk.new w 26 (bV b A c)).alloc (.cells (sV s) 28)).alloc _).beach, ((Blk.new1 w (.cells (bV b A c) 26) 28 (sV s)).alloc _).ship, hx.cell 0, hx.cell 1, hp.keep hs0.1, hs0⟩
set_option maxRecDepth 100000 in
set_option maxHeartbeats 4000000 in
theorem tideLeasts_c (b : Bch) (s : Shp) (A : Option Addr) (c : Nat) (n0 n1 : Int) (w : World) (hp : TsAt w A b.ts) :
    Calls Try.prog 4 #[.agg (bV b A c), .agg (sV s), .agg #[.int .i64 n0, .int .i64 n1]] w fun e w' => e = .returned (.bool true) ∧ Below w.heap.size w w' := by
  have HE0 := Lib.hid (Env2.start b A c s n0 n1 w hp)
  obtain ⟨p, q, hpq⟩ := leastV_two b s n0
  obtain ⟨u, v, z, huv⟩ := firstV_three b s n1
  have HPQ := Lib.hid hpq
  have HUV := Lib.hid huv
  clear hpq huv
  go_enter Try.func4, Try.ntmps4
  go_wp2_with fail
  refine (tleast_c b s A c n0 _ HE0.out.ts).mono ?_
  rintro e w1 ⟨rfl, hb1⟩
  rw [HPQ.out]
  have HE1 := Lib.hid (HE0.out.keep hb1)
  clear HE0 hb1
  obtain ⟨⟨c0, c1, c2, c3, c4, c5⟩, ⟨d0, d1, d2⟩, x0, x1, _, _⟩ := HE1.out
  go_wp2_with fail
  refine (rLeast_c b s A c n0 _ HE1.out.ts).mono ?_
  rintro e w2 ⟨rfl, hb2⟩
  rw [HPQ.out]
  have HE2 := Lib.hid (HE1.out.keep hb2)
  clear HE1 hb2 c0 c1 c2 c3 c4 c5 d0 d1 d2 x0 x1
  obtain ⟨⟨c0, c1, c2, c3, c4, c5⟩, ⟨d0, d1, d2⟩, x0, x1, _, _⟩ := HE2.out
  go_wp2_with fail
  refine (first_c b s A c n1 _ HE2.out.ts).mono ?_
  rintro e w3 ⟨rfl, hb3⟩
  rw [HUV.out]
  have HE3 := Lib.hid (HE2.out.keep hb3)
  clear HE2 hb3 c0 c1 c2 c3 c4 c5 d0 d1 d2 x0 x1
  obtain ⟨⟨c0, c1, c2, c3, c4, c5⟩, ⟨d0, d1, d2⟩, x0, x1, _, _⟩ := HE3.out
  go_wp2_with fail
  refine (rFirst_c b s A c n1 _ HE3.out.ts).mono ?_
  rintro e w4 ⟨rfl, hb4⟩
  rw [HUV.out]
  have HE4 := Lib.hid (HE3.out.keep hb4)
  clear HE3 hb4 c0 c1 c2 c3 c4 c5 d0 d1 d2 x0 x1
  go_wp2_with fail
  refine (awake_c _).mono ?_
  rintro e w5 ⟨rfl, hb5⟩
  go_wp2_with fail
  go_ret
  exact ⟨rfl, (HE4.out.keep hb5).sn.1⟩
end Td
end Go.Proofs.Ytojpiliamecgkaa
