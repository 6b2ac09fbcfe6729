import Derived.Test.YtccacinnelmnpaaLvlD
/- GasLevels: Check, Level and Until return what the reference does. -/
namespace Go.Proofs.Ytccacinnelmnpaa
open Go.RowKit
namespace Td
set_option linter.unusedSimpArgs false
set_option linter.unusedVariables false
attribute [local go_sem] Oper.semAt_some
theorem eqSpan1 (a b : Int) (w : World) : (Op.equalIn 10000 23 (.agg #[.int .i64 a, .int .i64 b]) (.agg #[.int .i64 a, .int .i64 b])).run Try.prog w = .ok true w := by go_simp
set_option maxRecDepth 100000 in
set_option maxHeartbeats 8000000 in
theorem gasLevels_c (s : Spc) (m : Sl) (A : Option Addr) (l : List Rd) (c : Nat) (mi : Int) (w : World) (hsa : SAt w m s) (hrd : RdAt w A l) (hc : l.length ≤ c) (hcM : c ≤ 9223372036854775807) :
    Calls Try.prog 3 #[.agg (sV s m), .slice A l.length c, .int .i64 mi] w fun e w' => e = .returned (.bool true) ∧ Below w.heap.size w w' := by
  have hS0 := Sp.start w s m
  obtain ⟨p1, hp1⟩ : ∃ p, (chk s).1 = p := ⟨_, rfl⟩
  obtain ⟨p2, hp2⟩ : ∃ p, (chk s).2.1 = p := ⟨_, rfl⟩
  obtain ⟨p3, hp3⟩ : ∃ p, (chk s).2.2 = p := ⟨_, rfl⟩
  have hC1 := fun (W : World) (hW : Sp w s m W) => check_c s m W (hsa.keep hW.sn.1)
  have hC2 := fun (W : World) (hW : Sp w s m W) => rcheck_c s m W (hsa.keep hW.sn.1)
  rw [hp1, hp2, hp3] at hC1 hC2
  obtain ⟨LA, hLA⟩ : ∃ LA, levelA s l mi = LA := ⟨_, rfl⟩
  obtain ⟨UA, hUA⟩ : ∃ UA, untilA s l mi = UA := ⟨_, rfl⟩
  have hL1 := fun (W : World) (hW : Sp w s m W) => level_c s m A l c mi W (hsa.keep hW.sn.1) hc hcM (hrd.keep hW.sn.1)
  have hL2 := fun (W : World) (hW : Sp w s m W) => rlevel_c s m A l c mi W (hsa.keep hW.sn.1) (hrd.keep hW.sn.1) (by omega)
  have hU1 := fun (W : World) (hW : Sp w s m W) => until2_c s m A l c mi W (hsa.keep hW.sn.1) hc hcM (hrd.keep hW.sn.1)
  have hU2 := fun (W : World) (hW : Sp w s m W) => runtil_c s m A l c mi W (hsa.keep hW.sn.1) (hrd.keep hW.sn.1) (by omega)
  rw [hLA] at hL1 hL2
  rw [hUA] at hU1 hU2
  obtain ⟨⟨a0, a1⟩, ea⟩ := LA
  obtain ⟨n, en⟩ := UA
  dsimp only at hL1 hL2 hU1 hU2
  clear hp1 hp2 hp3 hLA hUA
  obtain ⟨c0, c1, c2, c3, c4, c5, c6, c7, c8⟩ := hS0.bk.space
  go_enter Try.func3, Try.ntmps3
  go_wp2_with fail
  refine (hC1 _ hS0).mono ?_
  rintro e w1 ⟨rfl, hb1⟩
  have hS1 := hS0.keep hb1
  clear c0 c1 c2 c3 c4 c5 c6 c7 c8 hS0 hb1 hC1
  obtain ⟨c0, c1, c2, c3, c4, c5, c6, c7, c8⟩ := hS1.bk.space
  go_wp2_with fail
  refine (hC2 _ hS1).mono ?_
  rintro e w2 ⟨rfl, hb2⟩
  have hS2 := hS1.keep hb2
  clear c0 c1 c2 c3 c4 c5 c6 c7 c8 hS1 hb2 hC2
  obtain ⟨c0, c1, c2, c3, c4, c5, c6, c7, c8⟩ := hS2.bk.space
  go_wp2_with fail
  refine (hL1 _ hS2).mono ?_
  rintro e w3 ⟨rfl, hb3⟩
  have hS3 := (hS2.keep hb3).alloc (.cells #[.int .i64 a0, .int .i64 a1] 23)
  have hA3 := Blk.new w3 23 #[.int .i64 a0, .int .i64 a1]
  clear c0 c1 c2 c3 c4 c5 c6 c7 c8 hS2 hb3 hL1
  obtain ⟨c0, c1, c2, c3, c4, c5, c6, c7, c8⟩ := hS3.bk.space
  go_wp2_with fail
  refine (hL2 _ hS3).mono ?_
  rintro e w4 ⟨rfl, hb4⟩
  have hq4 : Below w4.heap.size w4 (w4.alloc (.cells #[.int .i64 a0, .int .i64 a1] 23)) := (Below.refl _ _).alloc (Nat.le_refl _) _
  have hS4 := (hS3.keep hb4).keep hq4
  have hA4 := (hA3.keep hb4).keep hq4
  have hB4 := Blk.new w4 23 #[.int .i64 a0, .int .i64 a1]
  clear c0 c1 c2 c3 c4 c5 c6 c7 c8 hS3 hb4 hL2 hA3 hq4
  obtain ⟨c0, c1, c2, c3, c4, c5, c6, c7, c8⟩ := hS4.bk.space
  have z0 := hA4.cell 0
  have z1 := hA4.cell 1
  have t0 := hB4.cell 0
  have t1 := hB4.cell 1
  simp only [List.getElem?_toArray, List.getElem?_cons_zero, List.getElem?_cons_succ] at z0 z1 t0 t1
  have heq := eqSpan1 a0 a1
  go_wp2_with fail
  refine (hU1 _ hS4).mono ?_
  rintro e w5 ⟨rfl, hb5⟩
  have hS5 := hS4.keep hb5
  clear c0 c1 c2 c3 c4 c5 c6 c7 c8 hS4 hb5 hU1 z0 z1 t0 t1 hA4 hB4
  obtain ⟨c0, c1, c2, c3, c4, c5, c6, c7, c8⟩ := hS5.bk.space
  go_wp2_with fail
  refine (hU2 _ hS5).mono ?_
  rintro e w6 ⟨rfl, hb6⟩
  have hS6 := hS5.keep hb6
  clear c0 c1 c2 c3 c4 c5 c6 c7 c8 hS5 hb6 hU2
  go_wp2_with fail
  refine (awake_c _).mono ?_
  rintro e w7 ⟨rfl, hb7⟩
  go_wp2_with fail
  go_ret
  exact ⟨rfl, (hS6.keep hb7).sn.1⟩
end Td
end Go.Proofs.Ytccacinnelmnpaa
