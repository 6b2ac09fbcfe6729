import Derived.Test.YthdcklonamgpiaaRsm
import Derived.Test.YthdcklonamgpiaaAwk
/- The law StandBalances: what it returns. -/
namespace Go.Proofs.Ythdcklonamgpiaa
open Go.RowKit
namespace Td
set_option linter.unusedSimpArgs false
set_option linter.unusedVariables false
attribute [local go_sem] Oper.semAt_some
set_option maxRecDepth 100000 in
set_option maxHeartbeats 8000000 in
theorem standBalances_c (h : Hul) (m : Sl) (GA : Option Addr) (gs : List Int) (gc : Nat) (LA : Option Addr) (ls : List Int) (lc : Nat) (wt : Int) (w : World) (hp : HAt w m h) (hG : InAt w GA gs) (hL : InAt w LA ls) :
    Calls Try.prog 3 #[.agg (hV h m), .agg (tV GA gs.length gc LA ls.length lc), .int .i64 wt] w fun e w' => e = .returned (.bool true) ∧ Below w.heap.size w w' := by
  have hs := ((Since.refl w).alloc (.cells (hV h m) 24)).alloc (.cells (tV GA gs.length gc LA ls.length lc) 27)
  have HB := Lib.hid ((Blk.new w 24 (hV h m)).alloc (.cells (tV GA gs.length gc LA ls.length lc) 27))
  have HX := Lib.hid (Blk.new1 w (.cells (hV h m) 24) 27 (tV GA gs.length gc LA ls.length lc))
  have HP := Lib.hid hp
  have HG := Lib.hid hG
  have HL := Lib.hid hL
  clear hp hG hL
  obtain ⟨c0, c1, c2⟩ := HB.out.hull
  go_enter Try.func3, Try.ntmps3
  go_wp2_with fail
  have k1 := check_c h m _ (HP.out.keep hs.1)
  obtain ⟨⟨i1, i2, i3⟩, hi⟩ : ∃ q, chk h = q := ⟨_, rfl⟩
  have HI := Lib.hid hi
  rw [hi] at k1
  clear hi
  refine k1.mono ?_
  rintro e w1 ⟨rfl, hb⟩
  replace hs := hs.keep hb
  replace HB := Lib.hid (HB.out.keep hb)
  replace HX := Lib.hid (HX.out.keep hb)
  clear hb c0 c1 c2 k1
  obtain ⟨c0, c1, c2⟩ := HB.out.hull
  go_wp2_with fail
  have k1 := rcheck_c h m _ (HP.out.keep hs.1)
  rw [HI.out] at k1
  refine k1.mono ?_
  rintro e w2 ⟨rfl, hb⟩
  replace hs := hs.keep hb
  replace HB := Lib.hid (HB.out.keep hb)
  replace HX := Lib.hid (HX.out.keep hb)
  clear hb c0 c1 c2 k1
  obtain ⟨c0, c1, c2⟩ := HB.out.hull
  have x0 := HX.out.cell 0
  have x1 := HX.out.cell 1
  simp only [List.getElem?_toArray, List.getElem?_cons_zero, List.getElem?_cons_succ] at x0 x1
  go_wp2_with fail
  have k1 := Balance_c h m GA gs gc LA ls lc wt _ (HP.out.keep hs.1) (HG.out.keep hs.1) (HL.out.keep hs.1)
  obtain ⟨⟨⟨p, q, r⟩, eb⟩, hi⟩ : ∃ q, balanceA h gs ls wt = q := ⟨_, rfl⟩
  have HI2 := Lib.hid hi
  rw [hi] at k1
  clear hi
  refine k1.mono ?_
  rintro e w3 ⟨rfl, hb⟩
  replace hs := hs.keep hb
  replace HB := Lib.hid (HB.out.keep hb)
  replace HX := Lib.hid (HX.out.keep hb)
  clear hb c0 c1 c2 k1 x0 x1
  have HXL : Hid (w.heap.size + 1 < w3.heap.size) := HX.out.lt
  have hq : Below w3.heap.size w3 (w3.alloc (.cells #[.int .i64 p, .int .i64 q, .int .i64 r] 32)) := (Below.refl _ _).alloc (Nat.le_refl _) _
  replace hs := hs.keep hq
  replace HB := Lib.hid (HB.out.keep hq)
  replace HX := Lib.hid (HX.out.keep hq)
  have HQ := Lib.hid (Blk.new w3 32 #[.int .i64 p, .int .i64 q, .int .i64 r])
  clear hq
  obtain ⟨c0, c1, c2⟩ := HB.out.hull
  have x0 := HX.out.cell 0
  have x1 := HX.out.cell 1
  simp only [List.getElem?_toArray, List.getElem?_cons_zero, List.getElem?_cons_succ] at x0 x1
  go_wp2_with fail
  have k1 := rbalance_c h m GA gs gc LA ls lc wt _ (HP.out.keep hs.1) (HG.out.keep hs.1) (HL.out.keep hs.1)
  rw [HI2.out] at k1
  refine k1.mono ?_
  rintro e w4 ⟨rfl, hb⟩
  obtain ⟨gq, hgq⟩ : ∃ g, w3.heap.size = g := ⟨_, rfl⟩
  rw [hgq] at HQ ⊢
  have HS0 : Hid (w.heap.size + 1 < gq) := by show _ < _; rw [← hgq]; exact HXL.out
  replace hs := hs.keep hb
  replace HB := Lib.hid (HB.out.keep hb)
  replace HX := Lib.hid (HX.out.keep hb)
  replace HQ := Lib.hid (HQ.out.keep hb)
  clear hb c0 c1 c2 k1 x0 x1 hgq
  have hq : Below w4.heap.size w4 (w4.alloc (.cells #[.int .i64 p, .int .i64 q, .int .i64 r] 32)) := (Below.refl _ _).alloc (Nat.le_refl _) _
  replace hs := hs.keep hq
  replace HB := Lib.hid (HB.out.keep hq)
  have HG0 : Hid (gq < w4.heap.size) := HQ.out.lt
  replace HQ := Lib.hid (HQ.out.keep hq)
  have HZ := Lib.hid (Blk.new w4 32 #[.int .i64 p, .int .i64 q, .int .i64 r])
  clear hq HX
  obtain ⟨c0, c1, c2⟩ := HB.out.hull
  have q0 := HQ.out.cell 0
  have q1 := HQ.out.cell 1
  have q2 := HQ.out.cell 2
  have z0 := HZ.out.cell 0
  have z1 := HZ.out.cell 1
  have z2 := HZ.out.cell 2
  simp only [List.getElem?_toArray, List.getElem?_cons_zero, List.getElem?_cons_succ] at q0 q1 q2 z0 z1 z2
  have hq := eqBal p q r
  have heb : (eb != eb) = false := by simp
  go_wp2_with fail
  clear hq heb
  have k1 := Least_c h m wt _ (HP.out.keep hs.1)
  obtain ⟨⟨⟨p2, q2', r2⟩, eb2⟩, hi⟩ : ∃ q, leastA h wt = q := ⟨_, rfl⟩
  have HI3 := Lib.hid hi
  rw [hi] at k1
  clear hi
  refine k1.mono ?_
  rintro e w5 ⟨rfl, hb⟩
  obtain ⟨gz, hgz⟩ : ∃ g, w4.heap.size = g := ⟨_, rfl⟩
  rw [hgz] at HZ HG0 ⊢
  replace hs := hs.keep hb
  replace HB := Lib.hid (HB.out.keep hb)
  replace HQ := Lib.hid (HQ.out.keep hb)
  replace HZ := Lib.hid (HZ.out.keep hb)
  clear hb c0 c1 c2 k1 q0 q1 q2 z0 z1 z2 hgz
  have hgz := HG0.out
  have hgs := HS0.out
  have n1 : gq ≠ gz := by omega
  have n2 : gq ≠ w.heap.size := by omega
  have n3 : gz ≠ w.heap.size := by omega
  have Q1 := Lib.hid (HQ.out.row (b3 (p2, q2', r2)))
  have Z1 := Lib.hid (HZ.out.rowFar n1 (b3 (p2, q2', r2)))
  have B1 := Lib.hid (HB.out.rowFar n2 (b3 (p2, q2', r2)))
  have S1 := Lib.hid (hs.row (g := gq) (by omega) (b3 (p2, q2', r2)))
  obtain ⟨c0, c1, c2⟩ := B1.out.hull
  go_wp2_with (refine wpList_store_row rfl 32 _ _ rfl (gq) _ rfl rfl 32 _ HQ.out (by kernel_rfl) rfl (by simp [Value.oneCell']) ?_)
  have k1 := rleast_c h m wt _ (HP.out.keep S1.out.1)
  rw [HI3.out] at k1
  refine k1.mono ?_
  rintro e w6 ⟨rfl, hb⟩
  replace hs := S1.out.keep hb
  replace HB := Lib.hid (B1.out.keep hb)
  replace HQ := Lib.hid (Q1.out.keep hb)
  replace HZ := Lib.hid (Z1.out.keep hb)
  clear hb c0 c1 c2 k1 Q1 Z1 B1 S1
  have Q1 := Lib.hid (HQ.out.rowFar n1.symm (b3 (p2, q2', r2)))
  have Z1 := Lib.hid (HZ.out.row (b3 (p2, q2', r2)))
  have S1 := Lib.hid (hs.row (g := gz) (by omega) (b3 (p2, q2', r2)))
  have q0 := Q1.out.cell 0
  have q1 := Q1.out.cell 1
  have q2 := Q1.out.cell 2
  have z0 := Z1.out.cell 0
  have z1 := Z1.out.cell 1
  have z2 := Z1.out.cell 2
  simp only [List.getElem?_toArray, List.getElem?_cons_zero, List.getElem?_cons_succ] at q0 q1 q2 z0 z1 z2
  have hq := eqBal p2 q2' r2
  have heb : (eb2 == eb2) = true := by simp
  go_wp2_with (refine wpList_store_row rfl 32 _ _ rfl (gz) _ rfl rfl 32 _ HZ.out (by kernel_rfl) rfl (by simp [Value.oneCell']) ?_)
  refine (awake_c _).mono ?_
  rintro e w9 ⟨rfl, hb⟩
  replace hs := S1.out.keep hb
  go_wp2_with fail
  go_ret
  exact ⟨rfl, hs.1⟩
end Td
end Go.Proofs.Ythdcklonamgpiaa
