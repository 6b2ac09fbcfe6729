import Derived.Test.YtgkdidnmndmlhaaRSml
import Derived.Test.YtgkdidnmndmlhaaRLef
import Derived.Test.YtgkdidnmndmlhaaAwk
/- The law GradeSizes: what it returns. -/
namespace Go.Proofs.Ytgkdidnmndmlhaa
open Go.RowKit
namespace Td
set_option linter.unusedSimpArgs false
set_option linter.unusedVariables false
attribute [local go_sem] Oper.semAt_some
set_option maxRecDepth 100000 in
set_option maxHeartbeats 4000000 in
theorem gradeSizes_c (P lo hi y0 y1 : Int) (s : Int × Int) (w : World) :
    Calls Try.prog 5 #[.agg (gV P lo hi), .agg #[.int .i64 y0, .int .i64 y1], .agg (fV s)] w fun e w' => e = .returned (.bool true) ∧ Below w.heap.size w w' := by
  have hs := (((Since.refl w).alloc (.cells (gV P lo hi) 25)).alloc (.cells #[.int .i64 y0, .int .i64 y1] 26)).alloc (.cells (fV s) 41)
  have HG := Lib.hid (((Blk.new w 25 (gV P lo hi)).alloc (.cells #[.int .i64 y0, .int .i64 y1] 26)).alloc (.cells (fV s) 41))
  have HY := Lib.hid ((Blk.new1 w (.cells (gV P lo hi) 25) 26 #[.int .i64 y0, .int .i64 y1]).alloc (.cells (fV s) 41))
  have HX := Lib.hid (Blk.new2 w (.cells (gV P lo hi) 25) (.cells #[.int .i64 y0, .int .i64 y1] 26) 41 (fV s))
  have H1 := Lib.hid (fun W => Smallest_c P lo hi y0 s W)
  have H2 := Lib.hid (fun W => rSmallest_c P lo hi y0 s W)
  have H3 := Lib.hid (fun W => Left_c P lo hi y0 y1 W)
  have H4 := Lib.hid (fun W => rLeft_c P lo hi y0 y1 W)
  obtain ⟨⟨m0, e0⟩, hV⟩ : ∃ V, smaA P lo hi y0 s = V := ⟨_, rfl⟩
  obtain ⟨⟨uS, e1⟩, hV1⟩ : ∃ V, lefA P lo hi y0 y1 = V := ⟨_, rfl⟩
  rw [hV] at H1 H2
  rw [hV1] at H3 H4
  have HEA := Lib.hid (eqSp uS.1 uS.2)
  clear hV hV1
  obtain ⟨c0, c1, c2⟩ := HG.out.gcells
  have z0 := HY.out.cell 0
  have z1 := HY.out.cell 1
  simp only [List.getElem?_toArray, List.getElem?_cons_zero, List.getElem?_cons_succ] at z0 z1
  obtain ⟨x0, x1⟩ := HX.out.fcells
  go_enter Try.func5, Try.ntmps5
  go_wp2_with fail
  refine (H1.out _).mono ?_
  rintro e v1 ⟨rfl, hb⟩
  replace hs := hs.keep hb
  replace HG := Lib.hid (HG.out.keep hb)
  replace HY := Lib.hid (HY.out.keep hb)
  replace HX := Lib.hid (HX.out.keep hb)
  clear hb
  clear c0 c1 c2 z0 z1 x0 x1
  obtain ⟨c0, c1, c2⟩ := HG.out.gcells
  have z0 := HY.out.cell 0
  have z1 := HY.out.cell 1
  simp only [List.getElem?_toArray, List.getElem?_cons_zero, List.getElem?_cons_succ] at z0 z1
  obtain ⟨x0, x1⟩ := HX.out.fcells
  go_wp2_with fail
  refine (H2.out _).mono ?_
  rintro e v2 ⟨rfl, hb⟩
  replace hs := hs.keep hb
  replace HG := Lib.hid (HG.out.keep hb)
  replace HY := Lib.hid (HY.out.keep hb)
  clear hb
  clear c0 c1 c2 z0 z1 x0 x1
  obtain ⟨c0, c1, c2⟩ := HG.out.gcells
  have z0 := HY.out.cell 0
  have z1 := HY.out.cell 1
  simp only [List.getElem?_toArray, List.getElem?_cons_zero, List.getElem?_cons_succ] at z0 z1
  go_wp2_with fail
  refine (H3.out _).mono ?_
  rintro e v3 ⟨rfl, hb⟩
  replace hs := hs.keep hb
  replace HG := Lib.hid (HG.out.keep hb)
  replace HY := Lib.hid (HY.out.keep hb)
  clear hb
  clear c0 c1 c2 z0 z1
  have HA5 := Lib.hid (Blk.new v3 23 (fV uS))
  have hq : Below v3.heap.size v3 (v3.alloc (.cells (fV uS) 23)) := (Below.refl _ _).alloc (Nat.le_refl _) _
  replace hs := hs.keep hq
  replace HG := Lib.hid (HG.out.keep hq)
  replace HY := Lib.hid (HY.out.keep hq)
  obtain ⟨c0, c1, c2⟩ := HG.out.gcells
  have z0 := HY.out.cell 0
  have z1 := HY.out.cell 1
  simp only [List.getElem?_toArray, List.getElem?_cons_zero, List.getElem?_cons_succ] at z0 z1
  go_wp2_with fail
  clear hq c0 c1 c2 z0 z1
  obtain ⟨k5, hk5⟩ : ∃ k, v3.heap.size = k := ⟨_, rfl⟩
  rw [hk5] at HA5
  first | rw [hk5] | skip
  clear hk5
  refine (H4.out _).mono ?_
  rintro e v4 ⟨rfl, hb⟩
  replace hs := hs.keep hb
  replace HA5 := Lib.hid (HA5.out.keep hb)
  clear hb
  have HA6 := Lib.hid (Blk.new v4 23 (fV uS))
  have hq : Below v4.heap.size v4 (v4.alloc (.cells (fV uS) 23)) := (Below.refl _ _).alloc (Nat.le_refl _) _
  replace hs := hs.keep hq
  replace HA5 := Lib.hid (HA5.out.keep hq)
  obtain ⟨a0, a1⟩ := HA5.out.fcells
  obtain ⟨b0, b1⟩ := HA6.out.fcells
  have hq1 := HEA.out
  go_wp2_with fail
  clear hq a0 a1 b0 b1 hq1
  refine (awake_c _).mono ?_
  rintro e v5 ⟨rfl, hb⟩
  replace hs := hs.keep hb
  clear hb
  go_wp2_with fail
  go_ret
  exact ⟨rfl, hs.1⟩
end Td
end Go.Proofs.Ytgkdidnmndmlhaa
