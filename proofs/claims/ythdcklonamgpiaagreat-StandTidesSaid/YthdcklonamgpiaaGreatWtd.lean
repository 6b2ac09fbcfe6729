import Derived.Test.YthdcklonamgpiaaGreatRwh
import Derived.Test.YthdcklonamgpiaaGreatAwk
/- The law StandTides: what it returns. -/
namespace Go.Proofs.YthdcklonamgpiaaGreat
open Go.RowKit
namespace Td
set_option linter.unusedSimpArgs false
set_option linter.unusedVariables false
attribute [local go_sem] Oper.semAt_some
theorem show_len (h : Hul) (wt : Int) : (showA h wt).1.1.length ≤ 1000 ∧ (showA h wt).1.2.length ≤ 1000 := by
  unfold showA
  split
  · simp
  · rename_i hc
    have := (chk_ok (lookE_ok.1 (by simpa using hc)).1).n10
    simp [shG, shL]; omega
set_option maxRecDepth 100000 in
set_option maxHeartbeats 8000000 in
theorem standTides_c (h : Hul) (m : Sl) (lo hi wt : Int) (w : World) (hp : HAt w m h) :
    Calls Tryz.prog 3 #[.agg (hV h m), .agg #[.int .i64 lo, .int .i64 hi], .int .i64 wt] w fun e w' => e = .returned (.bool true) ∧ Below w.heap.size w w' := by
  have hs := ((Since.refl w).alloc (.cells (hV h m) 24)).alloc (.cells (sV2 lo hi) 26)
  have HB := Lib.hid ((Blk.new w 24 (hV h m)).alloc (.cells (sV2 lo hi) 26))
  have HX := Lib.hid (Blk.new1 w (.cells (hV h m) 24) 26 (sV2 lo hi))
  have HP := Lib.hid hp
  have HLN := Lib.hid (show_len h wt)
  clear hp
  go_enter Tryz.func3, Tryz.ntmps3
  obtain ⟨HB_0, HB_1, HB_2⟩ := HB.out.hull
  have HX_0 := HX.out.cell 0
  have HX_1 := HX.out.cell 1
  simp only [List.getElem?_toArray, List.getElem?_cons_zero, List.getElem?_cons_succ] at HX_0 HX_1
  go_wp2_with fail
  have k1 := Why_c h m lo hi _ (HP.out.keep hs.1)
  obtain ⟨⟨i1, i2, i3⟩, hi_⟩ : ∃ q, whyA h lo hi = q := ⟨_, rfl⟩
  have HI1 := Lib.hid hi_
  rw [hi_] at k1
  clear hi_
  refine (k1).mono ?_
  rintro e w1 ⟨rfl, hb⟩
  replace hs := hs.keep hb
  replace HB := Lib.hid (HB.out.keep hb)
  replace HX := Lib.hid (HX.out.keep hb)
  clear hb
  clear HB_0 HB_1 HB_2 HX_0 HX_1
  clear k1
  obtain ⟨HB_0, HB_1, HB_2⟩ := HB.out.hull
  have HX_0 := HX.out.cell 0
  have HX_1 := HX.out.cell 1
  simp only [List.getElem?_toArray, List.getElem?_cons_zero, List.getElem?_cons_succ] at HX_0 HX_1
  go_wp2_with fail
  have k1 := rwhy_c h m lo hi _ (HP.out.keep hs.1)
  rw [HI1.out] at k1
  refine (k1).mono ?_
  rintro e w2 ⟨rfl, hb⟩
  replace hs := hs.keep hb
  replace HB := Lib.hid (HB.out.keep hb)
  replace HX := Lib.hid (HX.out.keep hb)
  clear hb
  clear HB_0 HB_1 HB_2 HX_0 HX_1
  clear k1
  have h1 : (i1 != i1) = false := by simp
  have h2 : (i2 != i2) = false := by simp
  have h3 : (i3 != i3) = false := by simp
  obtain ⟨HB_0, HB_1, HB_2⟩ := HB.out.hull
  go_wp2_with fail
  clear h1 h2 h3
  have k1 := Show_c h m wt _ (HP.out.keep hs.1)
  obtain ⟨⟨⟨gs, ls⟩, y1, y2⟩, hi_⟩ : ∃ q, showA h wt = q := ⟨_, rfl⟩
  have HI := Lib.hid hi_
  rw [hi_] at k1 HLN
  clear hi_
  refine k1.mono ?_
  rintro e w3 ⟨⟨v, rfl, GA, gc, LA, lc, rfl, hG, hL, -, -, -⟩, hb⟩
  replace hs := hs.keep hb
  replace HB := Lib.hid (HB.out.keep hb)
  replace HX := Lib.hid (HX.out.keep hb)
  clear HB_0 HB_1 HB_2
  have HG := Lib.hid hG
  have HL := Lib.hid hL
  clear hb k1 hG hL
  replace HG : Hid (InAt w3 GA gs) := HG
  replace HL : Hid (InAt w3 LA ls) := HL
  replace HLN : Hid (gs.length ≤ 1000 ∧ ls.length ≤ 1000) := HLN
  have hq : Below w3.heap.size w3 (w3.alloc (.cells (tV GA gs.length gc LA ls.length lc) 32)) := (Below.refl _ _).alloc (Nat.le_refl _) _
  replace hs := hs.keep hq
  replace HB := Lib.hid (HB.out.keep hq)
  replace HX := Lib.hid (HX.out.keep hq)
  replace HG := Lib.hid (HG.out.keep hq)
  replace HL := Lib.hid (HL.out.keep hq)
  have HT := Lib.hid (Blk.new w3 32 (tV GA gs.length gc LA ls.length lc))
  clear hq
  obtain ⟨HB_0, HB_1, HB_2⟩ := HB.out.hull
  go_wp2_with fail
  have k1 := rshow_c h m wt _ (HP.out.keep hs.1)
  rw [HI.out] at k1
  refine k1.mono ?_
  rintro e w4 ⟨⟨v, rfl, GB, gd, LB, ld, rfl, hG, hL, -, -, -⟩, hb⟩
  replace hs := hs.keep hb
  replace HB := Lib.hid (HB.out.keep hb)
  replace HX := Lib.hid (HX.out.keep hb)
  replace HG := Lib.hid (HG.out.keep hb)
  replace HL := Lib.hid (HL.out.keep hb)
  replace HT := Lib.hid (HT.out.keep hb)
  clear HB_0 HB_1 HB_2
  have HG2 := Lib.hid hG
  have HL2 := Lib.hid hL
  clear hb k1 hG hL
  replace HG2 : Hid (InAt w4 GB gs) := HG2
  replace HL2 : Hid (InAt w4 LB ls) := HL2
  obtain ⟨g1, hg1⟩ : ∃ g, w3.heap.size = g := ⟨_, rfl⟩
  rw [hg1] at HT ⊢
  clear hg1
  have hq : Below w4.heap.size w4 (w4.alloc (.cells (tV GB gs.length gd LB ls.length ld) 32)) := (Below.refl _ _).alloc (Nat.le_refl _) _
  replace hs := hs.keep hq
  replace HB := Lib.hid (HB.out.keep hq)
  replace HX := Lib.hid (HX.out.keep hq)
  replace HG := Lib.hid (HG.out.keep hq)
  replace HL := Lib.hid (HL.out.keep hq)
  replace HT := Lib.hid (HT.out.keep hq)
  replace HG2 := Lib.hid (HG2.out.keep hq)
  replace HL2 := Lib.hid (HL2.out.keep hq)
  have HT2 := Lib.hid (Blk.new w4 32 (tV GB gs.length gd LB ls.length ld))
  clear hq
  have HT_0 := HT.out.cell 0
  have HT_1 := HT.out.cell 1
  simp only [List.getElem?_toArray, List.getElem?_cons_zero, List.getElem?_cons_succ] at HT_0 HT_1
  have HT2_0 := HT2.out.cell 0
  have HT2_1 := HT2.out.cell 1
  simp only [List.getElem?_toArray, List.getElem?_cons_zero, List.getElem?_cons_succ] at HT2_0 HT2_1
  go_wp2_with fail
  refine (same_c GA GB LA LB gs ls gc gd lc ld _ HLN.out.1 HLN.out.2 HG.out HG2.out HL.out HL2.out).mono ?_
  rintro e w5 ⟨rfl, hb⟩
  replace hs := hs.keep hb
  replace HB := Lib.hid (HB.out.keep hb)
  replace HX := Lib.hid (HX.out.keep hb)
  replace HG := Lib.hid (HG.out.keep hb)
  replace HL := Lib.hid (HL.out.keep hb)
  replace HT := Lib.hid (HT.out.keep hb)
  replace HG2 := Lib.hid (HG2.out.keep hb)
  replace HL2 := Lib.hid (HL2.out.keep hb)
  replace HT2 := Lib.hid (HT2.out.keep hb)
  clear hb
  clear HT_0 HT_1 HT2_0 HT2_1
  obtain ⟨g2, hg2⟩ : ∃ g, w4.heap.size = g := ⟨_, rfl⟩
  rw [hg2] at HT2 ⊢
  clear hg2
  clear HT HT2 HG HL HG2 HL2
  have h1 : (y1 != y1) = false := by simp
  have h2 : (y2 != y2) = false := by simp
  obtain ⟨HB_0, HB_1, HB_2⟩ := HB.out.hull
  go_wp2_with fail
  clear h1 h2
  have k1 := Tide_c h m _ (HP.out.keep hs.1)
  obtain ⟨⟨j1, j2⟩, hi_⟩ : ∃ q, tideA h = q := ⟨_, rfl⟩
  have HI3 := Lib.hid hi_
  rw [hi_] at k1
  clear hi_
  refine (k1).mono ?_
  rintro e w6 ⟨rfl, hb⟩
  replace hs := hs.keep hb
  replace HB := Lib.hid (HB.out.keep hb)
  clear hb
  clear HB_0 HB_1 HB_2
  clear k1
  obtain ⟨HB_0, HB_1, HB_2⟩ := HB.out.hull
  go_wp2_with fail
  have k1 := rtide_c h m _ (HP.out.keep hs.1)
  rw [HI3.out] at k1
  refine (k1).mono ?_
  rintro e w7 ⟨rfl, hb⟩
  replace hs := hs.keep hb
  replace HB := Lib.hid (HB.out.keep hb)
  clear hb
  clear HB_0 HB_1 HB_2
  clear k1
  have h1 : (j1 == j1) = true := by simp
  have h2 : (j2 == j2) = true := by simp
  go_wp2_with fail
  refine (awake_c _).mono ?_
  rintro e w9 ⟨rfl, hb⟩
  replace hs := hs.keep hb
  go_wp2_with fail
  go_ret
  exact ⟨rfl, hs.1⟩
end Td
end Go.Proofs.YthdcklonamgpiaaGreat
