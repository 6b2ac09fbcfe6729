import Derived.Test.YthdcklonamgpiaaAwa
/- The examples' calls: Awake. -/
namespace Go.Proofs.Ythdcklonamgpiaa
open Go.RowKit
namespace Td
set_option linter.unusedSimpArgs false
set_option linter.unusedVariables false
attribute [local go_sem] Oper.semAt_some
set_option maxRecDepth 100000 in
set_option maxHeartbeats 8000000 in
theorem awake_c (w : World) : Calls Try.prog 21 #[] w fun e w' => e = .returned (.bool true) ∧ Below w.heap.size w w' := by
  have hs := Since.refl w
  go_enter Try.func21, Try.ntmps21
  go_wp2_with fail
  refine (hull_c _).mono ?_
  rintro e v1 ⟨⟨m1, rfl, hh1⟩, hb⟩
  replace hs := hs.keep hb
  clear hb
  have HA1 := Lib.hid hh1
  clear hh1
  go_wp2_with fail
  refine (heavy_c _).mono ?_
  rintro e v2 ⟨⟨vv, rfl, GA2, gc2, LA2, lc2, rfl, hg, hl, -, -, -⟩, hb⟩
  replace hs := hs.keep hb
  replace HA1 := Lib.hid (HA1.out.keep hb)
  clear hb
  have HG2 := Lib.hid hg
  have HL2 := Lib.hid hl
  clear hg hl
  go_wp2_with fail
  refine (eBal_c m1 GA2 gc2 LA2 lc2 _ HA1.out HG2.out HL2.out).mono ?_
  rintro e v3 ⟨rfl, hb⟩
  replace hs := hs.keep hb
  replace HA1 := Lib.hid (HA1.out.keep hb)
  replace HG2 := Lib.hid (HG2.out.keep hb)
  replace HL2 := Lib.hid (HL2.out.keep hb)
  clear hb
  clear HA1 HG2 HL2
  go_wp2_with fail
  have hq : Below v3.heap.size v3 (v3.alloc (.cells #[.int .i64 1642, .int .i64 990800, .int .i64 (-5600)] 32)) := (Below.refl _ _).alloc (Nat.le_refl _) _
  replace hs := hs.keep hq
  have HX := Lib.hid (Blk.new v3 32 #[.int .i64 1642, .int .i64 990800, .int .i64 (-5600)])
  obtain ⟨kHX, hk⟩ : ∃ k, v3.heap.size = k := ⟨_, rfl⟩
  obtain ⟨u4, hu⟩ : ∃ u, v3.alloc (.cells #[.int .i64 1642, .int .i64 990800, .int .i64 (-5600)] 32) = u := ⟨_, rfl⟩
  rw [hu] at hs HX  ⊢
  rw [hk] at HX ⊢
  clear hu hk hq
  go_wp2_with fail
  refine (hull_c _).mono ?_
  rintro e v5 ⟨⟨m5, rfl, hh5⟩, hb⟩
  replace hs := hs.keep hb
  replace HX := Lib.hid (HX.out.keep hb)
  clear hb
  have HA5 := Lib.hid hh5
  clear hh5
  go_wp2_with fail
  refine (eLst_c m5 _ HA5.out).mono ?_
  rintro e v6 ⟨rfl, hb⟩
  replace hs := hs.keep hb
  replace HX := Lib.hid (HX.out.keep hb)
  replace HA5 := Lib.hid (HA5.out.keep hb)
  clear hb
  clear HA5
  go_wp2_with fail
  have hq : Below v6.heap.size v6 (v6.alloc (.cells #[.int .i64 1050, .int .i64 730000, .int .i64 (-140000)] 32)) := (Below.refl _ _).alloc (Nat.le_refl _) _
  replace hs := hs.keep hq
  replace HX := Lib.hid (HX.out.keep hq)
  have HY := Lib.hid (Blk.new v6 32 #[.int .i64 1050, .int .i64 730000, .int .i64 (-140000)])
  obtain ⟨kHY, hk⟩ : ∃ k, v6.heap.size = k := ⟨_, rfl⟩
  obtain ⟨u7, hu⟩ : ∃ u, v6.alloc (.cells #[.int .i64 1050, .int .i64 730000, .int .i64 (-140000)] 32) = u := ⟨_, rfl⟩
  rw [hu] at hs HY HX ⊢
  rw [hk] at HY ⊢
  clear hu hk hq
  go_wp2_with fail
  refine (hull_c _).mono ?_
  rintro e v8 ⟨⟨m8, rfl, hh8⟩, hb⟩
  replace hs := hs.keep hb
  replace HX := Lib.hid (HX.out.keep hb)
  replace HY := Lib.hid (HY.out.keep hb)
  clear hb
  have HA8 := Lib.hid hh8
  clear hh8
  go_wp2_with fail
  refine (span_c 0 150 _).mono ?_
  rintro e v9 ⟨rfl, hb⟩
  replace hs := hs.keep hb
  replace HX := Lib.hid (HX.out.keep hb)
  replace HY := Lib.hid (HY.out.keep hb)
  replace HA8 := Lib.hid (HA8.out.keep hb)
  clear hb
  go_wp2_with fail
  refine (eWhy_c m8 _ HA8.out).mono ?_
  rintro e v10 ⟨rfl, hb⟩
  replace hs := hs.keep hb
  replace HX := Lib.hid (HX.out.keep hb)
  replace HY := Lib.hid (HY.out.keep hb)
  replace HA8 := Lib.hid (HA8.out.keep hb)
  clear hb
  clear HA8
  go_wp2_with fail
  refine (hull_c _).mono ?_
  rintro e v11 ⟨⟨m11, rfl, hh11⟩, hb⟩
  replace hs := hs.keep hb
  replace HX := Lib.hid (HX.out.keep hb)
  replace HY := Lib.hid (HY.out.keep hb)
  clear hb
  have HA11 := Lib.hid hh11
  clear hh11
  go_wp2_with fail
  refine (eShow_c m11 _ HA11.out).mono ?_
  rintro e v12 ⟨⟨vv, rfl, GS, gsc, LS, lsc, rfl, hg, hl, -, -, -⟩, hb⟩
  replace hs := hs.keep hb
  replace HX := Lib.hid (HX.out.keep hb)
  replace HY := Lib.hid (HY.out.keep hb)
  replace HA11 := Lib.hid (HA11.out.keep hb)
  clear hb
  have HGS := Lib.hid hg
  have HLS := Lib.hid hl
  clear hg hl
  clear HA11
  go_wp2_with fail
  have hq : Below v12.heap.size v12 (v12.alloc (.cells (tV GS exG.length gsc LS exL.length lsc) 27)) := (Below.refl _ _).alloc (Nat.le_refl _) _
  replace hs := hs.keep hq
  replace HX := Lib.hid (HX.out.keep hq)
  replace HY := Lib.hid (HY.out.keep hq)
  replace HGS := Lib.hid (HGS.out.keep hq)
  replace HLS := Lib.hid (HLS.out.keep hq)
  have HZ := Lib.hid (Blk.new v12 27 (tV GS exG.length gsc LS exL.length lsc))
  obtain ⟨kHZ, hk⟩ : ∃ k, v12.heap.size = k := ⟨_, rfl⟩
  obtain ⟨u13, hu⟩ : ∃ u, v12.alloc (.cells (tV GS exG.length gsc LS exL.length lsc) 27) = u := ⟨_, rfl⟩
  rw [hu] at hs HZ HX HY HGS HLS ⊢
  rw [hk] at HZ ⊢
  clear hu hk hq
  go_wp2_with fail
  refine (hull_c _).mono ?_
  rintro e v14 ⟨⟨m14, rfl, hh14⟩, hb⟩
  replace hs := hs.keep hb
  replace HX := Lib.hid (HX.out.keep hb)
  replace HY := Lib.hid (HY.out.keep hb)
  replace HGS := Lib.hid (HGS.out.keep hb)
  replace HLS := Lib.hid (HLS.out.keep hb)
  replace HZ := Lib.hid (HZ.out.keep hb)
  clear hb
  have HA14 := Lib.hid hh14
  clear hh14
  go_wp2_with fail
  refine (heavy_c _).mono ?_
  rintro e v15 ⟨⟨vv, rfl, GA15, gc15, LA15, lc15, rfl, hg, hl, -, -, -⟩, hb⟩
  replace hs := hs.keep hb
  replace HX := Lib.hid (HX.out.keep hb)
  replace HY := Lib.hid (HY.out.keep hb)
  replace HGS := Lib.hid (HGS.out.keep hb)
  replace HLS := Lib.hid (HLS.out.keep hb)
  replace HZ := Lib.hid (HZ.out.keep hb)
  replace HA14 := Lib.hid (HA14.out.keep hb)
  clear hb
  have HG15 := Lib.hid hg
  have HL15 := Lib.hid hl
  clear hg hl
  go_wp2_with fail
  refine (eFor_c m14 GA15 gc15 LA15 lc15 _ HA14.out HG15.out HL15.out).mono ?_
  rintro e v16 ⟨⟨vf, rfl, hf⟩, hb⟩
  replace hs := hs.keep hb
  replace HX := Lib.hid (HX.out.keep hb)
  replace HY := Lib.hid (HY.out.keep hb)
  replace HGS := Lib.hid (HGS.out.keep hb)
  replace HLS := Lib.hid (HLS.out.keep hb)
  replace HZ := Lib.hid (HZ.out.keep hb)
  replace HA14 := Lib.hid (HA14.out.keep hb)
  replace HG15 := Lib.hid (HG15.out.keep hb)
  replace HL15 := Lib.hid (HL15.out.keep hb)
  clear hb
  have HF := Lib.hid hf
  clear hf
  clear HA14 HG15 HL15
  go_wp2_with fail
  refine (hull_c _).mono ?_
  rintro e v17 ⟨⟨m17, rfl, hh17⟩, hb⟩
  replace hs := hs.keep hb
  replace HX := Lib.hid (HX.out.keep hb)
  replace HY := Lib.hid (HY.out.keep hb)
  replace HGS := Lib.hid (HGS.out.keep hb)
  replace HLS := Lib.hid (HLS.out.keep hb)
  replace HZ := Lib.hid (HZ.out.keep hb)
  replace HF := Lib.hid (HF.out.keep hb)
  clear hb
  have HA17 := Lib.hid hh17
  clear hh17
  go_wp2_with fail
  refine (heavy_c _).mono ?_
  rintro e v18 ⟨⟨vv, rfl, GA18, gc18, LA18, lc18, rfl, hg, hl, -, -, -⟩, hb⟩
  replace hs := hs.keep hb
  replace HX := Lib.hid (HX.out.keep hb)
  replace HY := Lib.hid (HY.out.keep hb)
  replace HGS := Lib.hid (HGS.out.keep hb)
  replace HLS := Lib.hid (HLS.out.keep hb)
  replace HZ := Lib.hid (HZ.out.keep hb)
  replace HF := Lib.hid (HF.out.keep hb)
  replace HA17 := Lib.hid (HA17.out.keep hb)
  clear hb
  have HG18 := Lib.hid hg
  have HL18 := Lib.hid hl
  clear hg hl
  go_wp2_with fail
  refine (two_c _).mono ?_
  rintro e v19 ⟨⟨rfl, hf⟩, hb⟩
  replace hs := hs.keep hb
  replace HX := Lib.hid (HX.out.keep hb)
  replace HY := Lib.hid (HY.out.keep hb)
  replace HGS := Lib.hid (HGS.out.keep hb)
  replace HLS := Lib.hid (HLS.out.keep hb)
  replace HZ := Lib.hid (HZ.out.keep hb)
  replace HF := Lib.hid (HF.out.keep hb)
  replace HA17 := Lib.hid (HA17.out.keep hb)
  replace HG18 := Lib.hid (HG18.out.keep hb)
  replace HL18 := Lib.hid (HL18.out.keep hb)
  clear hb
  have HT := Lib.hid hf
  clear hf
  go_wp2_with fail
  refine (eBer_c m17 GA18 gc18 LA18 lc18 _ 2 _ HA17.out HG18.out HL18.out HT.out).mono ?_
  rintro e v20 ⟨rfl, hb⟩
  replace hs := hs.keep hb
  replace HX := Lib.hid (HX.out.keep hb)
  replace HY := Lib.hid (HY.out.keep hb)
  replace HGS := Lib.hid (HGS.out.keep hb)
  replace HLS := Lib.hid (HLS.out.keep hb)
  replace HZ := Lib.hid (HZ.out.keep hb)
  replace HF := Lib.hid (HF.out.keep hb)
  replace HA17 := Lib.hid (HA17.out.keep hb)
  replace HG18 := Lib.hid (HG18.out.keep hb)
  replace HL18 := Lib.hid (HL18.out.keep hb)
  replace HT := Lib.hid (HT.out.keep hb)
  clear hb
  clear HA17 HG18 HL18 HT
  go_wp2_with fail
  refine (hull_c _).mono ?_
  rintro e v21 ⟨⟨m21, rfl, hh21⟩, hb⟩
  replace hs := hs.keep hb
  replace HX := Lib.hid (HX.out.keep hb)
  replace HY := Lib.hid (HY.out.keep hb)
  replace HGS := Lib.hid (HGS.out.keep hb)
  replace HLS := Lib.hid (HLS.out.keep hb)
  replace HZ := Lib.hid (HZ.out.keep hb)
  replace HF := Lib.hid (HF.out.keep hb)
  clear hb
  have HA21 := Lib.hid hh21
  clear hh21
  go_wp2_with fail
  refine (heavy_c _).mono ?_
  rintro e v22 ⟨⟨vv, rfl, GA22, gc22, LA22, lc22, rfl, hg, hl, -, -, -⟩, hb⟩
  replace hs := hs.keep hb
  replace HX := Lib.hid (HX.out.keep hb)
  replace HY := Lib.hid (HY.out.keep hb)
  replace HGS := Lib.hid (HGS.out.keep hb)
  replace HLS := Lib.hid (HLS.out.keep hb)
  replace HZ := Lib.hid (HZ.out.keep hb)
  replace HF := Lib.hid (HF.out.keep hb)
  replace HA21 := Lib.hid (HA21.out.keep hb)
  clear hb
  have HG22 := Lib.hid hg
  have HL22 := Lib.hid hl
  clear hg hl
  go_wp2_with fail
  refine (two_c _).mono ?_
  rintro e v23 ⟨⟨rfl, hf⟩, hb⟩
  replace hs := hs.keep hb
  replace HX := Lib.hid (HX.out.keep hb)
  replace HY := Lib.hid (HY.out.keep hb)
  replace HGS := Lib.hid (HGS.out.keep hb)
  replace HLS := Lib.hid (HLS.out.keep hb)
  replace HZ := Lib.hid (HZ.out.keep hb)
  replace HF := Lib.hid (HF.out.keep hb)
  replace HA21 := Lib.hid (HA21.out.keep hb)
  replace HG22 := Lib.hid (HG22.out.keep hb)
  replace HL22 := Lib.hid (HL22.out.keep hb)
  clear hb
  have HT := Lib.hid hf
  clear hf
  go_wp2_with fail
  refine (eBer1_c m21 GA22 gc22 LA22 lc22 _ 2 _ HA21.out HG22.out HL22.out HT.out).mono ?_
  rintro e v24 ⟨rfl, hb⟩
  replace hs := hs.keep hb
  replace HX := Lib.hid (HX.out.keep hb)
  replace HY := Lib.hid (HY.out.keep hb)
  replace HGS := Lib.hid (HGS.out.keep hb)
  replace HLS := Lib.hid (HLS.out.keep hb)
  replace HZ := Lib.hid (HZ.out.keep hb)
  replace HF := Lib.hid (HF.out.keep hb)
  replace HA21 := Lib.hid (HA21.out.keep hb)
  replace HG22 := Lib.hid (HG22.out.keep hb)
  replace HL22 := Lib.hid (HL22.out.keep hb)
  replace HT := Lib.hid (HT.out.keep hb)
  clear hb
  clear HA21 HG22 HL22 HT
  go_wp2_with fail
  refine (hull_c _).mono ?_
  rintro e v25 ⟨⟨m25, rfl, hh25⟩, hb⟩
  replace hs := hs.keep hb
  replace HX := Lib.hid (HX.out.keep hb)
  replace HY := Lib.hid (HY.out.keep hb)
  replace HGS := Lib.hid (HGS.out.keep hb)
  replace HLS := Lib.hid (HLS.out.keep hb)
  replace HZ := Lib.hid (HZ.out.keep hb)
  replace HF := Lib.hid (HF.out.keep hb)
  clear hb
  have HA25 := Lib.hid hh25
  clear hh25
  go_wp2_with fail
  refine (eTide_c m25 _ HA25.out).mono ?_
  rintro e v26 ⟨rfl, hb⟩
  replace hs := hs.keep hb
  replace HX := Lib.hid (HX.out.keep hb)
  replace HY := Lib.hid (HY.out.keep hb)
  replace HGS := Lib.hid (HGS.out.keep hb)
  replace HLS := Lib.hid (HLS.out.keep hb)
  replace HZ := Lib.hid (HZ.out.keep hb)
  replace HF := Lib.hid (HF.out.keep hb)
  replace HA25 := Lib.hid (HA25.out.keep hb)
  clear hb
  clear HA25
  go_wp2_with fail
  refine (hull_c _).mono ?_
  rintro e v27 ⟨⟨m27, rfl, hh27⟩, hb⟩
  replace hs := hs.keep hb
  replace HX := Lib.hid (HX.out.keep hb)
  replace HY := Lib.hid (HY.out.keep hb)
  replace HGS := Lib.hid (HGS.out.keep hb)
  replace HLS := Lib.hid (HLS.out.keep hb)
  replace HZ := Lib.hid (HZ.out.keep hb)
  replace HF := Lib.hid (HF.out.keep hb)
  clear hb
  have HA27 := Lib.hid hh27
  clear hh27
  go_wp2_with fail
  refine (span_c 0 150 _).mono ?_
  rintro e v28 ⟨rfl, hb⟩
  replace hs := hs.keep hb
  replace HX := Lib.hid (HX.out.keep hb)
  replace HY := Lib.hid (HY.out.keep hb)
  replace HGS := Lib.hid (HGS.out.keep hb)
  replace HLS := Lib.hid (HLS.out.keep hb)
  replace HZ := Lib.hid (HZ.out.keep hb)
  replace HF := Lib.hid (HF.out.keep hb)
  replace HA27 := Lib.hid (HA27.out.keep hb)
  clear hb
  go_wp2_with fail
  refine (eBlt_c m27 _ HA27.out).mono ?_
  rintro e v29 ⟨rfl, hb⟩
  replace hs := hs.keep hb
  replace HX := Lib.hid (HX.out.keep hb)
  replace HY := Lib.hid (HY.out.keep hb)
  replace HGS := Lib.hid (HGS.out.keep hb)
  replace HLS := Lib.hid (HLS.out.keep hb)
  replace HZ := Lib.hid (HZ.out.keep hb)
  replace HF := Lib.hid (HF.out.keep hb)
  replace HA27 := Lib.hid (HA27.out.keep hb)
  clear hb
  clear HA27
  go_wp2_with fail
  refine (hull_c _).mono ?_
  rintro e v30 ⟨⟨m30, rfl, hh30⟩, hb⟩
  replace hs := hs.keep hb
  replace HX := Lib.hid (HX.out.keep hb)
  replace HY := Lib.hid (HY.out.keep hb)
  replace HGS := Lib.hid (HGS.out.keep hb)
  replace HLS := Lib.hid (HLS.out.keep hb)
  replace HZ := Lib.hid (HZ.out.keep hb)
  replace HF := Lib.hid (HF.out.keep hb)
  clear hb
  have HA30 := Lib.hid hh30
  clear hh30
  go_wp2_with fail
  refine (span_c 0 150 _).mono ?_
  rintro e v31 ⟨rfl, hb⟩
  replace hs := hs.keep hb
  replace HX := Lib.hid (HX.out.keep hb)
  replace HY := Lib.hid (HY.out.keep hb)
  replace HGS := Lib.hid (HGS.out.keep hb)
  replace HLS := Lib.hid (HLS.out.keep hb)
  replace HZ := Lib.hid (HZ.out.keep hb)
  replace HF := Lib.hid (HF.out.keep hb)
  replace HA30 := Lib.hid (HA30.out.keep hb)
  clear hb
  go_wp2_with fail
  refine (eBlt0_c m30 _ HA30.out).mono ?_
  rintro e v32 ⟨rfl, hb⟩
  replace hs := hs.keep hb
  replace HX := Lib.hid (HX.out.keep hb)
  replace HY := Lib.hid (HY.out.keep hb)
  replace HGS := Lib.hid (HGS.out.keep hb)
  replace HLS := Lib.hid (HLS.out.keep hb)
  replace HZ := Lib.hid (HZ.out.keep hb)
  replace HF := Lib.hid (HF.out.keep hb)
  replace HA30 := Lib.hid (HA30.out.keep hb)
  clear hb
  clear HA30
  go_wp2_with fail
  refine Vals6.regionAll (fun X => Blk X kHX 32 #[.int .i64 1642, .int .i64 990800, .int .i64 (-5600)] ∧ Blk X kHY 32 #[.int .i64 1050, .int .i64 730000, .int .i64 (-140000)] ∧ Blk X kHZ 27 (tV GS exG.length gsc LS exL.length lsc) ∧ InAt X GS exG ∧ InAt X LS exL ∧ Fv X vf [(200, 700000), (800, 1400000)] ∧ Since w X) [some 85, some 86, some 87, some 88, some 89, some 90, some 91, some 92, some 93, some 94, some 95, some 96, some 97, some 98, some 99, some 100, some 101, some 102, some 103, some 104, some 105, some 106, some 107, some 108, some 109, some 110, some 111, some 112, some 113, some 114, some 115, some 116, some 117, some 118, some 119, some 120, some 121, some 122, some 123, some 124, some 125, some 126, some 127, some 128, some 129, some 130, some 131, some 132, some 133, some 134, some 135, some 136, some 137, some 138, some 139, some 140, some 141, some 142, some 143, some 144, some 145, some 146, some 147, some 148, some 149, some 150, some 151, some 152, some 153, some 154, some 155, some 156, some 157, some 158, some 159, some 160, some 161, some 162, some 163, some 164, some 165, some 166, some 167, some 168, some 169, some 170, some 171] [.is (.int .i64 0), .is (.bool true), .is (.bool true), .is (.int .i64 0), .is (.bool true), .is (.bool true), .is (.bool true), .is (.int .i64 0), .is (.bool true), .is (.bool true), .is (.bool true), .is (.int .i64 0), .is (.bool true), .is (.bool true), .is (.bool true), .is (.int .i64 0), .is (.bool true), .is (.bool true), .is (.bool true), .is (.int .i64 0), .is (.bool true), .is (.bool true), .is (.bool true), .is (.int .i64 0), .is (.bool true), .is (.bool true), .is (.bool true), .is (.int .i64 0), .is (.bool true), .is (.bool true), .is (.bool true), .is (.int .i64 0), .is (.bool true), .is (.bool true), .is (.bool true), .is (.int .i64 2), .is (.bool true), .is (.bool true), .is (.bool true), .is (.agg #[.int .i64 1642, .int .i64 990800, .int .i64 (-5600)]), .is (.agg #[.int .i64 1642, .int .i64 990800, .int .i64 (-5600)]), .is (.bool true), .is (.bool true), .is (.bool true), .is (.agg #[.int .i64 1050, .int .i64 730000, .int .i64 (-140000)]), .is (.agg #[.int .i64 1050, .int .i64 730000, .int .i64 (-140000)]), .is (.bool true), .is (.bool true), .is (.bool true), .is (.int .i64 3), .is (.bool true), .is (.bool true), .is (.bool true), .is (.int .i64 134), .is (.bool true), .is (.bool true), .is (.bool true), .is (.agg (tV GS exG.length gsc LS exL.length lsc)), .has (TvP exG exL), .is (.bool true), .is (.bool true), .is (.bool true), .is (.int .i64 3), .is (.bool true), .is (.bool true), .is (.bool true), .is (vf), .is (.agg #[.int .i64 200, .int .i64 700000]), .is (.agg #[.int .i64 800, .int .i64 1400000]), .has (FvP [(200, 700000), (800, 1400000)]), .is (.bool true), .is (.bool true), .is (.bool true), .is (.bool true), .is (.bool true), .is (.bool true), .is (.bool false), .is (.bool true), .is (.bool true), .is (.bool true), .is (.int .i64 133), .is (.bool true), .is (.bool true), .is (.bool true), .is (.int .i64 350), .is (.bool true), .is (.bool true)] (by kernel_rfl) rfl rfl (by kernel_rfl) (by kernel_rfl) (by kernel_rfl) (by kernel_rfl) (by kernel_rfl) (by kernel_rfl) rfl (⟨HX.out.drew, HY.out.drew, HZ.out.drew, HGS.out.keep (Below.refl _ _).drew, HLS.out.keep (Below.refl _ _).drew, HF.out.keep (Below.refl _ _).drew, hs.drew⟩) ?hsteps ?hend
  case hsteps =>
    refine Vals5.Steps.run rfl (Vals5.Stable.is _) ?_ ?_
    · intro a W hS pre old K hK
      have e2 := old 2 _ (by kernel_rfl) rfl
      clear pre old
      simp only [Vals5.fits, Array.getD_eq_getD_getElem?, List.getElem?_toArray, List.getElem?_cons_zero, List.getElem?_cons_succ, Option.getD_some] at e2
      go_simp
      refine hK _ _ hS (Below.refl _ _) ?_
      exact fits_is _ _
    refine Vals5.Steps.run rfl (Vals5.Stable.is _) ?_ ?_
    · intro a W hS pre old K hK
      have e85 := pre 0 85 _ (by kernel_rfl) rfl rfl
      clear pre old
      simp only [Vals5.fits, Array.getD_eq_getD_getElem?, List.getElem?_toArray, List.getElem?_cons_zero, List.getElem?_cons_succ, Option.getD_some] at e85
      go_simp
      refine hK _ _ hS (Below.refl _ _) ?_
      exact fits_is _ _
    refine Vals5.Steps.run rfl (Vals5.Stable.is _) ?_ ?_
    · intro a W hS pre old K hK
      have e86 := pre 1 86 _ (by kernel_rfl) rfl rfl
      clear pre old
      simp only [Vals5.fits, Array.getD_eq_getD_getElem?, List.getElem?_toArray, List.getElem?_cons_zero, List.getElem?_cons_succ, Option.getD_some] at e86
      go_simp
      refine hK _ _ hS (Below.refl _ _) ?_
      exact fits_is _ _
    refine Vals5.Steps.run rfl (Vals5.Stable.is _) ?_ ?_
    · intro a W hS pre old K hK
      have e4 := old 4 _ (by kernel_rfl) rfl
      clear pre old
      simp only [Vals5.fits, Array.getD_eq_getD_getElem?, List.getElem?_toArray, List.getElem?_cons_zero, List.getElem?_cons_succ, Option.getD_some] at e4
      go_simp
      refine hK _ _ hS (Below.refl _ _) ?_
      exact fits_is _ _
    refine Vals5.Steps.run rfl (Vals5.Stable.is _) ?_ ?_
    · intro a W hS pre old K hK
      have e88 := pre 3 88 _ (by kernel_rfl) rfl rfl
      clear pre old
      simp only [Vals5.fits, Array.getD_eq_getD_getElem?, List.getElem?_toArray, List.getElem?_cons_zero, List.getElem?_cons_succ, Option.getD_some] at e88
      go_simp
      refine hK _ _ hS (Below.refl _ _) ?_
      exact fits_is _ _
    refine Vals5.Steps.run rfl (Vals5.Stable.is _) ?_ ?_
    · intro a W hS pre old K hK
      have e87 := pre 2 87 _ (by kernel_rfl) rfl rfl
      have e89 := pre 4 89 _ (by kernel_rfl) rfl rfl
      clear pre old
      simp only [Vals5.fits, Array.getD_eq_getD_getElem?, List.getElem?_toArray, List.getElem?_cons_zero, List.getElem?_cons_succ, Option.getD_some] at e87 e89
      go_simp
      refine hK _ _ hS (Below.refl _ _) ?_
      exact fits_is _ _
    refine Vals5.Steps.run rfl (Vals5.Stable.is _) ?_ ?_
    · intro a W hS pre old K hK
      have e90 := pre 5 90 _ (by kernel_rfl) rfl rfl
      clear pre old
      simp only [Vals5.fits, Array.getD_eq_getD_getElem?, List.getElem?_toArray, List.getElem?_cons_zero, List.getElem?_cons_succ, Option.getD_some] at e90
      go_simp
      refine hK _ _ hS (Below.refl _ _) ?_
      exact fits_is _ _
    refine Vals5.Steps.run rfl (Vals5.Stable.is _) ?_ ?_
    · intro a W hS pre old K hK
      have e7 := old 7 _ (by kernel_rfl) rfl
      clear pre old
      simp only [Vals5.fits, Array.getD_eq_getD_getElem?, List.getElem?_toArray, List.getElem?_cons_zero, List.getElem?_cons_succ, Option.getD_some] at e7
      go_simp
      refine hK _ _ hS (Below.refl _ _) ?_
      exact fits_is _ _
    refine Vals5.Steps.run rfl (Vals5.Stable.is _) ?_ ?_
    · intro a W hS pre old K hK
      have e92 := pre 7 92 _ (by kernel_rfl) rfl rfl
      clear pre old
      simp only [Vals5.fits, Array.getD_eq_getD_getElem?, List.getElem?_toArray, List.getElem?_cons_zero, List.getElem?_cons_succ, Option.getD_some] at e92
      go_simp
      refine hK _ _ hS (Below.refl _ _) ?_
      exact fits_is _ _
    refine Vals5.Steps.run rfl (Vals5.Stable.is _) ?_ ?_
    · intro a W hS pre old K hK
      have e91 := pre 6 91 _ (by kernel_rfl) rfl rfl
      have e93 := pre 8 93 _ (by kernel_rfl) rfl rfl
      clear pre old
      simp only [Vals5.fits, Array.getD_eq_getD_getElem?, List.getElem?_toArray, List.getElem?_cons_zero, List.getElem?_cons_succ, Option.getD_some] at e91 e93
      go_simp
      refine hK _ _ hS (Below.refl _ _) ?_
      exact fits_is _ _
    refine Vals5.Steps.run rfl (Vals5.Stable.is _) ?_ ?_
    · intro a W hS pre old K hK
      have e94 := pre 9 94 _ (by kernel_rfl) rfl rfl
      clear pre old
      simp only [Vals5.fits, Array.getD_eq_getD_getElem?, List.getElem?_toArray, List.getElem?_cons_zero, List.getElem?_cons_succ, Option.getD_some] at e94
      go_simp
      refine hK _ _ hS (Below.refl _ _) ?_
      exact fits_is _ _
    refine Vals5.Steps.run rfl (Vals5.Stable.is _) ?_ ?_
    · intro a W hS pre old K hK
      have e10 := old 10 _ (by kernel_rfl) rfl
      clear pre old
      simp only [Vals5.fits, Array.getD_eq_getD_getElem?, List.getElem?_toArray, List.getElem?_cons_zero, List.getElem?_cons_succ, Option.getD_some] at e10
      go_simp
      refine hK _ _ hS (Below.refl _ _) ?_
      exact fits_is _ _
    refine Vals5.Steps.run rfl (Vals5.Stable.is _) ?_ ?_
    · intro a W hS pre old K hK
      have e96 := pre 11 96 _ (by kernel_rfl) rfl rfl
      clear pre old
      simp only [Vals5.fits, Array.getD_eq_getD_getElem?, List.getElem?_toArray, List.getElem?_cons_zero, List.getElem?_cons_succ, Option.getD_some] at e96
      go_simp
      refine hK _ _ hS (Below.refl _ _) ?_
      exact fits_is _ _
    refine Vals5.Steps.run rfl (Vals5.Stable.is _) ?_ ?_
    · intro a W hS pre old K hK
      have e95 := pre 10 95 _ (by kernel_rfl) rfl rfl
      have e97 := pre 12 97 _ (by kernel_rfl) rfl rfl
      clear pre old
      simp only [Vals5.fits, Array.getD_eq_getD_getElem?, List.getElem?_toArray, List.getElem?_cons_zero, List.getElem?_cons_succ, Option.getD_some] at e95 e97
      go_simp
      refine hK _ _ hS (Below.refl _ _) ?_
      exact fits_is _ _
    refine Vals5.Steps.run rfl (Vals5.Stable.is _) ?_ ?_
    · intro a W hS pre old K hK
      have e98 := pre 13 98 _ (by kernel_rfl) rfl rfl
      clear pre old
      simp only [Vals5.fits, Array.getD_eq_getD_getElem?, List.getElem?_toArray, List.getElem?_cons_zero, List.getElem?_cons_succ, Option.getD_some] at e98
      go_simp
      refine hK _ _ hS (Below.refl _ _) ?_
      exact fits_is _ _
    refine Vals5.Steps.run rfl (Vals5.Stable.is _) ?_ ?_
    · intro a W hS pre old K hK
      have e12 := old 12 _ (by kernel_rfl) rfl
      clear pre old
      simp only [Vals5.fits, Array.getD_eq_getD_getElem?, List.getElem?_toArray, List.getElem?_cons_zero, List.getElem?_cons_succ, Option.getD_some] at e12
      go_simp
      refine hK _ _ hS (Below.refl _ _) ?_
      exact fits_is _ _
    refine Vals5.Steps.run rfl (Vals5.Stable.is _) ?_ ?_
    · intro a W hS pre old K hK
      have e100 := pre 15 100 _ (by kernel_rfl) rfl rfl
      clear pre old
      simp only [Vals5.fits, Array.getD_eq_getD_getElem?, List.getElem?_toArray, List.getElem?_cons_zero, List.getElem?_cons_succ, Option.getD_some] at e100
      go_simp
      refine hK _ _ hS (Below.refl _ _) ?_
      exact fits_is _ _
    refine Vals5.Steps.run rfl (Vals5.Stable.is _) ?_ ?_
    · intro a W hS pre old K hK
      have e99 := pre 14 99 _ (by kernel_rfl) rfl rfl
      have e101 := pre 16 101 _ (by kernel_rfl) rfl rfl
      clear pre old
      simp only [Vals5.fits, Array.getD_eq_getD_getElem?, List.getElem?_toArray, List.getElem?_cons_zero, List.getElem?_cons_succ, Option.getD_some] at e99 e101
      go_simp
      refine hK _ _ hS (Below.refl _ _) ?_
      exact fits_is _ _
    refine Vals5.Steps.run rfl (Vals5.Stable.is _) ?_ ?_
    · intro a W hS pre old K hK
      have e102 := pre 17 102 _ (by kernel_rfl) rfl rfl
      clear pre old
      simp only [Vals5.fits, Array.getD_eq_getD_getElem?, List.getElem?_toArray, List.getElem?_cons_zero, List.getElem?_cons_succ, Option.getD_some] at e102
      go_simp
      refine hK _ _ hS (Below.refl _ _) ?_
      exact fits_is _ _
    refine Vals5.Steps.run rfl (Vals5.Stable.is _) ?_ ?_
    · intro a W hS pre old K hK
      have e14 := old 14 _ (by kernel_rfl) rfl
      clear pre old
      simp only [Vals5.fits, Array.getD_eq_getD_getElem?, List.getElem?_toArray, List.getElem?_cons_zero, List.getElem?_cons_succ, Option.getD_some] at e14
      go_simp
      refine hK _ _ hS (Below.refl _ _) ?_
      exact fits_is _ _
    refine Vals5.Steps.run rfl (Vals5.Stable.is _) ?_ ?_
    · intro a W hS pre old K hK
      have e104 := pre 19 104 _ (by kernel_rfl) rfl rfl
      clear pre old
      simp only [Vals5.fits, Array.getD_eq_getD_getElem?, List.getElem?_toArray, List.getElem?_cons_zero, List.getElem?_cons_succ, Option.getD_some] at e104
      go_simp
      refine hK _ _ hS (Below.refl _ _) ?_
      exact fits_is _ _
    refine Vals5.Steps.run rfl (Vals5.Stable.is _) ?_ ?_
    · intro a W hS pre old K hK
      have e103 := pre 18 103 _ (by kernel_rfl) rfl rfl
      have e105 := pre 20 105 _ (by kernel_rfl) rfl rfl
      clear pre old
      simp only [Vals5.fits, Array.getD_eq_getD_getElem?, List.getElem?_toArray, List.getElem?_cons_zero, List.getElem?_cons_succ, Option.getD_some] at e103 e105
      go_simp
      refine hK _ _ hS (Below.refl _ _) ?_
      exact fits_is _ _
    refine Vals5.Steps.run rfl (Vals5.Stable.is _) ?_ ?_
    · intro a W hS pre old K hK
      have e106 := pre 21 106 _ (by kernel_rfl) rfl rfl
      clear pre old
      simp only [Vals5.fits, Array.getD_eq_getD_getElem?, List.getElem?_toArray, List.getElem?_cons_zero, List.getElem?_cons_succ, Option.getD_some] at e106
      go_simp
      refine hK _ _ hS (Below.refl _ _) ?_
      exact fits_is _ _
    refine Vals5.Steps.run rfl (Vals5.Stable.is _) ?_ ?_
    · intro a W hS pre old K hK
      have e16 := old 16 _ (by kernel_rfl) rfl
      clear pre old
      simp only [Vals5.fits, Array.getD_eq_getD_getElem?, List.getElem?_toArray, List.getElem?_cons_zero, List.getElem?_cons_succ, Option.getD_some] at e16
      go_simp
      refine hK _ _ hS (Below.refl _ _) ?_
      exact fits_is _ _
    refine Vals5.Steps.run rfl (Vals5.Stable.is _) ?_ ?_
    · intro a W hS pre old K hK
      have e108 := pre 23 108 _ (by kernel_rfl) rfl rfl
      clear pre old
      simp only [Vals5.fits, Array.getD_eq_getD_getElem?, List.getElem?_toArray, List.getElem?_cons_zero, List.getElem?_cons_succ, Option.getD_some] at e108
      go_simp
      refine hK _ _ hS (Below.refl _ _) ?_
      exact fits_is _ _
    refine Vals5.Steps.run rfl (Vals5.Stable.is _) ?_ ?_
    · intro a W hS pre old K hK
      have e107 := pre 22 107 _ (by kernel_rfl) rfl rfl
      have e109 := pre 24 109 _ (by kernel_rfl) rfl rfl
      clear pre old
      simp only [Vals5.fits, Array.getD_eq_getD_getElem?, List.getElem?_toArray, List.getElem?_cons_zero, List.getElem?_cons_succ, Option.getD_some] at e107 e109
      go_simp
      refine hK _ _ hS (Below.refl _ _) ?_
      exact fits_is _ _
    refine Vals5.Steps.run rfl (Vals5.Stable.is _) ?_ ?_
    · intro a W hS pre old K hK
      have e110 := pre 25 110 _ (by kernel_rfl) rfl rfl
      clear pre old
      simp only [Vals5.fits, Array.getD_eq_getD_getElem?, List.getElem?_toArray, List.getElem?_cons_zero, List.getElem?_cons_succ, Option.getD_some] at e110
      go_simp
      refine hK _ _ hS (Below.refl _ _) ?_
      exact fits_is _ _
    refine Vals5.Steps.run rfl (Vals5.Stable.is _) ?_ ?_
    · intro a W hS pre old K hK
      have e18 := old 18 _ (by kernel_rfl) rfl
      clear pre old
      simp only [Vals5.fits, Array.getD_eq_getD_getElem?, List.getElem?_toArray, List.getElem?_cons_zero, List.getElem?_cons_succ, Option.getD_some] at e18
      go_simp
      refine hK _ _ hS (Below.refl _ _) ?_
      exact fits_is _ _
    refine Vals5.Steps.run rfl (Vals5.Stable.is _) ?_ ?_
    · intro a W hS pre old K hK
      have e112 := pre 27 112 _ (by kernel_rfl) rfl rfl
      clear pre old
      simp only [Vals5.fits, Array.getD_eq_getD_getElem?, List.getElem?_toArray, List.getElem?_cons_zero, List.getElem?_cons_succ, Option.getD_some] at e112
      go_simp
      refine hK _ _ hS (Below.refl _ _) ?_
      exact fits_is _ _
    refine Vals5.Steps.run rfl (Vals5.Stable.is _) ?_ ?_
    · intro a W hS pre old K hK
      have e111 := pre 26 111 _ (by kernel_rfl) rfl rfl
      have e113 := pre 28 113 _ (by kernel_rfl) rfl rfl
      clear pre old
      simp only [Vals5.fits, Array.getD_eq_getD_getElem?, List.getElem?_toArray, List.getElem?_cons_zero, List.getElem?_cons_succ, Option.getD_some] at e111 e113
      go_simp
      refine hK _ _ hS (Below.refl _ _) ?_
      exact fits_is _ _
    refine Vals5.Steps.run rfl (Vals5.Stable.is _) ?_ ?_
    · intro a W hS pre old K hK
      have e114 := pre 29 114 _ (by kernel_rfl) rfl rfl
      clear pre old
      simp only [Vals5.fits, Array.getD_eq_getD_getElem?, List.getElem?_toArray, List.getElem?_cons_zero, List.getElem?_cons_succ, Option.getD_some] at e114
      go_simp
      refine hK _ _ hS (Below.refl _ _) ?_
      exact fits_is _ _
    refine Vals5.Steps.run rfl (Vals5.Stable.is _) ?_ ?_
    · intro a W hS pre old K hK
      have e20 := old 20 _ (by kernel_rfl) rfl
      clear pre old
      simp only [Vals5.fits, Array.getD_eq_getD_getElem?, List.getElem?_toArray, List.getElem?_cons_zero, List.getElem?_cons_succ, Option.getD_some] at e20
      go_simp
      refine hK _ _ hS (Below.refl _ _) ?_
      exact fits_is _ _
    refine Vals5.Steps.run rfl (Vals5.Stable.is _) ?_ ?_
    · intro a W hS pre old K hK
      have e116 := pre 31 116 _ (by kernel_rfl) rfl rfl
      clear pre old
      simp only [Vals5.fits, Array.getD_eq_getD_getElem?, List.getElem?_toArray, List.getElem?_cons_zero, List.getElem?_cons_succ, Option.getD_some] at e116
      go_simp
      refine hK _ _ hS (Below.refl _ _) ?_
      exact fits_is _ _
    refine Vals5.Steps.run rfl (Vals5.Stable.is _) ?_ ?_
    · intro a W hS pre old K hK
      have e115 := pre 30 115 _ (by kernel_rfl) rfl rfl
      have e117 := pre 32 117 _ (by kernel_rfl) rfl rfl
      clear pre old
      simp only [Vals5.fits, Array.getD_eq_getD_getElem?, List.getElem?_toArray, List.getElem?_cons_zero, List.getElem?_cons_succ, Option.getD_some] at e115 e117
      go_simp
      refine hK _ _ hS (Below.refl _ _) ?_
      exact fits_is _ _
    refine Vals5.Steps.run rfl (Vals5.Stable.is _) ?_ ?_
    · intro a W hS pre old K hK
      have e118 := pre 33 118 _ (by kernel_rfl) rfl rfl
      clear pre old
      simp only [Vals5.fits, Array.getD_eq_getD_getElem?, List.getElem?_toArray, List.getElem?_cons_zero, List.getElem?_cons_succ, Option.getD_some] at e118
      go_simp
      refine hK _ _ hS (Below.refl _ _) ?_
      exact fits_is _ _
    refine Vals5.Steps.run rfl (Vals5.Stable.is _) ?_ ?_
    · intro a W hS pre old K hK
      have e22 := old 22 _ (by kernel_rfl) rfl
      clear pre old
      simp only [Vals5.fits, Array.getD_eq_getD_getElem?, List.getElem?_toArray, List.getElem?_cons_zero, List.getElem?_cons_succ, Option.getD_some] at e22
      go_simp
      refine hK _ _ hS (Below.refl _ _) ?_
      exact fits_is _ _
    refine Vals5.Steps.run rfl (Vals5.Stable.is _) ?_ ?_
    · intro a W hS pre old K hK
      have e120 := pre 35 120 _ (by kernel_rfl) rfl rfl
      clear pre old
      simp only [Vals5.fits, Array.getD_eq_getD_getElem?, List.getElem?_toArray, List.getElem?_cons_zero, List.getElem?_cons_succ, Option.getD_some] at e120
      go_simp
      refine hK _ _ hS (Below.refl _ _) ?_
      exact fits_is _ _
    refine Vals5.Steps.run rfl (Vals5.Stable.is _) ?_ ?_
    · intro a W hS pre old K hK
      have e119 := pre 34 119 _ (by kernel_rfl) rfl rfl
      have e121 := pre 36 121 _ (by kernel_rfl) rfl rfl
      clear pre old
      simp only [Vals5.fits, Array.getD_eq_getD_getElem?, List.getElem?_toArray, List.getElem?_cons_zero, List.getElem?_cons_succ, Option.getD_some] at e119 e121
      go_simp
      refine hK _ _ hS (Below.refl _ _) ?_
      exact fits_is _ _
    refine Vals5.Steps.run rfl (Vals5.Stable.is _) ?_ ?_
    · intro a W hS pre old K hK
      have e122 := pre 37 122 _ (by kernel_rfl) rfl rfl
      clear pre old
      simp only [Vals5.fits, Array.getD_eq_getD_getElem?, List.getElem?_toArray, List.getElem?_cons_zero, List.getElem?_cons_succ, Option.getD_some] at e122
      go_simp
      refine hK _ _ hS (Below.refl _ _) ?_
      exact fits_is _ _
    refine Vals5.Steps.run rfl (Vals5.Stable.is _) ?_ ?_
    · intro a W hS pre old K hK
      have e1 := old 1 _ (by kernel_rfl) rfl
      clear pre old
      simp only [Vals5.fits, Array.getD_eq_getD_getElem?, List.getElem?_toArray, List.getElem?_cons_zero, List.getElem?_cons_succ, Option.getD_some] at e1
      have hS9 := hS
      obtain ⟨q1, q2, q3, q4, q5, q6, q7⟩ := hS9
      have x0 := q1.cell 0
      have x1 := q1.cell 1
      have x2 := q1.cell 2
      have y0 := q2.cell 0
      have y1 := q2.cell 1
      have y2 := q2.cell 2
      have z0 := q3.cell 0
      have z1 := q3.cell 1
      simp only [List.getElem?_toArray, List.getElem?_cons_zero, List.getElem?_cons_succ] at x0 x1 x2 y0 y1 y2 z0 z1
      go_simp
      refine hK _ _ hS (Below.refl _ _) ?_
      exact fits_is _ _
    refine Vals5.Steps.run rfl (Vals5.Stable.is _) ?_ ?_
    · intro a W hS pre old K hK
      clear pre old
      go_simp
      refine hK _ _ hS (Below.refl _ _) ?_
      exact fits_is _ _
    refine Vals5.Steps.run rfl (Vals5.Stable.is _) ?_ ?_
    · intro a W hS pre old K hK
      have e124 := pre 39 124 _ (by kernel_rfl) rfl rfl
      have e125 := pre 40 125 _ (by kernel_rfl) rfl rfl
      clear pre old
      simp only [Vals5.fits, Array.getD_eq_getD_getElem?, List.getElem?_toArray, List.getElem?_cons_zero, List.getElem?_cons_succ, Option.getD_some] at e124 e125
      have hq := eqBal 1642 990800 (-5600)
      go_simp
      refine hK _ _ hS (Below.refl _ _) ?_
      exact fits_is _ _
    refine Vals5.Steps.run rfl (Vals5.Stable.is _) ?_ ?_
    · intro a W hS pre old K hK
      have e123 := pre 38 123 _ (by kernel_rfl) rfl rfl
      have e126 := pre 41 126 _ (by kernel_rfl) rfl rfl
      clear pre old
      simp only [Vals5.fits, Array.getD_eq_getD_getElem?, List.getElem?_toArray, List.getElem?_cons_zero, List.getElem?_cons_succ, Option.getD_some] at e123 e126
      go_simp
      refine hK _ _ hS (Below.refl _ _) ?_
      exact fits_is _ _
    refine Vals5.Steps.run rfl (Vals5.Stable.is _) ?_ ?_
    · intro a W hS pre old K hK
      have e127 := pre 42 127 _ (by kernel_rfl) rfl rfl
      clear pre old
      simp only [Vals5.fits, Array.getD_eq_getD_getElem?, List.getElem?_toArray, List.getElem?_cons_zero, List.getElem?_cons_succ, Option.getD_some] at e127
      go_simp
      refine hK _ _ hS (Below.refl _ _) ?_
      exact fits_is _ _
    refine Vals5.Steps.run rfl (Vals5.Stable.is _) ?_ ?_
    · intro a W hS pre old K hK
      have e3 := old 3 _ (by kernel_rfl) rfl
      clear pre old
      simp only [Vals5.fits, Array.getD_eq_getD_getElem?, List.getElem?_toArray, List.getElem?_cons_zero, List.getElem?_cons_succ, Option.getD_some] at e3
      have hS9 := hS
      obtain ⟨q1, q2, q3, q4, q5, q6, q7⟩ := hS9
      have x0 := q1.cell 0
      have x1 := q1.cell 1
      have x2 := q1.cell 2
      have y0 := q2.cell 0
      have y1 := q2.cell 1
      have y2 := q2.cell 2
      have z0 := q3.cell 0
      have z1 := q3.cell 1
      simp only [List.getElem?_toArray, List.getElem?_cons_zero, List.getElem?_cons_succ] at x0 x1 x2 y0 y1 y2 z0 z1
      go_simp
      refine hK _ _ hS (Below.refl _ _) ?_
      exact fits_is _ _
    refine Vals5.Steps.run rfl (Vals5.Stable.is _) ?_ ?_
    · intro a W hS pre old K hK
      clear pre old
      go_simp
      refine hK _ _ hS (Below.refl _ _) ?_
      exact fits_is _ _
    refine Vals5.Steps.run rfl (Vals5.Stable.is _) ?_ ?_
    · intro a W hS pre old K hK
      have e129 := pre 44 129 _ (by kernel_rfl) rfl rfl
      have e130 := pre 45 130 _ (by kernel_rfl) rfl rfl
      clear pre old
      simp only [Vals5.fits, Array.getD_eq_getD_getElem?, List.getElem?_toArray, List.getElem?_cons_zero, List.getElem?_cons_succ, Option.getD_some] at e129 e130
      have hq := eqBal 1050 730000 (-140000)
      go_simp
      refine hK _ _ hS (Below.refl _ _) ?_
      exact fits_is _ _
    refine Vals5.Steps.run rfl (Vals5.Stable.is _) ?_ ?_
    · intro a W hS pre old K hK
      have e128 := pre 43 128 _ (by kernel_rfl) rfl rfl
      have e131 := pre 46 131 _ (by kernel_rfl) rfl rfl
      clear pre old
      simp only [Vals5.fits, Array.getD_eq_getD_getElem?, List.getElem?_toArray, List.getElem?_cons_zero, List.getElem?_cons_succ, Option.getD_some] at e128 e131
      go_simp
      refine hK _ _ hS (Below.refl _ _) ?_
      exact fits_is _ _
    refine Vals5.Steps.run rfl (Vals5.Stable.is _) ?_ ?_
    · intro a W hS pre old K hK
      have e132 := pre 47 132 _ (by kernel_rfl) rfl rfl
      clear pre old
      simp only [Vals5.fits, Array.getD_eq_getD_getElem?, List.getElem?_toArray, List.getElem?_cons_zero, List.getElem?_cons_succ, Option.getD_some] at e132
      go_simp
      refine hK _ _ hS (Below.refl _ _) ?_
      exact fits_is _ _
    refine Vals5.Steps.run rfl (Vals5.Stable.is _) ?_ ?_
    · intro a W hS pre old K hK
      have e5 := old 5 _ (by kernel_rfl) rfl
      clear pre old
      simp only [Vals5.fits, Array.getD_eq_getD_getElem?, List.getElem?_toArray, List.getElem?_cons_zero, List.getElem?_cons_succ, Option.getD_some] at e5
      go_simp
      refine hK _ _ hS (Below.refl _ _) ?_
      exact fits_is _ _
    refine Vals5.Steps.run rfl (Vals5.Stable.is _) ?_ ?_
    · intro a W hS pre old K hK
      have e134 := pre 49 134 _ (by kernel_rfl) rfl rfl
      clear pre old
      simp only [Vals5.fits, Array.getD_eq_getD_getElem?, List.getElem?_toArray, List.getElem?_cons_zero, List.getElem?_cons_succ, Option.getD_some] at e134
      go_simp
      refine hK _ _ hS (Below.refl _ _) ?_
      exact fits_is _ _
    refine Vals5.Steps.run rfl (Vals5.Stable.is _) ?_ ?_
    · intro a W hS pre old K hK
      have e133 := pre 48 133 _ (by kernel_rfl) rfl rfl
      have e135 := pre 50 135 _ (by kernel_rfl) rfl rfl
      clear pre old
      simp only [Vals5.fits, Array.getD_eq_getD_getElem?, List.getElem?_toArray, List.getElem?_cons_zero, List.getElem?_cons_succ, Option.getD_some] at e133 e135
      go_simp
      refine hK _ _ hS (Below.refl _ _) ?_
      exact fits_is _ _
    refine Vals5.Steps.run rfl (Vals5.Stable.is _) ?_ ?_
    · intro a W hS pre old K hK
      have e136 := pre 51 136 _ (by kernel_rfl) rfl rfl
      clear pre old
      simp only [Vals5.fits, Array.getD_eq_getD_getElem?, List.getElem?_toArray, List.getElem?_cons_zero, List.getElem?_cons_succ, Option.getD_some] at e136
      go_simp
      refine hK _ _ hS (Below.refl _ _) ?_
      exact fits_is _ _
    refine Vals5.Steps.run rfl (Vals5.Stable.is _) ?_ ?_
    · intro a W hS pre old K hK
      have e6 := old 6 _ (by kernel_rfl) rfl
      clear pre old
      simp only [Vals5.fits, Array.getD_eq_getD_getElem?, List.getElem?_toArray, List.getElem?_cons_zero, List.getElem?_cons_succ, Option.getD_some] at e6
      go_simp
      refine hK _ _ hS (Below.refl _ _) ?_
      exact fits_is _ _
    refine Vals5.Steps.run rfl (Vals5.Stable.is _) ?_ ?_
    · intro a W hS pre old K hK
      have e138 := pre 53 138 _ (by kernel_rfl) rfl rfl
      clear pre old
      simp only [Vals5.fits, Array.getD_eq_getD_getElem?, List.getElem?_toArray, List.getElem?_cons_zero, List.getElem?_cons_succ, Option.getD_some] at e138
      go_simp
      refine hK _ _ hS (Below.refl _ _) ?_
      exact fits_is _ _
    refine Vals5.Steps.run rfl (Vals5.Stable.is _) ?_ ?_
    · intro a W hS pre old K hK
      have e137 := pre 52 137 _ (by kernel_rfl) rfl rfl
      have e139 := pre 54 139 _ (by kernel_rfl) rfl rfl
      clear pre old
      simp only [Vals5.fits, Array.getD_eq_getD_getElem?, List.getElem?_toArray, List.getElem?_cons_zero, List.getElem?_cons_succ, Option.getD_some] at e137 e139
      go_simp
      refine hK _ _ hS (Below.refl _ _) ?_
      exact fits_is _ _
    refine Vals5.Steps.run rfl (Vals5.Stable.is _) ?_ ?_
    · intro a W hS pre old K hK
      have e140 := pre 55 140 _ (by kernel_rfl) rfl rfl
      clear pre old
      simp only [Vals5.fits, Array.getD_eq_getD_getElem?, List.getElem?_toArray, List.getElem?_cons_zero, List.getElem?_cons_succ, Option.getD_some] at e140
      go_simp
      refine hK _ _ hS (Below.refl _ _) ?_
      exact fits_is _ _
    refine Vals5.Steps.run rfl (Vals5.Stable.is _) ?_ ?_
    · intro a W hS pre old K hK
      have e8 := old 8 _ (by kernel_rfl) rfl
      clear pre old
      simp only [Vals5.fits, Array.getD_eq_getD_getElem?, List.getElem?_toArray, List.getElem?_cons_zero, List.getElem?_cons_succ, Option.getD_some] at e8
      have hS9 := hS
      obtain ⟨q1, q2, q3, q4, q5, q6, q7⟩ := hS9
      have x0 := q1.cell 0
      have x1 := q1.cell 1
      have x2 := q1.cell 2
      have y0 := q2.cell 0
      have y1 := q2.cell 1
      have y2 := q2.cell 2
      have z0 := q3.cell 0
      have z1 := q3.cell 1
      simp only [List.getElem?_toArray, List.getElem?_cons_zero, List.getElem?_cons_succ] at x0 x1 x2 y0 y1 y2 z0 z1
      go_simp
      refine hK _ _ hS (Below.refl _ _) ?_
      exact fits_is _ _
    refine Vals5.Steps.run rfl (TvP.stable _ _) ?_ ?_
    · intro a W hS pre old K hK
      clear pre old
      go_simp
      refine (heavy_c _).mono ?_
      rintro e w' ⟨⟨v, rfl, GA, gc, LA, lc, rfl, hg, hl, hc, -, -⟩, hb'⟩
      obtain ⟨q1, q2, q3, q4, q5, q6, q7⟩ := hS
      exact hK _ _ ⟨q1.keep hb', q2.keep hb', q3.keep hb', q4.keep hb', q5.keep hb', q6.keep hb', q7.keep hb'⟩ hb' ⟨GA, gc, LA, lc, rfl, hg, hl, hc, fun _ _ => Nat.zero_le _, fun _ _ => Nat.zero_le _⟩
    refine Vals5.Steps.run rfl (Vals5.Stable.is _) ?_ ?_
    · intro a W hS pre old K hK
      have e142 := pre 57 142 _ (by kernel_rfl) rfl rfl
      have f143 := pre 58 143 _ (by kernel_rfl) rfl rfl
      clear pre old
      simp only [Vals5.fits, Array.getD_eq_getD_getElem?, List.getElem?_toArray, List.getElem?_cons_zero, List.getElem?_cons_succ, Option.getD_some] at e142
      obtain ⟨GA, gc, LA, lc, hv, hg, hl, -, -, -⟩ := f143
      simp only [Array.getD_eq_getD_getElem?] at hv
      obtain ⟨q1, q2, q3, q4, q5, q6, q7⟩ := hS
      have hC := same_c GS GA LS LA exG exL gsc gc lsc lc W (by decide) (by decide) q4 hg q5 hl
      go_simp
      refine hC.mono ?_
      rintro e w' ⟨rfl, hb'⟩
      refine hK _ _ ⟨q1.keep hb', q2.keep hb', q3.keep hb', q4.keep hb', q5.keep hb', q6.keep hb', q7.keep hb'⟩ hb' ?_
      exact fits_is _ _
    refine Vals5.Steps.run rfl (Vals5.Stable.is _) ?_ ?_
    · intro a W hS pre old K hK
      have e141 := pre 56 141 _ (by kernel_rfl) rfl rfl
      have e144 := pre 59 144 _ (by kernel_rfl) rfl rfl
      clear pre old
      simp only [Vals5.fits, Array.getD_eq_getD_getElem?, List.getElem?_toArray, List.getElem?_cons_zero, List.getElem?_cons_succ, Option.getD_some] at e141 e144
      go_simp
      refine hK _ _ hS (Below.refl _ _) ?_
      exact fits_is _ _
    refine Vals5.Steps.run rfl (Vals5.Stable.is _) ?_ ?_
    · intro a W hS pre old K hK
      have e145 := pre 60 145 _ (by kernel_rfl) rfl rfl
      clear pre old
      simp only [Vals5.fits, Array.getD_eq_getD_getElem?, List.getElem?_toArray, List.getElem?_cons_zero, List.getElem?_cons_succ, Option.getD_some] at e145
      go_simp
      refine hK _ _ hS (Below.refl _ _) ?_
      exact fits_is _ _
    refine Vals5.Steps.run rfl (Vals5.Stable.is _) ?_ ?_
    · intro a W hS pre old K hK
      have e9 := old 9 _ (by kernel_rfl) rfl
      clear pre old
      simp only [Vals5.fits, Array.getD_eq_getD_getElem?, List.getElem?_toArray, List.getElem?_cons_zero, List.getElem?_cons_succ, Option.getD_some] at e9
      go_simp
      refine hK _ _ hS (Below.refl _ _) ?_
      exact fits_is _ _
    refine Vals5.Steps.run rfl (Vals5.Stable.is _) ?_ ?_
    · intro a W hS pre old K hK
      have e147 := pre 62 147 _ (by kernel_rfl) rfl rfl
      clear pre old
      simp only [Vals5.fits, Array.getD_eq_getD_getElem?, List.getElem?_toArray, List.getElem?_cons_zero, List.getElem?_cons_succ, Option.getD_some] at e147
      go_simp
      refine hK _ _ hS (Below.refl _ _) ?_
      exact fits_is _ _
    refine Vals5.Steps.run rfl (Vals5.Stable.is _) ?_ ?_
    · intro a W hS pre old K hK
      have e146 := pre 61 146 _ (by kernel_rfl) rfl rfl
      have e148 := pre 63 148 _ (by kernel_rfl) rfl rfl
      clear pre old
      simp only [Vals5.fits, Array.getD_eq_getD_getElem?, List.getElem?_toArray, List.getElem?_cons_zero, List.getElem?_cons_succ, Option.getD_some] at e146 e148
      go_simp
      refine hK _ _ hS (Below.refl _ _) ?_
      exact fits_is _ _
    refine Vals5.Steps.run rfl (Vals5.Stable.is _) ?_ ?_
    · intro a W hS pre old K hK
      have e149 := pre 64 149 _ (by kernel_rfl) rfl rfl
      clear pre old
      simp only [Vals5.fits, Array.getD_eq_getD_getElem?, List.getElem?_toArray, List.getElem?_cons_zero, List.getElem?_cons_succ, Option.getD_some] at e149
      go_simp
      refine hK _ _ hS (Below.refl _ _) ?_
      exact fits_is _ _
    refine Vals5.Steps.run rfl (Vals5.Stable.is _) ?_ ?_
    · intro a W hS pre old K hK
      have e11 := old 11 _ (by kernel_rfl) rfl
      clear pre old
      simp only [Vals5.fits, Array.getD_eq_getD_getElem?, List.getElem?_toArray, List.getElem?_cons_zero, List.getElem?_cons_succ, Option.getD_some] at e11
      go_simp
      refine hK _ _ hS (Below.refl _ _) ?_
      exact fits_is _ _
    refine Vals5.Steps.run rfl (Vals5.Stable.is _) ?_ ?_
    · intro a W hS pre old K hK
      clear pre old
      go_simp
      refine hK _ _ hS (Below.refl _ _) ?_
      exact fits_is _ _
    refine Vals5.Steps.run rfl (Vals5.Stable.is _) ?_ ?_
    · intro a W hS pre old K hK
      clear pre old
      go_simp
      refine hK _ _ hS (Below.refl _ _) ?_
      exact fits_is _ _
    refine Vals5.Steps.run rfl (FvP.stable _) ?_ ?_
    · intro a W hS pre old K hK
      have e152 := pre 67 152 _ (by kernel_rfl) rfl rfl
      have e153 := pre 68 153 _ (by kernel_rfl) rfl rfl
      clear pre old
      simp only [Vals5.fits, Array.getD_eq_getD_getElem?, List.getElem?_toArray, List.getElem?_cons_zero, List.getElem?_cons_succ, Option.getD_some] at e152 e153
      obtain ⟨q1, q2, q3, q4, q5, q6, q7⟩ := hS
      go_simp
      exact hK _ _ ⟨q1.alloc _, q2.alloc _, q3.alloc _, q4.keep ((Below.refl _ _).alloc (Nat.le_refl _) _), q5.keep ((Below.refl _ _).alloc (Nat.le_refl _) _), q6.keep ((Below.refl _ _).alloc (Nat.le_refl _) _), q7.alloc _⟩ ((Below.refl _ _).alloc (Nat.le_refl _) _) ⟨_, 2, rfl, SpAt.two (p := (200, 700000)) (r := (800, 1400000)) (Blk.new _ _ _), by decide, by omega⟩
    refine Vals5.Steps.run rfl (Vals5.Stable.is _) ?_ ?_
    · intro a W hS pre old K hK
      have e151 := pre 66 151 _ (by kernel_rfl) rfl rfl
      have f154 := pre 69 154 _ (by kernel_rfl) rfl rfl
      clear pre old
      simp only [Vals5.fits, Array.getD_eq_getD_getElem?, List.getElem?_toArray, List.getElem?_cons_zero, List.getElem?_cons_succ, Option.getD_some] at e151
      obtain ⟨FA, fc, hv, hf, -⟩ := f154
      simp only [Array.getD_eq_getD_getElem?] at hv
      obtain ⟨q1, q2, q3, q4, q5, q6, q7⟩ := hS
      have q6c := q6
      obtain ⟨FB, fd, hv2, hf2, -⟩ := q6c
      have hC := alike_c FB FA [(200, 700000), (800, 1400000)] fd fc W (by decide) hf2 hf
      rw [hv2] at e151
      go_simp
      refine hC.mono ?_
      rintro e w' ⟨rfl, hb'⟩
      refine hK _ _ ⟨q1.keep hb', q2.keep hb', q3.keep hb', q4.keep hb', q5.keep hb', q6.keep hb', q7.keep hb'⟩ hb' ?_
      exact fits_is _ _
    refine Vals5.Steps.run rfl (Vals5.Stable.is _) ?_ ?_
    · intro a W hS pre old K hK
      have e150 := pre 65 150 _ (by kernel_rfl) rfl rfl
      have e155 := pre 70 155 _ (by kernel_rfl) rfl rfl
      clear pre old
      simp only [Vals5.fits, Array.getD_eq_getD_getElem?, List.getElem?_toArray, List.getElem?_cons_zero, List.getElem?_cons_succ, Option.getD_some] at e150 e155
      go_simp
      refine hK _ _ hS (Below.refl _ _) ?_
      exact fits_is _ _
    refine Vals5.Steps.run rfl (Vals5.Stable.is _) ?_ ?_
    · intro a W hS pre old K hK
      have e156 := pre 71 156 _ (by kernel_rfl) rfl rfl
      clear pre old
      simp only [Vals5.fits, Array.getD_eq_getD_getElem?, List.getElem?_toArray, List.getElem?_cons_zero, List.getElem?_cons_succ, Option.getD_some] at e156
      go_simp
      refine hK _ _ hS (Below.refl _ _) ?_
      exact fits_is _ _
    refine Vals5.Steps.run rfl (Vals5.Stable.is _) ?_ ?_
    · intro a W hS pre old K hK
      have e13 := old 13 _ (by kernel_rfl) rfl
      clear pre old
      simp only [Vals5.fits, Array.getD_eq_getD_getElem?, List.getElem?_toArray, List.getElem?_cons_zero, List.getElem?_cons_succ, Option.getD_some] at e13
      go_simp
      refine hK _ _ hS (Below.refl _ _) ?_
      exact fits_is _ _
    refine Vals5.Steps.run rfl (Vals5.Stable.is _) ?_ ?_
    · intro a W hS pre old K hK
      have e157 := pre 72 157 _ (by kernel_rfl) rfl rfl
      have e158 := pre 73 158 _ (by kernel_rfl) rfl rfl
      clear pre old
      simp only [Vals5.fits, Array.getD_eq_getD_getElem?, List.getElem?_toArray, List.getElem?_cons_zero, List.getElem?_cons_succ, Option.getD_some] at e157 e158
      go_simp
      refine hK _ _ hS (Below.refl _ _) ?_
      exact fits_is _ _
    refine Vals5.Steps.run rfl (Vals5.Stable.is _) ?_ ?_
    · intro a W hS pre old K hK
      have e159 := pre 74 159 _ (by kernel_rfl) rfl rfl
      clear pre old
      simp only [Vals5.fits, Array.getD_eq_getD_getElem?, List.getElem?_toArray, List.getElem?_cons_zero, List.getElem?_cons_succ, Option.getD_some] at e159
      go_simp
      refine hK _ _ hS (Below.refl _ _) ?_
      exact fits_is _ _
    refine Vals5.Steps.run rfl (Vals5.Stable.is _) ?_ ?_
    · intro a W hS pre old K hK
      have e15 := old 15 _ (by kernel_rfl) rfl
      clear pre old
      simp only [Vals5.fits, Array.getD_eq_getD_getElem?, List.getElem?_toArray, List.getElem?_cons_zero, List.getElem?_cons_succ, Option.getD_some] at e15
      go_simp
      refine hK _ _ hS (Below.refl _ _) ?_
      exact fits_is _ _
    refine Vals5.Steps.run rfl (Vals5.Stable.is _) ?_ ?_
    · intro a W hS pre old K hK
      have e161 := pre 76 161 _ (by kernel_rfl) rfl rfl
      clear pre old
      simp only [Vals5.fits, Array.getD_eq_getD_getElem?, List.getElem?_toArray, List.getElem?_cons_zero, List.getElem?_cons_succ, Option.getD_some] at e161
      go_simp
      refine hK _ _ hS (Below.refl _ _) ?_
      exact fits_is _ _
    refine Vals5.Steps.run rfl (Vals5.Stable.is _) ?_ ?_
    · intro a W hS pre old K hK
      have e160 := pre 75 160 _ (by kernel_rfl) rfl rfl
      have e162 := pre 77 162 _ (by kernel_rfl) rfl rfl
      clear pre old
      simp only [Vals5.fits, Array.getD_eq_getD_getElem?, List.getElem?_toArray, List.getElem?_cons_zero, List.getElem?_cons_succ, Option.getD_some] at e160 e162
      go_simp
      refine hK _ _ hS (Below.refl _ _) ?_
      exact fits_is _ _
    refine Vals5.Steps.run rfl (Vals5.Stable.is _) ?_ ?_
    · intro a W hS pre old K hK
      have e163 := pre 78 163 _ (by kernel_rfl) rfl rfl
      clear pre old
      simp only [Vals5.fits, Array.getD_eq_getD_getElem?, List.getElem?_toArray, List.getElem?_cons_zero, List.getElem?_cons_succ, Option.getD_some] at e163
      go_simp
      refine hK _ _ hS (Below.refl _ _) ?_
      exact fits_is _ _
    refine Vals5.Steps.run rfl (Vals5.Stable.is _) ?_ ?_
    · intro a W hS pre old K hK
      have e17 := old 17 _ (by kernel_rfl) rfl
      clear pre old
      simp only [Vals5.fits, Array.getD_eq_getD_getElem?, List.getElem?_toArray, List.getElem?_cons_zero, List.getElem?_cons_succ, Option.getD_some] at e17
      go_simp
      refine hK _ _ hS (Below.refl _ _) ?_
      exact fits_is _ _
    refine Vals5.Steps.run rfl (Vals5.Stable.is _) ?_ ?_
    · intro a W hS pre old K hK
      have e165 := pre 80 165 _ (by kernel_rfl) rfl rfl
      clear pre old
      simp only [Vals5.fits, Array.getD_eq_getD_getElem?, List.getElem?_toArray, List.getElem?_cons_zero, List.getElem?_cons_succ, Option.getD_some] at e165
      go_simp
      refine hK _ _ hS (Below.refl _ _) ?_
      exact fits_is _ _
    refine Vals5.Steps.run rfl (Vals5.Stable.is _) ?_ ?_
    · intro a W hS pre old K hK
      have e164 := pre 79 164 _ (by kernel_rfl) rfl rfl
      have e166 := pre 81 166 _ (by kernel_rfl) rfl rfl
      clear pre old
      simp only [Vals5.fits, Array.getD_eq_getD_getElem?, List.getElem?_toArray, List.getElem?_cons_zero, List.getElem?_cons_succ, Option.getD_some] at e164 e166
      go_simp
      refine hK _ _ hS (Below.refl _ _) ?_
      exact fits_is _ _
    refine Vals5.Steps.run rfl (Vals5.Stable.is _) ?_ ?_
    · intro a W hS pre old K hK
      have e167 := pre 82 167 _ (by kernel_rfl) rfl rfl
      clear pre old
      simp only [Vals5.fits, Array.getD_eq_getD_getElem?, List.getElem?_toArray, List.getElem?_cons_zero, List.getElem?_cons_succ, Option.getD_some] at e167
      go_simp
      refine hK _ _ hS (Below.refl _ _) ?_
      exact fits_is _ _
    refine Vals5.Steps.run rfl (Vals5.Stable.is _) ?_ ?_
    · intro a W hS pre old K hK
      have e19 := old 19 _ (by kernel_rfl) rfl
      clear pre old
      simp only [Vals5.fits, Array.getD_eq_getD_getElem?, List.getElem?_toArray, List.getElem?_cons_zero, List.getElem?_cons_succ, Option.getD_some] at e19
      go_simp
      refine hK _ _ hS (Below.refl _ _) ?_
      exact fits_is _ _
    refine Vals5.Steps.run rfl (Vals5.Stable.is _) ?_ ?_
    · intro a W hS pre old K hK
      have e169 := pre 84 169 _ (by kernel_rfl) rfl rfl
      clear pre old
      simp only [Vals5.fits, Array.getD_eq_getD_getElem?, List.getElem?_toArray, List.getElem?_cons_zero, List.getElem?_cons_succ, Option.getD_some] at e169
      go_simp
      refine hK _ _ hS (Below.refl _ _) ?_
      exact fits_is _ _
    refine Vals5.Steps.run rfl (Vals5.Stable.is _) ?_ ?_
    · intro a W hS pre old K hK
      have e168 := pre 83 168 _ (by kernel_rfl) rfl rfl
      have e170 := pre 85 170 _ (by kernel_rfl) rfl rfl
      clear pre old
      simp only [Vals5.fits, Array.getD_eq_getD_getElem?, List.getElem?_toArray, List.getElem?_cons_zero, List.getElem?_cons_succ, Option.getD_some] at e168 e170
      go_simp
      refine hK _ _ hS (Below.refl _ _) ?_
      exact fits_is _ _
    exact Vals5.Steps.nil
  case hend =>
    rintro X ⟨_, _, _, _, _, _, hs9⟩
    simp only [Vals5.All, List.getLast_cons_cons, List.getLast_singleton]
    rintro u143 -
    rintro u154 -
    simp only [Vals.putAll, List.setIfInBounds_toArray, List.set_cons_zero, List.set_cons_succ]
    intro K hK
    go_simp
    refine hK _ _ ?_
    clear hK K
    go_wp2_with fail
    go_ret
    exact ⟨rfl, hs9.1⟩
end Td
end Go.Proofs.Ythdcklonamgpiaa
