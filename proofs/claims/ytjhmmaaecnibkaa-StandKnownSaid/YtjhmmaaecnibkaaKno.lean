import Derived.Test.YtjhmmaaecnibkaaAwk
import Derived.Test.YtjhmmaaecnibkaaRefs0
/- The law StandKnown: what it returns. -/
namespace Go.Proofs.Ytjhmmaaecnibkaa
open Go.RowKit
namespace Td
set_option linter.unusedSimpArgs false
set_option linter.unusedVariables false
attribute [local go_sem] Oper.semAt_some
set_option maxRecDepth 100000 in
set_option maxHeartbeats 8000000 in
theorem known_c (w : World) : Calls Try.prog 6 #[] w fun e w' => e = .returned (.bool true) ∧ Below w.heap.size w w' := by
  have hs := Since.refl w
  go_enter Try.func6, Try.ntmps6
  go_wp2_with fail
  refine (hull_c _).mono ?_
  rintro e v1 ⟨⟨m1, rfl, hh1⟩, hb⟩
  replace hs := hs.keep hb
  clear hb
  have HA1 := Lib.hid hh1
  clear hh1
  go_wp2_with fail
  refine (heavy_c _).mono ?_
  rintro e v2 ⟨⟨vv, rfl, GA2, gc2, LA2, lc2, rfl, hg, hl, -, -, -⟩, hb⟩
  replace hs := hs.keep hb
  replace HA1 := Lib.hid (HA1.out.keep hb)
  clear hb
  have HG2 := Lib.hid hg
  have HL2 := Lib.hid hl
  clear hg hl
  go_wp2_with fail
  refine (eBal0_c m1 GA2 gc2 LA2 lc2 _ HA1.out HG2.out HL2.out).mono ?_
  rintro e v3 ⟨rfl, hb⟩
  replace hs := hs.keep hb
  replace HA1 := Lib.hid (HA1.out.keep hb)
  replace HG2 := Lib.hid (HG2.out.keep hb)
  replace HL2 := Lib.hid (HL2.out.keep hb)
  clear hb
  clear HA1 HG2 HL2
  go_wp2_with fail
  have hq : Below v3.heap.size v3 (v3.alloc (.cells #[.int .i64 3500, .int .i64 1400000, .int .i64 700000] 32)) := (Below.refl _ _).alloc (Nat.le_refl _) _
  replace hs := hs.keep hq
  have HX := Lib.hid (Blk.new v3 32 #[.int .i64 3500, .int .i64 1400000, .int .i64 700000])
  obtain ⟨kHX, hk⟩ : ∃ k, v3.heap.size = k := ⟨_, rfl⟩
  obtain ⟨u4, hu⟩ : ∃ u, v3.alloc (.cells #[.int .i64 3500, .int .i64 1400000, .int .i64 700000] 32) = u := ⟨_, rfl⟩
  rw [hu] at hs HX  ⊢
  rw [hk] at HX ⊢
  clear hu hk hq
  go_wp2_with fail
  refine (hull_c _).mono ?_
  rintro e v5 ⟨⟨m5, rfl, hh5⟩, hb⟩
  replace hs := hs.keep hb
  replace HX := Lib.hid (HX.out.keep hb)
  clear hb
  have HA5 := Lib.hid hh5
  clear hh5
  go_wp2_with fail
  refine (span_c 0 133 _).mono ?_
  rintro e v6 ⟨rfl, hb⟩
  replace hs := hs.keep hb
  replace HX := Lib.hid (HX.out.keep hb)
  replace HA5 := Lib.hid (HA5.out.keep hb)
  clear hb
  go_wp2_with fail
  refine (eWhy2_c m5 _ HA5.out).mono ?_
  rintro e v7 ⟨rfl, hb⟩
  replace hs := hs.keep hb
  replace HX := Lib.hid (HX.out.keep hb)
  replace HA5 := Lib.hid (HA5.out.keep hb)
  clear hb
  clear HA5
  go_wp2_with fail
  refine (hull_c _).mono ?_
  rintro e v8 ⟨⟨m8, rfl, hh8⟩, hb⟩
  replace hs := hs.keep hb
  replace HX := Lib.hid (HX.out.keep hb)
  clear hb
  have HA8 := Lib.hid hh8
  clear hh8
  go_wp2_with fail
  refine (heavy_c _).mono ?_
  rintro e v9 ⟨⟨vv, rfl, GA9, gc9, LA9, lc9, rfl, hg, hl, -, -, -⟩, hb⟩
  replace hs := hs.keep hb
  replace HX := Lib.hid (HX.out.keep hb)
  replace HA8 := Lib.hid (HA8.out.keep hb)
  clear hb
  have HG9 := Lib.hid hg
  have HL9 := Lib.hid hl
  clear hg hl
  go_wp2_with fail
  have hq : Below v9.heap.size v9 (v9.alloc (.cells #[.int .i64 600, .int .i64 2100000] 57)) := (Below.refl _ _).alloc (Nat.le_refl _) _
  replace hs := hs.keep hq
  replace HX := Lib.hid (HX.out.keep hq)
  replace HA8 := Lib.hid (HA8.out.keep hq)
  replace HG9 := Lib.hid (HG9.out.keep hq)
  replace HL9 := Lib.hid (HL9.out.keep hq)
  have HY := Lib.hid (Blk.new v9 57 #[.int .i64 600, .int .i64 2100000])
  obtain ⟨kHY, hk⟩ : ∃ k, v9.heap.size = k := ⟨_, rfl⟩
  obtain ⟨u10, hu⟩ : ∃ u, v9.alloc (.cells #[.int .i64 600, .int .i64 2100000] 57) = u := ⟨_, rfl⟩
  rw [hu] at hs HY HX HA8 HG9 HL9 ⊢
  rw [hk] at HY ⊢
  clear hu hk hq
  go_wp2_with fail
  refine (eBer2_c m8 GA9 gc9 LA9 lc9 (some ⟨kHY, 0, none⟩) 1 _ HA8.out HG9.out HL9.out (SpAt.one (p := (600, 2100000)) HY.out)).mono ?_
  rintro e v11 ⟨rfl, hb⟩
  replace hs := hs.keep hb
  replace HX := Lib.hid (HX.out.keep hb)
  replace HA8 := Lib.hid (HA8.out.keep hb)
  replace HG9 := Lib.hid (HG9.out.keep hb)
  replace HL9 := Lib.hid (HL9.out.keep hb)
  replace HY := Lib.hid (HY.out.keep hb)
  clear hb
  clear HA8 HG9 HL9 HY
  have hq := eqBal 3500 1400000 700000
  have x0 := HX.out.cell 0
  have x1 := HX.out.cell 1
  have x2 := HX.out.cell 2
  simp only [List.getElem?_toArray, List.getElem?_cons_zero, List.getElem?_cons_succ] at x0 x1 x2
  go_wp2_with fail
  refine (rname_c ⟨#[98, 111, 119]⟩ _ (by decide +kernel)).mono ?_
  rintro e v12 ⟨rfl, hb⟩
  replace hs := hs.keep hb
  replace HX := Lib.hid (HX.out.keep hb)
  clear hb
  rw [show isName ⟨#[98, 111, 119]⟩ = true from by decide +kernel]
  go_wp2_with fail
  refine (awake_c _).mono ?_
  rintro e v13 ⟨rfl, hb⟩
  replace hs := hs.keep hb
  replace HX := Lib.hid (HX.out.keep hb)
  clear hb
  go_wp2_with fail
  go_ret
  exact ⟨rfl, hs.1⟩
end Td
end Go.Proofs.Ytjhmmaaecnibkaa
