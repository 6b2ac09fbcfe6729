import Derived.Test.YthdcklonamgpiaaGreatHvr
import Derived.Test.YthdcklonamgpiaaGreatShw
/- The reference's Why, Show and Tide. -/
namespace Go.Proofs.YthdcklonamgpiaaGreat
open Go.RowKit
namespace Td
set_option linter.unusedSimpArgs false
set_option linter.unusedVariables false
attribute [local go_sem] Oper.semAt_some
theorem lookE_tid (h : Hul) (lo hi : Int) : lookE h lo hi = tidE (chk h).2.2 lo hi := by
  unfold lookE tidE
  by_cases e : (chk h).2.2 = 0
  · simp [e]
  · simp [e]
theorem lookE_wat (h : Hul) (wt : Int) : lookE h wt wt = watE (chk h).2.2 wt := by
  unfold lookE watE
  rw [tideE_one]
  by_cases e : (chk h).2.2 = 0
  · simp [e]
  · simp [e]
set_option maxRecDepth 100000 in
set_option maxHeartbeats 4000000 in
theorem rwhy_c (h : Hul) (m : Sl) (lo hi : Int) (w : World) (hp : HAt w m h) :
    Calls Tryz.prog 6 #[.agg (hV h m), .agg #[.int .i64 lo, .int .i64 hi]] w fun e w' => e = .returned (.tuple #[.int .i64 (whyA h lo hi).1, .int .i64 (whyA h lo hi).2.1, .int .i64 (whyA h lo hi).2.2]) ∧ Below w.heap.size w w' := by
  obtain ⟨E, hE⟩ : ∃ E, whyA h lo hi = E := ⟨_, rfl⟩
  rw [hE]
  unfold whyA at hE
  have HLK := Lib.hid (lookE_tid h lo hi)
  rw [HLK.out] at hE
  have HE := Lib.hid hE
  clear hE
  have hs := ((Since.refl w).alloc (.cells (hV h m) 24)).alloc (.cells (sV2 lo hi) 26)
  have HB := Lib.hid ((Blk.new w 24 (hV h m)).alloc (.cells (sV2 lo hi) 26))
  have HX := Lib.hid (Blk.new1 w (.cells (hV h m) 24) 26 (sV2 lo hi))
  obtain ⟨c0, c1, c2⟩ := HB.out.hull
  go_enter Tryz.func6, Tryz.ntmps6
  go_wp2_with fail
  refine (rcheck_c h m _ (hp.keep hs.1)).mono ?_
  rintro e w1 ⟨rfl, hb⟩
  replace hs := hs.keep hb
  replace HB := Lib.hid (HB.out.keep hb)
  replace HX := Lib.hid (HX.out.keep hb)
  clear hb c0 c1 c2
  obtain ⟨⟨k1, k2, k3⟩, hk⟩ : ∃ q, chk h = q := ⟨_, rfl⟩
  rw [hk] at HE HLK ⊢
  clear hk
  obtain ⟨c0, c1, c2⟩ := HB.out.hull
  obtain ⟨t0, t1⟩ := HX.out.span
  go_wp2_with fail
  refine (tided_c k3 lo hi _).mono ?_
  rintro e w2 ⟨rfl, hb⟩
  replace hs := hs.keep hb
  replace HB := Lib.hid (HB.out.keep hb)
  replace HX := Lib.hid (HX.out.keep hb)
  clear hb c0 c1 c2 t0 t1
  by_cases hw : tidE k3 lo hi = 0
  · have HO := HLK.out
    rw [hw] at HO
    obtain ⟨q1, q2, q4, q3⟩ := lookE_ok.1 HO
    have hh := (chk_ok q1).bk
    have hE2 := HE.out
    rw [if_neg (by simpa using hw)] at hE2
    rw [hw]
    clear hw HO q1
    have HE2 := Lib.hid hE2
    clear hE2
    obtain ⟨c0, c1, c2⟩ := HB.out.hull
    obtain ⟨t0, t1⟩ := HX.out.span
    go_wp2_with fail
    refine (rfirst_c h m lo hi _ hh (hp.keep hs.1) q2 q4 q3).mono ?_
    rintro e w3 ⟨rfl, hb⟩
    replace hs := hs.keep hb
    clear hb c0 c1 c2 t0 t1
    go_wp2_with fail
    have hE3 := HE2.out
    subst hE3
    go_ret3
    exact ⟨rfl, hs.1⟩
  · have hE2 := HE.out
    rw [if_pos (by simpa using hw)] at hE2
    have hwn : (tidE k3 lo hi != 0) = true := by simpa using hw
    have HE2 := Lib.hid hE2
    clear hw hE2
    go_wp2_with fail
    have hE3 := HE2.out
    subst hE3
    go_ret3
    exact ⟨rfl, hs.1⟩
set_option maxRecDepth 100000 in
set_option maxHeartbeats 4000000 in
theorem rtide_c (h : Hul) (m : Sl) (w : World) (hp : HAt w m h) :
    Calls Tryz.prog 11 #[.agg (hV h m)] w fun e w' => e = .returned (.tuple #[.int .i64 (tideA h).1, .int .i64 (tideA h).2]) ∧ Below w.heap.size w w' := by
  obtain ⟨E, hE⟩ : ∃ E, tideA h = E := ⟨_, rfl⟩
  rw [hE]
  unfold tideA at hE
  have hs := (Since.refl w).alloc (.cells (hV h m) 24)
  have HB := Lib.hid (Blk.new w 24 (hV h m))
  obtain ⟨c0, c1, c2⟩ := HB.out.hull
  go_enter Tryz.func11, Tryz.ntmps11
  go_wp2_with fail
  refine (rcheck_c h m _ (hp.keep hs.1)).mono ?_
  rintro e w1 ⟨rfl, hb⟩
  replace hs := hs.keep hb
  replace HB := Lib.hid (HB.out.keep hb)
  clear hb c0 c1 c2
  by_cases hc : (chk h).2.2 = 0
  · rw [if_neg (by simpa using hc)] at hE
    have hh := (chk_ok hc).bk
    rw [hc]
    clear hc
    obtain ⟨c0, c1, c2⟩ := HB.out.hull
    go_wp2_with fail
    refine (rfirst_c h m 0 1000 _ hh (hp.keep hs.1) (by omega) (by omega) (by omega)).mono ?_
    rintro e w2 ⟨rfl, hb⟩
    replace hs := hs.keep hb
    clear hb c0 c1 c2
    have hfc := fall_cases h 0 1000
    obtain ⟨⟨v, y⟩, hf⟩ : ∃ F, fall h 0 1000 = F := ⟨_, rfl⟩
    rw [hf] at hE hfc ⊢
    have hv0 : 0 ≤ v ∧ v ≤ 1000 := by
      rcases hfc with ⟨e, -⟩ | ⟨u, a, b, -, -, e⟩
      · cases e; omega
      · cases e; omega
    clear hf hfc
    replace hE : (if y = 0 then ((1000 : Int), (0 : Int)) else if v = 0 then (0, 9) else (v - 1, 0)) = E := hE
    by_cases hy : y = 0
    · rw [if_pos hy] at hE
      subst hE hy
      go_wp2_with fail
      go_ret2
      exact ⟨rfl, hs.1⟩
    · rw [if_neg hy] at hE
      have hy2 : (y == 0) = false := by simpa using hy
      clear hy
      by_cases hv : v = 0
      · rw [if_pos hv] at hE
        subst hE hv
        go_wp2_with fail
        go_ret2
        exact ⟨rfl, hs.1⟩
      · rw [if_neg hv] at hE
        have hv2 : (v == 0) = false := by simpa using hv
        have e1 : IntKind.i64.wrap (v - 1) = v - 1 := IntWalk.i64_in _ (by omega)
        subst hE
        clear hv hv0
        go_wp2_with fail
        go_ret2
        exact ⟨rfl, hs.1⟩
  · rw [if_pos (by simpa using hc)] at hE
    subst hE
    have hcn : ((chk h).2.2 != 0) = true := by simpa using hc
    clear hc
    go_wp2_with fail
    go_ret2
    exact ⟨rfl, hs.1⟩
set_option maxRecDepth 100000 in
set_option maxHeartbeats 4000000 in
theorem rshow_c (h : Hul) (m : Sl) (wt : Int) (w : World) (hp : HAt w m h) :
    Calls Tryz.prog 8 #[.agg (hV h m), .int .i64 wt] w fun e w' => (∃ v, e = .returned (.tuple #[v, .int .i64 (showA h wt).2.1, .int .i64 (showA h wt).2.2]) ∧ Tv w.heap.size w' v (showA h wt).1.1 (showA h wt).1.2) ∧ Below w.heap.size w w' := by
  obtain ⟨E, hE⟩ : ∃ E, showA h wt = E := ⟨_, rfl⟩
  rw [hE]
  unfold showA at hE
  have HLK := Lib.hid (lookE_wat h wt)
  rw [HLK.out] at hE
  have HE := Lib.hid hE
  clear hE
  have hs := ((Since.refl w).alloc (.cells (hV h m) 24)).alloc (.cells #[.slice none 0 0, .slice none 0 0] 32)
  have HB := Lib.hid ((Blk.new w 24 (hV h m)).alloc (.cells #[.slice none 0 0, .slice none 0 0] 32))
  have HR := Lib.hid (Blk.new1 w (.cells (hV h m) 24) 32 #[.slice none 0 0, .slice none 0 0])
  obtain ⟨c0, c1, c2⟩ := HB.out.hull
  go_enter Tryz.func8, Tryz.ntmps8
  go_wp2_with fail
  refine (rcheck_c h m _ (hp.keep hs.1)).mono ?_
  rintro e w1 ⟨rfl, hb⟩
  replace hs := hs.keep hb
  replace HB := Lib.hid (HB.out.keep hb)
  replace HR := Lib.hid (HR.out.keep hb)
  clear hb c0 c1 c2
  obtain ⟨⟨k1, k2, k3⟩, hk⟩ : ∃ q, chk h = q := ⟨_, rfl⟩
  rw [hk] at HE HLK ⊢
  clear hk
  obtain ⟨c0, c1, c2⟩ := HB.out.hull
  go_wp2_with fail
  refine (watered_c k3 wt _).mono ?_
  rintro e w' ⟨rfl, rfl⟩
  by_cases hw : watE k3 wt = 0
  · have HO := HLK.out
    rw [hw] at HO
    obtain ⟨q1, q2, -, q3⟩ := lookE_ok.1 HO
    have hh := (chk_ok q1).bk
    have hn10 := hh.n10
    have hE2 := HE.out
    rw [if_neg (by simpa using hw)] at hE2
    rw [hw]
    clear hw HO q1
    have HE2 := Lib.hid hE2
    clear hE2
    go_wp2_with fail
    refine (rsmallest_c h m wt _ hh (hp.keep hs.1) q2 q3).mono ?_
    rintro e w2 ⟨rfl, hb⟩
    replace hs := hs.keep hb
    replace HB := Lib.hid (HB.out.keep hb)
    replace HR := Lib.hid (HR.out.keep hb)
    clear hb c0 c1 c2
    go_wp2_with fail
    refine (reason_c _ _ _ _).mono ?_
    rintro e w3 ⟨rfl, hb⟩
    replace hs := hs.keep hb
    replace HB := Lib.hid (HB.out.keep hb)
    replace HR := Lib.hid (HR.out.keep hb)
    clear hb
    have hyb : 0 ≤ whyH h wt ∧ whyH h wt ≤ 3 := whyB_range _ _ _
    obtain ⟨y, hy⟩ : ∃ y, whyB (lst h 0 wt) (lst h 1 wt) (lst h 2 wt) = y := ⟨_, rfl⟩
    have hy' : whyH h wt = y := hy
    rw [hy'] at HE2 hyb
    rw [hy]
    clear hy hy'
    obtain ⟨c0, c1, c2⟩ := HB.out.hull
    go_wp2_with fail
    refine (rshown_c h m y _ (hp.keep hs.1) hn10 hyb.1 hyb.2).mono ?_
    rintro e w4 ⟨⟨v, rfl, GA, gc, LA, lc, rfl, hG, hL, hgl, hgb, hlb⟩, hb⟩
    have hz3 := hs.2
    have hz0 : w.heap.size + 1 < w3.heap.size := HR.out.lt
    replace hs := hs.keep hb
    replace HR := Lib.hid (HR.out.keep hb)
    have hE3 := HE2.out
    subst hE3
    have HGL := Lib.hid hgl
    have HG9 := Lib.hid (hG.row (w.heap.size + 1) (tV GA (shG h (shK y)).length gc LA (shL h (shK y)).length lc) (fun a e => by have := hgb a e; omega))
    have HL9 := Lib.hid (hL.row (w.heap.size + 1) (tV GA (shG h (shK y)).length gc LA (shL h (shK y)).length lc) (fun a e => by have := hlb a e; omega))
    have HGB : Hid (∀ a, GA = some a → w.heap.size ≤ a.block) := fun a e => by have := hgb a e; omega
    have HLB : Hid (∀ a, LA = some a → w.heap.size ≤ a.block) := fun a e => by have := hlb a e; omega
    clear c0 c1 c2 hgl hG hL hgb hlb HE2 HE
    go_wp2_with (refine wpList_store_row rfl 32 _ _ rfl (w.heap.size + 1) _ rfl rfl 32 _ HR.out (by kernel_rfl) rfl (by simp [Value.oneCell']) ?_)
    refine bodyPost_ret (results_cell_tmp2 Tryz.results8 _ _ (w.heap.size + 1) 32 _ (0, 0) _ rfl (HR.out.row _) Tryz.underlying32 rfl (by kernel_rfl)) rfl ⟨⟨_, rfl, GA, gc, LA, lc, rfl, HG9.out, HL9.out, HGL.out, HGB.out, HLB.out⟩, (hs.row (by omega) _).1⟩
  · have hE2 := HE.out
    rw [if_pos (by simpa using hw)] at hE2
    have hwn : (watE k3 wt != 0) = true := by simpa using hw
    have HE2 := Lib.hid hE2
    clear hw hE2
    go_wp2_with (refine wpList_store_row rfl 32 _ _ rfl (w.heap.size + 1) _ rfl rfl 32 _ HR.out (by kernel_rfl) rfl (by simp [Value.oneCell']) ?_)
    have hE3 := HE2.out
    subst hE3
    refine bodyPost_ret (results_cell_tmp2 Tryz.results8 _ _ (w.heap.size + 1) 32 _ (0, 0) _ rfl (HR.out.row _) Tryz.underlying32 rfl (by kernel_rfl)) rfl ⟨⟨_, rfl, none, 0, none, 0, rfl, fun hx => absurd rfl hx, fun hx => absurd rfl hx, by simp, fun a e => (by cases e), fun a e => (by cases e)⟩, (hs.row (by omega) _).1⟩
end Td
end Go.Proofs.YthdcklonamgpiaaGreat
