import Derived.Test.YtmofbnadfgejiaaLins
import Derived.Test.YtmofbnadfgejiaaMath
/- GasMore: with a further reading no range of Level is wider, no torch has to be put out earlier; a reading of a later minute changes nothing. -/
namespace Go.Proofs.Ytmofbnadfgejiaa
open Go.RowKit
namespace Td
set_option linter.unusedSimpArgs false
set_option linter.unusedVariables false
attribute [local go_sem] Oper.semAt_some
/-- the copying of readings, and one more behind them: which operation makes which list, and which takes it up. -/
def moreL (l : List Rd) (x : Rd) (i : Nat) : Option (List Rd) := if i = 0 then some [] else if i = 2 then some l else if i = 5 then some [x] else if i = 6 then some (l ++ [x]) else if i = 7 then some (l ++ [x]) else none
def moreC (i : Nat) : Nat := if i = 0 then 2 else if i = 2 then 6 else if i = 5 then 6 else if i = 6 then 7 else 8
theorem moreC_0 (i : Nat) : moreC i ≠ 0 := by unfold moreC; (repeat' split) <;> omega
theorem moreC_5 (i : Nat) : moreC i ≠ 5 := by unfold moreC; (repeat' split) <;> omega
theorem moreC_2 {i : Nat} (h : moreC i = 2) : i = 0 := by unfold moreC at h; (repeat' split at h) <;> omega
theorem moreC_6 {i : Nat} (h : moreC i = 6) : i = 2 ∨ i = 5 := by unfold moreC at h; (repeat' split at h) <;> omega
theorem moreC_7 {i : Nat} (h : moreC i = 7) : i = 6 := by unfold moreC at h; (repeat' split at h) <;> omega
theorem eqSpan2 (a b c d : Int) (w : World) : (Op.equalIn 10000 23 (.agg #[.int .i64 a, .int .i64 b]) (.agg #[.int .i64 c, .int .i64 d])).run Try.prog w = .ok (decide (a = c) && decide (b = d)) w := by
  by_cases h1 : a = c <;> by_cases h2 : b = d <;> simp only [h1, h2, decide_true, decide_false] <;> go_simp
set_option maxRecDepth 100000 in
set_option maxHeartbeats 8000000 in
theorem gasMore_c (s : Spc) (m : Sl) (A : Option Addr) (l : List Rd) (c : Nat) (x : Rd) (nw : Nat) (w : World) (hsa : SAt w m s) (hrd : RdAt w A l) (hc : l.length ≤ c) (hcM : c ≤ 9223372036854775807) (hl : l.length ≤ 1048576) (hnw : nw ≤ 255) :
    Calls Try.prog 10 #[.agg (sV s m), .slice A l.length c, .agg #[.int .i64 x.min, .int .i64 x.tool, .int .i64 x.shown, .int .u8 (nw : Int)]] w fun e w' => e = .returned (.bool true) ∧ Below w.heap.size w w' := by
  have hS := Sp2.start w s m 68 #[.int .i64 x.min, .int .i64 x.tool, .int .i64 x.shown, .int .u8 (nw : Int)]
  go_enter Try.func10, Try.ntmps10
  go_wp2_with fail
  obtain ⟨X0, hX⟩ : ∃ X0, (w.alloc (.cells (sV s m) 27)).alloc (.cells #[.int .i64 x.min, .int .i64 x.tool, .int .i64 x.shown, .int .u8 (nw : Int)] 68) = X0 := ⟨_, rfl⟩
  rw [hX] at hS ⊢
  clear hX
  have hX0 := hS.lt
  refine Vals9.region (fun σ Z => Sp2 w s m 68 #[.int .i64 x.min, .int .i64 x.tool, .int .i64 x.shown, .int .u8 (nw : Int)] Z ∧ Lin X0 (moreL l x) moreC σ Z) [some 17, some 18, some 19, some 20, some 21, some 22, some 23, some 7] [.any, .is ?_, .any, .is ?_, .is ?_, .any, .any, .any] (by kernel_rfl) (by kernel_rfl) (by kernel_rfl) (by kernel_rfl) (by kernel_rfl) (by kernel_rfl) (⟨hS.drew, Lin.start X0 _ _⟩) ?hsteps ?hfin
  case hsteps =>
    refine Vals9.Steps.mark rfl ?_ ?_
    · intro a W σ hJ hn pre K hK
      go_simp
      exact hK _ _ ⟨hJ.1.alloc _, hJ.2.lay (k := 0) (L := []) hn (by decide) rfl (fun i L h => moreC_0 i) (by simp)⟩
    refine Vals9.Steps.run rfl ?_ ?_
    · intro a W σ hJ pre K hK
      have e1 := pre.2.2 1 _ (by kernel_rfl) rfl
      clear pre
      simp only [Array.getD_eq_getD_getElem?, List.getElem?_toArray, List.getElem?_cons_zero, List.getElem?_cons_succ, Option.getD_some] at e1
      go_simp
      exact hK _ hJ
    refine Vals9.Steps.mark rfl ?_ ?_
    · intro a W σ hJ hn pre K hK
      obtain ⟨v17, s17, e17⟩ := pre.2.1 0 (by kernel_rfl) rfl
      replace e17 : a.tmps.getD 17 undef = v17 := e17 17 rfl
      have e18 := pre.1 1 18 _ (by kernel_rfl) rfl rfl
      simp only [Array.getD_eq_getD_getElem?, List.getElem?_toArray, List.getElem?_cons_zero, List.getElem?_cons_succ, Option.getD_some] at e17 e18
      have ho := hJ.2.ow 0 [] _ rfl s17 hn
      have hw2 : ∀ i L, moreL l x i = some L → moreC i = 2 → ∃ u, σ i = some u := fun i L h hc => by obtain rfl := moreC_2 hc; exact ⟨_, s17⟩
      refine wp_append_rds (.tmp 17) (.tmp 18) rfl (B := X0.heap.size) (l := []) (k := l) (A := A) (c := c) (by go_simp) (by go_simp) ho (hrd.keep (hJ.1.sp.sn).1) (by simp; omega) hJ.2.sn.2 ?_
      intro v' w' ho2 hg hn2
      exact hK _ _ ⟨hJ.1.grown hg (fun q e => by have := (ho).lt q e; have := this.1; have := hX0; omega), hJ.2.onto (k := 2) (d := 0) (D := []) (L := l) hn (by decide) hw2 rfl rfl s17 rfl (by decide) ho2 hg hn2⟩
    refine Vals9.Steps.run rfl ?_ ?_
    · intro a W σ hJ pre K hK
      have e5 := pre.2.2 5 _ (by kernel_rfl) rfl
      clear pre
      simp only [Array.getD_eq_getD_getElem?, List.getElem?_toArray, List.getElem?_cons_zero, List.getElem?_cons_succ, Option.getD_some] at e5
      go_simp
      exact hK _ hJ
    refine Vals9.Steps.run rfl ?_ ?_
    · intro a W σ hJ pre K hK
      have e20 := pre.1 3 20 _ (by kernel_rfl) rfl rfl
      clear pre
      simp only [Array.getD_eq_getD_getElem?, List.getElem?_toArray, List.getElem?_cons_zero, List.getElem?_cons_succ, Option.getD_some] at e20
      have hS9 := hJ
      obtain ⟨l1, l2⟩ := hS9
      have y0 := l1.bx.cell 0
      have y1 := l1.bx.cell 1
      have y2 := l1.bx.cell 2
      have y3 := l1.bx.cell 3
      simp only [List.getElem?_toArray, List.getElem?_cons_zero, List.getElem?_cons_succ] at y0 y1 y2 y3
      go_simp
      exact hK _ hJ
    refine Vals9.Steps.mark rfl ?_ ?_
    · intro a W σ hJ hn pre K hK
      have e21 := pre.1 4 21 _ (by kernel_rfl) rfl rfl
      simp only [Array.getD_eq_getD_getElem?, List.getElem?_toArray, List.getElem?_cons_zero, List.getElem?_cons_succ, Option.getD_some] at e21
      go_simp
      exact hK _ _ ⟨hJ.1.alloc _, hJ.2.lay (k := 5) (L := [x]) hn (by decide) rfl (fun i L h => moreC_5 i) (by simp)⟩
    refine Vals9.Steps.mark rfl ?_ ?_
    · intro a W σ hJ hn pre K hK
      obtain ⟨v19, s19, e19⟩ := pre.2.1 2 (by kernel_rfl) rfl
      replace e19 : a.tmps.getD 19 undef = v19 := e19 19 rfl
      obtain ⟨v22, s22, e22⟩ := pre.2.1 5 (by kernel_rfl) rfl
      replace e22 : a.tmps.getD 22 undef = v22 := e22 22 rfl
      simp only [Array.getD_eq_getD_getElem?, List.getElem?_toArray, List.getElem?_cons_zero, List.getElem?_cons_succ, Option.getD_some] at e19 e22
      have ho := hJ.2.ow 2 l _ rfl s19 hn
      have ho1 := hJ.2.ow 5 [x] _ rfl s22 hn
      obtain ⟨A1, c1, hv1, hr1, _, _⟩ := own_rd2 ho1
      subst hv1
      have hw2 : ∀ i L, moreL l x i = some L → moreC i = 6 → ∃ u, σ i = some u := fun i L h hc => by rcases moreC_6 hc with rfl | rfl; exact ⟨_, s19⟩; exact ⟨_, s22⟩
      refine wp_append_rds (.tmp 19) (.tmp 22) rfl (B := X0.heap.size) (l := l) (k := [x]) (A := A1) (c := c1) (by go_simp) (by go_simp) ho hr1 (by simp; omega) hJ.2.sn.2 ?_
      intro v' w' ho2 hg hn2
      exact hK _ _ ⟨hJ.1.grown hg (fun q e => by have := (ho).lt q e; have := this.1; have := hX0; omega), hJ.2.onto (k := 6) (d := 2) (D := l) (L := l ++ [x]) hn (by decide) hw2 rfl rfl s19 rfl (by decide) ho2 hg hn2⟩
    refine Vals9.Steps.mark rfl ?_ ?_
    · intro a W σ hJ hn pre K hK
      obtain ⟨v23, s23, e23⟩ := pre.2.1 6 (by kernel_rfl) rfl
      replace e23 : a.tmps.getD 23 undef = v23 := e23 23 rfl
      simp only [Array.getD_eq_getD_getElem?, List.getElem?_toArray, List.getElem?_cons_zero, List.getElem?_cons_succ, Option.getD_some] at e23
      have hw2 : ∀ i L, moreL l x i = some L → moreC i = 7 → ∃ u, σ i = some u := fun i L h hc => by obtain rfl := moreC_7 hc; exact ⟨_, s23⟩
      go_simp
      exact hK _ _ ⟨hJ.1, hJ.2.move (k := 7) (d := 6) (L := l ++ [x]) hn (by decide) hw2 rfl rfl s23 rfl (by decide)⟩
    exact Vals9.Steps.nil
  case hfin =>
    intro Y σ hJ
    simp only [Vals9.All]
    intro v17 h17 v19 h19 v22 h22 v23 h23 v7 h7
    simp only [Vals.putAll, List.setIfInBounds_toArray, List.set_cons_zero, List.set_cons_succ]
    have ho := hJ.2.ow 7 (l ++ [x]) v7 rfl h7 (hJ.2.no 8 rfl)
    obtain ⟨MA, mc, hv7, hrM, hm1, hm2⟩ := own_rd2 ho
    subst hv7
    have hS := hJ.1
    clear hJ ho h17 h19 h22 h23 h7
    obtain ⟨c0, c1, c2, c3, c4, c5, c6, c7, c8⟩ := hS.sp.bk.space
    obtain ⟨M, hM⟩ : ∃ M, l ++ [x] = M := ⟨_, rfl⟩
    have hMl : M.length ≤ 1048577 := by rw [← hM]; simp; omega
    rw [hM] at hrM hm1 ⊢
    have HM := Lib.hid hM
    clear hM
    go_wp2_with fail
    refine (readings_c s m MA M mc _ (hsa.keep hS.sp.sn.1) hrM (by omega)).mono ?_
    rintro e w1 ⟨rfl, hb1⟩
    have hS1 := hS.keep hb1
    have hrM := hrM.keep hb1
    clear c0 c1 c2 c3 c4 c5 c6 c7 c8 hS hb1
    by_cases hr0 : rdgE s M = 0
    · obtain ⟨hck, hrs⟩ := rdg_ok hr0
      have hs := chk_ok hck
      obtain ⟨h12, hro⟩ := rdsE_ok.1 hrs
      have hrl : rdsE s.tools.length l = 0 := rdsE_ok.2 ⟨by rw [← HM.out] at h12; simp at h12; omega, fun r hr => hro r (by rw [← HM.out]; simp [hr])⟩
      rw [hr0]
      obtain ⟨mi, hmi⟩ : ∃ mi, nw % 61 = mi := ⟨_, rfl⟩
      have hmi2 : mi < 61 := by rw [← hmi]; exact Nat.mod_lt _ (by omega)
      have hem : ((nw : Int) % (61 : Int)) = (mi : Int) := by omega
      have htm : ((nw : Int).tmod (61 : Int) = (mi : Int)) := by rw [Int.tmod_eq_emod_of_nonneg (by omega)]; exact hem
      have hw8 : IntKind.i64.wrap (nw : Int) = (nw : Int) := IntWalk.i64_in _ (by omega)
      have hwi : wi 0 60 (mi : Int) = true := wi_iff.2 (by omega)
      obtain ⟨LA, hLA⟩ : ∃ LA, levelA s l (mi : Int) = LA := ⟨_, rfl⟩
      obtain ⟨LB, hLB⟩ : ∃ LB, levelA s M (mi : Int) = LB := ⟨_, rfl⟩
      obtain ⟨UA, hUA⟩ : ∃ UA, untilA s l (mi : Int) = UA := ⟨_, rfl⟩
      obtain ⟨UB, hUB⟩ : ∃ UB, untilA s M (mi : Int) = UB := ⟨_, rfl⟩
      have hL1 := fun (W : World) (hW : Sp2 w s m 68 #[.int .i64 x.min, .int .i64 x.tool, .int .i64 x.shown, .int .u8 (nw : Int)] W) => level_c s m A l c (mi : Int) W (hsa.keep hW.sp.sn.1) hc hcM (hrd.keep hW.sp.sn.1)
      have hL2 := fun (W : World) (hW : Sp2 w s m 68 #[.int .i64 x.min, .int .i64 x.tool, .int .i64 x.shown, .int .u8 (nw : Int)] W) (hr : RdAt W MA M) => level_c s m MA M mc (mi : Int) W (hsa.keep hW.sp.sn.1) hm1 hm2 hr
      have hU1 := fun (W : World) (hW : Sp2 w s m 68 #[.int .i64 x.min, .int .i64 x.tool, .int .i64 x.shown, .int .u8 (nw : Int)] W) => until2_c s m A l c (mi : Int) W (hsa.keep hW.sp.sn.1) hc hcM (hrd.keep hW.sp.sn.1)
      have hU2 := fun (W : World) (hW : Sp2 w s m 68 #[.int .i64 x.min, .int .i64 x.tool, .int .i64 x.shown, .int .u8 (nw : Int)] W) (hr : RdAt W MA M) => until2_c s m MA M mc (mi : Int) W (hsa.keep hW.sp.sn.1) hm1 hm2 hr
      rw [hLA] at hL1
      rw [hLB] at hL2
      rw [hUA] at hU1
      rw [hUB] at hU2
      have HLater : Hid ((mi : Int) < x.min → LA = LB ∧ UA = UB) := fun h => by
        have e0 : kno M (mi : Int) = kno l (mi : Int) := by rw [← HM.out]; exact kno_later h
        have e1 : now s M (mi : Int) = now s l (mi : Int) := by unfold now; rw [e0]
        rw [← hLA, ← hLB, ← hUA, ← hUB, level_of hck hrl hwi, level_of hck hrs hwi, until_of hck hrl hwi, until_of hck hrs hwi, e1, e0]
        exact ⟨rfl, rfl⟩
      have HNot : Hid ((LA.2 = 9 ∧ UA = (0, 9) ∧ LB.2 = 9 ∧ UB = (0, 9)) ∨ (LA.2 = 0 ∧ UA.2 = 0 ∧ LB.2 = 9 ∧ UB = (0, 9)) ∨ (LA.2 = 0 ∧ UA.2 = 0 ∧ LB.2 = 0 ∧ UB.2 = 0 ∧ LA.1.1 ≤ LB.1.1 ∧ LB.1.2 ≤ LA.1.2 ∧ UA.1 ≤ UB.1)) := by
        have hsub : Les s s M l := Les.sub s (fun q hq => by rw [← HM.out]; simp [hq])
        show _ ∨ _
        rw [← hLA, ← hLB, ← hUA, ← hUB, level_of hck hrl hwi, level_of hck hrs hwi, until_of hck hrl hwi, until_of hck hrs hwi]
        cases hx : now s l (mi : Int) with
        | none =>
          rw [now_none hs hs (Wid.refl s) hsub hx]
          exact .inl ⟨rfl, rfl, rfl, rfl⟩
        | some a =>
          cases hy : now s M (mi : Int) with
          | none => exact .inr (.inl ⟨rfl, rfl, rfl, rfl⟩)
          | some b =>
            obtain ⟨h1, h2⟩ := now_wide hs hs (Wid.refl s) hsub hy hx
            exact .inr (.inr ⟨rfl, rfl, rfl, rfl, h1, h2, until_mono hs hs (Wid.refl s) rfl hsub hy hx⟩)
      obtain ⟨⟨a0, a1⟩, ea⟩ := LA
      obtain ⟨⟨b0, b1⟩, eb⟩ := LB
      obtain ⟨n, en⟩ := UA
      obtain ⟨k, ek⟩ := UB
      clear hLA hLB hUA hUB hr0 hmi hrs hrl hro h12 hck hs hwi
      dsimp only at hL1 hL2 hU1 hU2
      obtain ⟨c0, c1, c2, c3, c4, c5, c6, c7, c8⟩ := hS1.sp.bk.space
      have y3 := hS1.bx.cell 3
      simp only [List.getElem?_toArray, List.getElem?_cons_zero, List.getElem?_cons_succ] at y3
      go_wp2_with fail
      refine (hL1 _ hS1).mono ?_
      rintro e w2 ⟨rfl, hb2⟩
      have hq2 : Below w2.heap.size w2 (w2.alloc (.cells #[.int .i64 a0, .int .i64 a1] 23)) := (Below.refl _ _).alloc (Nat.le_refl _) _
      have hS2 := (hS1.keep hb2).keep hq2
      have hr2 := (hrM.keep hb2).keep hq2
      have hSa := Blk.new w2 23 #[.int .i64 a0, .int .i64 a1]
      have hg2 := (hS1.keep hb2).lt
      clear c0 c1 c2 c3 c4 c5 c6 c7 c8 y3 hem htm hw8 hS1 hrM hb2 hq2 hL1
      obtain ⟨c0, c1, c2, c3, c4, c5, c6, c7, c8⟩ := hS2.sp.bk.space
      go_wp2_with fail
      obtain ⟨ga, hga⟩ : ∃ ga, w2.heap.size = ga := ⟨_, rfl⟩
      rw [hga] at hSa hg2 ⊢
      clear hga
      refine (hL2 _ hS2 hr2).mono ?_
      rintro e w3 ⟨rfl, hb3⟩
      have hq3 : Below w3.heap.size w3 (w3.alloc (.cells #[.int .i64 b0, .int .i64 b1] 23)) := (Below.refl _ _).alloc (Nat.le_refl _) _
      have hS3 := (hS2.keep hb3).keep hq3
      have hr3 := (hr2.keep hb3).keep hq3
      have hSa3 := (hSa.keep hb3).keep hq3
      have hSb := Blk.new w3 23 #[.int .i64 b0, .int .i64 b1]
      clear c0 c1 c2 c3 c4 c5 c6 c7 c8 hS2 hr2 hb3 hq3 hL2 hSa
      obtain ⟨c0, c1, c2, c3, c4, c5, c6, c7, c8⟩ := hS3.sp.bk.space
      go_wp2_with fail
      obtain ⟨gb, hgb⟩ : ∃ gb, w3.heap.size = gb := ⟨_, rfl⟩
      rw [hgb] at hSb ⊢
      clear hgb
      refine (hU1 _ hS3).mono ?_
      rintro e w4 ⟨rfl, hb4⟩
      have hS4 := hS3.keep hb4
      have hr4 := hr3.keep hb4
      have hSa4 := hSa3.keep hb4
      have hSb4 := hSb.keep hb4
      clear c0 c1 c2 c3 c4 c5 c6 c7 c8 hS3 hr3 hb4 hU1 hSa3 hSb
      obtain ⟨c0, c1, c2, c3, c4, c5, c6, c7, c8⟩ := hS4.sp.bk.space
      go_wp2_with fail
      refine (hU2 _ hS4 hr4).mono ?_
      rintro e w5 ⟨rfl, hb5⟩
      have hS5 := hS4.keep hb5
      have hSa5 := hSa4.keep hb5
      have hSb5 := hSb4.keep hb5
      clear c0 c1 c2 c3 c4 c5 c6 c7 c8 hS4 hr4 hb5 hU2 hSa4 hSb4
      have y0 := hS5.bx.cell 0
      have z0 := hSa5.cell 0
      have z1 := hSa5.cell 1
      have t0 := hSb5.cell 0
      have t1 := hSb5.cell 1
      simp only [List.getElem?_toArray, List.getElem?_cons_zero, List.getElem?_cons_succ] at y0 z0 z1 t0 t1
      by_cases hlat : (mi : Int) < x.min
      · obtain ⟨e1, e2⟩ := HLater.out hlat
        obtain ⟨rfl, rfl⟩ := Prod.mk.inj e2
        obtain ⟨e3, rfl⟩ := Prod.mk.inj e1
        obtain ⟨rfl, rfl⟩ := Prod.mk.inj e3
        have heq := eqSpan2 a0 a1 a0 a1
        simp only [decide_true, Bool.and_self] at heq
        clear HNot HLater e1 e2 e3
        go_wp2_with fail
        refine (awake_c _).mono ?_
        rintro e w6 ⟨rfl, hb6⟩
        go_wp2_with fail
        go_ret
        exact ⟨rfl, (hS5.keep hb6).sp.sn.1⟩
      · rcases HNot.out with ⟨rfl, h2, rfl, h4⟩ | ⟨rfl, rfl, rfl, h4⟩ | ⟨rfl, rfl, rfl, rfl, h5, h6, h7⟩
        · obtain ⟨rfl, rfl⟩ := Prod.mk.inj h2
          obtain ⟨rfl, rfl⟩ := Prod.mk.inj h4
          clear HNot HLater h2 h4
          go_wp2_with fail
          refine (awake_c _).mono ?_
          rintro e w6 ⟨rfl, hb6⟩
          go_wp2_with fail
          go_ret
          exact ⟨rfl, (hS5.keep hb6).sp.sn.1⟩
        · obtain ⟨rfl, rfl⟩ := Prod.mk.inj h4
          clear HNot HLater h4
          go_wp2_with fail
          refine (awake_c _).mono ?_
          rintro e w6 ⟨rfl, hb6⟩
          go_wp2_with fail
          go_ret
          exact ⟨rfl, (hS5.keep hb6).sp.sn.1⟩
        · clear HNot HLater
          go_wp2_with fail
          refine (awake_c _).mono ?_
          rintro e w6 ⟨rfl, hb6⟩
          go_wp2_with fail
          go_ret
          exact ⟨rfl, (hS5.keep hb6).sp.sn.1⟩
    · have hr0' : (rdgE s M == 0) = false := by simpa using hr0
      have hr1 : (rdgE s M != 0) = true := by simpa using hr0
      go_wp2_with fail
      refine (awake_c _).mono ?_
      rintro e w2 ⟨rfl, hb2⟩
      go_wp2_with fail
      go_ret
      exact ⟨rfl, (hS1.keep hb2).sp.sn.1⟩
end Td
end Go.Proofs.Ytmofbnadfgejiaa
