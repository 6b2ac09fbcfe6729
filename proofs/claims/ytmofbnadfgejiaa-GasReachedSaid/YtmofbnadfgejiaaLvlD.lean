import Derived.Test.YtmofbnadfgejiaaLvlC
/- The reference: Level and Until; GasLevels. -/
namespace Go.Proofs.Ytmofbnadfgejiaa
open Go.RowKit
namespace Td
set_option linter.unusedSimpArgs false
set_option linter.unusedVariables false
attribute [local go_sem] Oper.semAt_some
theorem watE_eq (s : Spc) (l : List Rd) (m : Int) : watE s l m = if rdgE s l ≠ 0 then rdgE s l else if wi 0 60 m then (if (now s l m).isSome then 0 else 9) else 7 := by
  unfold watE rdgE
  by_cases h1 : (chk s).2.2 = 0
  · by_cases h2 : rdsE s.tools.length l = 0 <;> simp [h1, h2]
  · simp [h1]
set_option maxRecDepth 100000 in
set_option maxHeartbeats 8000000 in
theorem asked_c (s : Spc) (m : Sl) (A : Option Addr) (l : List Rd) (c : Nat) (mi : Int) (w : World) (hsa : SAt w m s) (hrd : RdAt w A l) (hlM : l.length ≤ 9223372036854775807) :
    Calls Try.prog 49 #[.agg (sV s m), .slice A l.length c, .int .i64 mi] w fun e w' => (∃ v, e = .returned (.tuple #[v, .int .i64 (watE s l mi)]) ∧ (watE s l mi = 0 → BAt w' v (now s l mi))) ∧ Below w.heap.size w w' := by
  have hS0 := Sp.start w s m
  have HW := Lib.hid (watE_eq s l mi)
  obtain ⟨c0, c1, c2, c3, c4, c5, c6, c7, c8⟩ := hS0.bk.space
  go_enter Try.func49, Try.ntmps49
  go_wp2_with fail
  refine (readings_c s m A l c _ (hsa.keep hS0.sn.1) (hrd.keep hS0.sn.1) hlM).mono ?_
  rintro e w1 ⟨rfl, hb1⟩
  have hS1 := hS0.keep hb1
  clear c0 c1 c2 c3 c4 c5 c6 c7 c8 hS0 hb1
  by_cases hr0 : rdgE s l = 0
  · obtain ⟨hck, hrs⟩ := rdg_ok hr0
    have hs := chk_ok hck
    obtain ⟨h12, hro⟩ := rdsE_ok.1 hrs
    have hW2 := HW.out
    rw [if_neg (by simpa using hr0)] at hW2
    rw [hr0]
    have HW2 := Lib.hid hW2
    clear hr0 hW2 HW hck hrs
    go_wp2_with fail
    refine (rin_c 0 60 mi _).mono ?_
    rintro e w' ⟨rfl, rfl⟩
    rcases Bool.eq_false_or_eq_true (wi 0 60 mi) with h1 | h1
    · have hW3 := HW2.out
      rw [if_pos h1] at hW3
      have HW3 := Lib.hid hW3
      have hm := wi_iff.1 h1
      rw [h1]
      clear h1 hW3 HW2
      obtain ⟨k, rfl⟩ : ∃ k : Nat, mi = (k : Int) := ⟨mi.toNat, by omega⟩
      obtain ⟨c0, c1, c2, c3, c4, c5, c6, c7, c8⟩ := hS1.bk.space
      have hA := at_c s m A l c k w1 hs (hsa.keep hS1.sn.1) (hrd.keep hS1.sn.1) hro h12 (by omega)
      rw [lv_now] at hA
      have hvd := now_vd hs (l := l) (m := (k : Int))
      obtain ⟨o, ho⟩ : ∃ o, now s l (k : Int) = o := ⟨_, rfl⟩
      rw [ho] at HW3 hA hvd
      have HO := Lib.hid ho
      clear ho
      go_wp2_with fail
      refine hA.mono ?_
      rintro e w2 ⟨⟨v, rfl, g, rfl, hB⟩, hb2⟩
      have hS2 := hS1.keep hb2
      clear c0 c1 c2 c3 c4 c5 c6 c7 c8 hA hS1 hb2
      go_wp2_with fail
      refine (ends_c o g _ hvd hB).mono ?_
      rintro e w3 ⟨rfl, hb3⟩
      have hq3 : Below w3.heap.size w3 (w3.alloc (.cells #[.int .i64 (o.getD (0, 0)).1, .int .i64 (o.getD (0, 0)).2] 23)) := (Below.refl _ _).alloc (Nat.le_refl _) _
      have hS3 := (hS2.keep hb3).keep hq3
      have hB3 := (hB.keep hb3).keep hq3
      clear hS2 hB hb3 hq3
      cases o with
      | none =>
        have HV : Hid ((9 : Int) = watE s l (k : Int)) := by show _ = _; rw [HW3.out]; rfl
        dsimp only [Option.isSome_none]
        go_wp2_with fail
        go_ret2
        rw [← HV.out]
        exact ⟨⟨_, rfl, fun h => by cases h⟩, hS3.sn.1⟩
      | some x =>
        have HV : Hid ((0 : Int) = watE s l (k : Int)) := by show _ = _; rw [HW3.out]; rfl
        dsimp only [Option.isSome_some]
        go_wp2_with fail
        go_ret2
        rw [← HV.out, HO.out]
        exact ⟨⟨_, rfl, fun _ => ⟨g, rfl, hB3⟩⟩, hS3.sn.1⟩
    · have hW3 := HW2.out
      rw [if_neg (by rw [h1]; decide)] at hW3
      rw [h1]
      have HV := Lib.hid hW3
      clear h1 hW3 HW2
      go_wp2_with fail
      go_ret2
      rw [HV.out]
      exact ⟨⟨_, rfl, fun h => by cases h⟩, hS1.sn.1⟩
  · have hW2 := HW.out
    rw [if_pos hr0] at hW2
    have HV := Lib.hid hW2
    have hr1 : (rdgE s l == 0) = false := by simpa using hr0
    have hr2 : (rdgE s l != 0) = true := by simpa using hr0
    obtain ⟨E, hE⟩ : ∃ E, rdgE s l = E := ⟨_, rfl⟩
    rw [hE] at hr0 hr1 hr2 HV ⊢
    clear hW2 HW hE
    go_wp2_with fail
    go_ret2
    rw [HV.out]
    exact ⟨⟨_, rfl, fun h => absurd h hr0⟩, hS1.sn.1⟩
/-- what a row's ends say. -/
theorem getD_eta (o : Option (Int × Int)) : ((o.getD (0, 0)).1, (o.getD (0, 0)).2) = o.getD (0, 0) := rfl
theorem levelA_fst (s : Spc) (l : List Rd) (mi : Int) : levelA s l mi = (if watE s l mi = 0 then (now s l mi).getD (0, 0) else (0, 0), watE s l mi) := by
  unfold levelA
  by_cases h : watE s l mi = 0 <;> simp [h]
set_option maxRecDepth 100000 in
set_option maxHeartbeats 8000000 in
theorem rlevel_c (s : Spc) (m : Sl) (A : Option Addr) (l : List Rd) (c : Nat) (mi : Int) (w : World) (hsa : SAt w m s) (hrd : RdAt w A l) (hlM : l.length ≤ 9223372036854775807) :
    Calls Try.prog 18 #[.agg (sV s m), .slice A l.length c, .int .i64 mi] w fun e w' => e = .returned (.tuple #[.agg #[.int .i64 (levelA s l mi).1.1, .int .i64 (levelA s l mi).1.2], .int .i64 (levelA s l mi).2]) ∧ Below w.heap.size w w' := by
  have hS0 := Sp2.start w s m 23 #[.int .i64 0, .int .i64 0]
  have HL := Lib.hid (levelA_fst s l mi)
  obtain ⟨c0, c1, c2, c3, c4, c5, c6, c7, c8⟩ := hS0.sp.bk.space
  go_enter Try.func18, Try.ntmps18
  go_wp2_with fail
  refine (asked_c s m A l c mi _ (hsa.keep hS0.sp.sn.1) (hrd.keep hS0.sp.sn.1) hlM).mono ?_
  rintro e w1 ⟨⟨v, rfl, hv⟩, hb1⟩
  have hS1 := hS0.keep hb1
  clear c0 c1 c2 c3 c4 c5 c6 c7 c8 hS0 hb1
  by_cases h0 : watE s l mi = 0
  · have hvd := now_vd (chk_ok (rdg_ok (by have := watE_eq s l mi; rw [h0] at this; split at this <;> first | omega | (rename_i h9; simpa using h9))).1) (l := l) (m := mi)
    obtain ⟨g, rfl, hB⟩ := hv h0
    have hL := HL.out
    rw [if_pos h0, h0] at hL
    rw [h0]
    have HV := Lib.hid hL
    clear h0 hv hL HL
    go_wp2_with fail
    refine (ends_c _ g _ hvd hB).mono ?_
    rintro e w2 ⟨rfl, hb2⟩
    obtain ⟨p, hp⟩ : ∃ p, (now s l mi).getD (0, 0) = p := ⟨_, rfl⟩
    rw [hp] at HV ⊢
    obtain ⟨x0, x1⟩ := p
    obtain ⟨bs, hbs⟩ : ∃ bs, (now s l mi).isSome = bs := ⟨_, rfl⟩
    rw [hbs]
    dsimp only at HV ⊢
    have hS2 := (hS1.keep hb2).alloc (.cells #[.int .i64 x0, .int .i64 x1] 23)
    have hZ := hS2.bx
    clear hS1 hb2 hp hbs
    go_wp2_with (refine wpList_store_row rfl 23 _ _ rfl (w.heap.size + 1) _ rfl rfl 23 _ hZ (by kernel_rfl) rfl (by simp [Value.oneCell']) ?_)
    refine bodyPost_ret (results_cell_tmp Try.results18 _ _ (w.heap.size + 1) 23 _ (0, 0) _ rfl (hZ.row _) Try.underlying23 rfl (by kernel_rfl)) rfl ⟨?_, (hS2.sp.sn.row (by omega) _).1⟩
    rw [HV.out]
    rfl
  · have hL := HL.out
    rw [if_neg h0] at hL
    have HV := Lib.hid hL
    obtain ⟨E, hE⟩ : ∃ E, watE s l mi = E := ⟨_, rfl⟩
    rw [hE] at h0 HV ⊢
    have h0' : (E != 0) = true := by simpa using h0
    have hZ := hS1.bx
    clear hL HL hv hE
    go_wp2_with (refine wpList_store_row rfl 23 _ _ rfl (w.heap.size + 1) _ rfl rfl 23 _ hZ (by kernel_rfl) rfl (by simp [Value.oneCell']) ?_)
    refine bodyPost_ret (results_cell_tmp Try.results18 _ _ (w.heap.size + 1) 23 _ (0, 0) _ rfl (hZ.row _) Try.underlying23 rfl (by kernel_rfl)) rfl ⟨?_, (hS1.sp.sn.row (by omega) _).1⟩
    rw [HV.out]
    rfl
theorem untl_stop {s : Spc} {l : List Rd} {o : Option (Int × Int)} {mi k : Nat} (hk : mi + k < 61) (h0 : ∀ j, j < k → good s l mi o j = true) (h : good s l mi o k = false) : untl s l (mi : Int) o = if k = 0 then -1 else (mi : Int) + (k : Int) - 1 := by
  unfold untl
  rw [lead_at (n := (61 - (mi : Int)).toNat) (by omega) h0 h]
theorem untl_end {s : Spc} {l : List Rd} {o : Option (Int × Int)} {mi : Nat} (hm : mi ≤ 60) (h0 : ∀ j, j < 61 - mi → good s l mi o j = true) : untl s l (mi : Int) o = 60 := by
  unfold untl
  rw [lead_all (n := (61 - (mi : Int)).toNat) (fun j hj => h0 j (by omega))]
  simp only []
  split <;> omega
theorem lv_stepm (s : Spc) (l : List Rd) (m : Int) (o : Option (Int × Int)) (k : Nat) : agr s (atM l (m + (k : Int) + 1)) ((lv s l m o k).bind fun x => aft x (chg s (m + (k : Int)))) = lv s l m o (k + 1) := by
  rw [lv, show m + ((k + 1 : Nat) : Int) = m + (k : Int) + 1 by omega]
set_option maxRecDepth 100000 in
set_option maxHeartbeats 8000000 in
theorem runtil_c (s : Spc) (m : Sl) (A : Option Addr) (l : List Rd) (c : Nat) (mi : Int) (w : World) (hsa : SAt w m s) (hrd : RdAt w A l) (hlM : l.length ≤ 9223372036854775807) :
    Calls Try.prog 20 #[.agg (sV s m), .slice A l.length c, .int .i64 mi] w fun e w' => e = .returned (.tuple #[.int .i64 (untilA s l mi).1, .int .i64 (untilA s l mi).2]) ∧ Below w.heap.size w w' := by
  have hS0 := Sp.start w s m
  obtain ⟨c0, c1, c2, c3, c4, c5, c6, c7, c8⟩ := hS0.bk.space
  go_enter Try.func20, Try.ntmps20
  go_wp2_with fail
  refine (asked_c s m A l c mi _ (hsa.keep hS0.sn.1) (hrd.keep hS0.sn.1) hlM).mono ?_
  rintro e w1 ⟨⟨v, rfl, hv⟩, hb1⟩
  have hS1 := hS0.keep hb1
  clear c0 c1 c2 c3 c4 c5 c6 c7 c8 hS0 hb1
  by_cases h0 : watE s l mi = 0
  · obtain ⟨hs, hro, h12, hm0, hm1⟩ := watE_ok h0
    obtain ⟨x, hx⟩ := watE_some h0
    obtain ⟨mn, rfl⟩ : ∃ mn : Nat, mi = (mn : Int) := ⟨mi.toNat, by omega⟩
    obtain ⟨g0, rfl, hB1⟩ := hv h0
    have HV : Hid (untilA s l (mn : Int) = (untl s [] (mn : Int) (some x), 0)) := by show _ = _; unfold untilA; rw [if_pos h0, hx, untl_free hs hx]
    have hvx := now_vd hs x hx
    rw [hx] at hB1
    rw [h0]
    clear h0 hv hx
    go_wp2_with fail
    go_loopw [8, 10, 11, 12, 13] (fun xv last t _ _ wr => ∃ k g : Nat, mn + k ≤ 61 ∧ t = .int .i64 ((mn : Int) + (k : Int)) ∧ last = .int .i64 (if k = 0 then -1 else (mn : Int) + (k : Int) - 1) ∧ xv = .slice (some ⟨g, 0, none⟩) 201 201 ∧ Sp w s m wr ∧ Hid (Blk wr g 4 (rB (fun i => inB (lv s [] (mn : Int) (some x) k) (i : Int)) 201)) ∧ Hid (∀ j, j < k → good s [] (mn : Int) (some x) j = true)) (fun _ _ t _ _ _ => (61 - intOf t).toNat)
    case atStart => exact ⟨0, g0, by omega, by simp, rfl, rfl, hS1, hB1, fun j h => absurd h (by omega)⟩
    case round =>
      obtain ⟨k, g, hk, rfl, hlast, rfl, hS, HB, HG⟩ := hrel
      obtain ⟨lu, hlu⟩ : ∃ lu, (if k = 0 then -1 else (mn : Int) + (k : Int) - 1) = lu := ⟨_, rfl⟩
      rw [hlu] at hlast
      subst hlast
      have HLU := Lib.hid hlu
      clear hlu
      by_cases hlt : mn + k ≤ 60
      · have hki : (mn : Int) + (k : Int) ≤ 60 := by omega
        obtain ⟨y, hy, -, -⟩ := lv_free hs (l := []) (m := (mn : Int)) (x := x) hvx.2.1 rfl (fun _ => rfl) k
        have hgd : good s [] (mn : Int) (some x) k = decide (y.2 ≤ s.lim) := by simp [good, hy]
        have hvd := vd_lv (s := s) (l := []) (m := (mn : Int)) (o := some x) (fun z hz => by cases hz; exact hvx) k
        have hN := next_c s m none [] 0 (lv s [] (mn : Int) (some x) k) g ((mn : Int) + (k : Int))
        rw [lv_stepm] at hN
        have hE := ends_c (lv s [] (mn : Int) (some x) k) g wr hvd HB.out
        rw [hy] at hE
        dsimp only [Option.getD_some, Option.isSome_some] at hE
        go_wp2_with fail
        refine hE.mono ?_
        rintro e w2 ⟨rfl, hb2⟩
        have hq2 : Below w2.heap.size w2 (w2.alloc (.cells #[.int .i64 y.1, .int .i64 y.2] 23)) := (Below.refl _ _).alloc (Nat.le_refl _) _
        have hS2 := (hS.keep hb2).keep hq2
        have hB2 := (HB.out.keep hb2).keep hq2
        have hY := Blk.new w2 23 #[.int .i64 y.1, .int .i64 y.2]
        have y0 := hY.cell 0
        have y1 := hY.cell 1
        simp only [List.getElem?_toArray, List.getElem?_cons_zero, List.getElem?_cons_succ] at y0 y1
        obtain ⟨c0, c1, c2, c3, c4, c5, c6, c7, c8⟩ := hS2.bk.space
        clear hE hS HB hb2 hq2
        by_cases hlim : y.2 ≤ s.lim
        · have hno : decide (s.lim < y.2) = false := decide_eq_false (by omega)
          rw [decide_eq_true hlim] at hgd
          have HG2 : Hid (∀ j, j < k + 1 → good s [] (mn : Int) (some x) j = true) := fun j hj => by
            rcases Nat.lt_or_ge j k with h | h
            · exact HG.out j h
            · obtain rfl : j = k := by omega
              exact hgd
          have hw5 : IntKind.i64.wrap ((mn : Int) + (k : Int) + 1) = (mn : Int) + ((k + 1 : Nat) : Int) := by rw [IntWalk.i64_in _ (by omega)]; push_cast; omega
          have hN2 := hN _ hs (hsa.keep hS2.sn.1) (fun h => absurd rfl h) (fun r h => by cases h) (by simp) hvd (by omega) (by omega) hB2
          clear hgd hy hN hlim
          go_wp2_with fail
          refine hN2.mono ?_
          rintro e w3 ⟨⟨g3, rfl, hB3⟩, hb3⟩
          have hS3 := hS2.keep hb3
          clear hN2 c0 c1 c2 c3 c4 c5 c6 c7 c8 y0 y1 hY
          go_wp2_with fail
          go_roundw
          case rel => exact ⟨k + 1, g3, by omega, rfl, by rw [if_neg (by omega)]; congr 1; push_cast; omega, rfl, hS3, hB3, HG2⟩
          case measure => simp [intOf]; omega
        · have hno : decide (s.lim < y.2) = true := decide_eq_true (by omega)
          rw [decide_eq_false hlim] at hgd
          have hU := untl_stop (by omega) HG.out hgd
          have HU : Hid (untilA s l (mn : Int) = (lu, 0)) := by show _ = _; rw [HV.out, hU, HLU.out]
          clear hgd hy hN hlim hU
          go_wp2_with fail
          go_ret2
          exact ⟨by rw [HU.out]; rfl, hS2.sn.1⟩
      · have hki : ¬ (mn : Int) + (k : Int) ≤ 60 := by omega
        have hU := untl_end (s := s) (l := []) (o := some x) (mi := mn) (by omega) (fun j hj => HG.out j (by omega))
        have HU : Hid (untilA s l (mn : Int) = (60, 0)) := by show _ = _; rw [HV.out, hU]
        obtain rfl : lu = 60 := by have := HLU.out; rw [if_neg (by omega)] at this; omega
        clear hU
        go_wp2_with fail
        go_ret2
        exact ⟨by rw [HU.out]; rfl, hS.sn.1⟩
  · have HV : Hid (untilA s l mi = (0, watE s l mi)) := by show _ = _; unfold untilA; rw [if_neg h0]
    obtain ⟨E, hE⟩ : ∃ E, watE s l mi = E := ⟨_, rfl⟩
    rw [hE] at h0 HV ⊢
    have h0' : (E != 0) = true := by simpa using h0
    clear hv hE
    go_wp2_with fail
    go_ret2
    exact ⟨by rw [HV.out]; rfl, hS1.sn.1⟩
end Td
end Go.Proofs.Ytmofbnadfgejiaa
