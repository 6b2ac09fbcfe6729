import Derived.Test.YtmofbnadfgejiaaLvlA
/- The reference: which levels there are a minute later. -/
namespace Go.Proofs.Ytmofbnadfgejiaa
open Go.RowKit
namespace Td
set_option linter.unusedSimpArgs false
set_option linter.unusedVariables false
attribute [local go_sem] Oper.semAt_some
/-- one level is looked at: the row before and behind the store. -/
structure Nx (w : World) (s : Spc) (m : Sl) (gR gS gN L : Nat) (b : Bool) (F : Nat → Bool) (sp : Array Value) (o : Option (Int × Int)) (σ : Vals9.Sig) (Z : World) : Prop where
  hs : Sp w s m Z
  ho : σ 15 = none → Blk Z gR 4 (rB F 201)
  hn : ∀ u, σ 15 = some u → Blk Z gR 4 (rB (fun i => if i = L then b else F i) 201)
  hb : Blk Z gS 23 sp
  hv : Blk Z gN 4 (rB (fun i => inB o (i : Int)) 201)
section
variable {w Z Z' : World} {s : Spc} {m : Sl} {gR gS gN L : Nat} {b : Bool} {F : Nat → Bool} {sp : Array Value} {o : Option (Int × Int)} {σ : Vals9.Sig}
theorem Nx.keep (h : Nx w s m gR gS gN L b F sp o σ Z) (hb : Below Z.heap.size Z Z') : Nx w s m gR gS gN L b F sp o σ Z' := ⟨h.hs.keep hb, fun e => (h.ho e).keep hb, fun u e => (h.hn u e).keep hb, h.hb.keep hb, h.hv.keep hb⟩
theorem Nx.turn (h : Nx w s m gR gS gN L b F sp o σ Z) (hn : σ 15 = none) (hR : w.heap.size < gR) (hS : gR ≠ gS) (hN : gR ≠ gN) : Nx w s m gR gS gN L b F sp o (Vals9.upd σ 15 undef) (Z.setCell ⟨gR, L, none⟩ (.bool b)) := by
  refine ⟨⟨⟨h.hs.sn.1.setCell (p := ⟨gR, L, none⟩) (by simp; omega) _, by simpa using h.hs.sn.2⟩, h.hs.bk.far (by omega) _ _⟩, fun e => ?_, fun u e => ?_, h.hb.far hS _ _, h.hv.far hN _ _⟩
  · rw [Vals9.upd_same] at e; cases e
  · have := (h.ho hn).set L (.bool b)
    rwa [rB_set] at this
end
/-- the row behind n levels, and e changes of the next one. -/
def nxB (s : Spc) (l : List Rd) (mi : Int) (o : Option (Int × Int)) (lo : Int) (d n e : Nat) (i : Nat) : Bool := (rch o lo d n (i : Int) || (inB o (n : Int) && inn (n : Int) lo e (i : Int))) && agB s l (mi + 1) (i : Int)
theorem nxB_store {s : Spc} {l : List Rd} {mi : Int} {o : Option (Int × Int)} {lo : Int} {d n e L : Nat} (hin : inB o (n : Int) = true) (hL : hld ((n : Int) + (lo + (e : Int))) = (L : Int)) : (fun i => if i = L then agB s l (mi + 1) (L : Int) else nxB s l mi o lo d n e i) = nxB s l mi o lo d n (e + 1) := by
  funext i
  unfold nxB
  rw [hin, inn_succ, hL]
  by_cases h : i = L
  · subst h; simp
  · have : decide ((L : Int) = (i : Int)) = false := decide_eq_false (by omega)
    rw [if_neg h, this]; simp
theorem nxB_skip {s : Spc} {l : List Rd} {mi : Int} {o : Option (Int × Int)} {lo : Int} {d n e : Nat} (hin : inB o (n : Int) = false) : nxB s l mi o lo d n e = nxB s l mi o lo d (n + 1) 0 := by
  funext i
  unfold nxB
  rw [rch_succ, hin, inn_zero]; simp
theorem nxB_full {s : Spc} {l : List Rd} {mi : Int} {o : Option (Int × Int)} {lo : Int} {d n : Nat} : nxB s l mi o lo d n d = nxB s l mi o lo d (n + 1) 0 := by
  funext i
  unfold nxB
  rw [rch_succ, inn_zero]; simp
theorem nxB_zero {s : Spc} {l : List Rd} {mi : Int} {o : Option (Int × Int)} {lo : Int} {d : Nat} (i : Nat) : nxB s l mi o lo d 0 0 i = false := by
  unfold nxB
  rw [rch_zero, inn_zero]; simp
theorem nxB_end {s : Spc} (hs : SOk s) {l : List Rd} {mi : Int} {o : Option (Int × Int)} (ho : Vd o) {lo hi : Int} (hc : chg s mi = (lo, hi)) (i : Nat) : nxB s l mi o lo (hi - lo + 1).toNat 201 0 i = inB (agr s (atM l (mi + 1)) (o.bind fun x => aft x (chg s mi))) (i : Int) := by
  have h := chg_ok hs mi
  rw [hc] at h
  unfold nxB
  rw [← agr_row, hc, ← rch_row ho h.2.1, inn_zero]; simp
set_option maxRecDepth 100000 in
set_option maxHeartbeats 8000000 in
theorem next_c (s : Spc) (m : Sl) (A : Option Addr) (l : List Rd) (c : Nat) (o : Option (Int × Int)) (gN : Nat) (mi : Int) (w : World) (hs : SOk s) (hsa : SAt w m s) (hrd : RdAt w A l) (hro : ∀ r ∈ l, ROk s r) (h12 : l.length ≤ 12) (ho : Vd o) (hm0 : 0 ≤ mi) (hm1 : mi ≤ 60) (hN : Blk w gN 4 (rB (fun i => inB o (i : Int)) 201)) :
    Calls Try.prog 52 #[.agg (sV s m), .slice A l.length c, .slice (some ⟨gN, 0, none⟩) 201 201, .int .i64 mi] w fun e w' => (∃ g, e = .returned (.slice (some ⟨g, 0, none⟩) 201 201) ∧ Blk w' g 4 (rB (fun i => inB (agr s (atM l (mi + 1)) (o.bind fun x => aft x (chg s mi))) (i : Int)) 201)) ∧ Below w.heap.size w w' := by
  have hmk := run_make_row' (P := Try.prog) 99 4 (.bool false) 1 Try.underlying99 infoBool rfl .i64 .i64 201 (by omega) (by omega) (w.alloc (.cells (sV s m) 27))
  rw [made_rB] at hmk
  push_cast at hmk
  have hgw := hN.lt
  have hS0 := (Sp.start w s m).alloc (.cells (rB (fun _ => false) 201) 4)
  have hB0 := Blk.new1 w (.cells (sV s m) 27) 4 (rB (fun _ => false) 201)
  have hN0 := hN.keep hS0.sn.1
  obtain ⟨c0, c1, c2, c3, c4, c5, c6, c7, c8⟩ := hS0.bk.space
  go_enter Try.func52, Try.ntmps52
  go_wp2_with fail
  refine (rise_c s m mi _ (by have := hs.nb; omega) (hsa.keep hS0.sn.1)).mono ?_
  rintro e w3 ⟨rfl, hb3⟩
  have hchg := chg_ok hs mi
  obtain ⟨lo, hlo⟩ : ∃ lo, (chg s mi).1 = lo := ⟨_, rfl⟩
  obtain ⟨hi, hhi⟩ : ∃ hi, (chg s mi).2 = hi := ⟨_, rfl⟩
  have HC : Hid (chg s mi = (lo, hi)) := Prod.ext hlo hhi
  rw [hlo, hhi] at hchg ⊢
  have hS3 := (hS0.keep hb3).alloc (.cells #[.int .i64 0, .int .i64 0] 23)
  have hB3 := (hB0.keep hb3).alloc (.cells #[.int .i64 0, .int .i64 0] 23)
  have hN3 := (hN0.keep hb3).alloc (.cells #[.int .i64 0, .int .i64 0] 23)
  have HSP0 := Lib.hid (Blk.new w3 23 #[.int .i64 0, .int .i64 0])
  have hz3 := (hB0.keep hb3).lt
  clear c0 c1 c2 c3 c4 c5 c6 c7 c8 hmk hS0 hB0 hN0 hb3 hlo hhi
  go_wp2_with (refine wpList_store_row rfl 23 _ _ rfl (w3.heap.size) _ rfl rfl 23 _ HSP0.out (by kernel_rfl) rfl (by simp [Value.oneCell']) ?_)
  have hS4 := hS3.row (g := w3.heap.size) (by omega) #[.int .i64 lo, .int .i64 hi]
  have HB4 := Lib.hid (hB3.rowFar (g' := w3.heap.size) (by omega) #[.int .i64 lo, .int .i64 hi])
  have HN4 := Lib.hid (hN3.rowFar (g' := w3.heap.size) (by omega) #[.int .i64 lo, .int .i64 hi])
  have HSP4 := Lib.hid (HSP0.out.row #[.int .i64 lo, .int .i64 hi])
  obtain ⟨gS, hgS0⟩ : ∃ gS, w3.heap.size = gS := ⟨_, rfl⟩
  obtain ⟨gR, hgR0⟩ : ∃ gR, w.heap.size + 1 = gR := ⟨_, rfl⟩
  rw [hgS0] at HB4 HSP4 HN4 hS4 hz3 ⊢
  rw [hgR0] at HB4 hz3 ⊢
  have hgR : w.heap.size < gR := by omega
  have hgS : gR ≠ gS := by omega
  have hgN : gR ≠ gN := by omega
  clear hS3 hB3 hN3 HSP0 hgS0 hgR0
  obtain ⟨d, hd⟩ : ∃ d, (hi - lo + 1).toNat = d := ⟨_, rfl⟩
  go_loopw [11, 12] (fun i _ wr => ∃ n : Nat, n ≤ 201 ∧ i = .int .i64 n ∧ Sp w s m wr ∧ Hid (Blk wr gR 4 (rB (nxB s l mi o lo d n 0) 201)) ∧ Hid (Blk wr gS 23 #[.int .i64 lo, .int .i64 hi]) ∧ Hid (Blk wr gN 4 (rB (fun i => inB o (i : Int)) 201))) (fun i _ _ => 201 - (intOf i).toNat)
  case atStart => exact ⟨0, by omega, rfl, hS4, by show Blk _ _ _ _; rw [rB_congr (g := fun _ => false) (fun i _ => nxB_zero i)]; exact HB4.out, HSP4, HN4⟩
  case round =>
    obtain ⟨n, hn, rfl, hS, HB, HSP, HN⟩ := hrel
    by_cases hnl : n < 201
    · have hni : (n : Int) < 201 := by omega
      have z0 := HSP.out.cell 0
      have z1 := HSP.out.cell 1
      simp only [List.getElem?_toArray, List.getElem?_cons_zero, List.getElem?_cons_succ] at z0 z1
      go_wp2_with fail
      clear z0 z1
      go_loopw [12] (fun b wr => ∃ e : Nat, e ≤ d ∧ b = .int .i64 (lo + (e : Int)) ∧ Sp w s m wr ∧ Hid (Blk wr gR 4 (rB (nxB s l mi o lo d n e) 201)) ∧ Hid (Blk wr gS 23 #[.int .i64 lo, .int .i64 hi]) ∧ Hid (Blk wr gN 4 (rB (fun i => inB o (i : Int)) 201))) (fun b _ => (hi + 1 - intOf b).toNat)
      case atStart => exact ⟨0, by omega, by simp, hS, HB, HSP, HN⟩
      case round =>
        obtain ⟨e, he, rfl, hS, HB, HSP, HN⟩ := hrel
        have z0 := HSP.out.cell 0
        have z1 := HSP.out.cell 1
        simp only [List.getElem?_toArray, List.getElem?_cons_zero, List.getElem?_cons_succ] at z0 z1
        by_cases hed : e < d
        · have hle : lo + (e : Int) ≤ hi := by omega
          have v0 := HN.out.cell n
          rw [rB_get _ hnl] at v0
          obtain ⟨bn, hbn⟩ : ∃ bn, inB o (n : Int) = bn := ⟨_, rfl⟩
          rw [hbn] at v0
          cases bn with
          | false =>
            have HB2 : Hid (Blk wr gR 4 (rB (nxB s l mi o lo d (n + 1) 0) 201)) := by show Blk _ _ _ _; rw [← nxB_skip (e := e) hbn]; exact HB.out
            clear hbn
            go_wp2_with fail
            go_roundw
            case rel => exact ⟨n + 1, by omega, by go_num, hS, HB2, HSP, HN⟩
            case measure => simp [intOf]; omega
          | true =>
            have hlb := hld_in ((n : Int) + (lo + (e : Int)))
            obtain ⟨L, hL⟩ : ∃ L : Nat, hld ((n : Int) + (lo + (e : Int))) = (L : Int) := ⟨(hld ((n : Int) + (lo + (e : Int)))).toNat, by omega⟩
            have HLM := Lib.hid hL
            have HLB : Hid (L ≤ 200) := by show _ ≤ _; omega
            have HIN := Lib.hid hbn
            have HW1 : Hid (IntKind.i64.wrap ((n : Int) + (lo + (e : Int))) = (n : Int) + (lo + (e : Int))) := IntWalk.i64_in _ (by omega)
            have HW2 : Hid (IntKind.i64.wrap (mi + 1) = mi + 1) := IntWalk.i64_in _ (by omega)
            obtain ⟨F, hF⟩ : ∃ F, nxB s l mi o lo d n e = F := ⟨_, rfl⟩
            have HF := Lib.hid hF
            rw [hF] at HB
            clear hL hbn hF hlb
            go_wp2_with fail
            clear z0 z1 v0
            refine Vals9.region (Nx w s m gR gS gN L (agB s l (mi + 1) (L : Int)) F #[.int .i64 lo, .int .i64 hi] o) [some 37, some 38, some 39, some 40, some 41, some 42, some 43, some 44, some 45, some 46, some 47, some 48, some 49, some 50, some 51, none] [.is ?_, .is ?_, .is ?_, .is (.int .i64 ((n : Int) + (lo + (e : Int)))), .is (.int .i64 (L : Int)), .is ?_, .is ?_, .is ?_, .is (.int .i64 (mi + 1)), .is ?_, .is ?_, .is (.int .i64 ((n : Int) + (lo + (e : Int)))), .is (.int .i64 (L : Int)), .is (.bool (agB s l (mi + 1) (L : Int))), .is ?_, .any] (by kernel_rfl) (by kernel_rfl) (by kernel_rfl) (by kernel_rfl) (by kernel_rfl) (by kernel_rfl) (⟨hS.drew, fun _ => HB.out.drew, fun u h => (by cases h), HSP.out.drew, HN.out.drew⟩) ?hsteps ?hfin
            case hsteps =>
              refine Vals9.Steps.run rfl ?_ ?_
              · intro a W σ hJ pre K hK
                have e9 := pre.2.2 9 _ (by kernel_rfl) rfl
                clear pre
                simp only [Array.getD_eq_getD_getElem?, List.getElem?_toArray, List.getElem?_cons_zero, List.getElem?_cons_succ, Option.getD_some] at e9
                go_simp
                exact hK _ hJ
              refine Vals9.Steps.run rfl ?_ ?_
              · intro a W σ hJ pre K hK
                have e11 := pre.2.2 11 _ (by kernel_rfl) rfl
                clear pre
                simp only [Array.getD_eq_getD_getElem?, List.getElem?_toArray, List.getElem?_cons_zero, List.getElem?_cons_succ, Option.getD_some] at e11
                go_simp
                exact hK _ hJ
              refine Vals9.Steps.run rfl ?_ ?_
              · intro a W σ hJ pre K hK
                have e12 := pre.2.2 12 _ (by kernel_rfl) rfl
                clear pre
                simp only [Array.getD_eq_getD_getElem?, List.getElem?_toArray, List.getElem?_cons_zero, List.getElem?_cons_succ, Option.getD_some] at e12
                go_simp
                exact hK _ hJ
              refine Vals9.Steps.run rfl ?_ ?_
              · intro a W σ hJ pre K hK
                have e38 := pre.1 1 38 _ (by kernel_rfl) rfl rfl
                have e39 := pre.1 2 39 _ (by kernel_rfl) rfl rfl
                clear pre
                simp only [Array.getD_eq_getD_getElem?, List.getElem?_toArray, List.getElem?_cons_zero, List.getElem?_cons_succ, Option.getD_some] at e38 e39
                have hw9 := HW1.out
                go_simp
                exact hK _ hJ
              refine Vals9.Steps.run rfl ?_ ?_
              · intro a W σ hJ pre K hK
                have e40 := pre.1 3 40 _ (by kernel_rfl) rfl rfl
                clear pre
                simp only [Array.getD_eq_getD_getElem?, List.getElem?_toArray, List.getElem?_cons_zero, List.getElem?_cons_succ, Option.getD_some] at e40
                go_simp
                refine (limited_c _ _).mono ?_
                rintro e w' ⟨rfl, rfl⟩
                have hl := HLM.out
                rw [hl]
                exact hK _ hJ
              refine Vals9.Steps.run rfl ?_ ?_
              · intro a W σ hJ pre K hK
                have e4 := pre.2.2 4 _ (by kernel_rfl) rfl
                clear pre
                simp only [Array.getD_eq_getD_getElem?, List.getElem?_toArray, List.getElem?_cons_zero, List.getElem?_cons_succ, Option.getD_some] at e4
                have hS9 := hJ
                obtain ⟨c0, c1, c2, c3, c4, c5, c6, c7, c8⟩ := hS9.hs.bk.space
                go_simp
                exact hK _ hJ
              refine Vals9.Steps.run rfl ?_ ?_
              · intro a W σ hJ pre K hK
                have e1 := pre.2.2 1 _ (by kernel_rfl) rfl
                clear pre
                simp only [Array.getD_eq_getD_getElem?, List.getElem?_toArray, List.getElem?_cons_zero, List.getElem?_cons_succ, Option.getD_some] at e1
                go_simp
                exact hK _ hJ
              refine Vals9.Steps.run rfl ?_ ?_
              · intro a W σ hJ pre K hK
                have e3 := pre.2.2 3 _ (by kernel_rfl) rfl
                clear pre
                simp only [Array.getD_eq_getD_getElem?, List.getElem?_toArray, List.getElem?_cons_zero, List.getElem?_cons_succ, Option.getD_some] at e3
                go_simp
                exact hK _ hJ
              refine Vals9.Steps.run rfl ?_ ?_
              · intro a W σ hJ pre K hK
                have e44 := pre.1 7 44 _ (by kernel_rfl) rfl rfl
                clear pre
                simp only [Array.getD_eq_getD_getElem?, List.getElem?_toArray, List.getElem?_cons_zero, List.getElem?_cons_succ, Option.getD_some] at e44
                have hw9 := HW2.out
                go_simp
                exact hK _ hJ
              refine Vals9.Steps.run rfl ?_ ?_
              · intro a W σ hJ pre K hK
                have e11 := pre.2.2 11 _ (by kernel_rfl) rfl
                clear pre
                simp only [Array.getD_eq_getD_getElem?, List.getElem?_toArray, List.getElem?_cons_zero, List.getElem?_cons_succ, Option.getD_some] at e11
                go_simp
                exact hK _ hJ
              refine Vals9.Steps.run rfl ?_ ?_
              · intro a W σ hJ pre K hK
                have e12 := pre.2.2 12 _ (by kernel_rfl) rfl
                clear pre
                simp only [Array.getD_eq_getD_getElem?, List.getElem?_toArray, List.getElem?_cons_zero, List.getElem?_cons_succ, Option.getD_some] at e12
                go_simp
                exact hK _ hJ
              refine Vals9.Steps.run rfl ?_ ?_
              · intro a W σ hJ pre K hK
                have e46 := pre.1 9 46 _ (by kernel_rfl) rfl rfl
                have e47 := pre.1 10 47 _ (by kernel_rfl) rfl rfl
                clear pre
                simp only [Array.getD_eq_getD_getElem?, List.getElem?_toArray, List.getElem?_cons_zero, List.getElem?_cons_succ, Option.getD_some] at e46 e47
                have hw9 := HW1.out
                go_simp
                exact hK _ hJ
              refine Vals9.Steps.run rfl ?_ ?_
              · intro a W σ hJ pre K hK
                have e48 := pre.1 11 48 _ (by kernel_rfl) rfl rfl
                clear pre
                simp only [Array.getD_eq_getD_getElem?, List.getElem?_toArray, List.getElem?_cons_zero, List.getElem?_cons_succ, Option.getD_some] at e48
                go_simp
                refine (limited_c _ _).mono ?_
                rintro e w' ⟨rfl, rfl⟩
                have hl := HLM.out
                rw [hl]
                exact hK _ hJ
              refine Vals9.Steps.run rfl ?_ ?_
              · intro a W σ hJ pre K hK
                have e42 := pre.1 5 42 _ (by kernel_rfl) rfl rfl
                have e43 := pre.1 6 43 _ (by kernel_rfl) rfl rfl
                have e45 := pre.1 8 45 _ (by kernel_rfl) rfl rfl
                have e49 := pre.1 12 49 _ (by kernel_rfl) rfl rfl
                clear pre
                simp only [Array.getD_eq_getD_getElem?, List.getElem?_toArray, List.getElem?_cons_zero, List.getElem?_cons_succ, Option.getD_some] at e42 e43 e45 e49
                go_simp
                refine (agrees_c s m A l c (mi + 1) (L : Int) W hs (hsa.keep hJ.hs.sn.1) (hrd.keep hJ.hs.sn.1) hro h12 (by omega) (by have := HLB.out; omega)).mono ?_
                rintro e w' ⟨rfl, hb'⟩
                exact hK _ (hJ.keep hb')
              refine Vals9.Steps.run rfl ?_ ?_
              · intro a W σ hJ pre K hK
                have e37 := pre.1 0 37 _ (by kernel_rfl) rfl rfl
                have e41 := pre.1 4 41 _ (by kernel_rfl) rfl rfl
                clear pre
                simp only [Array.getD_eq_getD_getElem?, List.getElem?_toArray, List.getElem?_cons_zero, List.getElem?_cons_succ, Option.getD_some] at e37 e41
                have hli : (L : Int) < 201 := by have := HLB.out; omega
                go_simp
                exact hK _ hJ
              refine Vals9.Steps.mark rfl ?_ ?_
              · intro a W σ hJ hn pre K hK
                have e50 := pre.1 13 50 _ (by kernel_rfl) rfl rfl
                have e51 := pre.1 14 51 _ (by kernel_rfl) rfl rfl
                simp only [Array.getD_eq_getD_getElem?, List.getElem?_toArray, List.getElem?_cons_zero, List.getElem?_cons_succ, Option.getD_some] at e50 e51
                have b0 := (hJ.ho hn).cell L
                rw [rB_get _ (show L < 201 by have := HLB.out; omega)] at b0
                have f0 := (hJ.ho hn).frozen L
                go_simp
                exact hK _ _ (hJ.turn hn hgR hgS hgN)
              exact Vals9.Steps.nil
            case hfin =>
              intro Y σ hJ
              simp only [Vals9.All]
              intro v15 h15
              simp only [Vals.putAll, List.setIfInBounds_toArray, List.set_cons_zero, List.set_cons_succ]
              have hB5 := hJ.hn _ h15
              rw [← HF.out, nxB_store HIN.out HLM.out] at hB5
              have hS5 := hJ.hs
              have HSP5 := Lib.hid hJ.hb
              have HN5 := Lib.hid hJ.hv
              have hw5 : IntKind.i64.wrap (lo + (e : Int) + 1) = lo + ((e + 1 : Nat) : Int) := by rw [IntWalk.i64_in _ (by omega)]; push_cast; omega
              clear hJ h15
              go_wp2_with fail
              go_roundw
              case rel => exact ⟨e + 1, by omega, rfl, hS5, hB5, HSP5, HN5⟩
              case measure => simp [intOf]; omega
        · have hle : ¬ lo + (e : Int) ≤ hi := by omega
          have HB2 : Hid (Blk wr gR 4 (rB (nxB s l mi o lo d (n + 1) 0) 201)) := by show Blk _ _ _ _; rw [← nxB_full, show d = e by omega]; rw [show d = e by omega] at HB; exact HB.out
          go_wp2_with fail
          go_roundw
          case rel => exact ⟨n + 1, by omega, by go_num, hS, HB2, HSP, HN⟩
          case measure => simp [intOf]; omega
    · have hni : ¬ (n : Int) < 201 := by omega
      obtain rfl : n = 201 := by omega
      have HV : Hid (Blk wr gR 4 (rB (fun i => inB (agr s (atM l (mi + 1)) (o.bind fun x => aft x (chg s mi))) (i : Int)) 201)) := by
        show Blk _ _ _ _
        rw [rB_congr (g := nxB s l mi o lo d 201 0) (fun i _ => (by rw [← hd]; exact (nxB_end hs ho HC.out i).symm))]
        exact HB.out
      go_wp2_with fail
      go_ret
      exact ⟨⟨gR, rfl, HV.out⟩, hS.sn.1⟩
end Td
end Go.Proofs.Ytmofbnadfgejiaa
