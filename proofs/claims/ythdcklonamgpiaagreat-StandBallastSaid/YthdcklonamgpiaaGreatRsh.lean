import Derived.Test.YthdcklonamgpiaaGreatWgh
import Derived.Test.YthdcklonamgpiaaGreatApx
/- The reference's truth that shows a reason. -/
namespace Go.Proofs.YthdcklonamgpiaaGreat
open Go.RowKit
namespace Td
set_option linter.unusedSimpArgs false
set_option linter.unusedVariables false
attribute [local go_sem] Oper.semAt_some
set_option maxRecDepth 100000 in
set_option maxHeartbeats 8000000 in
theorem rshown_c (h : Hul) (m : Sl) (y : Int) (w : World) (hp : HAt w m h) (hn10 : h.parts.length ≤ 10) (hy0 : 0 ≤ y) (hy3 : y ≤ 3) :
    Calls Tryz.prog 27 #[.agg (hV h m), .int .i64 y] w fun e w' => (∃ v, e = .returned v ∧ Tv w.heap.size w' v (shG h (shK y)) (shL h (shK y))) ∧ Below w.heap.size w w' := by
  have HR := Lib.hid ((Blk.new1 w (.cells (hV h m) 24) 32 #[.slice none 0 0, .slice none 0 0]).alloc (.cells #[.slice none 0 0, .slice none 0 0] 32))
  have HB := Lib.hid (((Blk.new w 24 (hV h m)).alloc (.cells #[.slice none 0 0, .slice none 0 0] 32)).alloc (.cells #[.slice none 0 0, .slice none 0 0] 32))
  have HT : Hid (Tw w (w.heap.size + 1 + 1 + 1) (w.heap.size + 1 + 1) (.slice none 0 0) (.slice none 0 0) ((shG h (shK y)).take 0) ((shL h (shK y)).take 0) (((w.alloc (.cells (hV h m) 24)).alloc (.cells #[.slice none 0 0, .slice none 0 0] 32)).alloc (.cells #[.slice none 0 0, .slice none 0 0] 32))) :=
    ⟨(((Since.refl w).alloc _).alloc _).alloc _, Blk.new2 _ _ _ _ _, ⟨by simp, .inl ⟨rfl, by simp⟩⟩, ⟨by simp, .inl ⟨rfl, by simp⟩⟩, fun g e => by simp [Value.ownBlock] at e, by omega, by simp, by omega⟩
  go_enter Tryz.func27, Tryz.ntmps27
  go_wp2_with fail
  obtain ⟨gt, hgt⟩ : ∃ gt, w.heap.size + 1 + 1 = gt := ⟨_, rfl⟩
  have HGT : Hid (w.heap.size + 1 + 1 = gt) := hgt
  obtain ⟨W0, hW0⟩ : ∃ W0, ((w.alloc (.cells (hV h m) 24)).alloc (.cells #[.slice none 0 0, .slice none 0 0] 32)).alloc (.cells #[.slice none 0 0, .slice none 0 0] 32) = W0 := ⟨_, rfl⟩
  rw [hW0] at HR HB HT ⊢
  rw [hgt] at HT ⊢
  clear hW0 hgt
  have HBB : Hid (Bq w.heap.size (w.heap.size + 1) (hV h m) W0) := Lib.hid ⟨HB.out, HR.out⟩
  clear HB HR
  go_loopw [6] (fun i wr => ∃ (k : Nat) (vg vl : Value), k ≤ h.parts.length ∧ i = .int .i64 k ∧ Hid (Tw w (gt + 1) gt vg vl ((shG h (shK y)).take k) ((shL h (shK y)).take k) wr) ∧ Hid (Bq w.heap.size (w.heap.size + 1) (hV h m) wr)) (fun i _ => h.parts.length - (intOf i).toNat)
  case atStart => exact ⟨0, _, _, Nat.zero_le _, rfl, HT, HBB⟩
  case round =>
    clear HT HBB
    obtain ⟨k, vg, vl, hk, rfl, HT, HB⟩ := hrel
    by_cases hlt : k < h.parts.length
    · obtain ⟨ad, hA, d0, d1, d2, d3, d4, d5, d6⟩ := (hp.ps.keep HT.out.sn.1).get hlt
      have hki : (k : Int) < (h.parts.length : Int) := by omega
      have hhv : ((y = 0 ∨ y = 1 ∨ (y = 2 ∧ h.aft ≤ h.parts[k].pt) ∨ (y = 3 ∧ h.parts[k].pt ≤ h.fore)) ∧ hvy h.aft h.fore (shK y) h.parts[k] = false) ∨ (((y = 2 ∧ ¬ h.aft ≤ h.parts[k].pt) ∨ (y = 3 ∧ ¬ h.parts[k].pt ≤ h.fore)) ∧ hvy h.aft h.fore (shK y) h.parts[k] = true) := by
        rcases (by omega : y = 0 ∨ y = 1 ∨ y = 2 ∨ y = 3) with rfl | rfl | rfl | rfl
        · exact .inl ⟨.inl rfl, rfl⟩
        · exact .inl ⟨.inr (.inl rfl), rfl⟩
        · by_cases e : h.aft ≤ h.parts[k].pt
          · exact .inl ⟨.inr (.inr (.inl ⟨rfl, e⟩)), by show decide (h.parts[k].pt < h.aft) = false; simp; omega⟩
          · exact .inr ⟨.inl ⟨rfl, e⟩, by show decide (h.parts[k].pt < h.aft) = true; simp; omega⟩
        · by_cases e : h.parts[k].pt ≤ h.fore
          · exact .inl ⟨.inr (.inr (.inr ⟨rfl, e⟩)), by show decide (h.fore < h.parts[k].pt) = false; simp; omega⟩
          · exact .inr ⟨.inr ⟨rfl, e⟩, by show decide (h.fore < h.parts[k].pt) = true; simp; omega⟩
      have XG : Hid ((shG h (shK y)).take (k + 1) = (shG h (shK y)).take k ++ [sdW h.aft h.fore (shK y) h.parts[k]]) := shG_take h _ hlt
      have XL : Hid ((shL h (shK y)).take (k + 1) = (shL h (shK y)).take k ++ [sdL h.aft h.fore (shK y) h.parts[k]]) := shL_take h _ hlt
      have HLG : Hid (((shG h (shK y)).take k).length ≤ 1000) := by show _ ≤ _; rw [List.length_take]; omega
      have HLL : Hid (((shL h (shK y)).take k).length ≤ 1000) := by show _ ≤ _; rw [List.length_take]; omega
      obtain ⟨gs, hgs⟩ : ∃ gs, (shG h (shK y)).take k = gs := ⟨_, rfl⟩
      obtain ⟨ls, hls⟩ : ∃ ls, (shL h (shK y)).take k = ls := ⟨_, rfl⟩
      rw [hgs] at XG HLG HT
      rw [hls] at XL HLL HT
      clear hgs hls
      obtain ⟨mA, mc⟩ := m
      replace hA : mA = some ad := hA
      subst hA
      have hT2 := HT.out.alloc (.cells (pV h.parts[k]) 51)
      have hB2 := HB.out.alloc (.cells (pV h.parts[k]) 51)
      have hA1 : Aside gt wr.heap.size 51 (pV h.parts[k]) vg vl (wr.alloc (.cells (pV h.parts[k]) 51)) := HT.out.tq.aside _ _
      have hgt := HGT.out
      have hA2 : Aside gt w.heap.size 24 (hV h ⟨some ad, mc⟩) vg vl (wr.alloc (.cells (pV h.parts[k]) 51)) := hT2.aside hB2.hb (by omega)
      have hA3 : Aside gt (w.heap.size + 1) 32 #[.slice none 0 0, .slice none 0 0] vg vl (wr.alloc (.cells (pV h.parts[k]) 51)) := hT2.aside hB2.rb (by omega)
      obtain ⟨c0, c1, c2⟩ := HB.out.hb.hull
      obtain ⟨c3, c4, c5⟩ := hA2.b.hull
      clear hgt
      rcases hhv with ⟨hcase, hv⟩ | ⟨hcase, hv⟩
      · have eW : sdW h.aft h.fore (shK y) h.parts[k] = h.parts[k].w0 := by unfold sdW; rw [if_neg (by simp [hv])]
        have eL : sdL h.aft h.fore (shK y) h.parts[k] = h.parts[k].l1 := by unfold sdL; rw [if_neg (by simp [hv])]
        rw [eW] at XG
        rw [eL] at XL
        clear eW eL hv
        have HS := Lib.hid (Ap.start (x := h.parts[k].w0) (y := h.parts[k].l1) (L := [(w.heap.size, 24, hV h ⟨some ad, mc⟩), (w.heap.size + 1, 32, #[.slice none 0 0, .slice none 0 0]), (wr.heap.size, 51, pV h.parts[k])]) hT2 (by
          intro b hb
          simp only [List.mem_cons, List.not_mem_nil, or_false] at hb
          rcases hb with rfl | rfl | rfl
          · exact hA2
          · exact hA3
          · exact hA1) HLG.out HLL.out)
        clear hT2 hB2 hA1 hA2 hA3 HT HB
        rcases hcase with rfl | rfl | ⟨rfl, hc⟩ | ⟨rfl, hc⟩
        all_goals (
          go_wp2_with fail
          obtain ⟨gp, hgp⟩ : ∃ g, wr.heap.size = g := ⟨_, rfl⟩
          obtain ⟨p, hpp⟩ : ∃ p, h.parts[k] = p := ⟨_, rfl⟩
          rw [hgp, hpp] at HS
          rw [hpp] at XG XL
          rw [hgp, hpp]
          obtain ⟨W2, hW2⟩ : ∃ W2, wr.alloc (.cells (pV p) 51) = W2 := ⟨_, rfl⟩
          rw [hW2] at HS ⊢
          clear hW2 hgp hpp c0 c1 c2 c3 c4 c5 d0 d1 d2 d3 d4 d5 d6
          refine Vals9.region (fun σ Z => Ap w (gt + 1) gt [(w.heap.size, 24, hV h ⟨some ad, mc⟩), (w.heap.size + 1, 32, #[.slice none 0 0, .slice none 0 0]), (gp, 51, pV p)] vg vl gs ls p.w0 p.l1 (σ 1) (σ 5) (σ 6) (σ 15) (σ 8) (σ 12) (σ 13) (σ 17) Z) [some 50, some 51, some 52, some 53, some 54, some 55, some 56, some 57, some 58, some 59, some 60, some 61, some 62, some 63, some 64, none, some 65, none] [.is ?_, .any, .is ?_, .is ?_, .is ?_, .any, .any, .is ?_, .any, .is ?_, .is ?_, .is ?_, .any, .any, .is ?_, .any, .is ?_, .any] (by kernel_rfl) (by kernel_rfl) (by kernel_rfl) (by kernel_rfl) (by kernel_rfl) (by kernel_rfl) (HS.out.keep (Below.refl _ _).drew) ?hsteps ?hfin
          case hsteps =>
            refine Vals9.Steps.run rfl ?_ ?_
            · intro a W σ hJ pre K hK
              have e5 := pre.2.2 5 _ (by kernel_rfl) rfl
              clear pre
              simp only [Array.getD_eq_getD_getElem?, List.getElem?_toArray, List.getElem?_cons_zero, List.getElem?_cons_succ, Option.getD_some] at e5
              go_simp
              exact hK _ hJ
            refine Vals9.Steps.mark rfl ?_ ?_
            · intro a W σ hJ hn pre K hK
              have e50 := pre.1 0 50 _ (by kernel_rfl) rfl rfl
              simp only [Array.getD_eq_getD_getElem?, List.getElem?_toArray, List.getElem?_cons_zero, List.getElem?_cons_succ, Option.getD_some] at e50
              have hJ2 : Ap w (gt + 1) gt [(w.heap.size, 24, hV h ⟨some ad, mc⟩), (w.heap.size + 1, 32, #[.slice none 0 0, .slice none 0 0]), (gp, 51, pV p)] vg vl gs ls p.w0 p.l1 (σ 1) (σ 5) (σ 6) (σ 15) (σ 8) (σ 12) (σ 13) (σ 17) W := hJ
              rw [hn] at hJ2
              obtain ⟨b0, b1⟩ := hJ2.loadG
              go_simp
              exact hK _ _ b1
            refine Vals9.Steps.run rfl ?_ ?_
            · intro a W σ hJ pre K hK
              have e7 := pre.2.2 7 _ (by kernel_rfl) rfl
              clear pre
              simp only [Array.getD_eq_getD_getElem?, List.getElem?_toArray, List.getElem?_cons_zero, List.getElem?_cons_succ, Option.getD_some] at e7
              go_simp
              exact hK _ hJ
            refine Vals9.Steps.run rfl ?_ ?_
            · intro a W σ hJ pre K hK
              have e52 := pre.1 2 52 _ (by kernel_rfl) rfl rfl
              clear pre
              simp only [Array.getD_eq_getD_getElem?, List.getElem?_toArray, List.getElem?_cons_zero, List.getElem?_cons_succ, Option.getD_some] at e52
              go_simp
              exact hK _ hJ
            refine Vals9.Steps.run rfl ?_ ?_
            · intro a W σ hJ pre K hK
              have e53 := pre.1 3 53 _ (by kernel_rfl) rfl rfl
              clear pre
              simp only [Array.getD_eq_getD_getElem?, List.getElem?_toArray, List.getElem?_cons_zero, List.getElem?_cons_succ, Option.getD_some] at e53
              have hJ2 : Ap w (gt + 1) gt [(w.heap.size, 24, hV h ⟨some ad, mc⟩), (w.heap.size + 1, 32, #[.slice none 0 0, .slice none 0 0]), (gp, 51, pV p)] vg vl gs ls p.w0 p.l1 (σ 1) (σ 5) (σ 6) (σ 15) (σ 8) (σ 12) (σ 13) (σ 17) W := hJ
              obtain ⟨p0, p1, p2, p3, p4, p5, p6⟩ := (show Blk W gp 51 (pV p) from hJ2.blk (b := (gp, 51, pV p)) (by simp)).part
              go_simp
              exact hK _ hJ
            refine Vals9.Steps.mark rfl ?_ ?_
            · intro a W σ hJ hn pre K hK
              have e54 := pre.1 4 54 _ (by kernel_rfl) rfl rfl
              simp only [Array.getD_eq_getD_getElem?, List.getElem?_toArray, List.getElem?_cons_zero, List.getElem?_cons_succ, Option.getD_some] at e54
              have hJ2 : Ap w (gt + 1) gt [(w.heap.size, 24, hV h ⟨some ad, mc⟩), (w.heap.size + 1, 32, #[.slice none 0 0, .slice none 0 0]), (gp, 51, pV p)] vg vl gs ls p.w0 p.l1 (σ 1) (σ 5) (σ 6) (σ 15) (σ 8) (σ 12) (σ 13) (σ 17) W := hJ
              rw [hn] at hJ2
              go_simp
              exact hK _ _ hJ2.litG
            refine Vals9.Steps.mark rfl ?_ ?_
            · intro a W σ hJ hn pre K hK
              obtain ⟨v51, s51, e51⟩ := pre.2.1 1 (by kernel_rfl) rfl
              replace e51 : a.tmps.getD 51 undef = v51 := e51 51 rfl
              obtain ⟨v55, s55, e55⟩ := pre.2.1 5 (by kernel_rfl) rfl
              replace e55 : a.tmps.getD 55 undef = v55 := e55 55 rfl
              simp only [Array.getD_eq_getD_getElem?, List.getElem?_toArray, List.getElem?_cons_zero, List.getElem?_cons_succ, Option.getD_some] at e51 e55
              have hJ2 : Ap w (gt + 1) gt [(w.heap.size, 24, hV h ⟨some ad, mc⟩), (w.heap.size + 1, 32, #[.slice none 0 0, .slice none 0 0]), (gp, 51, pV p)] vg vl gs ls p.w0 p.l1 (σ 1) (σ 5) (σ 6) (σ 15) (σ 8) (σ 12) (σ 13) (σ 17) W := hJ
              rw [hn, s51, s55] at hJ2
              obtain ⟨A, c, w', hr, h2⟩ := hJ2.doG 30
              rw [← s51, ← s55] at h2
              have hfin := hK _ _ h2
              clear hK h2 hJ2 hJ
              have hx : a.eval (.tmp 51) = v51 := by go_simp
              have hy : a.eval (.tmp 55) = v55 := by go_simp
              unfold Oper.wp execOp
              simp only [resolve, invoke, builtin, Sem.run_bind, Sem.run_pure, Result.andThen_ok, List.map_toArray, List.map_cons, List.map_nil, hx, hy, hr]
              exact hfin
            refine Vals9.Steps.run rfl ?_ ?_
            · intro a W σ hJ pre K hK
              have e5 := pre.2.2 5 _ (by kernel_rfl) rfl
              clear pre
              simp only [Array.getD_eq_getD_getElem?, List.getElem?_toArray, List.getElem?_cons_zero, List.getElem?_cons_succ, Option.getD_some] at e5
              go_simp
              exact hK _ hJ
            refine Vals9.Steps.mark rfl ?_ ?_
            · intro a W σ hJ hn pre K hK
              have e57 := pre.1 7 57 _ (by kernel_rfl) rfl rfl
              simp only [Array.getD_eq_getD_getElem?, List.getElem?_toArray, List.getElem?_cons_zero, List.getElem?_cons_succ, Option.getD_some] at e57
              have hJ2 : Ap w (gt + 1) gt [(w.heap.size, 24, hV h ⟨some ad, mc⟩), (w.heap.size + 1, 32, #[.slice none 0 0, .slice none 0 0]), (gp, 51, pV p)] vg vl gs ls p.w0 p.l1 (σ 1) (σ 5) (σ 6) (σ 15) (σ 8) (σ 12) (σ 13) (σ 17) W := hJ
              rw [hn] at hJ2
              obtain ⟨b0, b1⟩ := hJ2.loadL
              go_simp
              exact hK _ _ b1
            refine Vals9.Steps.run rfl ?_ ?_
            · intro a W σ hJ pre K hK
              have e7 := pre.2.2 7 _ (by kernel_rfl) rfl
              clear pre
              simp only [Array.getD_eq_getD_getElem?, List.getElem?_toArray, List.getElem?_cons_zero, List.getElem?_cons_succ, Option.getD_some] at e7
              go_simp
              exact hK _ hJ
            refine Vals9.Steps.run rfl ?_ ?_
            · intro a W σ hJ pre K hK
              have e59 := pre.1 9 59 _ (by kernel_rfl) rfl rfl
              clear pre
              simp only [Array.getD_eq_getD_getElem?, List.getElem?_toArray, List.getElem?_cons_zero, List.getElem?_cons_succ, Option.getD_some] at e59
              go_simp
              exact hK _ hJ
            refine Vals9.Steps.run rfl ?_ ?_
            · intro a W σ hJ pre K hK
              have e60 := pre.1 10 60 _ (by kernel_rfl) rfl rfl
              clear pre
              simp only [Array.getD_eq_getD_getElem?, List.getElem?_toArray, List.getElem?_cons_zero, List.getElem?_cons_succ, Option.getD_some] at e60
              have hJ2 : Ap w (gt + 1) gt [(w.heap.size, 24, hV h ⟨some ad, mc⟩), (w.heap.size + 1, 32, #[.slice none 0 0, .slice none 0 0]), (gp, 51, pV p)] vg vl gs ls p.w0 p.l1 (σ 1) (σ 5) (σ 6) (σ 15) (σ 8) (σ 12) (σ 13) (σ 17) W := hJ
              obtain ⟨p0, p1, p2, p3, p4, p5, p6⟩ := (show Blk W gp 51 (pV p) from hJ2.blk (b := (gp, 51, pV p)) (by simp)).part
              go_simp
              exact hK _ hJ
            refine Vals9.Steps.mark rfl ?_ ?_
            · intro a W σ hJ hn pre K hK
              have e61 := pre.1 11 61 _ (by kernel_rfl) rfl rfl
              simp only [Array.getD_eq_getD_getElem?, List.getElem?_toArray, List.getElem?_cons_zero, List.getElem?_cons_succ, Option.getD_some] at e61
              have hJ2 : Ap w (gt + 1) gt [(w.heap.size, 24, hV h ⟨some ad, mc⟩), (w.heap.size + 1, 32, #[.slice none 0 0, .slice none 0 0]), (gp, 51, pV p)] vg vl gs ls p.w0 p.l1 (σ 1) (σ 5) (σ 6) (σ 15) (σ 8) (σ 12) (σ 13) (σ 17) W := hJ
              rw [hn] at hJ2
              go_simp
              exact hK _ _ hJ2.litL
            refine Vals9.Steps.mark rfl ?_ ?_
            · intro a W σ hJ hn pre K hK
              obtain ⟨v58, s58, e58⟩ := pre.2.1 8 (by kernel_rfl) rfl
              replace e58 : a.tmps.getD 58 undef = v58 := e58 58 rfl
              obtain ⟨v62, s62, e62⟩ := pre.2.1 12 (by kernel_rfl) rfl
              replace e62 : a.tmps.getD 62 undef = v62 := e62 62 rfl
              simp only [Array.getD_eq_getD_getElem?, List.getElem?_toArray, List.getElem?_cons_zero, List.getElem?_cons_succ, Option.getD_some] at e58 e62
              have hJ2 : Ap w (gt + 1) gt [(w.heap.size, 24, hV h ⟨some ad, mc⟩), (w.heap.size + 1, 32, #[.slice none 0 0, .slice none 0 0]), (gp, 51, pV p)] vg vl gs ls p.w0 p.l1 (σ 1) (σ 5) (σ 6) (σ 15) (σ 8) (σ 12) (σ 13) (σ 17) W := hJ
              rw [hn, s58, s62] at hJ2
              obtain ⟨A, c, w', hr, h2⟩ := hJ2.doL 30
              rw [← s58, ← s62] at h2
              have hfin := hK _ _ h2
              clear hK h2 hJ2 hJ
              have hx : a.eval (.tmp 58) = v58 := by go_simp
              have hy : a.eval (.tmp 62) = v62 := by go_simp
              unfold Oper.wp execOp
              simp only [resolve, invoke, builtin, Sem.run_bind, Sem.run_pure, Result.andThen_ok, List.map_toArray, List.map_cons, List.map_nil, hx, hy, hr]
              exact hfin
            refine Vals9.Steps.run rfl ?_ ?_
            · intro a W σ hJ pre K hK
              have e5 := pre.2.2 5 _ (by kernel_rfl) rfl
              clear pre
              simp only [Array.getD_eq_getD_getElem?, List.getElem?_toArray, List.getElem?_cons_zero, List.getElem?_cons_succ, Option.getD_some] at e5
              go_simp
              exact hK _ hJ
            refine Vals9.Steps.mark rfl ?_ ?_
            · intro a W σ hJ hn pre K hK
              obtain ⟨v56, s56, e56⟩ := pre.2.1 6 (by kernel_rfl) rfl
              replace e56 : a.tmps.getD 56 undef = v56 := e56 56 rfl
              have e64 := pre.1 14 64 _ (by kernel_rfl) rfl rfl
              simp only [Array.getD_eq_getD_getElem?, List.getElem?_toArray, List.getElem?_cons_zero, List.getElem?_cons_succ, Option.getD_some] at e56 e64
              have hJ2 : Ap w (gt + 1) gt [(w.heap.size, 24, hV h ⟨some ad, mc⟩), (w.heap.size + 1, 32, #[.slice none 0 0, .slice none 0 0]), (gp, 51, pV p)] vg vl gs ls p.w0 p.l1 (σ 1) (σ 5) (σ 6) (σ 15) (σ 8) (σ 12) (σ 13) (σ 17) W := hJ
              rw [hn, s56] at hJ2
              obtain ⟨⟨A, c, hv⟩, ⟨b0, hb0⟩, f0, h2⟩ := hJ2.putG undef
              rw [← s56] at h2
              have hfin := hK undef _ h2
              clear hK h2 hJ2 hJ s56
              subst hv
              obtain ⟨n, hN⟩ : ∃ n, (gs ++ [p.w0]).length = n := ⟨_, rfl⟩
              rw [hN] at hfin e56
              clear hN
              go_simp
              exact hfin
            refine Vals9.Steps.run rfl ?_ ?_
            · intro a W σ hJ pre K hK
              have e5 := pre.2.2 5 _ (by kernel_rfl) rfl
              clear pre
              simp only [Array.getD_eq_getD_getElem?, List.getElem?_toArray, List.getElem?_cons_zero, List.getElem?_cons_succ, Option.getD_some] at e5
              go_simp
              exact hK _ hJ
            refine Vals9.Steps.mark rfl ?_ ?_
            · intro a W σ hJ hn pre K hK
              obtain ⟨v63, s63, e63⟩ := pre.2.1 13 (by kernel_rfl) rfl
              replace e63 : a.tmps.getD 63 undef = v63 := e63 63 rfl
              have e65 := pre.1 16 65 _ (by kernel_rfl) rfl rfl
              simp only [Array.getD_eq_getD_getElem?, List.getElem?_toArray, List.getElem?_cons_zero, List.getElem?_cons_succ, Option.getD_some] at e63 e65
              have hJ2 : Ap w (gt + 1) gt [(w.heap.size, 24, hV h ⟨some ad, mc⟩), (w.heap.size + 1, 32, #[.slice none 0 0, .slice none 0 0]), (gp, 51, pV p)] vg vl gs ls p.w0 p.l1 (σ 1) (σ 5) (σ 6) (σ 15) (σ 8) (σ 12) (σ 13) (σ 17) W := hJ
              rw [hn, s63] at hJ2
              obtain ⟨⟨A, c, hv⟩, ⟨b0, hb0⟩, f0, h2⟩ := hJ2.putL undef
              rw [← s63] at h2
              have hfin := hK undef _ h2
              clear hK h2 hJ2 hJ s63
              subst hv
              obtain ⟨n, hN⟩ : ∃ n, (ls ++ [p.l1]).length = n := ⟨_, rfl⟩
              rw [hN] at hfin e63
              clear hN
              go_simp
              exact hfin
            exact Vals9.Steps.nil
          case hfin =>
            rintro X σ hJ
            simp only [Vals9.All]
            rintro v1 s1 v5 s5 v6 s6 v8 s8 v12 s12 v13 s13 v15 s15 v17 s17
            simp only [Vals.putAll, List.setIfInBounds_toArray, List.set_cons_zero, List.set_cons_succ]
            have hJ2 : Ap w (gt + 1) gt [(w.heap.size, 24, hV h ⟨some ad, mc⟩), (w.heap.size + 1, 32, #[.slice none 0 0, .slice none 0 0]), (gp, 51, pV p)] vg vl gs ls p.w0 p.l1 (σ 1) (σ 5) (σ 6) (σ 15) (σ 8) (σ 12) (σ 13) (σ 17) X := hJ
            rw [s15, s17] at hJ2
            obtain ⟨A, c, A2, c2, hT2, hL⟩ := hJ2.done
            have hB2 : Bq w.heap.size (w.heap.size + 1) (hV h ⟨some ad, mc⟩) X := ⟨hL (w.heap.size, 24, hV h ⟨some ad, mc⟩) (by simp), hL (w.heap.size + 1, 32, #[.slice none 0 0, .slice none 0 0]) (by simp)⟩
            have HT := Lib.hid hT2
            have HB := Lib.hid hB2
            clear hT2 hB2 hL hJ2 hJ HS s1 s5 s6 s8 s12 s13 s15 s17
            go_wp2_with fail
            go_roundw
            case rel => exact ⟨k + 1, _, _, by omega, by go_num, (by show Tw _ _ _ _ _ _ _ _; rw [XG.out, XL.out]; exact HT.out), HB⟩
            case measure => simp [intOf]; omega
        )
      · have eW : sdW h.aft h.fore (shK y) h.parts[k] = h.parts[k].w1 := by unfold sdW; rw [if_pos hv]
        have eL : sdL h.aft h.fore (shK y) h.parts[k] = h.parts[k].l0 := by unfold sdL; rw [if_pos hv]
        rw [eW] at XG
        rw [eL] at XL
        clear eW eL hv
        have HS := Lib.hid (Ap.start (x := h.parts[k].w1) (y := h.parts[k].l0) (L := [(w.heap.size, 24, hV h ⟨some ad, mc⟩), (w.heap.size + 1, 32, #[.slice none 0 0, .slice none 0 0]), (wr.heap.size, 51, pV h.parts[k])]) hT2 (by
          intro b hb
          simp only [List.mem_cons, List.not_mem_nil, or_false] at hb
          rcases hb with rfl | rfl | rfl
          · exact hA2
          · exact hA3
          · exact hA1) HLG.out HLL.out)
        clear hT2 hB2 hA1 hA2 hA3 HT HB
        rcases hcase with ⟨rfl, hc⟩ | ⟨rfl, hc⟩
        all_goals (
          go_wp2_with fail
          obtain ⟨gp, hgp⟩ : ∃ g, wr.heap.size = g := ⟨_, rfl⟩
          obtain ⟨p, hpp⟩ : ∃ p, h.parts[k] = p := ⟨_, rfl⟩
          rw [hgp, hpp] at HS
          rw [hpp] at XG XL
          rw [hgp, hpp]
          obtain ⟨W2, hW2⟩ : ∃ W2, wr.alloc (.cells (pV p) 51) = W2 := ⟨_, rfl⟩
          rw [hW2] at HS ⊢
          clear hW2 hgp hpp c0 c1 c2 c3 c4 c5 d0 d1 d2 d3 d4 d5 d6
          refine Vals9.region (fun σ Z => Ap w (gt + 1) gt [(w.heap.size, 24, hV h ⟨some ad, mc⟩), (w.heap.size + 1, 32, #[.slice none 0 0, .slice none 0 0]), (gp, 51, pV p)] vg vl gs ls p.w1 p.l0 (σ 1) (σ 5) (σ 6) (σ 15) (σ 8) (σ 12) (σ 13) (σ 17) Z) [some 66, some 67, some 68, some 69, some 70, some 71, some 72, some 73, some 74, some 75, some 76, some 77, some 78, some 79, some 80, none, some 81, none] [.is ?_, .any, .is ?_, .is ?_, .is ?_, .any, .any, .is ?_, .any, .is ?_, .is ?_, .is ?_, .any, .any, .is ?_, .any, .is ?_, .any] (by kernel_rfl) (by kernel_rfl) (by kernel_rfl) (by kernel_rfl) (by kernel_rfl) (by kernel_rfl) (HS.out.keep (Below.refl _ _).drew) ?hsteps ?hfin
          case hsteps =>
            refine Vals9.Steps.run rfl ?_ ?_
            · intro a W σ hJ pre K hK
              have e5 := pre.2.2 5 _ (by kernel_rfl) rfl
              clear pre
              simp only [Array.getD_eq_getD_getElem?, List.getElem?_toArray, List.getElem?_cons_zero, List.getElem?_cons_succ, Option.getD_some] at e5
              go_simp
              exact hK _ hJ
            refine Vals9.Steps.mark rfl ?_ ?_
            · intro a W σ hJ hn pre K hK
              have e66 := pre.1 0 66 _ (by kernel_rfl) rfl rfl
              simp only [Array.getD_eq_getD_getElem?, List.getElem?_toArray, List.getElem?_cons_zero, List.getElem?_cons_succ, Option.getD_some] at e66
              have hJ2 : Ap w (gt + 1) gt [(w.heap.size, 24, hV h ⟨some ad, mc⟩), (w.heap.size + 1, 32, #[.slice none 0 0, .slice none 0 0]), (gp, 51, pV p)] vg vl gs ls p.w1 p.l0 (σ 1) (σ 5) (σ 6) (σ 15) (σ 8) (σ 12) (σ 13) (σ 17) W := hJ
              rw [hn] at hJ2
              obtain ⟨b0, b1⟩ := hJ2.loadG
              go_simp
              exact hK _ _ b1
            refine Vals9.Steps.run rfl ?_ ?_
            · intro a W σ hJ pre K hK
              have e7 := pre.2.2 7 _ (by kernel_rfl) rfl
              clear pre
              simp only [Array.getD_eq_getD_getElem?, List.getElem?_toArray, List.getElem?_cons_zero, List.getElem?_cons_succ, Option.getD_some] at e7
              go_simp
              exact hK _ hJ
            refine Vals9.Steps.run rfl ?_ ?_
            · intro a W σ hJ pre K hK
              have e68 := pre.1 2 68 _ (by kernel_rfl) rfl rfl
              clear pre
              simp only [Array.getD_eq_getD_getElem?, List.getElem?_toArray, List.getElem?_cons_zero, List.getElem?_cons_succ, Option.getD_some] at e68
              go_simp
              exact hK _ hJ
            refine Vals9.Steps.run rfl ?_ ?_
            · intro a W σ hJ pre K hK
              have e69 := pre.1 3 69 _ (by kernel_rfl) rfl rfl
              clear pre
              simp only [Array.getD_eq_getD_getElem?, List.getElem?_toArray, List.getElem?_cons_zero, List.getElem?_cons_succ, Option.getD_some] at e69
              have hJ2 : Ap w (gt + 1) gt [(w.heap.size, 24, hV h ⟨some ad, mc⟩), (w.heap.size + 1, 32, #[.slice none 0 0, .slice none 0 0]), (gp, 51, pV p)] vg vl gs ls p.w1 p.l0 (σ 1) (σ 5) (σ 6) (σ 15) (σ 8) (σ 12) (σ 13) (σ 17) W := hJ
              obtain ⟨p0, p1, p2, p3, p4, p5, p6⟩ := (show Blk W gp 51 (pV p) from hJ2.blk (b := (gp, 51, pV p)) (by simp)).part
              go_simp
              exact hK _ hJ
            refine Vals9.Steps.mark rfl ?_ ?_
            · intro a W σ hJ hn pre K hK
              have e70 := pre.1 4 70 _ (by kernel_rfl) rfl rfl
              simp only [Array.getD_eq_getD_getElem?, List.getElem?_toArray, List.getElem?_cons_zero, List.getElem?_cons_succ, Option.getD_some] at e70
              have hJ2 : Ap w (gt + 1) gt [(w.heap.size, 24, hV h ⟨some ad, mc⟩), (w.heap.size + 1, 32, #[.slice none 0 0, .slice none 0 0]), (gp, 51, pV p)] vg vl gs ls p.w1 p.l0 (σ 1) (σ 5) (σ 6) (σ 15) (σ 8) (σ 12) (σ 13) (σ 17) W := hJ
              rw [hn] at hJ2
              go_simp
              exact hK _ _ hJ2.litG
            refine Vals9.Steps.mark rfl ?_ ?_
            · intro a W σ hJ hn pre K hK
              obtain ⟨v67, s67, e67⟩ := pre.2.1 1 (by kernel_rfl) rfl
              replace e67 : a.tmps.getD 67 undef = v67 := e67 67 rfl
              obtain ⟨v71, s71, e71⟩ := pre.2.1 5 (by kernel_rfl) rfl
              replace e71 : a.tmps.getD 71 undef = v71 := e71 71 rfl
              simp only [Array.getD_eq_getD_getElem?, List.getElem?_toArray, List.getElem?_cons_zero, List.getElem?_cons_succ, Option.getD_some] at e67 e71
              have hJ2 : Ap w (gt + 1) gt [(w.heap.size, 24, hV h ⟨some ad, mc⟩), (w.heap.size + 1, 32, #[.slice none 0 0, .slice none 0 0]), (gp, 51, pV p)] vg vl gs ls p.w1 p.l0 (σ 1) (σ 5) (σ 6) (σ 15) (σ 8) (σ 12) (σ 13) (σ 17) W := hJ
              rw [hn, s67, s71] at hJ2
              obtain ⟨A, c, w', hr, h2⟩ := hJ2.doG 30
              rw [← s67, ← s71] at h2
              have hfin := hK _ _ h2
              clear hK h2 hJ2 hJ
              have hx : a.eval (.tmp 67) = v67 := by go_simp
              have hy : a.eval (.tmp 71) = v71 := by go_simp
              unfold Oper.wp execOp
              simp only [resolve, invoke, builtin, Sem.run_bind, Sem.run_pure, Result.andThen_ok, List.map_toArray, List.map_cons, List.map_nil, hx, hy, hr]
              exact hfin
            refine Vals9.Steps.run rfl ?_ ?_
            · intro a W σ hJ pre K hK
              have e5 := pre.2.2 5 _ (by kernel_rfl) rfl
              clear pre
              simp only [Array.getD_eq_getD_getElem?, List.getElem?_toArray, List.getElem?_cons_zero, List.getElem?_cons_succ, Option.getD_some] at e5
              go_simp
              exact hK _ hJ
            refine Vals9.Steps.mark rfl ?_ ?_
            · intro a W σ hJ hn pre K hK
              have e73 := pre.1 7 73 _ (by kernel_rfl) rfl rfl
              simp only [Array.getD_eq_getD_getElem?, List.getElem?_toArray, List.getElem?_cons_zero, List.getElem?_cons_succ, Option.getD_some] at e73
              have hJ2 : Ap w (gt + 1) gt [(w.heap.size, 24, hV h ⟨some ad, mc⟩), (w.heap.size + 1, 32, #[.slice none 0 0, .slice none 0 0]), (gp, 51, pV p)] vg vl gs ls p.w1 p.l0 (σ 1) (σ 5) (σ 6) (σ 15) (σ 8) (σ 12) (σ 13) (σ 17) W := hJ
              rw [hn] at hJ2
              obtain ⟨b0, b1⟩ := hJ2.loadL
              go_simp
              exact hK _ _ b1
            refine Vals9.Steps.run rfl ?_ ?_
            · intro a W σ hJ pre K hK
              have e7 := pre.2.2 7 _ (by kernel_rfl) rfl
              clear pre
              simp only [Array.getD_eq_getD_getElem?, List.getElem?_toArray, List.getElem?_cons_zero, List.getElem?_cons_succ, Option.getD_some] at e7
              go_simp
              exact hK _ hJ
            refine Vals9.Steps.run rfl ?_ ?_
            · intro a W σ hJ pre K hK
              have e75 := pre.1 9 75 _ (by kernel_rfl) rfl rfl
              clear pre
              simp only [Array.getD_eq_getD_getElem?, List.getElem?_toArray, List.getElem?_cons_zero, List.getElem?_cons_succ, Option.getD_some] at e75
              go_simp
              exact hK _ hJ
            refine Vals9.Steps.run rfl ?_ ?_
            · intro a W σ hJ pre K hK
              have e76 := pre.1 10 76 _ (by kernel_rfl) rfl rfl
              clear pre
              simp only [Array.getD_eq_getD_getElem?, List.getElem?_toArray, List.getElem?_cons_zero, List.getElem?_cons_succ, Option.getD_some] at e76
              have hJ2 : Ap w (gt + 1) gt [(w.heap.size, 24, hV h ⟨some ad, mc⟩), (w.heap.size + 1, 32, #[.slice none 0 0, .slice none 0 0]), (gp, 51, pV p)] vg vl gs ls p.w1 p.l0 (σ 1) (σ 5) (σ 6) (σ 15) (σ 8) (σ 12) (σ 13) (σ 17) W := hJ
              obtain ⟨p0, p1, p2, p3, p4, p5, p6⟩ := (show Blk W gp 51 (pV p) from hJ2.blk (b := (gp, 51, pV p)) (by simp)).part
              go_simp
              exact hK _ hJ
            refine Vals9.Steps.mark rfl ?_ ?_
            · intro a W σ hJ hn pre K hK
              have e77 := pre.1 11 77 _ (by kernel_rfl) rfl rfl
              simp only [Array.getD_eq_getD_getElem?, List.getElem?_toArray, List.getElem?_cons_zero, List.getElem?_cons_succ, Option.getD_some] at e77
              have hJ2 : Ap w (gt + 1) gt [(w.heap.size, 24, hV h ⟨some ad, mc⟩), (w.heap.size + 1, 32, #[.slice none 0 0, .slice none 0 0]), (gp, 51, pV p)] vg vl gs ls p.w1 p.l0 (σ 1) (σ 5) (σ 6) (σ 15) (σ 8) (σ 12) (σ 13) (σ 17) W := hJ
              rw [hn] at hJ2
              go_simp
              exact hK _ _ hJ2.litL
            refine Vals9.Steps.mark rfl ?_ ?_
            · intro a W σ hJ hn pre K hK
              obtain ⟨v74, s74, e74⟩ := pre.2.1 8 (by kernel_rfl) rfl
              replace e74 : a.tmps.getD 74 undef = v74 := e74 74 rfl
              obtain ⟨v78, s78, e78⟩ := pre.2.1 12 (by kernel_rfl) rfl
              replace e78 : a.tmps.getD 78 undef = v78 := e78 78 rfl
              simp only [Array.getD_eq_getD_getElem?, List.getElem?_toArray, List.getElem?_cons_zero, List.getElem?_cons_succ, Option.getD_some] at e74 e78
              have hJ2 : Ap w (gt + 1) gt [(w.heap.size, 24, hV h ⟨some ad, mc⟩), (w.heap.size + 1, 32, #[.slice none 0 0, .slice none 0 0]), (gp, 51, pV p)] vg vl gs ls p.w1 p.l0 (σ 1) (σ 5) (σ 6) (σ 15) (σ 8) (σ 12) (σ 13) (σ 17) W := hJ
              rw [hn, s74, s78] at hJ2
              obtain ⟨A, c, w', hr, h2⟩ := hJ2.doL 30
              rw [← s74, ← s78] at h2
              have hfin := hK _ _ h2
              clear hK h2 hJ2 hJ
              have hx : a.eval (.tmp 74) = v74 := by go_simp
              have hy : a.eval (.tmp 78) = v78 := by go_simp
              unfold Oper.wp execOp
              simp only [resolve, invoke, builtin, Sem.run_bind, Sem.run_pure, Result.andThen_ok, List.map_toArray, List.map_cons, List.map_nil, hx, hy, hr]
              exact hfin
            refine Vals9.Steps.run rfl ?_ ?_
            · intro a W σ hJ pre K hK
              have e5 := pre.2.2 5 _ (by kernel_rfl) rfl
              clear pre
              simp only [Array.getD_eq_getD_getElem?, List.getElem?_toArray, List.getElem?_cons_zero, List.getElem?_cons_succ, Option.getD_some] at e5
              go_simp
              exact hK _ hJ
            refine Vals9.Steps.mark rfl ?_ ?_
            · intro a W σ hJ hn pre K hK
              obtain ⟨v72, s72, e72⟩ := pre.2.1 6 (by kernel_rfl) rfl
              replace e72 : a.tmps.getD 72 undef = v72 := e72 72 rfl
              have e80 := pre.1 14 80 _ (by kernel_rfl) rfl rfl
              simp only [Array.getD_eq_getD_getElem?, List.getElem?_toArray, List.getElem?_cons_zero, List.getElem?_cons_succ, Option.getD_some] at e72 e80
              have hJ2 : Ap w (gt + 1) gt [(w.heap.size, 24, hV h ⟨some ad, mc⟩), (w.heap.size + 1, 32, #[.slice none 0 0, .slice none 0 0]), (gp, 51, pV p)] vg vl gs ls p.w1 p.l0 (σ 1) (σ 5) (σ 6) (σ 15) (σ 8) (σ 12) (σ 13) (σ 17) W := hJ
              rw [hn, s72] at hJ2
              obtain ⟨⟨A, c, hv⟩, ⟨b0, hb0⟩, f0, h2⟩ := hJ2.putG undef
              rw [← s72] at h2
              have hfin := hK undef _ h2
              clear hK h2 hJ2 hJ s72
              subst hv
              obtain ⟨n, hN⟩ : ∃ n, (gs ++ [p.w1]).length = n := ⟨_, rfl⟩
              rw [hN] at hfin e72
              clear hN
              go_simp
              exact hfin
            refine Vals9.Steps.run rfl ?_ ?_
            · intro a W σ hJ pre K hK
              have e5 := pre.2.2 5 _ (by kernel_rfl) rfl
              clear pre
              simp only [Array.getD_eq_getD_getElem?, List.getElem?_toArray, List.getElem?_cons_zero, List.getElem?_cons_succ, Option.getD_some] at e5
              go_simp
              exact hK _ hJ
            refine Vals9.Steps.mark rfl ?_ ?_
            · intro a W σ hJ hn pre K hK
              obtain ⟨v79, s79, e79⟩ := pre.2.1 13 (by kernel_rfl) rfl
              replace e79 : a.tmps.getD 79 undef = v79 := e79 79 rfl
              have e81 := pre.1 16 81 _ (by kernel_rfl) rfl rfl
              simp only [Array.getD_eq_getD_getElem?, List.getElem?_toArray, List.getElem?_cons_zero, List.getElem?_cons_succ, Option.getD_some] at e79 e81
              have hJ2 : Ap w (gt + 1) gt [(w.heap.size, 24, hV h ⟨some ad, mc⟩), (w.heap.size + 1, 32, #[.slice none 0 0, .slice none 0 0]), (gp, 51, pV p)] vg vl gs ls p.w1 p.l0 (σ 1) (σ 5) (σ 6) (σ 15) (σ 8) (σ 12) (σ 13) (σ 17) W := hJ
              rw [hn, s79] at hJ2
              obtain ⟨⟨A, c, hv⟩, ⟨b0, hb0⟩, f0, h2⟩ := hJ2.putL undef
              rw [← s79] at h2
              have hfin := hK undef _ h2
              clear hK h2 hJ2 hJ s79
              subst hv
              obtain ⟨n, hN⟩ : ∃ n, (ls ++ [p.l0]).length = n := ⟨_, rfl⟩
              rw [hN] at hfin e79
              clear hN
              go_simp
              exact hfin
            exact Vals9.Steps.nil
          case hfin =>
            rintro X σ hJ
            simp only [Vals9.All]
            rintro v1 s1 v5 s5 v6 s6 v8 s8 v12 s12 v13 s13 v15 s15 v17 s17
            simp only [Vals.putAll, List.setIfInBounds_toArray, List.set_cons_zero, List.set_cons_succ]
            have hJ2 : Ap w (gt + 1) gt [(w.heap.size, 24, hV h ⟨some ad, mc⟩), (w.heap.size + 1, 32, #[.slice none 0 0, .slice none 0 0]), (gp, 51, pV p)] vg vl gs ls p.w1 p.l0 (σ 1) (σ 5) (σ 6) (σ 15) (σ 8) (σ 12) (σ 13) (σ 17) X := hJ
            rw [s15, s17] at hJ2
            obtain ⟨A, c, A2, c2, hT2, hL⟩ := hJ2.done
            have hB2 : Bq w.heap.size (w.heap.size + 1) (hV h ⟨some ad, mc⟩) X := ⟨hL (w.heap.size, 24, hV h ⟨some ad, mc⟩) (by simp), hL (w.heap.size + 1, 32, #[.slice none 0 0, .slice none 0 0]) (by simp)⟩
            have HT := Lib.hid hT2
            have HB := Lib.hid hB2
            clear hT2 hB2 hL hJ2 hJ HS s1 s5 s6 s8 s12 s13 s15 s17
            go_wp2_with fail
            go_roundw
            case rel => exact ⟨k + 1, _, _, by omega, by go_num, (by show Tw _ _ _ _ _ _ _ _; rw [XG.out, XL.out]; exact HT.out), HB⟩
            case measure => simp [intOf]; omega
        )
    · obtain rfl : k = h.parts.length := by omega
      have HTE : Hid (Tw w (gt + 1) gt vg vl (shG h (shK y)) (shL h (shK y)) wr) := by
        have := HT.out
        rwa [show (shG h (shK y)).take h.parts.length = shG h (shK y) from List.take_of_length_le (by simp [shG]), show (shL h (shK y)).take h.parts.length = shL h (shK y) from List.take_of_length_le (by simp [shL])] at this
      clear HT
      have hog := HTE.out.og
      have hol := HTE.out.ol
      obtain ⟨GA, gc, rfl, hG, hgc, hgb⟩ := own_int hog
      obtain ⟨LA, lc, rfl, hL, hlc, hlb⟩ := own_int hol
      have HTB := Lib.hid HTE.out.tb
      have HOG := Lib.hid (own_row hog (w.heap.size + 1) (tV GA (shG h (shK y)).length gc LA (shL h (shK y)).length lc) (fun q e => by have := (hog.lt q e).1; have := HGT.out; omega))
      have HOL := Lib.hid (own_row hol (w.heap.size + 1) (tV GA (shG h (shK y)).length gc LA (shL h (shK y)).length lc) (fun q e => by have := (hol.lt q e).1; have := HGT.out; omega))
      have HGC := Lib.hid hgc
      have HLC := Lib.hid hlc
      have HGB := Lib.hid hgb
      have HLB := Lib.hid hlb
      obtain ⟨gs, hgs⟩ : ∃ gs, shG h (shK y) = gs := ⟨_, rfl⟩
      obtain ⟨ls, hls⟩ : ∃ ls, shL h (shK y) = ls := ⟨_, rfl⟩
      rw [hgs] at HTE HTB HOG HOL HGC
      rw [hls] at HTE HTB HOG HOL HLC
      clear hG hL hgc hlc hog hol hgb hlb
      obtain ⟨c0, c1, c2⟩ := HB.out.hb.hull
      have hno : ¬ ((h.parts.length : Int) < (h.parts.length : Int)) := by omega
      go_wp2_with (first | (refine wpList_load_row rfl 32 _ rfl (gt) rfl 32 (tV GA gs.length gc LA ls.length lc) (0, 0) _ HTB.out Tryz.underlying32 rfl (by kernel_rfl) ?_) | (refine wpList_store_row rfl 32 _ _ rfl (w.heap.size + 1) _ rfl rfl 32 _ HB.out.rb (by kernel_rfl) rfl (by simp [Value.oneCell']) ?_))
      obtain ⟨GA', gc', e1, hG, -⟩ := own_int HOG.out
      obtain ⟨LA', lc', e2, hL, -⟩ := own_int HOL.out
      cases e1
      cases e2
      (refine bodyPost_ret (v := .agg _) ?_ rfl ⟨⟨_, rfl, _, _, _, _, rfl, hG, hL, ⟨HGC.out, HLC.out⟩, fun a e => by have := HGB.out a e; have := HGT.out; omega, fun a e => by have := HLB.out a e; have := HGT.out; omega⟩, ?_⟩)
      · exact (results_cell_row Tryz.results27 _ _ (w.heap.size + 1) 32 _ (0, 0) _ rfl (HB.out.rb.row _) Tryz.underlying32 rfl (by kernel_rfl))
      · exact (HTE.out.sn.row (by omega) _).1
end Td
end Go.Proofs.YthdcklonamgpiaaGreat
