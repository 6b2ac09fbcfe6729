import Derived.Test.YthdcklonamgpiaaGreatRsm
import Derived.Test.YthdcklonamgpiaaGreatBlt
/- The reference's first height of water at which a hull falls; a hull of which a part is heavier. -/
namespace Go.Proofs.YthdcklonamgpiaaGreat
open Go.RowKit
namespace Td
set_option linter.unusedSimpArgs false
set_option linter.unusedVariables false
attribute [local go_sem] Oper.semAt_some
/-- the error of a tide, if there is none ahead of it. -/
def tidE (e lo hi : Int) : Int := if e = 0 then tideE lo hi else e
theorem tideE_spr (lo hi : Int) : tideE lo hi = spr 0 1000 [(lo, hi)] := by
  unfold tideE spr
  simp only [sw, tn, List.all_cons, List.all_nil, List.any_cons, List.any_nil, Bool.and_true, Bool.or_false, decide_eq_true_eq]
set_option maxRecDepth 100000 in
theorem tided_c (e0 lo hi : Int) (w : World) : Calls Tryz.prog 20 #[.int .i64 e0, .agg #[.int .i64 lo, .int .i64 hi]] w fun e w' => e = .returned (.int .i64 (tidE e0 lo hi)) ∧ Below w.heap.size w w' := by
  have hs := (Since.refl w).alloc (.cells #[.int .i64 lo, .int .i64 hi] 26)
  unfold tidE
  go_enter Tryz.func20, Tryz.ntmps20
  by_cases he : e0 = 0
  · subst he
    rw [if_pos rfl, tideE_spr]
    go_wp2_with fail
    refine (range_c (lo, hi) 0 1000 _).mono ?_
    rintro e w' ⟨rfl, hb⟩
    replace hs := hs.keep hb
    go_wp2_with fail
    go_ret
    exact ⟨rfl, hs.1⟩
  · have hb : (e0 == 0) = false := by simpa using he
    rw [if_neg he]
    go_wp2_with fail
    go_ret
    exact ⟨rfl, hs.1⟩
set_option maxRecDepth 100000 in
set_option maxHeartbeats 4000000 in
theorem rfirst_c (h : Hul) (m : Sl) (lo hi : Int) (w : World) (hh : HBk h) (hp : HAt w m h) (h0 : 0 ≤ lo) (h01 : lo ≤ hi) (h1 : hi ≤ 1000) :
    Calls Tryz.prog 21 #[.agg (hV h m), .agg #[.int .i64 lo, .int .i64 hi]] w fun e w' => e = .returned (.tuple #[.int .i64 (fall h lo hi).2, .int .i64 (fall h lo hi).1]) ∧ Below w.heap.size w w' := by
  obtain ⟨F, hF⟩ : ∃ F, fall h lo hi = F := ⟨_, rfl⟩
  rw [hF]
  have HF := Lib.hid hF
  clear hF
  have hs := ((Since.refl w).alloc (.cells (hV h m) 24)).alloc (.cells #[.int .i64 lo, .int .i64 hi] 26)
  have HB := Lib.hid ((Blk.new w 24 (hV h m)).alloc (.cells #[.int .i64 lo, .int .i64 hi] 26))
  have HX := Lib.hid (Blk.new1 w (.cells (hV h m) 24) 26 #[.int .i64 lo, .int .i64 hi])
  go_enter Tryz.func21, Tryz.ntmps21
  go_wp2_with fail
  go_loopw [6] (fun i wr => ∃ v : Int, lo ≤ v ∧ v ≤ hi + 1 ∧ i = .int .i64 v ∧ Hid (Since w wr) ∧ Hid (Blk wr w.heap.size 24 (hV h m)) ∧ Hid (Blk wr (w.heap.size + 1) 26 #[.int .i64 lo, .int .i64 hi]) ∧ Hid (∀ u, lo ≤ u → u < v → whyH h u = 0)) (fun i _ => (hi + 1 - intOf i).toNat)
  case atStart => exact ⟨lo, by omega, by omega, rfl, hs, HB, HX, fun u a b => absurd b (by omega)⟩
  case round =>
    clear hs HB HX
    obtain ⟨v, hv0, hv1, rfl, hs, HB, HX, H0⟩ := hrel
    obtain ⟨c0, c1, c2⟩ := HB.out.hull
    have x0 := HX.out.cell 0
    have x1 := HX.out.cell 1
    simp only [List.getElem?_toArray, List.getElem?_cons_zero, List.getElem?_cons_succ] at x0 x1
    by_cases hlt : v ≤ hi
    · go_wp2_with fail
      refine (rsmallest_c h m v _ hh (hp.keep hs.out.1) (by omega) (by omega)).mono ?_
      rintro e w2 ⟨rfl, hb⟩
      replace hs : Hid (Since w w2) := hs.out.keep hb
      replace HB := Lib.hid (HB.out.keep hb)
      replace HX := Lib.hid (HX.out.keep hb)
      clear hb c0 c1 c2 x0 x1
      go_wp2_with fail
      refine (reason_c _ _ _ _).mono ?_
      rintro e w3 ⟨rfl, hb⟩
      replace hs : Hid (Since w w3) := hs.out.keep hb
      replace HB := Lib.hid (HB.out.keep hb)
      replace HX := Lib.hid (HX.out.keep hb)
      clear hb
      obtain ⟨y, hy⟩ : ∃ y, whyB (lst h 0 v) (lst h 1 v) (lst h 2 v) = y := ⟨_, rfl⟩
      rw [hy]
      have HY : Hid (whyH h v = y) := hy
      clear hy
      by_cases hy0 : y = 0
      · subst hy0
        have e1 : IntKind.i64.wrap (v + 1) = v + 1 := IntWalk.i64_in _ (by omega)
        go_wp2_with fail
        go_roundw
        case rel =>
          refine ⟨v + 1, by omega, by omega, rfl, hs, HB, HX, fun u a b => ?_⟩
          rcases Int.lt_or_le u v with q | q
          · exact H0.out u a q
          · obtain rfl : u = v := by omega
            exact HY.out
        case measure => simp [intOf]; omega
      · have HV : Hid (F = (v, y)) := by
          show _ = _
          rw [← HF.out, fall_at hv0 hlt H0.out (by rw [HY.out]; exact hy0), HY.out]
        have hyn : (y != 0) = true := by simpa using hy0
        clear hy0
        go_wp2_with fail
        go_ret2
        exact ⟨by rw [HV.out]; rfl, hs.out.1⟩
    · have HV : Hid (F = (0, 0)) := by
        show _ = _
        rw [← HF.out, fall_none (fun u a b => H0.out u a (by omega))]
      go_wp2_with fail
      go_ret2
      exact ⟨by rw [HV.out]; rfl, hs.out.1⟩
abbrev sV2 (a b : Int) : Array Value := #[.int .i64 a, .int .i64 b]
set_option maxRecDepth 100000 in
set_option maxHeartbeats 8000000 in
theorem rheavier_c (h : Hul) (m : Sl) (p : Nat) (n : Int) (w : World) (hh : HOk h) (hp : HAt w m h) (hlt : p < h.parts.length) (h0 : 0 ≤ n) (h1 : n ≤ 2000000) :
    Calls Tryz.prog 16 #[.agg (hV h m), .int .i64 (p : Int), .int .i64 n] w fun e w' => (∃ m', e = .returned (.agg (hV (ldH h p n) m')) ∧ HAt w' m' (ldH h p n)) ∧ Below w.heap.size w w' := by
  have hn10 := hh.n10
  obtain ⟨ad, hA, -⟩ := hp.ps.get hlt
  have hpc := hp.pc
  have hcM := hp.cM
  have hnm := hp.nm
  obtain ⟨mA, mc⟩ := m
  replace hA : mA = some ad := hA
  subst hA
  have HPS : Hid (PtAt w (some ad) h.parts) := hp.ps
  clear hp
  have hs0 := (((Since.refl w).alloc (.cells (hV h ⟨some ad, mc⟩) 24)).alloc (.cells w0V 24)).alloc (.cells #[] 51)
  have HW := Lib.hid (((Blk.new w 24 (hV h ⟨some ad, mc⟩)).alloc (.cells w0V 24)).alloc (.cells #[] 51))
  have HR := Lib.hid ((Blk.new1 w (.cells (hV h ⟨some ad, mc⟩) 24) 24 w0V).alloc (.cells #[] 51))
  have HO : Hid ((((w.alloc (.cells (hV h ⟨some ad, mc⟩) 24)).alloc (.cells w0V 24)).alloc (.cells #[] 51)).ownsRow (w.heap.size + 1 + 1) 51 7 (.slice (some ⟨w.heap.size + 1 + 1, 0, none⟩) 0 0) 0 []) := ⟨rfl, .inr ⟨w.heap.size + 1 + 1, 0, #[], rfl, Nat.le_refl _, Blk.new2 _ _ _ _ _, Nat.le_refl _, by simp [maxLen], rfl, rfl⟩⟩
  have HP := Lib.hid (HPS.out.keep hs0.1)
  have HL : Hid (h.parts.length ≤ 1000) := by show _ ≤ _; omega
  have hx := hh.ps _ (List.getElem_mem hlt)
  obtain ⟨c0, c1, c2⟩ := HW.out.hull
  go_enter Tryz.func16, Tryz.ntmps16
  go_wp2_with (at_builtin; refine wpList_append_parts rfl (.tmp 8) (.tmp 10) rfl (w.heap.size + 1 + 1) mc _ ad h.parts (by go_simp) (by go_simp) HO.out HP.out HL.out (by simp) ?_)
  intro v' w1 ho hg
  have hlt0 := HO.out.lt
  have hs1 : Since w w1 := ⟨hs0.1.grown hg hs0.2 (fun q e => by have := (hlt0 q e).1; omega), Nat.le_trans hs0.2 hg.size⟩
  have HW1 := Lib.hid (HW.out.grown hg (fun e => by have := (hlt0 _ e.symm).1; omega))
  have HR1 := Lib.hid (HR.out.grown hg (fun e => by have := (hlt0 _ e.symm).1; omega))
  rcases ho.2 with ⟨rfl, hn⟩ | ⟨g, cap, cur, rfl, hgB, hgc, q1, q2, q3, q4⟩
  · omega
  have hC : PtC cur h.parts := fun i cc p hp hc => by
    have hi : i < h.parts.length := (List.getElem?_eq_some_iff.1 hp).1
    have := flat_get h.parts i cc p hp hc
    rw [← q4, List.getElem?_take, if_pos (by omega)] at this
    simpa using this
  have hB : Blk w1 g 51 cur := hgc
  have hcap : h.parts.length ≤ cap ∧ cap ≤ 9223372036854775807 := ⟨q1, by simp only [maxLen] at q2; omega⟩
  clear ho hg hlt0 hgc q1 q2 q3 q4 c0 c1 c2 HW HR HO HP hs0
  have k0 := HW1.out.cell 0
  have f0 := HW1.out.frozen 0
  simp only [List.getElem?_toArray, List.getElem?_cons_zero] at k0
  have HW2 : Hid (Blk (w1.setCell ⟨w.heap.size, 0, none⟩ (.slice (some ⟨g, 0, none⟩) h.parts.length cap)) w.heap.size 24 #[.slice (some ⟨g, 0, none⟩) h.parts.length cap, .int .i64 h.aft, .int .i64 h.fore]) := HW1.out.set 0 _
  have hB2 : Blk (w1.setCell ⟨w.heap.size, 0, none⟩ (.slice (some ⟨g, 0, none⟩) h.parts.length cap)) g 51 cur := hB.far (by omega) _ _
  have HR2 := Lib.hid (HR1.out.far (g' := w.heap.size) (by omega) 0 (.slice (some ⟨g, 0, none⟩) h.parts.length cap))
  have hs2 := hs1.set (g := w.heap.size) (Nat.le_refl _) 0 (.slice (some ⟨g, 0, none⟩) h.parts.length cap)
  obtain ⟨W2, hW2⟩ : ∃ W2, w1.setCell ⟨w.heap.size, 0, none⟩ (.slice (some ⟨g, 0, none⟩) h.parts.length cap) = W2 := ⟨_, rfl⟩
  have HWE := Lib.hid hW2
  rw [hW2] at HW2 hB2 HR2 hs2
  clear hW2
  have b0 := HW2.out.cell 0
  simp only [List.getElem?_toArray, List.getElem?_cons_zero] at b0
  have z2 := (hB2.cell (p * 7 + 2)).trans (hC p 2 _ (List.getElem?_eq_getElem hlt) (by omega))
  have z3 := (hB2.cell (p * 7 + 3)).trans (hC p 3 _ (List.getElem?_eq_getElem hlt) (by omega))
  simp only [List.getElem?_toArray, List.getElem?_cons_zero, List.getElem?_cons_succ] at z2 z3
  have hpi : (p : Int) < (h.parts.length : Int) := by omega
  have HW3 := Lib.hid (HW2.out.alloc (.cells (sV2 h.parts[p].w0 h.parts[p].w1) 26))
  have HR3 := Lib.hid (HR2.out.alloc (.cells (sV2 h.parts[p].w0 h.parts[p].w1) 26))
  have hB3 := hB2.alloc (.cells (sV2 h.parts[p].w0 h.parts[p].w1) 26)
  have hs3 := hs2.alloc (.cells (sV2 h.parts[p].w0 h.parts[p].w1) 26)
  have HV3 := Lib.hid (Blk.new W2 26 (sV2 h.parts[p].w0 h.parts[p].w1))
  have hgl : g < W2.heap.size := hB2.lt
  have hwl : w.heap.size + 1 < W2.heap.size := HR2.out.lt
  have b1 := HW3.out.cell 0
  have s0 := HV3.out.cell 0
  have s1 := HV3.out.cell 1
  simp only [List.getElem?_toArray, List.getElem?_cons_zero, List.getElem?_cons_succ] at b1 s0 s1
  have z4 := (hB3.cell (p * 7 + 2)).trans (hC p 2 _ (List.getElem?_eq_getElem hlt) (by omega))
  have z5 := (hB3.cell (p * 7 + 3)).trans (hC p 3 _ (List.getElem?_eq_getElem hlt) (by omega))
  simp only [List.getElem?_toArray, List.getElem?_cons_zero, List.getElem?_cons_succ] at z4 z5
  have q4 := hB3.frozen (p * 7 + 2)
  have q5 := hB3.frozen (p * 7 + 3)
  have e1 : IntKind.i64.wrap (h.parts[p].w0 + n) = h.parts[p].w0 + n := IntWalk.i64_in _ (by have := hx.w0; have := hx.w01; have := hx.w1; omega)
  have e2 : IntKind.i64.wrap (h.parts[p].w1 + n) = h.parts[p].w1 + n := IntWalk.i64_in _ (by have := hx.w0; have := hx.w01; have := hx.w1; omega)
  have hC4 := hC.set2 hlt (h.parts[p].w0 + n)
  have hB4 := hB2.set (p * 7 + 2) (.int .i64 (h.parts[p].w0 + n))
  have q6 := (hB4.alloc (.cells (sV2 h.parts[p].w0 h.parts[p].w1) 26)).frozen (p * 7 + 2 + 1)
  have q7 := hB4.frozen (p * 7 + 2 + 1)
  have hlt3 : p < (h.parts.set p { pa h.parts p with w0 := h.parts[p].w0 + n }).length := by simpa using hlt
  have hC5 := hC4.set3 hlt3 (h.parts[p].w1 + n)
  have hB5 := (hB4.set (p * 7 + 2 + 1) (.int .i64 (h.parts[p].w1 + n))).alloc (.cells (sV2 h.parts[p].w0 h.parts[p].w1) 26)
  have hl5 : (h.parts.set p { pa h.parts p with w0 := h.parts[p].w0 + n }).set p { pa (h.parts.set p { pa h.parts p with w0 := h.parts[p].w0 + n }) p with w1 := h.parts[p].w1 + n } = (ldH h p n).parts := by
    rw [List.set_set, pa_set _ hlt, if_pos rfl, pa_at hlt]
    unfold ldH ldP
    rw [pa_at hlt]
  rw [hl5] at hC5
  have HC5 := Lib.hid hC5
  have HB5 := Lib.hid hB5
  have HW5 := Lib.hid (((HW2.out.far (g' := g) (by omega) (p * 7 + 2) (.int .i64 (h.parts[p].w0 + n))).far (g' := g) (by omega) (p * 7 + 2 + 1) (.int .i64 (h.parts[p].w1 + n))).alloc (.cells (sV2 h.parts[p].w0 h.parts[p].w1) 26))
  have HR5 := Lib.hid (((HR2.out.far (g' := g) (by omega) (p * 7 + 2) (.int .i64 (h.parts[p].w0 + n))).far (g' := g) (by omega) (p * 7 + 2 + 1) (.int .i64 (h.parts[p].w1 + n))).alloc (.cells (sV2 h.parts[p].w0 h.parts[p].w1) 26))
  have HS5 := Lib.hid (((hs2.set (g := g) (by omega) (p * 7 + 2) (.int .i64 (h.parts[p].w0 + n))).set (g := g) (by omega) (p * 7 + 2 + 1) (.int .i64 (h.parts[p].w1 + n))).alloc (.cells (sV2 h.parts[p].w0 h.parts[p].w1) 26))
  clear hC4 hB4 hlt3 hC5 hB5 hl5
  have HV : Hid (hV (ldH h p n) ⟨some ⟨g, 0, none⟩, cap⟩ = #[.slice (some ⟨g, 0, none⟩) h.parts.length cap, .int .i64 h.aft, .int .i64 h.fore]) := by
    show (#[.slice (some ⟨g, 0, none⟩) (ldH h p n).parts.length cap, .int .i64 h.aft, .int .i64 h.fore] : Array Value) = _
    rw [ldH_len]
  have HNM : Hid (∀ x ∈ (ldH h p n).parts, x.name.size ≤ maxLen) := fun x hx => by
    unfold ldH at hx
    dsimp only at hx
    rcases List.mem_or_eq_of_mem_set hx with h2 | h2
    · exact hnm x h2
    · subst h2
      rw [pa_at hlt]
      show h.parts[p].name.size ≤ maxLen
      exact hnm _ (List.getElem_mem hlt)
  go_wp2_with (first | rw [HWE.out] | (refine wpList_load_row rfl 24 _ rfl (w.heap.size) rfl 24 (#[.slice (some ⟨g, 0, none⟩) h.parts.length cap, .int .i64 h.aft, .int .i64 h.fore]) (0, 0) _ HW5.out Tryz.underlying24 rfl (by kernel_rfl) ?_) | (refine wpList_store_row rfl 24 _ _ rfl (w.heap.size + 1) _ rfl rfl 24 _ HR5.out (by kernel_rfl) rfl (by simp [Value.oneCell']) ?_))
  (refine bodyPost_ret (v := .agg _) ?_ rfl ⟨⟨⟨some ⟨g, 0, none⟩, cap⟩, by rw [HV.out], ⟨PtC.at (HB5.out.rowFar (by omega) _) HC5.out, by rw [ldH_len]; exact hcap.1, hcap.2, HNM.out⟩⟩, ?_⟩)
  · exact (results_cell_row Tryz.results16 _ _ (w.heap.size + 1) 24 _ (0, 0) _ rfl (HR5.out.row _) Tryz.underlying24 rfl (by kernel_rfl))
  · exact (HS5.out.row (by omega) _).1
end Td
end Go.Proofs.YthdcklonamgpiaaGreat
