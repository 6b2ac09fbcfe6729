import Derived.Test.YthdcklonamgpiaaLod
/- A hull with ballast, and whether it surely stands. -/
namespace Go.Proofs.Ythdcklonamgpiaa
open Go.RowKit
namespace Td
set_option linter.unusedSimpArgs false
set_option linter.unusedVariables false
attribute [local go_sem] Oper.semAt_some
theorem ldH_len (h : Hul) (p : Nat) (n : Int) : (ldH h p n).parts.length = h.parts.length := by simp [ldH]
set_option maxRecDepth 100000 in
set_option maxHeartbeats 4000000 in
theorem loaded_c (h : Hul) (m : Sl) (p : Nat) (n : Int) (w : World) (hh : HOk h) (hp : HAt w m h) (hlt : p < h.parts.length) (h0 : 0 ≤ n) (h1 : n ≤ 2000000) :
    Calls Try.prog 66 #[.agg (hV h m), .int .i64 (p : Int), .int .i64 n] w fun e w' => (∃ m', e = .returned (.agg (hV (ldH h p n) m')) ∧ HAt w' m' (ldH h p n)) ∧ Below w.heap.size w w' := by
  have hn10 := hh.n10
  have hs0 := ((Since.refl w).alloc (.cells (hV h m) 92)).alloc (.cells w0V 92)
  have HW := Lib.hid ((Blk.new w 92 (hV h m)).alloc (.cells w0V 92))
  have HR := Lib.hid (Blk.new1 w (.cells (hV h m) 92) 92 w0V)
  have hx := hh.ps _ (List.getElem_mem hlt)
  obtain ⟨c0, c1, c2⟩ := HW.out.hull
  go_enter Try.func66, Try.ntmps66
  go_wp2_with fail
  refine (clone_c m.A h.parts m.c _ (by omega) (by omega) (hp.ps.keep hs0.1)).mono ?_
  rintro e w1 ⟨⟨g, cap, cur, rfl, hg, hB, hC, hcap⟩, hb1⟩
  have hs1 := hs0.keep hb1
  have HW1 := Lib.hid (HW.out.keep hb1)
  have HR1 := Lib.hid (HR.out.keep hb1)
  have hg2 : w.heap.size + 1 < g := by simp at hg; omega
  clear c0 c1 c2 HW HR hg hs0
  have k0 := HW1.out.cell 0
  have f0 := HW1.out.frozen 0
  simp only [List.getElem?_toArray, List.getElem?_cons_zero] at k0
  -- the box with the new parts
  have HW2 : Hid (Blk (w1.setCell ⟨w.heap.size, 0, none⟩ (.slice (some ⟨g, 0, none⟩) h.parts.length cap)) w.heap.size 92 #[.slice (some ⟨g, 0, none⟩) h.parts.length cap, .int .i64 h.aft, .int .i64 h.fore]) := HW1.out.set 0 _
  have hB2 : Blk (w1.setCell ⟨w.heap.size, 0, none⟩ (.slice (some ⟨g, 0, none⟩) h.parts.length cap)) g 74 cur := hB.far (by omega) _ _
  have HR2 := Lib.hid (HR1.out.far (g' := w.heap.size) (by omega) 0 (.slice (some ⟨g, 0, none⟩) h.parts.length cap))
  have hs2 := hs1.set (g := w.heap.size) (Nat.le_refl _) 0 (.slice (some ⟨g, 0, none⟩) h.parts.length cap)
  have b0 := HW2.out.cell 0
  simp only [List.getElem?_toArray, List.getElem?_cons_zero] at b0
  have z2 := (hB2.cell (p * 7 + 2)).trans (hC p 2 _ (List.getElem?_eq_getElem hlt) (by omega))
  have q2 := hB2.frozen (p * 7 + 2)
  simp only [List.getElem?_toArray, List.getElem?_cons_zero, List.getElem?_cons_succ] at z2
  have e1 : IntKind.i64.wrap (h.parts[p].w0 + n) = h.parts[p].w0 + n := IntWalk.i64_in _ (by have := hx.w0; have := hx.w01; have := hx.w1; omega)
  have e2 : IntKind.i64.wrap (h.parts[p].w1 + n) = h.parts[p].w1 + n := IntWalk.i64_in _ (by have := hx.w0; have := hx.w01; have := hx.w1; omega)
  have hC3 := hC.set2 hlt (h.parts[p].w0 + n)
  have hB3 := hB2.set (p * 7 + 2) (.int .i64 (h.parts[p].w0 + n))
  have hlt3 : p < (h.parts.set p { pa h.parts p with w0 := h.parts[p].w0 + n }).length := by simpa using hlt
  have z3 := (hB3.cell (p * 7 + 3)).trans (hC3 p 3 _ (List.getElem?_eq_getElem hlt3) (by omega))
  have q3 := hB3.frozen (p * 7 + 3)
  have hC4 := hC3.set3 hlt3 (h.parts[p].w1 + n)
  have hB4 := hB3.set (p * 7 + 3) (.int .i64 (h.parts[p].w1 + n))
  have hl4 : (h.parts.set p { pa h.parts p with w0 := h.parts[p].w0 + n }).set p { pa (h.parts.set p { pa h.parts p with w0 := h.parts[p].w0 + n }) p with w1 := h.parts[p].w1 + n } = (ldH h p n).parts := by
    rw [List.set_set, pa_set _ hlt, if_pos rfl, pa_at hlt]
    unfold ldH ldP
    rw [pa_at hlt]
  rw [hl4] at hC4
  simp only [List.getElem_set_self, List.getElem?_toArray, List.getElem?_cons_zero, List.getElem?_cons_succ] at z3
  rw [pa_at hlt] at z3
  have HB4 := Lib.hid hB4
  have HC4 := Lib.hid hC4
  have HW4 := Lib.hid ((HW2.out.far (g' := g) (by omega) (p * 7 + 2) (.int .i64 (h.parts[p].w0 + n))).far (g' := g) (by omega) (p * 7 + 3) (.int .i64 (h.parts[p].w1 + n)))
  have HR4 := Lib.hid ((HR2.out.far (g' := g) (by omega) (p * 7 + 2) (.int .i64 (h.parts[p].w0 + n))).far (g' := g) (by omega) (p * 7 + 3) (.int .i64 (h.parts[p].w1 + n)))
  have hs4 := (hs2.set (g := g) (by omega) (p * 7 + 2) (.int .i64 (h.parts[p].w0 + n))).set (g := g) (by omega) (p * 7 + 3) (.int .i64 (h.parts[p].w1 + n))
  clear hB hC hB2 hC3 hB3 hC4 hB4 hl4 hs1 hs2 HW1 HW2 HR1 HR2
  obtain ⟨v0, hv0⟩ : ∃ v0, h.parts[p].w0 = v0 := ⟨_, rfl⟩
  obtain ⟨v1, hv1⟩ : ∃ v1, h.parts[p].w1 = v1 := ⟨_, rfl⟩
  rw [hv0] at *
  rw [hv1] at *
  have HV : Hid (hV (ldH h p n) ⟨some ⟨g, 0, none⟩, cap⟩ = #[.slice (some ⟨g, 0, none⟩) h.parts.length cap, .int .i64 h.aft, .int .i64 h.fore]) := by
    show (#[.slice (some ⟨g, 0, none⟩) (ldH h p n).parts.length cap, .int .i64 h.aft, .int .i64 h.fore] : Array Value) = _
    rw [ldH_len]
  have HNM : Hid (∀ x ∈ (ldH h p n).parts, x.name.size ≤ maxLen) := fun x hx => by
    unfold ldH at hx
    dsimp only at hx
    rcases List.mem_or_eq_of_mem_set hx with h2 | h2
    · exact hp.nm x h2
    · subst h2
      rw [pa_at hlt]
      show h.parts[p].name.size ≤ maxLen
      exact hp.nm _ (List.getElem_mem hlt)
  go_wp2_with (first | (refine wpList_load_row rfl 92 _ rfl (w.heap.size) rfl 92 (#[.slice (some ⟨g, 0, none⟩) h.parts.length cap, .int .i64 h.aft, .int .i64 h.fore]) (0, 0) _ HW4.out Try.underlying92 rfl (by kernel_rfl) ?_) | (refine wpList_store_row rfl 92 _ _ rfl (w.heap.size + 1) _ rfl rfl 92 _ HR4.out (by kernel_rfl) rfl (by simp [Value.oneCell']) ?_))
  (refine bodyPost_ret (v := .agg _) ?_ rfl ⟨⟨⟨some ⟨g, 0, none⟩, cap⟩, by rw [HV.out], ⟨PtC.at (HB4.out.rowFar (by omega) _) HC4.out, by rw [ldH_len]; exact hcap.1, hcap.2, HNM.out⟩⟩, ?_⟩)
  · exact (results_cell_row Try.results66 _ _ (w.heap.size + 1) 92 _ (0, 0) _ rfl (HR4.out.row _) Try.underlying92 rfl (by kernel_rfl))
  · exact (hs4.row (by omega) _).1
end Td
end Go.Proofs.Ythdcklonamgpiaa
