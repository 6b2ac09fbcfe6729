import Derived.Test.YtmofbnadfgejiaaWatc
import Derived.Test.YtmofbnadfgejiaaMath
import Derived.Deep.LoopGhost
import Derived.OwnWalk
/- Level, Until, Refusal, Holds. -/
namespace Go.Proofs.Ytmofbnadfgejiaa
open Go.RowKit
namespace Td
set_option linter.unusedSimpArgs false
set_option linter.unusedVariables false
attribute [local go_sem] Oper.semAt_some
theorem results_cell_tmp {P : Program} {fn : Func} {p q : Tmp} {ty : TypeId} (h : fn.results = #[.cell p ty, .tmp q]) (tmps : Array Value) (w : World) (g : Nat) (t : TypeId) (cs : Array Value) (fr : Nat × Nat) (d : TypeDesc)
    (hp : tmps.getD p undef = .pointer (some ⟨g, 0, none⟩)) (hg : w.heap[g]? = some (.cells cs t fr))
    (hu : P.underlying ty = some d) (hd : (match d with | .struct _ | .array _ _ => true | _ => false) = true) (hi : (P.info? ty).map (·.size) = some cs.size) :
    (results fn tmps).run P w = .ok (.tuple #[.agg cs, tmps.getD q undef]) w := by
  have hp' : tmps[p]?.getD undef = .pointer (some ⟨g, 0, none⟩) := by simpa using hp
  simp [results, h, hp', asAddr, run_loadVar_row w g t ty cs fr d hg hu hd hi]
theorem InAt.rowF {w : World} {g : Nat} {ty : TypeId} {f : Nat → Int} {n : Nat} (h : Blk w g ty (rowF f n)) : InAt w (some ⟨g, 0, none⟩) ((List.range n).map f) := fun _ => ⟨_, rfl, fun i p hp => by
  rw [add_new]
  rw [List.getElem?_map] at hp
  by_cases hi : i < n
  · rw [List.getElem?_range hi] at hp
    simp at hp
    rw [h.cell i, rowF_get f hi, hp]
  · rw [List.getElem?_eq_none (by simp; omega)] at hp
    cases hp⟩
theorem watE_some {s : Spc} {l : List Rd} {mi : Int} (hE : watE s l mi = 0) : ∃ x, now s l mi = some x := by
  unfold watE at hE
  split at hE
  · rename_i h1; rw [hE] at h1; simp at h1
  · split at hE
    · rename_i h1; rw [hE] at h1; simp at h1
    · split at hE
      · split at hE
        · rename_i h1; exact Option.isSome_iff_exists.1 h1
        · cases hE
      · cases hE
theorem watE_ok {s : Spc} {l : List Rd} {mi : Int} (hE : watE s l mi = 0) : SOk s ∧ (∀ r ∈ l, ROk s r) ∧ l.length ≤ 12 ∧ 0 ≤ mi ∧ mi ≤ 60 := by
  unfold watE at hE
  split at hE
  · rename_i h1; rw [hE] at h1; simp at h1
  · rename_i h1
    split at hE
    · rename_i h2; rw [hE] at h2; simp at h2
    · rename_i h2
      split at hE
      · rename_i h3
        simp at h1 h2
        obtain ⟨h4, h5⟩ := rdsE_ok.1 h2
        exact ⟨chk_ok h1, h5, h4, wi_iff.1 h3⟩
      · cases hE
set_option maxRecDepth 100000 in
set_option maxHeartbeats 2000000 in
theorem level_c (s : Spc) (m : Sl) (A : Option Addr) (l : List Rd) (c : Nat) (mi : Int) (w : World) (hsa : SAt w m s) (hc : l.length ≤ c) (hcM : c ≤ 9223372036854775807) (hp : RdAt w A l) :
    Calls Try.prog 17 #[.agg (sV s m), .slice A l.length c, .int .i64 mi] w fun e w' => e = .returned (.tuple #[.agg #[.int .i64 (levelA s l mi).1.1, .int .i64 (levelA s l mi).1.2], .int .i64 (levelA s l mi).2]) ∧ Below w.heap.size w w' := by
  have hsn0 := ((Since.refl w).alloc (.cells (sV s m) 27)).alloc (.cells #[.int .i64 0, .int .i64 0] 23)
  have HS0 := Lib.hid ((Blk.new w 27 (sV s m)).alloc (.cells #[.int .i64 0, .int .i64 0] 23))
  have HZ0 := Lib.hid (Blk.new1 w (.cells (sV s m) 27) 23 #[.int .i64 0, .int .i64 0])
  obtain ⟨c0, c1, c2, c3, c4, c5, c6, c7, c8⟩ := HS0.out.space
  go_enter Try.func17, Try.ntmps17
  go_wp2_with fail
  refine (watch_c s m A l c mi _ (hsa.keep hsn0.1) hc hcM (hp.keep hsn0.1)).mono ?_
  rintro e w2 ⟨⟨M, rfl, hM⟩, hb2⟩
  have hsn2 := hsn0.keep hb2
  have HS2 := Lib.hid (HS0.out.keep hb2)
  have HZ2 := Lib.hid (HZ0.out.keep hb2)
  clear hsn0 HS0 c0 c1 c2 c3 c4 c5 c6 c7 c8 HZ0
  obtain ⟨E, hE⟩ : ∃ E, watE s l mi = E := ⟨_, rfl⟩
  rw [hE] at hM ⊢
  have hA3 := (Blk.new w2 93 w0V).alloc (.cells n0V 95)
  have hB3 := Blk.new1 w2 (.cells w0V 93) 95 n0V
  have hb3 : Below w2.heap.size w2 ((w2.alloc (.cells w0V 93)).alloc (.cells n0V 95)) := (((Since.refl w2).alloc _).alloc _).1
  have hz2 := hsn2.2
  by_cases h0 : E = 0
  · subst h0
    have hMp := hM rfl
    obtain ⟨x, hx⟩ := watE_some hE
    obtain ⟨hs, hro, hl12, hmi0, hmi1⟩ := watE_ok hE
    have hRet : watV s m M 0 (now s l mi) = .tuple #[.agg (wV s m M), .agg #[.int .i64 x.1, .int .i64 x.2, .bool true], .int .i64 0] := by rw [hx]; simp [watV, lV]
    rw [hRet]
    have hb4 : Below w2.heap.size w2 ((((w2.alloc (.cells w0V 93)).alloc (.cells n0V 95)).setRow w2.heap.size (wV s m M)).setRow (w2.heap.size + 1) #[.int .i64 x.1, .int .i64 x.2, .bool true]) := below_setRow (below_setRow hb3 (Nat.le_refl _) _) (by omega) _
    have hB9 := Lib.hid (hB3.rowFar (g' := w2.heap.size) (by omega) (wV s m M))
    have hA9 := Lib.hid hA3
    go_upto_region 2 with first | (refine wpList_store_row rfl 93 _ _ rfl (w2.heap.size) _ rfl rfl 93 _ hA9.out (by kernel_rfl) rfl (by simp [Value.oneCell']) ?_) | (refine wpList_store_row rfl 95 _ _ rfl (w2.heap.size + 1) _ rfl rfl 95 _ hB9.out (by kernel_rfl) rfl (by simp [Value.oneCell']) ?_)
    have hA4 := (hA3.row (wV s m M)).rowFar (g' := w2.heap.size + 1) (by omega) #[.int .i64 x.1, .int .i64 x.2, .bool true]
    have hB4 := (hB3.rowFar (g' := w2.heap.size) (by omega) (wV s m M)).row #[.int .i64 x.1, .int .i64 x.2, .bool true]
    have hS4 := HS2.out.keep hb4
    have hZ4 := HZ2.out.keep hb4
    have hsn4 := hsn2.keep hb4
    obtain ⟨X, hX⟩ : ∃ X, (((w2.alloc (.cells w0V 93)).alloc (.cells n0V 95)).setRow w2.heap.size (wV s m M)).setRow (w2.heap.size + 1) #[.int .i64 x.1, .int .i64 x.2, .bool true] = X := ⟨_, rfl⟩
    rw [hX] at hA4 hB4 hS4 hsn4 hb4 hZ4
    dsimp only [wV, w0V, n0V] at hX ⊢
    rw [hX]
    clear hX hA9 hB9 hA3 hB3 hb3 HS2 HZ2
    have hMp4 := hMp.keep hb4
    obtain ⟨e0, e1, e2⟩ := hB4.lev
    obtain ⟨d0, d1, d2, d3, d4, d5, d6, d7, d8, d9⟩ := hA4.watch
    obtain ⟨c0, c1, c2, c3, c4, c5, c6, c7, c8⟩ := hS4.space
    have HV : Hid (levelA s l mi = (x, 0)) := by show _ = _; simp [levelA, hE, hx]
    clear hE hx
    go_wp2_with (refine wpList_store_row rfl 23 _ _ rfl (w.heap.size + 1) _ rfl rfl 23 _ hZ4 (by kernel_rfl) rfl (by simp [Value.oneCell']) ?_)
    refine bodyPost_ret (results_cell_tmp Try.results17 _ _ (w.heap.size + 1) 23 _ (0, 0) _ rfl (hZ4.row _) Try.underlying23 rfl (by kernel_rfl)) rfl ⟨?_, (hsn4.row (by omega) _).1⟩
    rw [HV.out]
    rfl
  · have hRet : watV s m M E (now s l mi) = .tuple #[.agg w0V, .agg n0V, .int .i64 E] := by simp [watV, h0, lV]
    rw [hRet]
    have hb4 : Below w2.heap.size w2 ((((w2.alloc (.cells w0V 93)).alloc (.cells n0V 95)).setRow w2.heap.size w0V).setRow (w2.heap.size + 1) n0V) := below_setRow (below_setRow hb3 (Nat.le_refl _) _) (by omega) _
    have hB9 := Lib.hid (hB3.rowFar (g' := w2.heap.size) (by omega) w0V)
    have hA9 := Lib.hid hA3
    go_upto_region 2 with first | (refine wpList_store_row rfl 93 _ _ rfl (w2.heap.size) _ rfl rfl 93 _ hA9.out (by kernel_rfl) rfl (by simp [Value.oneCell']) ?_) | (refine wpList_store_row rfl 95 _ _ rfl (w2.heap.size + 1) _ rfl rfl 95 _ hB9.out (by kernel_rfl) rfl (by simp [Value.oneCell']) ?_)
    have hA4 := (hA3.row w0V).rowFar (g' := w2.heap.size + 1) (by omega) n0V
    have hB4 := (hB3.rowFar (g' := w2.heap.size) (by omega) w0V).row n0V
    have hS4 := HS2.out.keep hb4
    have hZ4 := HZ2.out.keep hb4
    have hsn4 := hsn2.keep hb4
    obtain ⟨X, hX⟩ : ∃ X, (((w2.alloc (.cells w0V 93)).alloc (.cells n0V 95)).setRow w2.heap.size w0V).setRow (w2.heap.size + 1) n0V = X := ⟨_, rfl⟩
    rw [hX] at hA4 hB4 hS4 hsn4 hb4 hZ4
    dsimp only [wV, w0V, n0V] at hX ⊢
    rw [hX]
    clear hX hA9 hB9 hA3 hB3 hb3 HS2 HZ2
    have HV : Hid (levelA s l mi = ((0, 0), E)) := by show _ = _; simp [levelA, hE, h0]
    have h0' : (E != 0) = true := by simpa using h0
    clear hE h0
    go_wp2_with (refine wpList_store_row rfl 23 _ _ rfl (w.heap.size + 1) _ rfl rfl 23 _ hZ4 (by kernel_rfl) rfl (by simp [Value.oneCell']) ?_)
    refine bodyPost_ret (results_cell_tmp Try.results17 _ _ (w.heap.size + 1) 23 _ (0, 0) _ rfl (hZ4.row _) Try.underlying23 rfl (by kernel_rfl)) rfl ⟨?_, (hsn4.row (by omega) _).1⟩
    rw [HV.out]
    rfl
set_option maxRecDepth 100000 in
set_option maxHeartbeats 2000000 in
theorem until2_c (s : Spc) (m : Sl) (A : Option Addr) (l : List Rd) (c : Nat) (mi : Int) (w : World) (hsa : SAt w m s) (hc : l.length ≤ c) (hcM : c ≤ 9223372036854775807) (hp : RdAt w A l) :
    Calls Try.prog 19 #[.agg (sV s m), .slice A l.length c, .int .i64 mi] w fun e w' => e = .returned (.tuple #[.int .i64 (untilA s l mi).1, .int .i64 (untilA s l mi).2]) ∧ Below w.heap.size w w' := by
  have hsn0 := (Since.refl w).alloc (.cells (sV s m) 27)
  have HS0 := Lib.hid (Blk.new w 27 (sV s m))
  obtain ⟨c0, c1, c2, c3, c4, c5, c6, c7, c8⟩ := HS0.out.space
  go_enter Try.func19, Try.ntmps19
  go_wp2_with fail
  refine (watch_c s m A l c mi _ (hsa.keep hsn0.1) hc hcM (hp.keep hsn0.1)).mono ?_
  rintro e w2 ⟨⟨M, rfl, hM⟩, hb2⟩
  have hsn2 := hsn0.keep hb2
  have HS2 := Lib.hid (HS0.out.keep hb2)
  clear hsn0 HS0 c0 c1 c2 c3 c4 c5 c6 c7 c8
  obtain ⟨E, hE⟩ : ∃ E, watE s l mi = E := ⟨_, rfl⟩
  rw [hE] at hM ⊢
  have hA3 := (Blk.new w2 93 w0V).alloc (.cells n0V 95)
  have hB3 := Blk.new1 w2 (.cells w0V 93) 95 n0V
  have hb3 : Below w2.heap.size w2 ((w2.alloc (.cells w0V 93)).alloc (.cells n0V 95)) := (((Since.refl w2).alloc _).alloc _).1
  have hz2 := hsn2.2
  by_cases h0 : E = 0
  · subst h0
    have hMp := hM rfl
    obtain ⟨x, hx⟩ := watE_some hE
    obtain ⟨hs, hro, hl12, hmi0, hmi1⟩ := watE_ok hE
    have hRet : watV s m M 0 (now s l mi) = .tuple #[.agg (wV s m M), .agg #[.int .i64 x.1, .int .i64 x.2, .bool true], .int .i64 0] := by rw [hx]; simp [watV, lV]
    rw [hRet]
    have hb4 : Below w2.heap.size w2 ((((w2.alloc (.cells w0V 93)).alloc (.cells n0V 95)).setRow w2.heap.size (wV s m M)).setRow (w2.heap.size + 1) #[.int .i64 x.1, .int .i64 x.2, .bool true]) := below_setRow (below_setRow hb3 (Nat.le_refl _) _) (by omega) _
    have hB9 := Lib.hid (hB3.rowFar (g' := w2.heap.size) (by omega) (wV s m M))
    have hA9 := Lib.hid hA3
    go_upto_region 2 with first | (refine wpList_store_row rfl 93 _ _ rfl (w2.heap.size) _ rfl rfl 93 _ hA9.out (by kernel_rfl) rfl (by simp [Value.oneCell']) ?_) | (refine wpList_store_row rfl 95 _ _ rfl (w2.heap.size + 1) _ rfl rfl 95 _ hB9.out (by kernel_rfl) rfl (by simp [Value.oneCell']) ?_)
    have hA4 := (hA3.row (wV s m M)).rowFar (g' := w2.heap.size + 1) (by omega) #[.int .i64 x.1, .int .i64 x.2, .bool true]
    have hB4 := (hB3.rowFar (g' := w2.heap.size) (by omega) (wV s m M)).row #[.int .i64 x.1, .int .i64 x.2, .bool true]
    have hS4 := HS2.out.keep hb4
    have hsn4 := hsn2.keep hb4
    obtain ⟨X, hX⟩ : ∃ X, (((w2.alloc (.cells w0V 93)).alloc (.cells n0V 95)).setRow w2.heap.size (wV s m M)).setRow (w2.heap.size + 1) #[.int .i64 x.1, .int .i64 x.2, .bool true] = X := ⟨_, rfl⟩
    rw [hX] at hA4 hB4 hS4 hsn4 hb4
    dsimp only [wV, w0V, n0V] at hX ⊢
    rw [hX]
    clear hX hA9 hB9 hA3 hB3 hb3 HS2
    have hMp4 := hMp.keep hb4
    obtain ⟨e0, e1, e2⟩ := hB4.lev
    obtain ⟨d0, d1, d2, d3, d4, d5, d6, d7, d8, d9⟩ := hA4.watch
    obtain ⟨c0, c1, c2, c3, c4, c5, c6, c7, c8⟩ := hS4.space
    have HV : Hid (untilA s l mi = (untl s (kno l mi) mi (some x), 0)) := by show _ = _; simp [untilA, hE, hx]
    have hvd : Vd (some x) := by
      rw [← hx]
      exact vd_lv (vd_start hs) _
    clear hE hx
    have hU := until_c s m M (kno l mi) mi (some x) X hs hvd (fun r h => hro r (List.mem_filter.1 h).1) (Nat.le_trans (List.length_filter_le _ _) (by omega)) (hsa.keep hsn4.1) hMp4 hmi0 hmi1
    dsimp only [lV] at hU
    go_wp2_with fail
    refine hU.mono ?_
    rintro e w' ⟨rfl, hb⟩
    go_wp2_with fail
    go_ret2
    exact ⟨by rw [HV.out]; rfl, (hsn4.keep hb).1⟩
  · have hRet : watV s m M E (now s l mi) = .tuple #[.agg w0V, .agg n0V, .int .i64 E] := by simp [watV, h0, lV]
    rw [hRet]
    have hb4 : Below w2.heap.size w2 ((((w2.alloc (.cells w0V 93)).alloc (.cells n0V 95)).setRow w2.heap.size w0V).setRow (w2.heap.size + 1) n0V) := below_setRow (below_setRow hb3 (Nat.le_refl _) _) (by omega) _
    have hB9 := Lib.hid (hB3.rowFar (g' := w2.heap.size) (by omega) w0V)
    have hA9 := Lib.hid hA3
    go_upto_region 2 with first | (refine wpList_store_row rfl 93 _ _ rfl (w2.heap.size) _ rfl rfl 93 _ hA9.out (by kernel_rfl) rfl (by simp [Value.oneCell']) ?_) | (refine wpList_store_row rfl 95 _ _ rfl (w2.heap.size + 1) _ rfl rfl 95 _ hB9.out (by kernel_rfl) rfl (by simp [Value.oneCell']) ?_)
    have hA4 := (hA3.row w0V).rowFar (g' := w2.heap.size + 1) (by omega) n0V
    have hB4 := (hB3.rowFar (g' := w2.heap.size) (by omega) w0V).row n0V
    have hS4 := HS2.out.keep hb4
    have hsn4 := hsn2.keep hb4
    obtain ⟨X, hX⟩ : ∃ X, (((w2.alloc (.cells w0V 93)).alloc (.cells n0V 95)).setRow w2.heap.size w0V).setRow (w2.heap.size + 1) n0V = X := ⟨_, rfl⟩
    rw [hX] at hA4 hB4 hS4 hsn4 hb4
    dsimp only [wV, w0V, n0V] at hX ⊢
    rw [hX]
    clear hX hA9 hB9 hA3 hB3 hb3 HS2
    have HV : Hid (untilA s l mi = (0, E)) := by show _ = _; simp [untilA, hE, h0]
    have h0' : (E != 0) = true := by simpa using h0
    clear hE h0
    go_wp2_with fail
    go_ret2
    exact ⟨by rw [HV.out]; rfl, hsn4.1⟩
set_option maxRecDepth 100000 in
set_option maxHeartbeats 2000000 in
theorem refusal_c (s : Spc) (m : Sl) (A : Option Addr) (l : List Rd) (c : Nat) (mi : Int) (w : World) (hsa : SAt w m s) (hc : l.length ≤ c) (hcM : c ≤ 9223372036854775807) (hp : RdAt w A l) :
    Calls Try.prog 22 #[.agg (sV s m), .slice A l.length c, .int .i64 mi] w fun e w' => (∃ g n, e = .returned (.tuple #[.slice g n n, .int .i64 (refusalA s l mi).2]) ∧ n = (refusalA s l mi).1.length ∧ InAt w' g (refusalA s l mi).1) ∧ Below w.heap.size w w' := by
  have hsn0 := (Since.refl w).alloc (.cells (sV s m) 27)
  have HS0 := Lib.hid (Blk.new w 27 (sV s m))
  obtain ⟨c0, c1, c2, c3, c4, c5, c6, c7, c8⟩ := HS0.out.space
  go_enter Try.func22, Try.ntmps22
  go_wp2_with fail
  refine (watch_c s m A l c mi _ (hsa.keep hsn0.1) hc hcM (hp.keep hsn0.1)).mono ?_
  rintro e w2 ⟨⟨M, rfl, hM⟩, hb2⟩
  have hsn2 := hsn0.keep hb2
  have HS2 := Lib.hid (HS0.out.keep hb2)
  clear hsn0 HS0 c0 c1 c2 c3 c4 c5 c6 c7 c8
  obtain ⟨E, hE⟩ : ∃ E, watE s l mi = E := ⟨_, rfl⟩
  rw [hE] at hM ⊢
  have hA3 := (Blk.new w2 93 w0V).alloc (.cells n0V 95)
  have hB3 := Blk.new1 w2 (.cells w0V 93) 95 n0V
  have hb3 : Below w2.heap.size w2 ((w2.alloc (.cells w0V 93)).alloc (.cells n0V 95)) := (((Since.refl w2).alloc _).alloc _).1
  have hz2 := hsn2.2
  by_cases h0 : E = 0
  · subst h0
    have hMp := hM rfl
    obtain ⟨x, hx⟩ := watE_some hE
    obtain ⟨hs, hro, hl12, hmi0, hmi1⟩ := watE_ok hE
    have hRet : watV s m M 0 (now s l mi) = .tuple #[.agg (wV s m M), .agg #[.int .i64 x.1, .int .i64 x.2, .bool true], .int .i64 0] := by rw [hx]; simp [watV, lV]
    rw [hRet]
    have hb4 : Below w2.heap.size w2 ((((w2.alloc (.cells w0V 93)).alloc (.cells n0V 95)).setRow w2.heap.size (wV s m M)).setRow (w2.heap.size + 1) #[.int .i64 x.1, .int .i64 x.2, .bool true]) := below_setRow (below_setRow hb3 (Nat.le_refl _) _) (by omega) _
    have hB9 := Lib.hid (hB3.rowFar (g' := w2.heap.size) (by omega) (wV s m M))
    have hA9 := Lib.hid hA3
    go_upto_region 2 with first | (refine wpList_store_row rfl 93 _ _ rfl (w2.heap.size) _ rfl rfl 93 _ hA9.out (by kernel_rfl) rfl (by simp [Value.oneCell']) ?_) | (refine wpList_store_row rfl 95 _ _ rfl (w2.heap.size + 1) _ rfl rfl 95 _ hB9.out (by kernel_rfl) rfl (by simp [Value.oneCell']) ?_)
    have hA4 := (hA3.row (wV s m M)).rowFar (g' := w2.heap.size + 1) (by omega) #[.int .i64 x.1, .int .i64 x.2, .bool true]
    have hB4 := (hB3.rowFar (g' := w2.heap.size) (by omega) (wV s m M)).row #[.int .i64 x.1, .int .i64 x.2, .bool true]
    have hS4 := HS2.out.keep hb4
    have hsn4 := hsn2.keep hb4
    obtain ⟨X, hX⟩ : ∃ X, (((w2.alloc (.cells w0V 93)).alloc (.cells n0V 95)).setRow w2.heap.size (wV s m M)).setRow (w2.heap.size + 1) #[.int .i64 x.1, .int .i64 x.2, .bool true] = X := ⟨_, rfl⟩
    rw [hX] at hA4 hB4 hS4 hsn4 hb4
    dsimp only [wV, w0V, n0V] at hX ⊢
    rw [hX]
    clear hX hA9 hB9 hA3 hB3 hb3 HS2
    have hMp4 := hMp.keep hb4
    obtain ⟨e0, e1, e2⟩ := hB4.lev
    obtain ⟨d0, d1, d2, d3, d4, d5, d6, d7, d8, d9⟩ := hA4.watch
    obtain ⟨c0, c1, c2, c3, c4, c5, c6, c7, c8⟩ := hS4.space
    have hvd : Vd (some x) := by
      rw [← hx]
      exact vd_lv (vd_start hs) _
    have hvx := hvd x rfl
    have hl0 := hs.l0
    have hl1 := hs.l1
    by_cases hlim : x.2 ≤ s.lim
    · have HV : Hid (refusalA s l mi = ([], 4)) := by show _ = _; simp [refusalA, hE, hx, hlim]
      clear hE hx
      go_wp2_with fail
      go_ret2
      exact ⟨⟨none, 0, by rw [HV.out]; rfl, by rw [HV.out]; rfl, by rw [HV.out]; exact fun h => absurd rfl h⟩, hsn4.1⟩
    · obtain ⟨n, hn⟩ : ∃ n : Nat, mi = (n : Int) := ⟨mi.toNat, by omega⟩
      subst hn
      have HV : Hid (refusalA s l (n : Int) = (tru s (kno l (n : Int)) n (max x.1 (s.lim + 1)), 0)) := by show _ = _; simp [refusalA, hE, hx, hlim]
      have hsom : ∀ k, k ≤ n → (lv s (kno l (n : Int)) 0 (btw s.s0 s.s1) k).isSome = true := fun k hk => by
        cases hlv : lv s (kno l (n : Int)) 0 (btw s.s0 s.s1) k with
        | some _ => rfl
        | none =>
          have := lv_none hlv hk
          unfold now at hx
          rw [Int.toNat_natCast, this] at hx
          cases hx
      have hLo := lowest_c s m M (kno l (n : Int)) n (max x.1 (s.lim + 1)) X hs (fun r h => hro r (List.mem_filter.1 h).1) (Nat.le_trans (List.length_filter_le _ _) (by omega)) (hsa.keep hsn4.1) hMp4 (by omega) hsom (by omega) (by omega)
      have hw1 : IntKind.i64.wrap (s.lim + 1) = s.lim + 1 := IntWalk.i64_in _ (by omega)
      have hlim' : s.lim < x.2 := by omega
      obtain ⟨mx, hmx⟩ : ∃ mx, max x.1 (s.lim + 1) = mx := ⟨_, rfl⟩
      rw [hmx] at hLo HV
      clear hE hx hlim
      rcases (by omega : (x.1 < s.lim + 1 ∧ mx = s.lim + 1) ∨ (¬ x.1 < s.lim + 1 ∧ mx = x.1)) with ⟨h2, hn2⟩ | ⟨h2, hn2⟩
      all_goals
        subst hn2
        clear hmx
        go_wp2_with fail
        refine hLo.mono ?_
        rintro e w' ⟨⟨g, rfl, hg⟩, hb⟩
        go_wp2_with fail
        go_ret2
        refine ⟨⟨some ⟨g, 0, none⟩, n + 1, by rw [HV.out]; rfl, by rw [HV.out]; simp [tru], ?_⟩, (hsn4.keep hb).1⟩
        rw [HV.out]
        exact InAt.rowF hg
  · have hRet : watV s m M E (now s l mi) = .tuple #[.agg w0V, .agg n0V, .int .i64 E] := by simp [watV, h0, lV]
    rw [hRet]
    have hb4 : Below w2.heap.size w2 ((((w2.alloc (.cells w0V 93)).alloc (.cells n0V 95)).setRow w2.heap.size w0V).setRow (w2.heap.size + 1) n0V) := below_setRow (below_setRow hb3 (Nat.le_refl _) _) (by omega) _
    have hB9 := Lib.hid (hB3.rowFar (g' := w2.heap.size) (by omega) w0V)
    have hA9 := Lib.hid hA3
    go_upto_region 2 with first | (refine wpList_store_row rfl 93 _ _ rfl (w2.heap.size) _ rfl rfl 93 _ hA9.out (by kernel_rfl) rfl (by simp [Value.oneCell']) ?_) | (refine wpList_store_row rfl 95 _ _ rfl (w2.heap.size + 1) _ rfl rfl 95 _ hB9.out (by kernel_rfl) rfl (by simp [Value.oneCell']) ?_)
    have hA4 := (hA3.row w0V).rowFar (g' := w2.heap.size + 1) (by omega) n0V
    have hB4 := (hB3.rowFar (g' := w2.heap.size) (by omega) w0V).row n0V
    have hS4 := HS2.out.keep hb4
    have hsn4 := hsn2.keep hb4
    obtain ⟨X, hX⟩ : ∃ X, (((w2.alloc (.cells w0V 93)).alloc (.cells n0V 95)).setRow w2.heap.size w0V).setRow (w2.heap.size + 1) n0V = X := ⟨_, rfl⟩
    rw [hX] at hA4 hB4 hS4 hsn4 hb4
    dsimp only [wV, w0V, n0V] at hX ⊢
    rw [hX]
    clear hX hA9 hB9 hA3 hB3 hb3 HS2
    have HV : Hid (refusalA s l mi = ([], E)) := by show _ = _; simp [refusalA, hE, h0]
    have h0' : (E != 0) = true := by simpa using h0
    clear hE h0
    go_wp2_with fail
    go_ret2
    exact ⟨⟨none, 0, by rw [HV.out]; rfl, by rw [HV.out]; rfl, by rw [HV.out]; exact fun h => absurd rfl h⟩, hsn4.1⟩
theorem nil_w (s : Spc) (m : Sl) : wV s m none = #[.int .i64 s.s0, .int .i64 s.s1, .int .i64 s.r0, .int .i64 s.r1, .int .i64 s.b0, .int .i64 s.b1, .int .i64 s.lim, .slice m.A s.blows.length m.c, .slice m.T s.tools.length m.d, .map none] := rfl
set_option maxRecDepth 100000 in
set_option maxHeartbeats 2000000 in
theorem holds2_c (s : Spc) (m : Sl) (r : Rd) (w : World) (hsa : SAt w m s) :
    Calls Try.prog 25 #[.agg (sV s m), .int .i64 r.tool, .int .i64 r.shown, .int .i64 r.min] w fun e w' => e = .returned (.tuple #[.int .i64 (holdsA s r).1, .int .i64 (holdsA s r).2]) ∧ Below w.heap.size w w' := by
  have hsn0 := (Since.refl w).alloc (.cells (sV s m) 27)
  have HS0 := Lib.hid (Blk.new w 27 (sV s m))
  obtain ⟨c0, c1, c2, c3, c4, c5, c6, c7, c8⟩ := HS0.out.space
  go_enter Try.func25, Try.ntmps25
  go_wp2_with fail
  refine (check_c s m _ (hsa.keep hsn0.1)).mono ?_
  rintro e w2 ⟨rfl, hb2⟩
  have hsn2 := hsn0.keep hb2
  have HS2 := Lib.hid (HS0.out.keep hb2)
  clear c0 c1 c2 c3 c4 c5 c6 c7 c8 hsn0 HS0
  by_cases h1 : (chk s).2.2 = 0
  · have hs := chk_ok h1
    rw [h1]
    have hsn3 := hsn2.alloc (.cells (rV r) 61)
    have HS3 := Lib.hid (HS2.out.alloc (.cells (rV r) 61))
    have HR3 := Lib.hid (Blk.new w2 61 (rV r))
    obtain ⟨c0, c1, c2, c3, c4, c5, c6, c7, c8⟩ := HS3.out.space
    go_wp2_with fail
    refine (readingFault_c s m r _ (by have := hs.t3; omega)).mono ?_
    rintro e w3 ⟨rfl, hb3⟩
    have hsn4 := hsn3.keep hb3
    have HS4 := Lib.hid (HS3.out.keep hb3)
    have HR4 := Lib.hid (HR3.out.keep hb3)
    clear c0 c1 c2 c3 c4 c5 c6 c7 c8
    by_cases h2 : rdE s.tools.length r = 0
    · have hr := rdE_ok.1 h2
      have HV : Hid (holdsA s r = (hol s r, 0)) := by show _ = _; simp [holdsA, toolE2, h1, h2]
      rw [h2]
      obtain ⟨c0, c1, c2, c3, c4, c5, c6, c7, c8⟩ := HS4.out.space
      have r0 := HR4.out.cell 0
      have r1 := HR4.out.cell 1
      have r2 := HR4.out.cell 2
      simp only [List.getElem?_toArray, List.getElem?_cons_zero, List.getElem?_cons_succ] at r0 r1 r2
      have hH := holds_c s m r w3 hs (hsa.keep hsn4.1) hr
      clear h1 h2
      go_wp2_with fail
      refine hH.mono ?_
      rintro e w' ⟨rfl, hb⟩
      go_wp2_with fail
      go_ret2
      exact ⟨by rw [HV.out]; rfl, (hsn4.keep hb).1⟩
    · have HV : Hid (holdsA s r = (0, rdE s.tools.length r)) := by show _ = _; simp [holdsA, toolE2, h1, h2]
      have h2' : (rdE s.tools.length r != 0) = true := by simpa using h2
      clear h1 h2
      go_wp2_with fail
      go_ret2
      exact ⟨by rw [HV.out]; rfl, hsn4.1⟩
  · have HV : Hid (holdsA s r = (0, (chk s).2.2)) := by show _ = _; simp [holdsA, toolE2, h1]
    have h1' : ((chk s).2.2 != 0) = true := by simpa using h1
    clear h1
    go_wp2_with fail
    go_ret2
    exact ⟨by rw [HV.out]; rfl, hsn2.1⟩
end Td
end Go.Proofs.Ytmofbnadfgejiaa
/- The first of the shortest lists. -/
namespace Go.Proofs.Ytmofbnadfgejiaa
open Go.RowKit
namespace Td
set_option linter.unusedSimpArgs false
set_option linter.unusedVariables false
attribute [local go_sem] Oper.semAt_some
/-- a slice that holds a list. -/
def Lv (W : World) (v : Value) (l : List Int) : Prop := ∃ A c, v = .slice A l.length c ∧ InAt W A l
theorem Lv.keep {W W' : World} {v : Value} {l : List Int} (h : Lv W v l) (hb : Below W.heap.size W W') : Lv W' v l := by
  obtain ⟨A, c, h1, h2⟩ := h
  exact ⟨A, c, h1, h2.keep hb⟩
theorem Lv.nil (W : World) : Lv W (.slice none 0 0) [] := ⟨none, 0, rfl, fun h => absurd rfl h⟩
theorem shortest_snoc (ls : Nat → List Int) (k : Nat) : shortest ((List.range (k + 1)).map ls) = shorter (shortest ((List.range k).map ls)) (ls k) := by
  unfold shortest
  rw [List.range_succ, List.map_append, List.foldl_append]
  rfl
set_option maxHeartbeats 1000000 in
theorem shortest_c (g off n c : Nat) (vals : Nat → Value) (ls : Nat → List Int) (w : World) (hn : n ≤ 1000) (hcell : ∀ i, i < n → w.cell? ⟨g, off + i, none⟩ = some (vals i)) (hv : ∀ i, i < n → Lv w (vals i) (ls i)) :
    Calls Try.prog 86 #[.slice (some ⟨g, off, none⟩) n c] w fun e w' => (∃ v, e = .returned v ∧ Lv w v (shortest ((List.range n).map ls))) ∧ w = w' := by
  go_enter Try.func86, Try.ntmps86
  go_wp2_with fail
  go_loop [3, 5, 8] (fun b _ i => ∃ k : Nat, k ≤ n ∧ i = .int .i64 k ∧ Hid (Lv w b (shortest ((List.range k).map ls)))) (fun _ _ i => n - (intOf i).toNat)
  case atStart => exact ⟨0, Nat.zero_le _, rfl, Lv.nil w⟩
  case round =>
    obtain ⟨k, hk, rfl, HB⟩ := hrel
    obtain ⟨bA, bc, hb1, hb2⟩ := HB.out
    by_cases hlt : k < n
    · have c0 := hcell k hlt
      obtain ⟨lA, lc, hl1, hl2⟩ := hv k hlt
      have hadd : (⟨g, off, none⟩ : Addr).add k = ⟨g, off + k, none⟩ := by simp [Addr.add]
      rw [hl1] at c0
      obtain ⟨bl, hbl⟩ : ∃ bl, shortest ((List.range k).map ls) = bl := ⟨_, rfl⟩
      have HS := Lib.hid (shortest_snoc ls k)
      rw [hbl] at hb1 hb2 HS
      have HB1 := Lib.hid hb1
      have HB2 := Lib.hid hb2
      have HL2 := Lib.hid hl2
      subst hb1
      have hlM : (ls k).length ≤ 9223372036854775807 ∨ True := .inr trivial
      obtain ⟨q, hq⟩ : ∃ q, (ls k).length = q := ⟨_, rfl⟩
      obtain ⟨p, hp⟩ : ∃ p, bl.length = p := ⟨_, rfl⟩
      rw [hq] at c0 hl1
      have HQ := Lib.hid hq
      have HP := Lib.hid hp
      rw [hp]
      clear hq hp hl2 hb2 hbl hl1 hadd hlM hcell hv HB
      by_cases h1 : p = 0
      · subst h1
        go_wp2_with fail
        go_round
        case rel => exact ⟨k + 1, by omega, by go_num, by rw [HS.out, shorter, if_pos (.inl HP.out)]; exact ⟨lA, lc, by rw [HQ.out], HL2.out⟩⟩
        case measure => simp [intOf]; omega
      · have h1' : ((p : Int) == 0) = false := by simp [h1]
        by_cases h2 : 0 < q
        · have h2' : (0 : Int) < (q : Int) := by omega
          by_cases h3 : q < p
          · have h3' : (q : Int) < (p : Int) := by omega
            go_wp2_with fail
            go_round
            case rel => exact ⟨k + 1, by omega, by go_num, by rw [HS.out, shorter, if_pos (.inr ⟨by rw [HQ.out]; exact h2, by rw [HQ.out, HP.out]; exact h3⟩)]; exact ⟨lA, lc, by rw [HQ.out], HL2.out⟩⟩
            case measure => simp [intOf]; omega
          · have h3' : ¬ (q : Int) < (p : Int) := by omega
            go_wp2_with fail
            go_round
            case rel => exact ⟨k + 1, by omega, by go_num, by rw [HS.out, shorter, if_neg (by rw [HP.out, HQ.out]; omega)]; exact ⟨bA, bc, by rw [HP.out], HB2.out⟩⟩
            case measure => simp [intOf]; omega
        · have h2' : ¬ (0 : Int) < (q : Int) := by omega
          go_wp2_with fail
          go_round
          case rel => exact ⟨k + 1, by omega, by go_num, by rw [HS.out, shorter, if_neg (by rw [HP.out, HQ.out]; omega)]; exact ⟨bA, bc, by rw [HP.out], HB2.out⟩⟩
          case measure => simp [intOf]; omega
    · obtain rfl : k = n := by omega
      have HB1 := Lib.hid hb1
      subst hb1
      go_wp2_with fail
      go_ret
      exact ⟨⟨_, rfl, HB.out⟩, rfl⟩
end Td
end Go.Proofs.Ytmofbnadfgejiaa
/- append of a list behind one number. -/
namespace Go.Proofs.Ytmofbnadfgejiaa
open Go.RowKit
namespace Td
set_option linter.unusedSimpArgs false
set_option linter.unusedVariables false
attribute [local go_sem] Oper.semAt_some
theorem lv_own {W : World} {B n : Nat} {v : Value} {l : List Int} (hn : n = l.length) (h : W.ownsRow B 3 1 v n (l.map fun x => .int .i64 x)) : Lv W v l := by
  subst hn
  rcases h.2 with ⟨rfl, h0⟩ | ⟨g, cap, cur, rfl, hB, hg, hn, hm, hs, ht⟩
  · have : l = [] := List.eq_nil_of_length_eq_zero h0
    subst this
    exact Lv.nil _
  · refine ⟨_, cap, rfl, fun hx => ⟨_, rfl, fun i p hp => ?_⟩⟩
    have hil : i < l.length := (List.getElem?_eq_some_iff.1 hp).1
    rw [add_new]
    have h1 : (l.map fun x => Value.int .i64 x)[i]? = some (.int .i64 p) := by rw [List.getElem?_map, hp]; rfl
    rw [← ht, List.getElem?_take, if_pos (by omega)] at h1
    simp [World.cell?, hg]
    simpa using h1
theorem append_ints {W : World} {B g : Nat} {v : Value} {one : Int} {l : List Int} (hg : Blk W g 3 #[.int .i64 one]) (hv : Lv W v l) (hl : l.length ≤ 1000) (hB : B ≤ g) (ty : TypeId) :
    ∃ v' w', (Builtin.append_ #[38, 38] ty #[.slice (some ⟨g, 0, none⟩) 1 1, v]).run Try.prog W = .ok v' w' ∧ Lv w' v' (one :: l) ∧ W.grownBy w' (some g) := by
  obtain ⟨A, c, rfl, hin⟩ := hv
  have hgl := hg.lt
  cases A with
  | none =>
    have hl0 : l = [] := Classical.byContradiction fun h => by obtain ⟨a, ha, _⟩ := hin h; cases ha
    subst hl0
    refine ⟨.slice (some ⟨g, 0, none⟩) 1 1, W, ?_, ?_, ⟨rfl, rfl, rfl, Nat.le_refl _, fun _ _ _ => rfl⟩⟩
    · simp [Builtin.append_, go_sem, run_underlying Try.underlying38, Sem.run_bind]
    · exact ⟨_, 1, rfl, InAt.one hg⟩
  | some a =>
    obtain ⟨i0, hi0, hi1⟩ := Option.map_eq_some_iff.1 info3
    simp only [Prod.mk.injEq] at hi1
    obtain ⟨hz0, hz1, hz2⟩ := hi1
    have hown : W.ownsRow B 3 1 (.slice (some ⟨g, 0, none⟩) 1 1) 1 [.int .i64 one] := ⟨rfl, .inr ⟨g, 1, _, rfl, hB, hg, Nat.le_refl _, by decide, rfl, rfl⟩⟩
    obtain ⟨v', w', h1, h2, h3, _, h5⟩ := run_append_own_at (P := Try.prog) W B 38 ty 3 i0 _ 1 8 Try.underlying38 hi0 hz0 hz1 hz2 rfl (by omega)
      (.slice (some ⟨g, 0, none⟩) 1 1) 1 [.int .i64 one] hown a l.length c (l.map fun x => .int .i64 x) (by simp) (fun j u hj => by
        have hjl : j < l.length := by
          have := (List.getElem?_eq_some_iff.1 hj).1
          simpa using this
        obtain ⟨a', ha', hc⟩ := hin (fun e => by rw [e] at hjl; simp at hjl)
        cases ha'
        rw [List.getElem?_map, List.getElem?_eq_getElem hjl] at hj
        rw [hc j l[j] (List.getElem?_eq_getElem hjl)]
        exact hj) (by intro u hu; obtain ⟨x, _, rfl⟩ := List.mem_map.1 hu; rfl) (by simp only [maxLen]; omega) (by omega) (by omega)
    exact ⟨v', w', h1, lv_own (by simp; omega) h2, h3⟩
theorem wpList_append_ints {W : World} {ops : Array Oper} {rest : List Oper} {o : Oper} {a : Act} {Q : Exit → Act → World → Prop} (hgd : o.guard = none) (s x : Operand) (ho : o.op = .call { callee := .builtin .append, args := #[s, x], argTypes := #[38, 38] })
    (B g : Nat) (v : Value) (one : Int) (l : List Int) (hs : a.eval s = .slice (some ⟨g, 0, none⟩) 1 1) (hx : a.eval x = v) (hg : Blk W g 3 #[.int .i64 one]) (hv : Lv W v l) (hl : l.length ≤ 1000) (hB : B ≤ g)
    (h : ∀ v' w', Lv w' v' (one :: l) → W.grownBy w' (some g) → wpList Try.prog ops Q rest (a.put o.dst v') w') : wpList Try.prog ops Q (o :: rest) a W := by
  refine wpList_plain hgd fun _ hK => ?_
  obtain ⟨v', w', hr, h2, h3⟩ := append_ints hg hv hl hB o.type
  unfold Oper.wp execOp
  simp only [ho, resolve, invoke, builtin, Sem.run_bind, Sem.run_pure, Result.andThen_ok, List.map_toArray, List.map_cons, List.map_nil, hs, hx, hr]
  exact hK _ _ (h v' w' h2 h3)
end Td
end Go.Proofs.Ytmofbnadfgejiaa
/- The fewest readings. -/
namespace Go.Proofs.Ytmofbnadfgejiaa
open Go.RowKit
namespace Td
set_option linter.unusedSimpArgs false
set_option linter.unusedVariables false
attribute [local go_sem] Oper.semAt_some
theorem made61 : (#[.int .i64 0, .int .i64 0, .int .i64 0, .int .i64 0, .int .i64 0, .int .i64 0, .int .i64 0, .int .i64 0, .int .i64 0, .int .i64 0, .int .i64 0, .int .i64 0, .int .i64 0, .int .i64 0, .int .i64 0, .int .i64 0, .int .i64 0, .int .i64 0, .int .i64 0, .int .i64 0, .int .i64 0, .int .i64 0, .int .i64 0, .int .i64 0, .int .i64 0, .int .i64 0, .int .i64 0, .int .i64 0, .int .i64 0, .int .i64 0, .int .i64 0, .int .i64 0, .int .i64 0, .int .i64 0, .int .i64 0, .int .i64 0, .int .i64 0, .int .i64 0, .int .i64 0, .int .i64 0, .int .i64 0, .int .i64 0, .int .i64 0, .int .i64 0, .int .i64 0, .int .i64 0, .int .i64 0, .int .i64 0, .int .i64 0, .int .i64 0, .int .i64 0, .int .i64 0, .int .i64 0, .int .i64 0, .int .i64 0, .int .i64 0, .int .i64 0, .int .i64 0, .int .i64 0, .int .i64 0, .int .i64 0] : Array Value) = rowF (fun _ => 0) 61 := rfl
/-- slices in a row. -/
def rowV (f : Nat → Value) (n : Nat) : Array Value := ((List.range n).map f).toArray
theorem rowV_get (f : Nat → Value) {n k : Nat} (h : k < n) : (rowV f n)[k]? = some (f k) := by simp [rowV, h]
theorem rowV_set (f : Nat → Value) (n k : Nat) (v : Value) : (rowV f n).setIfInBounds k v = rowV (fun i => if i = k then v else f i) n := by
  apply Array.ext'
  simp only [rowV, List.setIfInBounds_toArray]
  apply List.ext_getElem?
  intro i
  rw [List.getElem?_set]
  by_cases h : k = i
  · subst h
    by_cases hk : k < n <;> simp [hk]
  · by_cases hi : i < n
    · simp [hi, h, show ¬ i = k from fun e => h e.symm]
    · simp [hi, h]
theorem Lv.set {W : World} {p : Addr} {a : Option Addr} {b c : Nat} {u : Value} {v : Value} {l : List Int} (h : Lv W v l) (hp : W.cell? p = some (.slice a b c)) : Lv (W.setCell p u) v l := by
  obtain ⟨A, d, h1, h2⟩ := h
  refine ⟨A, d, h1, fun hx => ?_⟩
  obtain ⟨q, hq, hc⟩ := h2 hx
  refine ⟨q, hq, fun i z hz => ?_⟩
  have h3 := hc i z hz
  rw [World.cell?_setCell_other]
  · exact h3
  · intro e
    rw [← e, hp] at h3
    cases h3
theorem madeS61 : (#[.slice none 0 0, .slice none 0 0, .slice none 0 0, .slice none 0 0, .slice none 0 0, .slice none 0 0, .slice none 0 0, .slice none 0 0, .slice none 0 0, .slice none 0 0, .slice none 0 0, .slice none 0 0, .slice none 0 0, .slice none 0 0, .slice none 0 0, .slice none 0 0, .slice none 0 0, .slice none 0 0, .slice none 0 0, .slice none 0 0, .slice none 0 0, .slice none 0 0, .slice none 0 0, .slice none 0 0, .slice none 0 0, .slice none 0 0, .slice none 0 0, .slice none 0 0, .slice none 0 0, .slice none 0 0, .slice none 0 0, .slice none 0 0, .slice none 0 0, .slice none 0 0, .slice none 0 0, .slice none 0 0, .slice none 0 0, .slice none 0 0, .slice none 0 0, .slice none 0 0, .slice none 0 0, .slice none 0 0, .slice none 0 0, .slice none 0 0, .slice none 0 0, .slice none 0 0, .slice none 0 0, .slice none 0 0, .slice none 0 0, .slice none 0 0, .slice none 0 0, .slice none 0 0, .slice none 0 0, .slice none 0 0, .slice none 0 0, .slice none 0 0, .slice none 0 0, .slice none 0 0, .slice none 0 0, .slice none 0 0, .slice none 0 0] : Array Value) = rowV (fun _ => .slice none 0 0) 61 := rfl
theorem run_slice61 (g e u : Nat) (h1 : e ≤ u) (h2 : u < 60) (W : World) : (Instr.sliceAt 138 (.pointer (some ⟨g, 0, none⟩)) (some (.int .i64 ((e : Int) + 1))) (some (.int .i64 ((u : Int) + 2))) none).run Try.prog W = .ok (.slice (some ⟨g, e + 1, none⟩) (u + 1 - e) (61 - (e + 1))) W := by
  have hA : Try.prog.arrayLen 138 = 61 := by kernel_rfl
  have hEl : Try.prog.elem 138 = 38 := by kernel_rfl
  have hI : (Try.prog.info? 38).map (fun i => i.size) = some 1 := by kernel_rfl
  have hS : (sizeOf (Try.prog.elem 138)).run Try.prog W = .ok 1 W := by
    rw [hEl]
    obtain ⟨i, h1, h2⟩ := Option.map_eq_some_iff.1 hI
    simp [sizeOf, typeInfo, h1, h2]
  rw [run_sliceAt_array_lh (P := Try.prog) W 138 ⟨g, 0, none⟩ (by rw [hA, hEl]; exact Try.underlying138) .i64 .i64 ((e : Int) + 1) ((u : Int) + 2) (by omega) (by omega) (by rw [hA]; omega), hS, hA]
  have e1 : ((e : Int) + 1).toNat = e + 1 := by omega
  have e2 : ((u : Int) + 2).toNat = u + 2 := by omega
  have e3 : u + 2 - (e + 1) = u + 1 - e := by omega
  simp [Result.andThen, slicedAt, e1, e2, e3, add_new, show ¬ 61 = e + 1 by omega]
/-- what is known of the minutes so far. -/
def uK (U : Int → Int) (fr k i : Nat) : Int := if fr ≤ i ∧ i < fr + k then U i else 0
theorem uK_set (U : Int → Int) (fr k : Nat) : (fun i => if i = fr + k then U ((fr : Int) + (k : Int)) else uK U fr k i) = uK U fr (k + 1) := by
  funext i
  unfold uK
  by_cases h : i = fr + k
  · subst h
    rw [if_pos rfl, if_pos (by omega)]
    push_cast
    rfl
  · rw [if_neg h]
    by_cases h2 : fr ≤ i ∧ i < fr + k
    · rw [if_pos h2, if_pos (by omega)]
    · rw [if_neg h2, if_neg (by omega)]
set_option maxRecDepth 100000 in
set_option maxHeartbeats 4000000 in
theorem fewest_c (s : Spc) (m : Sl) (r : Rd) (to : Nat) (w : World) (hs : SOk s) (hsa : SAt w m s) (hr : ROk s r) (hto : to ≤ 60) (hrt : r.min ≤ to) (hh : r.min ≤ hol s r) :
    Calls Try.prog 64 #[.agg (wV s m none), .agg (rV r), .int .i64 (to : Int)] w fun e w' => (∃ v, e = .returned v ∧ Lv w' v (few s r to)) ∧ Below w.heap.size w w' := by
  obtain ⟨rmin, tool, shown⟩ := r
  have hm0 := hr.m0
  dsimp only at hm0 hrt hh
  obtain ⟨fr, rfl⟩ : ∃ fr : Nat, rmin = fr := ⟨rmin.toNat, by omega⟩
  have hft : fr ≤ to := by omega
  obtain ⟨U, hU⟩ : ∃ U : Int → Int, (fun m => hol s ⟨m, tool, shown⟩) = U := ⟨_, rfl⟩
  have hFew : few s ⟨(fr : Int), tool, shown⟩ (to : Int) = tab U fr to (to + 1 - fr) fr := by
    rw [← hU]; rfl
  have hUown : ∀ m : Int, 0 ≤ m → m ≤ 60 → m ≤ U m ∧ U m ≤ 60 := fun m h0 h1 => by
    rw [← hU]
    exact ⟨hol_own (r := ⟨(fr : Int), tool, shown⟩) (by omega) (by show (fr : Int) ≤ 60; omega) hh h0 h1, (hol_in (r := ⟨m, tool, shown⟩) h0 h1).2.1⟩
  have hUm : ∀ m : Int, hol s ⟨m, tool, shown⟩ = U m := fun m => by rw [← hU]
  rw [hFew]
  have HUO := Lib.hid hUown
  have HUM := Lib.hid hUm
  have hrok : ∀ x : Nat, x ≤ 60 → ROk s ⟨(x : Int), tool, shown⟩ := fun x hx => ⟨hr.t0, hr.t1, by show (0 : Int) ≤ x; omega, by show (x : Int) ≤ 60; omega, hr.h0, hr.h1⟩
  have HRO := Lib.hid hrok
  clear hU hFew hUown hUm hrok hr hh hm0 hrt
  have hsn0 := ((Since.refl w).alloc (.cells (wV s m none) 93)).alloc (.cells (rV ⟨(fr : Int), tool, shown⟩) 61)
  obtain ⟨W3, hW3⟩ : ∃ W3, ((w.alloc (.cells (wV s m none) 93)).alloc (.cells (rV ⟨(fr : Int), tool, shown⟩) 61)).alloc (.cells #[.int .i64 0, .int .i64 0, .int .i64 0, .int .i64 0, .int .i64 0, .int .i64 0, .int .i64 0, .int .i64 0, .int .i64 0, .int .i64 0, .int .i64 0, .int .i64 0, .int .i64 0, .int .i64 0, .int .i64 0, .int .i64 0, .int .i64 0, .int .i64 0, .int .i64 0, .int .i64 0, .int .i64 0, .int .i64 0, .int .i64 0, .int .i64 0, .int .i64 0, .int .i64 0, .int .i64 0, .int .i64 0, .int .i64 0, .int .i64 0, .int .i64 0, .int .i64 0, .int .i64 0, .int .i64 0, .int .i64 0, .int .i64 0, .int .i64 0, .int .i64 0, .int .i64 0, .int .i64 0, .int .i64 0, .int .i64 0, .int .i64 0, .int .i64 0, .int .i64 0, .int .i64 0, .int .i64 0, .int .i64 0, .int .i64 0, .int .i64 0, .int .i64 0, .int .i64 0, .int .i64 0, .int .i64 0, .int .i64 0, .int .i64 0, .int .i64 0, .int .i64 0, .int .i64 0, .int .i64 0, .int .i64 0] 137) = W3 := ⟨_, rfl⟩
  have hsn3 : Since w W3 := by rw [← hW3]; exact hsn0.alloc _
  have HS3 : Hid (Blk W3 w.heap.size 93 (wV s m none)) := by rw [← hW3]; exact ((Blk.new w _ _).alloc _).alloc _
  have HR3 : Hid (∃ x : Nat, Blk W3 (w.heap.size + 1) 61 (rV ⟨(x : Int), tool, shown⟩)) := ⟨fr, by rw [← hW3]; exact (Blk.new1 w _ _ _).alloc _⟩
  have HU3 : Hid (Blk W3 (w.heap.size + 1 + 1) 137 (rowF (uK U fr 0) 61)) := by
    rw [rowF_congr (g := fun _ => 0) (fun i _ => by unfold uK; rw [if_neg (by omega)]), ← made61, ← hW3]
    exact Blk.new2 w _ _ _ _
  have HW3 := Lib.hid hW3
  clear hW3
  go_enter Try.func64, Try.ntmps64
  go_wp2
  go_step3
  go_wp2_with fail
  rw [HW3.out]
  clear HW3
  go_loopw [9] (fun i wr => ∃ k : Nat, i = .int .i64 ((fr : Int) + (k : Int)) ∧ fr + k ≤ to + 1 ∧ Since w wr ∧ Hid (Blk wr w.heap.size 93 (wV s m none)) ∧ Hid (∃ x : Nat, Blk wr (w.heap.size + 1) 61 (rV ⟨(x : Int), tool, shown⟩)) ∧ Hid (Blk wr (w.heap.size + 1 + 1) 137 (rowF (uK U fr k) 61))) (fun i _ => to + 1 - (intOf i).toNat)
  case atStart => exact ⟨0, by simp, by omega, hsn3, HS3, HR3, HU3⟩
  case round =>
    obtain ⟨k, rfl, hk, hsn, HS, HR, HU⟩ := hrel
    by_cases hkt : fr + k ≤ to
    · have hkt' : (fr : Int) + (k : Int) ≤ (to : Int) := by omega
      obtain ⟨x, hx⟩ := HR.out
      have e0 := hx.cell 0
      have e1 := hx.cell 1
      have e2 := hx.cell 2
      have f0 := hx.frozen 0
      simp only [List.getElem?_toArray, List.getElem?_cons_zero, List.getElem?_cons_succ] at e0 e1 e2
      obtain ⟨d0, d1, d2, d3, d4, d5, d6, d7, d8, d9⟩ := HS.out.watch
      have hsn1 : Since w (wr.setCell ⟨w.heap.size + 1, 0, none⟩ (.int .i64 ((fr : Int) + (k : Int)))) := ⟨hsn.1.setCell (p := ⟨w.heap.size + 1, 0, none⟩) (by simp) _, by simpa using hsn.2⟩
      have HS1 := Lib.hid (HS.out.far (g' := w.heap.size + 1) (by omega) 0 (.int .i64 ((fr : Int) + (k : Int))))
      have HR1 := hx.set 0 (.int .i64 ((fr : Int) + (k : Int)))
      have HU1 := Lib.hid (HU.out.far (g' := w.heap.size + 1) (by omega) 0 (.int .i64 ((fr : Int) + (k : Int))))
      simp only [List.setIfInBounds_toArray, List.set_cons_zero] at HR1
      have HR2 := Lib.hid HR1
      have hH := holds_c s m ⟨((fr + k : Nat) : Int), tool, shown⟩ _ hs (hsa.keep hsn1.1) (HRO.out (fr + k) (by omega))
      push_cast at hH
      rw [HUM.out] at hH
      dsimp only [rV] at hH
      clear HR1
      go_wp2_with fail
      refine hH.mono ?_
      clear hH e0 e1 e2 f0 d0 d1 d2 d3 d4 d5 d6 d7 d8 d9
      rintro e w2 ⟨rfl, hb⟩
      have hsn2 := hsn1.keep hb
      have HS4 := Lib.hid (HS1.out.keep hb)
      have HR4 := Lib.hid (HR2.out.keep hb)
      have HU4 := Lib.hid (HU1.out.keep hb)
      obtain ⟨q, hq⟩ : ∃ q : Nat, fr + k = q := ⟨_, rfl⟩
      have hq2 : (fr : Int) + (k : Int) = (q : Int) := by omega
      rw [hq2]
      have u0 := HU4.out.cell q
      rw [rowF_get _ (show q < 61 by omega)] at u0
      have f0 := HU4.out.frozen q
      have hq61 : (q : Int) < 61 := by omega
      go_wp2_with fail
      go_roundw
      case rel =>
        refine ⟨k + 1, by rw [← hq2]; first | (push_cast; done) | (push_cast; congr 1), by omega, ⟨hsn2.1.setCell (p := ⟨w.heap.size + 1 + 1, q, none⟩) (by simp; omega) _, by simpa using hsn2.2⟩, Lib.hid (HS4.out.far (by omega) _ _), ⟨fr + k, ?_⟩, ?_⟩
        · have := HR4.out.far (g' := w.heap.size + 1 + 1) (by omega) q (.int .i64 (U (q : Int)))
          push_cast
          exact this
        · have := HU4.out.set q (.int .i64 (U (q : Int)))
          rw [rowF_set, ← hq, show ((fr + k : Nat) : Int) = (fr : Int) + (k : Int) by push_cast; rfl, uK_set] at this
          rw [← hq]
          push_cast
          exact this
      case measure => simp [intOf]; omega
    · have hkt' : ¬ (fr : Int) + (k : Int) ≤ (to : Int) := by omega
      obtain rfl : k = to + 1 - fr := by omega
      have hsn5 := hsn.alloc (.cells #[.slice none 0 0, .slice none 0 0, .slice none 0 0, .slice none 0 0, .slice none 0 0, .slice none 0 0, .slice none 0 0, .slice none 0 0, .slice none 0 0, .slice none 0 0, .slice none 0 0, .slice none 0 0, .slice none 0 0, .slice none 0 0, .slice none 0 0, .slice none 0 0, .slice none 0 0, .slice none 0 0, .slice none 0 0, .slice none 0 0, .slice none 0 0, .slice none 0 0, .slice none 0 0, .slice none 0 0, .slice none 0 0, .slice none 0 0, .slice none 0 0, .slice none 0 0, .slice none 0 0, .slice none 0 0, .slice none 0 0, .slice none 0 0, .slice none 0 0, .slice none 0 0, .slice none 0 0, .slice none 0 0, .slice none 0 0, .slice none 0 0, .slice none 0 0, .slice none 0 0, .slice none 0 0, .slice none 0 0, .slice none 0 0, .slice none 0 0, .slice none 0 0, .slice none 0 0, .slice none 0 0, .slice none 0 0, .slice none 0 0, .slice none 0 0, .slice none 0 0, .slice none 0 0, .slice none 0 0, .slice none 0 0, .slice none 0 0, .slice none 0 0, .slice none 0 0, .slice none 0 0, .slice none 0 0, .slice none 0 0, .slice none 0 0] 138)
      have HU5 := Lib.hid (HU.out.alloc (.cells #[.slice none 0 0, .slice none 0 0, .slice none 0 0, .slice none 0 0, .slice none 0 0, .slice none 0 0, .slice none 0 0, .slice none 0 0, .slice none 0 0, .slice none 0 0, .slice none 0 0, .slice none 0 0, .slice none 0 0, .slice none 0 0, .slice none 0 0, .slice none 0 0, .slice none 0 0, .slice none 0 0, .slice none 0 0, .slice none 0 0, .slice none 0 0, .slice none 0 0, .slice none 0 0, .slice none 0 0, .slice none 0 0, .slice none 0 0, .slice none 0 0, .slice none 0 0, .slice none 0 0, .slice none 0 0, .slice none 0 0, .slice none 0 0, .slice none 0 0, .slice none 0 0, .slice none 0 0, .slice none 0 0, .slice none 0 0, .slice none 0 0, .slice none 0 0, .slice none 0 0, .slice none 0 0, .slice none 0 0, .slice none 0 0, .slice none 0 0, .slice none 0 0, .slice none 0 0, .slice none 0 0, .slice none 0 0, .slice none 0 0, .slice none 0 0, .slice none 0 0, .slice none 0 0, .slice none 0 0, .slice none 0 0, .slice none 0 0, .slice none 0 0, .slice none 0 0, .slice none 0 0, .slice none 0 0, .slice none 0 0, .slice none 0 0] 138))
      have HL5 : Hid (Blk (wr.alloc (.cells #[.slice none 0 0, .slice none 0 0, .slice none 0 0, .slice none 0 0, .slice none 0 0, .slice none 0 0, .slice none 0 0, .slice none 0 0, .slice none 0 0, .slice none 0 0, .slice none 0 0, .slice none 0 0, .slice none 0 0, .slice none 0 0, .slice none 0 0, .slice none 0 0, .slice none 0 0, .slice none 0 0, .slice none 0 0, .slice none 0 0, .slice none 0 0, .slice none 0 0, .slice none 0 0, .slice none 0 0, .slice none 0 0, .slice none 0 0, .slice none 0 0, .slice none 0 0, .slice none 0 0, .slice none 0 0, .slice none 0 0, .slice none 0 0, .slice none 0 0, .slice none 0 0, .slice none 0 0, .slice none 0 0, .slice none 0 0, .slice none 0 0, .slice none 0 0, .slice none 0 0, .slice none 0 0, .slice none 0 0, .slice none 0 0, .slice none 0 0, .slice none 0 0, .slice none 0 0, .slice none 0 0, .slice none 0 0, .slice none 0 0, .slice none 0 0, .slice none 0 0, .slice none 0 0, .slice none 0 0, .slice none 0 0, .slice none 0 0, .slice none 0 0, .slice none 0 0, .slice none 0 0, .slice none 0 0, .slice none 0 0, .slice none 0 0] 138)) wr.heap.size 138 (rowV (fun _ => .slice none 0 0) 61)) := by
        rw [← madeS61]; exact Blk.new _ _ _
      obtain ⟨W5, hW5⟩ : ∃ W5, wr.alloc (.cells #[.slice none 0 0, .slice none 0 0, .slice none 0 0, .slice none 0 0, .slice none 0 0, .slice none 0 0, .slice none 0 0, .slice none 0 0, .slice none 0 0, .slice none 0 0, .slice none 0 0, .slice none 0 0, .slice none 0 0, .slice none 0 0, .slice none 0 0, .slice none 0 0, .slice none 0 0, .slice none 0 0, .slice none 0 0, .slice none 0 0, .slice none 0 0, .slice none 0 0, .slice none 0 0, .slice none 0 0, .slice none 0 0, .slice none 0 0, .slice none 0 0, .slice none 0 0, .slice none 0 0, .slice none 0 0, .slice none 0 0, .slice none 0 0, .slice none 0 0, .slice none 0 0, .slice none 0 0, .slice none 0 0, .slice none 0 0, .slice none 0 0, .slice none 0 0, .slice none 0 0, .slice none 0 0, .slice none 0 0, .slice none 0 0, .slice none 0 0, .slice none 0 0, .slice none 0 0, .slice none 0 0, .slice none 0 0, .slice none 0 0, .slice none 0 0, .slice none 0 0, .slice none 0 0, .slice none 0 0, .slice none 0 0, .slice none 0 0, .slice none 0 0, .slice none 0 0, .slice none 0 0, .slice none 0 0, .slice none 0 0, .slice none 0 0] 138) = W5 := ⟨_, rfl⟩
      rw [hW5] at hsn5 HU5 HL5
      have HW5 := Lib.hid hW5
      have hz5 : W5.heap.size = wr.heap.size + 1 := by rw [← hW5]; simp
      have hzU := HU.out.lt
      clear hW5 HS HR HU
      go_wp2
      go_step3
      go_wp2_with fail
      rw [HW5.out]
      clear HW5
      obtain ⟨gL, hgL⟩ : ∃ gL, wr.heap.size = gL := ⟨_, rfl⟩
      rw [hgL] at HL5 hz5 hzU ⊢
      clear hgL hkt hkt' hk hsn
      go_loopg [11, 12, 13] (to + 1 - fr) (fun g s11 s12 s13 wx => ∃ (d : Nat) (vals : Nat → Value), d + g = to + 1 - fr ∧ s11 = .int .i64 ((to : Int) - (d : Int)) ∧ Since w wx ∧ Hid (Blk wx (w.heap.size + 1 + 1) 137 (rowF (uK U fr (to + 1 - fr)) 61)) ∧ Hid (Blk wx gL 138 (rowV vals 61)) ∧ Hid (∀ i, i < 61 → Lv wx (vals i) (tab U fr to d i)))
      case atStart => exact ⟨0, fun _ => .slice none 0 0, by omega, by simp, hsn5, HU5, HL5, fun i _ => Lv.nil _⟩
      case round =>
        obtain ⟨d, vals, hd, rfl, hsn, HU, HL, HV⟩ := hrel
        cases gk with
        | zero =>
          have hno : ¬ (fr : Int) ≤ (to : Int) - (d : Int) := by omega
          have l0 := HL.out.cell fr
          rw [rowV_get _ (show fr < 61 by omega)] at l0
          have hf61 : (fr : Int) < 61 := by omega
          have hf0 : ¬ (fr : Int) < 0 := by omega
          obtain ⟨vA, vc, hv1, hv2⟩ := HV.out fr (by omega)
          have HV1 := Lib.hid hv1
          have HV2 := Lib.hid hv2
          rw [hv1] at l0
          clear hv1 hv2
          go_wp2_with fail
          try rw [Exit.noGoto_ret]
          go_ret
          obtain rfl : d = to + 1 - fr := by omega
          exact ⟨⟨_, rfl, vA, vc, rfl, HV2.out⟩, hsn.1⟩
        | succ g =>
          obtain ⟨q, hq⟩ : ∃ q : Nat, q = to - d := ⟨_, rfl⟩
          have hq2 : (to : Int) - (d : Int) = (q : Int) := by omega
          rw [hq2]
          have hqf : fr ≤ q := by omega
          have hqf' : (fr : Int) ≤ (q : Int) := by omega
          have HQ := Lib.hid hq
          have HQ2 := Lib.hid hq2
          have HD := Lib.hid hd
          clear hq hq2 hd
          go_wp2_with fail
          clear hqf'
          have hq60 : q ≤ 60 := by have := HQ.out; omega
          have hqU := HUO.out q (by omega) (by omega)
          have hzL := HL.out.lt
          go_loopg [12] (q - fr) (fun g2 s12 wy => ∃ j : Nat, j + g2 = q - fr ∧ s12 = .int .i64 ((fr : Int) + (j : Int)) ∧ Aside (∀ e : Nat, e < fr + j → fr ≤ e → U e < U q) ∧ Since wr wy)
          case atStart => exact ⟨0, by omega, by simp, fun e h1 h2 => absurd h1 (by omega), Since.refl _⟩
          case round =>
            obtain ⟨j, hj, rfl, HJ, hsy⟩ := hrel
            have HU7 := Lib.hid (HU.out.keep hsy.1)
            have HL7 := Lib.hid (HL.out.keep hsy.1)
            have hsn7 := hsn.keep hsy.1
            have HV7 : Hid (∀ i, i < 61 → Lv wr (vals i) (tab U fr to d i)) := fun i hi => (HV.out i hi).keep hsy.1
            clear HU HL HV
            obtain ⟨e, he⟩ : ∃ e : Nat, e = fr + j := ⟨_, rfl⟩
            have he2 : (fr : Int) + (j : Int) = (e : Int) := by omega
            rw [he2]
            have HE := Lib.hid he
            have hd := HD.out
            have hq := HQ.out
            cases gk with
            | zero =>
              obtain rfl : e = q := by omega
              have hno : ¬ (e : Int) < (e : Int) := by omega
              have hnone : ∀ e' : Nat, e' < e → fr ≤ e' → U e' < U e := fun e' h1 h2 => HJ.out e' (by omega) h2
              have HT := Lib.hid (tab_take (U := U) (fr := fr) (to := to) (d := d) (m := e) hq hnone)
              have u0 := HU7.out.cell e
              rw [rowF_get _ (show e < 61 by omega), show uK U fr (to + 1 - fr) e = U e from if_pos ⟨hqf, by omega⟩] at u0
              have he61 : (e : Int) < 61 := by omega
              obtain ⟨u, hu⟩ : ∃ u : Nat, U (e : Int) = (u : Int) := ⟨(U e).toNat, by omega⟩
              rw [hu] at u0 HT hqU
              have huq : e ≤ u := by omega
              have hu60 : u ≤ 60 := by omega
              have HJJ := Lib.hid hj
              have HE2 := Lib.hid he2
              clear HJ hnone he he2 hq hd hj
              have l0 := HL7.out.cell e
              rw [rowV_get _ (show e < 61 by omega)] at l0
              have f0 := HL7.out.frozen e
              by_cases hut : u < to
              · have hut' : (u : Int) < (to : Int) := by omega
                rw [if_pos (by omega)] at HT
                have hw1 : IntKind.i64.wrap ((e : Int) + 1) = (e : Int) + 1 := IntWalk.i64_in _ (by omega)
                have hw2 : IntKind.i64.wrap ((u : Int) + 2) = (u : Int) + 2 := IntWalk.i64_in _ (by omega)
                have hsl := run_slice61 gL e u huq (by omega)
                have hSh := shortest_c gL (e + 1) (u + 1 - e) (60 - e) (fun i => vals (e + 1 + i)) (fun i => tab U fr to d (e + 1 + i)) wr (by omega) (fun i hi => by
                  rw [HL7.out.cell (e + 1 + i), rowV_get vals (show e + 1 + i < 61 by omega)]) (fun i hi => HV7.out _ (by omega))
                have hlen : (shortest ((List.range (u + 1 - e)).map fun i => tab U fr to d (e + 1 + i))).length ≤ 1000 := shortest_len fun x hx => by
                  obtain ⟨i, _, rfl⟩ := List.mem_map.1 hx
                  exact Nat.le_trans tab_len (by have := HD.out; omega)
                rw [show ((u : Int).toNat + 1 - e) = u + 1 - e by omega] at HT
                obtain ⟨sh, hsh⟩ : ∃ sh, shortest ((List.range (u + 1 - e)).map fun i => tab U fr to d (e + 1 + i)) = sh := ⟨_, rfl⟩
                rw [hsh] at HT hSh hlen
                have HLE := Lib.hid hlen
                clear hsh hlen
                go_wp2_with fail
                refine hSh.mono ?_
                clear hSh hsl hw1 hw2
                rintro e9 w9 ⟨⟨v9, rfl, hv9⟩, rfl⟩
                have HV9 := Lib.hid (hv9.keep ((Below.refl _ _).alloc (Nat.le_refl _) (.cells #[.int .i64 (e : Int)] 3)))
                clear hv9
                go_wp2_with (at_builtin; refine wpList_append_ints rfl (.tmp 63) (.tmp 64) rfl wr.heap.size wr.heap.size v9 (e : Int) sh (by go_simp) (by go_simp) (Blk.new wr _ _) HV9.out HLE.out (Nat.le_refl _) ?_)
                intro v8 w8 hlv8 hgr8
                have hlv9 := hlv8
                have hzU7 := HU7.out.lt
                have hzL7 := HL7.out.lt
                obtain ⟨a8, c8, rfl, _⟩ := hlv9
                have HL8 := Lib.hid ((HL7.out.alloc (.cells #[.int .i64 (e : Int)] 3)).grown hgr8 (fun h => by have := Option.some.inj h; omega))
                have HU8 := Lib.hid ((HU7.out.alloc (.cells #[.int .i64 (e : Int)] 3)).grown hgr8 (fun h => by have := Option.some.inj h; omega))
                have hsn8 : Since w w8 := ⟨(hsn7.1.alloc hsn7.2 _).grown hgr8 (by have := hsn7.2; simp; omega) (fun k h => by cases h; exact hsn7.2), by have := hgr8.size; have := hsn7.2; simp at *; omega⟩
                have HV8 : Hid (∀ i, i < 61 → Lv w8 (vals i) (tab U fr to d i)) := fun i hi => by
                  obtain ⟨A, c, h1, h2⟩ := HV7.out i hi
                  refine ⟨A, c, h1, fun hx => ?_⟩
                  obtain ⟨q, hq, hc⟩ := h2 hx
                  refine ⟨q, hq, fun i z hz => ?_⟩
                  have h3 := hc i z hz
                  have h4 := cell_lt h3
                  have h5 : (wr.alloc (.cells #[.int .i64 (e : Int)] 3)).cell? (q.add i) = some (.int .i64 z) := ((Below.refl _ wr).alloc (Nat.le_refl _) _).cell h4 |>.trans h3
                  have h6 := hgr8.block (q.add i).block (by simp; omega) (fun h => by have := Option.some.inj h; omega)
                  rw [← h5]
                  unfold World.cell?
                  rw [h6]
                have l8 := HL8.out.cell e
                rw [rowV_get vals (show e < 61 by omega)] at l8
                have f8 := HL8.out.frozen e
                obtain ⟨eA, ec, hve, _⟩ := HV8.out e (by omega)
                rw [hve] at l8
                have HLV8 := Lib.hid hlv8
                have L8 := l8
                have HL8' := Lib.hid L8
                clear hlv8 hve L8 hgr8
                go_wp2_with fail
                go_roundg g
                case measure => omega
                case rel =>
                  refine ⟨d + 1, fun i => if i = e then .slice a8 (sh.length + 1) c8 else vals i, by have := HD.out; omega, ?_, ⟨hsn8.1.setCell (p := ⟨gL, e, none⟩) (by simp; omega) _, by simpa using hsn8.2⟩, Lib.hid (HU8.out.far (by omega) _ _), ?_, fun i hi => ?_⟩
                  · have := HQ2.out; push_cast; congr 1; omega
                  · have := HL8.out.set e (.slice a8 (sh.length + 1) c8)
                    rw [rowV_set] at this
                    exact this
                  · by_cases hie : i = e
                    · subst hie
                      simp only [if_pos rfl]
                      rw [HT]
                      exact HLV8.out.set HL8'.out
                    · simp only [if_neg hie]
                      rw [tab_other (by rw [← HQ.out]; exact hie)]
                      exact (HV8.out i hi).set HL8'.out
              · have hut' : ¬ (u : Int) < (to : Int) := by omega
                rw [if_neg (by omega)] at HT
                go_wp2_with (at_builtin; refine wpList_append_ints rfl (.tmp 63) (.tmp 64) rfl wr.heap.size wr.heap.size (.slice none 0 0) (e : Int) [] (by go_simp) (by go_simp) (Blk.new wr _ _) (Lv.nil _) (by simp) (Nat.le_refl _) ?_)
                intro v8 w8 hlv8 hgr8
                have hlv9 := hlv8
                have hzU7 := HU7.out.lt
                have hzL7 := HL7.out.lt
                obtain ⟨a8, c8, rfl, _⟩ := hlv9
                have HL8 := Lib.hid ((HL7.out.alloc (.cells #[.int .i64 (e : Int)] 3)).grown hgr8 (fun h => by have := Option.some.inj h; omega))
                have HU8 := Lib.hid ((HU7.out.alloc (.cells #[.int .i64 (e : Int)] 3)).grown hgr8 (fun h => by have := Option.some.inj h; omega))
                have hsn8 : Since w w8 := ⟨(hsn7.1.alloc hsn7.2 _).grown hgr8 (by have := hsn7.2; simp; omega) (fun k h => by cases h; exact hsn7.2), by have := hgr8.size; have := hsn7.2; simp at *; omega⟩
                have HV8 : Hid (∀ i, i < 61 → Lv w8 (vals i) (tab U fr to d i)) := fun i hi => by
                  obtain ⟨A, c, h1, h2⟩ := HV7.out i hi
                  refine ⟨A, c, h1, fun hx => ?_⟩
                  obtain ⟨q, hq, hc⟩ := h2 hx
                  refine ⟨q, hq, fun i z hz => ?_⟩
                  have h3 := hc i z hz
                  have h4 := cell_lt h3
                  have h5 : (wr.alloc (.cells #[.int .i64 (e : Int)] 3)).cell? (q.add i) = some (.int .i64 z) := ((Below.refl _ wr).alloc (Nat.le_refl _) _).cell h4 |>.trans h3
                  have h6 := hgr8.block (q.add i).block (by simp; omega) (fun h => by have := Option.some.inj h; omega)
                  rw [← h5]
                  unfold World.cell?
                  rw [h6]
                have l8 := HL8.out.cell e
                rw [rowV_get vals (show e < 61 by omega)] at l8
                have f8 := HL8.out.frozen e
                obtain ⟨eA, ec, hve, _⟩ := HV8.out e (by omega)
                rw [hve] at l8
                have HLV8 := Lib.hid hlv8
                have L8 := l8
                have HL8' := Lib.hid L8
                clear hlv8 hve L8 hgr8
                go_wp2_with fail
                go_roundg g
                case measure => omega
                case rel =>
                  refine ⟨d + 1, fun i => if i = e then .slice a8 1 c8 else vals i, by have := HD.out; omega, ?_, ⟨hsn8.1.setCell (p := ⟨gL, e, none⟩) (by simp; omega) _, by simpa using hsn8.2⟩, Lib.hid (HU8.out.far (by omega) _ _), ?_, fun i hi => ?_⟩
                  · have := HQ2.out; push_cast; congr 1; omega
                  · have := HL8.out.set e (.slice a8 1 c8)
                    rw [rowV_set] at this
                    exact this
                  · by_cases hie : i = e
                    · subst hie
                      simp only [if_pos rfl]
                      rw [HT]
                      exact HLV8.out.set HL8'.out
                    · simp only [if_neg hie]
                      rw [tab_other (by rw [← HQ.out]; exact hie)]
                      exact (HV8.out i hi).set HL8'.out
            | succ g2 =>
              have hej : (e : Int) < (q : Int) := by omega
              have hU1 : uK U fr (to + 1 - fr) e = U e := if_pos (by omega)
              have hU2 : uK U fr (to + 1 - fr) q = U q := if_pos (by omega)
              have HJJ := Lib.hid hj
              have HE2 := Lib.hid he2
              have hq60 : q ≤ 60 := by omega
              clear he he2 hq hd hj
              go_wp2_with fail
              refine Vals6.regionAll (fun X => Blk X (w.heap.size + 1 + 1) 137 (rowF (uK U fr (to + 1 - fr)) 61) ∧ Since wr X) [some 41, some 42, some 43, some 44, some 45, some 46] [.is (.int .i64 (e : Int)), .is (.pointer (some ⟨w.heap.size + 1 + 1, e, none⟩)), .is (.int .i64 (U (e : Int))), .is (.int .i64 (q : Int)), .is (.pointer (some ⟨w.heap.size + 1 + 1, q, none⟩)), .is (.int .i64 (U (q : Int)))] (by kernel_rfl) rfl rfl (by kernel_rfl) (by kernel_rfl) (by kernel_rfl) (by kernel_rfl) (by kernel_rfl) (by kernel_rfl) (by kernel_rfl) (⟨HU7.out.drew, (Since.refl wr).drew⟩) ?_ ?_
              · refine Vals5.Steps.run (by kernel_rfl) (Vals5.Stable.is _) ?_ ?_
                · intro a W hS pre old K hK
                  have e12 : a.tmps.getD 12 undef = .int .i64 (e : Int) := old 12 _ (by kernel_rfl) rfl
                  clear pre old
                  simp only [Array.getD_eq_getD_getElem?] at e12
                  go_simp
                  exact hK _ _ hS (Below.refl _ _) rfl
                refine Vals5.Steps.run (by kernel_rfl) (Vals5.Stable.is _) ?_ ?_
                · intro a W hS pre old K hK
                  have e8 : a.tmps.getD 8 undef = .pointer (some ⟨w.heap.size + 1 + 1, 0, none⟩) := old 8 _ (by kernel_rfl) rfl
                  have e41 : a.tmps.getD 41 undef = .int .i64 (e : Int) := pre 0 41 _ (by kernel_rfl) rfl rfl
                  clear pre old
                  simp only [Array.getD_eq_getD_getElem?] at e8 e41
                  have h61 : (e : Int) < 61 := by omega
                  go_simp
                  first | exact hK _ _ hS (Below.refl _ _) rfl | (rw [add_new]; exact hK _ _ hS (Below.refl _ _) rfl)
                refine Vals5.Steps.run (by kernel_rfl) (Vals5.Stable.is _) ?_ ?_
                · intro a W hS pre old K hK
                  have e42 : a.tmps.getD 42 undef = .pointer (some ⟨w.heap.size + 1 + 1, e, none⟩) := pre 1 42 _ (by kernel_rfl) rfl rfl
                  clear pre old
                  simp only [Array.getD_eq_getD_getElem?] at e42
                  have hS9 := hS
                  have u1 := hS9.1.cell e
                  have u2 := hS9.1.cell q
                  rw [rowF_get _ (show e < 61 by omega), hU1] at u1
                  rw [rowF_get _ (show q < 61 by omega), hU2] at u2
                  go_simp
                  exact hK _ _ hS (Below.refl _ _) rfl
                refine Vals5.Steps.run (by kernel_rfl) (Vals5.Stable.is _) ?_ ?_
                · intro a W hS pre old K hK
                  have e11 : a.tmps.getD 11 undef = .int .i64 (q : Int) := old 11 _ (by kernel_rfl) rfl
                  clear pre old
                  simp only [Array.getD_eq_getD_getElem?] at e11
                  go_simp
                  exact hK _ _ hS (Below.refl _ _) rfl
                refine Vals5.Steps.run (by kernel_rfl) (Vals5.Stable.is _) ?_ ?_
                · intro a W hS pre old K hK
                  have e8 : a.tmps.getD 8 undef = .pointer (some ⟨w.heap.size + 1 + 1, 0, none⟩) := old 8 _ (by kernel_rfl) rfl
                  have e44 : a.tmps.getD 44 undef = .int .i64 (q : Int) := pre 3 44 _ (by kernel_rfl) rfl rfl
                  clear pre old
                  simp only [Array.getD_eq_getD_getElem?] at e8 e44
                  have h61 : (q : Int) < 61 := by omega
                  go_simp
                  first | exact hK _ _ hS (Below.refl _ _) rfl | (rw [add_new]; exact hK _ _ hS (Below.refl _ _) rfl)
                refine Vals5.Steps.run (by kernel_rfl) (Vals5.Stable.is _) ?_ ?_
                · intro a W hS pre old K hK
                  have e45 : a.tmps.getD 45 undef = .pointer (some ⟨w.heap.size + 1 + 1, q, none⟩) := pre 4 45 _ (by kernel_rfl) rfl rfl
                  clear pre old
                  simp only [Array.getD_eq_getD_getElem?] at e45
                  have hS9 := hS
                  have u1 := hS9.1.cell e
                  have u2 := hS9.1.cell q
                  rw [rowF_get _ (show e < 61 by omega), hU1] at u1
                  rw [rowF_get _ (show q < 61 by omega), hU2] at u2
                  go_simp
                  exact hK _ _ hS (Below.refl _ _) rfl
                exact Vals5.Steps.nil
              rintro X ⟨hb1, hs1⟩
              simp only [Vals5.All, List.getLast_cons_cons, List.getLast_singleton]
              simp only [Vals.putAll, List.setIfInBounds_toArray, List.set_cons_zero, List.set_cons_succ]
              intro K hK
              go_simp
              refine hK _ _ ?_
              clear hK K
              have hsy9 : Since wr X := hs1
              have HB1 := Lib.hid hb1
              by_cases hge : U (q : Int) ≤ U (e : Int)
              · have HT := Lib.hid (tab_skip (U := U) (fr := fr) (to := to) (d := d) (m := q) (e := e) HQ.out (by omega) (by have := HE.out; omega) hge)
                go_wp2_with fail
                go_roundg g
                case measure => omega
                case rel =>
                  refine ⟨d + 1, vals, by have := HD.out; omega, ?_, hsn7.keep hs1.1, HB1, Lib.hid (HL7.out.keep hs1.1), fun i hi => ?_⟩
                  · have := HQ2.out; push_cast; congr 1; omega
                  · by_cases hie : i = q
                    · subst hie
                      rw [HT.out]
                      have := (HV7.out i hi).keep hs1.1
                      rwa [tab_low (by have := HQ.out; have := HD.out; omega)] at this
                    · rw [tab_other (by rw [← HQ.out]; exact hie)]
                      exact (HV7.out i hi).keep hs1.1
              · have hge' : ¬ U (q : Int) ≤ U (e : Int) := hge
                go_wp2_with fail
                go_roundg g2
                case measure => omega
                case rel =>
                  refine ⟨j + 1, by have := HJJ.out; omega, by have := HE2.out; push_cast; congr 1; omega, fun e' h1 h2 => ?_, hsy.keep hs1.1⟩
                  by_cases hee : e' = e
                  · subst hee; omega
                  · exact HJ.out e' (by have := HE.out; omega) h2
end Td
end Go.Proofs.Ytmofbnadfgejiaa
/- Fewest. -/
namespace Go.Proofs.Ytmofbnadfgejiaa
open Go.RowKit
namespace Td
set_option linter.unusedSimpArgs false
set_option linter.unusedVariables false
attribute [local go_sem] Oper.semAt_some
set_option maxRecDepth 100000 in
set_option maxHeartbeats 4000000 in
theorem fewest2_c (s : Spc) (m : Sl) (r : Rd) (to : Int) (w : World) (hsa : SAt w m s) :
    Calls Try.prog 27 #[.agg (sV s m), .int .i64 r.tool, .int .i64 r.shown, .int .i64 r.min, .int .i64 to] w fun e w' => (∃ v, e = .returned (.tuple #[v, .int .i64 (fewestA s r to).2]) ∧ Lv w' v (fewestA s r to).1) ∧ Below w.heap.size w w' := by
  have hsn0 := (Since.refl w).alloc (.cells (sV s m) 27)
  have HS0 := Lib.hid (Blk.new w 27 (sV s m))
  obtain ⟨c0, c1, c2, c3, c4, c5, c6, c7, c8⟩ := HS0.out.space
  go_enter Try.func27, Try.ntmps27
  go_wp2_with fail
  refine (check_c s m _ (hsa.keep hsn0.1)).mono ?_
  rintro e w2 ⟨rfl, hb2⟩
  have hsn2 := hsn0.keep hb2
  have HS2 := Lib.hid (HS0.out.keep hb2)
  clear c0 c1 c2 c3 c4 c5 c6 c7 c8 hsn0 HS0
  by_cases h1 : (chk s).2.2 = 0
  · have hs := chk_ok h1
    rw [h1]
    have hsn3 := hsn2.alloc (.cells (rV r) 61)
    have HS3 := Lib.hid (HS2.out.alloc (.cells (rV r) 61))
    have HR3 := Lib.hid (Blk.new w2 61 (rV r))
    obtain ⟨c0, c1, c2, c3, c4, c5, c6, c7, c8⟩ := HS3.out.space
    go_wp2_with fail
    refine (readingFault_c s m r _ (by have := hs.t3; omega)).mono ?_
    rintro e w3 ⟨rfl, hb3⟩
    have hsn4 := hsn3.keep hb3
    have HS4 := Lib.hid (HS3.out.keep hb3)
    have HR4 := Lib.hid (HR3.out.keep hb3)
    clear c0 c1 c2 c3 c4 c5 c6 c7 c8
    by_cases h2 : rdE s.tools.length r = 0
    · have hr := rdE_ok.1 h2
      have hE2 : toolE2 s r = 0 := by simp [toolE2, h1, h2]
      rw [h2]
      clear h1 h2
      go_wp2_with fail
      refine (within_c _ _ _ _ _ _ (Blk.new _ _ _)).mono ?_
      rintro e w4 ⟨rfl, hb4⟩
      have hsn5 := (hsn4.alloc _).keep hb4
      have HS5 := Lib.hid ((HS4.out.alloc _).keep hb4)
      have HR5 := Lib.hid ((HR4.out.alloc _).keep hb4)
      clear HS4 HR4 HS3 HR3
      rcases Bool.eq_false_or_eq_true (wi 0 60 to) with h3 | h3
      · rw [h3]
        obtain ⟨t0, t1⟩ := wi_iff.1 h3
        by_cases h4 : to < r.min
        · have HV : Hid (fewestA s r to = ([], 2)) := by show _ = _; simp [fewestA, fewestE, hE2, h3, h4]
          clear h3 hE2
          go_wp2_with fail
          go_ret2
          exact ⟨⟨_, by rw [HV.out]; rfl, by rw [HV.out]; exact Lv.nil _⟩, hsn5.1⟩
        · have h4' : ¬ to < r.min := h4
          obtain ⟨c0, c1, c2, c3, c4, c5, c6, c7, c8⟩ := HS5.out.space
          have hsn6 := hsn5.alloc (.cells (wV s m none) 93)
          have HR6 := Lib.hid (HR5.out.alloc (.cells (wV s m none) 93))
          have r0 := HR6.out.cell 0
          have r1 := HR6.out.cell 1
          have r2 := HR6.out.cell 2
          simp only [List.getElem?_toArray, List.getElem?_cons_zero, List.getElem?_cons_succ] at r0 r1 r2
          dsimp only [wV] at r0 r1 r2
          have HW6 := Lib.hid (Blk.new w4 93 (wV s m none))
          have hH := holds_c s m r _ hs (hsa.keep hsn6.1) hr
          have H3 := Lib.hid h3
          have HE2 := Lib.hid hE2
          clear h3 hE2
          go_wp2_with fail
          refine hH.mono ?_
          rintro e w5 ⟨rfl, hb5⟩
          have hsn7 := hsn6.keep hb5
          have HR7 := Lib.hid (HR6.out.keep hb5)
          have HW7 := Lib.hid (HW6.out.keep hb5)
          clear hH c0 c1 c2 c3 c4 c5 c6 c7 c8 r0 r1 r2 HR6 HW6 HR5
          by_cases h5 : hol s r < r.min
          · have HV : Hid (fewestA s r to = ([], 9)) := by show _ = _; simp [fewestA, fewestE, HE2.out, H3.out, eq_false (show ¬ to < r.min by omega), h5]
            go_wp2_with fail
            go_ret2
            exact ⟨⟨_, by rw [HV.out]; rfl, by rw [HV.out]; exact Lv.nil _⟩, hsn7.1⟩
          · have HV : Hid (fewestA s r to = (few s r to, 0)) := by show _ = _; simp [fewestA, fewestE, HE2.out, H3.out, eq_false (show ¬ to < r.min by omega), eq_false (show ¬ hol s r < r.min by omega)]
            have h5' : ¬ hol s r < r.min := h5
            obtain ⟨n, hn⟩ : ∃ n : Nat, to = (n : Int) := ⟨to.toNat, by omega⟩
            subst hn
            obtain ⟨d0, d1, d2, d3, d4, d5, d6, d7, d8, d9⟩ := HW7.out.watch
            have r0 := HR7.out.cell 0
            have r1 := HR7.out.cell 1
            have r2 := HR7.out.cell 2
            simp only [List.getElem?_toArray, List.getElem?_cons_zero, List.getElem?_cons_succ] at r0 r1 r2
            have hF := fewest_c s m r n w5 hs (hsa.keep hsn7.1) hr (by omega) (by omega) (by omega)
            go_wp2_with fail
            refine hF.mono ?_
            rintro e w6 ⟨⟨v, rfl, hv⟩, hb6⟩
            have HVV := Lib.hid hv
            clear hv hF
            go_wp2_with fail
            go_ret2
            exact ⟨⟨_, by rw [HV.out]; rfl, by rw [HV.out]; exact HVV.out⟩, (hsn7.keep hb6).1⟩
      · rw [h3]
        have HV : Hid (fewestA s r to = ([], 7)) := by show _ = _; simp [fewestA, fewestE, hE2, h3]
        clear h3 hE2
        go_wp2_with fail
        go_ret2
        exact ⟨⟨_, by rw [HV.out]; rfl, by rw [HV.out]; exact Lv.nil _⟩, hsn5.1⟩
    · have HV : Hid (fewestA s r to = ([], rdE s.tools.length r)) := by show _ = _; simp [fewestA, fewestE, toolE2, h1, h2]
      have h2' : (rdE s.tools.length r != 0) = true := by simpa using h2
      clear h1 h2
      go_wp2_with fail
      go_ret2
      exact ⟨⟨_, by rw [HV.out]; rfl, by rw [HV.out]; exact Lv.nil _⟩, hsn4.1⟩
  · have HV : Hid (fewestA s r to = ([], (chk s).2.2)) := by show _ = _; simp [fewestA, fewestE, toolE2, h1]
    have h1' : ((chk s).2.2 != 0) = true := by simpa using h1
    clear h1
    go_wp2_with fail
    go_ret2
    exact ⟨⟨_, by rw [HV.out]; rfl, by rw [HV.out]; exact Lv.nil _⟩, hsn2.1⟩
end Td
end Go.Proofs.Ytmofbnadfgejiaa
