import Derived.Test.YtccacinnelmnpaaWat1
/- Level, Until, Refusal, Holds. -/
namespace Go.Proofs.Ytccacinnelmnpaa
open Go.RowKit
namespace Td
set_option linter.unusedSimpArgs false
set_option linter.unusedVariables false
attribute [local go_sem] Oper.semAt_some
theorem results_cell_tmp {P : Program} {fn : Func} {p q : Tmp} {ty : TypeId} (h : fn.results = #[.cell p ty, .tmp q]) (tmps : Array Value) (w : World) (g : Nat) (t : TypeId) (cs : Array Value) (fr : Nat × Nat) (d : TypeDesc)
    (hp : tmps.getD p undef = .pointer (some ⟨g, 0, none⟩)) (hg : w.heap[g]? = some (.cells cs t fr))
    (hu : P.underlying ty = some d) (hd : (match d with | .struct _ | .array _ _ => true | _ => false) = true) (hi : (P.info? ty).map (·.size) = some cs.size) :
    (results fn tmps).run P w = .ok (.tuple #[.agg cs, tmps.getD q undef]) w := by
  have hp' : tmps[p]?.getD undef = .pointer (some ⟨g, 0, none⟩) := by simpa using hp
  simp [results, h, hp', asAddr, run_loadVar_row w g t ty cs fr d hg hu hd hi]
theorem InAt.rowF {w : World} {g : Nat} {ty : TypeId} {f : Nat → Int} {n : Nat} (h : Blk w g ty (rowF f n)) : InAt w (some ⟨g, 0, none⟩) ((List.range n).map f) := fun _ => ⟨_, rfl, fun i p hp => by
  rw [add_new]
  rw [List.getElem?_map] at hp
  by_cases hi : i < n
  · rw [List.getElem?_range hi] at hp
    simp at hp
    rw [h.cell i, rowF_get f hi, hp]
  · rw [List.getElem?_eq_none (by simp; omega)] at hp
    cases hp⟩
theorem watE_some {s : Spc} {l : List Rd} {mi : Int} (hE : watE s l mi = 0) : ∃ x, now s l mi = some x := by
  unfold watE at hE
  split at hE
  · rename_i h1; rw [hE] at h1; simp at h1
  · split at hE
    · rename_i h1; rw [hE] at h1; simp at h1
    · split at hE
      · split at hE
        · rename_i h1; exact Option.isSome_iff_exists.1 h1
        · cases hE
      · cases hE
theorem watE_ok {s : Spc} {l : List Rd} {mi : Int} (hE : watE s l mi = 0) : SOk s ∧ (∀ r ∈ l, ROk s r) ∧ l.length ≤ 12 ∧ 0 ≤ mi ∧ mi ≤ 60 := by
  unfold watE at hE
  split at hE
  · rename_i h1; rw [hE] at h1; simp at h1
  · rename_i h1
    split at hE
    · rename_i h2; rw [hE] at h2; simp at h2
    · rename_i h2
      split at hE
      · rename_i h3
        simp at h1 h2
        obtain ⟨h4, h5⟩ := rdsE_ok.1 h2
        exact ⟨chk_ok h1, h5, h4, wi_iff.1 h3⟩
      · cases hE
set_option maxRecDepth 100000 in
set_option maxHeartbeats 2000000 in
theorem level_c (s : Spc) (m : Sl) (A : Option Addr) (l : List Rd) (c : Nat) (mi : Int) (w : World) (hsa : SAt w m s) (hc : l.length ≤ c) (hcM : c ≤ 9223372036854775807) (hp : RdAt w A l) :
    Calls Try.prog 17 #[.agg (sV s m), .slice A l.length c, .int .i64 mi] w fun e w' => e = .returned (.tuple #[.agg #[.int .i64 (levelA s l mi).1.1, .int .i64 (levelA s l mi).1.2], .int .i64 (levelA s l mi).2]) ∧ Below w.heap.size w w' := by
  have hsn0 := ((Since.refl w).alloc (.cells (sV s m) 27)).alloc (.cells #[.int .i64 0, .int .i64 0] 23)
  have HS0 := Lib.hid ((Blk.new w 27 (sV s m)).alloc (.cells #[.int .i64 0, .int .i64 0] 23))
  have HZ0 := Lib.hid (Blk.new1 w (.cells (sV s m) 27) 23 #[.int .i64 0, .int .i64 0])
  obtain ⟨c0, c1, c2, c3, c4, c5, c6, c7, c8⟩ := HS0.out.space
  go_enter Try.func17, Try.ntmps17
  go_wp2_with fail
  refine (watch_c s m A l c mi _ (hsa.keep hsn0.1) hc hcM (hp.keep hsn0.1)).mono ?_
  rintro e w2 ⟨⟨M, rfl, hM⟩, hb2⟩
  have hsn2 := hsn0.keep hb2
  have HS2 := Lib.hid (HS0.out.keep hb2)
  have HZ2 := Lib.hid (HZ0.out.keep hb2)
  clear hsn0 HS0 c0 c1 c2 c3 c4 c5 c6 c7 c8 HZ0
  obtain ⟨E, hE⟩ : ∃ E, watE s l mi = E := ⟨_, rfl⟩
  rw [hE] at hM ⊢
  have hA3 := (Blk.new w2 93 w0V).alloc (.cells n0V 95)
  have hB3 := Blk.new1 w2 (.cells w0V 93) 95 n0V
  have hb3 : Below w2.heap.size w2 ((w2.alloc (.cells w0V 93)).alloc (.cells n0V 95)) := (((Since.refl w2).alloc _).alloc _).1
  have hz2 := hsn2.2
  by_cases h0 : E = 0
  · subst h0
    have hMp := hM rfl
    obtain ⟨x, hx⟩ := watE_some hE
    obtain ⟨hs, hro, hl12, hmi0, hmi1⟩ := watE_ok hE
    have hRet : watV s m M 0 (now s l mi) = .tuple #[.agg (wV s m M), .agg #[.int .i64 x.1, .int .i64 x.2, .bool true], .int .i64 0] := by rw [hx]; simp [watV, lV]
    rw [hRet]
    have hb4 : Below w2.heap.size w2 ((((w2.alloc (.cells w0V 93)).alloc (.cells n0V 95)).setRow w2.heap.size (wV s m M)).setRow (w2.heap.size + 1) #[.int .i64 x.1, .int .i64 x.2, .bool true]) := below_setRow (below_setRow hb3 (Nat.le_refl _) _) (by omega) _
    have hB9 := Lib.hid (hB3.rowFar (g' := w2.heap.size) (by omega) (wV s m M))
    have hA9 := Lib.hid hA3
    go_upto_region 2 with first | (refine wpList_store_row rfl 93 _ _ rfl (w2.heap.size) _ rfl rfl 93 _ hA9.out (by kernel_rfl) rfl (by simp [Value.oneCell']) ?_) | (refine wpList_store_row rfl 95 _ _ rfl (w2.heap.size + 1) _ rfl rfl 95 _ hB9.out (by kernel_rfl) rfl (by simp [Value.oneCell']) ?_)
    have hA4 := (hA3.row (wV s m M)).rowFar (g' := w2.heap.size + 1) (by omega) #[.int .i64 x.1, .int .i64 x.2, .bool true]
    have hB4 := (hB3.rowFar (g' := w2.heap.size) (by omega) (wV s m M)).row #[.int .i64 x.1, .int .i64 x.2, .bool true]
    have hS4 := HS2.out.keep hb4
    have hZ4 := HZ2.out.keep hb4
    have hsn4 := hsn2.keep hb4
    obtain ⟨X, hX⟩ : ∃ X, (((w2.alloc (.cells w0V 93)).alloc (.cells n0V 95)).setRow w2.heap.size (wV s m M)).setRow (w2.heap.size + 1) #[.int .i64 x.1, .int .i64 x.2, .bool true] = X := ⟨_, rfl⟩
    rw [hX] at hA4 hB4 hS4 hsn4 hb4 hZ4
    dsimp only [wV, w0V, n0V] at hX ⊢
    rw [hX]
    clear hX hA9 hB9 hA3 hB3 hb3 HS2 HZ2
    have hMp4 := hMp.keep hb4
    obtain ⟨e0, e1, e2⟩ := hB4.lev
    obtain ⟨d0, d1, d2, d3, d4, d5, d6, d7, d8, d9⟩ := hA4.watch
    obtain ⟨c0, c1, c2, c3, c4, c5, c6, c7, c8⟩ := hS4.space
    have HV : Hid (levelA s l mi = (x, 0)) := by show _ = _; simp [levelA, hE, hx]
    clear hE hx
    go_wp2_with (refine wpList_store_row rfl 23 _ _ rfl (w.heap.size + 1) _ rfl rfl 23 _ hZ4 (by kernel_rfl) rfl (by simp [Value.oneCell']) ?_)
    refine bodyPost_ret (results_cell_tmp Try.results17 _ _ (w.heap.size + 1) 23 _ (0, 0) _ rfl (hZ4.row _) Try.underlying23 rfl (by kernel_rfl)) rfl ⟨?_, (hsn4.row (by omega) _).1⟩
    rw [HV.out]
    rfl
  · have hRet : watV s m M E (now s l mi) = .tuple #[.agg w0V, .agg n0V, .int .i64 E] := by simp [watV, h0, lV]
    rw [hRet]
    have hb4 : Below w2.heap.size w2 ((((w2.alloc (.cells w0V 93)).alloc (.cells n0V 95)).setRow w2.heap.size w0V).setRow (w2.heap.size + 1) n0V) := below_setRow (below_setRow hb3 (Nat.le_refl _) _) (by omega) _
    have hB9 := Lib.hid (hB3.rowFar (g' := w2.heap.size) (by omega) w0V)
    have hA9 := Lib.hid hA3
    go_upto_region 2 with first | (refine wpList_store_row rfl 93 _ _ rfl (w2.heap.size) _ rfl rfl 93 _ hA9.out (by kernel_rfl) rfl (by simp [Value.oneCell']) ?_) | (refine wpList_store_row rfl 95 _ _ rfl (w2.heap.size + 1) _ rfl rfl 95 _ hB9.out (by kernel_rfl) rfl (by simp [Value.oneCell']) ?_)
    have hA4 := (hA3.row w0V).rowFar (g' := w2.heap.size + 1) (by omega) n0V
    have hB4 := (hB3.rowFar (g' := w2.heap.size) (by omega) w0V).row n0V
    have hS4 := HS2.out.keep hb4
    have hZ4 := HZ2.out.keep hb4
    have hsn4 := hsn2.keep hb4
    obtain ⟨X, hX⟩ : ∃ X, (((w2.alloc (.cells w0V 93)).alloc (.cells n0V 95)).setRow w2.heap.size w0V).setRow (w2.heap.size + 1) n0V = X := ⟨_, rfl⟩
    rw [hX] at hA4 hB4 hS4 hsn4 hb4 hZ4
    dsimp only [wV, w0V, n0V] at hX ⊢
    rw [hX]
    clear hX hA9 hB9 hA3 hB3 hb3 HS2 HZ2
    have HV : Hid (levelA s l mi = ((0, 0), E)) := by show _ = _; simp [levelA, hE, h0]
    have h0' : (E != 0) = true := by simpa using h0
    clear hE h0
    go_wp2_with (refine wpList_store_row rfl 23 _ _ rfl (w.heap.size + 1) _ rfl rfl 23 _ hZ4 (by kernel_rfl) rfl (by simp [Value.oneCell']) ?_)
    refine bodyPost_ret (results_cell_tmp Try.results17 _ _ (w.heap.size + 1) 23 _ (0, 0) _ rfl (hZ4.row _) Try.underlying23 rfl (by kernel_rfl)) rfl ⟨?_, (hsn4.row (by omega) _).1⟩
    rw [HV.out]
    rfl
set_option maxRecDepth 100000 in
set_option maxHeartbeats 2000000 in
theorem until2_c (s : Spc) (m : Sl) (A : Option Addr) (l : List Rd) (c : Nat) (mi : Int) (w : World) (hsa : SAt w m s) (hc : l.length ≤ c) (hcM : c ≤ 9223372036854775807) (hp : RdAt w A l) :
    Calls Try.prog 19 #[.agg (sV s m), .slice A l.length c, .int .i64 mi] w fun e w' => e = .returned (.tuple #[.int .i64 (untilA s l mi).1, .int .i64 (untilA s l mi).2]) ∧ Below w.heap.size w w' := by
  have hsn0 := (Since.refl w).alloc (.cells (sV s m) 27)
  have HS0 := Lib.hid (Blk.new w 27 (sV s m))
  obtain ⟨c0, c1, c2, c3, c4, c5, c6, c7, c8⟩ := HS0.out.space
  go_enter Try.func19, Try.ntmps19
  go_wp2_with fail
  refine (watch_c s m A l c mi _ (hsa.keep hsn0.1) hc hcM (hp.keep hsn0.1)).mono ?_
  rintro e w2 ⟨⟨M, rfl, hM⟩, hb2⟩
  have hsn2 := hsn0.keep hb2
  have HS2 := Lib.hid (HS0.out.keep hb2)
  clear hsn0 HS0 c0 c1 c2 c3 c4 c5 c6 c7 c8
  obtain ⟨E, hE⟩ : ∃ E, watE s l mi = E := ⟨_, rfl⟩
  rw [hE] at hM ⊢
  have hA3 := (Blk.new w2 93 w0V).alloc (.cells n0V 95)
  have hB3 := Blk.new1 w2 (.cells w0V 93) 95 n0V
  have hb3 : Below w2.heap.size w2 ((w2.alloc (.cells w0V 93)).alloc (.cells n0V 95)) := (((Since.refl w2).alloc _).alloc _).1
  have hz2 := hsn2.2
  by_cases h0 : E = 0
  · subst h0
    have hMp := hM rfl
    obtain ⟨x, hx⟩ := watE_some hE
    obtain ⟨hs, hro, hl12, hmi0, hmi1⟩ := watE_ok hE
    have hRet : watV s m M 0 (now s l mi) = .tuple #[.agg (wV s m M), .agg #[.int .i64 x.1, .int .i64 x.2, .bool true], .int .i64 0] := by rw [hx]; simp [watV, lV]
    rw [hRet]
    have hb4 : Below w2.heap.size w2 ((((w2.alloc (.cells w0V 93)).alloc (.cells n0V 95)).setRow w2.heap.size (wV s m M)).setRow (w2.heap.size + 1) #[.int .i64 x.1, .int .i64 x.2, .bool true]) := below_setRow (below_setRow hb3 (Nat.le_refl _) _) (by omega) _
    have hB9 := Lib.hid (hB3.rowFar (g' := w2.heap.size) (by omega) (wV s m M))
    have hA9 := Lib.hid hA3
    go_upto_region 2 with first | (refine wpList_store_row rfl 93 _ _ rfl (w2.heap.size) _ rfl rfl 93 _ hA9.out (by kernel_rfl) rfl (by simp [Value.oneCell']) ?_) | (refine wpList_store_row rfl 95 _ _ rfl (w2.heap.size + 1) _ rfl rfl 95 _ hB9.out (by kernel_rfl) rfl (by simp [Value.oneCell']) ?_)
    have hA4 := (hA3.row (wV s m M)).rowFar (g' := w2.heap.size + 1) (by omega) #[.int .i64 x.1, .int .i64 x.2, .bool true]
    have hB4 := (hB3.rowFar (g' := w2.heap.size) (by omega) (wV s m M)).row #[.int .i64 x.1, .int .i64 x.2, .bool true]
    have hS4 := HS2.out.keep hb4
    have hsn4 := hsn2.keep hb4
    obtain ⟨X, hX⟩ : ∃ X, (((w2.alloc (.cells w0V 93)).alloc (.cells n0V 95)).setRow w2.heap.size (wV s m M)).setRow (w2.heap.size + 1) #[.int .i64 x.1, .int .i64 x.2, .bool true] = X := ⟨_, rfl⟩
    rw [hX] at hA4 hB4 hS4 hsn4 hb4
    dsimp only [wV, w0V, n0V] at hX ⊢
    rw [hX]
    clear hX hA9 hB9 hA3 hB3 hb3 HS2
    have hMp4 := hMp.keep hb4
    obtain ⟨e0, e1, e2⟩ := hB4.lev
    obtain ⟨d0, d1, d2, d3, d4, d5, d6, d7, d8, d9⟩ := hA4.watch
    obtain ⟨c0, c1, c2, c3, c4, c5, c6, c7, c8⟩ := hS4.space
    have HV : Hid (untilA s l mi = (untl s (kno l mi) mi (some x), 0)) := by show _ = _; simp [untilA, hE, hx]
    have hvd : Vd (some x) := by
      rw [← hx]
      exact vd_lv (vd_start hs) _
    clear hE hx
    have hU := until_c s m M (kno l mi) mi (some x) X hs hvd (fun r h => hro r (List.mem_filter.1 h).1) (Nat.le_trans (List.length_filter_le _ _) (by omega)) (hsa.keep hsn4.1) hMp4 hmi0 hmi1
    dsimp only [lV] at hU
    go_wp2_with fail
    refine hU.mono ?_
    rintro e w' ⟨rfl, hb⟩
    go_wp2_with fail
    go_ret2
    exact ⟨by rw [HV.out]; rfl, (hsn4.keep hb).1⟩
  · have hRet : watV s m M E (now s l mi) = .tuple #[.agg w0V, .agg n0V, .int .i64 E] := by simp [watV, h0, lV]
    rw [hRet]
    have hb4 : Below w2.heap.size w2 ((((w2.alloc (.cells w0V 93)).alloc (.cells n0V 95)).setRow w2.heap.size w0V).setRow (w2.heap.size + 1) n0V) := below_setRow (below_setRow hb3 (Nat.le_refl _) _) (by omega) _
    have hB9 := Lib.hid (hB3.rowFar (g' := w2.heap.size) (by omega) w0V)
    have hA9 := Lib.hid hA3
    go_upto_region 2 with first | (refine wpList_store_row rfl 93 _ _ rfl (w2.heap.size) _ rfl rfl 93 _ hA9.out (by kernel_rfl) rfl (by simp [Value.oneCell']) ?_) | (refine wpList_store_row rfl 95 _ _ rfl (w2.heap.size + 1) _ rfl rfl 95 _ hB9.out (by kernel_rfl) rfl (by simp [Value.oneCell']) ?_)
    have hA4 := (hA3.row w0V).rowFar (g' := w2.heap.size + 1) (by omega) n0V
    have hB4 := (hB3.rowFar (g' := w2.heap.size) (by omega) w0V).row n0V
    have hS4 := HS2.out.keep hb4
    have hsn4 := hsn2.keep hb4
    obtain ⟨X, hX⟩ : ∃ X, (((w2.alloc (.cells w0V 93)).alloc (.cells n0V 95)).setRow w2.heap.size w0V).setRow (w2.heap.size + 1) n0V = X := ⟨_, rfl⟩
    rw [hX] at hA4 hB4 hS4 hsn4 hb4
    dsimp only [wV, w0V, n0V] at hX ⊢
    rw [hX]
    clear hX hA9 hB9 hA3 hB3 hb3 HS2
    have HV : Hid (untilA s l mi = (0, E)) := by show _ = _; simp [untilA, hE, h0]
    have h0' : (E != 0) = true := by simpa using h0
    clear hE h0
    go_wp2_with fail
    go_ret2
    exact ⟨by rw [HV.out]; rfl, hsn4.1⟩
set_option maxRecDepth 100000 in
set_option maxHeartbeats 2000000 in
theorem refusal_c (s : Spc) (m : Sl) (A : Option Addr) (l : List Rd) (c : Nat) (mi : Int) (w : World) (hsa : SAt w m s) (hc : l.length ≤ c) (hcM : c ≤ 9223372036854775807) (hp : RdAt w A l) :
    Calls Try.prog 22 #[.agg (sV s m), .slice A l.length c, .int .i64 mi] w fun e w' => (∃ g n, e = .returned (.tuple #[.slice g n n, .int .i64 (refusalA s l mi).2]) ∧ n = (refusalA s l mi).1.length ∧ InAt w' g (refusalA s l mi).1) ∧ Below w.heap.size w w' := by
  have hsn0 := (Since.refl w).alloc (.cells (sV s m) 27)
  have HS0 := Lib.hid (Blk.new w 27 (sV s m))
  obtain ⟨c0, c1, c2, c3, c4, c5, c6, c7, c8⟩ := HS0.out.space
  go_enter Try.func22, Try.ntmps22
  go_wp2_with fail
  refine (watch_c s m A l c mi _ (hsa.keep hsn0.1) hc hcM (hp.keep hsn0.1)).mono ?_
  rintro e w2 ⟨⟨M, rfl, hM⟩, hb2⟩
  have hsn2 := hsn0.keep hb2
  have HS2 := Lib.hid (HS0.out.keep hb2)
  clear hsn0 HS0 c0 c1 c2 c3 c4 c5 c6 c7 c8
  obtain ⟨E, hE⟩ : ∃ E, watE s l mi = E := ⟨_, rfl⟩
  rw [hE] at hM ⊢
  have hA3 := (Blk.new w2 93 w0V).alloc (.cells n0V 95)
  have hB3 := Blk.new1 w2 (.cells w0V 93) 95 n0V
  have hb3 : Below w2.heap.size w2 ((w2.alloc (.cells w0V 93)).alloc (.cells n0V 95)) := (((Since.refl w2).alloc _).alloc _).1
  have hz2 := hsn2.2
  by_cases h0 : E = 0
  · subst h0
    have hMp := hM rfl
    obtain ⟨x, hx⟩ := watE_some hE
    obtain ⟨hs, hro, hl12, hmi0, hmi1⟩ := watE_ok hE
    have hRet : watV s m M 0 (now s l mi) = .tuple #[.agg (wV s m M), .agg #[.int .i64 x.1, .int .i64 x.2, .bool true], .int .i64 0] := by rw [hx]; simp [watV, lV]
    rw [hRet]
    have hb4 : Below w2.heap.size w2 ((((w2.alloc (.cells w0V 93)).alloc (.cells n0V 95)).setRow w2.heap.size (wV s m M)).setRow (w2.heap.size + 1) #[.int .i64 x.1, .int .i64 x.2, .bool true]) := below_setRow (below_setRow hb3 (Nat.le_refl _) _) (by omega) _
    have hB9 := Lib.hid (hB3.rowFar (g' := w2.heap.size) (by omega) (wV s m M))
    have hA9 := Lib.hid hA3
    go_upto_region 2 with first | (refine wpList_store_row rfl 93 _ _ rfl (w2.heap.size) _ rfl rfl 93 _ hA9.out (by kernel_rfl) rfl (by simp [Value.oneCell']) ?_) | (refine wpList_store_row rfl 95 _ _ rfl (w2.heap.size + 1) _ rfl rfl 95 _ hB9.out (by kernel_rfl) rfl (by simp [Value.oneCell']) ?_)
    have hA4 := (hA3.row (wV s m M)).rowFar (g' := w2.heap.size + 1) (by omega) #[.int .i64 x.1, .int .i64 x.2, .bool true]
    have hB4 := (hB3.rowFar (g' := w2.heap.size) (by omega) (wV s m M)).row #[.int .i64 x.1, .int .i64 x.2, .bool true]
    have hS4 := HS2.out.keep hb4
    have hsn4 := hsn2.keep hb4
    obtain ⟨X, hX⟩ : ∃ X, (((w2.alloc (.cells w0V 93)).alloc (.cells n0V 95)).setRow w2.heap.size (wV s m M)).setRow (w2.heap.size + 1) #[.int .i64 x.1, .int .i64 x.2, .bool true] = X := ⟨_, rfl⟩
    rw [hX] at hA4 hB4 hS4 hsn4 hb4
    dsimp only [wV, w0V, n0V] at hX ⊢
    rw [hX]
    clear hX hA9 hB9 hA3 hB3 hb3 HS2
    have hMp4 := hMp.keep hb4
    obtain ⟨e0, e1, e2⟩ := hB4.lev
    obtain ⟨d0, d1, d2, d3, d4, d5, d6, d7, d8, d9⟩ := hA4.watch
    obtain ⟨c0, c1, c2, c3, c4, c5, c6, c7, c8⟩ := hS4.space
    have hvd : Vd (some x) := by
      rw [← hx]
      exact vd_lv (vd_start hs) _
    have hvx := hvd x rfl
    have hl0 := hs.l0
    have hl1 := hs.l1
    by_cases hlim : x.2 ≤ s.lim
    · have HV : Hid (refusalA s l mi = ([], 4)) := by show _ = _; simp [refusalA, hE, hx, hlim]
      clear hE hx
      go_wp2_with fail
      go_ret2
      exact ⟨⟨none, 0, by rw [HV.out]; rfl, by rw [HV.out]; rfl, by rw [HV.out]; exact fun h => absurd rfl h⟩, hsn4.1⟩
    · obtain ⟨n, hn⟩ : ∃ n : Nat, mi = (n : Int) := ⟨mi.toNat, by omega⟩
      subst hn
      have HV : Hid (refusalA s l (n : Int) = (tru s (kno l (n : Int)) n (max x.1 (s.lim + 1)), 0)) := by show _ = _; simp [refusalA, hE, hx, hlim]
      have hsom : ∀ k, k ≤ n → (lv s (kno l (n : Int)) 0 (btw s.s0 s.s1) k).isSome = true := fun k hk => by
        cases hlv : lv s (kno l (n : Int)) 0 (btw s.s0 s.s1) k with
        | some _ => rfl
        | none =>
          have := lv_none hlv hk
          unfold now at hx
          rw [Int.toNat_natCast, this] at hx
          cases hx
      have hLo := lowest_c s m M (kno l (n : Int)) n (max x.1 (s.lim + 1)) X hs (fun r h => hro r (List.mem_filter.1 h).1) (Nat.le_trans (List.length_filter_le _ _) (by omega)) (hsa.keep hsn4.1) hMp4 (by omega) hsom (by omega) (by omega)
      have hw1 : IntKind.i64.wrap (s.lim + 1) = s.lim + 1 := IntWalk.i64_in _ (by omega)
      have hlim' : s.lim < x.2 := by omega
      obtain ⟨mx, hmx⟩ : ∃ mx, max x.1 (s.lim + 1) = mx := ⟨_, rfl⟩
      rw [hmx] at hLo HV
      clear hE hx hlim
      rcases (by omega : (x.1 < s.lim + 1 ∧ mx = s.lim + 1) ∨ (¬ x.1 < s.lim + 1 ∧ mx = x.1)) with ⟨h2, hn2⟩ | ⟨h2, hn2⟩
      all_goals
        subst hn2
        clear hmx
        go_wp2_with fail
        refine hLo.mono ?_
        rintro e w' ⟨⟨g, rfl, hg⟩, hb⟩
        go_wp2_with fail
        go_ret2
        refine ⟨⟨some ⟨g, 0, none⟩, n + 1, by rw [HV.out]; rfl, by rw [HV.out]; simp [tru], ?_⟩, (hsn4.keep hb).1⟩
        rw [HV.out]
        exact InAt.rowF hg
  · have hRet : watV s m M E (now s l mi) = .tuple #[.agg w0V, .agg n0V, .int .i64 E] := by simp [watV, h0, lV]
    rw [hRet]
    have hb4 : Below w2.heap.size w2 ((((w2.alloc (.cells w0V 93)).alloc (.cells n0V 95)).setRow w2.heap.size w0V).setRow (w2.heap.size + 1) n0V) := below_setRow (below_setRow hb3 (Nat.le_refl _) _) (by omega) _
    have hB9 := Lib.hid (hB3.rowFar (g' := w2.heap.size) (by omega) w0V)
    have hA9 := Lib.hid hA3
    go_upto_region 2 with first | (refine wpList_store_row rfl 93 _ _ rfl (w2.heap.size) _ rfl rfl 93 _ hA9.out (by kernel_rfl) rfl (by simp [Value.oneCell']) ?_) | (refine wpList_store_row rfl 95 _ _ rfl (w2.heap.size + 1) _ rfl rfl 95 _ hB9.out (by kernel_rfl) rfl (by simp [Value.oneCell']) ?_)
    have hA4 := (hA3.row w0V).rowFar (g' := w2.heap.size + 1) (by omega) n0V
    have hB4 := (hB3.rowFar (g' := w2.heap.size) (by omega) w0V).row n0V
    have hS4 := HS2.out.keep hb4
    have hsn4 := hsn2.keep hb4
    obtain ⟨X, hX⟩ : ∃ X, (((w2.alloc (.cells w0V 93)).alloc (.cells n0V 95)).setRow w2.heap.size w0V).setRow (w2.heap.size + 1) n0V = X := ⟨_, rfl⟩
    rw [hX] at hA4 hB4 hS4 hsn4 hb4
    dsimp only [wV, w0V, n0V] at hX ⊢
    rw [hX]
    clear hX hA9 hB9 hA3 hB3 hb3 HS2
    have HV : Hid (refusalA s l mi = ([], E)) := by show _ = _; simp [refusalA, hE, h0]
    have h0' : (E != 0) = true := by simpa using h0
    clear hE h0
    go_wp2_with fail
    go_ret2
    exact ⟨⟨none, 0, by rw [HV.out]; rfl, by rw [HV.out]; rfl, by rw [HV.out]; exact fun h => absurd rfl h⟩, hsn4.1⟩
theorem nil_w (s : Spc) (m : Sl) : wV s m none = #[.int .i64 s.s0, .int .i64 s.s1, .int .i64 s.r0, .int .i64 s.r1, .int .i64 s.b0, .int .i64 s.b1, .int .i64 s.lim, .slice m.A s.blows.length m.c, .slice m.T s.tools.length m.d, .map none] := rfl
set_option maxRecDepth 100000 in
set_option maxHeartbeats 2000000 in
theorem holds2_c (s : Spc) (m : Sl) (r : Rd) (w : World) (hsa : SAt w m s) :
    Calls Try.prog 25 #[.agg (sV s m), .int .i64 r.tool, .int .i64 r.shown, .int .i64 r.min] w fun e w' => e = .returned (.tuple #[.int .i64 (holdsA s r).1, .int .i64 (holdsA s r).2]) ∧ Below w.heap.size w w' := by
  have hsn0 := (Since.refl w).alloc (.cells (sV s m) 27)
  have HS0 := Lib.hid (Blk.new w 27 (sV s m))
  obtain ⟨c0, c1, c2, c3, c4, c5, c6, c7, c8⟩ := HS0.out.space
  go_enter Try.func25, Try.ntmps25
  go_wp2_with fail
  refine (check_c s m _ (hsa.keep hsn0.1)).mono ?_
  rintro e w2 ⟨rfl, hb2⟩
  have hsn2 := hsn0.keep hb2
  have HS2 := Lib.hid (HS0.out.keep hb2)
  clear c0 c1 c2 c3 c4 c5 c6 c7 c8 hsn0 HS0
  by_cases h1 : (chk s).2.2 = 0
  · have hs := chk_ok h1
    rw [h1]
    have hsn3 := hsn2.alloc (.cells (rV r) 61)
    have HS3 := Lib.hid (HS2.out.alloc (.cells (rV r) 61))
    have HR3 := Lib.hid (Blk.new w2 61 (rV r))
    obtain ⟨c0, c1, c2, c3, c4, c5, c6, c7, c8⟩ := HS3.out.space
    go_wp2_with fail
    refine (readingFault_c s m r _ (by have := hs.t3; omega)).mono ?_
    rintro e w3 ⟨rfl, hb3⟩
    have hsn4 := hsn3.keep hb3
    have HS4 := Lib.hid (HS3.out.keep hb3)
    have HR4 := Lib.hid (HR3.out.keep hb3)
    clear c0 c1 c2 c3 c4 c5 c6 c7 c8
    by_cases h2 : rdE s.tools.length r = 0
    · have hr := rdE_ok.1 h2
      have HV : Hid (holdsA s r = (hol s r, 0)) := by show _ = _; simp [holdsA, toolE2, h1, h2]
      rw [h2]
      obtain ⟨c0, c1, c2, c3, c4, c5, c6, c7, c8⟩ := HS4.out.space
      have r0 := HR4.out.cell 0
      have r1 := HR4.out.cell 1
      have r2 := HR4.out.cell 2
      simp only [List.getElem?_toArray, List.getElem?_cons_zero, List.getElem?_cons_succ] at r0 r1 r2
      have hH := holds_c s m r w3 hs (hsa.keep hsn4.1) hr
      clear h1 h2
      go_wp2_with fail
      refine hH.mono ?_
      rintro e w' ⟨rfl, hb⟩
      go_wp2_with fail
      go_ret2
      exact ⟨by rw [HV.out]; rfl, (hsn4.keep hb).1⟩
    · have HV : Hid (holdsA s r = (0, rdE s.tools.length r)) := by show _ = _; simp [holdsA, toolE2, h1, h2]
      have h2' : (rdE s.tools.length r != 0) = true := by simpa using h2
      clear h1 h2
      go_wp2_with fail
      go_ret2
      exact ⟨by rw [HV.out]; rfl, hsn4.1⟩
  · have HV : Hid (holdsA s r = (0, (chk s).2.2)) := by show _ = _; simp [holdsA, toolE2, h1]
    have h1' : ((chk s).2.2 != 0) = true := by simpa using h1
    clear h1
    go_wp2_with fail
    go_ret2
    exact ⟨by rw [HV.out]; rfl, hsn2.1⟩
end Td
end Go.Proofs.Ytccacinnelmnpaa
