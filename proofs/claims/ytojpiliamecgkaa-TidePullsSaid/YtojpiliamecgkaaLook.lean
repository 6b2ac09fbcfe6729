import Derived.Test.YtojpiliamecgkaaChkC
namespace Go.Proofs.Ytojpiliamecgkaa
open Go.RowKit
namespace Td
set_option linter.unusedSimpArgs false
set_option linter.unusedVariables false
theorem exec_load_row {P : Program} {o : Oper} {a : Act} {w : World} (ty : TypeId) (x : Operand) (ho : o.op = .load ty x)
    (g : Nat) (hx : a.eval x = .pointer (some ⟨g, 0, none⟩)) (t : TypeId) (cs : Array Value) (fr : Nat × Nat) (d : TypeDesc) (hg : w.heap[g]? = some (.cells cs t fr))
    (hu : P.underlying ty = some d) (hd : (match d with | .struct _ | .array _ _ => true | _ => false) = true) (hi : (P.info? ty).map (·.size) = some cs.size) :
    (execOp a.eval o).run P w = .ok (.value (.agg cs)) w := by
  unfold execOp
  simp only [ho, hx, Instr.loadAt, Instr.sureAddr, Sem.run_bind, Sem.run_pure, Result.andThen_ok, run_loadVar_row w g t ty cs fr d hg hu hd hi]
theorem results_cell_tmp {P : Program} {fn : Func} {p q : Tmp} {ty : TypeId} (h : fn.results = #[.cell p ty, .tmp q]) (tmps : Array Value) (w : World) (g : Nat) (t : TypeId) (cs : Array Value) (fr : Nat × Nat) (d : TypeDesc)
    (hp : tmps.getD p undef = .pointer (some ⟨g, 0, none⟩)) (hg : w.heap[g]? = some (.cells cs t fr))
    (hu : P.underlying ty = some d) (hd : (match d with | .struct _ | .array _ _ => true | _ => false) = true) (hi : (P.info? ty).map (·.size) = some cs.size) :
    (results fn tmps).run P w = .ok (.tuple #[.agg cs, tmps.getD q undef]) w := by
  have hp' : tmps[p]?.getD undef = .pointer (some ⟨g, 0, none⟩) := by simpa using hp
  simp [results, h, hp', asAddr, run_loadVar_row w g t ty cs fr d hg hu hd hi]
theorem results_cell_tmp2 {P : Program} {fn : Func} {p q r : Tmp} {ty : TypeId} (h : fn.results = #[.cell p ty, .tmp q, .tmp r]) (tmps : Array Value) (w : World) (g : Nat) (t : TypeId) (cs : Array Value) (fr : Nat × Nat) (d : TypeDesc)
    (hp : tmps.getD p undef = .pointer (some ⟨g, 0, none⟩)) (hg : w.heap[g]? = some (.cells cs t fr))
    (hu : P.underlying ty = some d) (hd : (match d with | .struct _ | .array _ _ => true | _ => false) = true) (hi : (P.info? ty).map (·.size) = some cs.size) :
    (results fn tmps).run P w = .ok (.tuple #[.agg cs, tmps.getD q undef, tmps.getD r undef]) w := by
  have hp' : tmps[p]?.getD undef = .pointer (some ⟨g, 0, none⟩) := by simpa using hp
  simp [results, h, hp', asAddr, run_loadVar_row w g t ty cs fr d hg hu hd hi]
set_option maxHeartbeats 1000000 in
theorem fault_c (b : Bch) (s : Shp) (A : Option Addr) (c : Nat) (tide bal : Int) (w : World) (hl : b.ts.length ≤ 1000) :
    Calls Try.prog 76 #[.agg (shV b A c s), .agg #[.int .i64 tide, .int .i64 bal]] w fun e w' => e = .returned (.int .i64 (runE b.ts.length tide bal)) ∧ Below w.heap.size w w' := by
  have hs0 := ((Since.refl w).alloc (.cells (shV b A c s) 95)).alloc (.cells #[.int .i64 tide, .int .i64 bal] 49)
  have HB0 := Lib.hid (Blk.new1 w (.cells (shV b A c s) 95) 49 #[.int .i64 tide, .int .i64 bal])
  go_enter Try.func76, Try.ntmps76
  go_wp2_with fail
  refine (within_c _ _ _ _ _ _ (Blk.new2 _ _ _ _ _)).mono ?_
  rintro e w1 ⟨rfl, hb1⟩
  have hs1 := (hs0.alloc _).keep hb1
  have HB1 := Lib.hid ((HB0.out.alloc _).keep hb1)
  rcases Bool.eq_false_or_eq_true (wi 0 ((b.ts.length : Int) - 1) tide) with h1 | h1
  · rw [h1]
    have c0 := HB1.out.cell 0
    have c1 := HB1.out.cell 1
    go_wp2_with fail
    refine (within_c _ _ _ _ _ _ (Blk.new _ _ _)).mono ?_
    rintro e w2 ⟨rfl, hb2⟩
    have hs2 := (hs1.alloc _).keep hb2
    rcases Bool.eq_false_or_eq_true (wi 0 40 bal) with h2 | h2
    all_goals
      rw [h2]
      go_wp2_with fail
      go_ret
      exact ⟨ret_int (by unfold runE; rw [h1, h2]; rfl), hs2.1⟩
  · rw [h1]
    go_wp2_with fail
    go_ret
    exact ⟨ret_int (by unfold runE; rw [h1]; rfl), hs1.1⟩
def shore0 : Array Value := #[.int .i64 0, .int .i64 0, .int .i64 0, .int .i64 0, .int .i64 0, .slice none 0 0, .int .i64 0, .int .i64 0, .int .i64 0]
/-- what look comes to: the shore, and the error; or nothing, and the error of the beach and the ship. -/
def lookV (b : Bch) (s : Shp) (A : Option Addr) (c : Nat) (tide bal : Int) : Value :=
  if (chk b s).2.2 = 0 then .tuple #[.agg (shV b A c s), .int .i64 (runE b.ts.length tide bal)] else .tuple #[.agg shore0, .int .i64 (chk b s).2.2]
set_option maxRecDepth 100000 in
set_option maxHeartbeats 4000000 in
theorem look_c (b : Bch) (s : Shp) (A : Option Addr) (c : Nat) (tide bal : Int) (w : World) (hp : TsAt w A b.ts) :
    Calls Try.prog 53 #[.agg (bV b A c), .agg (sV s), .agg #[.int .i64 tide, .int .i64 bal]] w fun e w' => e = .returned (lookV b s A c tide bal) ∧ Below w.heap.size w w' := by
  have hs0 := (((Since.refl w).alloc (.cells (bV b A c) 26)).alloc (.cells (sV s) 28)).alloc (.cells #[.int .i64 tide, .int .i64 bal] 49)
  have HB0 := Lib.hid (((Blk.new w 26 (bV b A c)).alloc (.cells (sV s) 28)).alloc (.cells #[.int .i64 tide, .int .i64 bal] 49))
  have HS0 := Lib.hid ((Blk.new1 w (.cells (bV b A c) 26) 28 (sV s)).alloc (.cells #[.int .i64 tide, .int .i64 bal] 49))
  have HR0 := Lib.hid (Blk.new2 w (.cells (bV b A c) 26) (.cells (sV s) 28) 49 #[.int .i64 tide, .int .i64 bal])
  go_enter Try.func53, Try.ntmps53
  go_wp2_with fail
  have hs1 := hs0.alloc (.cells shore0 95)
  have HG1 := Lib.hid (Blk.new3 w (.cells (bV b A c) 26) (.cells (sV s) 28) (.cells #[.int .i64 tide, .int .i64 bal] 49) 95 shore0)
  refine (check_c b s A c _ (hp.keep hs1.1)).mono ?_
  rintro e w1 ⟨rfl, hb1⟩
  have hs2 := hs1.keep hb1
  have HG2 := Lib.hid (HG1.out.keep hb1)
  by_cases hc : (chk b s).2.2 = 0
  · have HV : Hid (lookV b s A c tide bal = .tuple #[.agg (shV b A c s), .int .i64 (runE b.ts.length tide bal)]) := by show _ = _; simp [lookV, hc]
    have hl : b.ts.length ≤ 1000 := by have := (chk_ok.1 hc).1.n1; omega
    have HB2 := Lib.hid ((HB0.out.alloc (.cells shore0 95)).keep hb1)
    have HS2 := Lib.hid ((HS0.out.alloc (.cells shore0 95)).keep hb1)
    have HR2 := Lib.hid ((HR0.out.alloc (.cells shore0 95)).keep hb1)
    obtain ⟨c0, c1, c2, c3, c4, c5⟩ := HB2.out.beach
    obtain ⟨d0, d1, d2⟩ := HS2.out.ship
    clear HB0 HS0 HR0 HG1 hs0 hs1
    rw [hc]
    clear hc
    go_wp2_with fail
    have hs3 := hs2.alloc (.cells (shV b A c s) 95)
    have HG3 := HG2.out.alloc (.cells (shV b A c s) 95)
    have HR3 := HR2.out.alloc (.cells (shV b A c s) 95)
    have HL3 := Blk.new w1 95 (shV b A c s)
    have hz := HG2.out.lt
    obtain ⟨W, hW⟩ : ∃ W, w1.alloc (.cells (shV b A c s) 95) = W := ⟨_, rfl⟩
    rw [hW] at hs3 HG3 HR3 HL3
    refine wp_region_held_drew (S := fun X => Blk X w1.heap.size 95 (shV b A c s) ∧ Blk X (w.heap.size + 1 + 1) 49 #[.int .i64 tide, .int .i64 bal] ∧ (∃ cs : Array Value, cs.size = 9 ∧ Blk X (w.heap.size + 1 + 1 + 1) 95 cs) ∧ Since w X) (by kernel_rfl) ?_ (fun hHeld => ?_)
    · rw [hW]; exact ⟨HL3.drew, HR3.drew, ⟨_, rfl, HG3.drew⟩, hs3.drew⟩
    rw [hW] at hHeld ⊢
    ((refine wpAnyH_take (i := 0) (v := .agg (shV b A c s)) rfl (by kernel_rfl) (by kernel_rfl) (by kernel_rfl) (fun _ _ _ h => h) (Or.inl ⟨rfl, fun W hW => exec_load_row 95 _ rfl (w1.heap.size) rfl 95 _ (0, 0) _ hW.1 Try.underlying95 rfl (by kernel_rfl)⟩) (by assumption) ?_); try simp only [Act.put, List.getElem_toArray, List.getElem_cons_succ, List.getElem_cons_zero, List.setIfInBounds_toArray, List.set_cons_zero, List.set_cons_succ])
    ((refine wpAnyH_take (i := 1) (v := .agg (shV b A c s)) rfl (by kernel_rfl) (by kernel_rfl) (by kernel_rfl) (fun _ _ _ h => h) (Or.inl ⟨rfl, fun W hW => exec_load_row 95 _ rfl (w1.heap.size) rfl 95 _ (0, 0) _ hW.1 Try.underlying95 rfl (by kernel_rfl)⟩) (by assumption) ?_); try simp only [Act.put, List.getElem_toArray, List.getElem_cons_succ, List.getElem_cons_zero, List.setIfInBounds_toArray, List.set_cons_zero, List.set_cons_succ])
    ((refine wpAnyH_take (i := 2) (v := .agg (#[.int .i64 tide, .int .i64 bal])) rfl (by kernel_rfl) (by kernel_rfl) (by kernel_rfl) (fun _ _ _ h => h) (Or.inl ⟨rfl, fun W hW => exec_load_row 49 _ rfl (w.heap.size + 1 + 1) rfl 49 _ (0, 0) _ hW.2.1 Try.underlying49 rfl (by kernel_rfl)⟩) (by assumption) ?_); try simp only [Act.put, List.getElem_toArray, List.getElem_cons_succ, List.getElem_cons_zero, List.setIfInBounds_toArray, List.set_cons_zero, List.set_cons_succ])
    ((refine wpAnyH_ready (rs := [3]) (by kernel_rfl) (by simp) (AllReadyH.cons rfl (fun K hK => ?_) AllReadyH.nil)))
    go_simp
    refine (fault_c b s A c tide bal _ hl).mono ?_
    rintro e w2 ⟨rfl, hb2⟩
    refine hK.out _ _ ?_ (fun hHeld => ?_)
    · obtain ⟨a1, a2, ⟨cs, a3, a4⟩, a5⟩ := hHeld
      exact ⟨a1.keep hb2, a2.keep hb2, ⟨cs, a3, a4.keep hb2⟩, a5.keep hb2⟩
    clear hK K
    try simp only [Act.put, List.getElem_toArray, List.getElem_cons_succ, List.getElem_cons_zero, List.setIfInBounds_toArray, List.set_cons_zero, List.set_cons_succ]
    ((refine wpAnyH_ready (rs := [4]) (by kernel_rfl) (by simp) (AllReadyH.cons rfl (fun K hK => ?_) AllReadyH.nil)))
    obtain ⟨a1, a2, ⟨cs, a3, a4⟩, a5⟩ := hHeld
    refine Eq.mpr (if_pos (show Region.wanted _ _ = true from by kernel_rfl)) ?_
    refine wp_store_row 95 _ _ rfl (w.heap.size + 1 + 1 + 1) (shV b A c s) rfl rfl 95 cs a4 (by kernel_rfl) a3 (by simp [Value.oneCell']) ?_
    refine hK.out _ _ ?_ (fun hHeld => ?_)
    · exact ⟨a1.rowFar (by omega) _, a2.rowFar (by omega) _, ⟨_, rfl, a4.row _⟩, a5.row (by omega) _⟩
    clear hK K
    try simp only [Act.put, List.getElem_toArray, List.getElem_cons_succ, List.getElem_cons_zero, List.setIfInBounds_toArray, List.set_cons_zero, List.set_cons_succ]
    ((refine wpAnyH_ready (rs := [5]) (by kernel_rfl) (by simp) (AllReadyH.cons rfl (fun K hK => ?_) AllReadyH.nil)))
    go_simp
    refine hK.out _ _ ?_ (fun hHeld => ?_)
    · exact hHeld
    clear hK K
    try simp only [Act.put, List.getElem_toArray, List.getElem_cons_succ, List.getElem_cons_zero, List.setIfInBounds_toArray, List.set_cons_zero, List.set_cons_succ]
    refine wpAnyH_done (by kernel_rfl) ?_ _
    go_wp2_with fail
    obtain ⟨a1, a2, a3, a5⟩ := hHeld
    refine bodyPost_ret (results_cell_tmp Try.results53 _ _ (w.heap.size + 1 + 1 + 1) 95 (shV b A c s) (0, 0) _ rfl (a4.row _) Try.underlying95 rfl (by kernel_rfl)) rfl ⟨?_, a5.1⟩
    rw [HV.out]
    rfl
  · have HV : Hid (lookV b s A c tide bal = .tuple #[.agg shore0, .int .i64 (chk b s).2.2]) := by show _ = _; simp [lookV, hc]
    have hc' : ((chk b s).2.2 != 0) = true := by simpa using hc
    have hz := HG2.out.lt
    clear hc
    go_wp2_with (refine wpList_store_row rfl 95 _ _ rfl (w.heap.size + 1 + 1 + 1) _ rfl rfl 95 _ HG2.out (by kernel_rfl) rfl (by simp [Value.oneCell']) ?_)
    refine bodyPost_ret (results_cell_tmp Try.results53 _ _ (w.heap.size + 1 + 1 + 1) 95 shore0 (0, 0) _ rfl (HG2.out.row _) Try.underlying95 rfl (by kernel_rfl)) rfl ⟨?_, ?_⟩
    · rw [HV.out]
      rfl
    · exact (hs2.row (by omega) _).1
end Td
end Go.Proofs.Ytojpiliamecgkaa
