import Derived.Test.YthdcklonamgpiaaTru
/- The exported functions that follow the balance: Balance, Least. -/
namespace Go.Proofs.Ythdcklonamgpiaa
open Go.RowKit
namespace Td
set_option linter.unusedSimpArgs false
set_option linter.unusedVariables false
attribute [local go_sem] Oper.semAt_some
theorem results_cell_tmp {P : Program} {fn : Func} {p q : Tmp} {ty : TypeId} (h : fn.results = #[.cell p ty, .tmp q]) (tmps : Array Value) (w : World) (g : Nat) (t : TypeId) (cs : Array Value) (fr : Nat × Nat) (d : TypeDesc)
    (hp : tmps.getD p undef = .pointer (some ⟨g, 0, none⟩)) (hg : w.heap[g]? = some (.cells cs t fr))
    (hu : P.underlying ty = some d) (hd : (match d with | .struct _ | .array _ _ => true | _ => false) = true) (hi : (P.info? ty).map (·.size) = some cs.size) :
    (results fn tmps).run P w = .ok (.tuple #[.agg cs, tmps.getD q undef]) w := by
  have hp' : tmps[p]?.getD undef = .pointer (some ⟨g, 0, none⟩) := by simpa using hp
  simp [results, h, hp', asAddr, run_loadVar_row w g t ty cs fr d hg hu hd hi]
theorem results_cell_tmp2 {P : Program} {fn : Func} {p q r : Tmp} {ty : TypeId} (h : fn.results = #[.cell p ty, .tmp q, .tmp r]) (tmps : Array Value) (w : World) (g : Nat) (t : TypeId) (cs : Array Value) (fr : Nat × Nat) (d : TypeDesc)
    (hp : tmps.getD p undef = .pointer (some ⟨g, 0, none⟩)) (hg : w.heap[g]? = some (.cells cs t fr))
    (hu : P.underlying ty = some d) (hd : (match d with | .struct _ | .array _ _ => true | _ => false) = true) (hi : (P.info? ty).map (·.size) = some cs.size) :
    (results fn tmps).run P w = .ok (.tuple #[.agg cs, tmps.getD q undef, tmps.getD r undef]) w := by
  have hp' : tmps[p]?.getD undef = .pointer (some ⟨g, 0, none⟩) := by simpa using hp
  simp [results, h, hp', asAddr, run_loadVar_row w g t ty cs fr d hg hu hd hi]
theorem truthE_eq (h : Hul) (gs ls : List Int) : truthE h gs ls = if gs.length ≠ h.parts.length ∨ ls.length ≠ h.parts.length then 3 else if mch (fun x => (x.w0, x.w1)) h.parts gs && mch (fun x => (x.l0, x.l1)) h.parts ls then 0 else 7 := rfl
set_option maxRecDepth 100000 in
set_option maxHeartbeats 2000000 in
theorem truthFault_c (h : Hul) (m : Sl) (GA : Option Addr) (gs : List Int) (gc : Nat) (LA : Option Addr) (ls : List Int) (lc : Nat) (w : World) (hl : h.parts.length ≤ 1000) (hp : HAt w m h) (hG : InAt w GA gs) (hL : InAt w LA ls) :
    Calls Try.prog 49 #[.agg (hV h m), .agg (tV GA gs.length gc LA ls.length lc)] w fun e w' => e = .returned (.int .i64 (truthE h gs ls)) ∧ Below w.heap.size w w' := by
  obtain ⟨E, hE⟩ : ∃ E, truthE h gs ls = E := ⟨_, rfl⟩
  rw [hE]
  rw [truthE_eq] at hE
  have hs0 := ((Since.refl w).alloc (.cells (hV h m) 24)).alloc (.cells (tV GA gs.length gc LA ls.length lc) 27)
  have HH := Lib.hid ((Blk.new w 24 (hV h m)).alloc (.cells (tV GA gs.length gc LA ls.length lc) 27))
  have HT := Lib.hid (Blk.new1 w (.cells (hV h m) 24) 27 (tV GA gs.length gc LA ls.length lc))
  by_cases h1 : gs.length = h.parts.length
  · by_cases h2 : ls.length = h.parts.length
    · rw [if_neg (by omega)] at hE
      have H1 := Lib.hid h1
      have H2 := Lib.hid h2
      have h1' : ((gs.length : Int) != (h.parts.length : Int)) = false := by simp [h1]
      have h2' : ((ls.length : Int) != (h.parts.length : Int)) = false := by simp [h2]
      clear h1 h2
      go_enter Try.func49, Try.ntmps49
      go_wp2_with fail
      refine (match_c m.A h.parts m.c GA gs gc _ (fun x => (x.w0, x.w1)) _ hl H1.out (hp.ps.keep hs0.1) (hG.keep hs0.1) (enters_of Try.func84 (by kernel_rfl) rfl) (fun x W => span1_c x W)).mono ?_
      rintro e w1 ⟨rfl, hb1⟩
      have hs1 := hs0.keep hb1
      have HH1 := Lib.hid (HH.out.keep hb1)
      have HT1 := Lib.hid (HT.out.keep hb1)
      rcases Bool.eq_false_or_eq_true (mch (fun x => (x.w0, x.w1)) h.parts gs) with h3 | h3
      · rw [h3, Bool.true_and] at hE
        rw [h3]
        clear h3
        obtain ⟨c0, c1, c2⟩ := HH1.out.hull
        have t0 := HT1.out.cell 0
        have t1 := HT1.out.cell 1
        simp only [List.getElem?_toArray, List.getElem?_cons_zero, List.getElem?_cons_succ] at t0 t1
        go_wp2_with fail
        refine (match_c m.A h.parts m.c LA ls lc _ (fun x => (x.l0, x.l1)) _ hl H2.out (hp.ps.keep hs1.1) (hL.keep hs1.1) (enters_of Try.func85 (by kernel_rfl) rfl) (fun x W => span2_c x W)).mono ?_
        rintro e w2 ⟨rfl, hb2⟩
        have hs2 := hs1.keep hb2
        clear c0 c1 c2 t0 t1
        rcases Bool.eq_false_or_eq_true (mch (fun x => (x.l0, x.l1)) h.parts ls) with h4 | h4
        · rw [if_pos h4] at hE
          rw [h4]
          clear h4
          go_wp2_with fail
          go_ret
          exact ⟨ret_int hE, hs2.1⟩
        · rw [if_neg (by rw [h4]; decide)] at hE
          rw [h4]
          clear h4
          go_wp2_with fail
          go_ret
          exact ⟨ret_int hE, hs2.1⟩
      · rw [h3, Bool.false_and, if_neg (by decide)] at hE
        rw [h3]
        clear h3
        go_wp2_with fail
        go_ret
        exact ⟨ret_int hE, hs1.1⟩
    · rw [if_pos (Or.inr h2)] at hE
      have H1 := Lib.hid h1
      have h1' : ((gs.length : Int) != (h.parts.length : Int)) = false := by simp [h1]
      have h2' : ((ls.length : Int) != (h.parts.length : Int)) = true := by simp; omega
      clear h1 h2
      go_enter Try.func49, Try.ntmps49
      go_wp2_with fail
      go_ret
      exact ⟨ret_int hE, hs0.1⟩
  · rw [if_pos (Or.inl h1)] at hE
    have h1' : ((gs.length : Int) != (h.parts.length : Int)) = true := by simp; omega
    clear h1
    go_enter Try.func49, Try.ntmps49
    go_wp2_with fail
    go_ret
    exact ⟨ret_int hE, hs0.1⟩
/-! ### the wreck of a hull -/
abbrev w0V : Array Value := #[.slice none 0 0, .int .i64 0, .int .i64 0]
/-- what look comes to: the wreck, or nothing and the error. -/
def lookV (h : Hul) (m : Sl) (lo hi : Int) : Value := if lookE h lo hi = 0 then .tuple #[.agg (hV h m), .int .i64 0] else .tuple #[.agg w0V, .int .i64 (lookE h lo hi)]
set_option maxRecDepth 100000 in
set_option maxHeartbeats 2000000 in
theorem look_c (h : Hul) (m : Sl) (lo hi : Int) (w : World) (hp : HAt w m h) :
    Calls Try.prog 55 #[.agg (hV h m), .agg #[.int .i64 lo, .int .i64 hi]] w fun e w' => e = .returned (lookV h m lo hi) ∧ Below w.heap.size w w' := by
  have hs0 := (((Since.refl w).alloc (.cells (hV h m) 24)).alloc (.cells #[.int .i64 lo, .int .i64 hi] 48)).alloc (.cells w0V 92)
  have HH := Lib.hid (((Blk.new w 24 (hV h m)).alloc (.cells #[.int .i64 lo, .int .i64 hi] 48)).alloc (.cells w0V 92))
  have HS := Lib.hid ((Blk.new1 w (.cells (hV h m) 24) 48 #[.int .i64 lo, .int .i64 hi]).alloc (.cells w0V 92))
  have HR := Lib.hid (Blk.new2 w (.cells (hV h m) 24) (.cells #[.int .i64 lo, .int .i64 hi] 48) 92 w0V)
  go_enter Try.func55, Try.ntmps55
  go_wp2_with fail
  refine (check_c h m _ (hp.keep hs0.1)).mono ?_
  rintro e w1 ⟨rfl, hb1⟩
  have hs1 := hs0.keep hb1
  have HH1 := Lib.hid (HH.out.keep hb1)
  have HS1 := Lib.hid (HS.out.keep hb1)
  have HR1 := Lib.hid (HR.out.keep hb1)
  clear HH HS HR
  by_cases hc : (chk h).2.2 = 0
  · rw [hc]
    have HC := Lib.hid hc
    clear hc
    obtain ⟨c0, c1⟩ := HS1.out.span
    go_wp2_with fail
    refine (tideFault_c lo hi _).mono ?_
    rintro e w2 ⟨rfl, hb2⟩
    have hs2 := hs1.keep hb2
    have HH2 := Lib.hid (HH1.out.keep hb2)
    have HR2 := Lib.hid (HR1.out.keep hb2)
    clear c0 c1
    by_cases ht : tideE lo hi = 0
    · have HV : Hid (lookV h m lo hi = .tuple #[.agg (hV h m), .int .i64 0]) := by show _ = _; simp [lookV, lookE, HC.out, ht]
      rw [ht]
      clear ht
      obtain ⟨c0, c1, c2⟩ := HH2.out.hull
      go_wp2_with (refine wpList_store_row rfl 92 _ _ rfl (w.heap.size + 1 + 1) _ rfl rfl 92 _ HR2.out (by kernel_rfl) rfl (by simp [Value.oneCell']) ?_)
      refine bodyPost_ret (results_cell_tmp Try.results55 _ _ (w.heap.size + 1 + 1) 92 _ (0, 0) _ rfl (HR2.out.row _) Try.underlying92 rfl (by kernel_rfl)) rfl ⟨?_, (hs2.row (by omega) _).1⟩
      rw [HV.out]
      rfl
    · have HV : Hid (lookV h m lo hi = .tuple #[.agg w0V, .int .i64 (tideE lo hi)]) := by show _ = _; simp [lookV, lookE, HC.out, ht]
      have ht' : (tideE lo hi != 0) = true := by simpa using ht
      clear ht
      go_wp2_with (refine wpList_store_row rfl 92 _ _ rfl (w.heap.size + 1 + 1) _ rfl rfl 92 _ HR2.out (by kernel_rfl) rfl (by simp [Value.oneCell']) ?_)
      refine bodyPost_ret (results_cell_tmp Try.results55 _ _ (w.heap.size + 1 + 1) 92 _ (0, 0) _ rfl (HR2.out.row _) Try.underlying92 rfl (by kernel_rfl)) rfl ⟨?_, (hs2.row (by omega) _).1⟩
      rw [HV.out]
      rfl
  · have HV : Hid (lookV h m lo hi = .tuple #[.agg w0V, .int .i64 (chk h).2.2]) := by show _ = _; simp [lookV, lookE, hc]
    have hc' : ((chk h).2.2 != 0) = true := by simpa using hc
    clear hc
    go_wp2_with (refine wpList_store_row rfl 92 _ _ rfl (w.heap.size + 1 + 1) _ rfl rfl 92 _ HR1.out (by kernel_rfl) rfl (by simp [Value.oneCell']) ?_)
    refine bodyPost_ret (results_cell_tmp Try.results55 _ _ (w.heap.size + 1 + 1) 92 _ (0, 0) _ rfl (HR1.out.row _) Try.underlying92 rfl (by kernel_rfl)) rfl ⟨?_, (hs1.row (by omega) _).1⟩
    rw [HV.out]
    rfl
set_option maxHeartbeats 1000000 in
theorem wwhy_c (h : Hul) (m : Sl) (wt : Int) (w : World) (hh : HBk h) (hp : HAt w m h) (hw0 : 0 ≤ wt) (hw1 : wt ≤ 1000) :
    Calls Try.prog 74 #[.agg (hV h m), .int .i64 wt] w fun e w' => e = .returned (.int .i64 (whyH h wt)) ∧ Below w.heap.size w w' := by
  have hs0 := (Since.refl w).alloc (.cells (hV h m) 92)
  go_enter Try.func74, Try.ntmps74
  go_wp2_with fail
  refine (least_c h m wt _ hh (hp.keep hs0.1) hw0 hw1).mono ?_
  rintro e w1 ⟨rfl, hb1⟩
  have hs1 := hs0.keep hb1
  go_wp2_with fail
  refine (bwhy_c (fun k => lst h k wt) _).mono ?_
  rintro e w2 ⟨rfl, hb2⟩
  go_wp2_with fail
  go_ret
  exact ⟨rfl, (hs1.keep hb2).1⟩
/-! ### Least and Balance -/
/-- a balance's cells. -/
abbrev b3 (x : Int × Int × Int) : Array Value := #[.int .i64 x.1, .int .i64 x.2.1, .int .i64 x.2.2]
abbrev z3 : Array Value := #[.int .i64 0, .int .i64 0, .int .i64 0]
set_option maxRecDepth 100000 in
set_option maxHeartbeats 2000000 in
theorem Least_c (h : Hul) (m : Sl) (wt : Int) (w : World) (hp : HAt w m h) :
    Calls Try.prog 19 #[.agg (hV h m), .int .i64 wt] w fun e w' => e = .returned (.tuple #[.agg (b3 (leastA h wt).1), .int .i64 (leastA h wt).2]) ∧ Below w.heap.size w w' := by
  have hs0 := ((Since.refl w).alloc (.cells (hV h m) 24)).alloc (.cells z3 32)
  have HR := Lib.hid (Blk.new1 w (.cells (hV h m) 24) 32 z3)
  obtain ⟨c0, c1, c2⟩ := ((Blk.new w 24 (hV h m)).alloc (.cells z3 32)).hull
  go_enter Try.func19, Try.ntmps19
  go_wp2_with fail
  refine (look_c h m wt wt _ (hp.keep hs0.1)).mono ?_
  rintro e w1 ⟨rfl, hb1⟩
  have hs1 := hs0.keep hb1
  have HR1 := Lib.hid (HR.out.keep hb1)
  clear c0 c1 c2 HR
  by_cases hc : lookE h wt wt = 0
  · obtain ⟨hc1, hw0, -, hw1⟩ := lookE_ok.1 hc
    have hh := (chk_ok hc1).bk
    have HV : Hid (leastA h wt = ((lst h 0 wt, lst h 1 wt, lst h 2 wt), 0)) := by show _ = _; simp [leastA, hc]
    rw [show lookV h m wt wt = .tuple #[.agg (hV h m), .int .i64 0] from by simp [lookV, hc]]
    clear hc hc1
    have hs2 := hs1.alloc (.cells (hV h m) 92)
    have HR2 := Lib.hid (HR1.out.alloc (.cells (hV h m) 92))
    go_wp2_with fail
    refine (least_c h m wt _ hh (hp.keep hs2.1) hw0 hw1).mono ?_
    rintro e w2 ⟨rfl, hb2⟩
    have hs3 := hs2.keep hb2
    have HR3 := Lib.hid (HR2.out.keep hb2)
    go_wp2_with fail
    refine (told_c (fun k => lst h k wt) _).mono ?_
    rintro e w3 ⟨rfl, hb3⟩
    have hs4 := hs3.keep hb3
    have HR4 := Lib.hid (HR3.out.keep hb3)
    rw [show r3 (fun k => lst h k wt) = #[.int .i64 (lst h 0 wt), .int .i64 (lst h 1 wt), .int .i64 (lst h 2 wt)] from rfl]
    go_wp2_with (refine wpList_store_row rfl 32 _ _ rfl (w.heap.size + 1) _ rfl rfl 32 _ HR4.out (by kernel_rfl) rfl (by simp [Value.oneCell']) ?_)
    refine bodyPost_ret (results_cell_tmp Try.results19 _ _ (w.heap.size + 1) 32 _ (0, 0) _ rfl (HR4.out.row _) Try.underlying32 rfl (by kernel_rfl)) rfl ⟨?_, (hs4.row (by omega) _).1⟩
    rw [HV.out]
    rfl
  · have HV : Hid (leastA h wt = ((0, 0, 0), lookE h wt wt)) := by show _ = _; simp [leastA, hc]
    rw [show lookV h m wt wt = .tuple #[.agg w0V, .int .i64 (lookE h wt wt)] from by simp [lookV, hc]]
    have hc' : (lookE h wt wt != 0) = true := by simpa using hc
    clear hc
    have hs2 := hs1.alloc (.cells w0V 92)
    have HR2 := Lib.hid (HR1.out.alloc (.cells w0V 92))
    go_wp2_with (refine wpList_store_row rfl 32 _ _ rfl (w.heap.size + 1) _ rfl rfl 32 _ HR2.out (by kernel_rfl) rfl (by simp [Value.oneCell']) ?_)
    refine bodyPost_ret (results_cell_tmp Try.results19 _ _ (w.heap.size + 1) 32 _ (0, 0) _ rfl (HR2.out.row _) Try.underlying32 rfl (by kernel_rfl)) rfl ⟨?_, (hs2.row (by omega) _).1⟩
    rw [HV.out]
    rfl
set_option maxRecDepth 100000 in
set_option maxHeartbeats 2000000 in
theorem Balance_c (h : Hul) (m : Sl) (GA : Option Addr) (gs : List Int) (gc : Nat) (LA : Option Addr) (ls : List Int) (lc : Nat) (wt : Int) (w : World) (hp : HAt w m h) (hG : InAt w GA gs) (hL : InAt w LA ls) :
    Calls Try.prog 17 #[.agg (hV h m), .agg (tV GA gs.length gc LA ls.length lc), .int .i64 wt] w fun e w' => e = .returned (.tuple #[.agg (b3 (balanceA h gs ls wt).1), .int .i64 (balanceA h gs ls wt).2]) ∧ Below w.heap.size w w' := by
  have hs0 := (((Since.refl w).alloc (.cells (hV h m) 24)).alloc (.cells (tV GA gs.length gc LA ls.length lc) 27)).alloc (.cells z3 32)
  have HH := Lib.hid (((Blk.new w 24 (hV h m)).alloc (.cells (tV GA gs.length gc LA ls.length lc) 27)).alloc (.cells z3 32))
  have HT := Lib.hid ((Blk.new1 w (.cells (hV h m) 24) 27 (tV GA gs.length gc LA ls.length lc)).alloc (.cells z3 32))
  have HR := Lib.hid (Blk.new2 w (.cells (hV h m) 24) (.cells (tV GA gs.length gc LA ls.length lc) 27) 32 z3)
  go_enter Try.func17, Try.ntmps17
  go_wp2_with fail
  refine (check_c h m _ (hp.keep hs0.1)).mono ?_
  rintro e w1 ⟨rfl, hb1⟩
  have hs1 := hs0.keep hb1
  have HH1 := Lib.hid (HH.out.keep hb1)
  have HT1 := Lib.hid (HT.out.keep hb1)
  have HR1 := Lib.hid (HR.out.keep hb1)
  clear HH HT HR
  by_cases hc : (chk h).2.2 = 0
  · have hh := (chk_ok hc).bk
    have hn10 := hh.n10
    rw [hc]
    have HC := Lib.hid hc
    clear hc
    obtain ⟨c0, c1, c2⟩ := HH1.out.hull
    have t0 := HT1.out.cell 0
    have t1 := HT1.out.cell 1
    simp only [List.getElem?_toArray, List.getElem?_cons_zero, List.getElem?_cons_succ] at t0 t1
    go_wp2_with fail
    refine (truthFault_c h m GA gs gc LA ls lc _ (by omega) (hp.keep hs1.1) (hG.keep hs1.1) (hL.keep hs1.1)).mono ?_
    rintro e w2 ⟨rfl, hb2⟩
    have hs2 := hs1.keep hb2
    have HH2 := Lib.hid (HH1.out.keep hb2)
    have HT2 := Lib.hid (HT1.out.keep hb2)
    have HR2 := Lib.hid (HR1.out.keep hb2)
    clear c0 c1 c2 t0 t1 HH1 HT1 HR1
    by_cases ht : truthE h gs ls = 0
    · rw [ht]
      have HT' := Lib.hid ht
      clear ht
      go_wp2_with fail
      refine (waterFault_c wt _).mono ?_
      rintro e w3 ⟨rfl, hb3⟩
      have hs3 := hs2.keep hb3
      have HH3 := Lib.hid (HH2.out.keep hb3)
      have HT3 := Lib.hid (HT2.out.keep hb3)
      have HR3 := Lib.hid (HR2.out.keep hb3)
      clear HH2 HT2 HR2
      by_cases hw : waterE wt = 0
      · have HV : Hid (balanceA h gs ls wt = ((bal h gs ls 0 wt, bal h gs ls 1 wt, bal h gs ls 2 wt), 0)) := by show _ = _; simp [balanceA, balE, HC.out, HT'.out, hw]
        obtain ⟨hw0, hw1⟩ := waterE_ok.1 hw
        rw [hw]
        clear hw
        obtain ⟨c0, c1, c2⟩ := HH3.out.hull
        have t0 := HT3.out.cell 0
        have t1 := HT3.out.cell 1
        simp only [List.getElem?_toArray, List.getElem?_cons_zero, List.getElem?_cons_succ] at t0 t1
        go_wp2_with fail
        refine (wbalance_c h m GA gs gc LA ls lc wt _ hh (hp.keep hs3.1) (hG.keep hs3.1) (hL.keep hs3.1) (truthE_ok.1 HT'.out) hw0 hw1).mono ?_
        rintro e w4 ⟨rfl, hb4⟩
        have hs4 := hs3.keep hb4
        have HR4 := Lib.hid (HR3.out.keep hb4)
        clear c0 c1 c2 t0 t1
        go_wp2_with fail
        refine (told_c (fun k => bal h gs ls k wt) _).mono ?_
        rintro e w5 ⟨rfl, hb5⟩
        have hs5 := hs4.keep hb5
        have HR5 := Lib.hid (HR4.out.keep hb5)
        rw [show r3 (fun k => bal h gs ls k wt) = #[.int .i64 (bal h gs ls 0 wt), .int .i64 (bal h gs ls 1 wt), .int .i64 (bal h gs ls 2 wt)] from rfl]
        go_wp2_with (refine wpList_store_row rfl 32 _ _ rfl (w.heap.size + 1 + 1) _ rfl rfl 32 _ HR5.out (by kernel_rfl) rfl (by simp [Value.oneCell']) ?_)
        refine bodyPost_ret (results_cell_tmp Try.results17 _ _ (w.heap.size + 1 + 1) 32 _ (0, 0) _ rfl (HR5.out.row _) Try.underlying32 rfl (by kernel_rfl)) rfl ⟨?_, (hs5.row (by omega) _).1⟩
        rw [HV.out]
        rfl
      · have HV : Hid (balanceA h gs ls wt = ((0, 0, 0), waterE wt)) := by show _ = _; simp [balanceA, balE, HC.out, HT'.out, hw]
        have hw' : (waterE wt != 0) = true := by simpa using hw
        clear hw
        go_wp2_with (refine wpList_store_row rfl 32 _ _ rfl (w.heap.size + 1 + 1) _ rfl rfl 32 _ HR3.out (by kernel_rfl) rfl (by simp [Value.oneCell']) ?_)
        refine bodyPost_ret (results_cell_tmp Try.results17 _ _ (w.heap.size + 1 + 1) 32 _ (0, 0) _ rfl (HR3.out.row _) Try.underlying32 rfl (by kernel_rfl)) rfl ⟨?_, (hs3.row (by omega) _).1⟩
        rw [HV.out]
        rfl
    · have HV : Hid (balanceA h gs ls wt = ((0, 0, 0), truthE h gs ls)) := by show _ = _; simp [balanceA, balE, HC.out, ht]
      have ht' : (truthE h gs ls != 0) = true := by simpa using ht
      clear ht
      go_wp2_with (refine wpList_store_row rfl 32 _ _ rfl (w.heap.size + 1 + 1) _ rfl rfl 32 _ HR2.out (by kernel_rfl) rfl (by simp [Value.oneCell']) ?_)
      refine bodyPost_ret (results_cell_tmp Try.results17 _ _ (w.heap.size + 1 + 1) 32 _ (0, 0) _ rfl (HR2.out.row _) Try.underlying32 rfl (by kernel_rfl)) rfl ⟨?_, (hs2.row (by omega) _).1⟩
      rw [HV.out]
      rfl
  · have HV : Hid (balanceA h gs ls wt = ((0, 0, 0), (chk h).2.2)) := by show _ = _; simp [balanceA, balE, hc]
    have hc' : ((chk h).2.2 != 0) = true := by simpa using hc
    clear hc
    go_wp2_with (refine wpList_store_row rfl 32 _ _ rfl (w.heap.size + 1 + 1) _ rfl rfl 32 _ HR1.out (by kernel_rfl) rfl (by simp [Value.oneCell']) ?_)
    refine bodyPost_ret (results_cell_tmp Try.results17 _ _ (w.heap.size + 1 + 1) 32 _ (0, 0) _ rfl (HR1.out.row _) Try.underlying32 rfl (by kernel_rfl)) rfl ⟨?_, (hs1.row (by omega) _).1⟩
    rw [HV.out]
    rfl
end Td
end Go.Proofs.Ythdcklonamgpiaa
