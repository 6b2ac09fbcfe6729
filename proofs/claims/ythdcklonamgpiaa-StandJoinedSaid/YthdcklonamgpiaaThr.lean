import Derived.Test.YthdcklonamgpiaaSeq
/- Whether a hull surely stands through a tide: by its turning heights. -/
namespace Go.Proofs.Ythdcklonamgpiaa
open Go.RowKit
namespace Td
set_option linter.unusedSimpArgs false
set_option linter.unusedVariables false
attribute [local go_sem] Oper.semAt_some
theorem turns_seq (n : Nat) (hn : 1 ≤ n) {a b c : Nat} {w₀ : World} {gT gW : Nat} {h : Hul} {m : Sl} {lo hi : Int} (C : Cx a b c w₀ gT gW h m lo hi) (hb : b ≤ w₀.heap.size) :
    SeqC Fence.wide n Try.prog 104 #[.pointer (some ⟨gT, 0, none⟩), .pointer (some ⟨gW, 0, none⟩)] (fun x : Int => #[.int .i64 x]) (Kp a b c) (fun xs => xs = turnL h lo hi) (fun pre => ∃ rest, turnL h lo hi = pre ++ rest) (fun pre x => ∃ rest, turnL h lo hi = pre ++ x :: rest) w₀ :=
  fun l J Jx W hW hJ hJx hY h0 => turns1_in n hn C l J Jx W hb hW hJ hY h0
/-- a scalar out of its cell. -/
theorem load_bool {w : World} {g : Nat} {ty : TypeId} {e : Bool} (h : Blk w g ty #[.bool e]) : (loadVar 4 ⟨g, 0, none⟩).run Try.prog w = .ok (.bool e) w := by
  have c0 := h.cell 0
  simp only [List.getElem?_toArray, List.getElem?_cons_zero] at c0
  simp [loadVar, isAgg, run_underlying Try.underlying4, Sem.run_bind, go_sem, c0]
theorem load_int {w : World} {g : Nat} {ty : TypeId} {e : Int} (h : Blk w g ty #[.int .i64 e]) : (loadVar 3 ⟨g, 0, none⟩).run Try.prog w = .ok (.int .i64 e) w := by
  have c0 := h.cell 0
  simp only [List.getElem?_toArray, List.getElem?_cons_zero] at c0
  simp [loadVar, isAgg, run_underlying Try.underlying3, Sem.run_bind, go_sem, c0]
theorem load_reason {w : World} {g : Nat} {ty : TypeId} {e : Int} (h : Blk w g ty #[.int .i64 e]) : (loadVar 103 ⟨g, 0, none⟩).run Try.prog w = .ok (.int .i64 e) w := by
  have c0 := h.cell 0
  simp only [List.getElem?_toArray, List.getElem?_cons_zero] at c0
  simp [loadVar, isAgg, run_underlying Try.underlying103, Sem.run_bind, go_sem, c0]
theorem results_cell1 {P : Program} {fn : Func} {p : Tmp} {t1 : TypeId} (h : fn.results = #[.cell p t1]) (tmps : Array Value) (w : World) (a1 : Addr) (v1 : Value)
    (hp : tmps.getD p undef = .pointer (some a1)) (h1 : (loadVar t1 a1).run P w = .ok v1 w) : (results fn tmps).run P w = .ok v1 w := by
  have hp' : tmps[p]?.getD undef = .pointer (some a1) := by simpa using hp
  simp [results, h, hp', asAddr, h1]
theorem results_cells2 {P : Program} {fn : Func} {p q : Tmp} {t1 t2 : TypeId} (h : fn.results = #[.cell p t1, .cell q t2]) (tmps : Array Value) (w : World) (a1 a2 : Addr) (v1 v2 : Value)
    (hp : tmps.getD p undef = .pointer (some a1)) (hq : tmps.getD q undef = .pointer (some a2)) (h1 : (loadVar t1 a1).run P w = .ok v1 w) (h2 : (loadVar t2 a2).run P w = .ok v2 w) :
    (results fn tmps).run P w = .ok (.tuple #[v1, v2]) w := by
  have hp' : tmps[p]?.getD undef = .pointer (some a1) := by simpa using hp
  have hq' : tmps[q]?.getD undef = .pointer (some a2) := by simpa using hq
  simp [results, h, hp', hq', asAddr, h1, h2]
set_option maxRecDepth 100000 in
set_option maxHeartbeats 4000000 in
theorem through_c (h : Hul) (m : Sl) (lo hi : Int) (w : World) (hh : HBk h) (hp : HAt w m h) (h0 : 0 ≤ lo) (h01 : lo ≤ hi) (h1 : hi ≤ 1000) :
    Calls Try.prog 67 #[.agg (hV h m), .agg #[.int .i64 lo, .int .i64 hi]] w fun e w' => e = .returned (.bool (thru h lo hi)) ∧ Below w.heap.size w w' := by
  have T := turnL_tn (h := h) h01
  refine (callsIn_wide (n := 6)).1 ?_
  refine callsIn_of_wp_marks Try.func67 rfl trivial ?_ rfl
  simp only [Try.ntmps67, List.size_toArray, List.length_cons, List.length_nil, Nat.reduceAdd, Nat.reduceSub, Array.replicate_succ, Array.replicate_zero, List.push_toArray, List.append_toArray, List.nil_append, List.cons_append]
  refine wpIn_wide.2 ?_
  have hsn0 := (((Since.refl w).alloc (.cells (hV h m) 92)).alloc (.cells #[.int .i64 lo, .int .i64 hi] 48)).alloc (.cells #[.bool false] 4)
  have bW0 := ((Blk.new w 92 (hV h m)).alloc (.cells #[.int .i64 lo, .int .i64 hi] 48)).alloc (.cells #[.bool false] 4)
  have bR0 := Blk.new2 w (.cells (hV h m) 92) (.cells #[.int .i64 lo, .int .i64 hi] 48) 4 #[.bool false]
  go_wp2_with fail
  refine (turns_c h m lo hi _).mono ?_
  rintro e w0 ⟨rfl, hw0⟩
  have hz0 : w0.heap.size = w.heap.size + 5 := by rw [← hw0]; simp
  have hsn1 : Since w w0 := by rw [← hw0]; exact (hsn0.alloc _).alloc _
  have bW1 : Blk w0 w.heap.size 92 (hV h m) := by rw [← hw0]; exact (bW0.alloc _).alloc _
  have bR1 : Blk w0 (w.heap.size + 1 + 1) 4 #[.bool false] := by rw [← hw0]; exact (bR0.alloc _).alloc _
  have hP : ∀ W, Kp (w.heap.size + 1 + 1) (w.heap.size + 1 + 1 + 1) w0.heap.size w0 W → HAt W m h := fun W hW => hp.keep (below_kp hsn1.1 hW (by omega))
  have C : Cx (w.heap.size + 1 + 1) (w.heap.size + 1 + 1 + 1) w0.heap.size w0 (w.heap.size + 1 + 1 + 1 + 1) (w.heap.size + 1 + 1 + 1) h m lo hi := by
    refine ⟨?_, ?_, by omega, by omega, hP, hh.n10⟩
    · rw [← hw0]
      have := Blk.new1 (((w.alloc (.cells (hV h m) 92)).alloc (.cells #[.int .i64 lo, .int .i64 hi] 48)).alloc (.cells #[.bool false] 4)) (.cells (hV h m) 92) 48 #[.int .i64 lo, .int .i64 hi]
      simp only [World.size_alloc] at this
      exact this
    · rw [← hw0]
      have := Blk.new (((w.alloc (.cells (hV h m) 92)).alloc (.cells #[.int .i64 lo, .int .i64 hi] 48)).alloc (.cells #[.bool false] 4)) 92 (hV h m)
      simp only [World.size_alloc] at this
      exact this.alloc _
  clear hsn0 bW0 bR0 hw0
  go_wp2_with fail
  refine (wpIn_wide (n := 6)).1 ?_
  refine rangeFunc_c (w := w0) rfl (by omega) (gf := 104) (lb := #[.pointer (some ⟨w.heap.size + 1 + 1 + 1 + 1, 0, none⟩), .pointer (some ⟨w.heap.size + 1 + 1 + 1, 0, none⟩)]) rfl trivial (enters_of Try.func104 (by kernel_rfl) rfl)
    (turns_seq _ (by omega) C (by omega)) Kp.trans (fun W l o o' hl hg hc _ => Kp.put W l o o' (by omega) hg hc) (Below.refl _ _) (fun _ => rfl)
    (fun pre W => ((Blk W (w.heap.size + 1 + 1) 4 #[.bool false] ∧ Blk W w.heap.size 92 (hV h m)) ∧ (∀ x ∈ pre, whyH h x = 0)) ∧ Below w.heap.size w W)
    (fun c pre W => ((c = .ret ∧ ∃ x ∈ pre, whyH h x ≠ 0) ∧ Blk W (w.heap.size + 1 + 1) 4 #[.bool false]) ∧ Below w.heap.size w W)
    ((((AllFrom.blk (by omega) _ _).and (AllFrom.blk (by omega) _ _)).and (AllFrom.pure _ _)).and (AllFrom.below (Nat.le_refl _) (by omega)))
    (fun _ => ((AllFrom.pure _ _).and (AllFrom.blk (by omega) _ _)).and (AllFrom.below (Nat.le_refl _) (by omega)))
    ⟨⟨⟨bR1, bW1⟩, fun x hx => absurd hx (by simp)⟩, hsn1.1⟩
    (fun x a' W => a' = { tmps := #[.agg (hV h m), .agg #[.int .i64 lo, .int .i64 hi], .pointer (some ⟨w.heap.size, 0, none⟩), .pointer (some ⟨w.heap.size + 1, 0, none⟩), .pointer (some ⟨w.heap.size + 1 + 1, 0, none⟩), .int .i64 x, .agg (hV h m), .agg #[.int .i64 lo, .int .i64 hi], .func (.func 104) #[] #[.pointer (some ⟨w.heap.size + 1 + 1 + 1 + 1, 0, none⟩), .pointer (some ⟨w.heap.size + 1 + 1 + 1, 0, none⟩)], .int .i64 x, undef, undef, undef, undef], defers := [] })
    (fun x a' _ X Y row hs hg hr => hs)
    ?assign ?body ?done ?stop
  case assign =>
    rintro l pre x W K ⟨⟨⟨i1, i2⟩, i3⟩, i5⟩ hK
    gi_wp2
    exact hK _ _ (keepsFrom_of_below (Below.refl _ _)) (.refl _ _ _ _) ⟨⟨⟨i1, i2⟩, i3⟩, i5⟩ rfl
  case body =>
    rintro l pre x a' W hl ⟨r, hr⟩ ⟨⟨⟨i1, i2⟩, i3⟩, i5⟩ rfl ⟨rest, hrest⟩
    obtain ⟨c0, c1, c2⟩ := i2.hull
    have hxb := T.bd x (by rw [hrest]; simp)
    have HW := Lib.hid (wwhy_c h m x W hh (hp.keep i5) (by omega) (by omega))
    gi_wp2
    refine ⟨trivial, ?_⟩
    refine (CallsIn.inRound l (callsIn_wide.2 HW.out)).mono ?_
    clear HW
    rintro e w' ⟨rfl, hb⟩
    have j1 := i1.keep hb
    have j2 := i2.keep hb
    have j5 := i5.trans (hb.mono i5.size)
    have hzw := hb.size
    clear c0 c1 c2
    by_cases hz : whyH h x = 0
    · have hz' : (whyH h x != 0) = false := by simp [hz]
      have HZ := Lib.hid hz
      clear hz
      gi_wp2
      refine ⟨keepsFrom_of_below hb, .of hb, ⟨⟨j1, j2⟩, fun y hy => ?_⟩, j5⟩
      rcases List.mem_append.1 hy with h5 | h5
      · exact i3 y h5
      · rw [List.mem_singleton.1 h5]; exact HZ.out
    · have hz' : (whyH h x != 0) = true := by simpa using hz
      have HZ := Lib.hid hz
      clear hz
      have d0 := j1.cell 0
      have f0 := j1.frozen 0
      simp only [List.getElem?_toArray, List.getElem?_cons_zero] at d0
      gi_wp2
      exact ⟨(keepsFrom_of_below hb).trans ((KeepsOthers.setCell _ _ _).from _), ⟨⟨rfl, x, by simp, HZ.out⟩, j1.set 0 _⟩, j5.setCell (p := ⟨w.heap.size + 1 + 1, 0, none⟩) (by simp; omega) _⟩
  case done =>
    rintro D xs W hD rfl ⟨⟨⟨i1, i2⟩, i3⟩, i5⟩ hK
    have HV : Hid (thru h lo hi = true) := thru_iff.2 (thru_all T i3)
    have d0 := i1.cell 0
    have f0 := i1.frozen 0
    simp only [List.getElem?_toArray, List.getElem?_cons_zero] at d0
    clear i3 i2
    go_wp2_with fail
    have hK' := (KeepsOthers.setCell W ⟨w.heap.size + 1 + 1, 0, none⟩ (.bool true)).same D _ hK rfl
    have hB9 := i5.setCell (p := ⟨w.heap.size + 1 + 1, 0, none⟩) (by simp; omega) (.bool true)
    have hR9 : Blk ((W.setCell ⟨w.heap.size + 1 + 1, 0, none⟩ (.bool true)).putObj D (.deferred none)) (w.heap.size + 1 + 1) 4 #[.bool true] := (i1.set 0 (.bool true)).grown (grownBy_putObj' _ D (.deferred none)) (fun e => by cases e; omega)
    refine ⟨by simp, .inl ⟨_, _, rfl, run_takeDeferred hK', ?_⟩⟩
    exact ⟨_, results_cell1 Try.results67 _ _ _ _ rfl (load_bool hR9), by rw [HV.out], hB9.trans (belowK_b (w := w) (Nat.le_refl _) _ D _ _ (by omega) hK' rfl rfl)⟩
  case stop =>
    rintro D c pre W hD ⟨rest, hE⟩ ⟨⟨⟨rfl, x, hx, hz⟩, i1⟩, i5⟩ hK
    have HV : Hid (thru h lo hi = false) := thru_no T (x := x) (by rw [hE]; exact List.mem_append_left _ hx) hz
    have hR9 : Blk (W.putObj D (.deferred none)) (w.heap.size + 1 + 1) 4 #[.bool false] := i1.grown (grownBy_putObj' _ D (.deferred none)) (fun e => by cases e; omega)
    clear hz hx
    gi_wp2
    refine ⟨by simp, .inl ⟨_, _, rfl, run_takeDeferred hK, ?_⟩⟩
    exact ⟨_, results_cell1 Try.results67 _ _ _ _ rfl (load_bool hR9), by rw [HV.out], i5.trans (belowK_b (w := w) (Nat.le_refl _) _ D _ _ (by omega) hK rfl rfl)⟩
end Td
end Go.Proofs.Ythdcklonamgpiaa
