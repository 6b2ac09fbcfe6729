import Derived.Test.YtojpiliamecgkaaIter
namespace Go.Proofs.Ytojpiliamecgkaa
open Go.RowKit
namespace Td
set_option linter.unusedSimpArgs false
set_option linter.unusedVariables false
attribute [local go_sem] Oper.semAt_some
theorem corners_stops {α : Type} (enc : α → Int × Int × Int × Int) (cf : Nat → α) (F : Fence) (n : Nat) (hf : F.fn 83) (hro : F.round = none) (hn : 1 ≤ n) (gx n₀ : Nat) (x : Box) (hcf : ∀ k, enc (cf k) = corner x k) (w : World) (hgx : gx < n₀) (hn0 : n₀ ≤ w.heap.size) (hx : Blk w gx 99 (boxV x)) :
    SeqC F n Try.prog 83 #[.pointer (some ⟨gx, 0, none⟩)] (fun t => encT (enc t)) (Below n₀) (fun ys => ys = upto cf 16) (fun pre => ∃ k, k ≤ 16 ∧ pre = upto cf k) 16 w := fun l J Jx W hW hJ hJx hY h0 =>
  corners1_in enc cf F n hf hro hn gx n₀ l x hcf hgx J Jx W (Nat.le_trans hn0 hW.size) ((hW.block gx (by omega)).trans hx) hJ hY h0
theorem corners_c (x : Box) (w : World) : Calls Try.prog 78 #[.agg (boxV x)] w fun e w' => e = .returned (.func (.func 83) #[] #[.pointer (some ⟨w.heap.size, 0, none⟩)]) ∧ w.alloc (.cells (boxV x) 99) = w' := by
  go_enter Try.func78, Try.ntmps78
  go_wp2
  go_ret
  exact ⟨rfl, rfl⟩
/-- a truth whose numbers are in the ranges. -/
abbrev Tr : Type := { t : Int × Int × Int × Int // TrOk t.1 t.2.1 t.2.2.1 t.2.2.2 }
theorem corner_tr {x : Box} (hx : BoxOk x) (k : Nat) : TrOk (corner x k).1 (corner x k).2.1 (corner x k).2.2.1 (corner x k).2.2.2 := by
  have h := corner_in hx k
  obtain ⟨_, _, _, _, _, _, _, _, _, _, _, _⟩ := hx
  obtain ⟨_, _, _, _, _, _, _, _⟩ := h
  refine ⟨?_, ?_, ?_, ?_, ?_, ?_, ?_, ?_⟩ <;> omega
def vals (lift : Int) (pre : List Tr) : List Int := pre.map fun t => plc lift t.1
theorem vals_snoc (lift : Int) (pre : List Tr) (t : Tr) : vals lift (pre ++ [t]) = vals lift pre ++ [plc lift t.1] := by simp [vals]
theorem vals_all {x : Box} (hx : BoxOk x) (lift : Int) (k : Nat) : vals lift (upto (fun k => (⟨corner x k, corner_tr hx k⟩ : Tr)) k) = (corners x k).map (plc lift) := by
  simp [vals, upto, corners, List.map_map, Function.comp_def]
/-- the least and the greatest so far. -/
abbrev spanV (lift : Int) (pre : List Tr) : Array Value := #[.int .i64 (mins (vals lift pre) 9223372036854775807), .int .i64 (maxs (vals lift pre) (-9223372036854775808))]
theorem Blk.span {w : World} {g : Nat} {t : TypeId} {p q : Int} (h : Blk w g t #[.int .i64 p, .int .i64 q]) : w.cell? ⟨g, 0, none⟩ = some (.int .i64 p) ∧ w.cell? ⟨g, 1, none⟩ = some (.int .i64 q) := ⟨h.cell 0, h.cell 1⟩
theorem Blk.tr {w : World} {g : Nat} {t : TypeId} {sl dr he wn : Int} (h : Blk w g t (trV sl dr he wn)) : w.cell? ⟨g, 0, none⟩ = some (.int .i64 sl) ∧ w.cell? ⟨g, 1, none⟩ = some (.int .i64 dr) ∧ w.cell? ⟨g, 2, none⟩ = some (.int .i64 he) ∧ w.cell? ⟨g, 3, none⟩ = some (.int .i64 wn) := ⟨h.cell 0, h.cell 1, h.cell 2, h.cell 3⟩
set_option maxRecDepth 100000 in
set_option maxHeartbeats 4000000 in
theorem bounds_c (b : Bch) (A : Option Addr) (c : Nat) (s : Shp) (y x : Box) (lift : Int) (gx gv : Nat) (w : World) (hx : Blk w gx 99 (boxV x)) (hv : Blk w gv 101 (vwV b A c s y lift))
    (hok : BoxOk x) (l0 : -10000 ≤ lift) (l1 : lift ≤ 10000) :
    Calls Try.prog 77 #[.func (.func 83) #[] #[.pointer (some ⟨gx, 0, none⟩)], .func (.func 79) #[] #[.pointer (some ⟨gv, 0, none⟩)]] w fun e w' => e = .returned (.agg #[.int .i64 (rlo x lift), .int .i64 (rhi x lift)]) ∧ Below w.heap.size w w' := by
  have hvl := hv.lt
  have hge1 : w.heap.size ≤ w.heap.size + 1 := by omega
  have hge : w.heap.size ≤ w.heap.size + 1 + 1 := by omega
  refine (callsIn_wide (n := 6)).1 ?_
  refine callsIn_of_wp_marks Try.func77 rfl trivial ?_ rfl
  simp only [Try.ntmps77, List.size_toArray, List.length_cons, List.length_nil, Nat.reduceAdd, Nat.reduceSub, Array.replicate_succ, Array.replicate_zero, List.push_toArray, List.append_toArray, List.nil_append, List.cons_append]
  gi_wp2
  have hB0 : Below w.heap.size w (((w.alloc (.cells #[.func (.func 79) #[] #[.pointer (some ⟨gv, 0, none⟩)]] 115)).alloc (.cells #[.int .i64 0, .int .i64 0] 23)).alloc (.cells #[.int .i64 9223372036854775807, .int .i64 (-9223372036854775808)] 23)) :=
    (((Below.refl _ w).alloc (Nat.le_refl _) _).alloc (by simp) _).alloc (by simp; omega) _
  have bF := ((Blk.new w 115 #[.func (.func 79) #[] #[.pointer (some ⟨gv, 0, none⟩)]]).alloc (.cells #[.int .i64 0, .int .i64 0] 23)).alloc (.cells #[.int .i64 9223372036854775807, .int .i64 (-9223372036854775808)] 23)
  have bR := (Blk.new1 w (.cells #[.func (.func 79) #[] #[.pointer (some ⟨gv, 0, none⟩)]] 115) 23 #[.int .i64 0, .int .i64 0]).alloc (.cells #[.int .i64 9223372036854775807, .int .i64 (-9223372036854775808)] 23)
  have bS := Blk.new2 w (.cells #[.func (.func 79) #[] #[.pointer (some ⟨gv, 0, none⟩)]] 115) (.cells #[.int .i64 0, .int .i64 0] 23) 23 #[.int .i64 9223372036854775807, .int .i64 (-9223372036854775808)]
  obtain ⟨W0, hW0⟩ : ∃ W0, ((w.alloc (.cells #[.func (.func 79) #[] #[.pointer (some ⟨gv, 0, none⟩)]] 115)).alloc (.cells #[.int .i64 0, .int .i64 0] 23)).alloc (.cells #[.int .i64 9223372036854775807, .int .i64 (-9223372036854775808)] 23) = W0 := ⟨_, rfl⟩
  have hsz : W0.heap.size = w.heap.size + 3 := by rw [← hW0]; simp
  rw [hW0] at hB0 bF bR bS ⊢
  clear hW0
  have bV0 : Blk W0 gv 101 (vwV b A c s y lift) := (hB0.block gv hvl).trans hv
  have bX0 : Blk W0 gx 99 (boxV x) := (hB0.block gx hx.lt).trans hx
  refine rangeFunc_c (w := W0) rfl (by omega) (gf := 83) (lb := #[.pointer (some ⟨gx, 0, none⟩)]) rfl trivial (enters_of Try.func83 (by kernel_rfl) rfl)
    (corners_stops (fun t : Tr => t.1) (fun k => ⟨corner x k, corner_tr hok k⟩) Fence.wide _ trivial rfl (by omega) gx w.heap.size x (fun _ => rfl) W0 hx.lt (by omega) bX0) belowK_t (belowK_b (by omega)) (Below.refl _ _) (fun _ => rfl)
    (fun pre W => ((Blk W (w.heap.size + 1 + 1) 23 (spanV lift pre) ∧ Blk W w.heap.size 115 #[.func (.func 79) #[] #[.pointer (some ⟨gv, 0, none⟩)]]) ∧ (Blk W (w.heap.size + 1) 23 #[.int .i64 0, .int .i64 0] ∧ Blk W gv 101 (vwV b A c s y lift))) ∧ Below w.heap.size w W)
    (fun _ _ _ => False)
    (((AllFrom.blk (by omega) _ _).and (AllFrom.blk (by omega) _ _)).and ((AllFrom.blk (by omega) _ _).and (AllFrom.blk (by omega) _ _)) |>.and (AllFrom.below (Nat.le_refl _) (by omega)))
    (fun _ _ _ _ _ hs _ _ => hs)
    ⟨⟨⟨bS, bF⟩, bR, bV0⟩, hB0⟩
    (fun t a' W => ∃ Bx, w.heap.size + 2 < Bx ∧ Blk W Bx 45 (trV t.1.1 t.1.2.1 t.1.2.2.1 t.1.2.2.2) ∧ a' = { tmps := #[.func (.func 83) #[] #[.pointer (some ⟨gx, 0, none⟩)], .func (.func 79) #[] #[.pointer (some ⟨gv, 0, none⟩)], undef, .pointer (some ⟨w.heap.size, 0, none⟩), .pointer (some ⟨w.heap.size + 1, 0, none⟩), .pointer (some ⟨w.heap.size + 1 + 1, 0, none⟩), .pointer (some ⟨Bx, 0, none⟩), undef, .agg #[.int .i64 9223372036854775807, .int .i64 (-9223372036854775808)], .func (.func 83) #[] #[.pointer (some ⟨gx, 0, none⟩)], .agg (trV t.1.1 t.1.2.1 t.1.2.2.1 t.1.2.2.2), undef, undef, undef, undef, undef, undef, undef, undef, undef, undef, undef, undef, undef], defers := [] })
    (fun t a' _ X Y row hs hg hr => by
      obtain ⟨Bx, h1, h2, h3⟩ := hs
      exact ⟨Bx, h1, h2.grown hg (fun e => by obtain ⟨_, o, ho, hc⟩ := hr Bx e.symm; rw [show X.heap[Bx]? = _ from h2] at ho; cases ho; cases hc), h3⟩)
    ?assign ?body ?done ?stop
  case assign =>
    rintro l pre t W K ⟨⟨⟨i1, i2⟩, i3, i4⟩, i5⟩ hK
    gi_wp2
    exact hK _ _ ((KeepsOthers.alloc _ _).from _) ((Below.refl _ W).alloc i5.size _) ⟨⟨⟨i1.alloc _, i2.alloc _⟩, i3.alloc _, i4.alloc _⟩, i5.alloc i5.size _⟩ ⟨W.heap.size, i1.lt, Blk.new W _ _, rfl⟩
  case body =>
    rintro l pre t a' W hl ⟨r, hr⟩ ⟨⟨⟨i1, i2⟩, i3, i4⟩, i5⟩ ⟨Bx, hBx, bX, rfl⟩ hlt
    have cF := i2.cell 0
    simp only [List.getElem?_toArray, List.getElem?_cons_zero] at cF
    obtain ⟨t0, t1, t2, t3⟩ := bX.tr
    have hN := vals_snoc lift pre t
    gi_wp2
    refine ⟨trivial, ?_⟩
    refine (CallsIn.inRound l (callsIn_wide.2 (reach1_c b A c s y lift _ _ _ _ gv W i4 t.2 l0 l1))).mono ?_
    rintro e w' ⟨rfl, hb⟩
    have j1 := i1.keep hb
    have j2 := i2.keep hb
    have j3 := i3.keep hb
    have j4 := i4.keep hb
    have j5 := i5.trans (hb.mono i5.size)
    have hzw := hb.size
    have hz5 := i5.size
    obtain ⟨d0, d1⟩ := j1.span
    have e0 := j1.frozen 0
    have e1 := j1.frozen 1
    have hm : mins (vals lift (pre ++ [t])) 9223372036854775807 = min (mins (vals lift pre) 9223372036854775807) (pl t.1.1 t.1.2.1 t.1.2.2.1 t.1.2.2.2 lift) := by rw [hN, mins_snoc]; rfl
    have hM : maxs (vals lift (pre ++ [t])) (-9223372036854775808) = max (maxs (vals lift pre) (-9223372036854775808)) (pl t.1.1 t.1.2.1 t.1.2.2.1 t.1.2.2.2 lift) := by rw [hN, maxs_snoc]; rfl
    have HM := Lib.hid hm
    have HX := Lib.hid hM
    clear hm hM hN cF t0 t1 t2 t3 bX
    obtain ⟨v, hv0⟩ : ∃ v, pl t.1.1 t.1.2.1 t.1.2.2.1 t.1.2.2.2 lift = v := ⟨_, rfl⟩
    rw [hv0] at HM HX ⊢
    clear hv0
    have J1 := Lib.hid j1
    clear j1
    rcases (by omega : (v < mins (vals lift pre) 9223372036854775807 ∧ min (mins (vals lift pre) 9223372036854775807) v = v) ∨ (¬ v < mins (vals lift pre) 9223372036854775807 ∧ min (mins (vals lift pre) 9223372036854775807) v = mins (vals lift pre) 9223372036854775807)) with ⟨h1, hx1⟩ | ⟨h1, hx1⟩ <;> rcases (by omega : (maxs (vals lift pre) (-9223372036854775808) < v ∧ max (maxs (vals lift pre) (-9223372036854775808)) v = v) ∨ (¬ maxs (vals lift pre) (-9223372036854775808) < v ∧ max (maxs (vals lift pre) (-9223372036854775808)) v = maxs (vals lift pre) (-9223372036854775808))) with ⟨h2, hx2⟩ | ⟨h2, hx2⟩
    all_goals
      rw [hx1] at HM
      rw [hx2] at HX
      clear hx1 hx2
      gi_wp2
      refine ⟨(keepsFrom_of_below hb).trans (((KeepsOthers.setCell _ _ _).trans (KeepsOthers.setCell _ _ _)).from _), ((hb.mono hz5).setCell (p := ⟨w.heap.size + 1 + 1, 0, none⟩) hge _).setCell (p := ⟨w.heap.size + 1 + 1, 1, none⟩) hge _, ⟨⟨?_, (j2.far (by omega) _ _).far (by omega) _ _⟩, (j3.far (by omega) _ _).far (by omega) _ _, (j4.far (by omega) _ _).far (by omega) _ _⟩, (j5.setCell (p := ⟨w.heap.size + 1 + 1, 0, none⟩) hge _).setCell (p := ⟨w.heap.size + 1 + 1, 1, none⟩) hge _⟩
      show Blk _ _ _ #[.int .i64 (mins (vals lift (pre ++ [t])) 9223372036854775807), .int .i64 (maxs (vals lift (pre ++ [t])) (-9223372036854775808))]
      rw [HM.out, HX.out]
      exact (J1.out.set 0 _).set 1 _
  case done =>
    rintro D xs W hD rfl ⟨⟨⟨i1, i2⟩, i3, i4⟩, i5⟩ hK
    obtain ⟨d0, d1⟩ := i1.span
    have I3 := Lib.hid i3
    have hV : mins (vals lift (upto (fun k => (⟨corner x k, corner_tr hok k⟩ : Tr)) 16)) 9223372036854775807 = rlo x lift := by rw [vals_all hok, mins_corners hok l0 l1]
    have hV2 : maxs (vals lift (upto (fun k => (⟨corner x k, corner_tr hok k⟩ : Tr)) 16)) (-9223372036854775808) = rhi x lift := by rw [vals_all hok, maxs_corners hok l0 l1]
    rw [hV] at d0
    rw [hV2] at d1
    clear hV hV2 i1 i2 i3 i4
    have r0 := I3.out.frozen 0
    have r1 := I3.out.frozen 1
    obtain ⟨q0, q1⟩ := I3.out.span
    gi_wp2
    have hK' := ((KeepsOthers.setCell W ⟨w.heap.size + 1, 0, none⟩ (.int .i64 (rlo x lift))).trans (KeepsOthers.setCell _ ⟨w.heap.size + 1, 1, none⟩ (.int .i64 (rhi x lift)))).same D _ hK rfl
    have hB9 := (i5.setCell (p := ⟨w.heap.size + 1, 0, none⟩) hge1 (.int .i64 (rlo x lift))).setCell (p := ⟨w.heap.size + 1, 1, none⟩) hge1 (.int .i64 (rhi x lift))
    have hR9 := (((I3.out.set 0 (.int .i64 (rlo x lift))).set 1 (.int .i64 (rhi x lift)))).grown (grownBy_putObj' _ D (.deferred none)) (fun e => by cases e; omega)
    refine ⟨by simp, .inl ⟨_, _, rfl, run_takeDeferred hK', ?_⟩⟩
    exact ⟨_, (results_cell_row Try.results77 _ _ (w.heap.size + 1) 23 _ (0, 0) _ rfl hR9 Try.underlying23 rfl (by kernel_rfl)), rfl, hB9.trans (belowK_b (w := w) (Nat.le_refl _) _ D _ _ (by omega) hK' rfl rfl)⟩
  case stop =>
    rintro D c pre W _ _ h _
    exact h.elim
end Td
end Go.Proofs.Ytojpiliamecgkaa
