import Derived.Test.YthdcklonamgpiaaChkA
/- Sums of a balance: what a part adds, on which side it is least; the array of the sums. -/
namespace Go.Proofs.Ythdcklonamgpiaa
open Go.RowKit
namespace Td
set_option linter.unusedSimpArgs false
set_option linter.unusedVariables false
attribute [local go_sem] Oper.semAt_some
/-- the cells of a part that is pressed. -/
abbrev qV (x : Prt) (h : Hul) (m : Sl) (p : Int) : Array Value := #[.string x.name, .int .i64 x.pt, .int .i64 x.w0, .int .i64 x.w1, .int .i64 x.kl, .int .i64 x.l0, .int .i64 x.l1, .slice m.A h.parts.length m.c, .int .i64 h.aft, .int .i64 h.fore, .int .i64 p]
theorem Blk.pressed {w : World} {g : Nat} {t : TypeId} {x : Prt} {h : Hul} {m : Sl} {p : Int} (k : Blk w g t (qV x h m p)) :
    w.cell? ⟨g, 1, none⟩ = some (.int .i64 x.pt) ∧ w.cell? ⟨g, 8, none⟩ = some (.int .i64 h.aft) ∧ w.cell? ⟨g, 9, none⟩ = some (.int .i64 h.fore) ∧ w.cell? ⟨g, 10, none⟩ = some (.int .i64 p) := ⟨k.cell 1, k.cell 8, k.cell 9, k.cell 10⟩
/-- the cells of a truth. -/
abbrev tV (G : Option Addr) (gn gc : Nat) (L : Option Addr) (ln lc : Nat) : Array Value := #[.slice G gn gc, .slice L ln lc]
/-- three numbers. -/
def r3 (f : Nat → Int) : Array Value := #[.int .i64 (f 0), .int .i64 (f 1), .int .i64 (f 2)]
theorem r3_get (f : Nat → Int) {k : Nat} (hk : k < 3) : (r3 f)[k]? = some (.int .i64 (f k)) := by
  rcases (by omega : k = 0 ∨ k = 1 ∨ k = 2) with rfl | rfl | rfl <;> rfl
theorem r3_set (f : Nat → Int) {k : Nat} (hk : k < 3) (v : Int) : (r3 f).setIfInBounds k (.int .i64 v) = r3 (fun i => if i = k then v else f i) := by
  rcases (by omega : k = 0 ∨ k = 1 ∨ k = 2) with rfl | rfl | rfl <;> simp [r3]
theorem told_c (f : Nat → Int) (w : World) : Calls Try.prog 52 #[.agg (r3 f)] w fun e w' => e = .returned (.agg (r3 f)) ∧ Below w.heap.size w w' := by
  unfold r3
  have hs0 := ((Since.refl w).alloc (.cells #[.int .i64 (f 0), .int .i64 (f 1), .int .i64 (f 2)] 90)).alloc (.cells #[.int .i64 0, .int .i64 0, .int .i64 0] 32)
  have HB := Lib.hid (Blk.new1 w (.cells #[.int .i64 (f 0), .int .i64 (f 1), .int .i64 (f 2)] 90) 32 #[.int .i64 0, .int .i64 0, .int .i64 0])
  go_enter Try.func52, Try.ntmps52
  go_wp2_with (refine wpList_store_row rfl 32 _ _ rfl (w.heap.size + 1) _ rfl rfl 32 _ HB.out (by kernel_rfl) rfl (by simp [Value.oneCell']) ?_)
  (refine bodyPost_ret (v := .agg _) ?_ rfl ⟨rfl, ?_⟩; exact (results_cell_row Try.results52 _ _ (w.heap.size + 1) 32 _ (0, 0) _ rfl (HB.out.row _) Try.underlying32 rfl (by kernel_rfl)))
  exact (hs0.row (by omega) _).1
theorem balanceOf_c (f : Nat → Int) (w : World) : Calls Try.prog 60 #[.agg (r3 f)] w fun e w' => e = .returned (.agg (r3 f)) ∧ Below w.heap.size w w' := by
  unfold r3
  have hs0 := ((Since.refl w).alloc (.cells #[.int .i64 (f 0), .int .i64 (f 1), .int .i64 (f 2)] 32)).alloc (.cells #[.int .i64 0, .int .i64 0, .int .i64 0] 90)
  have HB := Lib.hid (Blk.new1 w (.cells #[.int .i64 (f 0), .int .i64 (f 1), .int .i64 (f 2)] 32) 90 #[.int .i64 0, .int .i64 0, .int .i64 0])
  go_enter Try.func60, Try.ntmps60
  go_wp2_with (refine wpList_store_row rfl 90 _ _ rfl (w.heap.size + 1) _ rfl rfl 90 _ HB.out (by kernel_rfl) rfl (by simp [Value.oneCell']) ?_)
  (refine bodyPost_ret (v := .agg _) ?_ rfl ⟨rfl, ?_⟩; exact (results_cell_row Try.results60 _ _ (w.heap.size + 1) 90 _ (0, 0) _ rfl (HB.out.row _) Try.underlying90 rfl (by kernel_rfl)))
  exact (hs0.row (by omega) _).1
set_option maxHeartbeats 1000000 in
theorem down_c (x : Prt) (h : Hul) (m : Sl) (p : Int) (w : World) : Calls Try.prog 97 #[.agg (qV x h m p)] w fun e w' => e = .returned (.int .i64 p) ∧ Below w.heap.size w w' := by
  have hs0 := (Since.refl w).alloc (.cells (qV x h m p) 136)
  obtain ⟨c1, c8, c9, c10⟩ := (Blk.new w 136 (qV x h m p)).pressed
  go_enter Try.func97, Try.ntmps97
  go_wp2_with fail
  go_ret
  exact ⟨rfl, hs0.1⟩
theorem i64_sub {a b : Int} (h : I64 (a - b)) : IntKind.i64.wrap (a - b) = a - b := IntWalk.i64_in _ h
theorem i64_mul {a b : Int} (h : I64 (a * b)) : IntKind.i64.wrap (a * b) = a * b := IntWalk.i64_in _ h
theorem i64_add {a b : Int} (h : I64 (a + b)) : IntKind.i64.wrap (a + b) = a + b := IntWalk.i64_in _ h
set_option maxHeartbeats 1000000 in
theorem overAft_c (x : Prt) (h : Hul) (m : Sl) (p : Int) (w : World) (h1 : I64 (x.pt - h.aft)) (h2 : I64 (p * (x.pt - h.aft))) : Calls Try.prog 99 #[.agg (qV x h m p)] w fun e w' => e = .returned (.int .i64 (p * (x.pt - h.aft))) ∧ Below w.heap.size w w' := by
  have hs0 := (Since.refl w).alloc (.cells (qV x h m p) 136)
  obtain ⟨c1, c8, c9, c10⟩ := (Blk.new w 136 (qV x h m p)).pressed
  have e1 := i64_sub h1
  have e2 := i64_mul h2
  go_enter Try.func99, Try.ntmps99
  go_wp2_with fail
  go_ret
  exact ⟨rfl, hs0.1⟩
set_option maxHeartbeats 1000000 in
theorem overFore_c (x : Prt) (h : Hul) (m : Sl) (p : Int) (w : World) (h1 : I64 (h.fore - x.pt)) (h2 : I64 (p * (h.fore - x.pt))) : Calls Try.prog 102 #[.agg (qV x h m p)] w fun e w' => e = .returned (.int .i64 (p * (h.fore - x.pt))) ∧ Below w.heap.size w w' := by
  have hs0 := (Since.refl w).alloc (.cells (qV x h m p) 136)
  obtain ⟨c1, c8, c9, c10⟩ := (Blk.new w 136 (qV x h m p)).pressed
  have e1 := i64_sub h1
  have e2 := i64_mul h2
  go_enter Try.func102, Try.ntmps102
  go_wp2_with fail
  go_ret
  exact ⟨rfl, hs0.1⟩
set_option maxHeartbeats 1000000 in
theorem lightest_c (x : Prt) (w : World) : Calls Try.prog 98 #[.agg (pV x)] w fun e w' => e = .returned (.tuple #[.int .i64 x.w0, .int .i64 x.l1]) ∧ Below w.heap.size w w' := by
  have hs0 := (Since.refl w).alloc (.cells (pV x) 74)
  have HB := Lib.hid (Blk.new w 74 (pV x))
  go_enter Try.func98, Try.ntmps98
  go_wp2_with fail
  refine Vals9.region (fun _ X => Since w X ∧ Blk X w.heap.size 74 (pV x)) [some 4, some 5, some 6, some 7, some 8, some 9, some 2, some 3] [.is ?_, .is ?_, .is ?_, .is ?_, .is ?_, .is ?_, .is ?_, .is ?_] (by kernel_rfl) (by kernel_rfl) (by kernel_rfl) (by kernel_rfl) (by kernel_rfl) (by kernel_rfl) (⟨hs0.drew, HB.out.drew⟩) ?hsteps ?hfin
  case hsteps =>
    refine Vals9.Steps.run rfl ?_ ?_
    · intro a W σ hJ pre K hK
      have e1 := pre.2.2 1 _ (by kernel_rfl) rfl
      clear pre
      simp only [Array.getD_eq_getD_getElem?, List.getElem?_toArray, List.getElem?_cons_zero, List.getElem?_cons_succ, Option.getD_some] at e1
      go_simp
      exact hK _ hJ
    refine Vals9.Steps.run rfl ?_ ?_
    · intro a W σ hJ pre K hK
      have e4 := pre.1 0 4 _ (by kernel_rfl) rfl rfl
      clear pre
      simp only [Array.getD_eq_getD_getElem?, List.getElem?_toArray, List.getElem?_cons_zero, List.getElem?_cons_succ, Option.getD_some] at e4
      go_simp
      exact hK _ hJ
    refine Vals9.Steps.run rfl ?_ ?_
    · intro a W σ hJ pre K hK
      have e5 := pre.1 1 5 _ (by kernel_rfl) rfl rfl
      clear pre
      simp only [Array.getD_eq_getD_getElem?, List.getElem?_toArray, List.getElem?_cons_zero, List.getElem?_cons_succ, Option.getD_some] at e5
      have hS9 := hJ
      obtain ⟨_, q1⟩ := hS9
      obtain ⟨d0, d1, d2, d3, d4, d5, d6⟩ := q1.part
      go_simp
      exact hK _ hJ
    refine Vals9.Steps.run rfl ?_ ?_
    · intro a W σ hJ pre K hK
      have e1 := pre.2.2 1 _ (by kernel_rfl) rfl
      clear pre
      simp only [Array.getD_eq_getD_getElem?, List.getElem?_toArray, List.getElem?_cons_zero, List.getElem?_cons_succ, Option.getD_some] at e1
      go_simp
      exact hK _ hJ
    refine Vals9.Steps.run rfl ?_ ?_
    · intro a W σ hJ pre K hK
      have e7 := pre.1 3 7 _ (by kernel_rfl) rfl rfl
      clear pre
      simp only [Array.getD_eq_getD_getElem?, List.getElem?_toArray, List.getElem?_cons_zero, List.getElem?_cons_succ, Option.getD_some] at e7
      go_simp
      exact hK _ hJ
    refine Vals9.Steps.run rfl ?_ ?_
    · intro a W σ hJ pre K hK
      have e8 := pre.1 4 8 _ (by kernel_rfl) rfl rfl
      clear pre
      simp only [Array.getD_eq_getD_getElem?, List.getElem?_toArray, List.getElem?_cons_zero, List.getElem?_cons_succ, Option.getD_some] at e8
      have hS9 := hJ
      obtain ⟨_, q1⟩ := hS9
      obtain ⟨d0, d1, d2, d3, d4, d5, d6⟩ := q1.part
      go_simp
      exact hK _ hJ
    refine Vals9.Steps.run rfl ?_ ?_
    · intro a W σ hJ pre K hK
      have e6 := pre.1 2 6 _ (by kernel_rfl) rfl rfl
      clear pre
      simp only [Array.getD_eq_getD_getElem?, List.getElem?_toArray, List.getElem?_cons_zero, List.getElem?_cons_succ, Option.getD_some] at e6
      go_simp
      exact hK _ hJ
    refine Vals9.Steps.run rfl ?_ ?_
    · intro a W σ hJ pre K hK
      have e9 := pre.1 5 9 _ (by kernel_rfl) rfl rfl
      clear pre
      simp only [Array.getD_eq_getD_getElem?, List.getElem?_toArray, List.getElem?_cons_zero, List.getElem?_cons_succ, Option.getD_some] at e9
      go_simp
      exact hK _ hJ
    exact Vals9.Steps.nil
  case hfin =>
    rintro X σ ⟨hsn, -⟩
    simp only [Vals9.All]
    simp only [Vals.putAll, List.setIfInBounds_toArray, List.set_cons_zero, List.set_cons_succ]
    go_wp2_with fail
    go_ret2
    exact ⟨rfl, hsn.1⟩
set_option maxHeartbeats 1000000 in
theorem heaviest_c (x : Prt) (w : World) : Calls Try.prog 101 #[.agg (pV x)] w fun e w' => e = .returned (.tuple #[.int .i64 x.w1, .int .i64 x.l0]) ∧ Below w.heap.size w w' := by
  have hs0 := (Since.refl w).alloc (.cells (pV x) 74)
  have HB := Lib.hid (Blk.new w 74 (pV x))
  go_enter Try.func101, Try.ntmps101
  go_wp2_with fail
  refine Vals9.region (fun _ X => Since w X ∧ Blk X w.heap.size 74 (pV x)) [some 4, some 5, some 6, some 7, some 8, some 9, some 2, some 3] [.is ?_, .is ?_, .is ?_, .is ?_, .is ?_, .is ?_, .is ?_, .is ?_] (by kernel_rfl) (by kernel_rfl) (by kernel_rfl) (by kernel_rfl) (by kernel_rfl) (by kernel_rfl) (⟨hs0.drew, HB.out.drew⟩) ?hsteps ?hfin
  case hsteps =>
    refine Vals9.Steps.run rfl ?_ ?_
    · intro a W σ hJ pre K hK
      have e1 := pre.2.2 1 _ (by kernel_rfl) rfl
      clear pre
      simp only [Array.getD_eq_getD_getElem?, List.getElem?_toArray, List.getElem?_cons_zero, List.getElem?_cons_succ, Option.getD_some] at e1
      go_simp
      exact hK _ hJ
    refine Vals9.Steps.run rfl ?_ ?_
    · intro a W σ hJ pre K hK
      have e4 := pre.1 0 4 _ (by kernel_rfl) rfl rfl
      clear pre
      simp only [Array.getD_eq_getD_getElem?, List.getElem?_toArray, List.getElem?_cons_zero, List.getElem?_cons_succ, Option.getD_some] at e4
      go_simp
      exact hK _ hJ
    refine Vals9.Steps.run rfl ?_ ?_
    · intro a W σ hJ pre K hK
      have e5 := pre.1 1 5 _ (by kernel_rfl) rfl rfl
      clear pre
      simp only [Array.getD_eq_getD_getElem?, List.getElem?_toArray, List.getElem?_cons_zero, List.getElem?_cons_succ, Option.getD_some] at e5
      have hS9 := hJ
      obtain ⟨_, q1⟩ := hS9
      obtain ⟨d0, d1, d2, d3, d4, d5, d6⟩ := q1.part
      go_simp
      exact hK _ hJ
    refine Vals9.Steps.run rfl ?_ ?_
    · intro a W σ hJ pre K hK
      have e1 := pre.2.2 1 _ (by kernel_rfl) rfl
      clear pre
      simp only [Array.getD_eq_getD_getElem?, List.getElem?_toArray, List.getElem?_cons_zero, List.getElem?_cons_succ, Option.getD_some] at e1
      go_simp
      exact hK _ hJ
    refine Vals9.Steps.run rfl ?_ ?_
    · intro a W σ hJ pre K hK
      have e7 := pre.1 3 7 _ (by kernel_rfl) rfl rfl
      clear pre
      simp only [Array.getD_eq_getD_getElem?, List.getElem?_toArray, List.getElem?_cons_zero, List.getElem?_cons_succ, Option.getD_some] at e7
      go_simp
      exact hK _ hJ
    refine Vals9.Steps.run rfl ?_ ?_
    · intro a W σ hJ pre K hK
      have e8 := pre.1 4 8 _ (by kernel_rfl) rfl rfl
      clear pre
      simp only [Array.getD_eq_getD_getElem?, List.getElem?_toArray, List.getElem?_cons_zero, List.getElem?_cons_succ, Option.getD_some] at e8
      have hS9 := hJ
      obtain ⟨_, q1⟩ := hS9
      obtain ⟨d0, d1, d2, d3, d4, d5, d6⟩ := q1.part
      go_simp
      exact hK _ hJ
    refine Vals9.Steps.run rfl ?_ ?_
    · intro a W σ hJ pre K hK
      have e6 := pre.1 2 6 _ (by kernel_rfl) rfl rfl
      clear pre
      simp only [Array.getD_eq_getD_getElem?, List.getElem?_toArray, List.getElem?_cons_zero, List.getElem?_cons_succ, Option.getD_some] at e6
      go_simp
      exact hK _ hJ
    refine Vals9.Steps.run rfl ?_ ?_
    · intro a W σ hJ pre K hK
      have e9 := pre.1 5 9 _ (by kernel_rfl) rfl rfl
      clear pre
      simp only [Array.getD_eq_getD_getElem?, List.getElem?_toArray, List.getElem?_cons_zero, List.getElem?_cons_succ, Option.getD_some] at e9
      go_simp
      exact hK _ hJ
    exact Vals9.Steps.nil
  case hfin =>
    rintro X σ ⟨hsn, -⟩
    simp only [Vals9.All]
    simp only [Vals.putAll, List.setIfInBounds_toArray, List.set_cons_zero, List.set_cons_succ]
    go_wp2_with fail
    go_ret2
    exact ⟨rfl, hsn.1⟩
set_option maxHeartbeats 1000000 in
theorem side1_c (x : Prt) (h : Hul) (m : Sl) (g : Nat) (w : World) (hg : Blk w g 92 (hV h m)) : Calls Try.prog 100 #[.agg (pV x), .pointer (some ⟨g, 0, none⟩)] w fun e w' => e = .returned (.tuple #[.int .i64 (sdW h.aft h.fore 1 x), .int .i64 (sdL h.aft h.fore 1 x)]) ∧ Below w.heap.size w w' := by
  have hs0 := (Since.refl w).alloc (.cells (pV x) 74)
  have HB := Lib.hid (Blk.new w 74 (pV x))
  obtain ⟨d0, d1, d2, d3, d4, d5, d6⟩ := HB.out.part
  obtain ⟨c0, c1, c2⟩ := (hg.alloc (.cells (pV x) 74)).hull
  by_cases hh : x.pt < h.aft
  · have HW : Hid (sdW h.aft h.fore 1 x = x.w1) := by show _ = _; simp [sdW, hvy, hh]
    have HL : Hid (sdL h.aft h.fore 1 x = x.l0) := by show _ = _; simp [sdL, hvy, hh]
    go_enter Try.func100, Try.ntmps100
    go_wp2_with fail
    refine (heaviest_c x _).mono ?_
    rintro e w1 ⟨rfl, hb1⟩
    clear c0 c1 c2 d0 d1 d2 d3 d4 d5 d6
    go_wp2_with fail
    go_ret2
    exact ⟨by rw [HW.out, HL.out]; rfl, (hs0.keep hb1).1⟩
  · have HW : Hid (sdW h.aft h.fore 1 x = x.w0) := by show _ = _; simp [sdW, hvy, hh]
    have HL : Hid (sdL h.aft h.fore 1 x = x.l1) := by show _ = _; simp [sdL, hvy, hh]
    go_enter Try.func100, Try.ntmps100
    go_wp2_with fail
    refine (lightest_c x _).mono ?_
    rintro e w1 ⟨rfl, hb1⟩
    clear c0 c1 c2 d0 d1 d2 d3 d4 d5 d6
    go_wp2_with fail
    go_ret2
    exact ⟨by rw [HW.out, HL.out]; rfl, (hs0.keep hb1).1⟩
set_option maxHeartbeats 1000000 in
theorem side2_c (x : Prt) (h : Hul) (m : Sl) (g : Nat) (w : World) (hg : Blk w g 92 (hV h m)) : Calls Try.prog 103 #[.agg (pV x), .pointer (some ⟨g, 0, none⟩)] w fun e w' => e = .returned (.tuple #[.int .i64 (sdW h.aft h.fore 2 x), .int .i64 (sdL h.aft h.fore 2 x)]) ∧ Below w.heap.size w w' := by
  have hs0 := (Since.refl w).alloc (.cells (pV x) 74)
  have HB := Lib.hid (Blk.new w 74 (pV x))
  obtain ⟨d0, d1, d2, d3, d4, d5, d6⟩ := HB.out.part
  obtain ⟨c0, c1, c2⟩ := (hg.alloc (.cells (pV x) 74)).hull
  by_cases hh : h.fore < x.pt
  · have HW : Hid (sdW h.aft h.fore 2 x = x.w1) := by show _ = _; simp [sdW, hvy, hh]
    have HL : Hid (sdL h.aft h.fore 2 x = x.l0) := by show _ = _; simp [sdL, hvy, hh]
    go_enter Try.func103, Try.ntmps103
    go_wp2_with fail
    refine (heaviest_c x _).mono ?_
    rintro e w1 ⟨rfl, hb1⟩
    clear c0 c1 c2 d0 d1 d2 d3 d4 d5 d6
    go_wp2_with fail
    go_ret2
    exact ⟨by rw [HW.out, HL.out]; rfl, (hs0.keep hb1).1⟩
  · have HW : Hid (sdW h.aft h.fore 2 x = x.w0) := by show _ = _; simp [sdW, hvy, hh]
    have HL : Hid (sdL h.aft h.fore 2 x = x.l1) := by show _ = _; simp [sdL, hvy, hh]
    go_enter Try.func103, Try.ntmps103
    go_wp2_with fail
    refine (lightest_c x _).mono ?_
    rintro e w1 ⟨rfl, hb1⟩
    clear c0 c1 c2 d0 d1 d2 d3 d4 d5 d6
    go_wp2_with fail
    go_ret2
    exact ⟨by rw [HW.out, HL.out]; rfl, (hs0.keep hb1).1⟩
/-- the functions of the k-th sum: what a part adds, on which side it is least. -/
def adF (k : Nat) : FuncId := match k with | 0 => 97 | 1 => 99 | _ => 102
def sdF (k : Nat) : FuncId := match k with | 0 => 98 | 1 => 100 | _ => 103
def sdC (g k : Nat) : Array Value := match k with | 0 => #[] | _ => #[.pointer (some ⟨g, 0, none⟩)]
/-- the cells of the sums. -/
abbrev sV (g : Nat) : Array Value := #[.func (.func 97) #[] #[], .func (.func 98) #[] #[], .func (.func 99) #[] #[], .func (.func 100) #[] #[.pointer (some ⟨g, 0, none⟩)], .func (.func 102) #[] #[], .func (.func 103) #[] #[.pointer (some ⟨g, 0, none⟩)]]
set_option maxHeartbeats 1000000 in
theorem sums_c (h : Hul) (m : Sl) (w : World) : Calls Try.prog 86 #[.agg (hV h m)] w fun e w' => (e = .returned (.agg (sV w.heap.size)) ∧ Blk w' w.heap.size 92 (hV h m)) ∧ Below w.heap.size w w' := by
  have hs0 := ((Since.refl w).alloc (.cells (hV h m) 92)).alloc (.cells #[.nilFunc, .nilFunc, .nilFunc, .nilFunc, .nilFunc, .nilFunc] 133)
  have HW := Lib.hid ((Blk.new w 92 (hV h m)).alloc (.cells #[.nilFunc, .nilFunc, .nilFunc, .nilFunc, .nilFunc, .nilFunc] 133))
  have HB := Lib.hid (Blk.new1 w (.cells (hV h m) 92) 133 #[.nilFunc, .nilFunc, .nilFunc, .nilFunc, .nilFunc, .nilFunc])
  go_enter Try.func86, Try.ntmps86
  go_wp2_with (refine wpList_store_row rfl 133 _ _ rfl (w.heap.size + 1) _ rfl rfl 133 _ HB.out (by kernel_rfl) rfl (by simp [Value.oneCell']) ?_)
  (refine bodyPost_ret (v := .agg _) ?_ rfl ⟨⟨rfl, ?_⟩, ?_⟩)
  exact (results_cell_row Try.results86 _ _ (w.heap.size + 1) 133 _ (0, 0) _ rfl (HB.out.row _) Try.underlying133 rfl (by kernel_rfl))
  · exact HW.out.rowFar (by omega) _
  · exact (hs0.row (by omega) _).1
/-- a press that is within bounds. -/
theorem prs_fit {x : Prt} {g l w : Int} (hg : 0 ≤ g) (hg1 : g ≤ 3000000) (hl : 0 ≤ l) (hl1 : l ≤ 5000) (hx : PBk x) (h0 : 0 ≤ w) (h1 : w ≤ 1000) : I64 (w - x.kl) ∧ I64 (l * abv x w) ∧ I64 (g - l * abv x w) := by
  obtain ⟨a0, a1⟩ := abv_bd hx h0 h1
  have := mul_bd hl hl1 a0 a1
  have := hx.k0; have := hx.k1
  unfold I64
  omega
set_option maxHeartbeats 2000000 in
theorem press_c (x : Prt) (h : Hul) (m : Sl) (g l wt : Int) (w : World) (hg : 0 ≤ g) (hg1 : g ≤ 3000000) (hl : 0 ≤ l) (hl1 : l ≤ 5000) (hx : PBk x) (h0 : 0 ≤ wt) (h1 : wt ≤ 1000) :
    Calls Try.prog 87 #[.agg (hV h m), .agg (pV x), .int .i64 g, .int .i64 l, .int .i64 wt] w fun e w' => e = .returned (.agg (qV x h m (prs x g l wt))) ∧ Below w.heap.size w w' := by
  obtain ⟨f1, f2, f3⟩ := prs_fit hg hg1 hl hl1 hx h0 h1
  have e1 := i64_sub f1
  have e2 : wrap64 (l * abv x wt) = l * abv x wt := IntWalk.wrap64_in _ f2
  have e3 : wrap64 (g - l * abv x wt) = g - l * abv x wt := IntWalk.wrap64_in _ f3
  clear f1 f2 f3
  have hs0 := (((Since.refl w).alloc (.cells (hV h m) 92)).alloc (.cells (pV x) 74)).alloc (.cells #[.string ByteArray.empty, .int .i64 0, .int .i64 0, .int .i64 0, .int .i64 0, .int .i64 0, .int .i64 0, .slice none 0 0, .int .i64 0, .int .i64 0, .int .i64 0] 136)
  have HB := Lib.hid (Blk.new2 w (.cells (hV h m) 92) (.cells (pV x) 74) 136 #[.string ByteArray.empty, .int .i64 0, .int .i64 0, .int .i64 0, .int .i64 0, .int .i64 0, .int .i64 0, .slice none 0 0, .int .i64 0, .int .i64 0, .int .i64 0])
  have HP := Lib.hid ((Blk.new1 w (.cells (hV h m) 92) 74 (pV x)).alloc (.cells #[.string ByteArray.empty, .int .i64 0, .int .i64 0, .int .i64 0, .int .i64 0, .int .i64 0, .int .i64 0, .slice none 0 0, .int .i64 0, .int .i64 0, .int .i64 0] 136))
  have HW := Lib.hid (((Blk.new w 92 (hV h m)).alloc (.cells (pV x) 74)).alloc (.cells #[.string ByteArray.empty, .int .i64 0, .int .i64 0, .int .i64 0, .int .i64 0, .int .i64 0, .int .i64 0, .slice none 0 0, .int .i64 0, .int .i64 0, .int .i64 0] 136))
  unfold prs
  by_cases hc : 0 < wt - x.kl
  · have ea : Hid (abv x wt = wt - x.kl) := by show _ = _; unfold abv; omega
    rw [ea.out] at e2 e3 ⊢
    have E2 := Lib.hid e2
    have E3 := Lib.hid e3
    clear ea e2 e3
    obtain ⟨d0, d1, d2, d3, d4, d5, d6⟩ := HP.out.part
    obtain ⟨c0, c1, c2⟩ := HW.out.hull
    go_enter Try.func87, Try.ntmps87
    go_wp2_with (refine wpList_store_row rfl 136 _ _ rfl (w.heap.size + 1 + 1) _ rfl rfl 136 _ HB.out (by kernel_rfl) rfl (by simp [Value.oneCell']) ?_)
    try simp only [E2.out, E3.out]
    (refine bodyPost_ret (v := .agg _) ?_ rfl ⟨rfl, ?_⟩; exact (results_cell_row Try.results87 _ _ (w.heap.size + 1 + 1) 136 _ (0, 0) _ rfl (HB.out.row _) Try.underlying136 rfl (by kernel_rfl)))
    exact (hs0.row (by omega) _).1
  · have ea : Hid (abv x wt = 0) := by show _ = _; unfold abv; omega
    rw [ea.out] at e2 e3 ⊢
    simp only [Int.mul_zero] at e2 e3 ⊢
    have E2 := Lib.hid e2
    have E3 := Lib.hid e3
    clear ea e2 e3
    obtain ⟨d0, d1, d2, d3, d4, d5, d6⟩ := HP.out.part
    obtain ⟨c0, c1, c2⟩ := HW.out.hull
    go_enter Try.func87, Try.ntmps87
    go_wp2_with (refine wpList_store_row rfl 136 _ _ rfl (w.heap.size + 1 + 1) _ rfl rfl 136 _ HB.out (by kernel_rfl) rfl (by simp [Value.oneCell']) ?_)
    try simp only [E2.out, E3.out]
    (refine bodyPost_ret (v := .agg _) ?_ rfl ⟨rfl, ?_⟩; exact (results_cell_row Try.results87 _ _ (w.heap.size + 1 + 1) 136 _ (0, 0) _ rfl (HB.out.row _) Try.underlying136 rfl (by kernel_rfl)))
    exact (hs0.row (by omega) _).1
end Td
end Go.Proofs.Ythdcklonamgpiaa
