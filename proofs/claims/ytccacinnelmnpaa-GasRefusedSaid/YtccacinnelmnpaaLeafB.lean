import Derived.Test.YtccacinnelmnpaaLeafA
import Derived.Test.YtccacinnelmnpaaVals6
import Derived.Test.YtccacinnelmnpaaVals9
import Derived.Deep.Cut
/- Levels: after, common. -/
namespace Go.Proofs.Ytccacinnelmnpaa
open Go.RowKit
namespace Td
set_option linter.unusedSimpArgs false
set_option linter.unusedVariables false
attribute [local go_sem] Oper.semAt_some
theorem eqSome (a b : Int) (w : World) : (Op.equalIn 10000 95 (.agg #[.int .i64 a, .int .i64 b, .bool true]) (.agg #[.int .i64 0, .int .i64 0, .bool false])).run Try.prog w = .ok false w := by
  by_cases h0 : a = 0
  · by_cases h1 : b = 0
    · subst h0; subst h1; go_simp
    · have h1' : (b == 0) = false := beq_eq_false_iff_ne.2 h1
      subst h0; go_simp
  · have h0' : (a == 0) = false := beq_eq_false_iff_ne.2 h0
    go_simp
theorem eqNone (w : World) : (Op.equalIn 10000 95 (.agg #[.int .i64 0, .int .i64 0, .bool false]) (.agg #[.int .i64 0, .int .i64 0, .bool false])).run Try.prog w = .ok true w := by go_simp
theorem lV_ex (o : Option (Int × Int)) : ∃ p q r, lV o = #[.int .i64 p, .int .i64 q, .bool r] := by cases o <;> exact ⟨_, _, _, rfl⟩
set_option maxRecDepth 100000 in
set_option maxHeartbeats 2000000 in
theorem after_c (x c : Int × Int) (w : World) (h0 : 0 ≤ x.1) (h1 : x.1 ≤ 200) (h2 : 0 ≤ x.2) (h3 : x.2 ≤ 200) (k0 : -20 ≤ c.1) (k1 : c.1 ≤ 20) (k2 : -20 ≤ c.2) (k3 : c.2 ≤ 20) :
    Calls Try.prog 95 #[.agg #[.int .i64 x.1, .int .i64 x.2, .bool true], .agg #[.int .i64 c.1, .int .i64 c.2]] w fun e w' => e = .returned (.agg (lV (aft x c))) ∧ Below w.heap.size w w' := by
  have hs0 := (((Since.refl w).alloc (.cells #[.int .i64 x.1, .int .i64 x.2, .bool true] 95)).alloc (.cells #[.int .i64 c.1, .int .i64 c.2] 23)).alloc (.cells #[.int .i64 0, .int .i64 0, .bool false] 95)
  have hL := Lib.hid (((Blk.new w 95 #[.int .i64 x.1, .int .i64 x.2, .bool true]).alloc (.cells #[.int .i64 c.1, .int .i64 c.2] 23)).alloc (.cells #[.int .i64 0, .int .i64 0, .bool false] 95))
  have hC := Lib.hid ((Blk.new1 w (.cells #[.int .i64 x.1, .int .i64 x.2, .bool true] 95) 23 #[.int .i64 c.1, .int .i64 c.2]).alloc (.cells #[.int .i64 0, .int .i64 0, .bool false] 95))
  have hR := Lib.hid (Blk.new2 w (.cells #[.int .i64 x.1, .int .i64 x.2, .bool true] 95) (.cells #[.int .i64 c.1, .int .i64 c.2] 23) 95 #[.int .i64 0, .int .i64 0, .bool false])
  obtain ⟨p, q, r, hv⟩ := lV_ex (aft x c)
  rw [hv]
  go_enter Try.func95, Try.ntmps95
  go_upto_region 1 with fail
  refine Vals6.regionAll (fun X => Blk X w.heap.size 95 #[.int .i64 x.1, .int .i64 x.2, .bool true] ∧ Blk X (w.heap.size + 1) 23 #[.int .i64 c.1, .int .i64 c.2] ∧ Blk X (w.heap.size + 1 + 1) 95 #[.int .i64 0, .int .i64 0, .bool false] ∧ Since w X) [some 5, some 6, some 7, some 8, some 9, some 10, some 11, some 12, some 13, some 14, some 15, some 16, some 17, some 18, some 19] [.is (.pointer (some ⟨w.heap.size, 0, none⟩)), .is (.pointer (some ⟨w.heap.size, 0, none⟩)), .is (.int .i64 x.1), .is (.pointer (some ⟨w.heap.size + 1, 0, none⟩)), .is (.int .i64 c.1), .is (.int .i64 (x.1 + c.1)), .is (.int .i64 (hld (x.1 + c.1))), .is (.pointer (some ⟨w.heap.size, 0, none⟩)), .is (.pointer (some ⟨w.heap.size, 1, none⟩)), .is (.int .i64 x.2), .is (.pointer (some ⟨w.heap.size + 1, 1, none⟩)), .is (.int .i64 c.2), .is (.int .i64 (x.2 + c.2)), .is (.int .i64 (hld (x.2 + c.2))), .is (.agg #[.int .i64 p, .int .i64 q, .bool r])] (by kernel_rfl) rfl rfl (by kernel_rfl) (by kernel_rfl) (by kernel_rfl) (by kernel_rfl) (by kernel_rfl) (by kernel_rfl) (by kernel_rfl) (⟨hL.out.drew, hC.out.drew, hR.out.drew, hs0.drew⟩) ?_ ?_
  · refine Vals5.Steps.run (by kernel_rfl) (Vals5.Stable.is _) ?_ ?_
    · intro a W hS pre old K hK
      have e2 : a.tmps.getD 2 undef = .pointer (some ⟨w.heap.size, 0, none⟩) := old 2 _ (by kernel_rfl) rfl
      clear pre old
      simp only [Array.getD_eq_getD_getElem?] at e2
      go_simp
      exact hK _ _ hS (Below.refl _ _) rfl
    refine Vals5.Steps.run (by kernel_rfl) (Vals5.Stable.is _) ?_ ?_
    · intro a W hS pre old K hK
      have e5 : a.tmps.getD 5 undef = .pointer (some ⟨w.heap.size, 0, none⟩) := pre 0 5 _ (by kernel_rfl) rfl rfl
      clear pre old
      simp only [Array.getD_eq_getD_getElem?] at e5
      go_simp
      exact hK _ _ hS (Below.refl _ _) rfl
    refine Vals5.Steps.run (by kernel_rfl) (Vals5.Stable.is _) ?_ ?_
    · intro a W hS pre old K hK
      have e6 : a.tmps.getD 6 undef = .pointer (some ⟨w.heap.size, 0, none⟩) := pre 1 6 _ (by kernel_rfl) rfl rfl
      clear pre old
      simp only [Array.getD_eq_getD_getElem?] at e6
      have hS9 := hS
      obtain ⟨l1, l2, _, _⟩ := hS9
      have c0 := l1.cell 0
      have c1 := l1.cell 1
      have d0 := l2.cell 0
      have d1 := l2.cell 1
      simp only [List.getElem?_toArray, List.getElem?_cons_zero, List.getElem?_cons_succ] at c0 c1 d0 d1
      go_simp
      exact hK _ _ hS (Below.refl _ _) rfl
    refine Vals5.Steps.run (by kernel_rfl) (Vals5.Stable.is _) ?_ ?_
    · intro a W hS pre old K hK
      have e3 : a.tmps.getD 3 undef = .pointer (some ⟨w.heap.size + 1, 0, none⟩) := old 3 _ (by kernel_rfl) rfl
      clear pre old
      simp only [Array.getD_eq_getD_getElem?] at e3
      go_simp
      exact hK _ _ hS (Below.refl _ _) rfl
    refine Vals5.Steps.run (by kernel_rfl) (Vals5.Stable.is _) ?_ ?_
    · intro a W hS pre old K hK
      have e8 : a.tmps.getD 8 undef = .pointer (some ⟨w.heap.size + 1, 0, none⟩) := pre 3 8 _ (by kernel_rfl) rfl rfl
      clear pre old
      simp only [Array.getD_eq_getD_getElem?] at e8
      have hS9 := hS
      obtain ⟨l1, l2, _, _⟩ := hS9
      have c0 := l1.cell 0
      have c1 := l1.cell 1
      have d0 := l2.cell 0
      have d1 := l2.cell 1
      simp only [List.getElem?_toArray, List.getElem?_cons_zero, List.getElem?_cons_succ] at c0 c1 d0 d1
      go_simp
      exact hK _ _ hS (Below.refl _ _) rfl
    refine Vals5.Steps.run (by kernel_rfl) (Vals5.Stable.is _) ?_ ?_
    · intro a W hS pre old K hK
      have e7 : a.tmps.getD 7 undef = .int .i64 x.1 := pre 2 7 _ (by kernel_rfl) rfl rfl
      have e9 : a.tmps.getD 9 undef = .int .i64 c.1 := pre 4 9 _ (by kernel_rfl) rfl rfl
      clear pre old
      simp only [Array.getD_eq_getD_getElem?] at e7 e9
      go_simp
      exact hK _ _ hS (Below.refl _ _) (by show Value.int _ _ = Value.int _ _; rw [IntWalk.i64_in _ (by omega)])
    refine Vals5.Steps.run (by kernel_rfl) (Vals5.Stable.is _) ?_ ?_
    · intro a W hS pre old K hK
      have e10 : a.tmps.getD 10 undef = .int .i64 (x.1 + c.1) := pre 5 10 _ (by kernel_rfl) rfl rfl
      clear pre old
      simp only [Array.getD_eq_getD_getElem?] at e10
      go_simp
      refine (held_c _ _).mono ?_
      rintro e w' ⟨rfl, rfl⟩
      exact hK _ _ hS (Below.refl _ _) rfl
    refine Vals5.Steps.run (by kernel_rfl) (Vals5.Stable.is _) ?_ ?_
    · intro a W hS pre old K hK
      have e2 : a.tmps.getD 2 undef = .pointer (some ⟨w.heap.size, 0, none⟩) := old 2 _ (by kernel_rfl) rfl
      clear pre old
      simp only [Array.getD_eq_getD_getElem?] at e2
      go_simp
      exact hK _ _ hS (Below.refl _ _) rfl
    refine Vals5.Steps.run (by kernel_rfl) (Vals5.Stable.is _) ?_ ?_
    · intro a W hS pre old K hK
      have e12 : a.tmps.getD 12 undef = .pointer (some ⟨w.heap.size, 0, none⟩) := pre 7 12 _ (by kernel_rfl) rfl rfl
      clear pre old
      simp only [Array.getD_eq_getD_getElem?] at e12
      go_simp
      exact hK _ _ hS (Below.refl _ _) rfl
    refine Vals5.Steps.run (by kernel_rfl) (Vals5.Stable.is _) ?_ ?_
    · intro a W hS pre old K hK
      have e13 : a.tmps.getD 13 undef = .pointer (some ⟨w.heap.size, 1, none⟩) := pre 8 13 _ (by kernel_rfl) rfl rfl
      clear pre old
      simp only [Array.getD_eq_getD_getElem?] at e13
      have hS9 := hS
      obtain ⟨l1, l2, _, _⟩ := hS9
      have c0 := l1.cell 0
      have c1 := l1.cell 1
      have d0 := l2.cell 0
      have d1 := l2.cell 1
      simp only [List.getElem?_toArray, List.getElem?_cons_zero, List.getElem?_cons_succ] at c0 c1 d0 d1
      go_simp
      exact hK _ _ hS (Below.refl _ _) rfl
    refine Vals5.Steps.run (by kernel_rfl) (Vals5.Stable.is _) ?_ ?_
    · intro a W hS pre old K hK
      have e3 : a.tmps.getD 3 undef = .pointer (some ⟨w.heap.size + 1, 0, none⟩) := old 3 _ (by kernel_rfl) rfl
      clear pre old
      simp only [Array.getD_eq_getD_getElem?] at e3
      go_simp
      exact hK _ _ hS (Below.refl _ _) rfl
    refine Vals5.Steps.run (by kernel_rfl) (Vals5.Stable.is _) ?_ ?_
    · intro a W hS pre old K hK
      have e15 : a.tmps.getD 15 undef = .pointer (some ⟨w.heap.size + 1, 1, none⟩) := pre 10 15 _ (by kernel_rfl) rfl rfl
      clear pre old
      simp only [Array.getD_eq_getD_getElem?] at e15
      have hS9 := hS
      obtain ⟨l1, l2, _, _⟩ := hS9
      have c0 := l1.cell 0
      have c1 := l1.cell 1
      have d0 := l2.cell 0
      have d1 := l2.cell 1
      simp only [List.getElem?_toArray, List.getElem?_cons_zero, List.getElem?_cons_succ] at c0 c1 d0 d1
      go_simp
      exact hK _ _ hS (Below.refl _ _) rfl
    refine Vals5.Steps.run (by kernel_rfl) (Vals5.Stable.is _) ?_ ?_
    · intro a W hS pre old K hK
      have e14 : a.tmps.getD 14 undef = .int .i64 x.2 := pre 9 14 _ (by kernel_rfl) rfl rfl
      have e16 : a.tmps.getD 16 undef = .int .i64 c.2 := pre 11 16 _ (by kernel_rfl) rfl rfl
      clear pre old
      simp only [Array.getD_eq_getD_getElem?] at e14 e16
      go_simp
      exact hK _ _ hS (Below.refl _ _) (by show Value.int _ _ = Value.int _ _; rw [IntWalk.i64_in _ (by omega)])
    refine Vals5.Steps.run (by kernel_rfl) (Vals5.Stable.is _) ?_ ?_
    · intro a W hS pre old K hK
      have e17 : a.tmps.getD 17 undef = .int .i64 (x.2 + c.2) := pre 12 17 _ (by kernel_rfl) rfl rfl
      clear pre old
      simp only [Array.getD_eq_getD_getElem?] at e17
      go_simp
      refine (held_c _ _).mono ?_
      rintro e w' ⟨rfl, rfl⟩
      exact hK _ _ hS (Below.refl _ _) rfl
    refine Vals5.Steps.run (by kernel_rfl) (Vals5.Stable.is _) ?_ ?_
    · intro a W hS pre old K hK
      have e11 : a.tmps.getD 11 undef = .int .i64 (hld (x.1 + c.1)) := pre 6 11 _ (by kernel_rfl) rfl rfl
      have e18 : a.tmps.getD 18 undef = .int .i64 (hld (x.2 + c.2)) := pre 13 18 _ (by kernel_rfl) rfl rfl
      clear pre old
      simp only [Array.getD_eq_getD_getElem?] at e11 e18
      go_simp
      refine (between_c _ _ _).mono ?_
      rintro e w' ⟨rfl, hb'⟩
      obtain ⟨h1, h2, h3, h4⟩ := hS
      exact hK _ _ ⟨h1.keep hb', h2.keep hb', h3.keep hb', h4.keep hb'⟩ hb' (by show Value.agg _ = Value.agg _; rw [← hv]; rfl)
    exact Vals5.Steps.nil
  rintro X ⟨hL2, hC2, hR2, hs2⟩
  simp only [Vals5.All, List.getLast_cons_cons, List.getLast_singleton]
  simp only [Vals.putAll, List.setIfInBounds_toArray, List.set_cons_zero, List.set_cons_succ]
  intro K hK
  refine wp_store_row 95 _ _ rfl (w.heap.size + 1 + 1) #[.int .i64 p, .int .i64 q, .bool r] rfl rfl 95 _ hR2 (by kernel_rfl) rfl (by simp [Value.oneCell']) ?_
  refine hK _ _ ?_
  clear hK K
  go_wp2_with fail
  (refine bodyPost_ret (v := .agg _) ?_ rfl ⟨rfl, ?_⟩; exact (results_cell_row Try.results95 _ _ (w.heap.size + 1 + 1) 95 _ (0, 0) _ rfl (hR2.row _) Try.underlying95 rfl (by kernel_rfl)))
  exact (hs2.row (by omega) _).1
set_option maxHeartbeats 2000000 in
theorem common_c (a b : Option (Int × Int)) (w : World) :
    Calls Try.prog 97 #[.agg (lV a), .agg (lV b)] w fun e w' => e = .returned (.agg (lV (com a b))) ∧ Below w.heap.size w w' := by
  have HR := Lib.hid (Blk.new2 w (.cells (lV a) 95) (.cells (lV b) 95) 95 #[.int .i64 0, .int .i64 0, .bool false])
  have hsn := (((Since.refl w).alloc (.cells (lV a) 95)).alloc (.cells (lV b) 95)).alloc (.cells #[.int .i64 0, .int .i64 0, .bool false] 95)
  have hN := fun w => eqNone w
  cases a with
  | none =>
    have HV : Hid (lV (com none b) = #[.int .i64 0, .int .i64 0, .bool false]) := by show _ = _; simp [com, lV]
    obtain ⟨p, q, r, hv⟩ := lV_ex b
    rw [hv] at HR hsn ⊢
    rw [HV.out]
    simp only [lV] at HR hsn ⊢
    go_enter Try.func97, Try.ntmps97
    go_wp2_with (refine wpList_store_row rfl 95 _ _ rfl (w.heap.size + 1 + 1) _ rfl rfl 95 _ HR.out (by kernel_rfl) rfl (by simp [Value.oneCell']) ?_)
    (refine bodyPost_ret (v := .agg _) ?_ rfl ⟨rfl, ?_⟩; exact (results_cell_row Try.results97 _ _ (w.heap.size + 1 + 1) 95 _ (0, 0) _ rfl (HR.out.row _) Try.underlying95 rfl (by kernel_rfl)))
    exact (hsn.row (by omega) _).1
  | some x =>
    have hX := fun w => eqSome x.1 x.2 w
    cases b with
    | none =>
      have HV : Hid (lV (com (some x) none) = #[.int .i64 0, .int .i64 0, .bool false]) := by show _ = _; simp [com, lV]
      rw [HV.out]
      simp only [lV] at HR hsn ⊢
      go_enter Try.func97, Try.ntmps97
      go_wp2_with (refine wpList_store_row rfl 95 _ _ rfl (w.heap.size + 1 + 1) _ rfl rfl 95 _ HR.out (by kernel_rfl) rfl (by simp [Value.oneCell']) ?_)
      (refine bodyPost_ret (v := .agg _) ?_ rfl ⟨rfl, ?_⟩; exact (results_cell_row Try.results97 _ _ (w.heap.size + 1 + 1) 95 _ (0, 0) _ rfl (HR.out.row _) Try.underlying95 rfl (by kernel_rfl)))
      exact (hsn.row (by omega) _).1
    | some y =>
      have hY := fun w => eqSome y.1 y.2 w
      obtain ⟨p, q, r, hv⟩ := lV_ex (com (some x) (some y))
      rw [hv]
      have HV : Hid (Value.agg (lV (btw (max x.1 y.1) (min x.2 y.2))) = .agg #[.int .i64 p, .int .i64 q, .bool r]) := by show _ = _; rw [← hv]; rfl
      clear hv
      simp only [lV] at HR hsn ⊢
      rcases (by omega : (x.1 < y.1 ∧ max x.1 y.1 = y.1) ∨ (¬ x.1 < y.1 ∧ max x.1 y.1 = x.1)) with ⟨h1, hx⟩ | ⟨h1, hx⟩ <;> rcases (by omega : (y.2 < x.2 ∧ min x.2 y.2 = y.2) ∨ (¬ y.2 < x.2 ∧ min x.2 y.2 = x.2)) with ⟨h2, hn⟩ | ⟨h2, hn⟩
      all_goals
        rw [hx, hn] at HV
        clear hx hn
        go_enter Try.func97, Try.ntmps97
        go_wp2_with fail
        refine (between_c _ _ _).mono ?_
        rintro e w' ⟨rfl, hb⟩
        rw [HV.out]
        have HR2 := Lib.hid (HR.out.keep hb)
        have hsn2 := hsn.keep hb
        go_wp2_with (refine wpList_store_row rfl 95 _ _ rfl (w.heap.size + 1 + 1) _ rfl rfl 95 _ HR2.out (by kernel_rfl) rfl (by simp [Value.oneCell']) ?_)
        (refine bodyPost_ret (v := .agg _) ?_ rfl ⟨rfl, ?_⟩; exact (results_cell_row Try.results97 _ _ (w.heap.size + 1 + 1) 95 _ (0, 0) _ rfl (HR2.out.row _) Try.underlying95 rfl (by kernel_rfl)))
        exact (hsn2.row (by omega) _).1
end Td
end Go.Proofs.Ytccacinnelmnpaa
