import Derived.Test.YtgkdidnmndmlhaaChkB
import Derived.Test.YtgkdidnmndmlhaaPsc
/- The law's heap by any numbers. -/
namespace Go.Proofs.Ytgkdidnmndmlhaa
open Go.RowKit
namespace Td
set_option linter.unusedSimpArgs false
set_option linter.unusedVariables false
attribute [local go_sem] Oper.semAt_some
theorem results_ctt {P : Program} {fn : Func} {q r s : Tmp} {t1 : TypeId} (h : fn.results = #[.cell q t1, .tmp r, .tmp s]) (tmps : Array Value) (w : World) (a1 : Addr) (v1 : Value)
    (hq : tmps.getD q undef = .pointer (some a1)) (h1 : (loadVar t1 a1).run P w = .ok v1 w) :
    (results fn tmps).run P w = .ok (.tuple #[v1, tmps.getD r undef, tmps.getD s undef]) w := by
  have hq' : tmps[q]?.getD undef = .pointer (some a1) := by simpa using hq
  simp [results, h, hq', asAddr, h1]
theorem load_gr {w : World} {g : Nat} {P lo hi : Int} (h : Blk w g 25 (gV P lo hi)) : (loadVar 25 ⟨g, 0, none⟩).run Try.prog w = .ok (.agg (gV P lo hi)) w :=
  run_loadVar_row w g _ _ _ (0, 0) _ h Try.underlying25 rfl (by kernel_rfl)
/-- the heap as it is made. -/
structure Hr (w : World) (xa xb xc n : Nat) (t : Option Value) (X : World) : Prop where
  sn : Since w X
  bx : Blk X w.heap.size 58 #[.int .u8 xa, .int .u8 xb, .int .u8 xc]
  bh : (t = none ∧ Blk X (w.heap.size + 1) 25 (gV 0 0 0)) ∨ (t ≠ none ∧ Blk X (w.heap.size + 1) 25 (gV n 0 n))
set_option maxRecDepth 100000 in
set_option maxHeartbeats 4000000 in
theorem heap_c (xa xb xc most : Nat) (w : World) (ha : xa ≤ 255) (hb : xb ≤ 255) (hc : xc ≤ 255) (h1 : 1 ≤ most) (h2 : most ≤ 20) :
    Calls Try.prog 40 #[.agg #[.int .u8 xa, .int .u8 xb, .int .u8 xc], .int .i64 most] w fun e w' => e = .returned (.tuple #[.agg (gV ((1 + xa % most : Nat) : Int) 0 ((1 + xa % most : Nat) : Int)), .int .i64 (xb % (1 + xa % most + 1) : Nat), .int .i64 (xc % (1 + xa % most + 1) : Nat)]) ∧ Below w.heap.size w w' := by
  have hs := ((Since.refl w).alloc (.cells #[.int .u8 xa, .int .u8 xb, .int .u8 xc] 58)).alloc (.cells (gV 0 0 0) 25)
  have HX := Lib.hid ((Blk.new w 58 #[.int .u8 xa, .int .u8 xb, .int .u8 xc]).alloc (.cells (gV 0 0 0) 25))
  have HR := Lib.hid (Blk.new1 w (.cells #[.int .u8 xa, .int .u8 xb, .int .u8 xc] 58) 25 (gV 0 0 0))
  obtain ⟨r, hr⟩ : ∃ r, xa % most = r := ⟨_, rfl⟩
  obtain ⟨n, hn⟩ : ∃ n, 1 + r = n := ⟨_, rfl⟩
  obtain ⟨n1, hn1⟩ : ∃ m, n + 1 = m := ⟨_, rfl⟩
  obtain ⟨bd, hbd⟩ : ∃ r, xb % n1 = r := ⟨_, rfl⟩
  obtain ⟨sm, hsm⟩ : ∃ r, xc % n1 = r := ⟨_, rfl⟩
  have hrm : r < most := by rw [← hr]; exact Nat.mod_lt _ (by omega)
  rw [hr, hn, hn1, hbd, hsm]
  have hbl : bd < n1 := by rw [← hbd]; exact Nat.mod_lt _ (by omega)
  have hsl : sm < n1 := by rw [← hsm]; exact Nat.mod_lt _ (by omega)
  have t1 : (xa : Int).tmod (most : Int) = (r : Int) := by rw [← hr]; rfl
  have t2 : (xb : Int).tmod (n1 : Int) = (bd : Int) := by rw [← hbd]; rfl
  have t3 : (xc : Int).tmod (n1 : Int) = (sm : Int) := by rw [← hsm]; rfl
  have u1 : IntKind.i64.wrap (xa : Int) = (xa : Int) := wrapI (by unfold I64; omega)
  have u2 : IntKind.i64.wrap (xb : Int) = (xb : Int) := wrapI (by unfold I64; omega)
  have u3 : IntKind.i64.wrap (xc : Int) = (xc : Int) := wrapI (by unfold I64; omega)
  have w1 : IntKind.i64.wrap (1 + (r : Int)) = (n : Int) := by rw [wrapI (by unfold I64; omega)]; omega
  have w2 : IntKind.i64.wrap ((n : Int) + 1) = (n1 : Int) := by rw [wrapI (by unfold I64; omega)]; omega
  have w3 : IntKind.i64.wrap (r : Int) = (r : Int) := wrapI (by unfold I64; omega)
  have w4 : IntKind.i64.wrap (bd : Int) = (bd : Int) := wrapI (by unfold I64; omega)
  have w5 : IntKind.i64.wrap (sm : Int) = (sm : Int) := wrapI (by unfold I64; omega)
  have z1 : ¬ most = 0 := by omega
  have z2 : ¬ n1 = 0 := by omega
  have y1 : ¬ (most : Int) = 0 := by omega
  have y2 : ¬ (n1 : Int) = 0 := by omega
  have d0 := HX.out.cell 0
  have d1 := HX.out.cell 1
  have d2 := HX.out.cell 2
  simp only [List.getElem?_toArray, List.getElem?_cons_zero, List.getElem?_cons_succ] at d0 d1 d2
  clear hr hn hn1 hbd hsm hrm hbl hsl ha hb hc h1 h2
  go_enter Try.func40, Try.ntmps40
  go_wp2_with fail
  clear d0 d1 d2
  obtain ⟨W, hW⟩ : ∃ W, (w.alloc (.cells #[.int .u8 xa, .int .u8 xb, .int .u8 xc] 58)).alloc (.cells (gV 0 0 0) 25) = W := ⟨_, rfl⟩
  rw [hW] at hs HX HR
  first | rw [hW] | skip
  clear hW
  try dsimp only [Act.put]
  refine Vals9.region (fun σ X => Hr w (xa : Nat) xb xc (n : Nat) (σ 11) X) [some 21, some 22, some 23, some 24, some 25, some 26, some 27, some 28, some 29, some 30, some 31, none, some 5, some 6] [.is ?_, .is ?_, .is ?_, .is (.agg (gV n 0 n)), .is ?_, .is ?_, .is ?_, .is ?_, .is ?_, .is (.int .i64 (n1 : Nat)), .is (.int .i64 (sm : Nat)), .any, .is (.int .i64 (bd : Nat)), .is (.int .i64 (sm : Nat))] (by kernel_rfl) (by kernel_rfl) (by kernel_rfl) (by kernel_rfl) (by kernel_rfl) (by kernel_rfl) (⟨hs.drew, HX.out.drew, .inl ⟨rfl, HR.out.drew⟩⟩) ?hsteps ?hfin
  case hsteps =>
    refine Vals9.Steps.run rfl ?_ ?_
    · intro a W σ hJ pre K hK
      have e7 := pre.2.2 7 _ (by kernel_rfl) rfl
      clear pre
      simp only [Array.getD_eq_getD_getElem?, List.getElem?_toArray, List.getElem?_cons_zero, List.getElem?_cons_succ, Option.getD_some] at e7
      go_simp
      exact hK _ hJ
    refine Vals9.Steps.run rfl ?_ ?_
    · intro a W σ hJ pre K hK
      have e7 := pre.2.2 7 _ (by kernel_rfl) rfl
      clear pre
      simp only [Array.getD_eq_getD_getElem?, List.getElem?_toArray, List.getElem?_cons_zero, List.getElem?_cons_succ, Option.getD_some] at e7
      go_simp
      exact hK _ hJ
    refine Vals9.Steps.run rfl ?_ ?_
    · intro a W σ hJ pre K hK
      have e22 := pre.1 1 22 _ (by kernel_rfl) rfl rfl
      clear pre
      simp only [Array.getD_eq_getD_getElem?, List.getElem?_toArray, List.getElem?_cons_zero, List.getElem?_cons_succ, Option.getD_some] at e22
      go_simp
      exact hK _ hJ
    refine Vals9.Steps.run rfl ?_ ?_
    · intro a W σ hJ pre K hK
      have e21 := pre.1 0 21 _ (by kernel_rfl) rfl rfl
      have e23 := pre.1 2 23 _ (by kernel_rfl) rfl rfl
      clear pre
      simp only [Array.getD_eq_getD_getElem?, List.getElem?_toArray, List.getElem?_cons_zero, List.getElem?_cons_succ, Option.getD_some] at e21 e23
      go_simp
      exact hK _ hJ
    refine Vals9.Steps.run rfl ?_ ?_
    · intro a W σ hJ pre K hK
      have e8 := pre.2.2 8 _ (by kernel_rfl) rfl
      clear pre
      simp only [Array.getD_eq_getD_getElem?, List.getElem?_toArray, List.getElem?_cons_zero, List.getElem?_cons_succ, Option.getD_some] at e8
      go_simp
      exact hK _ hJ
    refine Vals9.Steps.run rfl ?_ ?_
    · intro a W σ hJ pre K hK
      have e2 := pre.2.2 2 _ (by kernel_rfl) rfl
      clear pre
      simp only [Array.getD_eq_getD_getElem?, List.getElem?_toArray, List.getElem?_cons_zero, List.getElem?_cons_succ, Option.getD_some] at e2
      go_simp
      exact hK _ hJ
    refine Vals9.Steps.run rfl ?_ ?_
    · intro a W σ hJ pre K hK
      have e26 := pre.1 5 26 _ (by kernel_rfl) rfl rfl
      clear pre
      simp only [Array.getD_eq_getD_getElem?, List.getElem?_toArray, List.getElem?_cons_zero, List.getElem?_cons_succ, Option.getD_some] at e26
      have hS9 := hJ
      have hW9 : Hr w (xa : Nat) xb xc (n : Nat) (σ 11) W := hS9
      have d0 := hW9.bx.cell 0
      have d1 := hW9.bx.cell 1
      have d2 := hW9.bx.cell 2
      simp only [List.getElem?_toArray, List.getElem?_cons_zero, List.getElem?_cons_succ] at d0 d1 d2
      go_simp
      exact hK _ hJ
    refine Vals9.Steps.run rfl ?_ ?_
    · intro a W σ hJ pre K hK
      have e27 := pre.1 6 27 _ (by kernel_rfl) rfl rfl
      clear pre
      simp only [Array.getD_eq_getD_getElem?, List.getElem?_toArray, List.getElem?_cons_zero, List.getElem?_cons_succ, Option.getD_some] at e27
      go_simp
      exact hK _ hJ
    refine Vals9.Steps.run rfl ?_ ?_
    · intro a W σ hJ pre K hK
      have e7 := pre.2.2 7 _ (by kernel_rfl) rfl
      clear pre
      simp only [Array.getD_eq_getD_getElem?, List.getElem?_toArray, List.getElem?_cons_zero, List.getElem?_cons_succ, Option.getD_some] at e7
      go_simp
      exact hK _ hJ
    refine Vals9.Steps.run rfl ?_ ?_
    · intro a W σ hJ pre K hK
      have e29 := pre.1 8 29 _ (by kernel_rfl) rfl rfl
      clear pre
      simp only [Array.getD_eq_getD_getElem?, List.getElem?_toArray, List.getElem?_cons_zero, List.getElem?_cons_succ, Option.getD_some] at e29
      go_simp
      exact hK _ hJ
    refine Vals9.Steps.run rfl ?_ ?_
    · intro a W σ hJ pre K hK
      have e28 := pre.1 7 28 _ (by kernel_rfl) rfl rfl
      have e30 := pre.1 9 30 _ (by kernel_rfl) rfl rfl
      clear pre
      simp only [Array.getD_eq_getD_getElem?, List.getElem?_toArray, List.getElem?_cons_zero, List.getElem?_cons_succ, Option.getD_some] at e28 e30
      go_simp
      exact hK _ hJ
    refine Vals9.Steps.mark rfl ?_ ?_
    · intro a W σ hJ hn pre K hK
      have e4 := pre.2.2 4 _ (by kernel_rfl) rfl
      have e24 := pre.1 3 24 _ (by kernel_rfl) rfl rfl
      simp only [Array.getD_eq_getD_getElem?, List.getElem?_toArray, List.getElem?_cons_zero, List.getElem?_cons_succ, Option.getD_some] at e4 e24
      have hJ2 : Hr w (xa : Nat) xb xc (n : Nat) (σ 11) W := hJ
      rw [hn] at hJ2
      rcases hJ2.bh with ⟨-, hB⟩ | ⟨q, -⟩
      · refine wp_store_row 25 _ _ rfl (w.heap.size + 1) (gV n 0 n) (by simpa [Act.eval] using e4) (by simpa [Act.eval] using e24) 25 _ hB (by kernel_rfl) rfl (by simp [Value.oneCell']) ?_
        have h2 : ∀ v, Hr w xa xb xc n (some v) (W.setRow (w.heap.size + 1) (gV n 0 n)) := fun v => ⟨hJ2.sn.row (by omega) _, hJ2.bx.rowFar (by omega) _, .inr ⟨by simp, hB.row _⟩⟩
        exact hK undef _ (h2 undef)
      · exact absurd rfl q
    refine Vals9.Steps.run rfl ?_ ?_
    · intro a W σ hJ pre K hK
      have e25 := pre.1 4 25 _ (by kernel_rfl) rfl rfl
      clear pre
      simp only [Array.getD_eq_getD_getElem?, List.getElem?_toArray, List.getElem?_cons_zero, List.getElem?_cons_succ, Option.getD_some] at e25
      go_simp
      exact hK _ hJ
    refine Vals9.Steps.run rfl ?_ ?_
    · intro a W σ hJ pre K hK
      have e31 := pre.1 10 31 _ (by kernel_rfl) rfl rfl
      clear pre
      simp only [Array.getD_eq_getD_getElem?, List.getElem?_toArray, List.getElem?_cons_zero, List.getElem?_cons_succ, Option.getD_some] at e31
      go_simp
      exact hK _ hJ
    exact Vals9.Steps.nil
  case hfin =>
  rintro X σ hJ
  simp only [Vals9.All]
  intro v hv
  have hJ2 : Hr w (xa : Nat) xb xc (n : Nat) (σ 11) X := hJ
  rw [hv] at hJ2
  have hs := hJ2.sn
  have hB : Hid (Blk X (w.heap.size + 1) 25 (gV n 0 n)) := by
    rcases hJ2.bh with ⟨q, -⟩ | ⟨-, h⟩
    · cases q
    · exact h
  clear hJ hJ2 hv
  simp only [Vals.putAll, List.setIfInBounds_toArray, List.set_cons_zero, List.set_cons_succ]
  go_wp2_with fail
  refine bodyPost_ret (results_ctt Try.results40 _ _ _ _ rfl (load_gr hB.out)) rfl ⟨rfl, hs.1⟩
end Td
end Go.Proofs.Ytgkdidnmndmlhaa
