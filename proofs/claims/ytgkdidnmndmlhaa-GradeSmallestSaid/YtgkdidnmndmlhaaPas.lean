import Derived.Test.YtgkdidnmndmlhaaChkB
import Derived.Great.Walk
import Derived.Deep.MidRow
/- The rows of all ways to choose. -/
namespace Go.Proofs.Ytgkdidnmndmlhaa
open Go.RowKit
namespace Td
set_option linter.unusedSimpArgs false
set_option linter.unusedVariables false
attribute [local go_sem] Oper.semAt_some
theorem fits_is (u : Value) (w : World) : Vals5.fits (.is u) u w := rfl
/-- a row of 21 numbers; 21 rows. -/
def rwF (f : Nat → Int) : Array Value := ((List.range 21).map fun k => Value.int .i64 (f k)).toArray
def alF (f : Nat → Int) : Array Value := ((List.range 441).map fun q => Value.int .i64 (f q)).toArray
theorem rwF_size (f : Nat → Int) : (rwF f).size = 21 := by simp [rwF]
theorem alF_size (f : Nat → Int) : (alF f).size = 441 := by simp [alF]
theorem rwF_get (f : Nat → Int) {k : Nat} (h : k < 21) : (rwF f)[k]? = some (.int .i64 (f k)) := by simp [rwF, h]
theorem alF_get (f : Nat → Int) {k : Nat} (h : k < 441) : (alF f)[k]? = some (.int .i64 (f k)) := by simp [alF, h]
theorem rwF_set (f : Nat → Int) {k : Nat} (h : k < 21) (v : Int) : (rwF f).setIfInBounds k (.int .i64 v) = rwF (fun i => if i = k then v else f i) := by
  apply Array.ext_getElem?
  intro i
  rw [Array.getElem?_setIfInBounds, rwF_size]
  by_cases hi : i < 21
  · rw [rwF_get _ hi, rwF_get _ hi]
    by_cases e : k = i
    · subst e; simp [h]
    · rw [if_neg e, if_neg (fun e' => e e'.symm)]
  · rw [Array.getElem?_eq_none (by rw [rwF_size]; omega), Array.getElem?_eq_none (by rw [rwF_size]; omega), if_neg (by omega)]
theorem rwF_one (f : Nat → Int) : (rwF f).all (·.oneCell') = true := by
  rw [Array.all_eq_true_iff_forall_mem]
  intro x hx
  simp only [rwF, List.mem_toArray, List.mem_map] at hx
  obtain ⟨k, -, rfl⟩ := hx
  rfl
theorem alF_one (f : Nat → Int) : (alF f).all (·.oneCell') = true := by
  rw [Array.all_eq_true_iff_forall_mem]
  intro x hx
  simp only [alF, List.mem_toArray, List.mem_map] at hx
  obtain ⟨k, -, rfl⟩ := hx
  rfl
theorem rwF_congr {f g : Nat → Int} (h : ∀ k, k < 21 → f k = g k) : rwF f = rwF g := by
  unfold rwF
  congr 1
  exact List.map_congr_left fun k hk => by rw [h k (List.mem_range.1 hk)]
theorem alF_congr {f g : Nat → Int} (h : ∀ k, k < 441 → f k = g k) : alF f = alF g := by
  unfold alF
  congr 1
  exact List.map_congr_left fun k hk => by rw [h k (List.mem_range.1 hk)]
/-- a variable laid anew, its cells said. -/
theorem wpList_allocZ {P : Program} {ops : Array Oper} {rest : List Oper} {o : Oper} {a : Act} {w : World} {Q : Exit → Act → World → Prop} (hg : o.guard = none) (t : TypeId) (ho : o.op = .alloc t) (dst : Option Tmp) (hdst : o.dst = dst)
    (N : Nat) (hN : w.heap.size = N) (cells : Array Value) (hz : ((P.info? t).bind (·.zero)).map (·.cells) = some cells)
    (h : wpList P ops Q rest (a.put dst (.pointer (some ⟨N, 0, none⟩))) (w.alloc (.cells cells t))) : wpList P ops Q (o :: rest) a w := by
  subst hN hdst
  refine wpList_plain hg fun K hK => ?_
  cases hi : P.info? t with
  | none => simp [hi] at hz
  | some i =>
    cases hzz : i.zero with
    | none => simp [hi, hzz] at hz
    | some z =>
      obtain rfl : z.cells = cells := by simpa [hi, hzz] using hz
      unfold Oper.wp execOp
      simp [ho, Instr.alloc, zeroValue, typeInfo, hi, hzz, newVar, newRow]
      exact hK _ _ h
/-- the ways to choose of n things, as a row. -/
def pas (n : Nat) : Nat → Int := fun k => (bn n k : Int)
/-- the next row, up to its place j. -/
def mid (n j : Nat) : Nat → Int := fun k => if k ≤ j then (bn (n + 1) k : Int) else (bn n k : Int)
theorem mid_zero (n : Nat) : mid n 0 = pas n := by
  funext k
  unfold mid pas
  split
  · obtain rfl : k = 0 := by omega
    rw [bn_zero, bn_zero]
  · rfl
theorem mid_next (n j : Nat) : (fun i => if i = j + 1 then mid n j (j + 1) + pas n j else mid n j i) = mid n (j + 1) := by
  funext k
  unfold mid pas
  by_cases e : k = j + 1
  · subst e
    rw [if_pos rfl, if_neg (by omega), if_pos (Nat.le_refl _), bn_succ]
    push_cast
    omega
  · rw [if_neg e]
    by_cases h : k ≤ j
    · rw [if_pos h, if_pos (by omega)]
    · rw [if_neg h, if_neg (by omega)]
theorem mid_last (n : Nat) : rwF (mid n 20) = rwF (pas (n + 1)) := rwF_congr fun k hk => by
  unfold mid pas
  rw [if_pos (by omega)]
theorem bn_bd : ∀ n k : Nat, bn n k ≤ 2 ^ n
  | n, 0 => by rw [bn_zero]; exact Nat.one_le_two_pow
  | 0, k + 1 => by rw [bn_none]; omega
  | n + 1, k + 1 => by
    rw [bn_succ, Nat.pow_succ]
    have := bn_bd n k
    have := bn_bd n (k + 1)
    omega
theorem bn_bd' {n : Nat} (h : n ≤ 21) (k : Nat) : bn n k ≤ 2097152 := Nat.le_trans (bn_bd n k) (Nat.le_trans (Nat.pow_le_pow_right (by omega) h) (by decide))
/-- w' is W but for the block g and what was laid since. -/
structure But (g : Nat) (W W' : World) : Prop where
  os : W'.os = W.os
  tape : W'.tape = W.tape
  output : W'.output = W.output
  size : W.heap.size ≤ W'.heap.size
  block : ∀ k, k < W.heap.size → k ≠ g → W'.heap[k]? = W.heap[k]?
theorem But.of {g : Nat} {W W' : World} (h : Below W.heap.size W W') : But g W W' := ⟨h.os, h.tape, h.output, h.size, fun k hk _ => h.block k hk⟩
theorem But.keep {g : Nat} {W X Y : World} (h : But g W X) (hb : Below X.heap.size X Y) : But g W Y :=
  ⟨hb.os.trans h.os, hb.tape.trans h.tape, hb.output.trans h.output, Nat.le_trans h.size hb.size, fun k hk hn => (hb.block k (Nat.lt_of_lt_of_le hk h.size)).trans (h.block k hk hn)⟩
theorem But.alloc {g : Nat} {W X : World} (h : But g W X) (o : Obj) : But g W (X.alloc o) := h.keep ((Below.refl _ _).alloc (Nat.le_refl _) _)
theorem But.drew {g : Nat} {W X : World} (h : But g W X) : But g W X.drew := ⟨h.os, h.tape, h.output, h.size, h.block⟩
theorem But.set {g : Nat} {W X : World} (h : But g W X) (i : Nat) (v : Value) : But g W (X.setCell ⟨g, i, none⟩ v) :=
  ⟨h.os, h.tape, h.output, by simpa using h.size, fun k hk hn => (heap_setCell_other X ⟨g, i, none⟩ k v hn).trans (h.block k hk hn)⟩
theorem But.row {g : Nat} {W X : World} (h : But g W X) {g' : Nat} (hg : W.heap.size ≤ g') (cs : Array Value) : But g W (X.setRow g' cs) :=
  ⟨h.os, h.tape, h.output, by rw [size_setRow]; exact h.size, fun k hk hn => (setRow_other X g' k cs (by omega)).trans (h.block k hk hn)⟩
theorem Blk.but {g : Nat} {W X : World} {t : TypeId} {cs : Array Value} {b : Nat} (k : Blk W b t cs) (h : But g W X) (hb : b ≠ g) : Blk X b t cs := (h.block b k.lt hb).trans k
theorem But.below {B g : Nat} {A W X : World} (h : Below B A W) (k : But g W X) (hB : B ≤ g) (hA : B ≤ A.heap.size) : Below B A X :=
  ⟨k.os.trans h.os, k.tape.trans h.tape, k.output.trans h.output, Nat.le_trans h.size k.size, fun i hi => (k.block i (Nat.lt_of_lt_of_le (Nat.lt_of_lt_of_le hi hA) h.size) (by omega)).trans (h.block i hi)⟩
set_option maxRecDepth 100000 in
set_option maxHeartbeats 4000000 in
theorem newRows1_c (n gn : Nat) (W : World) (hn : n ≤ 20) (hb : Blk W gn 83 (rwF (pas n))) :
    Calls Try.prog 82 #[.pointer (some ⟨gn, 0, none⟩)] W fun e W' => e = .returned (.agg (rwF (pas n))) ∧ Blk W' gn 83 (rwF (pas (n + 1))) ∧ But gn W W' := by
  have hgn := hb.lt
  obtain ⟨W1, hW1⟩ : ∃ W1, (W.alloc (.cells (rwF (fun _ => 0)) 83)).alloc (.cells (rwF (fun _ => 0)) 83) = W1 := ⟨_, rfl⟩
  have HA := Lib.hid (hb.alloc (.cells (rwF (fun _ => 0)) 83))
  have HB1 := Lib.hid (Blk.new1 W (.cells (rwF (fun _ => 0)) 83) 83 (rwF (fun _ => 0)))
  have HN0 := Lib.hid ((hb.alloc (.cells (rwF (fun _ => 0)) 83)).alloc (.cells (rwF (fun _ => 0)) 83))
  have HR0 := Lib.hid ((Blk.new W 83 (rwF (fun _ => 0))).alloc (.cells (rwF (fun _ => 0)) 83))
  have HT0 := Lib.hid ((((But.of (Below.refl _ W) : But gn W W).alloc (.cells (rwF (fun _ => 0)) 83)).alloc (.cells (rwF (fun _ => 0)) 83)))
  have hz1 : (W.alloc (.cells (rwF (fun _ => 0)) 83)).heap.size = W.heap.size + 1 := by simp
  clear hW1 W1
  go_enter Try.func82, Try.ntmps82
  go_wp2_with (first | (refine wpList_allocZ rfl 83 rfl _ rfl _ (by first | exact hz1 | rfl) (rwF (fun _ => 0)) (by kernel_rfl) ?_) | (refine wpList_load_row rfl 83 _ rfl (gn) rfl 83 (rwF (pas n)) (0, 0) _ HA.out Try.underlying83 rfl (by kernel_rfl) ?_) | (refine wpList_store_row rfl 83 _ _ rfl (W.heap.size + 1) _ rfl rfl 83 _ HB1.out (by kernel_rfl) rfl (rwF_one _) ?_))
  have HN1 := Lib.hid (HN0.out.rowFar (g' := W.heap.size + 1) (by omega) (rwF (pas n)))
  have HR1 := Lib.hid (HR0.out.rowFar (g' := W.heap.size + 1) (by omega) (rwF (pas n)))
  have HM1 := Lib.hid (HB1.out.row (rwF (pas n)))
  have HT1 := Lib.hid (HT0.out.row (g' := W.heap.size + 1) (by omega) (rwF (pas n)))
  rw [← mid_zero n] at HN1
  rw [mid_zero n] at HN1
  have HN1' : Hid (Blk (((W.alloc (.cells (rwF (fun _ => 0)) 83)).alloc (.cells (rwF (fun _ => 0)) 83)).setRow (W.heap.size + 1) (rwF (pas n))) gn 83 (rwF (mid n 0))) := by show Blk _ _ _ _; rw [mid_zero]; exact HN1.out
  clear HA HB1 HN0 HR0 HT0 hz1 HN1 hb
  go_loopw [7] (fun i wr => ∃ k : Nat, k ≤ 20 ∧ i = .int .i64 k ∧ Hid (Blk wr gn 83 (rwF (mid n k))) ∧ Hid (Blk wr (W.heap.size + 1) 83 (rwF (pas n))) ∧ Hid (Blk wr W.heap.size 83 (rwF (fun _ => 0))) ∧ Hid (But gn W wr)) (fun i _ => 20 - (intOf i).toNat)
  case atStart => exact ⟨0, by omega, rfl, HN1', HM1, HR1, HT1⟩
  case round =>
    obtain ⟨k, hk, rfl, HN, HM, HR, HT⟩ := hrel
    by_cases hlt : k < 20
    · have HE9 : Hid (IntKind.i64.wrap (mid n k (k + 1) + pas n k) = mid n k (k + 1) + pas n k) := by
        show _ = _
        have h1 := bn_bd' (n := n) (by omega) k
        have h2 := bn_bd' (n := n) (by omega) (k + 1)
        have e : mid n k (k + 1) = (bn n (k + 1) : Int) := by unfold mid; rw [if_neg (by omega)]
        rw [e]
        exact wrapI (by unfold I64 pas; omega)
      have ek : IntKind.i64.wrap ((k : Int) + 1) = (k : Int) + 1 := wrapI (by unfold I64; omega)
      have t1 : (0 : Int) ≤ (k : Int) + 1 := by omega
      have t2 : (k : Int) + 1 < 21 := by omega
      have t3 : (k : Int) < 21 := by omega
      have t4 : ((k : Int) + 1).toNat = k + 1 := by omega
      go_wp2_with fail
      refine Vals6.regionAll (fun X => Blk X gn 83 (rwF (mid n k)) ∧ Blk X (W.heap.size + 1) 83 (rwF (pas n)) ∧ Blk X W.heap.size 83 (rwF (fun _ => 0)) ∧ But gn W X) [some 10, some 11, some 12, some 13, some 14, some 15, some 16, some 17, some 18] [.is ?_, .is ?_, .is ?_, .is ?_, .is ?_, .is ?_, .is ?_, .is ?_, .is ?_] (by kernel_rfl) rfl rfl (by kernel_rfl) (by kernel_rfl) (by kernel_rfl) (by kernel_rfl) (by kernel_rfl) (by kernel_rfl) rfl (⟨HN.out.drew, HM.out.drew, HR.out.drew, HT.out.drew⟩) ?hsteps ?hend
      case hsteps =>
        refine Vals5.Steps.run rfl (Vals5.Stable.is _) ?_ ?_
        · intro a W hS pre old K hK
          have e3 := old 3 _ (by kernel_rfl) rfl
          clear pre old
          simp only [Vals5.fits, Array.getD_eq_getD_getElem?, List.getElem?_toArray, List.getElem?_cons_zero, List.getElem?_cons_succ, Option.getD_some] at e3
          go_simp
          refine hK _ _ hS (Below.refl _ _) ?_
          exact fits_is _ _
        refine Vals5.Steps.run rfl (Vals5.Stable.is _) ?_ ?_
        · intro a W hS pre old K hK
          have e10 := pre 0 10 _ (by kernel_rfl) rfl rfl
          clear pre old
          simp only [Vals5.fits, Array.getD_eq_getD_getElem?, List.getElem?_toArray, List.getElem?_cons_zero, List.getElem?_cons_succ, Option.getD_some] at e10
          go_simp
          refine hK _ _ hS (Below.refl _ _) ?_
          exact fits_is _ _
        refine Vals5.Steps.run rfl (Vals5.Stable.is _) ?_ ?_
        · intro a W hS pre old K hK
          have e0 := old 0 _ (by kernel_rfl) rfl
          have e11 := pre 1 11 _ (by kernel_rfl) rfl rfl
          clear pre old
          simp only [Vals5.fits, Array.getD_eq_getD_getElem?, List.getElem?_toArray, List.getElem?_cons_zero, List.getElem?_cons_succ, Option.getD_some] at e0 e11
          go_simp
          refine hK _ _ hS (Below.refl _ _) ?_
          exact fits_is _ _
        refine Vals5.Steps.run rfl (Vals5.Stable.is _) ?_ ?_
        · intro a W hS pre old K hK
          have e12 := pre 2 12 _ (by kernel_rfl) rfl rfl
          clear pre old
          simp only [Vals5.fits, Array.getD_eq_getD_getElem?, List.getElem?_toArray, List.getElem?_cons_zero, List.getElem?_cons_succ, Option.getD_some] at e12
          have hS9 := hS
          obtain ⟨q1, q2, q3, q4⟩ := hS9
          have d0 := q1.cell (k + 1)
          have d1 := q2.cell k
          rw [rwF_get _ (by omega)] at d0 d1
          go_simp
          refine hK _ _ hS (Below.refl _ _) ?_
          exact fits_is _ _
        refine Vals5.Steps.run rfl (Vals5.Stable.is _) ?_ ?_
        · intro a W hS pre old K hK
          have e3 := old 3 _ (by kernel_rfl) rfl
          clear pre old
          simp only [Vals5.fits, Array.getD_eq_getD_getElem?, List.getElem?_toArray, List.getElem?_cons_zero, List.getElem?_cons_succ, Option.getD_some] at e3
          go_simp
          refine hK _ _ hS (Below.refl _ _) ?_
          exact fits_is _ _
        refine Vals5.Steps.run rfl (Vals5.Stable.is _) ?_ ?_
        · intro a W hS pre old K hK
          have e2 := old 2 _ (by kernel_rfl) rfl
          have e14 := pre 4 14 _ (by kernel_rfl) rfl rfl
          clear pre old
          simp only [Vals5.fits, Array.getD_eq_getD_getElem?, List.getElem?_toArray, List.getElem?_cons_zero, List.getElem?_cons_succ, Option.getD_some] at e2 e14
          go_simp
          refine hK _ _ hS (Below.refl _ _) ?_
          exact fits_is _ _
        refine Vals5.Steps.run rfl (Vals5.Stable.is _) ?_ ?_
        · intro a W hS pre old K hK
          have e15 := pre 5 15 _ (by kernel_rfl) rfl rfl
          clear pre old
          simp only [Vals5.fits, Array.getD_eq_getD_getElem?, List.getElem?_toArray, List.getElem?_cons_zero, List.getElem?_cons_succ, Option.getD_some] at e15
          have hS9 := hS
          obtain ⟨q1, q2, q3, q4⟩ := hS9
          have d0 := q1.cell (k + 1)
          have d1 := q2.cell k
          rw [rwF_get _ (by omega)] at d0 d1
          go_simp
          refine hK _ _ hS (Below.refl _ _) ?_
          exact fits_is _ _
        refine Vals5.Steps.run rfl (Vals5.Stable.is _) ?_ ?_
        · intro a W hS pre old K hK
          have e13 := pre 3 13 _ (by kernel_rfl) rfl rfl
          have e16 := pre 6 16 _ (by kernel_rfl) rfl rfl
          clear pre old
          simp only [Vals5.fits, Array.getD_eq_getD_getElem?, List.getElem?_toArray, List.getElem?_cons_zero, List.getElem?_cons_succ, Option.getD_some] at e13 e16
          have E9 := HE9.out
          go_simp
          refine hK _ _ hS (Below.refl _ _) ?_
          exact fits_is _ _
        refine Vals5.Steps.run rfl (Vals5.Stable.is _) ?_ ?_
        · intro a W hS pre old K hK
          have e0 := old 0 _ (by kernel_rfl) rfl
          have e11 := pre 1 11 _ (by kernel_rfl) rfl rfl
          clear pre old
          simp only [Vals5.fits, Array.getD_eq_getD_getElem?, List.getElem?_toArray, List.getElem?_cons_zero, List.getElem?_cons_succ, Option.getD_some] at e0 e11
          go_simp
          refine hK _ _ hS (Below.refl _ _) ?_
          exact fits_is _ _
        exact Vals5.Steps.nil
      case hend =>
      rintro X ⟨hN, hM, hR, hT⟩
      have HN2 := Lib.hid (hN.set (k + 1) (.int .i64 (mid n k (k + 1) + pas n k)))
      rw [rwF_set _ (by omega), mid_next] at HN2
      have HM2 := Lib.hid (hM.far (g' := gn) (by omega) (k + 1) (.int .i64 (mid n k (k + 1) + pas n k)))
      have HR2 := Lib.hid (hR.far (g' := gn) (by omega) (k + 1) (.int .i64 (mid n k (k + 1) + pas n k)))
      have HT2 := Lib.hid (hT.set (k + 1) (.int .i64 (mid n k (k + 1) + pas n k)))
      have g0 := hN.cell (k + 1)
      have f0 := hN.frozen (k + 1)
      rw [rwF_get _ (by omega)] at g0
      clear hN hM hR hT
      simp only [Vals5.All]
      simp only [List.getLast_cons_cons, List.getLast_singleton]
      simp only [Vals.putAll, List.setIfInBounds_toArray, List.set_cons_zero, List.set_cons_succ]
      intro K hK
      go_simp
      refine hK _ _ ?_
      clear hK K g0 f0
      go_wp2_with fail
      go_roundw
      case rel => exact ⟨k + 1, by omega, by go_num, HN2, HM2, HR2, HT2⟩
      case measure => simp [intOf]; omega
    · obtain rfl : k = 20 := by omega
      rw [mid_last] at HN
      have HT2 := Lib.hid (HT.out.row (g' := W.heap.size) (Nat.le_refl _) (rwF (pas n)))
      have HN2 := Lib.hid (HN.out.rowFar (g' := W.heap.size) (by omega) (rwF (pas n)))
      go_wp2_with (first | (refine wpList_load_row rfl 83 _ rfl (W.heap.size + 1) rfl 83 (rwF (pas n)) (0, 0) _ HM.out Try.underlying83 rfl (by kernel_rfl) ?_) | (refine wpList_store_row rfl 83 _ _ rfl W.heap.size _ rfl rfl 83 _ HR.out (by kernel_rfl) rfl (rwF_one _) ?_))
      (refine bodyPost_ret (v := .agg _) ?_ rfl ⟨rfl, ?_⟩; exact (results_cell_row Try.results82 _ _ (W.heap.size) 83 _ (0, 0) _ rfl (HR.out.row _) Try.underlying83 rfl (by kernel_rfl)))
      exact ⟨HN2.out, HT2.out⟩
end Td
end Go.Proofs.Ytgkdidnmndmlhaa
