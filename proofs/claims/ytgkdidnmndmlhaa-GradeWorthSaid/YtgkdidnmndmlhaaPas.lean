import Derived.Test.YtgkdidnmndmlhaaChkA
import Derived.Great.Walk
import Derived.Deep.MidRow
/- The rows of all ways to choose. -/
namespace Go.Proofs.Ytgkdidnmndmlhaa
open Go.RowKit
namespace Td
set_option linter.unusedSimpArgs false
set_option linter.unusedVariables false
attribute [local go_sem] Oper.semAt_some
theorem fits_is (u : Value) (w : World) : Vals5.fits (.is u) u w := rfl
/-- a row of 21 numbers; 21 rows. -/
def rwF (f : Nat → Int) : Array Value := ((List.range 21).map fun k => Value.int .i64 (f k)).toArray
def alF (f : Nat → Int) : Array Value := ((List.range 441).map fun q => Value.int .i64 (f q)).toArray
theorem rwF_size (f : Nat → Int) : (rwF f).size = 21 := by simp [rwF]
theorem alF_size (f : Nat → Int) : (alF f).size = 441 := by simp [alF]
theorem rwF_get (f : Nat → Int) {k : Nat} (h : k < 21) : (rwF f)[k]? = some (.int .i64 (f k)) := by simp [rwF, h]
theorem alF_get (f : Nat → Int) {k : Nat} (h : k < 441) : (alF f)[k]? = some (.int .i64 (f k)) := by simp [alF, h]
theorem rwF_set (f : Nat → Int) {k : Nat} (h : k < 21) (v : Int) : (rwF f).setIfInBounds k (.int .i64 v) = rwF (fun i => if i = k then v else f i) := by
  apply Array.ext_getElem?
  intro i
  rw [Array.getElem?_setIfInBounds, rwF_size]
  by_cases hi : i < 21
  · rw [rwF_get _ hi, rwF_get _ hi]
    by_cases e : k = i
    · subst e; simp [h]
    · rw [if_neg e, if_neg (fun e' => e e'.symm)]
  · rw [Array.getElem?_eq_none (by rw [rwF_size]; omega), Array.getElem?_eq_none (by rw [rwF_size]; omega), if_neg (by omega)]
theorem rwF_one (f : Nat → Int) : (rwF f).all (·.oneCell') = true := by
  rw [Array.all_eq_true_iff_forall_mem]
  intro x hx
  simp only [rwF, List.mem_toArray, List.mem_map] at hx
  obtain ⟨k, -, rfl⟩ := hx
  rfl
theorem alF_one (f : Nat → Int) : (alF f).all (·.oneCell') = true := by
  rw [Array.all_eq_true_iff_forall_mem]
  intro x hx
  simp only [alF, List.mem_toArray, List.mem_map] at hx
  obtain ⟨k, -, rfl⟩ := hx
  rfl
theorem rwF_congr {f g : Nat → Int} (h : ∀ k, k < 21 → f k = g k) : rwF f = rwF g := by
  unfold rwF
  congr 1
  exact List.map_congr_left fun k hk => by rw [h k (List.mem_range.1 hk)]
theorem alF_congr {f g : Nat → Int} (h : ∀ k, k < 441 → f k = g k) : alF f = alF g := by
  unfold alF
  congr 1
  exact List.map_congr_left fun k hk => by rw [h k (List.mem_range.1 hk)]
/-- a variable laid anew, its cells said. -/
theorem wpList_allocZ {P : Program} {ops : Array Oper} {rest : List Oper} {o : Oper} {a : Act} {w : World} {Q : Exit → Act → World → Prop} (hg : o.guard = none) (t : TypeId) (ho : o.op = .alloc t) (dst : Option Tmp) (hdst : o.dst = dst)
    (N : Nat) (hN : w.heap.size = N) (cells : Array Value) (hz : ((P.info? t).bind (·.zero)).map (·.cells) = some cells)
    (h : wpList P ops Q rest (a.put dst (.pointer (some ⟨N, 0, none⟩))) (w.alloc (.cells cells t))) : wpList P ops Q (o :: rest) a w := by
  subst hN hdst
  refine wpList_plain hg fun K hK => ?_
  cases hi : P.info? t with
  | none => simp [hi] at hz
  | some i =>
    cases hzz : i.zero with
    | none => simp [hi, hzz] at hz
    | some z =>
      obtain rfl : z.cells = cells := by simpa [hi, hzz] using hz
      unfold Oper.wp execOp
      simp [ho, Instr.alloc, zeroValue, typeInfo, hi, hzz, newVar, newRow]
      exact hK _ _ h
/-- the ways to choose of n things, as a row. -/
def pas (n : Nat) : Nat → Int := fun k => (bn n k : Int)
/-- the next row, up to its place j. -/
def mid (n j : Nat) : Nat → Int := fun k => if k ≤ j then (bn (n + 1) k : Int) else (bn n k : Int)
theorem mid_zero (n : Nat) : mid n 0 = pas n := by
  funext k
  unfold mid pas
  split
  · obtain rfl : k = 0 := by omega
    rw [bn_zero, bn_zero]
  · rfl
theorem mid_next (n j : Nat) : (fun i => if i = j + 1 then mid n j (j + 1) + pas n j else mid n j i) = mid n (j + 1) := by
  funext k
  unfold mid pas
  by_cases e : k = j + 1
  · subst e
    rw [if_pos rfl, if_neg (by omega), if_pos (Nat.le_refl _), bn_succ]
    push_cast
    omega
  · rw [if_neg e]
    by_cases h : k ≤ j
    · rw [if_pos h, if_pos (by omega)]
    · rw [if_neg h, if_neg (by omega)]
theorem mid_last (n : Nat) : rwF (mid n 20) = rwF (pas (n + 1)) := rwF_congr fun k hk => by
  unfold mid pas
  rw [if_pos (by omega)]
theorem bn_bd : ∀ n k : Nat, bn n k ≤ 2 ^ n
  | n, 0 => by rw [bn_zero]; exact Nat.one_le_two_pow
  | 0, k + 1 => by rw [bn_none]; omega
  | n + 1, k + 1 => by
    rw [bn_succ, Nat.pow_succ]
    have := bn_bd n k
    have := bn_bd n (k + 1)
    omega
theorem bn_bd' {n : Nat} (h : n ≤ 21) (k : Nat) : bn n k ≤ 2097152 := Nat.le_trans (bn_bd n k) (Nat.le_trans (Nat.pow_le_pow_right (by omega) h) (by decide))
/-- w' is W but for the block g and what was laid since. -/
structure But (g : Nat) (W W' : World) : Prop where
  os : W'.os = W.os
  tape : W'.tape = W.tape
  output : W'.output = W.output
  size : W.heap.size ≤ W'.heap.size
  block : ∀ k, k < W.heap.size → k ≠ g → W'.heap[k]? = W.heap[k]?
theorem But.of {g : Nat} {W W' : World} (h : Below W.heap.size W W') : But g W W' := ⟨h.os, h.tape, h.output, h.size, fun k hk _ => h.block k hk⟩
theorem But.keep {g : Nat} {W X Y : World} (h : But g W X) (hb : Below X.heap.size X Y) : But g W Y :=
  ⟨hb.os.trans h.os, hb.tape.trans h.tape, hb.output.trans h.output, Nat.le_trans h.size hb.size, fun k hk hn => (hb.block k (Nat.lt_of_lt_of_le hk h.size)).trans (h.block k hk hn)⟩
theorem But.alloc {g : Nat} {W X : World} (h : But g W X) (o : Obj) : But g W (X.alloc o) := h.keep ((Below.refl _ _).alloc (Nat.le_refl _) _)
theorem But.drew {g : Nat} {W X : World} (h : But g W X) : But g W X.drew := ⟨h.os, h.tape, h.output, h.size, h.block⟩
theorem But.set {g : Nat} {W X : World} (h : But g W X) (i : Nat) (v : Value) : But g W (X.setCell ⟨g, i, none⟩ v) :=
  ⟨h.os, h.tape, h.output, by simpa using h.size, fun k hk hn => (heap_setCell_other X ⟨g, i, none⟩ k v hn).trans (h.block k hk hn)⟩
theorem But.row {g : Nat} {W X : World} (h : But g W X) {g' : Nat} (hg : W.heap.size ≤ g') (cs : Array Value) : But g W (X.setRow g' cs) :=
  ⟨h.os, h.tape, h.output, by rw [size_setRow]; exact h.size, fun k hk hn => (setRow_other X g' k cs (by omega)).trans (h.block k hk hn)⟩
theorem Blk.but {g : Nat} {W X : World} {t : TypeId} {cs : Array Value} {b : Nat} (k : Blk W b t cs) (h : But g W X) (hb : b ≠ g) : Blk X b t cs := (h.block b k.lt hb).trans k
theorem But.below {B g : Nat} {A W X : World} (h : Below B A W) (k : But g W X) (hB : B ≤ g) (hA : B ≤ A.heap.size) : Below B A X :=
  ⟨k.os.trans h.os, k.tape.trans h.tape, k.output.trans h.output, Nat.le_trans h.size k.size, fun i hi => (k.block i (Nat.lt_of_lt_of_le (Nat.lt_of_lt_of_le hi hA) h.size) (by omega)).trans (h.block i hi)⟩
set_option maxRecDepth 100000 in
set_option maxHeartbeats 4000000 in
theorem newRows1_c (n gn : Nat) (W : World) (hn : n ≤ 20) (hb : Blk W gn 83 (rwF (pas n))) :
    Calls Try.prog 82 #[.pointer (some ⟨gn, 0, none⟩)] W fun e W' => e = .returned (.agg (rwF (pas n))) ∧ Blk W' gn 83 (rwF (pas (n + 1))) ∧ But gn W W' := by
  have hgn := hb.lt
  obtain ⟨W1, hW1⟩ : ∃ W1, (W.alloc (.cells (rwF (fun _ => 0)) 83)).alloc (.cells (rwF (fun _ => 0)) 83) = W1 := ⟨_, rfl⟩
  have HA := Lib.hid (hb.alloc (.cells (rwF (fun _ => 0)) 83))
  have HB1 := Lib.hid (Blk.new1 W (.cells (rwF (fun _ => 0)) 83) 83 (rwF (fun _ => 0)))
  have HN0 := Lib.hid ((hb.alloc (.cells (rwF (fun _ => 0)) 83)).alloc (.cells (rwF (fun _ => 0)) 83))
  have HR0 := Lib.hid ((Blk.new W 83 (rwF (fun _ => 0))).alloc (.cells (rwF (fun _ => 0)) 83))
  have HT0 := Lib.hid ((((But.of (Below.refl _ W) : But gn W W).alloc (.cells (rwF (fun _ => 0)) 83)).alloc (.cells (rwF (fun _ => 0)) 83)))
  have hz1 : (W.alloc (.cells (rwF (fun _ => 0)) 83)).heap.size = W.heap.size + 1 := by simp
  clear hW1 W1
  go_enter Try.func82, Try.ntmps82
  go_wp2_with (first | (refine wpList_allocZ rfl 83 rfl _ rfl _ (by first | exact hz1 | rfl) (rwF (fun _ => 0)) (by kernel_rfl) ?_) | (refine wpList_load_row rfl 83 _ rfl (gn) rfl 83 (rwF (pas n)) (0, 0) _ HA.out Try.underlying83 rfl (by kernel_rfl) ?_) | (refine wpList_store_row rfl 83 _ _ rfl (W.heap.size + 1) _ rfl rfl 83 _ HB1.out (by kernel_rfl) rfl (rwF_one _) ?_))
  have HN1 := Lib.hid (HN0.out.rowFar (g' := W.heap.size + 1) (by omega) (rwF (pas n)))
  have HR1 := Lib.hid (HR0.out.rowFar (g' := W.heap.size + 1) (by omega) (rwF (pas n)))
  have HM1 := Lib.hid (HB1.out.row (rwF (pas n)))
  have HT1 := Lib.hid (HT0.out.row (g' := W.heap.size + 1) (by omega) (rwF (pas n)))
  rw [← mid_zero n] at HN1
  rw [mid_zero n] at HN1
  have HN1' : Hid (Blk (((W.alloc (.cells (rwF (fun _ => 0)) 83)).alloc (.cells (rwF (fun _ => 0)) 83)).setRow (W.heap.size + 1) (rwF (pas n))) gn 83 (rwF (mid n 0))) := by show Blk _ _ _ _; rw [mid_zero]; exact HN1.out
  clear HA HB1 HN0 HR0 HT0 hz1 HN1 hb
  go_loopw [7] (fun i wr => ∃ k : Nat, k ≤ 20 ∧ i = .int .i64 k ∧ Hid (Blk wr gn 83 (rwF (mid n k))) ∧ Hid (Blk wr (W.heap.size + 1) 83 (rwF (pas n))) ∧ Hid (Blk wr W.heap.size 83 (rwF (fun _ => 0))) ∧ Hid (But gn W wr)) (fun i _ => 20 - (intOf i).toNat)
  case atStart => exact ⟨0, by omega, rfl, HN1', HM1, HR1, HT1⟩
  case round =>
    obtain ⟨k, hk, rfl, HN, HM, HR, HT⟩ := hrel
    by_cases hlt : k < 20
    · have HE9 : Hid (IntKind.i64.wrap (mid n k (k + 1) + pas n k) = mid n k (k + 1) + pas n k) := by
        show _ = _
        have h1 := bn_bd' (n := n) (by omega) k
        have h2 := bn_bd' (n := n) (by omega) (k + 1)
        have e : mid n k (k + 1) = (bn n (k + 1) : Int) := by unfold mid; rw [if_neg (by omega)]
        rw [e]
        exact wrapI (by unfold I64 pas; omega)
      have ek : IntKind.i64.wrap ((k : Int) + 1) = (k : Int) + 1 := wrapI (by unfold I64; omega)
      have t1 : (0 : Int) ≤ (k : Int) + 1 := by omega
      have t2 : (k : Int) + 1 < 21 := by omega
      have t3 : (k : Int) < 21 := by omega
      have t4 : ((k : Int) + 1).toNat = k + 1 := by omega
      go_wp2_with fail
      refine Vals6.regionAll (fun X => Blk X gn 83 (rwF (mid n k)) ∧ Blk X (W.heap.size + 1) 83 (rwF (pas n)) ∧ Blk X W.heap.size 83 (rwF (fun _ => 0)) ∧ But gn W X) [some 10, some 11, some 12, some 13, some 14, some 15, some 16, some 17, some 18] [.is ?_, .is ?_, .is ?_, .is ?_, .is ?_, .is ?_, .is ?_, .is ?_, .is ?_] (by kernel_rfl) rfl rfl (by kernel_rfl) (by kernel_rfl) (by kernel_rfl) (by kernel_rfl) (by kernel_rfl) (by kernel_rfl) rfl (⟨HN.out.drew, HM.out.drew, HR.out.drew, HT.out.drew⟩) ?hsteps ?hend
      case hsteps =>
        refine Vals5.Steps.run rfl (Vals5.Stable.is _) ?_ ?_
        · intro a W hS pre old K hK
          have e3 := old 3 _ (by kernel_rfl) rfl
          clear pre old
          simp only [Vals5.fits, Array.getD_eq_getD_getElem?, List.getElem?_toArray, List.getElem?_cons_zero, List.getElem?_cons_succ, Option.getD_some] at e3
          go_simp
          refine hK _ _ hS (Below.refl _ _) ?_
          exact fits_is _ _
        refine Vals5.Steps.run rfl (Vals5.Stable.is _) ?_ ?_
        · intro a W hS pre old K hK
          have e10 := pre 0 10 _ (by kernel_rfl) rfl rfl
          clear pre old
          simp only [Vals5.fits, Array.getD_eq_getD_getElem?, List.getElem?_toArray, List.getElem?_cons_zero, List.getElem?_cons_succ, Option.getD_some] at e10
          go_simp
          refine hK _ _ hS (Below.refl _ _) ?_
          exact fits_is _ _
        refine Vals5.Steps.run rfl (Vals5.Stable.is _) ?_ ?_
        · intro a W hS pre old K hK
          have e0 := old 0 _ (by kernel_rfl) rfl
          have e11 := pre 1 11 _ (by kernel_rfl) rfl rfl
          clear pre old
          simp only [Vals5.fits, Array.getD_eq_getD_getElem?, List.getElem?_toArray, List.getElem?_cons_zero, List.getElem?_cons_succ, Option.getD_some] at e0 e11
          go_simp
          refine hK _ _ hS (Below.refl _ _) ?_
          exact fits_is _ _
        refine Vals5.Steps.run rfl (Vals5.Stable.is _) ?_ ?_
        · intro a W hS pre old K hK
          have e12 := pre 2 12 _ (by kernel_rfl) rfl rfl
          clear pre old
          simp only [Vals5.fits, Array.getD_eq_getD_getElem?, List.getElem?_toArray, List.getElem?_cons_zero, List.getElem?_cons_succ, Option.getD_some] at e12
          have hS9 := hS
          obtain ⟨q1, q2, q3, q4⟩ := hS9
          have d0 := q1.cell (k + 1)
          have d1 := q2.cell k
          rw [rwF_get _ (by omega)] at d0 d1
          go_simp
          refine hK _ _ hS (Below.refl _ _) ?_
          exact fits_is _ _
        refine Vals5.Steps.run rfl (Vals5.Stable.is _) ?_ ?_
        · intro a W hS pre old K hK
          have e3 := old 3 _ (by kernel_rfl) rfl
          clear pre old
          simp only [Vals5.fits, Array.getD_eq_getD_getElem?, List.getElem?_toArray, List.getElem?_cons_zero, List.getElem?_cons_succ, Option.getD_some] at e3
          go_simp
          refine hK _ _ hS (Below.refl _ _) ?_
          exact fits_is _ _
        refine Vals5.Steps.run rfl (Vals5.Stable.is _) ?_ ?_
        · intro a W hS pre old K hK
          have e2 := old 2 _ (by kernel_rfl) rfl
          have e14 := pre 4 14 _ (by kernel_rfl) rfl rfl
          clear pre old
          simp only [Vals5.fits, Array.getD_eq_getD_getElem?, List.getElem?_toArray, List.getElem?_cons_zero, List.getElem?_cons_succ, Option.getD_some] at e2 e14
          go_simp
          refine hK _ _ hS (Below.refl _ _) ?_
          exact fits_is _ _
        refine Vals5.Steps.run rfl (Vals5.Stable.is _) ?_ ?_
        · intro a W hS pre old K hK
          have e15 := pre 5 15 _ (by kernel_rfl) rfl rfl
          clear pre old
          simp only [Vals5.fits, Array.getD_eq_getD_getElem?, List.getElem?_toArray, List.getElem?_cons_zero, List.getElem?_cons_succ, Option.getD_some] at e15
          have hS9 := hS
          obtain ⟨q1, q2, q3, q4⟩ := hS9
          have d0 := q1.cell (k + 1)
          have d1 := q2.cell k
          rw [rwF_get _ (by omega)] at d0 d1
          go_simp
          refine hK _ _ hS (Below.refl _ _) ?_
          exact fits_is _ _
        refine Vals5.Steps.run rfl (Vals5.Stable.is _) ?_ ?_
        · intro a W hS pre old K hK
          have e13 := pre 3 13 _ (by kernel_rfl) rfl rfl
          have e16 := pre 6 16 _ (by kernel_rfl) rfl rfl
          clear pre old
          simp only [Vals5.fits, Array.getD_eq_getD_getElem?, List.getElem?_toArray, List.getElem?_cons_zero, List.getElem?_cons_succ, Option.getD_some] at e13 e16
          have E9 := HE9.out
          go_simp
          refine hK _ _ hS (Below.refl _ _) ?_
          exact fits_is _ _
        refine Vals5.Steps.run rfl (Vals5.Stable.is _) ?_ ?_
        · intro a W hS pre old K hK
          have e0 := old 0 _ (by kernel_rfl) rfl
          have e11 := pre 1 11 _ (by kernel_rfl) rfl rfl
          clear pre old
          simp only [Vals5.fits, Array.getD_eq_getD_getElem?, List.getElem?_toArray, List.getElem?_cons_zero, List.getElem?_cons_succ, Option.getD_some] at e0 e11
          go_simp
          refine hK _ _ hS (Below.refl _ _) ?_
          exact fits_is _ _
        exact Vals5.Steps.nil
      case hend =>
      rintro X ⟨hN, hM, hR, hT⟩
      have HN2 := Lib.hid (hN.set (k + 1) (.int .i64 (mid n k (k + 1) + pas n k)))
      rw [rwF_set _ (by omega), mid_next] at HN2
      have HM2 := Lib.hid (hM.far (g' := gn) (by omega) (k + 1) (.int .i64 (mid n k (k + 1) + pas n k)))
      have HR2 := Lib.hid (hR.far (g' := gn) (by omega) (k + 1) (.int .i64 (mid n k (k + 1) + pas n k)))
      have HT2 := Lib.hid (hT.set (k + 1) (.int .i64 (mid n k (k + 1) + pas n k)))
      have g0 := hN.cell (k + 1)
      have f0 := hN.frozen (k + 1)
      rw [rwF_get _ (by omega)] at g0
      clear hN hM hR hT
      simp only [Vals5.All]
      simp only [List.getLast_cons_cons, List.getLast_singleton]
      simp only [Vals.putAll, List.setIfInBounds_toArray, List.set_cons_zero, List.set_cons_succ]
      intro K hK
      go_simp
      refine hK _ _ ?_
      clear hK K g0 f0
      go_wp2_with fail
      go_roundw
      case rel => exact ⟨k + 1, by omega, by go_num, HN2, HM2, HR2, HT2⟩
      case measure => simp [intOf]; omega
    · obtain rfl : k = 20 := by omega
      rw [mid_last] at HN
      have HT2 := Lib.hid (HT.out.row (g' := W.heap.size) (Nat.le_refl _) (rwF (pas n)))
      have HN2 := Lib.hid (HN.out.rowFar (g' := W.heap.size) (by omega) (rwF (pas n)))
      go_wp2_with (first | (refine wpList_load_row rfl 83 _ rfl (W.heap.size + 1) rfl 83 (rwF (pas n)) (0, 0) _ HM.out Try.underlying83 rfl (by kernel_rfl) ?_) | (refine wpList_store_row rfl 83 _ _ rfl W.heap.size _ rfl rfl 83 _ HR.out (by kernel_rfl) rfl (rwF_one _) ?_))
      (refine bodyPost_ret (v := .agg _) ?_ rfl ⟨rfl, ?_⟩; exact (results_cell_row Try.results82 _ _ (W.heap.size) 83 _ (0, 0) _ rfl (HR.out.row _) Try.underlying83 rfl (by kernel_rfl)))
      exact ⟨HN2.out, HT2.out⟩
end Td
end Go.Proofs.Ytgkdidnmndmlhaa
/- All rows of ways to choose: newRows; a heap that is looked at. -/
namespace Go.Proofs.Ytgkdidnmndmlhaa
open Go.RowKit
namespace Td
set_option linter.unusedSimpArgs false
set_option linter.unusedVariables false
attribute [local go_sem] Oper.semAt_some
/-- cells that are set one by one, in a row of cells. -/
def putL (cs : Array Value) : Nat → List Value → Array Value
  | _, [] => cs
  | o, v :: r => putL (cs.setIfInBounds o v) (o + 1) r
theorem putL_size : ∀ (vs : List Value) (o : Nat) (cs : Array Value), (putL cs o vs).size = cs.size
  | [], _, _ => rfl
  | v :: r, o, cs => by rw [putL, putL_size r, Array.size_setIfInBounds]
theorem putL_out : ∀ (vs : List Value) (o : Nat) (cs : Array Value) (i : Nat), (i < o ∨ o + vs.length ≤ i) → (putL cs o vs)[i]? = cs[i]?
  | [], _, _, _, _ => rfl
  | v :: r, o, cs, i, h => by
    rw [putL, putL_out r _ _ i (by simp at h; omega), Array.getElem?_setIfInBounds_ne (by simp at h; omega)]
theorem putL_in : ∀ (vs : List Value) (o : Nat) (cs : Array Value) (j : Nat) (v : Value), vs[j]? = some v → o + j < cs.size → (putL cs o vs)[o + j]? = some v
  | u :: r, o, cs, 0, v, h, hs => by
    obtain rfl : u = v := by simpa using h
    rw [putL, putL_out r _ _ _ (by omega)]
    simp at hs
    simp [hs]
  | u :: r, o, cs, j + 1, v, h, hs => by
    rw [putL, show o + (j + 1) = o + 1 + j by omega]
    exact putL_in r (o + 1) _ j v (by simpa using h) (by rw [Array.size_setIfInBounds]; omega)
theorem Blk.setCells : ∀ (vs : List Value) {w : World} {g : Nat} {t : TypeId} {cs : Array Value} (o : Nat), Blk w g t cs → Blk (w.setCells g o vs) g t (putL cs o vs)
  | [], _, _, _, _, _, h => h
  | v :: r, w, g, t, cs, o, h => by rw [World.setCells, putL]; exact Blk.setCells r (o + 1) (h.set o v)
theorem Blk.setCellsFar : ∀ (vs : List Value) {w : World} {g g' : Nat} {t : TypeId} {cs : Array Value} (o : Nat), g' ≠ g → Blk w g t cs → Blk (w.setCells g' o vs) g t cs
  | [], _, _, _, _, _, _, _, h => h
  | v :: r, w, g, g', t, cs, o, hn, h => by rw [World.setCells]; exact Blk.setCellsFar r (o + 1) hn (h.far hn o v)
theorem Since.setCells : ∀ (vs : List Value) {w W : World} {g : Nat} (o : Nat), w.heap.size ≤ g → Since w W → Since w (W.setCells g o vs)
  | [], _, _, _, _, _, h => h
  | v :: r, w, W, g, o, hg, h => by
    rw [World.setCells]
    exact Since.setCells r (o + 1) hg ⟨h.1.setCell (p := ⟨g, o, none⟩) hg v, by have := h.2; simpa using this⟩
theorem putL_rows (f r : Nat → Int) {k : Nat} (hk : k < 21) : putL (alF f) (k * 21) (rwF r).toList = alF (fun q => if k * 21 ≤ q ∧ q < k * 21 + 21 then r (q - k * 21) else f q) := by
  apply Array.ext_getElem?
  intro i
  by_cases h : i < 441
  · rw [alF_get _ h]
    by_cases hi : k * 21 ≤ i ∧ i < k * 21 + 21
    · rw [if_pos hi]
      obtain ⟨j, rfl⟩ := Nat.exists_eq_add_of_le hi.1
      refine (putL_in _ _ _ j (.int .i64 (r j)) ?_ (by rw [alF_size]; exact h)).trans ?_
      · rw [Array.getElem?_toList]; exact rwF_get r (by omega)
      · rw [show k * 21 + j - k * 21 = j by omega]
    · rw [if_neg hi, putL_out _ _ _ _ (by simp only [Array.length_toList, rwF_size]; omega), alF_get _ h]
  · rw [Array.getElem?_eq_none (by rw [putL_size, alF_size]; omega), Array.getElem?_eq_none (by rw [alF_size]; omega)]
/-- all ways to choose, row after row. -/
def tri : Nat → Int := fun q => (bn (q / 21) (q % 21) : Int)
/-- the rows up to n. -/
def triTo (n : Nat) : Nat → Int := fun q => if q < n * 21 then tri q else 0
theorem triTo_zero : triTo 0 = fun _ => 0 := by funext q; unfold triTo; rw [if_neg (by omega)]
theorem triTo_next {n : Nat} : alF (fun q => if n * 21 ≤ q ∧ q < n * 21 + 21 then pas n (q - n * 21) else triTo n q) = alF (triTo (n + 1)) := alF_congr fun q hq => by
  unfold triTo
  by_cases h : n * 21 ≤ q ∧ q < n * 21 + 21
  · rw [if_pos h, if_pos (by omega)]
    obtain ⟨j, rfl⟩ := Nat.exists_eq_add_of_le h.1
    unfold tri pas
    rw [show n * 21 + j - n * 21 = j by omega, show (n * 21 + j) / 21 = n by omega, show (n * 21 + j) % 21 = j by omega]
  · rw [if_neg h]
    by_cases h2 : q < n * 21
    · rw [if_pos h2, if_pos (by omega)]
    · rw [if_neg h2, if_neg (by omega)]
theorem triTo_last : alF (triTo 21) = alF tri := alF_congr fun q hq => by unfold triTo; rw [if_pos (by omega)]
theorem there_of {w : World} {g : Nat} {t : TypeId} {cs : Array Value} (h : Blk w g t cs) {o n : Nat} (ho : o + n ≤ cs.size) : w.there g o n := fun j hj => by
  rw [h.cell, h.frozen]
  rw [Array.getElem?_eq_getElem (by omega)]
  exact ⟨rfl, rfl⟩
set_option maxRecDepth 100000 in
set_option maxHeartbeats 4000000 in
theorem newRows_c (w : World) :
    Calls Try.prog 51 #[] w fun e w' => e = .returned (.agg (alF tri)) ∧ Below w.heap.size w w' := by
  have HZ : Hid (alF (fun _ => 0) = alF (triTo 0)) := by show _ = _; rw [triTo_zero]
  have HB1 := Lib.hid (Blk.new1 w (.cells (alF (fun _ => 0)) 85) 83 (rwF (fun _ => 0)))
  have HR1 := Lib.hid ((Blk.new w 85 (alF (fun _ => 0))).alloc (.cells (rwF (fun _ => 0)) 83))
  have hs1 := ((Since.refl w).alloc (.cells (alF (fun _ => 0)) 85)).alloc (.cells (rwF (fun _ => 0)) 83)
  have HB2 := Lib.hid (HB1.out.row (rwF (pas 0)))
  have HR2 := Lib.hid (HR1.out.rowFar (g' := w.heap.size + 1) (by omega) (rwF (pas 0)))
  have HS2 := Lib.hid (hs1.row (g := w.heap.size + 1) (by omega) (rwF (pas 0)))
  have hz1 : (w.alloc (.cells (alF (fun _ => 0)) 85)).heap.size = w.heap.size + 1 := by simp
  have hz2 : (((w.alloc (.cells (alF (fun _ => 0)) 85)).alloc (.cells (rwF (fun _ => 0)) 83)).setRow (w.heap.size + 1) (rwF (pas 0))).heap.size = w.heap.size + 1 + 1 := by simp [size_setRow]
  have HB3 := Lib.hid (HB2.out.alloc (.cells (alF (fun _ => 0)) 85))
  have HR3 := Lib.hid (HR2.out.alloc (.cells (alF (fun _ => 0)) 85))
  have HS3 := Lib.hid (HS2.out.alloc (.cells (alF (fun _ => 0)) 85))
  have HA3 : Hid (Blk ((((w.alloc (.cells (alF (fun _ => 0)) 85)).alloc (.cells (rwF (fun _ => 0)) 83)).setRow (w.heap.size + 1) (rwF (pas 0))).alloc (.cells (alF (fun _ => 0)) 85)) (w.heap.size + 1 + 1) 85 (alF (triTo 0))) := by
    show Blk _ _ _ _
    rw [← HZ.out]
    exact Blk.newS hz2
  clear hs1 HB2 HR2 HS2
  go_enter Try.func51, Try.ntmps51
  go_wp2_with (first
    | (refine wpList_allocZ rfl 85 rfl _ rfl _ (by first | exact hz2 | rfl) (alF (fun _ => 0)) (by kernel_rfl) ?_)
    | (refine wpList_allocZ rfl 83 rfl _ rfl _ (by first | exact hz1 | rfl) (rwF (fun _ => 0)) (by kernel_rfl) ?_)
    | (refine wpList_store_row rfl 83 _ _ rfl (w.heap.size + 1) (rwF (pas 0)) rfl (by kernel_rfl) 83 _ HB1.out (by kernel_rfl) rfl (rwF_one _) ?_))
  obtain ⟨w3, hw3⟩ : ∃ w3, ((((w.alloc (.cells (alF (fun _ => 0)) 85)).alloc (.cells (rwF (fun _ => 0)) 83)).setRow (w.heap.size + 1) (rwF (pas 0))).alloc (.cells (alF (fun _ => 0)) 85)) = w3 := ⟨_, rfl⟩
  rw [hw3] at HB3 HR3 HS3 HA3 ⊢
  clear hw3 HB1 HR1 hz1 hz2 HZ
  go_loopw [7] (fun i wr => ∃ n : Nat, n ≤ 21 ∧ i = .int .i64 n ∧ Hid (Blk wr (w.heap.size + 1) 83 (rwF (pas n))) ∧ Hid (Blk wr (w.heap.size + 1 + 1) 85 (alF (triTo n))) ∧ Hid (Blk wr w.heap.size 85 (alF (fun _ => 0))) ∧ Hid (Since w wr)) (fun i _ => 21 - (intOf i).toNat)
  case atStart => exact ⟨0, by omega, rfl, HB3, HA3, HR3, HS3⟩
  case round =>
    obtain ⟨n, hn, rfl, HB, HA, HR, HS⟩ := hrel
    by_cases hlt : n < 21
    · have t1 : (n : Int) < 21 := by omega
      go_upto_region 7 with fail
      refine wp_region_list ?_
      refine wpList_plain rfl (fun K hK => ?_)
      go_simp
      refine hK _ _ ?_
      clear hK K
      refine wpList_plain rfl (fun K hK => ?_)
      go_simp
      refine hK _ _ ?_
      clear hK K
      refine wpList_plain rfl (fun K hK => ?_)
      go_simp
      refine (newRows1_c n _ _ (by omega) HB.out).mono ?_
      rintro e w4 ⟨rfl, hb4, hd4⟩
      have HA4 := Lib.hid (HA.out.but hd4 (by omega))
      have HR4 := Lib.hid (HR.out.but hd4 (by omega))
      have HS4 : Hid (Since w w4) := ⟨But.below HS.out.1 hd4 (by omega) (by omega), Nat.le_trans HS.out.2 hd4.size⟩
      have HB4 := Lib.hid hb4
      clear hb4 hd4 HB HA HR HS
      refine hK _ _ ?_
      clear hK K
      refine wpList_plain rfl (fun K hK => ?_)
      go_simp
      refine hK _ _ ?_
      clear hK K
      have HTH : Hid (w4.there (w.heap.size + 1 + 1) (n * 21) (rwF (pas n)).size) := there_of HA4.out (by rw [alF_size, rwF_size]; omega)
      refine wpList_store_mid rfl 83 _ _ rfl (w.heap.size + 1 + 1) (n * 21) (rwF (pas n)) (by go_simp) (by go_simp) HTH.out (by kernel_rfl) (rwF_one _) ?_
      have HB5 := Lib.hid (Blk.setCellsFar (rwF (pas n)).toList (g' := w.heap.size + 1 + 1) (n * 21) (by omega) HB4.out)
      have HR5 := Lib.hid (Blk.setCellsFar (rwF (pas n)).toList (g' := w.heap.size + 1 + 1) (n * 21) (by omega) HR4.out)
      have HS5 := Lib.hid (Since.setCells (rwF (pas n)).toList (g := w.heap.size + 1 + 1) (n * 21) (by omega) HS4.out)
      have HA5 := Lib.hid (HA4.out.setCells (rwF (pas n)).toList (n * 21))
      rw [putL_rows _ _ hlt, triTo_next] at HA5
      obtain ⟨w5, hw5⟩ : ∃ w5, (w4.setCells (w.heap.size + 1 + 1) (n * 21) (rwF (pas n)).toList) = w5 := ⟨_, rfl⟩
      rw [hw5] at HB5 HR5 HS5 HA5 ⊢
      clear hw5 HB4 HA4 HR4 HS4 HTH
      dsimp only [Act.put]
      refine wpList_nil ?_
      go_wp2_with fail
      go_roundw
      case rel => exact ⟨n + 1, by omega, by go_num, HB5, HA5, HR5, HS5⟩
      case measure => simp [intOf]; omega
    · obtain rfl : n = 21 := by omega
      rw [triTo_last] at HA
      have HS2 := Lib.hid (HS.out.row (g := w.heap.size) (Nat.le_refl _) (alF tri))
      go_wp2_with (first | (refine wpList_load_row rfl 85 _ rfl (w.heap.size + 1 + 1) rfl 85 (alF tri) (0, 0) _ HA.out Try.underlying85 rfl (by kernel_rfl) ?_) | (refine wpList_store_row rfl 85 _ _ rfl w.heap.size _ rfl rfl 85 _ HR.out (by kernel_rfl) rfl (alF_one _) ?_))
      (refine bodyPost_ret (v := .agg _) ?_ rfl ⟨rfl, ?_⟩; exact (results_cell_row Try.results51 _ _ (w.heap.size) 85 _ (0, 0) _ rfl (HR.out.row _) Try.underlying85 rfl (by kernel_rfl)))
      exact HS2.out.1
end Td
end Go.Proofs.Ytgkdidnmndmlhaa
/- A heap that is looked at; Ways. -/
namespace Go.Proofs.Ytgkdidnmndmlhaa
open Go.RowKit
namespace Td
set_option linter.unusedSimpArgs false
set_option linter.unusedVariables false
attribute [local go_sem] Oper.semAt_some
/-- the cells of a heap that is looked at. -/
def hpV (P lo hi : Int) : Array Value := gV P lo hi ++ alF tri
theorem hpV_size (P lo hi : Int) : (hpV P lo hi).size = 444 := by simp [hpV, alF_size]
theorem hpV_get (P lo hi : Int) {q : Nat} (h : q < 441) : (hpV P lo hi)[3 + q]? = some (.int .i64 (tri q)) := by
  unfold hpV
  rw [Array.getElem?_append_right (by simp)]
  simp only [List.size_toArray, List.length_cons, List.length_nil, Nat.zero_add, Nat.reduceAdd, Nat.add_sub_cancel_left]
  exact alF_get _ h
theorem hpV_way (P lo hi : Int) {n k : Nat} (hn : n ≤ 20) (hk : k ≤ 20) : (hpV P lo hi)[3 + n * 21 + k]? = some (.int .i64 (bn n k : Int)) := by
  have h := hpV_get P lo hi (q := n * 21 + k) (by omega)
  rw [← Nat.add_assoc] at h
  rw [h]
  unfold tri
  rw [show (n * 21 + k) / 21 = n by omega, show (n * 21 + k) % 21 = k by omega]
theorem hpV_0 (P lo hi : Int) : (hpV P lo hi)[0]? = some (.int .i64 P) ∧ (hpV P lo hi)[1]? = some (.int .i64 lo) ∧ (hpV P lo hi)[2]? = some (.int .i64 hi) := by
  unfold hpV
  refine ⟨?_, ?_, ?_⟩ <;> (rw [Array.getElem?_append_left (by simp)]; rfl)
theorem Blk.hcells {w : World} {g : Nat} {t : TypeId} {a b c : Int} (k : Blk w g t (hpV a b c)) : w.cell? ⟨g, 0, none⟩ = some (.int .i64 a) ∧ w.cell? ⟨g, 1, none⟩ = some (.int .i64 b) ∧ w.cell? ⟨g, 2, none⟩ = some (.int .i64 c) :=
  ⟨(k.cell 0).trans (hpV_0 a b c).1, (k.cell 1).trans (hpV_0 a b c).2.1, (k.cell 2).trans (hpV_0 a b c).2.2⟩
theorem Blk.way {w : World} {g : Nat} {t : TypeId} {a b c : Int} (h : Blk w g t (hpV a b c)) {n k : Nat} (hn : n ≤ 20) (hk : k ≤ 20) : w.cell? ⟨g, 3 + n * 21 + k, none⟩ = some (.int .i64 (bn n k : Int)) := (h.cell _).trans (hpV_way a b c hn hk)
theorem fold_putL : ∀ (vs : List Value) (o j0 : Nat) (cs : Array Value), (vs.zipIdx j0).foldl (fun cs x => cs.setIfInBounds (o + x.2) x.1) cs = putL cs (o + j0) vs
  | [], _, _, _ => rfl
  | v :: r, o, j0, cs => by
    rw [List.zipIdx_cons, List.foldl_cons, fold_putL r o (j0 + 1)]
    rfl
theorem fill_one {place : Nat → Option (Nat × Nat)} {i off size : Nat} {vs cs : Array Value} {rest : List (Nat × Value)} (hp : place i = some (off, size)) (hv : vs.size = size) (hc : off + size ≤ cs.size) :
    Instr.fill place cs ((i, .agg vs) :: rest) = Instr.fill place (putL cs off vs.toList) rest := by
  rw [Instr.fill, hp]
  have e : (Value.agg vs).cells = vs := rfl
  simp only [e]
  rw [if_neg (by subst hv; simp; omega)]
  congr 1
  rw [← Array.foldl_toList, Array.toList_zipIdx]
  exact fold_putL vs.toList off 0 cs
def zeros (n : Nat) : Array Value := (List.replicate n (Value.int .i64 0)).toArray
theorem zeros_size (n : Nat) : (zeros n).size = n := by unfold zeros; rw [List.size_toArray, List.length_replicate]
theorem built_is (parts : List (Nat × Value)) : Try.prog.built 97 parts = Instr.fill (fun x => #[(0, 3), (3, 441)][x]?) (zeros 444) parts := by kernel_rfl
theorem putL_app (A B : Array Value) (hA : A.size = 3) (hB : B.size = 441) : putL (putL (zeros 444) 0 A.toList) 3 B.toList = A ++ B := by
  have hz : (zeros 444).size = 444 := zeros_size _
  apply Array.ext_getElem?
  intro i
  by_cases h : i < 444
  · by_cases h3 : i < 3
    · rw [putL_out _ _ _ _ (by omega), Array.getElem?_append_left (by omega)]
      have := putL_in A.toList 0 (zeros 444) i A[i] (by rw [Array.getElem?_toList, Array.getElem?_eq_getElem (by omega)]) (by omega)
      rw [Nat.zero_add] at this
      rw [this, Array.getElem?_eq_getElem (by omega)]
    · rw [Array.getElem?_append_right (by omega)]
      have := putL_in B.toList 3 (putL (zeros 444) 0 A.toList) (i - 3) B[i - 3] (by rw [Array.getElem?_toList, Array.getElem?_eq_getElem (by omega)]) (by rw [putL_size]; omega)
      rw [show 3 + (i - 3) = i by omega] at this
      rw [this, hA, Array.getElem?_eq_getElem (by omega)]
  · rw [Array.getElem?_eq_none (by rw [putL_size, putL_size]; omega), Array.getElem?_eq_none (by simp; omega)]
theorem built_hp (P lo hi : Int) : Try.prog.built 97 [(0, .agg (gV P lo hi)), (1, .agg (alF tri))] = some (hpV P lo hi) := by
  have hz : (zeros 444).size = 444 := zeros_size _
  rw [built_is, fill_one (off := 0) (size := 3) rfl rfl (by omega), fill_one (off := 3) (size := 441) rfl (alF_size _) (by rw [putL_size]; omega), Instr.fill, putL_app _ _ rfl (alF_size _)]
  rfl
theorem wp_buildTo {P : Program} {o : Oper} {a : Act} {w : World} {K : Act → World → Prop} {Q : Exit → Act → World → Prop} (t : TypeId) (parts : Array (Nat × Operand)) (ho : o.op = .build t parts) (cells : Array Value)
    (hf : P.built t (parts.toList.map fun p => (p.1, a.eval p.2)) = some cells) (h : K (a.put o.dst (.agg cells)) w) : o.wp P a w K Q := by
  have e : (parts.map fun (i, x) => (i, a.eval x)).toList = parts.toList.map fun p => (p.1, a.eval p.2) := by rw [Array.toList_map]
  exact wp_build t parts ho (by rw [e, hf]; rfl) (by rw [e, hf]; exact h)
theorem wp_boxTo {P : Program} {o : Oper} {a : Act} {w : World} {K : Act → World → Prop} {Q : Exit → Act → World → Prop} (t : TypeId) (x : Operand) (ho : o.op = .box t x) (cells : Array Value) (hx : (a.eval x).cells = cells)
    (h : K (a.put o.dst (.pointer (some ⟨w.heap.size, 0, none⟩))) (w.alloc (.cells cells t))) : o.wp P a w K Q := by
  subst hx
  unfold Oper.wp execOp
  simp only [ho, Sem.run_bind, Instr.box, newVar, newRow, run_newObj_alloc, Sem.run_pure, Result.andThen_ok]
  exact h
/-- a heap that is looked at: what the region that makes it keeps. -/
structure Lk (w : World) (P lo hi : Int) (s t : Option Value) (X : World) : Prop where
  sn : Since w X
  bg : Blk X w.heap.size 25 (gV P lo hi)
  nw : ∀ v, s = some v → ∃ g, v = .pointer (some ⟨g, 0, none⟩) ∧ Blk X g 97 (hpV P lo hi)
  eq : ∀ v, t = some v → s = some v
theorem Lk.keep {w : World} {P lo hi : Int} {s t : Option Value} {X Y : World} (h : Lk w P lo hi s t X) (hb : Below X.heap.size X Y) : Lk w P lo hi s t Y :=
  ⟨h.sn.keep hb, h.bg.keep hb, fun v hv => by obtain ⟨g, e1, e2⟩ := h.nw v hv; exact ⟨g, e1, e2.keep hb⟩, h.eq⟩
theorem Lk.box {w : World} {P lo hi : Int} {X : World} {s t : Option Value} (hs : s = none) (h : Lk w P lo hi s t X) : Lk w P lo hi (some (.pointer (some ⟨X.heap.size, 0, none⟩))) t (X.alloc (.cells (hpV P lo hi) 97)) :=
  ⟨h.sn.alloc _, h.bg.alloc _, fun v hv => ⟨_, (Option.some.inj hv).symm, Blk.new _ _ _⟩, fun v hv => by rw [hs] at h; cases h.eq v hv⟩
theorem Lk.put {w : World} {P lo hi : Int} {X : World} {v : Value} {t : Option Value} (h : Lk w P lo hi (some v) t X) : Lk w P lo hi (some v) (some v) X := ⟨h.sn, h.bg, h.nw, fun u hu => hu⟩
end Td
end Go.Proofs.Ytgkdidnmndmlhaa
/- A heap that is looked at. -/
namespace Go.Proofs.Ytgkdidnmndmlhaa
open Go.RowKit
namespace Td
set_option linter.unusedSimpArgs false
set_option linter.unusedVariables false
attribute [local go_sem] Oper.semAt_some
set_option maxRecDepth 100000 in
set_option maxHeartbeats 4000000 in
theorem look_c (P lo hi : Int) (w : World) :
    Calls Try.prog 53 #[.agg (gV P lo hi)] w fun e w' => Below w.heap.size w w' ∧ ((chkE P lo hi = 0 ∧ ∃ g, e = .returned (.tuple #[.pointer (some ⟨g, 0, none⟩), .int .i64 0]) ∧ Blk w' g 97 (hpV P lo hi)) ∨ (chkE P lo hi ≠ 0 ∧ e = .returned (.tuple #[.pointer none, .int .i64 (chkE P lo hi)]))) := by
  have hs0 := (Since.refl w).alloc (.cells (gV P lo hi) 25)
  have HG := Lib.hid (Blk.new w 25 (gV P lo hi))
  go_enter Try.func53, Try.ntmps53
  go_wp2_with fail
  refine (Check_c P lo hi _).mono ?_
  rintro e w1 ⟨rfl, hb1⟩
  have hs1 := hs0.keep hb1
  have HG1 := Lib.hid (HG.out.keep hb1)
  clear HG hb1
  by_cases hc : chkE P lo hi = 0
  · have HC := Lib.hid hc
    rw [hc]
    clear hc
    go_wp2_with fail
    refine Vals9.region (fun σ X => Lk w P lo hi (σ 3) (σ 4) X) [some 10, some 11, some 12, some 13, some 2, some 3] [.is (.agg (gV P lo hi)), .is (.agg (alF tri)), .is (.agg (hpV P lo hi)), .any, .any, .is ?_] (by kernel_rfl) (by kernel_rfl) (by kernel_rfl) (by kernel_rfl) (by kernel_rfl) (by kernel_rfl) (⟨hs1.drew, HG1.out.drew, (fun v hv => by cases hv), (fun v hv => by cases hv)⟩) ?hsteps ?hfin
    case hsteps =>
      refine Vals9.Steps.run rfl ?_ ?_
      · intro a W σ hJ pre K hK
        have e1 := pre.2.2 1 _ (by kernel_rfl) rfl
        clear pre
        simp only [Array.getD_eq_getD_getElem?, List.getElem?_toArray, List.getElem?_cons_zero, List.getElem?_cons_succ, Option.getD_some] at e1
        have hS9 := hJ
        obtain ⟨c0, c1, c2⟩ := hS9.bg.gcells
        go_simp
        exact hK _ hJ
      refine Vals9.Steps.run rfl ?_ ?_
      · intro a W σ hJ pre K hK
        clear pre
        go_simp
        refine (newRows_c _).mono ?_
        rintro e w' ⟨rfl, hb'⟩
        exact hK _ (hJ.keep hb')
      refine Vals9.Steps.run rfl ?_ ?_
      · intro a W σ hJ pre K hK
        have e10 := pre.1 0 10 _ (by kernel_rfl) rfl rfl
        have e11 := pre.1 1 11 _ (by kernel_rfl) rfl rfl
        clear pre
        simp only [Array.getD_eq_getD_getElem?, List.getElem?_toArray, List.getElem?_cons_zero, List.getElem?_cons_succ, Option.getD_some] at e10 e11
        refine wp_buildTo 97 _ rfl (hpV P lo hi) ?_ (hK _ hJ)
        show Try.prog.built 97 [(0, a.eval (.tmp 10)), (1, a.eval (.tmp 11))] = some (hpV P lo hi)
        rw [show a.eval (.tmp 10) = .agg (gV P lo hi) from by simpa [Act.eval] using e10, show a.eval (.tmp 11) = .agg (alF tri) from by simpa [Act.eval] using e11]
        exact built_hp P lo hi
      refine Vals9.Steps.mark rfl ?_ ?_
      · intro a W σ hJ hn pre K hK
        have e12 := pre.1 2 12 _ (by kernel_rfl) rfl rfl
        simp only [Array.getD_eq_getD_getElem?, List.getElem?_toArray, List.getElem?_cons_zero, List.getElem?_cons_succ, Option.getD_some] at e12
        refine wp_boxTo 97 _ rfl (hpV P lo hi) ?_ ?_
        · rw [show a.eval (.tmp 12) = .agg (hpV P lo hi) from by simpa [Act.eval] using e12]; rfl
        have hJ2 : Lk w P lo hi (σ 3) (σ 4) W := hJ
        rw [hn] at hJ2
        exact hK _ _ (Lk.box rfl hJ2)
      refine Vals9.Steps.mark rfl ?_ ?_
      · intro a W σ hJ hn pre K hK
        obtain ⟨v13, s13, e13⟩ := pre.2.1 3 (by kernel_rfl) rfl
        replace e13 : a.tmps.getD 13 undef = v13 := e13 13 rfl
        simp only [Array.getD_eq_getD_getElem?, List.getElem?_toArray, List.getElem?_cons_zero, List.getElem?_cons_succ, Option.getD_some] at e13
        have hJ2 : Lk w P lo hi (σ 3) (σ 4) W := hJ
        rw [s13] at hJ2
        go_simp
        have h2 := hJ2.put
        have h3 : Lk w P lo hi (σ 3) (some v13) W := by rw [s13]; exact h2
        exact hK _ _ h3
      refine Vals9.Steps.run rfl ?_ ?_
      · intro a W σ hJ pre K hK
        clear pre
        go_simp
        exact hK _ hJ
      exact Vals9.Steps.nil
    case hfin =>
    rintro X σ hL
    simp only [Vals9.All]
    intro v hv u hu
    have he := hL.eq u hu
    rw [hv] at he
    cases he
    obtain ⟨g, rfl, hg⟩ := hL.nw _ hv
    have hsn := hL.sn
    clear hL hv hu
    simp only [Vals.putAll, List.setIfInBounds_toArray, List.set_cons_zero, List.set_cons_succ]
    go_wp2_with fail
    go_ret2
    exact ⟨hsn.1, .inl ⟨HC.out, g, rfl, hg⟩⟩
  · have HC := Lib.hid hc
    have hc' : (chkE P lo hi != 0) = true := by simpa using hc
    clear hc
    go_wp2_with fail
    go_ret2
    exact ⟨hs1.1, .inr ⟨HC.out, rfl⟩⟩
set_option maxHeartbeats 2000000 in
theorem lookBy_c (P lo hi fi pa fa se to : Int) (w : World) :
    Calls Try.prog 61 #[.agg (gV P lo hi), .agg (lV fi pa fa se to)] w fun e w' => Below w.heap.size w w' ∧ ((chkP P lo hi fi pa fa se to = 0 ∧ ∃ g, e = .returned (.tuple #[.pointer (some ⟨g, 0, none⟩), .int .i64 0]) ∧ Blk w' g 97 (hpV P lo hi)) ∨ (chkP P lo hi fi pa fa se to ≠ 0 ∧ e = .returned (.tuple #[.pointer none, .int .i64 (chkP P lo hi fi pa fa se to)]))) := by
  have hs0 := ((Since.refl w).alloc (.cells (gV P lo hi) 25)).alloc (.cells (lV fi pa fa se to) 38)
  have HG := Lib.hid ((Blk.new w 25 (gV P lo hi)).alloc (.cells (lV fi pa fa se to) 38))
  have HL := Lib.hid (Blk.new1 w (.cells (gV P lo hi) 25) 38 (lV fi pa fa se to))
  obtain ⟨c0, c1, c2⟩ := HG.out.gcells
  obtain ⟨d0, d1, d2, d3, d4⟩ := HL.out.lcells
  go_enter Try.func61, Try.ntmps61
  go_wp2_with fail
  refine (CheckPlan_c P lo hi fi pa fa se to _).mono ?_
  rintro e w1 ⟨rfl, hb1⟩
  have hs1 := hs0.keep hb1
  have HG1 := Lib.hid (HG.out.keep hb1)
  clear HG HL hb1 c0 c1 c2 d0 d1 d2 d3 d4
  by_cases hc : chkP P lo hi fi pa fa se to = 0
  · have hc0 : chkE P lo hi = 0 := by
      unfold chkP at hc
      by_cases h : chkE P lo hi = 0
      · exact h
      · rw [if_neg h] at hc; exact absurd hc h
    have HC := Lib.hid hc
    have HC0 := Lib.hid hc0
    rw [hc]
    clear hc hc0
    obtain ⟨c0, c1, c2⟩ := HG1.out.gcells
    go_wp2_with fail
    refine (look_c P lo hi _).mono ?_
    rintro e w2 ⟨hb2, ⟨-, g, rfl, hg⟩ | ⟨h, -⟩⟩
    · have hs2 := hs1.keep hb2
      clear hb2 c0 c1 c2
      go_wp2_with fail
      go_ret2
      exact ⟨hs2.1, .inl ⟨HC.out, g, rfl, hg⟩⟩
    · exact absurd HC0.out h
  · have HC := Lib.hid hc
    have hc' : (chkP P lo hi fi pa fa se to != 0) = true := by simpa using hc
    clear hc
    go_wp2_with fail
    go_ret2
    exact ⟨hs1.1, .inr ⟨HC.out, rfl⟩⟩
end Td
end Go.Proofs.Ytgkdidnmndmlhaa
