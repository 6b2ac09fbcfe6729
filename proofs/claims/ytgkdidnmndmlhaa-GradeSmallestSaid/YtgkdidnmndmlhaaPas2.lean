import Derived.Test.YtgkdidnmndmlhaaPas
/- All rows of ways to choose: newRows; a heap that is looked at. -/
namespace Go.Proofs.Ytgkdidnmndmlhaa
open Go.RowKit
namespace Td
set_option linter.unusedSimpArgs false
set_option linter.unusedVariables false
attribute [local go_sem] Oper.semAt_some
/-- cells that are set one by one, in a row of cells. -/
def putL (cs : Array Value) : Nat → List Value → Array Value
  | _, [] => cs
  | o, v :: r => putL (cs.setIfInBounds o v) (o + 1) r
theorem putL_size : ∀ (vs : List Value) (o : Nat) (cs : Array Value), (putL cs o vs).size = cs.size
  | [], _, _ => rfl
  | v :: r, o, cs => by rw [putL, putL_size r, Array.size_setIfInBounds]
theorem putL_out : ∀ (vs : List Value) (o : Nat) (cs : Array Value) (i : Nat), (i < o ∨ o + vs.length ≤ i) → (putL cs o vs)[i]? = cs[i]?
  | [], _, _, _, _ => rfl
  | v :: r, o, cs, i, h => by
    rw [putL, putL_out r _ _ i (by simp at h; omega), Array.getElem?_setIfInBounds_ne (by simp at h; omega)]
theorem putL_in : ∀ (vs : List Value) (o : Nat) (cs : Array Value) (j : Nat) (v : Value), vs[j]? = some v → o + j < cs.size → (putL cs o vs)[o + j]? = some v
  | u :: r, o, cs, 0, v, h, hs => by
    obtain rfl : u = v := by simpa using h
    rw [putL, putL_out r _ _ _ (by omega)]
    simp at hs
    simp [hs]
  | u :: r, o, cs, j + 1, v, h, hs => by
    rw [putL, show o + (j + 1) = o + 1 + j by omega]
    exact putL_in r (o + 1) _ j v (by simpa using h) (by rw [Array.size_setIfInBounds]; omega)
theorem Blk.setCells : ∀ (vs : List Value) {w : World} {g : Nat} {t : TypeId} {cs : Array Value} (o : Nat), Blk w g t cs → Blk (w.setCells g o vs) g t (putL cs o vs)
  | [], _, _, _, _, _, h => h
  | v :: r, w, g, t, cs, o, h => by rw [World.setCells, putL]; exact Blk.setCells r (o + 1) (h.set o v)
theorem Blk.setCellsFar : ∀ (vs : List Value) {w : World} {g g' : Nat} {t : TypeId} {cs : Array Value} (o : Nat), g' ≠ g → Blk w g t cs → Blk (w.setCells g' o vs) g t cs
  | [], _, _, _, _, _, _, _, h => h
  | v :: r, w, g, g', t, cs, o, hn, h => by rw [World.setCells]; exact Blk.setCellsFar r (o + 1) hn (h.far hn o v)
theorem Since.setCells : ∀ (vs : List Value) {w W : World} {g : Nat} (o : Nat), w.heap.size ≤ g → Since w W → Since w (W.setCells g o vs)
  | [], _, _, _, _, _, h => h
  | v :: r, w, W, g, o, hg, h => by
    rw [World.setCells]
    exact Since.setCells r (o + 1) hg ⟨h.1.setCell (p := ⟨g, o, none⟩) hg v, by have := h.2; simpa using this⟩
theorem putL_rows (f r : Nat → Int) {k : Nat} (hk : k < 21) : putL (alF f) (k * 21) (rwF r).toList = alF (fun q => if k * 21 ≤ q ∧ q < k * 21 + 21 then r (q - k * 21) else f q) := by
  apply Array.ext_getElem?
  intro i
  by_cases h : i < 441
  · rw [alF_get _ h]
    by_cases hi : k * 21 ≤ i ∧ i < k * 21 + 21
    · rw [if_pos hi]
      obtain ⟨j, rfl⟩ := Nat.exists_eq_add_of_le hi.1
      refine (putL_in _ _ _ j (.int .i64 (r j)) ?_ (by rw [alF_size]; exact h)).trans ?_
      · rw [Array.getElem?_toList]; exact rwF_get r (by omega)
      · rw [show k * 21 + j - k * 21 = j by omega]
    · rw [if_neg hi, putL_out _ _ _ _ (by simp only [Array.length_toList, rwF_size]; omega), alF_get _ h]
  · rw [Array.getElem?_eq_none (by rw [putL_size, alF_size]; omega), Array.getElem?_eq_none (by rw [alF_size]; omega)]
/-- all ways to choose, row after row. -/
def tri : Nat → Int := fun q => (bn (q / 21) (q % 21) : Int)
/-- the rows up to n. -/
def triTo (n : Nat) : Nat → Int := fun q => if q < n * 21 then tri q else 0
theorem triTo_zero : triTo 0 = fun _ => 0 := by funext q; unfold triTo; rw [if_neg (by omega)]
theorem triTo_next {n : Nat} : alF (fun q => if n * 21 ≤ q ∧ q < n * 21 + 21 then pas n (q - n * 21) else triTo n q) = alF (triTo (n + 1)) := alF_congr fun q hq => by
  unfold triTo
  by_cases h : n * 21 ≤ q ∧ q < n * 21 + 21
  · rw [if_pos h, if_pos (by omega)]
    obtain ⟨j, rfl⟩ := Nat.exists_eq_add_of_le h.1
    unfold tri pas
    rw [show n * 21 + j - n * 21 = j by omega, show (n * 21 + j) / 21 = n by omega, show (n * 21 + j) % 21 = j by omega]
  · rw [if_neg h]
    by_cases h2 : q < n * 21
    · rw [if_pos h2, if_pos (by omega)]
    · rw [if_neg h2, if_neg (by omega)]
theorem triTo_last : alF (triTo 21) = alF tri := alF_congr fun q hq => by unfold triTo; rw [if_pos (by omega)]
theorem there_of {w : World} {g : Nat} {t : TypeId} {cs : Array Value} (h : Blk w g t cs) {o n : Nat} (ho : o + n ≤ cs.size) : w.there g o n := fun j hj => by
  rw [h.cell, h.frozen]
  rw [Array.getElem?_eq_getElem (by omega)]
  exact ⟨rfl, rfl⟩
set_option maxRecDepth 100000 in
set_option maxHeartbeats 4000000 in
theorem newRows_c (w : World) :
    Calls Try.prog 51 #[] w fun e w' => e = .returned (.agg (alF tri)) ∧ Below w.heap.size w w' := by
  have HZ : Hid (alF (fun _ => 0) = alF (triTo 0)) := by show _ = _; rw [triTo_zero]
  have HB1 := Lib.hid (Blk.new1 w (.cells (alF (fun _ => 0)) 85) 83 (rwF (fun _ => 0)))
  have HR1 := Lib.hid ((Blk.new w 85 (alF (fun _ => 0))).alloc (.cells (rwF (fun _ => 0)) 83))
  have hs1 := ((Since.refl w).alloc (.cells (alF (fun _ => 0)) 85)).alloc (.cells (rwF (fun _ => 0)) 83)
  have HB2 := Lib.hid (HB1.out.row (rwF (pas 0)))
  have HR2 := Lib.hid (HR1.out.rowFar (g' := w.heap.size + 1) (by omega) (rwF (pas 0)))
  have HS2 := Lib.hid (hs1.row (g := w.heap.size + 1) (by omega) (rwF (pas 0)))
  have hz1 : (w.alloc (.cells (alF (fun _ => 0)) 85)).heap.size = w.heap.size + 1 := by simp
  have hz2 : (((w.alloc (.cells (alF (fun _ => 0)) 85)).alloc (.cells (rwF (fun _ => 0)) 83)).setRow (w.heap.size + 1) (rwF (pas 0))).heap.size = w.heap.size + 1 + 1 := by simp [size_setRow]
  have HB3 := Lib.hid (HB2.out.alloc (.cells (alF (fun _ => 0)) 85))
  have HR3 := Lib.hid (HR2.out.alloc (.cells (alF (fun _ => 0)) 85))
  have HS3 := Lib.hid (HS2.out.alloc (.cells (alF (fun _ => 0)) 85))
  have HA3 : Hid (Blk ((((w.alloc (.cells (alF (fun _ => 0)) 85)).alloc (.cells (rwF (fun _ => 0)) 83)).setRow (w.heap.size + 1) (rwF (pas 0))).alloc (.cells (alF (fun _ => 0)) 85)) (w.heap.size + 1 + 1) 85 (alF (triTo 0))) := by
    show Blk _ _ _ _
    rw [← HZ.out]
    exact Blk.newS hz2
  clear hs1 HB2 HR2 HS2
  go_enter Try.func51, Try.ntmps51
  go_wp2_with (first
    | (refine wpList_allocZ rfl 85 rfl _ rfl _ (by first | exact hz2 | rfl) (alF (fun _ => 0)) (by kernel_rfl) ?_)
    | (refine wpList_allocZ rfl 83 rfl _ rfl _ (by first | exact hz1 | rfl) (rwF (fun _ => 0)) (by kernel_rfl) ?_)
    | (refine wpList_store_row rfl 83 _ _ rfl (w.heap.size + 1) (rwF (pas 0)) rfl (by kernel_rfl) 83 _ HB1.out (by kernel_rfl) rfl (rwF_one _) ?_))
  obtain ⟨w3, hw3⟩ : ∃ w3, ((((w.alloc (.cells (alF (fun _ => 0)) 85)).alloc (.cells (rwF (fun _ => 0)) 83)).setRow (w.heap.size + 1) (rwF (pas 0))).alloc (.cells (alF (fun _ => 0)) 85)) = w3 := ⟨_, rfl⟩
  rw [hw3] at HB3 HR3 HS3 HA3 ⊢
  clear hw3 HB1 HR1 hz1 hz2 HZ
  go_loopw [7] (fun i wr => ∃ n : Nat, n ≤ 21 ∧ i = .int .i64 n ∧ Hid (Blk wr (w.heap.size + 1) 83 (rwF (pas n))) ∧ Hid (Blk wr (w.heap.size + 1 + 1) 85 (alF (triTo n))) ∧ Hid (Blk wr w.heap.size 85 (alF (fun _ => 0))) ∧ Hid (Since w wr)) (fun i _ => 21 - (intOf i).toNat)
  case atStart => exact ⟨0, by omega, rfl, HB3, HA3, HR3, HS3⟩
  case round =>
    obtain ⟨n, hn, rfl, HB, HA, HR, HS⟩ := hrel
    by_cases hlt : n < 21
    · have t1 : (n : Int) < 21 := by omega
      go_upto_region 7 with fail
      refine wp_region_list ?_
      refine wpList_plain rfl (fun K hK => ?_)
      go_simp
      refine hK _ _ ?_
      clear hK K
      refine wpList_plain rfl (fun K hK => ?_)
      go_simp
      refine hK _ _ ?_
      clear hK K
      refine wpList_plain rfl (fun K hK => ?_)
      go_simp
      refine (newRows1_c n _ _ (by omega) HB.out).mono ?_
      rintro e w4 ⟨rfl, hb4, hd4⟩
      have HA4 := Lib.hid (HA.out.but hd4 (by omega))
      have HR4 := Lib.hid (HR.out.but hd4 (by omega))
      have HS4 : Hid (Since w w4) := ⟨But.below HS.out.1 hd4 (by omega) (by omega), Nat.le_trans HS.out.2 hd4.size⟩
      have HB4 := Lib.hid hb4
      clear hb4 hd4 HB HA HR HS
      refine hK _ _ ?_
      clear hK K
      refine wpList_plain rfl (fun K hK => ?_)
      go_simp
      refine hK _ _ ?_
      clear hK K
      have HTH : Hid (w4.there (w.heap.size + 1 + 1) (n * 21) (rwF (pas n)).size) := there_of HA4.out (by rw [alF_size, rwF_size]; omega)
      refine wpList_store_mid rfl 83 _ _ rfl (w.heap.size + 1 + 1) (n * 21) (rwF (pas n)) (by go_simp) (by go_simp) HTH.out (by kernel_rfl) (rwF_one _) ?_
      have HB5 := Lib.hid (Blk.setCellsFar (rwF (pas n)).toList (g' := w.heap.size + 1 + 1) (n * 21) (by omega) HB4.out)
      have HR5 := Lib.hid (Blk.setCellsFar (rwF (pas n)).toList (g' := w.heap.size + 1 + 1) (n * 21) (by omega) HR4.out)
      have HS5 := Lib.hid (Since.setCells (rwF (pas n)).toList (g := w.heap.size + 1 + 1) (n * 21) (by omega) HS4.out)
      have HA5 := Lib.hid (HA4.out.setCells (rwF (pas n)).toList (n * 21))
      rw [putL_rows _ _ hlt, triTo_next] at HA5
      obtain ⟨w5, hw5⟩ : ∃ w5, (w4.setCells (w.heap.size + 1 + 1) (n * 21) (rwF (pas n)).toList) = w5 := ⟨_, rfl⟩
      rw [hw5] at HB5 HR5 HS5 HA5 ⊢
      clear hw5 HB4 HA4 HR4 HS4 HTH
      dsimp only [Act.put]
      refine wpList_nil ?_
      go_wp2_with fail
      go_roundw
      case rel => exact ⟨n + 1, by omega, by go_num, HB5, HA5, HR5, HS5⟩
      case measure => simp [intOf]; omega
    · obtain rfl : n = 21 := by omega
      rw [triTo_last] at HA
      have HS2 := Lib.hid (HS.out.row (g := w.heap.size) (Nat.le_refl _) (alF tri))
      go_wp2_with (first | (refine wpList_load_row rfl 85 _ rfl (w.heap.size + 1 + 1) rfl 85 (alF tri) (0, 0) _ HA.out Try.underlying85 rfl (by kernel_rfl) ?_) | (refine wpList_store_row rfl 85 _ _ rfl w.heap.size _ rfl rfl 85 _ HR.out (by kernel_rfl) rfl (alF_one _) ?_))
      (refine bodyPost_ret (v := .agg _) ?_ rfl ⟨rfl, ?_⟩; exact (results_cell_row Try.results51 _ _ (w.heap.size) 85 _ (0, 0) _ rfl (HR.out.row _) Try.underlying85 rfl (by kernel_rfl)))
      exact HS2.out.1
end Td
end Go.Proofs.Ytgkdidnmndmlhaa
