import Derived.Test.YtccacinnelmnpaaApp
import Derived.Test.YtccacinnelmnpaaPlainF
import Derived.Deep.LoopGhost
import Derived.OwnWalk
/- The fewest readings. -/
namespace Go.Proofs.Ytccacinnelmnpaa
open Go.RowKit
namespace Td
set_option linter.unusedSimpArgs false
set_option linter.unusedVariables false
attribute [local go_sem] Oper.semAt_some
theorem made61 : (#[.int .i64 0, .int .i64 0, .int .i64 0, .int .i64 0, .int .i64 0, .int .i64 0, .int .i64 0, .int .i64 0, .int .i64 0, .int .i64 0, .int .i64 0, .int .i64 0, .int .i64 0, .int .i64 0, .int .i64 0, .int .i64 0, .int .i64 0, .int .i64 0, .int .i64 0, .int .i64 0, .int .i64 0, .int .i64 0, .int .i64 0, .int .i64 0, .int .i64 0, .int .i64 0, .int .i64 0, .int .i64 0, .int .i64 0, .int .i64 0, .int .i64 0, .int .i64 0, .int .i64 0, .int .i64 0, .int .i64 0, .int .i64 0, .int .i64 0, .int .i64 0, .int .i64 0, .int .i64 0, .int .i64 0, .int .i64 0, .int .i64 0, .int .i64 0, .int .i64 0, .int .i64 0, .int .i64 0, .int .i64 0, .int .i64 0, .int .i64 0, .int .i64 0, .int .i64 0, .int .i64 0, .int .i64 0, .int .i64 0, .int .i64 0, .int .i64 0, .int .i64 0, .int .i64 0, .int .i64 0, .int .i64 0] : Array Value) = rowF (fun _ => 0) 61 := rfl
/-- slices in a row. -/
def rowV (f : Nat → Value) (n : Nat) : Array Value := ((List.range n).map f).toArray
theorem rowV_get (f : Nat → Value) {n k : Nat} (h : k < n) : (rowV f n)[k]? = some (f k) := by simp [rowV, h]
theorem rowV_set (f : Nat → Value) (n k : Nat) (v : Value) : (rowV f n).setIfInBounds k v = rowV (fun i => if i = k then v else f i) n := by
  apply Array.ext'
  simp only [rowV, List.setIfInBounds_toArray]
  apply List.ext_getElem?
  intro i
  rw [List.getElem?_set]
  by_cases h : k = i
  · subst h
    by_cases hk : k < n <;> simp [hk]
  · by_cases hi : i < n
    · simp [hi, h, show ¬ i = k from fun e => h e.symm]
    · simp [hi, h]
theorem Lv.set {W : World} {p : Addr} {a : Option Addr} {b c : Nat} {u : Value} {v : Value} {l : List Int} (h : Lv W v l) (hp : W.cell? p = some (.slice a b c)) : Lv (W.setCell p u) v l := by
  obtain ⟨A, d, h1, h2⟩ := h
  refine ⟨A, d, h1, fun hx => ?_⟩
  obtain ⟨q, hq, hc⟩ := h2 hx
  refine ⟨q, hq, fun i z hz => ?_⟩
  have h3 := hc i z hz
  rw [World.cell?_setCell_other]
  · exact h3
  · intro e
    rw [← e, hp] at h3
    cases h3
theorem madeS61 : (#[.slice none 0 0, .slice none 0 0, .slice none 0 0, .slice none 0 0, .slice none 0 0, .slice none 0 0, .slice none 0 0, .slice none 0 0, .slice none 0 0, .slice none 0 0, .slice none 0 0, .slice none 0 0, .slice none 0 0, .slice none 0 0, .slice none 0 0, .slice none 0 0, .slice none 0 0, .slice none 0 0, .slice none 0 0, .slice none 0 0, .slice none 0 0, .slice none 0 0, .slice none 0 0, .slice none 0 0, .slice none 0 0, .slice none 0 0, .slice none 0 0, .slice none 0 0, .slice none 0 0, .slice none 0 0, .slice none 0 0, .slice none 0 0, .slice none 0 0, .slice none 0 0, .slice none 0 0, .slice none 0 0, .slice none 0 0, .slice none 0 0, .slice none 0 0, .slice none 0 0, .slice none 0 0, .slice none 0 0, .slice none 0 0, .slice none 0 0, .slice none 0 0, .slice none 0 0, .slice none 0 0, .slice none 0 0, .slice none 0 0, .slice none 0 0, .slice none 0 0, .slice none 0 0, .slice none 0 0, .slice none 0 0, .slice none 0 0, .slice none 0 0, .slice none 0 0, .slice none 0 0, .slice none 0 0, .slice none 0 0, .slice none 0 0] : Array Value) = rowV (fun _ => .slice none 0 0) 61 := rfl
theorem run_slice61 (g e u : Nat) (h1 : e ≤ u) (h2 : u < 60) (W : World) : (Instr.sliceAt 138 (.pointer (some ⟨g, 0, none⟩)) (some (.int .i64 ((e : Int) + 1))) (some (.int .i64 ((u : Int) + 2))) none).run Try.prog W = .ok (.slice (some ⟨g, e + 1, none⟩) (u + 1 - e) (61 - (e + 1))) W := by
  have hA : Try.prog.arrayLen 138 = 61 := by kernel_rfl
  have hEl : Try.prog.elem 138 = 38 := by kernel_rfl
  have hI : (Try.prog.info? 38).map (fun i => i.size) = some 1 := by kernel_rfl
  have hS : (sizeOf (Try.prog.elem 138)).run Try.prog W = .ok 1 W := by
    rw [hEl]
    obtain ⟨i, h1, h2⟩ := Option.map_eq_some_iff.1 hI
    simp [sizeOf, typeInfo, h1, h2]
  rw [run_sliceAt_array_lh (P := Try.prog) W 138 ⟨g, 0, none⟩ (by rw [hA, hEl]; exact Try.underlying138) .i64 .i64 ((e : Int) + 1) ((u : Int) + 2) (by omega) (by omega) (by rw [hA]; omega), hS, hA]
  have e1 : ((e : Int) + 1).toNat = e + 1 := by omega
  have e2 : ((u : Int) + 2).toNat = u + 2 := by omega
  have e3 : u + 2 - (e + 1) = u + 1 - e := by omega
  simp [Result.andThen, slicedAt, e1, e2, e3, add_new, show ¬ 61 = e + 1 by omega]
/-- what is known of the minutes so far. -/
def uK (U : Int → Int) (fr k i : Nat) : Int := if fr ≤ i ∧ i < fr + k then U i else 0
theorem uK_set (U : Int → Int) (fr k : Nat) : (fun i => if i = fr + k then U ((fr : Int) + (k : Int)) else uK U fr k i) = uK U fr (k + 1) := by
  funext i
  unfold uK
  by_cases h : i = fr + k
  · subst h
    rw [if_pos rfl, if_pos (by omega)]
    push_cast
    rfl
  · rw [if_neg h]
    by_cases h2 : fr ≤ i ∧ i < fr + k
    · rw [if_pos h2, if_pos (by omega)]
    · rw [if_neg h2, if_neg (by omega)]
set_option maxRecDepth 100000 in
set_option maxHeartbeats 4000000 in
theorem fewest_c (s : Spc) (m : Sl) (r : Rd) (to : Nat) (w : World) (hs : SOk s) (hsa : SAt w m s) (hr : ROk s r) (hto : to ≤ 60) (hrt : r.min ≤ to) (hh : r.min ≤ hol s r) :
    Calls Try.prog 64 #[.agg (wV s m none), .agg (rV r), .int .i64 (to : Int)] w fun e w' => (∃ v, e = .returned v ∧ Lv w' v (few s r to)) ∧ Below w.heap.size w w' := by
  obtain ⟨rmin, tool, shown⟩ := r
  have hm0 := hr.m0
  dsimp only at hm0 hrt hh
  obtain ⟨fr, rfl⟩ : ∃ fr : Nat, rmin = fr := ⟨rmin.toNat, by omega⟩
  have hft : fr ≤ to := by omega
  obtain ⟨U, hU⟩ : ∃ U : Int → Int, (fun m => hol s ⟨m, tool, shown⟩) = U := ⟨_, rfl⟩
  have hFew : few s ⟨(fr : Int), tool, shown⟩ (to : Int) = tab U fr to (to + 1 - fr) fr := by
    rw [← hU]; rfl
  have hUown : ∀ m : Int, 0 ≤ m → m ≤ 60 → m ≤ U m ∧ U m ≤ 60 := fun m h0 h1 => by
    rw [← hU]
    exact ⟨hol_own (r := ⟨(fr : Int), tool, shown⟩) (by omega) (by show (fr : Int) ≤ 60; omega) hh h0 h1, (hol_in (r := ⟨m, tool, shown⟩) h0 h1).2.1⟩
  have hUm : ∀ m : Int, hol s ⟨m, tool, shown⟩ = U m := fun m => by rw [← hU]
  rw [hFew]
  have HUO := Lib.hid hUown
  have HUM := Lib.hid hUm
  have hrok : ∀ x : Nat, x ≤ 60 → ROk s ⟨(x : Int), tool, shown⟩ := fun x hx => ⟨hr.t0, hr.t1, by show (0 : Int) ≤ x; omega, by show (x : Int) ≤ 60; omega, hr.h0, hr.h1⟩
  have HRO := Lib.hid hrok
  clear hU hFew hUown hUm hrok hr hh hm0 hrt
  have hsn0 := ((Since.refl w).alloc (.cells (wV s m none) 93)).alloc (.cells (rV ⟨(fr : Int), tool, shown⟩) 61)
  obtain ⟨W3, hW3⟩ : ∃ W3, ((w.alloc (.cells (wV s m none) 93)).alloc (.cells (rV ⟨(fr : Int), tool, shown⟩) 61)).alloc (.cells #[.int .i64 0, .int .i64 0, .int .i64 0, .int .i64 0, .int .i64 0, .int .i64 0, .int .i64 0, .int .i64 0, .int .i64 0, .int .i64 0, .int .i64 0, .int .i64 0, .int .i64 0, .int .i64 0, .int .i64 0, .int .i64 0, .int .i64 0, .int .i64 0, .int .i64 0, .int .i64 0, .int .i64 0, .int .i64 0, .int .i64 0, .int .i64 0, .int .i64 0, .int .i64 0, .int .i64 0, .int .i64 0, .int .i64 0, .int .i64 0, .int .i64 0, .int .i64 0, .int .i64 0, .int .i64 0, .int .i64 0, .int .i64 0, .int .i64 0, .int .i64 0, .int .i64 0, .int .i64 0, .int .i64 0, .int .i64 0, .int .i64 0, .int .i64 0, .int .i64 0, .int .i64 0, .int .i64 0, .int .i64 0, .int .i64 0, .int .i64 0, .int .i64 0, .int .i64 0, .int .i64 0, .int .i64 0, .int .i64 0, .int .i64 0, .int .i64 0, .int .i64 0, .int .i64 0, .int .i64 0, .int .i64 0] 137) = W3 := ⟨_, rfl⟩
  have hsn3 : Since w W3 := by rw [← hW3]; exact hsn0.alloc _
  have HS3 : Hid (Blk W3 w.heap.size 93 (wV s m none)) := by rw [← hW3]; exact ((Blk.new w _ _).alloc _).alloc _
  have HR3 : Hid (∃ x : Nat, Blk W3 (w.heap.size + 1) 61 (rV ⟨(x : Int), tool, shown⟩)) := ⟨fr, by rw [← hW3]; exact (Blk.new1 w _ _ _).alloc _⟩
  have HU3 : Hid (Blk W3 (w.heap.size + 1 + 1) 137 (rowF (uK U fr 0) 61)) := by
    rw [rowF_congr (g := fun _ => 0) (fun i _ => by unfold uK; rw [if_neg (by omega)]), ← made61, ← hW3]
    exact Blk.new2 w _ _ _ _
  have HW3 := Lib.hid hW3
  clear hW3
  go_enter Try.func64, Try.ntmps64
  go_wp2
  go_step3
  go_wp2_with fail
  rw [HW3.out]
  clear HW3
  go_loopw [9] (fun i wr => ∃ k : Nat, i = .int .i64 ((fr : Int) + (k : Int)) ∧ fr + k ≤ to + 1 ∧ Since w wr ∧ Hid (Blk wr w.heap.size 93 (wV s m none)) ∧ Hid (∃ x : Nat, Blk wr (w.heap.size + 1) 61 (rV ⟨(x : Int), tool, shown⟩)) ∧ Hid (Blk wr (w.heap.size + 1 + 1) 137 (rowF (uK U fr k) 61))) (fun i _ => to + 1 - (intOf i).toNat)
  case atStart => exact ⟨0, by simp, by omega, hsn3, HS3, HR3, HU3⟩
  case round =>
    obtain ⟨k, rfl, hk, hsn, HS, HR, HU⟩ := hrel
    by_cases hkt : fr + k ≤ to
    · have hkt' : (fr : Int) + (k : Int) ≤ (to : Int) := by omega
      obtain ⟨x, hx⟩ := HR.out
      have e0 := hx.cell 0
      have e1 := hx.cell 1
      have e2 := hx.cell 2
      have f0 := hx.frozen 0
      simp only [List.getElem?_toArray, List.getElem?_cons_zero, List.getElem?_cons_succ] at e0 e1 e2
      obtain ⟨d0, d1, d2, d3, d4, d5, d6, d7, d8, d9⟩ := HS.out.watch
      have hsn1 : Since w (wr.setCell ⟨w.heap.size + 1, 0, none⟩ (.int .i64 ((fr : Int) + (k : Int)))) := ⟨hsn.1.setCell (p := ⟨w.heap.size + 1, 0, none⟩) (by simp) _, by simpa using hsn.2⟩
      have HS1 := Lib.hid (HS.out.far (g' := w.heap.size + 1) (by omega) 0 (.int .i64 ((fr : Int) + (k : Int))))
      have HR1 := hx.set 0 (.int .i64 ((fr : Int) + (k : Int)))
      have HU1 := Lib.hid (HU.out.far (g' := w.heap.size + 1) (by omega) 0 (.int .i64 ((fr : Int) + (k : Int))))
      simp only [List.setIfInBounds_toArray, List.set_cons_zero] at HR1
      have HR2 := Lib.hid HR1
      have hH := holds_c s m ⟨((fr + k : Nat) : Int), tool, shown⟩ _ hs (hsa.keep hsn1.1) (HRO.out (fr + k) (by omega))
      push_cast at hH
      rw [HUM.out] at hH
      dsimp only [rV] at hH
      clear HR1
      go_wp2_with fail
      refine hH.mono ?_
      clear hH e0 e1 e2 f0 d0 d1 d2 d3 d4 d5 d6 d7 d8 d9
      rintro e w2 ⟨rfl, hb⟩
      have hsn2 := hsn1.keep hb
      have HS4 := Lib.hid (HS1.out.keep hb)
      have HR4 := Lib.hid (HR2.out.keep hb)
      have HU4 := Lib.hid (HU1.out.keep hb)
      obtain ⟨q, hq⟩ : ∃ q : Nat, fr + k = q := ⟨_, rfl⟩
      have hq2 : (fr : Int) + (k : Int) = (q : Int) := by omega
      rw [hq2]
      have u0 := HU4.out.cell q
      rw [rowF_get _ (show q < 61 by omega)] at u0
      have f0 := HU4.out.frozen q
      have hq61 : (q : Int) < 61 := by omega
      go_wp2_with fail
      go_roundw
      case rel =>
        refine ⟨k + 1, by rw [← hq2]; first | (push_cast; done) | (push_cast; congr 1), by omega, ⟨hsn2.1.setCell (p := ⟨w.heap.size + 1 + 1, q, none⟩) (by simp; omega) _, by simpa using hsn2.2⟩, Lib.hid (HS4.out.far (by omega) _ _), ⟨fr + k, ?_⟩, ?_⟩
        · have := HR4.out.far (g' := w.heap.size + 1 + 1) (by omega) q (.int .i64 (U (q : Int)))
          push_cast
          exact this
        · have := HU4.out.set q (.int .i64 (U (q : Int)))
          rw [rowF_set, ← hq, show ((fr + k : Nat) : Int) = (fr : Int) + (k : Int) by push_cast; rfl, uK_set] at this
          rw [← hq]
          push_cast
          exact this
      case measure => simp [intOf]; omega
    · have hkt' : ¬ (fr : Int) + (k : Int) ≤ (to : Int) := by omega
      obtain rfl : k = to + 1 - fr := by omega
      have hsn5 := hsn.alloc (.cells #[.slice none 0 0, .slice none 0 0, .slice none 0 0, .slice none 0 0, .slice none 0 0, .slice none 0 0, .slice none 0 0, .slice none 0 0, .slice none 0 0, .slice none 0 0, .slice none 0 0, .slice none 0 0, .slice none 0 0, .slice none 0 0, .slice none 0 0, .slice none 0 0, .slice none 0 0, .slice none 0 0, .slice none 0 0, .slice none 0 0, .slice none 0 0, .slice none 0 0, .slice none 0 0, .slice none 0 0, .slice none 0 0, .slice none 0 0, .slice none 0 0, .slice none 0 0, .slice none 0 0, .slice none 0 0, .slice none 0 0, .slice none 0 0, .slice none 0 0, .slice none 0 0, .slice none 0 0, .slice none 0 0, .slice none 0 0, .slice none 0 0, .slice none 0 0, .slice none 0 0, .slice none 0 0, .slice none 0 0, .slice none 0 0, .slice none 0 0, .slice none 0 0, .slice none 0 0, .slice none 0 0, .slice none 0 0, .slice none 0 0, .slice none 0 0, .slice none 0 0, .slice none 0 0, .slice none 0 0, .slice none 0 0, .slice none 0 0, .slice none 0 0, .slice none 0 0, .slice none 0 0, .slice none 0 0, .slice none 0 0, .slice none 0 0] 138)
      have HU5 := Lib.hid (HU.out.alloc (.cells #[.slice none 0 0, .slice none 0 0, .slice none 0 0, .slice none 0 0, .slice none 0 0, .slice none 0 0, .slice none 0 0, .slice none 0 0, .slice none 0 0, .slice none 0 0, .slice none 0 0, .slice none 0 0, .slice none 0 0, .slice none 0 0, .slice none 0 0, .slice none 0 0, .slice none 0 0, .slice none 0 0, .slice none 0 0, .slice none 0 0, .slice none 0 0, .slice none 0 0, .slice none 0 0, .slice none 0 0, .slice none 0 0, .slice none 0 0, .slice none 0 0, .slice none 0 0, .slice none 0 0, .slice none 0 0, .slice none 0 0, .slice none 0 0, .slice none 0 0, .slice none 0 0, .slice none 0 0, .slice none 0 0, .slice none 0 0, .slice none 0 0, .slice none 0 0, .slice none 0 0, .slice none 0 0, .slice none 0 0, .slice none 0 0, .slice none 0 0, .slice none 0 0, .slice none 0 0, .slice none 0 0, .slice none 0 0, .slice none 0 0, .slice none 0 0, .slice none 0 0, .slice none 0 0, .slice none 0 0, .slice none 0 0, .slice none 0 0, .slice none 0 0, .slice none 0 0, .slice none 0 0, .slice none 0 0, .slice none 0 0, .slice none 0 0] 138))
      have HL5 : Hid (Blk (wr.alloc (.cells #[.slice none 0 0, .slice none 0 0, .slice none 0 0, .slice none 0 0, .slice none 0 0, .slice none 0 0, .slice none 0 0, .slice none 0 0, .slice none 0 0, .slice none 0 0, .slice none 0 0, .slice none 0 0, .slice none 0 0, .slice none 0 0, .slice none 0 0, .slice none 0 0, .slice none 0 0, .slice none 0 0, .slice none 0 0, .slice none 0 0, .slice none 0 0, .slice none 0 0, .slice none 0 0, .slice none 0 0, .slice none 0 0, .slice none 0 0, .slice none 0 0, .slice none 0 0, .slice none 0 0, .slice none 0 0, .slice none 0 0, .slice none 0 0, .slice none 0 0, .slice none 0 0, .slice none 0 0, .slice none 0 0, .slice none 0 0, .slice none 0 0, .slice none 0 0, .slice none 0 0, .slice none 0 0, .slice none 0 0, .slice none 0 0, .slice none 0 0, .slice none 0 0, .slice none 0 0, .slice none 0 0, .slice none 0 0, .slice none 0 0, .slice none 0 0, .slice none 0 0, .slice none 0 0, .slice none 0 0, .slice none 0 0, .slice none 0 0, .slice none 0 0, .slice none 0 0, .slice none 0 0, .slice none 0 0, .slice none 0 0, .slice none 0 0] 138)) wr.heap.size 138 (rowV (fun _ => .slice none 0 0) 61)) := by
        rw [← madeS61]; exact Blk.new _ _ _
      obtain ⟨W5, hW5⟩ : ∃ W5, wr.alloc (.cells #[.slice none 0 0, .slice none 0 0, .slice none 0 0, .slice none 0 0, .slice none 0 0, .slice none 0 0, .slice none 0 0, .slice none 0 0, .slice none 0 0, .slice none 0 0, .slice none 0 0, .slice none 0 0, .slice none 0 0, .slice none 0 0, .slice none 0 0, .slice none 0 0, .slice none 0 0, .slice none 0 0, .slice none 0 0, .slice none 0 0, .slice none 0 0, .slice none 0 0, .slice none 0 0, .slice none 0 0, .slice none 0 0, .slice none 0 0, .slice none 0 0, .slice none 0 0, .slice none 0 0, .slice none 0 0, .slice none 0 0, .slice none 0 0, .slice none 0 0, .slice none 0 0, .slice none 0 0, .slice none 0 0, .slice none 0 0, .slice none 0 0, .slice none 0 0, .slice none 0 0, .slice none 0 0, .slice none 0 0, .slice none 0 0, .slice none 0 0, .slice none 0 0, .slice none 0 0, .slice none 0 0, .slice none 0 0, .slice none 0 0, .slice none 0 0, .slice none 0 0, .slice none 0 0, .slice none 0 0, .slice none 0 0, .slice none 0 0, .slice none 0 0, .slice none 0 0, .slice none 0 0, .slice none 0 0, .slice none 0 0, .slice none 0 0] 138) = W5 := ⟨_, rfl⟩
      rw [hW5] at hsn5 HU5 HL5
      have HW5 := Lib.hid hW5
      have hz5 : W5.heap.size = wr.heap.size + 1 := by rw [← hW5]; simp
      have hzU := HU.out.lt
      clear hW5 HS HR HU
      go_wp2
      go_step3
      go_wp2_with fail
      rw [HW5.out]
      clear HW5
      obtain ⟨gL, hgL⟩ : ∃ gL, wr.heap.size = gL := ⟨_, rfl⟩
      rw [hgL] at HL5 hz5 hzU ⊢
      clear hgL hkt hkt' hk hsn
      go_loopg [11, 12, 13] (to + 1 - fr) (fun g s11 s12 s13 wx => ∃ (d : Nat) (vals : Nat → Value), d + g = to + 1 - fr ∧ s11 = .int .i64 ((to : Int) - (d : Int)) ∧ Since w wx ∧ Hid (Blk wx (w.heap.size + 1 + 1) 137 (rowF (uK U fr (to + 1 - fr)) 61)) ∧ Hid (Blk wx gL 138 (rowV vals 61)) ∧ Hid (∀ i, i < 61 → Lv wx (vals i) (tab U fr to d i)))
      case atStart => exact ⟨0, fun _ => .slice none 0 0, by omega, by simp, hsn5, HU5, HL5, fun i _ => Lv.nil _⟩
      case round =>
        obtain ⟨d, vals, hd, rfl, hsn, HU, HL, HV⟩ := hrel
        cases gk with
        | zero =>
          have hno : ¬ (fr : Int) ≤ (to : Int) - (d : Int) := by omega
          have l0 := HL.out.cell fr
          rw [rowV_get _ (show fr < 61 by omega)] at l0
          have hf61 : (fr : Int) < 61 := by omega
          have hf0 : ¬ (fr : Int) < 0 := by omega
          obtain ⟨vA, vc, hv1, hv2⟩ := HV.out fr (by omega)
          have HV1 := Lib.hid hv1
          have HV2 := Lib.hid hv2
          rw [hv1] at l0
          clear hv1 hv2
          go_wp2_with fail
          try rw [Exit.noGoto_ret]
          go_ret
          obtain rfl : d = to + 1 - fr := by omega
          exact ⟨⟨_, rfl, vA, vc, rfl, HV2.out⟩, hsn.1⟩
        | succ g =>
          obtain ⟨q, hq⟩ : ∃ q : Nat, q = to - d := ⟨_, rfl⟩
          have hq2 : (to : Int) - (d : Int) = (q : Int) := by omega
          rw [hq2]
          have hqf : fr ≤ q := by omega
          have hqf' : (fr : Int) ≤ (q : Int) := by omega
          have HQ := Lib.hid hq
          have HQ2 := Lib.hid hq2
          have HD := Lib.hid hd
          clear hq hq2 hd
          go_wp2_with fail
          clear hqf'
          have hq60 : q ≤ 60 := by have := HQ.out; omega
          have hqU := HUO.out q (by omega) (by omega)
          have hzL := HL.out.lt
          go_loopg [12] (q - fr) (fun g2 s12 wy => ∃ j : Nat, j + g2 = q - fr ∧ s12 = .int .i64 ((fr : Int) + (j : Int)) ∧ Aside (∀ e : Nat, e < fr + j → fr ≤ e → U e < U q) ∧ Since wr wy)
          case atStart => exact ⟨0, by omega, by simp, fun e h1 h2 => absurd h1 (by omega), Since.refl _⟩
          case round =>
            obtain ⟨j, hj, rfl, HJ, hsy⟩ := hrel
            have HU7 := Lib.hid (HU.out.keep hsy.1)
            have HL7 := Lib.hid (HL.out.keep hsy.1)
            have hsn7 := hsn.keep hsy.1
            have HV7 : Hid (∀ i, i < 61 → Lv wr (vals i) (tab U fr to d i)) := fun i hi => (HV.out i hi).keep hsy.1
            clear HU HL HV
            obtain ⟨e, he⟩ : ∃ e : Nat, e = fr + j := ⟨_, rfl⟩
            have he2 : (fr : Int) + (j : Int) = (e : Int) := by omega
            rw [he2]
            have HE := Lib.hid he
            have hd := HD.out
            have hq := HQ.out
            cases gk with
            | zero =>
              obtain rfl : e = q := by omega
              have hno : ¬ (e : Int) < (e : Int) := by omega
              have hnone : ∀ e' : Nat, e' < e → fr ≤ e' → U e' < U e := fun e' h1 h2 => HJ.out e' (by omega) h2
              have HT := Lib.hid (tab_take (U := U) (fr := fr) (to := to) (d := d) (m := e) hq hnone)
              have u0 := HU7.out.cell e
              rw [rowF_get _ (show e < 61 by omega), show uK U fr (to + 1 - fr) e = U e from if_pos ⟨hqf, by omega⟩] at u0
              have he61 : (e : Int) < 61 := by omega
              obtain ⟨u, hu⟩ : ∃ u : Nat, U (e : Int) = (u : Int) := ⟨(U e).toNat, by omega⟩
              rw [hu] at u0 HT hqU
              have huq : e ≤ u := by omega
              have hu60 : u ≤ 60 := by omega
              have HJJ := Lib.hid hj
              have HE2 := Lib.hid he2
              clear HJ hnone he he2 hq hd hj
              have l0 := HL7.out.cell e
              rw [rowV_get _ (show e < 61 by omega)] at l0
              have f0 := HL7.out.frozen e
              by_cases hut : u < to
              · have hut' : (u : Int) < (to : Int) := by omega
                rw [if_pos (by omega)] at HT
                have hw1 : IntKind.i64.wrap ((e : Int) + 1) = (e : Int) + 1 := IntWalk.i64_in _ (by omega)
                have hw2 : IntKind.i64.wrap ((u : Int) + 2) = (u : Int) + 2 := IntWalk.i64_in _ (by omega)
                have hsl := run_slice61 gL e u huq (by omega)
                have hSh := shortest_c gL (e + 1) (u + 1 - e) (60 - e) (fun i => vals (e + 1 + i)) (fun i => tab U fr to d (e + 1 + i)) wr (by omega) (fun i hi => by
                  rw [HL7.out.cell (e + 1 + i), rowV_get vals (show e + 1 + i < 61 by omega)]) (fun i hi => HV7.out _ (by omega))
                have hlen : (shortest ((List.range (u + 1 - e)).map fun i => tab U fr to d (e + 1 + i))).length ≤ 1000 := shortest_len fun x hx => by
                  obtain ⟨i, _, rfl⟩ := List.mem_map.1 hx
                  exact Nat.le_trans tab_len (by have := HD.out; omega)
                rw [show ((u : Int).toNat + 1 - e) = u + 1 - e by omega] at HT
                obtain ⟨sh, hsh⟩ : ∃ sh, shortest ((List.range (u + 1 - e)).map fun i => tab U fr to d (e + 1 + i)) = sh := ⟨_, rfl⟩
                rw [hsh] at HT hSh hlen
                have HLE := Lib.hid hlen
                clear hsh hlen
                go_wp2_with fail
                refine hSh.mono ?_
                clear hSh hsl hw1 hw2
                rintro e9 w9 ⟨⟨v9, rfl, hv9⟩, rfl⟩
                have HV9 := Lib.hid (hv9.keep ((Below.refl _ _).alloc (Nat.le_refl _) (.cells #[.int .i64 (e : Int)] 3)))
                clear hv9
                go_wp2_with (at_builtin; refine wpList_append_ints rfl (.tmp 63) (.tmp 64) rfl wr.heap.size wr.heap.size v9 (e : Int) sh (by go_simp) (by go_simp) (Blk.new wr _ _) HV9.out HLE.out (Nat.le_refl _) ?_)
                intro v8 w8 hlv8 hgr8
                have hlv9 := hlv8
                have hzU7 := HU7.out.lt
                have hzL7 := HL7.out.lt
                obtain ⟨a8, c8, rfl, _⟩ := hlv9
                have HL8 := Lib.hid ((HL7.out.alloc (.cells #[.int .i64 (e : Int)] 3)).grown hgr8 (fun h => by have := Option.some.inj h; omega))
                have HU8 := Lib.hid ((HU7.out.alloc (.cells #[.int .i64 (e : Int)] 3)).grown hgr8 (fun h => by have := Option.some.inj h; omega))
                have hsn8 : Since w w8 := ⟨(hsn7.1.alloc hsn7.2 _).grown hgr8 (by have := hsn7.2; simp; omega) (fun k h => by cases h; exact hsn7.2), by have := hgr8.size; have := hsn7.2; simp at *; omega⟩
                have HV8 : Hid (∀ i, i < 61 → Lv w8 (vals i) (tab U fr to d i)) := fun i hi => by
                  obtain ⟨A, c, h1, h2⟩ := HV7.out i hi
                  refine ⟨A, c, h1, fun hx => ?_⟩
                  obtain ⟨q, hq, hc⟩ := h2 hx
                  refine ⟨q, hq, fun i z hz => ?_⟩
                  have h3 := hc i z hz
                  have h4 := cell_lt h3
                  have h5 : (wr.alloc (.cells #[.int .i64 (e : Int)] 3)).cell? (q.add i) = some (.int .i64 z) := ((Below.refl _ wr).alloc (Nat.le_refl _) _).cell h4 |>.trans h3
                  have h6 := hgr8.block (q.add i).block (by simp; omega) (fun h => by have := Option.some.inj h; omega)
                  rw [← h5]
                  unfold World.cell?
                  rw [h6]
                have l8 := HL8.out.cell e
                rw [rowV_get vals (show e < 61 by omega)] at l8
                have f8 := HL8.out.frozen e
                obtain ⟨eA, ec, hve, _⟩ := HV8.out e (by omega)
                rw [hve] at l8
                have HLV8 := Lib.hid hlv8
                have L8 := l8
                have HL8' := Lib.hid L8
                clear hlv8 hve L8 hgr8
                go_wp2_with fail
                go_roundg g
                case measure => omega
                case rel =>
                  refine ⟨d + 1, fun i => if i = e then .slice a8 (sh.length + 1) c8 else vals i, by have := HD.out; omega, ?_, ⟨hsn8.1.setCell (p := ⟨gL, e, none⟩) (by simp; omega) _, by simpa using hsn8.2⟩, Lib.hid (HU8.out.far (by omega) _ _), ?_, fun i hi => ?_⟩
                  · have := HQ2.out; push_cast; congr 1; omega
                  · have := HL8.out.set e (.slice a8 (sh.length + 1) c8)
                    rw [rowV_set] at this
                    exact this
                  · by_cases hie : i = e
                    · subst hie
                      simp only [if_pos rfl]
                      rw [HT]
                      exact HLV8.out.set HL8'.out
                    · simp only [if_neg hie]
                      rw [tab_other (by rw [← HQ.out]; exact hie)]
                      exact (HV8.out i hi).set HL8'.out
              · have hut' : ¬ (u : Int) < (to : Int) := by omega
                rw [if_neg (by omega)] at HT
                go_wp2_with (at_builtin; refine wpList_append_ints rfl (.tmp 63) (.tmp 64) rfl wr.heap.size wr.heap.size (.slice none 0 0) (e : Int) [] (by go_simp) (by go_simp) (Blk.new wr _ _) (Lv.nil _) (by simp) (Nat.le_refl _) ?_)
                intro v8 w8 hlv8 hgr8
                have hlv9 := hlv8
                have hzU7 := HU7.out.lt
                have hzL7 := HL7.out.lt
                obtain ⟨a8, c8, rfl, _⟩ := hlv9
                have HL8 := Lib.hid ((HL7.out.alloc (.cells #[.int .i64 (e : Int)] 3)).grown hgr8 (fun h => by have := Option.some.inj h; omega))
                have HU8 := Lib.hid ((HU7.out.alloc (.cells #[.int .i64 (e : Int)] 3)).grown hgr8 (fun h => by have := Option.some.inj h; omega))
                have hsn8 : Since w w8 := ⟨(hsn7.1.alloc hsn7.2 _).grown hgr8 (by have := hsn7.2; simp; omega) (fun k h => by cases h; exact hsn7.2), by have := hgr8.size; have := hsn7.2; simp at *; omega⟩
                have HV8 : Hid (∀ i, i < 61 → Lv w8 (vals i) (tab U fr to d i)) := fun i hi => by
                  obtain ⟨A, c, h1, h2⟩ := HV7.out i hi
                  refine ⟨A, c, h1, fun hx => ?_⟩
                  obtain ⟨q, hq, hc⟩ := h2 hx
                  refine ⟨q, hq, fun i z hz => ?_⟩
                  have h3 := hc i z hz
                  have h4 := cell_lt h3
                  have h5 : (wr.alloc (.cells #[.int .i64 (e : Int)] 3)).cell? (q.add i) = some (.int .i64 z) := ((Below.refl _ wr).alloc (Nat.le_refl _) _).cell h4 |>.trans h3
                  have h6 := hgr8.block (q.add i).block (by simp; omega) (fun h => by have := Option.some.inj h; omega)
                  rw [← h5]
                  unfold World.cell?
                  rw [h6]
                have l8 := HL8.out.cell e
                rw [rowV_get vals (show e < 61 by omega)] at l8
                have f8 := HL8.out.frozen e
                obtain ⟨eA, ec, hve, _⟩ := HV8.out e (by omega)
                rw [hve] at l8
                have HLV8 := Lib.hid hlv8
                have L8 := l8
                have HL8' := Lib.hid L8
                clear hlv8 hve L8 hgr8
                go_wp2_with fail
                go_roundg g
                case measure => omega
                case rel =>
                  refine ⟨d + 1, fun i => if i = e then .slice a8 1 c8 else vals i, by have := HD.out; omega, ?_, ⟨hsn8.1.setCell (p := ⟨gL, e, none⟩) (by simp; omega) _, by simpa using hsn8.2⟩, Lib.hid (HU8.out.far (by omega) _ _), ?_, fun i hi => ?_⟩
                  · have := HQ2.out; push_cast; congr 1; omega
                  · have := HL8.out.set e (.slice a8 1 c8)
                    rw [rowV_set] at this
                    exact this
                  · by_cases hie : i = e
                    · subst hie
                      simp only [if_pos rfl]
                      rw [HT]
                      exact HLV8.out.set HL8'.out
                    · simp only [if_neg hie]
                      rw [tab_other (by rw [← HQ.out]; exact hie)]
                      exact (HV8.out i hi).set HL8'.out
            | succ g2 =>
              have hej : (e : Int) < (q : Int) := by omega
              have hU1 : uK U fr (to + 1 - fr) e = U e := if_pos (by omega)
              have hU2 : uK U fr (to + 1 - fr) q = U q := if_pos (by omega)
              have HJJ := Lib.hid hj
              have HE2 := Lib.hid he2
              have hq60 : q ≤ 60 := by omega
              clear he he2 hq hd hj
              go_wp2_with fail
              refine Vals6.regionAll (fun X => Blk X (w.heap.size + 1 + 1) 137 (rowF (uK U fr (to + 1 - fr)) 61) ∧ Since wr X) [some 41, some 42, some 43, some 44, some 45, some 46] [.is (.int .i64 (e : Int)), .is (.pointer (some ⟨w.heap.size + 1 + 1, e, none⟩)), .is (.int .i64 (U (e : Int))), .is (.int .i64 (q : Int)), .is (.pointer (some ⟨w.heap.size + 1 + 1, q, none⟩)), .is (.int .i64 (U (q : Int)))] (by kernel_rfl) rfl rfl (by kernel_rfl) (by kernel_rfl) (by kernel_rfl) (by kernel_rfl) (by kernel_rfl) (by kernel_rfl) (by kernel_rfl) (⟨HU7.out.drew, (Since.refl wr).drew⟩) ?_ ?_
              · refine Vals5.Steps.run (by kernel_rfl) (Vals5.Stable.is _) ?_ ?_
                · intro a W hS pre old K hK
                  have e12 : a.tmps.getD 12 undef = .int .i64 (e : Int) := old 12 _ (by kernel_rfl) rfl
                  clear pre old
                  simp only [Array.getD_eq_getD_getElem?] at e12
                  go_simp
                  exact hK _ _ hS (Below.refl _ _) rfl
                refine Vals5.Steps.run (by kernel_rfl) (Vals5.Stable.is _) ?_ ?_
                · intro a W hS pre old K hK
                  have e8 : a.tmps.getD 8 undef = .pointer (some ⟨w.heap.size + 1 + 1, 0, none⟩) := old 8 _ (by kernel_rfl) rfl
                  have e41 : a.tmps.getD 41 undef = .int .i64 (e : Int) := pre 0 41 _ (by kernel_rfl) rfl rfl
                  clear pre old
                  simp only [Array.getD_eq_getD_getElem?] at e8 e41
                  have h61 : (e : Int) < 61 := by omega
                  go_simp
                  first | exact hK _ _ hS (Below.refl _ _) rfl | (rw [add_new]; exact hK _ _ hS (Below.refl _ _) rfl)
                refine Vals5.Steps.run (by kernel_rfl) (Vals5.Stable.is _) ?_ ?_
                · intro a W hS pre old K hK
                  have e42 : a.tmps.getD 42 undef = .pointer (some ⟨w.heap.size + 1 + 1, e, none⟩) := pre 1 42 _ (by kernel_rfl) rfl rfl
                  clear pre old
                  simp only [Array.getD_eq_getD_getElem?] at e42
                  have hS9 := hS
                  have u1 := hS9.1.cell e
                  have u2 := hS9.1.cell q
                  rw [rowF_get _ (show e < 61 by omega), hU1] at u1
                  rw [rowF_get _ (show q < 61 by omega), hU2] at u2
                  go_simp
                  exact hK _ _ hS (Below.refl _ _) rfl
                refine Vals5.Steps.run (by kernel_rfl) (Vals5.Stable.is _) ?_ ?_
                · intro a W hS pre old K hK
                  have e11 : a.tmps.getD 11 undef = .int .i64 (q : Int) := old 11 _ (by kernel_rfl) rfl
                  clear pre old
                  simp only [Array.getD_eq_getD_getElem?] at e11
                  go_simp
                  exact hK _ _ hS (Below.refl _ _) rfl
                refine Vals5.Steps.run (by kernel_rfl) (Vals5.Stable.is _) ?_ ?_
                · intro a W hS pre old K hK
                  have e8 : a.tmps.getD 8 undef = .pointer (some ⟨w.heap.size + 1 + 1, 0, none⟩) := old 8 _ (by kernel_rfl) rfl
                  have e44 : a.tmps.getD 44 undef = .int .i64 (q : Int) := pre 3 44 _ (by kernel_rfl) rfl rfl
                  clear pre old
                  simp only [Array.getD_eq_getD_getElem?] at e8 e44
                  have h61 : (q : Int) < 61 := by omega
                  go_simp
                  first | exact hK _ _ hS (Below.refl _ _) rfl | (rw [add_new]; exact hK _ _ hS (Below.refl _ _) rfl)
                refine Vals5.Steps.run (by kernel_rfl) (Vals5.Stable.is _) ?_ ?_
                · intro a W hS pre old K hK
                  have e45 : a.tmps.getD 45 undef = .pointer (some ⟨w.heap.size + 1 + 1, q, none⟩) := pre 4 45 _ (by kernel_rfl) rfl rfl
                  clear pre old
                  simp only [Array.getD_eq_getD_getElem?] at e45
                  have hS9 := hS
                  have u1 := hS9.1.cell e
                  have u2 := hS9.1.cell q
                  rw [rowF_get _ (show e < 61 by omega), hU1] at u1
                  rw [rowF_get _ (show q < 61 by omega), hU2] at u2
                  go_simp
                  exact hK _ _ hS (Below.refl _ _) rfl
                exact Vals5.Steps.nil
              rintro X ⟨hb1, hs1⟩
              simp only [Vals5.All, List.getLast_cons_cons, List.getLast_singleton]
              simp only [Vals.putAll, List.setIfInBounds_toArray, List.set_cons_zero, List.set_cons_succ]
              intro K hK
              go_simp
              refine hK _ _ ?_
              clear hK K
              have hsy9 : Since wr X := hs1
              have HB1 := Lib.hid hb1
              by_cases hge : U (q : Int) ≤ U (e : Int)
              · have HT := Lib.hid (tab_skip (U := U) (fr := fr) (to := to) (d := d) (m := q) (e := e) HQ.out (by omega) (by have := HE.out; omega) hge)
                go_wp2_with fail
                go_roundg g
                case measure => omega
                case rel =>
                  refine ⟨d + 1, vals, by have := HD.out; omega, ?_, hsn7.keep hs1.1, HB1, Lib.hid (HL7.out.keep hs1.1), fun i hi => ?_⟩
                  · have := HQ2.out; push_cast; congr 1; omega
                  · by_cases hie : i = q
                    · subst hie
                      rw [HT.out]
                      have := (HV7.out i hi).keep hs1.1
                      rwa [tab_low (by have := HQ.out; have := HD.out; omega)] at this
                    · rw [tab_other (by rw [← HQ.out]; exact hie)]
                      exact (HV7.out i hi).keep hs1.1
              · have hge' : ¬ U (q : Int) ≤ U (e : Int) := hge
                go_wp2_with fail
                go_roundg g2
                case measure => omega
                case rel =>
                  refine ⟨j + 1, by have := HJJ.out; omega, by have := HE2.out; push_cast; congr 1; omega, fun e' h1 h2 => ?_, hsy.keep hs1.1⟩
                  by_cases hee : e' = e
                  · subst hee; omega
                  · exact HJ.out e' (by have := HE.out; omega) h2
end Td
end Go.Proofs.Ytccacinnelmnpaa
