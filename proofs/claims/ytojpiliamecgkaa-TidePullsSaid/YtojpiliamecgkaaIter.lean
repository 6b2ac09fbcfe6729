import Derived.Test.YtojpiliamecgkaaRf
namespace Go.Proofs.Ytojpiliamecgkaa
open Go.RowKit
namespace Td
set_option linter.unusedSimpArgs false
set_option linter.unusedVariables false
attribute [local go_sem] Oper.semAt_some
/-- the ends of the k-th corner as far as j numbers are known. -/
def part (x : Box) (k j : Nat) : Array Value :=
  #[.int .i64 (if 0 < j then (corner x k).1 else 0), .int .i64 (if 1 < j then (corner x k).2.1 else 0), .int .i64 (if 2 < j then (corner x k).2.2.1 else 0), .int .i64 (if 3 < j then (corner x k).2.2.2 else 0)]
abbrev encT (t : Int × Int × Int × Int) : Array Value := #[.agg (trV t.1 t.2.1 t.2.2.1 t.2.2.2)]
theorem Blk.box {w : World} {g : Nat} {t : TypeId} {x : Box} (h : Blk w g t (boxV x)) :
    w.cell? ⟨g, 0, none⟩ = some (.int .i64 x.slo) ∧ w.cell? ⟨g, 1, none⟩ = some (.int .i64 x.shi) ∧ w.cell? ⟨g, 2, none⟩ = some (.int .i64 x.dlo) ∧ w.cell? ⟨g, 3, none⟩ = some (.int .i64 x.dhi) ∧ w.cell? ⟨g, 4, none⟩ = some (.int .i64 x.hlo) ∧ w.cell? ⟨g, 5, none⟩ = some (.int .i64 x.hhi) ∧ w.cell? ⟨g, 6, none⟩ = some (.int .i64 x.wlo) ∧ w.cell? ⟨g, 7, none⟩ = some (.int .i64 x.whi) :=
  ⟨h.cell 0, h.cell 1, h.cell 2, h.cell 3, h.cell 4, h.cell 5, h.cell 6, h.cell 7⟩
/-- the first k of a row. -/
def upto {α : Type} (f : Nat → α) (k : Nat) : List α := (List.range k).map f
theorem upto_succ {α : Type} (f : Nat → α) (k : Nat) : upto f (k + 1) = upto f k ++ [f k] := by simp [upto, List.range_succ]
theorem upto_length {α : Type} (f : Nat → α) (k : Nat) : (upto f k).length = k := by simp [upto]
theorem bit0 : ∀ k : Nat, k < 16 → (bits BinOp.and IntKind.i64 (k : Int) 1 == 1) = k.testBit 0 := by decide +kernel
theorem bit1 : ∀ k : Nat, k < 16 → (bits BinOp.and IntKind.i64 ((k : Int) / 2) 1 == 1) = k.testBit 1 := by decide +kernel
theorem bit2 : ∀ k : Nat, k < 16 → (bits BinOp.and IntKind.i64 ((k : Int) / 4) 1 == 1) = k.testBit 2 := by decide +kernel
theorem bit3 : ∀ k : Nat, k < 16 → (bits BinOp.and IntKind.i64 ((k : Int) / 8) 1 == 1) = k.testBit 3 := by decide +kernel
set_option maxRecDepth 100000 in
set_option maxHeartbeats 4000000 in
theorem corners1_in {α : Type} (enc : α → Int × Int × Int × Int) (cf : Nat → α) (F : Fence) (n : Nat) (hf : F.fn 83) (hro : F.round = none) (hn : 1 ≤ n) (gx n₀ l : Nat) (x : Box) (hcf : ∀ k, enc (cf k) = corner x k) (hgx : gx < n₀) (J Jx : List α → World → Prop) (W : World) (hn0 : n₀ ≤ W.heap.size)
    (hx : Blk W gx 99 (boxV x)) (hJ : AllFrom W.heap.size J)
    (hY : ∀ pre t W1, J pre W1 → pre.length < 16 → YieldAt F (n - 1) Try.prog l (encT (enc t)) W1 fun e W' =>
      (e = .returned (.bool true) ∧ J (pre ++ [t]) W' ∧ Below n₀ W1 W') ∨ (e = .returned (.bool false) ∧ Jx (pre ++ [t]) W'))
    (h0 : J [] W) :
    CallsIn F n Try.prog 83 #[.func (.yield l) #[] #[], .pointer (some ⟨gx, 0, none⟩)] W fun e W' => (∃ v, e = .returned v) ∧ ((∃ xs, xs = upto cf 16 ∧ J xs W') ∨ (∃ pre, (∃ k, k ≤ 16 ∧ pre = upto cf k) ∧ Jx pre W')) := by
  have i0 : ∀ w, (Instr.index 99 (.agg (boxV x)) (.int .i64 0)).run Try.prog w = .ok (.agg #[.int .i64 x.slo, .int .i64 x.shi]) w := fun _ => by kernel_rfl
  have i1 : ∀ w, (Instr.index 99 (.agg (boxV x)) (.int .i64 1)).run Try.prog w = .ok (.agg #[.int .i64 x.dlo, .int .i64 x.dhi]) w := fun _ => by kernel_rfl
  have i2 : ∀ w, (Instr.index 99 (.agg (boxV x)) (.int .i64 2)).run Try.prog w = .ok (.agg #[.int .i64 x.hlo, .int .i64 x.hhi]) w := fun _ => by kernel_rfl
  have i3 : ∀ w, (Instr.index 99 (.agg (boxV x)) (.int .i64 3)).run Try.prog w = .ok (.agg #[.int .i64 x.wlo, .int .i64 x.whi]) w := fun _ => by kernel_rfl
  refine callsIn_of_wp Try.func83 rfl hf ?_ hro
  simp only [Try.ntmps83, List.size_toArray, List.length_cons, List.length_nil, Nat.reduceAdd, Nat.reduceSub, Array.replicate_succ, Array.replicate_zero, List.push_toArray, List.append_toArray, List.nil_append, List.cons_append]
  gi_wp2
  gi_loopw [7] (fun i wr => ∃ k : Nat, k ≤ 16 ∧ i = .int .i64 k ∧ J (upto cf k) wr ∧ Below n₀ W wr ∧ W.heap.size ≤ wr.heap.size) (fun i _ => 16 - (intOf i).toNat)
  case atStart => exact ⟨0, by omega, rfl, h0, Below.refl _ _, Nat.le_refl _⟩
  case round =>
    obtain ⟨k, hk, rfl, hJk, hB, hz⟩ := hrel
    by_cases hlt : k < 16
    · obtain ⟨c0, c1, c2, c3, c4, c5, c6, c7⟩ := ((show Blk wr gx 99 (boxV x) from (hB.block gx hgx).trans hx).alloc (.cells #[.int .i64 0, .int .i64 0, .int .i64 0, .int .i64 0] 133)).box
      gi_wp2
      obtain ⟨wo, hwo⟩ : ∃ wo : World, wo = wr := ⟨_, rfl⟩
      rw [← hwo] at hJk hB hz c0 c1 c2 c3 c4 c5 c6 c7 ⊢
      clear hwo
      clear c0 c1 c2 c3 c4 c5 c6 c7
      gi_loopw [11] (fun i wq => ∃ j : Nat, j ≤ 4 ∧ i = .int .i64 j ∧ Hid (Blk wq wo.heap.size 133 (part x k j)) ∧ J (upto cf k) wq ∧ Below n₀ W wq ∧ wo.heap.size < wq.heap.size) (fun i _ => 4 - (intOf i).toNat)
      case atStart => exact ⟨0, by omega, rfl, Blk.new _ _ _, hJ.alloc _ hJk, hB.alloc (by omega) _, by simp⟩
      case round =>
        obtain ⟨j, hj, rfl, HP, hJq, hBq, hzq⟩ := hrel
        rcases (by omega : j = 0 ∨ j = 1 ∨ j = 2 ∨ j = 3 ∨ j = 4) with rfl | rfl | rfl | rfl | rfl
        · have p0 := HP.out.cell 0
          have f0 := HP.out.frozen 0
          simp only [part, List.getElem?_toArray, List.getElem?_cons_zero, List.getElem?_cons_succ] at p0
          have hbk := bit0 k hlt
          rcases Bool.eq_false_or_eq_true (k.testBit 0) with hb | hb
          · rw [hb] at hbk
            have HP2 : Hid (Blk (((wr.setCell ⟨wo.heap.size, 0, none⟩ (.int .i64 x.slo)).setCell ⟨wo.heap.size, 0, none⟩ (.int .i64 x.shi)).alloc (.cells #[.int .i64 x.slo, .int .i64 x.shi] 23)) wo.heap.size 133 (part x k 1)) := by
              have h := ((HP.out.set 0 (.int .i64 x.slo)).set 0 (.int .i64 x.shi)).alloc (.cells #[.int .i64 x.slo, .int .i64 x.shi] 23)
              rw [show ((part x k 0).setIfInBounds 0 (.int .i64 x.slo)).setIfInBounds 0 (.int .i64 x.shi) = part x k 1 from by simp [part, corner, hb]] at h
              exact h
            clear hb
            gi_wp2
            go_roundw
            case rel => exact ⟨1, by omega, rfl, HP2, hJ.alloc _ (hJ.setCell _ _ _ (hJ.setCell _ _ _ hJq (by omega)) (by omega)), ((hBq.setCell (p := ⟨wo.heap.size, 0, none⟩) (by simp; omega) _).setCell (p := ⟨wo.heap.size, 0, none⟩) (by simp; omega) _).alloc (by simp; omega) _, by simp; omega⟩
            case measure => simp [intOf]
          · rw [hb] at hbk
            have HP2 : Hid (Blk ((wr.setCell ⟨wo.heap.size, 0, none⟩ (.int .i64 x.slo)).alloc (.cells #[.int .i64 x.slo, .int .i64 x.shi] 23)) wo.heap.size 133 (part x k 1)) := by
              have h := (HP.out.set 0 (.int .i64 x.slo)).alloc (.cells #[.int .i64 x.slo, .int .i64 x.shi] 23)
              rw [show (part x k 0).setIfInBounds 0 (.int .i64 x.slo) = part x k 1 from by simp [part, corner, hb]] at h
              exact h
            clear hb
            gi_wp2
            go_roundw
            case rel => exact ⟨1, by omega, rfl, HP2, hJ.alloc _ (hJ.setCell _ _ _ hJq (by omega)), (hBq.setCell (p := ⟨wo.heap.size, 0, none⟩) (by simp; omega) _).alloc (by simp; omega) _, by simp; omega⟩
            case measure => simp [intOf]
        · have p0 := HP.out.cell 1
          have f0 := HP.out.frozen 1
          simp only [part, List.getElem?_toArray, List.getElem?_cons_zero, List.getElem?_cons_succ] at p0
          have hbk := bit1 k hlt
          rcases Bool.eq_false_or_eq_true (k.testBit 1) with hb | hb
          · rw [hb] at hbk
            have HP2 : Hid (Blk (((wr.setCell ⟨wo.heap.size, 1, none⟩ (.int .i64 x.dlo)).setCell ⟨wo.heap.size, 1, none⟩ (.int .i64 x.dhi)).alloc (.cells #[.int .i64 x.dlo, .int .i64 x.dhi] 23)) wo.heap.size 133 (part x k 2)) := by
              have h := ((HP.out.set 1 (.int .i64 x.dlo)).set 1 (.int .i64 x.dhi)).alloc (.cells #[.int .i64 x.dlo, .int .i64 x.dhi] 23)
              rw [show ((part x k 1).setIfInBounds 1 (.int .i64 x.dlo)).setIfInBounds 1 (.int .i64 x.dhi) = part x k 2 from by simp [part, corner, hb]] at h
              exact h
            clear hb
            gi_wp2
            go_roundw
            case rel => exact ⟨2, by omega, rfl, HP2, hJ.alloc _ (hJ.setCell _ _ _ (hJ.setCell _ _ _ hJq (by omega)) (by omega)), ((hBq.setCell (p := ⟨wo.heap.size, 1, none⟩) (by simp; omega) _).setCell (p := ⟨wo.heap.size, 1, none⟩) (by simp; omega) _).alloc (by simp; omega) _, by simp; omega⟩
            case measure => simp [intOf]
          · rw [hb] at hbk
            have HP2 : Hid (Blk ((wr.setCell ⟨wo.heap.size, 1, none⟩ (.int .i64 x.dlo)).alloc (.cells #[.int .i64 x.dlo, .int .i64 x.dhi] 23)) wo.heap.size 133 (part x k 2)) := by
              have h := (HP.out.set 1 (.int .i64 x.dlo)).alloc (.cells #[.int .i64 x.dlo, .int .i64 x.dhi] 23)
              rw [show (part x k 1).setIfInBounds 1 (.int .i64 x.dlo) = part x k 2 from by simp [part, corner, hb]] at h
              exact h
            clear hb
            gi_wp2
            go_roundw
            case rel => exact ⟨2, by omega, rfl, HP2, hJ.alloc _ (hJ.setCell _ _ _ hJq (by omega)), (hBq.setCell (p := ⟨wo.heap.size, 1, none⟩) (by simp; omega) _).alloc (by simp; omega) _, by simp; omega⟩
            case measure => simp [intOf]
        · have p0 := HP.out.cell 2
          have f0 := HP.out.frozen 2
          simp only [part, List.getElem?_toArray, List.getElem?_cons_zero, List.getElem?_cons_succ] at p0
          have hbk := bit2 k hlt
          rcases Bool.eq_false_or_eq_true (k.testBit 2) with hb | hb
          · rw [hb] at hbk
            have HP2 : Hid (Blk (((wr.setCell ⟨wo.heap.size, 2, none⟩ (.int .i64 x.hlo)).setCell ⟨wo.heap.size, 2, none⟩ (.int .i64 x.hhi)).alloc (.cells #[.int .i64 x.hlo, .int .i64 x.hhi] 23)) wo.heap.size 133 (part x k 3)) := by
              have h := ((HP.out.set 2 (.int .i64 x.hlo)).set 2 (.int .i64 x.hhi)).alloc (.cells #[.int .i64 x.hlo, .int .i64 x.hhi] 23)
              rw [show ((part x k 2).setIfInBounds 2 (.int .i64 x.hlo)).setIfInBounds 2 (.int .i64 x.hhi) = part x k 3 from by simp [part, corner, hb]] at h
              exact h
            clear hb
            gi_wp2
            go_roundw
            case rel => exact ⟨3, by omega, rfl, HP2, hJ.alloc _ (hJ.setCell _ _ _ (hJ.setCell _ _ _ hJq (by omega)) (by omega)), ((hBq.setCell (p := ⟨wo.heap.size, 2, none⟩) (by simp; omega) _).setCell (p := ⟨wo.heap.size, 2, none⟩) (by simp; omega) _).alloc (by simp; omega) _, by simp; omega⟩
            case measure => simp [intOf]
          · rw [hb] at hbk
            have HP2 : Hid (Blk ((wr.setCell ⟨wo.heap.size, 2, none⟩ (.int .i64 x.hlo)).alloc (.cells #[.int .i64 x.hlo, .int .i64 x.hhi] 23)) wo.heap.size 133 (part x k 3)) := by
              have h := (HP.out.set 2 (.int .i64 x.hlo)).alloc (.cells #[.int .i64 x.hlo, .int .i64 x.hhi] 23)
              rw [show (part x k 2).setIfInBounds 2 (.int .i64 x.hlo) = part x k 3 from by simp [part, corner, hb]] at h
              exact h
            clear hb
            gi_wp2
            go_roundw
            case rel => exact ⟨3, by omega, rfl, HP2, hJ.alloc _ (hJ.setCell _ _ _ hJq (by omega)), (hBq.setCell (p := ⟨wo.heap.size, 2, none⟩) (by simp; omega) _).alloc (by simp; omega) _, by simp; omega⟩
            case measure => simp [intOf]
        · have p0 := HP.out.cell 3
          have f0 := HP.out.frozen 3
          simp only [part, List.getElem?_toArray, List.getElem?_cons_zero, List.getElem?_cons_succ] at p0
          have hbk := bit3 k hlt
          rcases Bool.eq_false_or_eq_true (k.testBit 3) with hb | hb
          · rw [hb] at hbk
            have HP2 : Hid (Blk (((wr.setCell ⟨wo.heap.size, 3, none⟩ (.int .i64 x.wlo)).setCell ⟨wo.heap.size, 3, none⟩ (.int .i64 x.whi)).alloc (.cells #[.int .i64 x.wlo, .int .i64 x.whi] 23)) wo.heap.size 133 (part x k 4)) := by
              have h := ((HP.out.set 3 (.int .i64 x.wlo)).set 3 (.int .i64 x.whi)).alloc (.cells #[.int .i64 x.wlo, .int .i64 x.whi] 23)
              rw [show ((part x k 3).setIfInBounds 3 (.int .i64 x.wlo)).setIfInBounds 3 (.int .i64 x.whi) = part x k 4 from by simp [part, corner, hb]] at h
              exact h
            clear hb
            gi_wp2
            go_roundw
            case rel => exact ⟨4, by omega, rfl, HP2, hJ.alloc _ (hJ.setCell _ _ _ (hJ.setCell _ _ _ hJq (by omega)) (by omega)), ((hBq.setCell (p := ⟨wo.heap.size, 3, none⟩) (by simp; omega) _).setCell (p := ⟨wo.heap.size, 3, none⟩) (by simp; omega) _).alloc (by simp; omega) _, by simp; omega⟩
            case measure => simp [intOf]
          · rw [hb] at hbk
            have HP2 : Hid (Blk ((wr.setCell ⟨wo.heap.size, 3, none⟩ (.int .i64 x.wlo)).alloc (.cells #[.int .i64 x.wlo, .int .i64 x.whi] 23)) wo.heap.size 133 (part x k 4)) := by
              have h := (HP.out.set 3 (.int .i64 x.wlo)).alloc (.cells #[.int .i64 x.wlo, .int .i64 x.whi] 23)
              rw [show (part x k 3).setIfInBounds 3 (.int .i64 x.wlo) = part x k 4 from by simp [part, corner, hb]] at h
              exact h
            clear hb
            gi_wp2
            go_roundw
            case rel => exact ⟨4, by omega, rfl, HP2, hJ.alloc _ (hJ.setCell _ _ _ hJq (by omega)), (hBq.setCell (p := ⟨wo.heap.size, 3, none⟩) (by simp; omega) _).alloc (by simp; omega) _, by simp; omega⟩
            case measure => simp [intOf]
        · obtain ⟨q0, q1, q2, q3⟩ : wr.cell? ⟨wo.heap.size, 0, none⟩ = some (.int .i64 (corner x k).1) ∧ wr.cell? ⟨wo.heap.size, 1, none⟩ = some (.int .i64 (corner x k).2.1) ∧ wr.cell? ⟨wo.heap.size, 2, none⟩ = some (.int .i64 (corner x k).2.2.1) ∧ wr.cell? ⟨wo.heap.size, 3, none⟩ = some (.int .i64 (corner x k).2.2.2) :=
            ⟨HP.out.cell 0, HP.out.cell 1, HP.out.cell 2, HP.out.cell 3⟩
          obtain ⟨fn, tmps, assign, body, hy, hR⟩ := hY _ (cf k) wr hJq (by rw [upto_length]; exact hlt)
          rw [hcf k] at hy
          try dsimp only [encT, trV] at hy
          gi_wp2
          refine hR.mono ?_
          rintro e W3 (⟨rfl, hJ3, hk3⟩ | ⟨rfl, hJx3⟩)
          · gi_wp2
            go_roundw
            case rel => exact ⟨k + 1, by omega, by go_num, by rw [upto_succ]; exact hJ3, hBq.trans hk3, by have := hk3.size; omega⟩
            case measure => simp [intOf]; omega
          · gi_wp2
            refine bodyPost_ret (results_none rfl _ _ _) rfl ?_
            exact ⟨⟨_, rfl⟩, .inr ⟨_, ⟨k + 1, by omega, (upto_succ _ _).symm⟩, hJx3⟩⟩
    · obtain rfl : k = 16 := by omega
      gi_wp2
      go_end0
      exact ⟨⟨_, rfl⟩, .inl ⟨_, rfl, hJk⟩⟩
end Td
end Go.Proofs.Ytojpiliamecgkaa
