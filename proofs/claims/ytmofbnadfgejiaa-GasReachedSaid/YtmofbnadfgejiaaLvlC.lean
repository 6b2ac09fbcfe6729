import Derived.Test.YtmofbnadfgejiaaLvlB
/- The reference: the levels at a minute, their ends, and what is asked of them. -/
namespace Go.Proofs.Ytmofbnadfgejiaa
open Go.RowKit
namespace Td
set_option linter.unusedSimpArgs false
set_option linter.unusedVariables false
attribute [local go_sem] Oper.semAt_some
/-- a row of Booleans lies behind a slice. -/
def BAt (W : World) (v : Value) (o : Option (Int × Int)) : Prop := ∃ g, v = .slice (some ⟨g, 0, none⟩) 201 201 ∧ Blk W g 4 (rB (fun i => inB o (i : Int)) 201)
theorem BAt.keep {W W' : World} {v : Value} {o : Option (Int × Int)} (h : BAt W v o) (hb : Below W.heap.size W W') : BAt W' v o := by
  obtain ⟨g, h1, h2⟩ := h
  exact ⟨g, h1, h2.keep hb⟩
theorem lv_step0 (s : Spc) (l : List Rd) (o : Option (Int × Int)) (k : Nat) : agr s (atM l ((k : Int) + 1)) ((lv s l 0 o k).bind fun x => aft x (chg s (k : Int))) = lv s l 0 o (k + 1) := by
  rw [lv, show (0 : Int) + ((k + 1 : Nat) : Int) = (k : Int) + 1 by omega, show (0 : Int) + (k : Int) = (k : Int) by omega]
set_option maxRecDepth 100000 in
set_option maxHeartbeats 8000000 in
theorem at_c (s : Spc) (m : Sl) (A : Option Addr) (l : List Rd) (c mi : Nat) (w : World) (hs : SOk s) (hsa : SAt w m s) (hrd : RdAt w A l) (hro : ∀ r ∈ l, ROk s r) (h12 : l.length ≤ 12) (hm : mi ≤ 60) :
    Calls Try.prog 81 #[.agg (sV s m), .slice A l.length c, .int .i64 (mi : Int)] w fun e w' => (∃ v, e = .returned v ∧ BAt w' v (lv s l 0 (btw s.s0 s.s1) mi)) ∧ Below w.heap.size w w' := by
  have hS0 := Sp.start w s m
  obtain ⟨c0, c1, c2, c3, c4, c5, c6, c7, c8⟩ := hS0.bk.space
  go_enter Try.func81, Try.ntmps81
  go_wp2_with fail
  refine (rstart_c s m A l c _ hs (hsa.keep hS0.sn.1) (hrd.keep hS0.sn.1) hro h12).mono ?_
  rintro e w1 ⟨⟨g0, rfl, hB1⟩, hb1⟩
  have hS1 := hS0.keep hb1
  clear c0 c1 c2 c3 c4 c5 c6 c7 c8 hS0 hb1
  go_wp2_with fail
  go_loopw [7, 8] (fun ov t wr => ∃ k : Nat, ∃ g : Nat, k ≤ mi ∧ t = .int .i64 k ∧ ov = .slice (some ⟨g, 0, none⟩) 201 201 ∧ Sp w s m wr ∧ Hid (Blk wr g 4 (rB (fun i => inB (lv s l 0 (btw s.s0 s.s1) k) (i : Int)) 201))) (fun _ t _ => mi - (intOf t).toNat)
  case atStart => exact ⟨0, g0, Nat.zero_le _, rfl, rfl, hS1, hB1⟩
  case round =>
    obtain ⟨k, g, hk, rfl, rfl, hS, HB⟩ := hrel
    by_cases hlt : k < mi
    · have hki : (k : Int) < (mi : Int) := by omega
      obtain ⟨c0, c1, c2, c3, c4, c5, c6, c7, c8⟩ := hS.bk.space
      have hN := next_c s m A l c (lv s l 0 (btw s.s0 s.s1) k) g (k : Int) wr hs (hsa.keep hS.sn.1) (hrd.keep hS.sn.1) hro h12 (vd_lv (vd_start hs) k) (by omega) (by omega) HB.out
      rw [lv_step0] at hN
      go_wp2_with fail
      refine hN.mono ?_
      rintro e w2 ⟨⟨g2, rfl, hB2⟩, hb2⟩
      have hS2 := hS.keep hb2
      clear c0 c1 c2 c3 c4 c5 c6 c7 c8 hN
      go_wp2_with fail
      go_roundw
      case rel => exact ⟨k + 1, g2, by omega, by go_num, rfl, hS2, hB2⟩
      case measure => simp [intOf]; omega
    · have hki : ¬ (k : Int) < (mi : Int) := by omega
      obtain rfl : k = mi := by omega
      go_wp2_with fail
      go_ret
      exact ⟨⟨_, rfl, g, rfl, HB.out⟩, hS.sn.1⟩
/-- the ends of the first n levels. -/
def eS (o : Option (Int × Int)) (n : Nat) : Int × Int × Bool := match o with
  | none => (0, 0, false)
  | some x => if x.1 < (n : Int) then (x.1, min ((n : Int) - 1) x.2, true) else (0, 0, false)
theorem eS_zero {o : Option (Int × Int)} (ho : Vd o) : eS o 0 = (0, 0, false) := by
  cases o with
  | none => rfl
  | some x => have := ho x rfl; unfold eS; simp only []; rw [if_neg (by omega)]
theorem eS_skip {o : Option (Int × Int)} (ho : Vd o) {n : Nat} (h : inB o (n : Int) = false) : eS o (n + 1) = eS o n := by
  cases o with
  | none => rfl
  | some x =>
    have hv := ho x rfl
    have h1 := wi_no.1 h
    unfold eS
    simp only []
    by_cases hx : x.1 < (n : Int)
    · rw [if_pos hx, if_pos (by omega)]
      congr 2
      omega
    · rw [if_neg hx, if_neg (by omega)]
theorem eS_first {o : Option (Int × Int)} (ho : Vd o) {n : Nat} (h : inB o (n : Int) = true) (hf : (eS o n).2.2 = false) : eS o (n + 1) = ((n : Int), (n : Int), true) := by
  cases o with
  | none => cases h
  | some x =>
    have h1 := wi_iff.1 h
    unfold eS at hf ⊢
    simp only [] at hf ⊢
    by_cases hx : x.1 < (n : Int)
    · rw [if_pos hx] at hf; cases hf
    · rw [if_pos (by omega)]
      have e1 : x.1 = (n : Int) := by omega
      have e2 : min (((n + 1 : Nat) : Int) - 1) x.2 = (n : Int) := by omega
      rw [e2, e1]
theorem eS_more {o : Option (Int × Int)} (ho : Vd o) {n : Nat} (h : inB o (n : Int) = true) (hf : (eS o n).2.2 = true) : eS o (n + 1) = ((eS o n).1, (n : Int), true) := by
  cases o with
  | none => cases h
  | some x =>
    have h1 := wi_iff.1 h
    unfold eS at hf ⊢
    simp only [] at hf ⊢
    by_cases hx : x.1 < (n : Int)
    · rw [if_pos hx, if_pos (by omega)]
      have e2 : min (((n + 1 : Nat) : Int) - 1) x.2 = (n : Int) := by omega
      rw [e2]
    · rw [if_neg hx] at hf; cases hf
theorem eS_end {o : Option (Int × Int)} (ho : Vd o) : eS o 201 = ((o.getD (0, 0)).1, (o.getD (0, 0)).2, o.isSome) := by
  cases o with
  | none => rfl
  | some x =>
    have hv := ho x rfl
    unfold eS
    simp only [Option.getD_some, Option.isSome_some]
    rw [if_pos (by omega)]
    have e2 : min (((201 : Nat) : Int) - 1) x.2 = x.2 := by omega
    rw [e2]
set_option maxRecDepth 100000 in
set_option maxHeartbeats 8000000 in
theorem ends_c (o : Option (Int × Int)) (gN : Nat) (w : World) (ho : Vd o) (hN : Blk w gN 4 (rB (fun i => inB o (i : Int)) 201)) :
    Calls Try.prog 50 #[.slice (some ⟨gN, 0, none⟩) 201 201] w fun e w' => e = .returned (.tuple #[.agg #[.int .i64 (o.getD (0, 0)).1, .int .i64 (o.getD (0, 0)).2], .bool o.isSome]) ∧ Below w.heap.size w w' := by
  have hgw := hN.lt
  have hs0 := ((Since.refl w).alloc (.cells #[.int .i64 0, .int .i64 0] 23)).alloc (.cells #[.int .i64 0, .int .i64 0] 23)
  have hZ0 := (Blk.new w 23 #[.int .i64 0, .int .i64 0]).alloc (.cells #[.int .i64 0, .int .i64 0] 23)
  have hE0 := Blk.new1 w (.cells #[.int .i64 0, .int .i64 0] 23) 23 #[.int .i64 0, .int .i64 0]
  go_enter Try.func50, Try.ntmps50
  go_wp2_with (refine wpList_store_row rfl 23 _ _ rfl (w.heap.size + 1) _ rfl rfl 23 _ hE0 (by kernel_rfl) rfl (by simp [Value.oneCell']) ?_)
  try simp only [setRow_same_zero]
  have hs1 := hs0.row (g := w.heap.size + 1) (by omega) #[.int .i64 0, .int .i64 0]
  have hZ1 := hZ0.rowFar (g' := w.heap.size + 1) (by omega) #[.int .i64 0, .int .i64 0]
  have hE1 := hE0.row #[.int .i64 0, .int .i64 0]
  obtain ⟨gE, hgE⟩ : ∃ gE, w.heap.size + 1 = gE := ⟨_, rfl⟩
  rw [hgE] at hE1 hZ1 hs1 ⊢
  clear hs0 hZ0 hE0
  go_loopw [5, 6] (fun b i wr => ∃ n : Nat, n ≤ 201 ∧ i = .int .i64 n ∧ b = .bool (eS o n).2.2 ∧ Since w wr ∧ Hid (Blk wr w.heap.size 23 #[.int .i64 0, .int .i64 0]) ∧ Hid (Blk wr gE 23 #[.int .i64 (eS o n).1, .int .i64 (eS o n).2.1])) (fun _ i _ => 201 - (intOf i).toNat)
  case atStart => exact ⟨0, Nat.zero_le _, rfl, by rw [eS_zero ho], hs1, hZ1, by rw [eS_zero ho]; exact hE1⟩
  case round =>
    obtain ⟨n, hn, rfl, rfl, hsn, HZ, HE⟩ := hrel
    by_cases hnl : n < 201
    · have hni : (n : Int) < 201 := by omega
      have v0 := hN.cell n
      rw [rB_get _ hnl] at v0
      have v0 := keep_cell hsn.1 v0
      obtain ⟨bn, hbn⟩ : ∃ bn, inB o (n : Int) = bn := ⟨_, rfl⟩
      rw [hbn] at v0
      cases bn with
      | false =>
        have hk := eS_skip ho hbn
        clear hbn
        go_wp2_with fail
        go_roundw
        case rel => exact ⟨n + 1, by omega, by go_num, by rw [hk], hsn, HZ, by rw [hk]; exact HE⟩
        case measure => simp [intOf]; omega
      | true =>
        have hF := fun h => eS_first ho hbn h
        have hM := fun h => eS_more ho hbn h
        obtain ⟨p, hp⟩ : ∃ p, eS o n = p := ⟨_, rfl⟩
        rw [hp] at hF hM HE ⊢
        obtain ⟨lo, hi, is⟩ := p
        dsimp only at hF hM HE ⊢
        clear hp hbn
        cases is with
        | false =>
          have HK := Lib.hid (hF rfl)
          have e0 := HE.out.cell 0
          have f0 := HE.out.frozen 0
          have hE2 := HE.out.set 0 (.int .i64 (n : Int))
          simp only [List.setIfInBounds_toArray, List.set_cons_zero, List.set_cons_succ] at hE2
          have e1 := hE2.cell 1
          have f1 := hE2.frozen 1
          have hE3 := hE2.set 1 (.int .i64 (n : Int))
          simp only [List.setIfInBounds_toArray, List.set_cons_zero, List.set_cons_succ] at hE3
          simp only [List.getElem?_toArray, List.getElem?_cons_zero, List.getElem?_cons_succ] at e0 e1
          have hsn3 : Since w ((wr.setCell ⟨gE, 0, none⟩ (.int .i64 (n : Int))).setCell ⟨gE, 1, none⟩ (.int .i64 (n : Int))) := ⟨(hsn.1.setCell (p := ⟨gE, 0, none⟩) (by simp; omega) _).setCell (p := ⟨gE, 1, none⟩) (by simp; omega) _, by simpa using hsn.2⟩
          have hZ3 := (HZ.out.far (g' := gE) (by omega) 0 (.int .i64 (n : Int))).far (g' := gE) (by omega) 1 (.int .i64 (n : Int))
          clear hF hM hE2
          go_wp2_with fail
          go_roundw
          case rel => exact ⟨n + 1, by omega, by go_num, by rw [HK.out], hsn3, hZ3, by rw [HK.out]; exact hE3⟩
          case measure => simp [intOf]; omega
        | true =>
          have HK := Lib.hid (hM rfl)
          have e1 := HE.out.cell 1
          have f1 := HE.out.frozen 1
          have hE3 := HE.out.set 1 (.int .i64 (n : Int))
          simp only [List.setIfInBounds_toArray, List.set_cons_zero, List.set_cons_succ] at hE3
          simp only [List.getElem?_toArray, List.getElem?_cons_zero, List.getElem?_cons_succ] at e1
          have hsn3 : Since w (wr.setCell ⟨gE, 1, none⟩ (.int .i64 (n : Int))) := ⟨hsn.1.setCell (p := ⟨gE, 1, none⟩) (by simp; omega) _, by simpa using hsn.2⟩
          have hZ3 := HZ.out.far (g' := gE) (by omega) 1 (.int .i64 (n : Int))
          clear hF hM
          go_wp2_with fail
          go_roundw
          case rel => exact ⟨n + 1, by omega, by go_num, by rw [HK.out], hsn3, hZ3, by rw [HK.out]; exact hE3⟩
          case measure => simp [intOf]; omega
    · have hni : ¬ (n : Int) < 201 := by omega
      obtain rfl : n = 201 := by omega
      rw [eS_end ho] at HE ⊢
      dsimp only at HE ⊢
      obtain ⟨lo, hlo⟩ : ∃ lo, (o.getD (0, 0)).1 = lo := ⟨_, rfl⟩
      obtain ⟨hi, hhi⟩ : ∃ hi, (o.getD (0, 0)).2 = hi := ⟨_, rfl⟩
      obtain ⟨is, his⟩ : ∃ is, o.isSome = is := ⟨_, rfl⟩
      have HV : Hid (o.getD (0, 0) = (lo, hi) ∧ o.isSome = is) := ⟨Prod.ext hlo hhi, his⟩
      rw [hlo, hhi] at HE
      rw [his]
      clear hlo hhi his
      have e0 := HE.out.cell 0
      have e1 := HE.out.cell 1
      simp only [List.getElem?_toArray, List.getElem?_cons_zero, List.getElem?_cons_succ] at e0 e1
      go_wp2_with (refine wpList_store_row rfl 23 _ _ rfl (w.heap.size) _ rfl rfl 23 _ HZ.out (by kernel_rfl) rfl (by simp [Value.oneCell']) ?_)
      refine bodyPost_ret (results_cell_tmp Try.results50 _ _ w.heap.size 23 _ (0, 0) _ rfl (HZ.out.row _) Try.underlying23 rfl (by kernel_rfl)) rfl ⟨?_, (hsn.row (Nat.le_refl _) _).1⟩
      rw [HV.out.1, HV.out.2]
      rfl
end Td
end Go.Proofs.Ytmofbnadfgejiaa
