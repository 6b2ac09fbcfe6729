import Derived.Test.YtojpiliamecgkaaLieA
import Derived.Test.YtojpiliamecgkaaIter
namespace Go.Proofs.Ytojpiliamecgkaa
open Go.RowKit
namespace Td
set_option linter.unusedSimpArgs false
set_option linter.unusedVariables false
/-- the box as far as j numbers of the first truth beyond the marks are known. -/
def mbx (mlo mhi : Int) (x : Box) (lift : Int) : Nat → Box
  | 0 => x
  | 1 => y1 mlo mhi x lift
  | 2 => y2 mlo mhi x lift
  | 3 => y3 mlo mhi x lift
  | _ => x3 (y3 mlo mhi x lift) (m3 mlo mhi x lift)
set_option maxRecDepth 100000 in
set_option maxHeartbeats 8000000 in
theorem firstMiss_c (b : Bch) (A : Option Addr) (c : Nat) (s : Shp) (x : Box) (lift : Int) (w : World) (hx : BoxOk x) (l0 : -10000 ≤ lift) (l1 : lift ≤ 10000) (hm : sur b.mlo b.mhi x lift = false) :
    Calls Try.prog 65 #[.agg (vwV b A c s x lift)] w fun e w' => e = .returned (.agg (trV (m0 b.mlo b.mhi x lift) (m1 b.mlo b.mhi x lift) (m2 b.mlo b.mhi x lift) (m3 b.mlo b.mhi x lift))) ∧ Below w.heap.size w w' := by
  have hM := mis_spec hx hm
  clear hm
  have HM := Lib.hid hM
  have HX := Lib.hid hx
  have hx0 : -1000 ≤ x.slo ∧ x.slo ≤ 2000 ∧ -1000 ≤ x.dlo ∧ x.dlo ≤ 2000 ∧ -1000 ≤ x.hlo ∧ x.hlo ≤ 2000 ∧ -1000 ≤ x.wlo ∧ x.wlo ≤ 2000 := by
    obtain ⟨_, _, _, _, _, _, _, _, _, _, _, _⟩ := hx
    omega
  have hxm : m0 b.mlo b.mhi x lift ≤ 2000 ∧ m1 b.mlo b.mhi x lift ≤ 2000 ∧ m2 b.mlo b.mhi x lift ≤ 2000 ∧ m3 b.mlo b.mhi x lift ≤ 2000 := by
    have := hM.a1
    have := hM.b1
    have := hM.c1
    have := hM.d1
    obtain ⟨_, _, _, _, _, _, _, _, _, _, _, _⟩ := hx
    omega
  clear hM hx
  have i0 : ∀ w, (Instr.index 99 (.agg (boxV x)) (.int .i64 0)).run Try.prog w = .ok (.agg #[.int .i64 x.slo, .int .i64 x.shi]) w := fun _ => by kernel_rfl
  have i1 : ∀ w, (Instr.index 99 (.agg (boxV x)) (.int .i64 1)).run Try.prog w = .ok (.agg #[.int .i64 x.dlo, .int .i64 x.dhi]) w := fun _ => by kernel_rfl
  have i2 : ∀ w, (Instr.index 99 (.agg (boxV x)) (.int .i64 2)).run Try.prog w = .ok (.agg #[.int .i64 x.hlo, .int .i64 x.hhi]) w := fun _ => by kernel_rfl
  have i3 : ∀ w, (Instr.index 99 (.agg (boxV x)) (.int .i64 3)).run Try.prog w = .ok (.agg #[.int .i64 x.wlo, .int .i64 x.whi]) w := fun _ => by kernel_rfl
  have hs0 := ((Since.refl w).alloc (.cells (vwV b A c s x lift) 101)).alloc (.cells (trV 0 0 0 0) 45)
  have HB0 := Lib.hid ((Blk.new w 101 (vwV b A c s x lift)).alloc (.cells (trV 0 0 0 0) 45))
  have HT0 := Lib.hid (Blk.new1 w (.cells (vwV b A c s x lift) 101) 45 (trV 0 0 0 0))
  go_enter Try.func65, Try.ntmps65
  go_wp2_with fail
  obtain ⟨W0, hW0⟩ : ∃ W0, (w.alloc (.cells (vwV b A c s x lift) 101)).alloc (.cells (trV 0 0 0 0) 45) = W0 := ⟨_, rfl⟩
  obtain ⟨g, hg⟩ : ∃ g, w.heap.size = g := ⟨_, rfl⟩
  rw [hW0] at hs0 HB0 HT0 ⊢
  rw [hg] at HB0 HT0 ⊢
  have hge : w.heap.size ≤ g := by omega
  clear hW0 hg
  go_loopw [3, 4, 5, 8] (fun _ _ _ i wr => ∃ j : Nat, j ≤ 4 ∧ i = .int .i64 j ∧ Since w wr ∧ Hid (Blk wr g 101 (vwV b A c s (mbx b.mlo b.mhi x lift j) lift)) ∧ Hid (Blk wr (g + 1) 45 (trV 0 0 0 0))) (fun _ _ _ i _ => 4 - (intOf i).toNat)
  case atStart => exact ⟨0, by omega, rfl, hs0, HB0, HT0⟩
  case round =>
    clear hs0 HB0 HT0
    obtain ⟨j, hj, rfl, hsn, HB, HT⟩ := hrel
    have hgl := HB.out.lt
    have hgt := HT.out.lt
    rcases (by omega : j = 0 ∨ j = 1 ∨ j = 2 ∨ j = 3 ∨ j = 4) with rfl | rfl | rfl | rfl | rfl
    · have hw0 := hsn.alloc (.cells #[.int .i64 x.slo, .int .i64 x.shi] 23)
      have HB1 := Lib.hid (HB.out.alloc (.cells #[.int .i64 x.slo, .int .i64 x.shi] 23))
      have HT1 := Lib.hid (HT.out.alloc (.cells #[.int .i64 x.slo, .int .i64 x.shi] 23))
      have HS1 := Lib.hid (Blk.new wr 23 #[.int .i64 x.slo, .int .i64 x.shi])
      go_wp2_with fail
      obtain ⟨gs, hgs⟩ : ∃ gs, wr.heap.size = gs := ⟨_, rfl⟩
      obtain ⟨W1, hW1⟩ : ∃ W1, wr.alloc (.cells #[.int .i64 x.slo, .int .i64 x.shi] 23) = W1 := ⟨_, rfl⟩
      rw [hW1] at hw0 HB1 HT1 HS1 ⊢
      rw [hgs] at HS1 hgl hgt ⊢
      clear hW1 hgs HB HT hsn
      go_loopw [5] (fun nv wq => ∃ k : Int, x.slo ≤ k ∧ k ≤ m0 b.mlo b.mhi x lift ∧ nv = .int .i64 k ∧ Since w wq ∧ (∃ av cv : Int, Hid (Blk wq g 101 (vwV b A c s { x with slo := av, shi := cv } lift))) ∧ Hid (Blk wq (g + 1) 45 (trV 0 0 0 0)) ∧ Hid (Blk wq gs 23 #[.int .i64 x.slo, .int .i64 x.shi])) (fun nv _ => (m0 b.mlo b.mhi x lift - intOf nv).toNat)
      case atStart => exact ⟨x.slo, Int.le_refl _, HM.out.a0, rfl, hw0, ⟨x.slo, x.shi, HB1⟩, HT1, HS1⟩
      case round =>
        clear hw0 HB1 HT1 HS1
        obtain ⟨k, hk0, hk1, rfl, hsq, ⟨av, cv, HBq⟩, HTq, HSq⟩ := hrel
        have hkh : k ≤ x.shi := Int.le_trans hk1 HM.out.a1
        obtain ⟨sp0, sp1⟩ := HSq.out.span
        have e0 := HBq.out.cell 9
        have e1 := HBq.out.cell 10
        have f0 := HBq.out.frozen 9
        have f1 := HBq.out.frozen 10
        simp only [List.getElem?_toArray, List.getElem?_cons_zero, List.getElem?_cons_succ] at e0 e1
        have HB2 : Hid (Blk ((wr.setCell ⟨g, 9, none⟩ (.int .i64 k)).setCell ⟨g, 10, none⟩ (.int .i64 k)) g 101 (vwV b A c s (x0 x k) lift)) := (HBq.out.set 9 _).set 10 _
        have HT2 := Lib.hid ((HTq.out.far (g' := g) (by omega) 9 (.int .i64 k)).far (g' := g) (by omega) 10 (.int .i64 k))
        have HS2 := Lib.hid ((HSq.out.far (g' := g) (by omega) 9 (.int .i64 k)).far (g' := g) (by omega) 10 (.int .i64 k))
        have hs2 : Since w ((wr.setCell ⟨g, 9, none⟩ (.int .i64 k)).setCell ⟨g, 10, none⟩ (.int .i64 k)) := ⟨(hsq.1.setCell (p := ⟨g, 9, none⟩) hge _).setCell (p := ⟨g, 10, none⟩) hge _, by simpa using hsq.2⟩
        have HO : Hid (BoxOk (x0 x k)) := x0_ok HX.out hk0 hkh
        go_wp2_with (first | (refine wpList_load_row rfl 101 _ rfl (g) rfl 101 (vwV b A c s (x0 x k) lift) (0, 0) _ HB2.out Try.underlying101 rfl (by kernel_rfl) ?_))
        refine (surely_c b A c s (x0 x k) lift _ HO.out l0 l1).mono ?_
        rintro e w3 ⟨rfl, hb3⟩
        have hs3 := hs2.keep hb3
        have HB3 := Lib.hid (HB2.out.keep hb3)
        have HT3 := Lib.hid (HT2.out.keep hb3)
        have HS3 := Lib.hid (HS2.out.keep hb3)
        clear HB2 HT2 HS2 hs2 hb3 e0 e1 f0 f1 sp0 sp1 HBq HTq HSq hsq
        rcases (by omega : k < m0 b.mlo b.mhi x lift ∨ k = m0 b.mlo b.mhi x lift) with hlt | heq
        · rw [HM.out.a4 k hk0 hlt]
          go_wp2_with fail
          go_roundw
          case rel => (repeat apply Exists.intro); exact ⟨⟨k + 1, by omega, by omega, rfl, hs3, ⟨k, k, HB3⟩, HT3, HS3⟩, rfl⟩
          case measure => simp [intOf]; omega
        · subst heq
          have HF := Lib.hid HM.out.a3
          rw [show sur b.mlo b.mhi (x0 x (m0 b.mlo b.mhi x lift)) lift = false from HF.out]
          clear HF
          go_wp2_with fail
          go_roundw
          case rel => exact ⟨1, by omega, rfl, hs3, HB3, HT3⟩
          case measure => simp [intOf]
    · have hw0 := hsn.alloc (.cells #[.int .i64 x.dlo, .int .i64 x.dhi] 23)
      have HB1 := Lib.hid (HB.out.alloc (.cells #[.int .i64 x.dlo, .int .i64 x.dhi] 23))
      have HT1 := Lib.hid (HT.out.alloc (.cells #[.int .i64 x.dlo, .int .i64 x.dhi] 23))
      have HS1 := Lib.hid (Blk.new wr 23 #[.int .i64 x.dlo, .int .i64 x.dhi])
      go_wp2_with fail
      obtain ⟨gs, hgs⟩ : ∃ gs, wr.heap.size = gs := ⟨_, rfl⟩
      obtain ⟨W1, hW1⟩ : ∃ W1, wr.alloc (.cells #[.int .i64 x.dlo, .int .i64 x.dhi] 23) = W1 := ⟨_, rfl⟩
      rw [hW1] at hw0 HB1 HT1 HS1 ⊢
      rw [hgs] at HS1 hgl hgt ⊢
      clear hW1 hgs HB HT hsn
      go_loopw [5] (fun nv wq => ∃ k : Int, x.dlo ≤ k ∧ k ≤ m1 b.mlo b.mhi x lift ∧ nv = .int .i64 k ∧ Since w wq ∧ (∃ av cv : Int, Hid (Blk wq g 101 (vwV b A c s { y1 b.mlo b.mhi x lift with dlo := av, dhi := cv } lift))) ∧ Hid (Blk wq (g + 1) 45 (trV 0 0 0 0)) ∧ Hid (Blk wq gs 23 #[.int .i64 x.dlo, .int .i64 x.dhi])) (fun nv _ => (m1 b.mlo b.mhi x lift - intOf nv).toNat)
      case atStart => exact ⟨x.dlo, Int.le_refl _, HM.out.b0, rfl, hw0, ⟨x.dlo, x.dhi, HB1⟩, HT1, HS1⟩
      case round =>
        clear hw0 HB1 HT1 HS1
        obtain ⟨k, hk0, hk1, rfl, hsq, ⟨av, cv, HBq⟩, HTq, HSq⟩ := hrel
        have hkh : k ≤ x.dhi := Int.le_trans hk1 HM.out.b1
        obtain ⟨sp0, sp1⟩ := HSq.out.span
        have e0 := HBq.out.cell 11
        have e1 := HBq.out.cell 12
        have f0 := HBq.out.frozen 11
        have f1 := HBq.out.frozen 12
        simp only [List.getElem?_toArray, List.getElem?_cons_zero, List.getElem?_cons_succ] at e0 e1
        have HB2 : Hid (Blk ((wr.setCell ⟨g, 11, none⟩ (.int .i64 k)).setCell ⟨g, 12, none⟩ (.int .i64 k)) g 101 (vwV b A c s (x1 (y1 b.mlo b.mhi x lift) k) lift)) := (HBq.out.set 11 _).set 12 _
        have HT2 := Lib.hid ((HTq.out.far (g' := g) (by omega) 11 (.int .i64 k)).far (g' := g) (by omega) 12 (.int .i64 k))
        have HS2 := Lib.hid ((HSq.out.far (g' := g) (by omega) 11 (.int .i64 k)).far (g' := g) (by omega) 12 (.int .i64 k))
        have hs2 : Since w ((wr.setCell ⟨g, 11, none⟩ (.int .i64 k)).setCell ⟨g, 12, none⟩ (.int .i64 k)) := ⟨(hsq.1.setCell (p := ⟨g, 11, none⟩) hge _).setCell (p := ⟨g, 12, none⟩) hge _, by simpa using hsq.2⟩
        have HO : Hid (BoxOk (x1 (y1 b.mlo b.mhi x lift) k)) := x1_ok HM.out.a2 hk0 hkh
        go_wp2_with (first | (refine wpList_load_row rfl 101 _ rfl (g) rfl 101 (vwV b A c s (x1 (y1 b.mlo b.mhi x lift) k) lift) (0, 0) _ HB2.out Try.underlying101 rfl (by kernel_rfl) ?_))
        refine (surely_c b A c s (x1 (y1 b.mlo b.mhi x lift) k) lift _ HO.out l0 l1).mono ?_
        rintro e w3 ⟨rfl, hb3⟩
        have hs3 := hs2.keep hb3
        have HB3 := Lib.hid (HB2.out.keep hb3)
        have HT3 := Lib.hid (HT2.out.keep hb3)
        have HS3 := Lib.hid (HS2.out.keep hb3)
        clear HB2 HT2 HS2 hs2 hb3 e0 e1 f0 f1 sp0 sp1 HBq HTq HSq hsq
        rcases (by omega : k < m1 b.mlo b.mhi x lift ∨ k = m1 b.mlo b.mhi x lift) with hlt | heq
        · rw [HM.out.b4 k hk0 hlt]
          go_wp2_with fail
          go_roundw
          case rel => (repeat apply Exists.intro); exact ⟨⟨k + 1, by omega, by omega, rfl, hs3, ⟨k, k, HB3⟩, HT3, HS3⟩, rfl⟩
          case measure => simp [intOf]; omega
        · subst heq
          have HF := Lib.hid HM.out.b3
          rw [show sur b.mlo b.mhi (x1 (y1 b.mlo b.mhi x lift) (m1 b.mlo b.mhi x lift)) lift = false from HF.out]
          clear HF
          go_wp2_with fail
          go_roundw
          case rel => exact ⟨2, by omega, rfl, hs3, HB3, HT3⟩
          case measure => simp [intOf]
    · have hw0 := hsn.alloc (.cells #[.int .i64 x.hlo, .int .i64 x.hhi] 23)
      have HB1 := Lib.hid (HB.out.alloc (.cells #[.int .i64 x.hlo, .int .i64 x.hhi] 23))
      have HT1 := Lib.hid (HT.out.alloc (.cells #[.int .i64 x.hlo, .int .i64 x.hhi] 23))
      have HS1 := Lib.hid (Blk.new wr 23 #[.int .i64 x.hlo, .int .i64 x.hhi])
      go_wp2_with fail
      obtain ⟨gs, hgs⟩ : ∃ gs, wr.heap.size = gs := ⟨_, rfl⟩
      obtain ⟨W1, hW1⟩ : ∃ W1, wr.alloc (.cells #[.int .i64 x.hlo, .int .i64 x.hhi] 23) = W1 := ⟨_, rfl⟩
      rw [hW1] at hw0 HB1 HT1 HS1 ⊢
      rw [hgs] at HS1 hgl hgt ⊢
      clear hW1 hgs HB HT hsn
      go_loopw [5] (fun nv wq => ∃ k : Int, x.hlo ≤ k ∧ k ≤ m2 b.mlo b.mhi x lift ∧ nv = .int .i64 k ∧ Since w wq ∧ (∃ av cv : Int, Hid (Blk wq g 101 (vwV b A c s { y2 b.mlo b.mhi x lift with hlo := av, hhi := cv } lift))) ∧ Hid (Blk wq (g + 1) 45 (trV 0 0 0 0)) ∧ Hid (Blk wq gs 23 #[.int .i64 x.hlo, .int .i64 x.hhi])) (fun nv _ => (m2 b.mlo b.mhi x lift - intOf nv).toNat)
      case atStart => exact ⟨x.hlo, Int.le_refl _, HM.out.c0, rfl, hw0, ⟨x.hlo, x.hhi, HB1⟩, HT1, HS1⟩
      case round =>
        clear hw0 HB1 HT1 HS1
        obtain ⟨k, hk0, hk1, rfl, hsq, ⟨av, cv, HBq⟩, HTq, HSq⟩ := hrel
        have hkh : k ≤ x.hhi := Int.le_trans hk1 HM.out.c1
        obtain ⟨sp0, sp1⟩ := HSq.out.span
        have e0 := HBq.out.cell 13
        have e1 := HBq.out.cell 14
        have f0 := HBq.out.frozen 13
        have f1 := HBq.out.frozen 14
        simp only [List.getElem?_toArray, List.getElem?_cons_zero, List.getElem?_cons_succ] at e0 e1
        have HB2 : Hid (Blk ((wr.setCell ⟨g, 13, none⟩ (.int .i64 k)).setCell ⟨g, 14, none⟩ (.int .i64 k)) g 101 (vwV b A c s (x2 (y2 b.mlo b.mhi x lift) k) lift)) := (HBq.out.set 13 _).set 14 _
        have HT2 := Lib.hid ((HTq.out.far (g' := g) (by omega) 13 (.int .i64 k)).far (g' := g) (by omega) 14 (.int .i64 k))
        have HS2 := Lib.hid ((HSq.out.far (g' := g) (by omega) 13 (.int .i64 k)).far (g' := g) (by omega) 14 (.int .i64 k))
        have hs2 : Since w ((wr.setCell ⟨g, 13, none⟩ (.int .i64 k)).setCell ⟨g, 14, none⟩ (.int .i64 k)) := ⟨(hsq.1.setCell (p := ⟨g, 13, none⟩) hge _).setCell (p := ⟨g, 14, none⟩) hge _, by simpa using hsq.2⟩
        have HO : Hid (BoxOk (x2 (y2 b.mlo b.mhi x lift) k)) := x2_ok HM.out.b2 hk0 hkh
        go_wp2_with (first | (refine wpList_load_row rfl 101 _ rfl (g) rfl 101 (vwV b A c s (x2 (y2 b.mlo b.mhi x lift) k) lift) (0, 0) _ HB2.out Try.underlying101 rfl (by kernel_rfl) ?_))
        refine (surely_c b A c s (x2 (y2 b.mlo b.mhi x lift) k) lift _ HO.out l0 l1).mono ?_
        rintro e w3 ⟨rfl, hb3⟩
        have hs3 := hs2.keep hb3
        have HB3 := Lib.hid (HB2.out.keep hb3)
        have HT3 := Lib.hid (HT2.out.keep hb3)
        have HS3 := Lib.hid (HS2.out.keep hb3)
        clear HB2 HT2 HS2 hs2 hb3 e0 e1 f0 f1 sp0 sp1 HBq HTq HSq hsq
        rcases (by omega : k < m2 b.mlo b.mhi x lift ∨ k = m2 b.mlo b.mhi x lift) with hlt | heq
        · rw [HM.out.c4 k hk0 hlt]
          go_wp2_with fail
          go_roundw
          case rel => (repeat apply Exists.intro); exact ⟨⟨k + 1, by omega, by omega, rfl, hs3, ⟨k, k, HB3⟩, HT3, HS3⟩, rfl⟩
          case measure => simp [intOf]; omega
        · subst heq
          have HF := Lib.hid HM.out.c3
          rw [show sur b.mlo b.mhi (x2 (y2 b.mlo b.mhi x lift) (m2 b.mlo b.mhi x lift)) lift = false from HF.out]
          clear HF
          go_wp2_with fail
          go_roundw
          case rel => exact ⟨3, by omega, rfl, hs3, HB3, HT3⟩
          case measure => simp [intOf]
    · have hw0 := hsn.alloc (.cells #[.int .i64 x.wlo, .int .i64 x.whi] 23)
      have HB1 := Lib.hid (HB.out.alloc (.cells #[.int .i64 x.wlo, .int .i64 x.whi] 23))
      have HT1 := Lib.hid (HT.out.alloc (.cells #[.int .i64 x.wlo, .int .i64 x.whi] 23))
      have HS1 := Lib.hid (Blk.new wr 23 #[.int .i64 x.wlo, .int .i64 x.whi])
      go_wp2_with fail
      obtain ⟨gs, hgs⟩ : ∃ gs, wr.heap.size = gs := ⟨_, rfl⟩
      obtain ⟨W1, hW1⟩ : ∃ W1, wr.alloc (.cells #[.int .i64 x.wlo, .int .i64 x.whi] 23) = W1 := ⟨_, rfl⟩
      rw [hW1] at hw0 HB1 HT1 HS1 ⊢
      rw [hgs] at HS1 hgl hgt ⊢
      clear hW1 hgs HB HT hsn
      go_loopw [5] (fun nv wq => ∃ k : Int, x.wlo ≤ k ∧ k ≤ m3 b.mlo b.mhi x lift ∧ nv = .int .i64 k ∧ Since w wq ∧ (∃ av cv : Int, Hid (Blk wq g 101 (vwV b A c s { y3 b.mlo b.mhi x lift with wlo := av, whi := cv } lift))) ∧ Hid (Blk wq (g + 1) 45 (trV 0 0 0 0)) ∧ Hid (Blk wq gs 23 #[.int .i64 x.wlo, .int .i64 x.whi])) (fun nv _ => (m3 b.mlo b.mhi x lift - intOf nv).toNat)
      case atStart => exact ⟨x.wlo, Int.le_refl _, HM.out.d0, rfl, hw0, ⟨x.wlo, x.whi, HB1⟩, HT1, HS1⟩
      case round =>
        clear hw0 HB1 HT1 HS1
        obtain ⟨k, hk0, hk1, rfl, hsq, ⟨av, cv, HBq⟩, HTq, HSq⟩ := hrel
        have hkh : k ≤ x.whi := Int.le_trans hk1 HM.out.d1
        obtain ⟨sp0, sp1⟩ := HSq.out.span
        have e0 := HBq.out.cell 15
        have e1 := HBq.out.cell 16
        have f0 := HBq.out.frozen 15
        have f1 := HBq.out.frozen 16
        simp only [List.getElem?_toArray, List.getElem?_cons_zero, List.getElem?_cons_succ] at e0 e1
        have HB2 : Hid (Blk ((wr.setCell ⟨g, 15, none⟩ (.int .i64 k)).setCell ⟨g, 16, none⟩ (.int .i64 k)) g 101 (vwV b A c s (x3 (y3 b.mlo b.mhi x lift) k) lift)) := (HBq.out.set 15 _).set 16 _
        have HT2 := Lib.hid ((HTq.out.far (g' := g) (by omega) 15 (.int .i64 k)).far (g' := g) (by omega) 16 (.int .i64 k))
        have HS2 := Lib.hid ((HSq.out.far (g' := g) (by omega) 15 (.int .i64 k)).far (g' := g) (by omega) 16 (.int .i64 k))
        have hs2 : Since w ((wr.setCell ⟨g, 15, none⟩ (.int .i64 k)).setCell ⟨g, 16, none⟩ (.int .i64 k)) := ⟨(hsq.1.setCell (p := ⟨g, 15, none⟩) hge _).setCell (p := ⟨g, 16, none⟩) hge _, by simpa using hsq.2⟩
        have HO : Hid (BoxOk (x3 (y3 b.mlo b.mhi x lift) k)) := x3_ok HM.out.c2 hk0 hkh
        go_wp2_with (first | (refine wpList_load_row rfl 101 _ rfl (g) rfl 101 (vwV b A c s (x3 (y3 b.mlo b.mhi x lift) k) lift) (0, 0) _ HB2.out Try.underlying101 rfl (by kernel_rfl) ?_))
        refine (surely_c b A c s (x3 (y3 b.mlo b.mhi x lift) k) lift _ HO.out l0 l1).mono ?_
        rintro e w3 ⟨rfl, hb3⟩
        have hs3 := hs2.keep hb3
        have HB3 := Lib.hid (HB2.out.keep hb3)
        have HT3 := Lib.hid (HT2.out.keep hb3)
        have HS3 := Lib.hid (HS2.out.keep hb3)
        clear HB2 HT2 HS2 hs2 hb3 e0 e1 f0 f1 sp0 sp1 HBq HTq HSq hsq
        rcases (by omega : k < m3 b.mlo b.mhi x lift ∨ k = m3 b.mlo b.mhi x lift) with hlt | heq
        · rw [HM.out.d4 k hk0 hlt]
          go_wp2_with fail
          go_roundw
          case rel => (repeat apply Exists.intro); exact ⟨⟨k + 1, by omega, by omega, rfl, hs3, ⟨k, k, HB3⟩, HT3, HS3⟩, rfl⟩
          case measure => simp [intOf]; omega
        · subst heq
          have HF := Lib.hid HM.out.d3
          rw [show sur b.mlo b.mhi (x3 (y3 b.mlo b.mhi x lift) (m3 b.mlo b.mhi x lift)) lift = false from HF.out]
          clear HF
          go_wp2_with fail
          go_roundw
          case rel => exact ⟨4, by omega, rfl, hs3, HB3, HT3⟩
          case measure => simp [intOf]
    · have hq := HB.out
      obtain ⟨q0, q1, q2, q3⟩ : wr.cell? ⟨g, 9, none⟩ = some (.int .i64 (m0 b.mlo b.mhi x lift)) ∧ wr.cell? ⟨g, 11, none⟩ = some (.int .i64 (m1 b.mlo b.mhi x lift)) ∧ wr.cell? ⟨g, 13, none⟩ = some (.int .i64 (m2 b.mlo b.mhi x lift)) ∧ wr.cell? ⟨g, 15, none⟩ = some (.int .i64 (m3 b.mlo b.mhi x lift)) :=
        ⟨hq.cell 9, hq.cell 11, hq.cell 13, hq.cell 15⟩
      clear hq
      go_wp2_with (first | (refine wpList_store_row rfl 45 _ _ rfl (g + 1) _ rfl rfl 45 _ HT.out (by kernel_rfl) rfl (by simp [Value.oneCell']) ?_))
      (refine bodyPost_ret (v := .agg _) ?_ rfl ⟨rfl, ?_⟩; exact (results_cell_row Try.results65 _ _ (g + 1) 45 _ (0, 0) _ rfl (HT.out.row _) Try.underlying45 rfl (by kernel_rfl)))
      exact (hsn.row (by omega) _).1
end Td
end Go.Proofs.Ytojpiliamecgkaa
