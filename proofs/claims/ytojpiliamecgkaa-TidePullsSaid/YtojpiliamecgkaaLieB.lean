import Derived.Test.YtojpiliamecgkaaLieA
import Derived.Deep.Cut
namespace Go.Proofs.Ytojpiliamecgkaa
open Go.RowKit
namespace Td
set_option linter.unusedSimpArgs false
set_option linter.unusedVariables false
/-- a pull that is one of this beach. -/
structure PuOk (n : Nat) (p : Pul) : Prop where
  t0 : 0 ≤ p.tide
  t1 : p.tide < n
  b0 : 0 ≤ p.bal
  b1 : p.bal ≤ 40
set_option maxRecDepth 100000 in
set_option maxHeartbeats 8000000 in
theorem lies_c (b : Bch) (A : Option Addr) (c : Nat) (s : Shp) (run : Pul) (P : Option Addr) (ps : List Pul) (pc : Nat) (w : World) (hp : TsAt w A b.ts) (hB : BchOk b) (hS : ShpOk s) (hr : PuOk b.ts.length run) (hps : ∀ j (h : j < ps.length), PuOk b.ts.length ps[j]) (h6 : ps.length ≤ 1000) (hq : PuAt w P ps) :
    Calls Try.prog 70 #[.agg (shV b A c s), .agg (puV run), .slice P ps.length pc] w fun e w' => e = .returned (.agg #[.int .i64 (lieLo b s run ps), .int .i64 (lieHi b s run ps)]) ∧ Below w.heap.size w w' := by
  have hl12 : b.ts.length ≤ 12 := hB.n1
  obtain ⟨ri, rb⟩ := run
  obtain ⟨t0, t1, b0, b1⟩ := hr
  simp only at t0 t1 b0 b1
  obtain ⟨i, rfl⟩ : ∃ i : Nat, ri = i := ⟨ri.toNat, by omega⟩
  have HL0 := Lib.hid (lift_bd hS b0 b1)
  have hz0 := lie0 b s ⟨(i : Int), rb⟩
  rw [Int.toNat_natCast] at hz0
  have HZ := Lib.hid hz0
  clear hz0
  have hs0 := (((Since.refl w).alloc (.cells (shV b A c s) 95)).alloc (.cells #[.int .i64 i, .int .i64 rb] 49)).alloc (.cells #[.int .i64 0, .int .i64 0] 23)
  have HB0 := Lib.hid (((Blk.new w 95 (shV b A c s)).alloc (.cells #[.int .i64 i, .int .i64 rb] 49)).alloc (.cells #[.int .i64 0, .int .i64 0] 23))
  have HR0 := Lib.hid (Blk.new2 w (.cells (shV b A c s) 95) (.cells #[.int .i64 i, .int .i64 rb] 49) 23 #[.int .i64 0, .int .i64 0])
  go_enter Try.func70, Try.ntmps70
  go_wp2_with fail
  refine (on_c b A c s i rb _ (hp.keep hs0.1) (by omega) (by omega) hS.k0 hS.k1 b0 (by omega)).mono ?_
  rintro e w1 ⟨rfl, hb1⟩
  have hs1 := hs0.keep hb1
  have HB1 := Lib.hid (HB0.out.keep hb1)
  have HR1 := Lib.hid (HR0.out.keep hb1)
  clear hs0 HB0 HR0
  go_wp2_with fail
  refine (reach_c b A c s (bx b s i) _ _ (bx_ok hB hS (by omega)) HL0.out.1 HL0.out.2).mono ?_
  rintro e w2 ⟨rfl, hb2⟩
  have hs2 := hs1.keep hb2
  have HB2 := Lib.hid (HB1.out.keep hb2)
  have HR2 := Lib.hid (HR1.out.keep hb2)
  clear hs1 HB1 HR1
  rw [← HZ.out.1, ← HZ.out.2]
  clear HZ HL0
  have hs3 := hs2.alloc (.cells #[.int .i64 (lieLo b s ⟨(i : Int), rb⟩ []), .int .i64 (lieHi b s ⟨(i : Int), rb⟩ [])] 23)
  have HB3 := Lib.hid (HB2.out.alloc (.cells #[.int .i64 (lieLo b s ⟨(i : Int), rb⟩ []), .int .i64 (lieHi b s ⟨(i : Int), rb⟩ [])] 23))
  have HR3 := Lib.hid (HR2.out.alloc (.cells #[.int .i64 (lieLo b s ⟨(i : Int), rb⟩ []), .int .i64 (lieHi b s ⟨(i : Int), rb⟩ [])] 23))
  have HA3 := Lib.hid (Blk.new w2 23 #[.int .i64 (lieLo b s ⟨(i : Int), rb⟩ []), .int .i64 (lieHi b s ⟨(i : Int), rb⟩ [])])
  have hz2 := HR2.out.lt
  go_wp2_with fail
  obtain ⟨ga, hga⟩ : ∃ ga, w2.heap.size = ga := ⟨_, rfl⟩
  obtain ⟨W3, hW3⟩ : ∃ W3, w2.alloc (.cells #[.int .i64 (lieLo b s ⟨(i : Int), rb⟩ []), .int .i64 (lieHi b s ⟨(i : Int), rb⟩ [])] 23) = W3 := ⟨_, rfl⟩
  rw [hW3] at hs3 HB3 HR3 HA3 ⊢
  rw [hga] at HA3 hz2 ⊢
  clear hW3 hga hs2 HB2 HR2 hb1 hb2
  go_loopw [9, 10, 11, 18] (fun _ _ _ i' wr => ∃ k : Nat, k ≤ ps.length ∧ i' = .int .i64 k ∧ Since w wr ∧ Hid (Blk wr w.heap.size 95 (shV b A c s)) ∧ Hid (Blk wr (w.heap.size + 1 + 1) 23 #[.int .i64 0, .int .i64 0]) ∧ Hid (Blk wr ga 23 #[.int .i64 (lieLo b s ⟨(i : Int), rb⟩ (ps.take k)), .int .i64 (lieHi b s ⟨(i : Int), rb⟩ (ps.take k))])) (fun _ _ _ i' _ => ps.length - (intOf i').toNat)
  case atStart => exact ⟨0, Nat.zero_le _, rfl, hs3, HB3, HR3, HA3⟩
  case round =>
    clear HB3 HR3 HA3 hs3
    obtain ⟨k, hk, rfl, hsn, HB, HR, HA⟩ := hrel
    by_cases hlt : k < ps.length
    · obtain ⟨ad, hA, c0, c1⟩ := hq.get hlt
      subst hA
      have c0' := keep_cell hsn.1 c0
      have c1' := keep_cell hsn.1 c1
      clear c0 c1
      obtain ⟨p0, p1, p2, p3⟩ := hps k hlt
      have hlo := lieLo_snoc (b := b) hB.s0 (by have := hB.s0; have := hB.s1; omega) s ⟨(i : Int), rb⟩ (ps.take k) ps[k]
      have hhi := lieHi_snoc (b := b) hB.s0 (by have := hB.s0; have := hB.s1; omega) s ⟨(i : Int), rb⟩ (ps.take k) ps[k]
      rw [← List.take_succ_eq_append_getElem hlt] at hlo hhi
      unfold lf at hlo hhi
      obtain ⟨pi, hpi⟩ : ∃ pi : Nat, ps[k].tide = pi := ⟨ps[k].tide.toNat, by omega⟩
      obtain ⟨pb, hpb⟩ : ∃ pb : Int, ps[k].bal = pb := ⟨_, rfl⟩
      rw [hpi] at p0 p1 c0'
      rw [hpb] at p2 p3 c1'
      rw [hpi, hpb, Int.toNat_natCast] at hlo hhi
      have HLO := Lib.hid hlo
      have HHI := Lib.hid hhi
      clear hlo hhi hpi hpb
      have hpn : pi < b.ts.length := by omega
      have hlb := lift_bd hS p2 p3
      have hlb2 : -s.sink * pb ≤ 0 := by
        have := Int.mul_nonneg hS.k0 p2
        rw [Int.neg_mul]; omega
      have hb0 := hB.b0
      have hb1 := hB.b1
      have hm5 : -5000 ≤ -s.sink * pb := by
        have := Int.mul_le_mul hS.k1 p3 p2 (by omega)
        rw [Int.neg_mul]; omega
      obtain ⟨lb, hlb0⟩ : ∃ lb : Int, -s.sink * pb = lb := ⟨_, rfl⟩
      have HLB := Lib.hid hlb0
      rw [hlb0] at HLO HHI hlb hlb2 hm5
      clear hlb0
      have hs1 := hsn.alloc (.cells #[.int .i64 pi, .int .i64 pb] 49)
      have HB1 := Lib.hid (HB.out.alloc (.cells #[.int .i64 pi, .int .i64 pb] 49))
      have HR1 := Lib.hid (HR.out.alloc (.cells #[.int .i64 pi, .int .i64 pb] 49))
      have HA1 := Lib.hid (HA.out.alloc (.cells #[.int .i64 pi, .int .i64 pb] 49))
      clear HB HR HA hsn
      go_wp2_with (first | (refine wpList_load_row rfl 95 _ rfl (w.heap.size) rfl 95 (shV b A c s) (0, 0) _ HB1.out Try.underlying95 rfl (by kernel_rfl) ?_))
      refine (on_c b A c s pi pb _ (hp.keep hs1.1) hpn (by omega) hS.k0 hS.k1 p2 (by omega)).mono ?_
      rintro e w3 ⟨rfl, hb3⟩
      rw [HLB.out]
      have hs2 := hs1.keep hb3
      have HB2 := Lib.hid (HB1.out.keep hb3)
      have HR2 := Lib.hid (HR1.out.keep hb3)
      have HA2 := Lib.hid (HA1.out.keep hb3)
      clear HB1 HR1 HA1 hs1 hb3 c0' c1'
      have hb4 := HB2.out.cell 4
      simp only [List.getElem?_toArray, List.getElem?_cons_zero, List.getElem?_cons_succ] at hb4
      have hga3 := HA2.out.lt
      have hgb3 := HB2.out.lt
      have HX := Lib.hid (bx_ok hB hS hpn)
      obtain ⟨xb, hxb⟩ : ∃ xb : Box, bx b s pi = xb := ⟨_, rfl⟩
      rw [hxb] at HX HLO HHI ⊢
      clear hxb
      have hs4 := hs2.alloc (.cells (vwV b A c s xb lb) 101)
      have HB4 := Lib.hid (HB2.out.alloc (.cells (vwV b A c s xb lb) 101))
      have HR4 := Lib.hid (HR2.out.alloc (.cells (vwV b A c s xb lb) 101))
      have HA4 := Lib.hid (HA2.out.alloc (.cells (vwV b A c s xb lb) 101))
      have HV4 := Lib.hid (Blk.new w3 101 (vwV b A c s xb lb))
      go_upto_region 6 with (fail)
      obtain ⟨gv, hgv⟩ : ∃ gv, w3.heap.size = gv := ⟨_, rfl⟩
      obtain ⟨W5, hW5⟩ : ∃ W5, w3.alloc (.cells (vwV b A c s xb lb) 101) = W5 := ⟨_, rfl⟩
      rw [hW5] at hs4 HB4 HR4 HA4 HV4 ⊢
      rw [hgv] at HV4 hga3 hgb3 ⊢
      clear hW5 hgv
      have e17 := HV4.out.cell 17
      have f17 := HV4.out.frozen 17
      obtain ⟨q0, q1, q2, q3, q4, q5, q6, q7, q8⟩ := HB4.out.shore
      simp only [List.getElem?_toArray, List.getElem?_cons_zero, List.getElem?_cons_succ] at e17
      have HV5 : Hid (Blk (W5.setCell ⟨gv, 17, none⟩ (.int .i64 (lb + b.bite))) gv 101 (vwV b A c s xb (lb + b.bite))) := HV4.out.set 17 _
      go_wp2_with (first | (refine wpList_load_row rfl 101 _ rfl (gv) rfl 101 (vwV b A c s xb (lb + b.bite)) (0, 0) _ HV5.out Try.underlying101 rfl (by kernel_rfl) ?_))
      refine (reach_c b A c s xb (lb + b.bite) _ HX.out (by omega) (by omega)).mono ?_
      rintro e w6 ⟨rfl, hb6⟩
      have hgs : gv < W5.heap.size := HV4.out.lt
      have hsz5 : (W5.setCell ⟨gv, 17, none⟩ (.int .i64 (lb + b.bite))).heap.size = W5.heap.size := by simp
      have hs5 : Since w (W5.setCell ⟨gv, 17, none⟩ (.int .i64 (lb + b.bite))) := ⟨hs4.1.setCell (p := ⟨gv, 17, none⟩) (by show w.heap.size ≤ gv; omega) _, by rw [hsz5]; exact hs4.2⟩
      have hs6 := hs5.keep hb6
      have HB6 := Lib.hid ((HB4.out.far (g' := gv) (by omega) 17 (.int .i64 (lb + b.bite))).keep hb6)
      have HR6 := Lib.hid ((HR4.out.far (g' := gv) (by omega) 17 (.int .i64 (lb + b.bite))).keep hb6)
      have HA6 := Lib.hid ((HA4.out.far (g' := gv) (by omega) 17 (.int .i64 (lb + b.bite))).keep hb6)
      clear hs4 hs5 hsz5 HB4 HR4 HA4 HV4 HV5 hb6 q0 q1 q2 q3 q4 q5 q6 q7 q8 e17 f17 hb4 HLB
      obtain ⟨v1, hv1⟩ : ∃ v : Int, rlo xb (lb + b.bite) = v := ⟨_, rfl⟩
      obtain ⟨v2, hv2⟩ : ∃ v : Int, rhi xb (lb + b.bite) = v := ⟨_, rfl⟩
      rw [hv1] at HLO ⊢
      rw [hv2] at HHI ⊢
      clear hv1 hv2
      obtain ⟨m1, hm1⟩ : ∃ v : Int, lieLo b s ⟨(i : Int), rb⟩ (ps.take k) = v := ⟨_, rfl⟩
      obtain ⟨m2, hm2⟩ : ∃ v : Int, lieHi b s ⟨(i : Int), rb⟩ (ps.take k) = v := ⟨_, rfl⟩
      rw [hm1] at HLO HA6
      rw [hm2] at HHI HA6
      clear hm1 hm2
      have hs7 := hs6.alloc (.cells #[.int .i64 v1, .int .i64 v2] 23)
      have HB7 := Lib.hid (HB6.out.alloc (.cells #[.int .i64 v1, .int .i64 v2] 23))
      have HR7 := Lib.hid (HR6.out.alloc (.cells #[.int .i64 v1, .int .i64 v2] 23))
      have HA7 := Lib.hid (HA6.out.alloc (.cells #[.int .i64 v1, .int .i64 v2] 23))
      obtain ⟨a0, a1⟩ := HA6.out.span
      have g6 := HA6.out.lt
      clear hs6 HB6 HR6 HA6
      have hmx : (m1 < v1 ∧ max m1 v1 = v1) ∨ (¬ m1 < v1 ∧ max m1 v1 = m1) := by omega
      have hmy : (m2 < v2 ∧ max m2 v2 = v2) ∨ (¬ m2 < v2 ∧ max m2 v2 = m2) := by omega
      rcases hmx with ⟨h1, hx⟩ | ⟨h1, hx⟩ <;> rcases hmy with ⟨h2, hy⟩ | ⟨h2, hy⟩
      all_goals
        rw [hx] at HLO
        rw [hy] at HHI
        clear hx hy
        go_wp2_with (first | (refine wpList_store_row rfl 23 _ _ rfl (ga) _ rfl rfl 23 _ HA7.out (by kernel_rfl) rfl (by simp [Value.oneCell']) ?_))
        go_roundw
        case rel =>
          refine ⟨k + 1, by omega, by go_num, hs7.row (by omega) _, HB7.out.rowFar (by omega) _, HR7.out.rowFar (by omega) _, ?_⟩
          rw [HLO.out, HHI.out]
          exact HA7.out.row _
        case measure => simp [intOf]; omega
    · have HV : Hid (ps.take k = ps) := by show _ = _; rw [List.take_of_length_le (by omega)]
      rw [HV.out] at HA
      clear HV
      obtain ⟨a0, a1⟩ := HA.out.span
      go_wp2_with (first | (refine wpList_store_row rfl 23 _ _ rfl (w.heap.size + 1 + 1) _ rfl rfl 23 _ HR.out (by kernel_rfl) rfl (by simp [Value.oneCell']) ?_))
      (refine bodyPost_ret (v := .agg _) ?_ rfl ⟨rfl, ?_⟩; exact (results_cell_row Try.results70 _ _ (w.heap.size + 1 + 1) 23 _ (0, 0) _ rfl (HR.out.row _) Try.underlying23 rfl (by kernel_rfl)))
      exact (hsn.row (by omega) _).1
end Td
end Go.Proofs.Ytojpiliamecgkaa
