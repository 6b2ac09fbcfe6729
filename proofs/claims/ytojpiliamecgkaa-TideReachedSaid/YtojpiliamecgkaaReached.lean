import Derived.Test.YtojpiliamecgkaaLawB
import Derived.Test.YtojpiliamecgkaaAwk
namespace Go.Proofs.Ytojpiliamecgkaa
open Go.RowKit
namespace Td
set_option linter.unusedSimpArgs false
set_option linter.unusedVariables false
theorem eqSpan (a c : Int) (W : World) : (Op.equalIn 10000 23 (.agg #[.int .i64 a, .int .i64 c]) (.agg #[.int .i64 a, .int .i64 c])).run Try.prog W = .ok true W := by
  go_simp
theorem stopsV_ok {b : Bch} {s : Shp} (hk : (chk b s).2.2 = 0) {i n : Nat} (hi : i < b.ts.length) (hn : n ≤ 40) : stopsV b s i n = .tuple #[.agg #[.int .i64 (rlo (bx b s i) (-s.sink * (n : Int))), .int .i64 (rhi (bx b s i) (-s.sink * (n : Int)))], .int .i64 0] := by
  have h : stepE b s i n = 0 := by rw [stepE_run hk, runE_zero]; omega
  unfold stopsV
  rw [if_pos h, Int.toNat_natCast]
theorem SB.cells {g : Nat} {b : Bch} {A : Option Addr} {c : Nat} {w : World} {t : TypeId} (h : Blk w g t (bV b A c)) : SB g b A c w := h.beach
set_option maxRecDepth 100000 in
set_option maxHeartbeats 8000000 in
theorem reached_c (b : Bch) (s : Shp) (A : Option Addr) (c : Nat) (n0 n1 : Nat) (w : World) (hp : TsAt w A b.ts) (h0 : n0 ≤ 255) (h1 : n1 ≤ 255) :
    Calls Try.prog 9 #[.agg (bV b A c), .agg (sV s), .agg #[.int .u8 n0, .int .u8 n1]] w fun e w' => e = .returned (.bool true) ∧ Below w.heap.size w w' := by
  have hs0 := (((Since.refl w).alloc (.cells (bV b A c) 26)).alloc (.cells (sV s) 28)).alloc (.cells #[.int .u8 n0, .int .u8 n1] 69)
  have HB0 := Lib.hid (((Blk.new w 26 (bV b A c)).alloc (.cells (sV s) 28)).alloc (.cells #[.int .u8 n0, .int .u8 n1] 69))
  have HS0 := Lib.hid ((Blk.new1 w (.cells (bV b A c) 26) 28 (sV s)).alloc (.cells #[.int .u8 n0, .int .u8 n1] 69))
  have HX0 := Lib.hid (Blk.new2 w (.cells (bV b A c) 26) (.cells (sV s) 28) 69 #[.int .u8 n0, .int .u8 n1])
  by_cases hk : (chk b s).2.2 = 0
  · obtain ⟨hB, hS⟩ := chk_ok.1 hk
    have hD : decide ((chk b s).2.2 = 0) = true := decide_eq_true hk
    have HD := Lib.hid hD
    clear hD
    have hl12 : b.ts.length ≤ 12 := hB.n1
    have hl1 : 1 ≤ b.ts.length := hB.n0
    obtain ⟨i, hi⟩ : ∃ i, n0 % b.ts.length = i := ⟨_, rfl⟩
    obtain ⟨m, hm⟩ : ∃ m, n1 % 41 = m := ⟨_, rfl⟩
    have hil : i < b.ts.length := by rw [← hi]; exact Nat.mod_lt _ (by omega)
    have hm40 : m ≤ 40 := by omega
    have HST := Lib.hid (stopsV_ok hk hil hm40)
    have htm : ((n0 : Int)).tmod (b.ts.length : Int) = (i : Int) := by rw [Int.tmod_eq_emod_of_nonneg (by omega), ← hi]; omega
    have htm2 : ((n1 : Int)).tmod 41 = (m : Int) := by rw [Int.tmod_eq_emod_of_nonneg (by omega)]; omega
    have hem : ((n0 : Int)) % (b.ts.length : Int) = (i : Int) := by rw [← hi]; omega
    have hem2 : ((n1 : Int)) % 41 = (m : Int) := by omega
    have hlz : ((b.ts.length : Int) == 0) = false := by rw [beq_eq_false_iff_ne]; omega
    have hw0 : IntKind.i64.wrap (n0 : Int) = n0 := IntWalk.i64_in _ (by omega)
    have hw1 : IntKind.i64.wrap (n1 : Int) = n1 := IntWalk.i64_in _ (by omega)
    have hwi : IntKind.i64.wrap (i : Int) = i := IntWalk.i64_in _ (by omega)
    have hwm : IntKind.i64.wrap (m : Int) = m := IntWalk.i64_in _ (by omega)
    clear hi hm hk
    have HOK := Lib.hid (bx_ok hB hS hil)
    go_enter Try.func9, Try.ntmps9
    go_wp2_with fail
    refine (valid_c b s A c _ (hp.keep hs0.1)).mono ?_
    rintro e w1 ⟨rfl, hb1⟩
    rw [HD.out]
    have hs1 := hs0.keep hb1
    have HB1 := Lib.hid (HB0.out.keep hb1)
    have HS1 := Lib.hid (HS0.out.keep hb1)
    obtain ⟨x0, x1⟩ : w1.cell? ⟨w.heap.size + 1 + 1, 0, none⟩ = some (.int .u8 n0) ∧ w1.cell? ⟨w.heap.size + 1 + 1, 1, none⟩ = some (.int .u8 n1) := ⟨(HX0.out.keep hb1).cell 0, (HX0.out.keep hb1).cell 1⟩
    obtain ⟨c0, c1, c2, c3, c4, c5⟩ := HB1.out.beach
    obtain ⟨d0, d1, d2⟩ := HS1.out.ship
    clear HB0 HS0 HX0 hs0
    go_wp2_with fail
    go_quiet (fail)
    go_wp2_with fail
    have hp1 := hp.keep hs1.1
    refine (stops_c b s A c i m _ (hp1.keep (bdrew (Below.refl _ _) _))).mono ?_
    rintro e w2 ⟨rfl, hb2⟩
    rw [HST.out]
    have hs2 := (Since.keep ⟨bdrew hs1.1 _, hs1.2⟩ hb2)
    have HB2 := Lib.hid ((show Blk (w1.drewN _) w.heap.size 26 (bV b A c) from HB1.out).keep hb2)
    have HS2 := Lib.hid ((show Blk (w1.drewN _) (w.heap.size + 1) 28 (sV s) from HS1.out).keep hb2)
    clear HB1 HS1 hs1 hb2 c0 c1 c2 c3 c4 c5 d0 d1 d2 x0 x1 hp1
    obtain ⟨y, hy⟩ : ∃ y, bx b s i = y := ⟨_, rfl⟩
    obtain ⟨lb, hlb⟩ : ∃ lb, -s.sink * (m : Int) = lb := ⟨_, rfl⟩
    rw [hy, hlb]
    rw [hy] at HOK
    have HY := Lib.hid hy
    have HLB := Lib.hid hlb
    clear hy hlb HST
    have HLO : Hid (rlo y lb = min (pl (endV y false false).1 (endV y false false).2.1 (endV y false false).2.2.1 (endV y false false).2.2.2 lb) (pl (endV y false true).1 (endV y false true).2.1 (endV y false true).2.2.1 (endV y false true).2.2.2 lb)) := rfl
    have HHI : Hid (rhi y lb = max (pl (endV y true false).1 (endV y true false).2.1 (endV y true false).2.2.1 (endV y true false).2.2.2 lb) (pl (endV y true true).1 (endV y true true).2.1 (endV y true true).2.2.1 (endV y true true).2.2.2 lb)) := rfl
    obtain ⟨p1, hp1⟩ : ∃ v, pl (endV y false false).1 (endV y false false).2.1 (endV y false false).2.2.1 (endV y false false).2.2.2 lb = v := ⟨_, rfl⟩
    obtain ⟨p2, hp2⟩ : ∃ v, pl (endV y false true).1 (endV y false true).2.1 (endV y false true).2.2.1 (endV y false true).2.2.2 lb = v := ⟨_, rfl⟩
    obtain ⟨p3, hp3⟩ : ∃ v, pl (endV y true false).1 (endV y true false).2.1 (endV y true false).2.2.1 (endV y true false).2.2.2 lb = v := ⟨_, rfl⟩
    obtain ⟨p4, hp4⟩ : ∃ v, pl (endV y true true).1 (endV y true true).2.1 (endV y true true).2.2.1 (endV y true true).2.2.2 lb = v := ⟨_, rfl⟩
    rw [hp1, hp2] at HLO
    rw [hp3, hp4] at HHI
    have C1 : ∀ (high steep : Bool) (W : World), TsAt W A b.ts → Calls Try.prog 41 #[.agg (bV b A c), .agg (sV s), .int .i64 i, .bool high, .bool steep] W fun e w' => e = .returned (.agg (trV (endV y high steep).1 (endV y high steep).2.1 (endV y high steep).2.2.1 (endV y high steep).2.2.2)) ∧ Below W.heap.size W w' := fun high steep W hW => by
      have h := end_c b s A c i high steep W hW hil (by omega)
      rwa [HY.out] at h
    have C2' : ∀ (high steep : Bool) (W : World), Calls Try.prog 38 #[.agg (sV s), .agg (trV (endV y high steep).1 (endV y high steep).2.1 (endV y high steep).2.2.1 (endV y high steep).2.2.2), .int .i64 m] W fun e w' => e = .returned (.int .i64 (pl (endV y high steep).1 (endV y high steep).2.1 (endV y high steep).2.2.1 (endV y high steep).2.2.2 lb)) ∧ Below W.heap.size W w' := fun high steep W => by
      have h := stop_c s _ _ _ _ (m : Int) W (endV_ok HOK.out high steep) hS.k0 hS.k1 (by omega) (by omega)
      rwa [HLB.out] at h
    have D1 := C2' false false
    have D2 := C2' false true
    have D3 := C2' true false
    have D4 := C2' true true
    rw [hp1] at D1
    rw [hp2] at D2
    rw [hp3] at D3
    rw [hp4] at D4
    clear hp1 hp2 hp3 hp4 C2' HOK HY HLB
    have E1 := Lib.hid C1
    have F1 := Lib.hid D1
    have F2 := Lib.hid D2
    have F3 := Lib.hid D3
    have F4 := Lib.hid D4
    clear C1 D1 D2 D3 D4
    clear htm htm2 hem hem2 hlz hw0 hw1 hwi hwm
    rcases (by omega : (p2 < p1 ∧ min p1 p2 = p2) ∨ (¬ p2 < p1 ∧ min p1 p2 = p1)) with ⟨h1, hx1⟩ | ⟨h1, hx1⟩ <;> rcases (by omega : (p3 < p4 ∧ max p3 p4 = p4) ∨ (¬ p3 < p4 ∧ max p3 p4 = p3)) with ⟨h2, hx2⟩ | ⟨h2, hx2⟩
    · rw [HLO.out, HHI.out, hx1, hx2]
      clear hx1 hx2 HLO HHI
      go_wp2_with fail
      have hs3 := hs2.alloc (.cells #[.int .i64 p2, .int .i64 p4] 23)
      have hB3 := (SB.cells HB2.out).alloc (.cells #[.int .i64 p2, .int .i64 p4] 23)
      have hS3 : SS (w.heap.size + 1) s _ := SS.alloc HS2.out.ship (.cells #[.int .i64 p2, .int .i64 p4] 23)
      have hC3 : C2 w2.heap.size p2 p4 _ := (Blk.new w2 23 #[.int .i64 p2, .int .i64 p4]).span
      have heq := eqSpan p2 p4
      obtain ⟨gs, hgs⟩ : ∃ gs, w2.heap.size = gs := ⟨_, rfl⟩
      obtain ⟨W3, hW3⟩ : ∃ W3, w2.alloc (.cells #[.int .i64 p2, .int .i64 p4] 23) = W3 := ⟨_, rfl⟩
      rw [hW3] at hs3 hB3 hS3 hC3 ⊢
      rw [hgs] at hC3 ⊢
      clear hW3 hgs hs2 HB2 HS2
      go_region_held3 (fun X => SB w.heap.size b A c X ∧ SS (w.heap.size + 1) s X ∧ C2 gs p2 p4 X ∧ Since w X)
        (first | with_reducible assumption | with_reducible exact ⟨hB3.drew, hS3.drew, hC3.drew, hs3.drew⟩ | (obtain ⟨s0, s1, s2, s3⟩ := ‹SB _ _ _ _ _ ∧ SS _ _ _ ∧ C2 _ _ _ _ ∧ Since _ _›; first | with_reducible exact ⟨s0.keep hb', s1.keep hb', s2.keep hb', s3.keep hb'⟩ | with_reducible exact ⟨s0.alloc _, s1.alloc _, s2.alloc _, s3.alloc _⟩))
        (first
          | (go_at_call 41; obtain ⟨s0, s1, s2, s3⟩ := ‹SB _ _ _ _ _ ∧ SS _ _ _ ∧ C2 _ _ _ _ ∧ Since _ _›; (with_reducible refine (E1.out _ _ _ (hp.keep s3.1)).mono ?_); rintro e w' ⟨rfl, hb'⟩)
          | (go_at_call 38; (with_reducible refine (F1.out _).mono ?_); rintro e w' ⟨rfl, hb'⟩)
          | (go_at_call 38; (with_reducible refine (F2.out _).mono ?_); rintro e w' ⟨rfl, hb'⟩)
)
      clear hB3 hS3 hC3 hs3
      obtain ⟨t0, t1, t2, t3⟩ := ‹SB _ _ _ _ _ ∧ SS _ _ _ ∧ C2 _ _ _ _ ∧ Since _ _›
      go_wp2_with fail
      go_region_held3 (fun X => SB w.heap.size b A c X ∧ SS (w.heap.size + 1) s X ∧ C2 gs p2 p4 X ∧ Since w X)
        (first | with_reducible assumption | with_reducible exact ⟨t0.drew, t1.drew, t2.drew, t3.drew⟩ | (obtain ⟨s0, s1, s2, s3⟩ := ‹SB _ _ _ _ _ ∧ SS _ _ _ ∧ C2 _ _ _ _ ∧ Since _ _›; first | with_reducible exact ⟨s0.keep hb', s1.keep hb', s2.keep hb', s3.keep hb'⟩ | with_reducible exact ⟨s0.alloc _, s1.alloc _, s2.alloc _, s3.alloc _⟩))
        (first
          | (go_at_call 41; obtain ⟨s0, s1, s2, s3⟩ := ‹SB _ _ _ _ _ ∧ SS _ _ _ ∧ C2 _ _ _ _ ∧ Since _ _›; (with_reducible refine (E1.out _ _ _ (hp.keep s3.1)).mono ?_); rintro e w' ⟨rfl, hb'⟩)
          | (go_at_call 38; (with_reducible refine (F3.out _).mono ?_); rintro e w' ⟨rfl, hb'⟩)
          | (go_at_call 38; (with_reducible refine (F4.out _).mono ?_); rintro e w' ⟨rfl, hb'⟩)
)
      clear t0 t1 t2 t3
      obtain ⟨t0, t1, t2, t3⟩ := ‹SB _ _ _ _ _ ∧ SS _ _ _ ∧ C2 _ _ _ _ ∧ Since _ _›
      go_wp2_with fail
      go_region_held3 (fun X => SB w.heap.size b A c X ∧ SS (w.heap.size + 1) s X ∧ C2 gs p2 p4 X ∧ Since w X)
        (first | with_reducible assumption | with_reducible exact ⟨t0.drew, t1.drew, t2.drew, t3.drew⟩ | (obtain ⟨s0, s1, s2, s3⟩ := ‹SB _ _ _ _ _ ∧ SS _ _ _ ∧ C2 _ _ _ _ ∧ Since _ _›; first | with_reducible exact ⟨s0.keep hb', s1.keep hb', s2.keep hb', s3.keep hb'⟩ | with_reducible exact ⟨s0.alloc _, s1.alloc _, s2.alloc _, s3.alloc _⟩))
        (first
          | (go_at_call 36; (with_reducible refine (span_c _ _ _).mono ?_); rintro e w' ⟨rfl, hb'⟩)
          | (go_at_call 23; (with_reducible refine (awake_c _).mono ?_); rintro e w' ⟨rfl, hb'⟩)
)
      clear t0 t1 t2 t3
      obtain ⟨t0, t1, t2, t3⟩ := ‹SB _ _ _ _ _ ∧ SS _ _ _ ∧ C2 _ _ _ _ ∧ Since _ _›
      go_wp2_with fail
      go_ret
      exact ⟨rfl, t3.1⟩
    · rw [HLO.out, HHI.out, hx1, hx2]
      clear hx1 hx2 HLO HHI
      go_wp2_with fail
      have hs3 := hs2.alloc (.cells #[.int .i64 p2, .int .i64 p3] 23)
      have hB3 := (SB.cells HB2.out).alloc (.cells #[.int .i64 p2, .int .i64 p3] 23)
      have hS3 : SS (w.heap.size + 1) s _ := SS.alloc HS2.out.ship (.cells #[.int .i64 p2, .int .i64 p3] 23)
      have hC3 : C2 w2.heap.size p2 p3 _ := (Blk.new w2 23 #[.int .i64 p2, .int .i64 p3]).span
      have heq := eqSpan p2 p3
      obtain ⟨gs, hgs⟩ : ∃ gs, w2.heap.size = gs := ⟨_, rfl⟩
      obtain ⟨W3, hW3⟩ : ∃ W3, w2.alloc (.cells #[.int .i64 p2, .int .i64 p3] 23) = W3 := ⟨_, rfl⟩
      rw [hW3] at hs3 hB3 hS3 hC3 ⊢
      rw [hgs] at hC3 ⊢
      clear hW3 hgs hs2 HB2 HS2
      go_region_held3 (fun X => SB w.heap.size b A c X ∧ SS (w.heap.size + 1) s X ∧ C2 gs p2 p3 X ∧ Since w X)
        (first | with_reducible assumption | with_reducible exact ⟨hB3.drew, hS3.drew, hC3.drew, hs3.drew⟩ | (obtain ⟨s0, s1, s2, s3⟩ := ‹SB _ _ _ _ _ ∧ SS _ _ _ ∧ C2 _ _ _ _ ∧ Since _ _›; first | with_reducible exact ⟨s0.keep hb', s1.keep hb', s2.keep hb', s3.keep hb'⟩ | with_reducible exact ⟨s0.alloc _, s1.alloc _, s2.alloc _, s3.alloc _⟩))
        (first
          | (go_at_call 41; obtain ⟨s0, s1, s2, s3⟩ := ‹SB _ _ _ _ _ ∧ SS _ _ _ ∧ C2 _ _ _ _ ∧ Since _ _›; (with_reducible refine (E1.out _ _ _ (hp.keep s3.1)).mono ?_); rintro e w' ⟨rfl, hb'⟩)
          | (go_at_call 38; (with_reducible refine (F1.out _).mono ?_); rintro e w' ⟨rfl, hb'⟩)
          | (go_at_call 38; (with_reducible refine (F2.out _).mono ?_); rintro e w' ⟨rfl, hb'⟩)
)
      clear hB3 hS3 hC3 hs3
      obtain ⟨t0, t1, t2, t3⟩ := ‹SB _ _ _ _ _ ∧ SS _ _ _ ∧ C2 _ _ _ _ ∧ Since _ _›
      go_wp2_with fail
      go_region_held3 (fun X => SB w.heap.size b A c X ∧ SS (w.heap.size + 1) s X ∧ C2 gs p2 p3 X ∧ Since w X)
        (first | with_reducible assumption | with_reducible exact ⟨t0.drew, t1.drew, t2.drew, t3.drew⟩ | (obtain ⟨s0, s1, s2, s3⟩ := ‹SB _ _ _ _ _ ∧ SS _ _ _ ∧ C2 _ _ _ _ ∧ Since _ _›; first | with_reducible exact ⟨s0.keep hb', s1.keep hb', s2.keep hb', s3.keep hb'⟩ | with_reducible exact ⟨s0.alloc _, s1.alloc _, s2.alloc _, s3.alloc _⟩))
        (first
          | (go_at_call 41; obtain ⟨s0, s1, s2, s3⟩ := ‹SB _ _ _ _ _ ∧ SS _ _ _ ∧ C2 _ _ _ _ ∧ Since _ _›; (with_reducible refine (E1.out _ _ _ (hp.keep s3.1)).mono ?_); rintro e w' ⟨rfl, hb'⟩)
          | (go_at_call 38; (with_reducible refine (F3.out _).mono ?_); rintro e w' ⟨rfl, hb'⟩)
          | (go_at_call 38; (with_reducible refine (F4.out _).mono ?_); rintro e w' ⟨rfl, hb'⟩)
)
      clear t0 t1 t2 t3
      obtain ⟨t0, t1, t2, t3⟩ := ‹SB _ _ _ _ _ ∧ SS _ _ _ ∧ C2 _ _ _ _ ∧ Since _ _›
      go_wp2_with fail
      go_region_held3 (fun X => SB w.heap.size b A c X ∧ SS (w.heap.size + 1) s X ∧ C2 gs p2 p3 X ∧ Since w X)
        (first | with_reducible assumption | with_reducible exact ⟨t0.drew, t1.drew, t2.drew, t3.drew⟩ | (obtain ⟨s0, s1, s2, s3⟩ := ‹SB _ _ _ _ _ ∧ SS _ _ _ ∧ C2 _ _ _ _ ∧ Since _ _›; first | with_reducible exact ⟨s0.keep hb', s1.keep hb', s2.keep hb', s3.keep hb'⟩ | with_reducible exact ⟨s0.alloc _, s1.alloc _, s2.alloc _, s3.alloc _⟩))
        (first
          | (go_at_call 36; (with_reducible refine (span_c _ _ _).mono ?_); rintro e w' ⟨rfl, hb'⟩)
          | (go_at_call 23; (with_reducible refine (awake_c _).mono ?_); rintro e w' ⟨rfl, hb'⟩)
)
      clear t0 t1 t2 t3
      obtain ⟨t0, t1, t2, t3⟩ := ‹SB _ _ _ _ _ ∧ SS _ _ _ ∧ C2 _ _ _ _ ∧ Since _ _›
      go_wp2_with fail
      go_ret
      exact ⟨rfl, t3.1⟩
    · rw [HLO.out, HHI.out, hx1, hx2]
      clear hx1 hx2 HLO HHI
      go_wp2_with fail
      have hs3 := hs2.alloc (.cells #[.int .i64 p1, .int .i64 p4] 23)
      have hB3 := (SB.cells HB2.out).alloc (.cells #[.int .i64 p1, .int .i64 p4] 23)
      have hS3 : SS (w.heap.size + 1) s _ := SS.alloc HS2.out.ship (.cells #[.int .i64 p1, .int .i64 p4] 23)
      have hC3 : C2 w2.heap.size p1 p4 _ := (Blk.new w2 23 #[.int .i64 p1, .int .i64 p4]).span
      have heq := eqSpan p1 p4
      obtain ⟨gs, hgs⟩ : ∃ gs, w2.heap.size = gs := ⟨_, rfl⟩
      obtain ⟨W3, hW3⟩ : ∃ W3, w2.alloc (.cells #[.int .i64 p1, .int .i64 p4] 23) = W3 := ⟨_, rfl⟩
      rw [hW3] at hs3 hB3 hS3 hC3 ⊢
      rw [hgs] at hC3 ⊢
      clear hW3 hgs hs2 HB2 HS2
      go_region_held3 (fun X => SB w.heap.size b A c X ∧ SS (w.heap.size + 1) s X ∧ C2 gs p1 p4 X ∧ Since w X)
        (first | with_reducible assumption | with_reducible exact ⟨hB3.drew, hS3.drew, hC3.drew, hs3.drew⟩ | (obtain ⟨s0, s1, s2, s3⟩ := ‹SB _ _ _ _ _ ∧ SS _ _ _ ∧ C2 _ _ _ _ ∧ Since _ _›; first | with_reducible exact ⟨s0.keep hb', s1.keep hb', s2.keep hb', s3.keep hb'⟩ | with_reducible exact ⟨s0.alloc _, s1.alloc _, s2.alloc _, s3.alloc _⟩))
        (first
          | (go_at_call 41; obtain ⟨s0, s1, s2, s3⟩ := ‹SB _ _ _ _ _ ∧ SS _ _ _ ∧ C2 _ _ _ _ ∧ Since _ _›; (with_reducible refine (E1.out _ _ _ (hp.keep s3.1)).mono ?_); rintro e w' ⟨rfl, hb'⟩)
          | (go_at_call 38; (with_reducible refine (F1.out _).mono ?_); rintro e w' ⟨rfl, hb'⟩)
          | (go_at_call 38; (with_reducible refine (F2.out _).mono ?_); rintro e w' ⟨rfl, hb'⟩)
)
      clear hB3 hS3 hC3 hs3
      obtain ⟨t0, t1, t2, t3⟩ := ‹SB _ _ _ _ _ ∧ SS _ _ _ ∧ C2 _ _ _ _ ∧ Since _ _›
      go_wp2_with fail
      go_region_held3 (fun X => SB w.heap.size b A c X ∧ SS (w.heap.size + 1) s X ∧ C2 gs p1 p4 X ∧ Since w X)
        (first | with_reducible assumption | with_reducible exact ⟨t0.drew, t1.drew, t2.drew, t3.drew⟩ | (obtain ⟨s0, s1, s2, s3⟩ := ‹SB _ _ _ _ _ ∧ SS _ _ _ ∧ C2 _ _ _ _ ∧ Since _ _›; first | with_reducible exact ⟨s0.keep hb', s1.keep hb', s2.keep hb', s3.keep hb'⟩ | with_reducible exact ⟨s0.alloc _, s1.alloc _, s2.alloc _, s3.alloc _⟩))
        (first
          | (go_at_call 41; obtain ⟨s0, s1, s2, s3⟩ := ‹SB _ _ _ _ _ ∧ SS _ _ _ ∧ C2 _ _ _ _ ∧ Since _ _›; (with_reducible refine (E1.out _ _ _ (hp.keep s3.1)).mono ?_); rintro e w' ⟨rfl, hb'⟩)
          | (go_at_call 38; (with_reducible refine (F3.out _).mono ?_); rintro e w' ⟨rfl, hb'⟩)
          | (go_at_call 38; (with_reducible refine (F4.out _).mono ?_); rintro e w' ⟨rfl, hb'⟩)
)
      clear t0 t1 t2 t3
      obtain ⟨t0, t1, t2, t3⟩ := ‹SB _ _ _ _ _ ∧ SS _ _ _ ∧ C2 _ _ _ _ ∧ Since _ _›
      go_wp2_with fail
      go_region_held3 (fun X => SB w.heap.size b A c X ∧ SS (w.heap.size + 1) s X ∧ C2 gs p1 p4 X ∧ Since w X)
        (first | with_reducible assumption | with_reducible exact ⟨t0.drew, t1.drew, t2.drew, t3.drew⟩ | (obtain ⟨s0, s1, s2, s3⟩ := ‹SB _ _ _ _ _ ∧ SS _ _ _ ∧ C2 _ _ _ _ ∧ Since _ _›; first | with_reducible exact ⟨s0.keep hb', s1.keep hb', s2.keep hb', s3.keep hb'⟩ | with_reducible exact ⟨s0.alloc _, s1.alloc _, s2.alloc _, s3.alloc _⟩))
        (first
          | (go_at_call 36; (with_reducible refine (span_c _ _ _).mono ?_); rintro e w' ⟨rfl, hb'⟩)
          | (go_at_call 23; (with_reducible refine (awake_c _).mono ?_); rintro e w' ⟨rfl, hb'⟩)
)
      clear t0 t1 t2 t3
      obtain ⟨t0, t1, t2, t3⟩ := ‹SB _ _ _ _ _ ∧ SS _ _ _ ∧ C2 _ _ _ _ ∧ Since _ _›
      go_wp2_with fail
      go_ret
      exact ⟨rfl, t3.1⟩
    · rw [HLO.out, HHI.out, hx1, hx2]
      clear hx1 hx2 HLO HHI
      go_wp2_with fail
      have hs3 := hs2.alloc (.cells #[.int .i64 p1, .int .i64 p3] 23)
      have hB3 := (SB.cells HB2.out).alloc (.cells #[.int .i64 p1, .int .i64 p3] 23)
      have hS3 : SS (w.heap.size + 1) s _ := SS.alloc HS2.out.ship (.cells #[.int .i64 p1, .int .i64 p3] 23)
      have hC3 : C2 w2.heap.size p1 p3 _ := (Blk.new w2 23 #[.int .i64 p1, .int .i64 p3]).span
      have heq := eqSpan p1 p3
      obtain ⟨gs, hgs⟩ : ∃ gs, w2.heap.size = gs := ⟨_, rfl⟩
      obtain ⟨W3, hW3⟩ : ∃ W3, w2.alloc (.cells #[.int .i64 p1, .int .i64 p3] 23) = W3 := ⟨_, rfl⟩
      rw [hW3] at hs3 hB3 hS3 hC3 ⊢
      rw [hgs] at hC3 ⊢
      clear hW3 hgs hs2 HB2 HS2
      go_region_held3 (fun X => SB w.heap.size b A c X ∧ SS (w.heap.size + 1) s X ∧ C2 gs p1 p3 X ∧ Since w X)
        (first | with_reducible assumption | with_reducible exact ⟨hB3.drew, hS3.drew, hC3.drew, hs3.drew⟩ | (obtain ⟨s0, s1, s2, s3⟩ := ‹SB _ _ _ _ _ ∧ SS _ _ _ ∧ C2 _ _ _ _ ∧ Since _ _›; first | with_reducible exact ⟨s0.keep hb', s1.keep hb', s2.keep hb', s3.keep hb'⟩ | with_reducible exact ⟨s0.alloc _, s1.alloc _, s2.alloc _, s3.alloc _⟩))
        (first
          | (go_at_call 41; obtain ⟨s0, s1, s2, s3⟩ := ‹SB _ _ _ _ _ ∧ SS _ _ _ ∧ C2 _ _ _ _ ∧ Since _ _›; (with_reducible refine (E1.out _ _ _ (hp.keep s3.1)).mono ?_); rintro e w' ⟨rfl, hb'⟩)
          | (go_at_call 38; (with_reducible refine (F1.out _).mono ?_); rintro e w' ⟨rfl, hb'⟩)
          | (go_at_call 38; (with_reducible refine (F2.out _).mono ?_); rintro e w' ⟨rfl, hb'⟩)
)
      clear hB3 hS3 hC3 hs3
      obtain ⟨t0, t1, t2, t3⟩ := ‹SB _ _ _ _ _ ∧ SS _ _ _ ∧ C2 _ _ _ _ ∧ Since _ _›
      go_wp2_with fail
      go_region_held3 (fun X => SB w.heap.size b A c X ∧ SS (w.heap.size + 1) s X ∧ C2 gs p1 p3 X ∧ Since w X)
        (first | with_reducible assumption | with_reducible exact ⟨t0.drew, t1.drew, t2.drew, t3.drew⟩ | (obtain ⟨s0, s1, s2, s3⟩ := ‹SB _ _ _ _ _ ∧ SS _ _ _ ∧ C2 _ _ _ _ ∧ Since _ _›; first | with_reducible exact ⟨s0.keep hb', s1.keep hb', s2.keep hb', s3.keep hb'⟩ | with_reducible exact ⟨s0.alloc _, s1.alloc _, s2.alloc _, s3.alloc _⟩))
        (first
          | (go_at_call 41; obtain ⟨s0, s1, s2, s3⟩ := ‹SB _ _ _ _ _ ∧ SS _ _ _ ∧ C2 _ _ _ _ ∧ Since _ _›; (with_reducible refine (E1.out _ _ _ (hp.keep s3.1)).mono ?_); rintro e w' ⟨rfl, hb'⟩)
          | (go_at_call 38; (with_reducible refine (F3.out _).mono ?_); rintro e w' ⟨rfl, hb'⟩)
          | (go_at_call 38; (with_reducible refine (F4.out _).mono ?_); rintro e w' ⟨rfl, hb'⟩)
)
      clear t0 t1 t2 t3
      obtain ⟨t0, t1, t2, t3⟩ := ‹SB _ _ _ _ _ ∧ SS _ _ _ ∧ C2 _ _ _ _ ∧ Since _ _›
      go_wp2_with fail
      go_region_held3 (fun X => SB w.heap.size b A c X ∧ SS (w.heap.size + 1) s X ∧ C2 gs p1 p3 X ∧ Since w X)
        (first | with_reducible assumption | with_reducible exact ⟨t0.drew, t1.drew, t2.drew, t3.drew⟩ | (obtain ⟨s0, s1, s2, s3⟩ := ‹SB _ _ _ _ _ ∧ SS _ _ _ ∧ C2 _ _ _ _ ∧ Since _ _›; first | with_reducible exact ⟨s0.keep hb', s1.keep hb', s2.keep hb', s3.keep hb'⟩ | with_reducible exact ⟨s0.alloc _, s1.alloc _, s2.alloc _, s3.alloc _⟩))
        (first
          | (go_at_call 36; (with_reducible refine (span_c _ _ _).mono ?_); rintro e w' ⟨rfl, hb'⟩)
          | (go_at_call 23; (with_reducible refine (awake_c _).mono ?_); rintro e w' ⟨rfl, hb'⟩)
)
      clear t0 t1 t2 t3
      obtain ⟨t0, t1, t2, t3⟩ := ‹SB _ _ _ _ _ ∧ SS _ _ _ ∧ C2 _ _ _ _ ∧ Since _ _›
      go_wp2_with fail
      go_ret
      exact ⟨rfl, t3.1⟩
  · have hD : decide ((chk b s).2.2 = 0) = false := decide_eq_false hk
    have HD := Lib.hid hD
    clear hD hk
    go_enter Try.func9, Try.ntmps9
    go_wp2_with fail
    refine (valid_c b s A c _ (hp.keep hs0.1)).mono ?_
    rintro e w1 ⟨rfl, hb1⟩
    rw [HD.out]
    have hs1 := hs0.keep hb1
    go_wp2_with fail
    refine (awake_c _).mono ?_
    rintro e w2 ⟨rfl, hb2⟩
    have hs2 := hs1.keep hb2
    go_wp2_with fail
    go_ret
    exact ⟨rfl, hs2.1⟩
end Td
end Go.Proofs.Ytojpiliamecgkaa
