import Derived.Test.YtojpiliamecgkaaEnv
import Derived.Test.YtojpiliamecgkaaLeastsW
namespace Go.Proofs.Ytojpiliamecgkaa
open Go.RowKit
namespace Td
set_option linter.unusedSimpArgs false
set_option linter.unusedVariables false
theorem stopsV_bad {b : Bch} {s : Shp} (hk : (chk b s).2.2 ≠ 0) (t n : Int) : stopsV b s t n = .tuple #[.agg #[.int .i64 0, .int .i64 0], .int .i64 (chk b s).2.2] := by
  have h0 : stepE b s t n ≠ 0 := by rw [stepE_chk hk]; exact hk
  unfold stopsV
  rw [if_neg h0, stepE_chk hk]
theorem stopsV_ok {b : Bch} {s : Shp} (hk : (chk b s).2.2 = 0) {i m : Nat} (hi : i < b.ts.length) (hm : m ≤ 40) : stopsV b s i m = .tuple #[.agg #[.int .i64 (rlo (bx b s i) (-s.sink * (m : Int))), .int .i64 (rhi (bx b s i) (-s.sink * (m : Int)))], .int .i64 0] := by
  have h0 : stepE b s i m = 0 := by rw [stepE_run hk, runE_zero]; omega
  unfold stopsV
  rw [if_pos h0, Int.toNat_natCast]
theorem miss_any {b : Bch} {s : Shp} (hk : (chk b s).2.2 = 0) {i m : Nat} (hi : i < b.ts.length) (hm : m ≤ 40) (hx : BoxOk (bx b s i)) :
    ∃ q0 q1 q2 q3 qa ev : Int, missesV b s i m = .tuple #[.agg (trV q0 q1 q2 q3), .int .i64 qa, .int .i64 ev] ∧ (doesB b s i m = true → ev = 9) ∧
      (doesB b s i m = false → ev = 0 ∧ wi b.mlo b.mhi qa = false ∧ Inn (bx b s i) q0 q1 q2 q3 ∧ pl q0 q1 q2 q3 (-s.sink * (m : Int)) = qa) := by
  cases h : doesB b s i m with
  | true => exact ⟨0, 0, 0, 0, 0, 9, missesV_down hk hi hm h, fun _ => rfl, fun h => by cases h⟩
  | false => exact ⟨_, _, _, _, _, 0, missesV_ok hk hi hm h, (fun h => by cases h), fun _ => ⟨rfl, miss_out hx h, mis_in hx h, rfl⟩⟩
theorem mem_ash {b : Bch} {s : Shp} {i m k : Nat} (hi : i < k) : decide ((i : Int) ∈ ashL b s m k) = doesB b s i m := by
  rw [Bool.eq_iff_iff, decide_eq_true_iff]
  unfold ashL
  simp only [List.mem_map, List.mem_filter, List.mem_range]
  constructor
  · rintro ⟨a, ⟨_, h2⟩, h3⟩
    obtain rfl : a = i := by omega
    exact h2
  · exact fun h => ⟨i, ⟨hi, h⟩, rfl⟩
set_option maxRecDepth 100000 in
set_option maxHeartbeats 16000000 in
theorem tideTrue_c (b : Bch) (s : Shp) (A : Option Addr) (c n0 n1 : Nat) (P : Option Addr) (l : List Int) (pc : Nat) (w : World) (hp : TsAt w A b.ts) (h0 : n0 ≤ 255) (h1 : n1 ≤ 255) (hu : U16At w P l) (ho : U16Ok l) :
    Calls Try.prog 8 #[.agg (bV b A c), .agg (sV s), .agg #[.int .u8 n0, .int .u8 n1, .slice P l.length pc]] w fun e w' => e = .returned (.bool true) ∧ Below w.heap.size w w' := by
  obtain ⟨xs, hxs⟩ : ∃ xs : List Value, xs = [.int .u8 n0, .int .u8 n1, .slice P l.length pc] := ⟨_, rfl⟩
  have hE0 : Env w.heap.size (w.heap.size + 1) (w.heap.size + 1 + 1) b A c s xs P l w (((w.alloc (.cells (bV b A c) 26)).alloc (.cells (sV s) 28)).alloc (.cells #[.int .u8 n0, .int .u8 n1, .slice P l.length pc] 61)) := by
    have hs0 := (((Since.refl w).alloc (.cells (bV b A c) 26)).alloc (.cells (sV s) 28)).alloc (.cells #[.int .u8 n0, .int .u8 n1, .slice P l.length pc] 61)
    refine ⟨(((Blk.new w 26 (bV b A c)).alloc (.cells (sV s) 28)).alloc _).beach, ((Blk.new1 w (.cells (bV b A c) 26) 28 (sV s)).alloc _).ship, fun j v hj => ?_, hp.keep hs0.1, hu.keep hs0.1, hs0⟩
    subst hxs
    rw [(Blk.new2 w (.cells (bV b A c) 26) (.cells (sV s) 28) 61 #[.int .u8 n0, .int .u8 n1, .slice P l.length pc]).cell j]
    simpa using hj
  have HX : Hid (xs = [.int .u8 n0, .int .u8 n1, .slice P l.length pc]) := hxs
  have HE0 := Lib.hid hE0
  clear hE0 hxs
  by_cases hk : (chk b s).2.2 = 0
  · obtain ⟨hB, hS⟩ := chk_ok.1 hk
    have HD : Hid (decide ((chk b s).2.2 = 0) = true) := decide_eq_true hk
    have hl12 : b.ts.length ≤ 12 := hB.n1
    have hl1 : 1 ≤ b.ts.length := hB.n0
    obtain ⟨i, hi⟩ : ∃ i, n0 % b.ts.length = i := ⟨_, rfl⟩
    have hil : i < b.ts.length := by rw [← hi]; exact Nat.mod_lt _ (by omega)
    have hem : ((n0 : Int)) % (b.ts.length : Int) = (i : Int) := by rw [← hi]; omega
    have htm : ((n0 : Int)).tmod (b.ts.length : Int) = (i : Int) := by rw [Int.tmod_eq_emod_of_nonneg (by omega)]; exact hem
    have hlz : ((b.ts.length : Int) == 0) = false := by rw [beq_eq_false_iff_ne]; omega
    have hw0 : IntKind.i64.wrap (n0 : Int) = n0 := IntWalk.i64_in _ (by omega)
    have hw1 : IntKind.i64.wrap (n1 : Int) = n1 := IntWalk.i64_in _ (by omega)
    have hwi : IntKind.i64.wrap (i : Int) = i := IntWalk.i64_in _ (by omega)
    obtain ⟨m, hm⟩ : ∃ m, n1 % 41 = m := ⟨_, rfl⟩
    have hm40 : m ≤ 40 := by omega
    have hem2 : ((n1 : Int)) % (41 : Int) = (m : Int) := by rw [← hm]; omega
    have htm2 : ((n1 : Int)).tmod (41 : Int) = (m : Int) := by rw [Int.tmod_eq_emod_of_nonneg (by omega)]; exact hem2
    have hkz : ((41 : Int) == 0) = false := rfl
    have hwm : IntKind.i64.wrap (m : Int) = m := IntWalk.i64_in _ (by omega)
    clear hi hm
    obtain ⟨ad, hA, _⟩ := hp.get hil
    subst hA
    have HOK := Lib.hid (bx_ok hB hS hil)
    have HST := Lib.hid (stopsV_ok hk hil hm40)
    obtain ⟨q0, q1, q2, q3, qa, ev, hmv, hev9, hev0⟩ := miss_any hk hil hm40 HOK.out
    have HMV := Lib.hid hmv
    have HV9 := Lib.hid hev9
    have HV0 := Lib.hid hev0
    clear hmv hev9 hev0
    obtain ⟨N, hN⟩ : ∃ N, pl (truthV (bx b s i) i l).1 (truthV (bx b s i) i l).2.1 (truthV (bx b s i) i l).2.2.1 (truthV (bx b s i) i l).2.2.2 (-s.sink * (m : Int)) = N := ⟨_, rfl⟩
    have HNN := Lib.hid hN
    have hin := pl_in (-s.sink * (m : Int)) HOK.out (truthV_in HOK.out i l)
    rw [hN] at hin
    have HIN : Hid (wi (rlo (bx b s i) (-s.sink * (m : Int))) (rhi (bx b s i) (-s.sink * (m : Int))) N = true) := wi_iff.2 hin
    have HSU : Hid (doesB b s i m = true → wi b.mlo b.mhi N = true) := fun h => by
      have := sur_in (x := bx b s i) HOK.out (truthV_in HOK.out i l) h
      rwa [hN] at this
    clear hin hN
    generalize rlo (bx b s i) (-s.sink * (m : Int)) = r0 at *
    generalize rhi (bx b s i) (-s.sink * (m : Int)) = r1 at *
    obtain ⟨L, hL⟩ : ∃ L, ashL b s m b.ts.length = L := ⟨_, rfl⟩
    have hLn : L.length ≤ 12 := by
      have := ashL_len b s m b.ts.length
      rw [hL] at this
      omega
    have HME : Hid (decide ((i : Int) ∈ L) = doesB b s i m) := by
      show _ = _
      rw [← hL]; exact mem_ash hil
    have HC : Hid (∀ W : World, TsAt W (some ad) b.ts → Calls Try.prog 20 #[.agg (bV b (some ad) c), .agg (sV s), .int .i64 (m : Int)] W fun e w' => (∃ P pc, e = .returned (.tuple #[.slice P L.length pc, .int .i64 0]) ∧ InAt w' P L) ∧ Below W.heap.size W w') := fun W hW => by
      refine (ashore_c b s (some ad) c (m : Int) W hW).mono ?_
      rintro e w' ⟨h1, h2⟩
      have h0 : stepE b s 0 (m : Int) = 0 := by rw [stepE_run hk, runE_zero]; omega
      rcases h1 with ⟨h9, _⟩ | ⟨_, v, he, hv⟩
      · exact absurd h0 h9
      · rw [Int.toNat_natCast, hL] at hv
        obtain ⟨P, pc, rfl, hin⟩ := hv.slice
        exact ⟨⟨P, pc, he, hin⟩, h2⟩
    clear hL
    have HK := Lib.hid hk
    clear hk
    go_enter Try.func8, Try.ntmps8
    go_wp2_with fail
    refine (valid_c b s (some ad) c _ HE0.out.ts).mono ?_
    rintro e w1 ⟨rfl, hb1⟩
    rw [HD.out]
    have HE1 := Lib.hid (HE0.out.keep hb1)
    clear HE0 hb1
    go_wp2_with fail
    refine Vals.region (fun X => Env (w.heap.size) (w.heap.size + 1) (w.heap.size + 1 + 1) b (some ad) c s xs P l w X) (fun X => Env (w.heap.size) (w.heap.size + 1) (w.heap.size + 1 + 1) b (some ad) c s xs P l w X) [some 37, some 38, some 39, some 40, some 41, some 42, some 43, some 44, some 45, some 46, some 47, some 9, some 10] [.pointer (some ⟨w.heap.size + 1 + 1, 0, none⟩), .int .u8 (n0 : Int), .int .i64 (n0 : Int), .pointer (some ⟨w.heap.size, 5, none⟩), .slice (some ad) b.ts.length c, .int .i64 (b.ts.length : Int), .int .i64 (i : Int), .pointer (some ⟨w.heap.size + 1 + 1, 1, none⟩), .int .u8 (n1 : Int), .int .i64 (n1 : Int), .int .i64 (m : Int), .int .i64 (i : Int), .int .i64 (m : Int)] (by kernel_rfl) (by kernel_rfl) (by kernel_rfl) (by kernel_rfl) (by kernel_rfl) (by kernel_rfl) (by kernel_rfl) HE1.out.drew ?_ ?_
    · refine Vals.Steps.run (by kernel_rfl) ?_ ?_
      · intro a W hSt pre old K hK
        have e5 : a.tmps.getD 5 undef = .pointer (some ⟨w.heap.size + 1 + 1, 0, none⟩) := old 5 _ (by kernel_rfl) rfl
        clear pre old
        simp only [Array.getD_eq_getD_getElem?] at e5
        go_simp
        exact hK _ hSt
      refine Vals.Steps.run (by kernel_rfl) ?_ ?_
      · intro a W hSt pre old K hK
        have e37 : a.tmps.getD 37 undef = .pointer (some ⟨w.heap.size + 1 + 1, 0, none⟩) := pre 0 37 _ (by kernel_rfl) rfl rfl
        clear pre old
        simp only [Array.getD_eq_getD_getElem?] at e37
        have hS9 := hSt
        obtain ⟨⟨s0, s1, s2, s3, s4, s5⟩, ⟨d0, d1, d2⟩, sx, ts, us, sn⟩ := hS9
        rw [HX.out] at sx
        have x0 := sx 0 _ rfl
        have x1 := sx 1 _ rfl
        have x2 := sx 2 _ rfl
        go_simp
        exact hK _ hSt
      refine Vals.Steps.run (by kernel_rfl) ?_ ?_
      · intro a W hSt pre old K hK
        have e38 : a.tmps.getD 38 undef = .int .u8 (n0 : Int) := pre 1 38 _ (by kernel_rfl) rfl rfl
        clear pre old
        simp only [Array.getD_eq_getD_getElem?] at e38
        go_simp
        exact hK _ hSt
      refine Vals.Steps.run (by kernel_rfl) ?_ ?_
      · intro a W hSt pre old K hK
        have e3 : a.tmps.getD 3 undef = .pointer (some ⟨w.heap.size, 0, none⟩) := old 3 _ (by kernel_rfl) rfl
        clear pre old
        simp only [Array.getD_eq_getD_getElem?] at e3
        go_simp
        exact hK _ hSt
      refine Vals.Steps.run (by kernel_rfl) ?_ ?_
      · intro a W hSt pre old K hK
        have e40 : a.tmps.getD 40 undef = .pointer (some ⟨w.heap.size, 5, none⟩) := pre 3 40 _ (by kernel_rfl) rfl rfl
        clear pre old
        simp only [Array.getD_eq_getD_getElem?] at e40
        have hS9 := hSt
        obtain ⟨⟨s0, s1, s2, s3, s4, s5⟩, ⟨d0, d1, d2⟩, sx, ts, us, sn⟩ := hS9
        rw [HX.out] at sx
        have x0 := sx 0 _ rfl
        have x1 := sx 1 _ rfl
        have x2 := sx 2 _ rfl
        go_simp
        exact hK _ hSt
      refine Vals.Steps.run (by kernel_rfl) ?_ ?_
      · intro a W hSt pre old K hK
        have e41 : a.tmps.getD 41 undef = .slice (some ad) b.ts.length c := pre 4 41 _ (by kernel_rfl) rfl rfl
        clear pre old
        simp only [Array.getD_eq_getD_getElem?] at e41
        go_simp
        exact hK _ hSt
      refine Vals.Steps.run (by kernel_rfl) ?_ ?_
      · intro a W hSt pre old K hK
        have e39 : a.tmps.getD 39 undef = .int .i64 (n0 : Int) := pre 2 39 _ (by kernel_rfl) rfl rfl
        have e42 : a.tmps.getD 42 undef = .int .i64 (b.ts.length : Int) := pre 5 42 _ (by kernel_rfl) rfl rfl
        clear pre old
        simp only [Array.getD_eq_getD_getElem?] at e39 e42
        go_simp
        first | exact hK _ hSt | (rw [if_neg (show ¬ b.ts = [] from fun e => by simp [e] at hl1)]; first | exact hK _ hSt | (rw [htm]; exact hK _ hSt) | (rw [htm2]; exact hK _ hSt))
      refine Vals.Steps.run (by kernel_rfl) ?_ ?_
      · intro a W hSt pre old K hK
        have e5 : a.tmps.getD 5 undef = .pointer (some ⟨w.heap.size + 1 + 1, 0, none⟩) := old 5 _ (by kernel_rfl) rfl
        clear pre old
        simp only [Array.getD_eq_getD_getElem?] at e5
        go_simp
        exact hK _ hSt
      refine Vals.Steps.run (by kernel_rfl) ?_ ?_
      · intro a W hSt pre old K hK
        have e44 : a.tmps.getD 44 undef = .pointer (some ⟨w.heap.size + 1 + 1, 1, none⟩) := pre 7 44 _ (by kernel_rfl) rfl rfl
        clear pre old
        simp only [Array.getD_eq_getD_getElem?] at e44
        have hS9 := hSt
        obtain ⟨⟨s0, s1, s2, s3, s4, s5⟩, ⟨d0, d1, d2⟩, sx, ts, us, sn⟩ := hS9
        rw [HX.out] at sx
        have x0 := sx 0 _ rfl
        have x1 := sx 1 _ rfl
        have x2 := sx 2 _ rfl
        go_simp
        exact hK _ hSt
      refine Vals.Steps.run (by kernel_rfl) ?_ ?_
      · intro a W hSt pre old K hK
        have e45 : a.tmps.getD 45 undef = .int .u8 (n1 : Int) := pre 8 45 _ (by kernel_rfl) rfl rfl
        clear pre old
        simp only [Array.getD_eq_getD_getElem?] at e45
        go_simp
        exact hK _ hSt
      refine Vals.Steps.run (by kernel_rfl) ?_ ?_
      · intro a W hSt pre old K hK
        have e46 : a.tmps.getD 46 undef = .int .i64 (n1 : Int) := pre 9 46 _ (by kernel_rfl) rfl rfl
        clear pre old
        simp only [Array.getD_eq_getD_getElem?] at e46
        go_simp
        first | exact hK _ hSt | (rw [if_neg (show ¬ b.ts = [] from fun e => by simp [e] at hl1)]; first | exact hK _ hSt | (rw [htm]; exact hK _ hSt) | (rw [htm2]; exact hK _ hSt))
      refine Vals.Steps.run (by kernel_rfl) ?_ ?_
      · intro a W hSt pre old K hK
        have e43 : a.tmps.getD 43 undef = .int .i64 (i : Int) := pre 6 43 _ (by kernel_rfl) rfl rfl
        clear pre old
        simp only [Array.getD_eq_getD_getElem?] at e43
        go_simp
        exact hK _ hSt
      refine Vals.Steps.last (by kernel_rfl) ?_
      · intro a W hSt pre old K hK
        have e47 : a.tmps.getD 47 undef = .int .i64 (m : Int) := pre 10 47 _ (by kernel_rfl) rfl rfl
        clear pre old
        simp only [Array.getD_eq_getD_getElem?] at e47
        go_simp
        exact hK _ hSt
    · rintro w1' hE1
      clear HE1
      have HE1 := Lib.hid hE1
      clear hE1
      simp only [Vals.putAll, List.setIfInBounds_toArray, List.set_cons_zero, List.set_cons_succ]
      obtain ⟨⟨c0, c1, c2, c3, c4, c5⟩, ⟨d0, d1, d2⟩, sx, _, _, _⟩ := HE1.out
      rw [HX.out] at sx
      have x0 := sx 0 _ rfl
      have x1 := sx 1 _ rfl
      have x2 := sx 2 _ rfl
      clear sx
      go_wp2_with fail
      refine (stops_c b s (some ad) c i m _ HE1.out.ts).mono ?_
      rintro e w2 ⟨rfl, hb2⟩
      rw [HST.out]
      clear hem htm hlz hwi hem2 htm2 hkz hwm hw0 hw1 c0 c1 c2 c3 c4 c5 d0 d1 d2 x0 x1 x2
      have HE2 := Lib.hid ((HE1.out.keep hb2).alloc (.cells #[.int .i64 r0, .int .i64 r1] 23))
      have hS2 := Lib.hid (show C2 w2.heap.size r0 r1 _ from (Blk.new w2 23 #[.int .i64 r0, .int .i64 r1]).span)
      clear HE1 hb2
      obtain ⟨⟨c0, c1, c2, c3, c4, c5⟩, ⟨d0, d1, d2⟩, sx, _, _, _⟩ := HE2.out
      clear sx
      go_wp2_with fail
      obtain ⟨gS, hgS⟩ : ∃ gS, w2.heap.size = gS := ⟨_, rfl⟩
      rw [hgS] at hS2 ⊢
      refine (HC.out _ HE2.out.ts).mono ?_
      rintro e w3 ⟨⟨P2, pc2, rfl, hin⟩, hb3⟩
      have HE3 := Lib.hid (HE2.out.keep hb3)
      have hS3 := Lib.hid (hS2.out.keep hb3)
      have HI3 := Lib.hid hin
      clear hin HE2 hS2 hb3 c0 c1 c2 c3 c4 c5 d0 d1 d2
      obtain ⟨⟨c0, c1, c2, c3, c4, c5⟩, ⟨d0, d1, d2⟩, sx, _, _, _⟩ := HE3.out
      clear sx
      go_wp2_with fail
      refine (misses_c b s (some ad) c i m _ HE3.out.ts).mono ?_
      rintro e w4 ⟨rfl, hb4⟩
      rw [HMV.out]
      have HE4 := Lib.hid ((HE3.out.keep hb4).alloc (.cells (trV q0 q1 q2 q3) 45))
      have hT4 := Lib.hid (show C4 w4.heap.size q0 q1 q2 q3 _ from (Blk.new w4 45 (trV q0 q1 q2 q3)).tr)
      have hS4 := Lib.hid ((hS3.out.keep hb4).alloc (.cells (trV q0 q1 q2 q3) 45))
      have HI4 := Lib.hid ((HI3.out.keep hb4).keep ((Below.refl _ _).alloc (Nat.le_refl _) (.cells (trV q0 q1 q2 q3) 45)))
      clear HE3 hS3 HI3 hb4 c0 c1 c2 c3 c4 c5 d0 d1 d2
      go_wp2_with fail
      obtain ⟨gT, hgT⟩ : ∃ gT, w4.heap.size = gT := ⟨_, rfl⟩
      rw [hgT] at hT4 ⊢
      refine Vals.region (fun X => Env (w.heap.size) (w.heap.size + 1) (w.heap.size + 1 + 1) b (some ad) c s xs P l w X ∧ C2 gS r0 r1 X ∧ C4 gT q0 q1 q2 q3 X ∧ InAt X P2 L) (fun X => Env (w.heap.size) (w.heap.size + 1) (w.heap.size + 1 + 1) b (some ad) c s xs P l w X ∧ C2 gS r0 r1 X ∧ C4 gT q0 q1 q2 q3 X ∧ InAt X P2 L) [some 72, some 73, some 74, some 75, some 76, some 77, some 78, some 79, some 80, some 18] [.agg (sV s), .agg (bV b (some ad) c), .agg (sV s), .int .i64 (i : Int), .pointer (some ⟨w.heap.size + 1 + 1, 2, none⟩), .slice P l.length pc, .agg (trV (truthV (bx b s i) i l).1 (truthV (bx b s i) i l).2.1 (truthV (bx b s i) i l).2.2.1 (truthV (bx b s i) i l).2.2.2), .int .i64 (m : Int), .int .i64 N, .int .i64 N] (by kernel_rfl) (by kernel_rfl) (by kernel_rfl) (by kernel_rfl) (by kernel_rfl) (by kernel_rfl) (by kernel_rfl) ⟨HE4.out.drew, hS4.out.drew, hT4.out.drew, HI4.out⟩ ?_ ?_
      · refine Vals.Steps.run (by kernel_rfl) ?_ ?_
        · intro a W hSt pre old K hK
          have e4 : a.tmps.getD 4 undef = .pointer (some ⟨w.heap.size + 1, 0, none⟩) := old 4 _ (by kernel_rfl) rfl
          clear pre old
          simp only [Array.getD_eq_getD_getElem?] at e4
          have hS9 := hSt
          obtain ⟨⟨⟨s0, s1, s2, s3, s4, s5⟩, ⟨d0, d1, d2⟩, sx, ts, us, sn⟩, ⟨p0, p1⟩, ⟨t0, t1, t2, t3⟩, hI⟩ := hS9
          rw [HX.out] at sx
          have x0 := sx 0 _ rfl
          have x1 := sx 1 _ rfl
          have x2 := sx 2 _ rfl
          go_simp
          exact hK _ hSt
        refine Vals.Steps.run (by kernel_rfl) ?_ ?_
        · intro a W hSt pre old K hK
          have e3 : a.tmps.getD 3 undef = .pointer (some ⟨w.heap.size, 0, none⟩) := old 3 _ (by kernel_rfl) rfl
          clear pre old
          simp only [Array.getD_eq_getD_getElem?] at e3
          have hS9 := hSt
          obtain ⟨⟨⟨s0, s1, s2, s3, s4, s5⟩, ⟨d0, d1, d2⟩, sx, ts, us, sn⟩, ⟨p0, p1⟩, ⟨t0, t1, t2, t3⟩, hI⟩ := hS9
          rw [HX.out] at sx
          have x0 := sx 0 _ rfl
          have x1 := sx 1 _ rfl
          have x2 := sx 2 _ rfl
          go_simp
          exact hK _ hSt
        refine Vals.Steps.run (by kernel_rfl) ?_ ?_
        · intro a W hSt pre old K hK
          have e4 : a.tmps.getD 4 undef = .pointer (some ⟨w.heap.size + 1, 0, none⟩) := old 4 _ (by kernel_rfl) rfl
          clear pre old
          simp only [Array.getD_eq_getD_getElem?] at e4
          have hS9 := hSt
          obtain ⟨⟨⟨s0, s1, s2, s3, s4, s5⟩, ⟨d0, d1, d2⟩, sx, ts, us, sn⟩, ⟨p0, p1⟩, ⟨t0, t1, t2, t3⟩, hI⟩ := hS9
          rw [HX.out] at sx
          have x0 := sx 0 _ rfl
          have x1 := sx 1 _ rfl
          have x2 := sx 2 _ rfl
          go_simp
          exact hK _ hSt
        refine Vals.Steps.run (by kernel_rfl) ?_ ?_
        · intro a W hSt pre old K hK
          have e9 : a.tmps.getD 9 undef = .int .i64 (i : Int) := old 9 _ (by kernel_rfl) rfl
          clear pre old
          simp only [Array.getD_eq_getD_getElem?] at e9
          go_simp
          exact hK _ hSt
        refine Vals.Steps.run (by kernel_rfl) ?_ ?_
        · intro a W hSt pre old K hK
          have e5 : a.tmps.getD 5 undef = .pointer (some ⟨w.heap.size + 1 + 1, 0, none⟩) := old 5 _ (by kernel_rfl) rfl
          clear pre old
          simp only [Array.getD_eq_getD_getElem?] at e5
          go_simp
          exact hK _ hSt
        refine Vals.Steps.run (by kernel_rfl) ?_ ?_
        · intro a W hSt pre old K hK
          have e76 : a.tmps.getD 76 undef = .pointer (some ⟨w.heap.size + 1 + 1, 2, none⟩) := pre 4 76 _ (by kernel_rfl) rfl rfl
          clear pre old
          simp only [Array.getD_eq_getD_getElem?] at e76
          have hS9 := hSt
          obtain ⟨⟨⟨s0, s1, s2, s3, s4, s5⟩, ⟨d0, d1, d2⟩, sx, ts, us, sn⟩, ⟨p0, p1⟩, ⟨t0, t1, t2, t3⟩, hI⟩ := hS9
          rw [HX.out] at sx
          have x0 := sx 0 _ rfl
          have x1 := sx 1 _ rfl
          have x2 := sx 2 _ rfl
          go_simp
          exact hK _ hSt
        refine Vals.Steps.run (by kernel_rfl) ?_ ?_
        · intro a W hSt pre old K hK
          have e73 : a.tmps.getD 73 undef = .agg (bV b (some ad) c) := pre 1 73 _ (by kernel_rfl) rfl rfl
          have e74 : a.tmps.getD 74 undef = .agg (sV s) := pre 2 74 _ (by kernel_rfl) rfl rfl
          have e75 : a.tmps.getD 75 undef = .int .i64 (i : Int) := pre 3 75 _ (by kernel_rfl) rfl rfl
          have e77 : a.tmps.getD 77 undef = .slice P l.length pc := pre 5 77 _ (by kernel_rfl) rfl rfl
          clear pre old
          simp only [Array.getD_eq_getD_getElem?] at e73 e74 e75 e77
          go_simp
          obtain ⟨hE, hC2, hC4, hI⟩ := hSt
          refine (truth_c b s (some ad) c i P l pc _ hE.ts hB hS hil hE.us ho).mono ?_
          rintro e w' ⟨rfl, hb'⟩
          exact hK _ ⟨hE.keep hb', hC2.keep hb', hC4.keep hb', hI.keep hb'⟩
        refine Vals.Steps.run (by kernel_rfl) ?_ ?_
        · intro a W hSt pre old K hK
          have e10 : a.tmps.getD 10 undef = .int .i64 (m : Int) := old 10 _ (by kernel_rfl) rfl
          clear pre old
          simp only [Array.getD_eq_getD_getElem?] at e10
          go_simp
          exact hK _ hSt
        refine Vals.Steps.run (by kernel_rfl) ?_ ?_
        · intro a W hSt pre old K hK
          have e72 : a.tmps.getD 72 undef = .agg (sV s) := pre 0 72 _ (by kernel_rfl) rfl rfl
          have e78 : a.tmps.getD 78 undef = .agg (trV (truthV (bx b s i) i l).1 (truthV (bx b s i) i l).2.1 (truthV (bx b s i) i l).2.2.1 (truthV (bx b s i) i l).2.2.2) := pre 6 78 _ (by kernel_rfl) rfl rfl
          have e79 : a.tmps.getD 79 undef = .int .i64 (m : Int) := pre 7 79 _ (by kernel_rfl) rfl rfl
          clear pre old
          simp only [Array.getD_eq_getD_getElem?] at e72 e78 e79
          go_simp
          obtain ⟨hE, hC2, hC4, hI⟩ := hSt
          refine (stop_c s _ _ _ _ (m : Int) _ (inn_tr HOK.out (truthV_in HOK.out i l)) hS.k0 hS.k1 (by omega) (by omega)).mono ?_
          rintro e w' ⟨rfl, hb'⟩
          rw [HNN.out]
          exact hK _ ⟨hE.keep hb', hC2.keep hb', hC4.keep hb', hI.keep hb'⟩
        refine Vals.Steps.last (by kernel_rfl) ?_
        · intro a W hSt pre old K hK
          have e80 : a.tmps.getD 80 undef = .int .i64 N := pre 8 80 _ (by kernel_rfl) rfl rfl
          clear pre old
          simp only [Array.getD_eq_getD_getElem?] at e80
          go_simp
          exact hK _ hSt
      · rintro w5 ⟨hE5, hS5, hT5, hI5⟩
        simp only [Vals.putAll, List.setIfInBounds_toArray, List.set_cons_zero, List.set_cons_succ]
        clear HE4 hT4 hS4 HI4
        obtain ⟨p0, p1⟩ := id hS5
        go_wp2_with fail
        refine (inside_c _ _ _ _).mono ?_
        rintro e w6 ⟨rfl, hb6⟩
        rw [HIN.out]
        have HE6 := Lib.hid (hE5.keep hb6)
        have hS6 := Lib.hid (hS5.keep hb6)
        have hT6 := Lib.hid (hT5.keep hb6)
        have HI6 := Lib.hid (hI5.keep hb6)
        clear hE5 hS5 hT5 hI5 hb6 p0 p1
        go_wp2_with fail
        go_loop [19, 20] (fun t i' => ∃ k : Nat, k ≤ L.length ∧ i' = .int .i64 k ∧ t = .bool (decide ((i : Int) ∈ L.take k))) (fun _ i' => L.length - (intOf i').toNat)
        case atStart => exact ⟨0, Nat.zero_le _, rfl, by simp⟩
        case round =>
          obtain ⟨k, hk, rfl, rfl⟩ := hrel
          by_cases hlt : k < L.length
          · obtain ⟨ag, hA, y0⟩ := HI6.out.get hlt
            subst hA
            by_cases hm1 : (i : Int) ∈ L.take k
            · have HT1 : Hid (decide ((i : Int) ∈ L.take (k + 1)) = true) := by
                show _ = _
                rw [decide_eq_true_iff, List.take_succ_eq_append_getElem hlt]
                exact List.mem_append_left _ hm1
              rw [decide_eq_true hm1]
              clear hm1
              go_wp2_with fail
              go_round
              case rel => exact ⟨k + 1, by omega, by go_num, by rw [HT1.out]⟩
              case measure => simp [intOf]; omega
            · rw [decide_eq_false hm1]
              by_cases hv : L[k] = (i : Int)
              · have HT1 : Hid (decide ((i : Int) ∈ L.take (k + 1)) = true) := by
                  show _ = _
                  rw [decide_eq_true_iff, List.take_succ_eq_append_getElem hlt, hv]
                  exact List.mem_append_right _ (List.mem_singleton.2 rfl)
                have hv' : ((L[k] : Int) == (i : Int)) = true := by simpa using hv
                clear hm1 hv
                go_wp2_with fail
                go_round
                case rel => exact ⟨k + 1, by omega, by go_num, by rw [HT1.out]⟩
                case measure => simp [intOf]; omega
              · have HT1 : Hid (decide ((i : Int) ∈ L.take (k + 1)) = false) := by
                  show _ = _
                  rw [decide_eq_false_iff_not, List.take_succ_eq_append_getElem hlt, List.mem_append, List.mem_singleton]
                  rintro (h | h)
                  · exact hm1 h
                  · exact hv h.symm
                have hv' : ((L[k] : Int) == (i : Int)) = false := by simpa using hv
                clear hm1 hv
                go_wp2_with fail
                go_round
                case rel => exact ⟨k + 1, by omega, by go_num, by rw [HT1.out]⟩
                case measure => simp [intOf]; omega
          · rw [List.take_of_length_le (by omega), HME.out]
            rcases Bool.eq_false_or_eq_true (doesB b s i m) with hd | hd
            · rw [hd]
              obtain rfl := HV9.out hd
              have HW := Lib.hid (HSU.out hd)
              clear hd HSU HV0 HV9 HMV
              obtain ⟨⟨c0, c1, c2, c3, c4, c5⟩, ⟨d0, d1, d2⟩, sx, _, _, _⟩ := HE6.out
              clear sx
              go_wp2_with fail
              refine (inside_c _ _ _ _).mono ?_
              rintro e w7 ⟨rfl, hb7⟩
              rw [HW.out]
              have HE7 := Lib.hid (HE6.out.keep hb7)
              clear c0 c1 c2 c3 c4 c5 d0 d1 d2
              go_wp2_with fail
              refine (awake_c _).mono ?_
              rintro e w8 ⟨rfl, hb8⟩
              go_wp2_with fail
              go_ret
              exact ⟨rfl, (HE7.out.keep hb8).sn.1⟩
            · rw [hd]
              obtain ⟨he0, hwo, hnn, hpq⟩ := HV0.out hd
              subst he0
              have HN := Lib.hid hwo
              have HQ := Lib.hid hpq
              have HT := Lib.hid (inn_tr HOK.out hnn)
              have hbx : bx b s i = ⟨b.slo, b.shi, s.dlo, s.dhi, b.ts[i].hlo, b.ts[i].hhi, b.ts[i].wlo, b.ts[i].whi⟩ := by rw [bx, tAt_eq hil]
              rw [hbx] at hnn
              have HA0 : Hid (wi b.slo b.shi q0 = true) := wi_iff.2 ⟨hnn.s0, hnn.s1⟩
              have HA1 : Hid (wi s.dlo s.dhi q1 = true) := wi_iff.2 ⟨hnn.d0, hnn.d1⟩
              have HA2 : Hid (wi b.ts[i].hlo b.ts[i].hhi q2 = true) := wi_iff.2 ⟨hnn.h0, hnn.h1⟩
              have HA3 : Hid (wi b.ts[i].wlo b.ts[i].whi q3 = true) := wi_iff.2 ⟨hnn.w0, hnn.w1⟩
              clear hd HSU HV0 HV9 HMV hwo hpq hnn hbx
              go_wp2_with fail
              refine Vals.region (fun X => Env (w.heap.size) (w.heap.size + 1) (w.heap.size + 1 + 1) b (some ad) c s xs P l w X ∧ C2 gS r0 r1 X ∧ C4 gT q0 q1 q2 q3 X ∧ InAt X P2 L) (fun X => Env (w.heap.size) (w.heap.size + 1) (w.heap.size + 1 + 1) b (some ad) c s xs P l w X ∧ C2 gS r0 r1 X ∧ C4 gT q0 q1 q2 q3 X ∧ InAt X P2 L) [some 120, some 121, some 122, some 123, some 124, some 125, some 126, some 127, some 128, some 129, some 130, some 131, some 132, some 133, some 134, some 135, some 136, some 137, some 138, some 139, some 140, some 141, some 142, some 143, some 144, some 145, some 146, some 147, some 148, some 149, some 150, some 151, some 152, some 153, some 21] [.pointer (some ⟨gT, 0, none⟩), .int .i64 q0, .pointer (some ⟨w.heap.size, 0, none⟩), .agg #[.int .i64 b.slo, .int .i64 b.shi], .bool true, .bool true, .pointer (some ⟨gT, 1, none⟩), .int .i64 q1, .pointer (some ⟨w.heap.size + 1, 0, none⟩), .agg #[.int .i64 s.dlo, .int .i64 s.dhi], .bool true, .bool true, .bool true, .pointer (some ⟨gT, 2, none⟩), .int .i64 q2, .pointer (some ⟨w.heap.size, 5, none⟩), .slice (some ad) b.ts.length c, .int .i64 (i : Int), .pointer (some (ad.add (i * 5))), .pointer (some (at_ (ad.add (i * 5)) 1)), .agg #[.int .i64 b.ts[i].hlo, .int .i64 b.ts[i].hhi], .bool true, .bool true, .bool true, .pointer (some ⟨gT, 3, none⟩), .int .i64 q3, .pointer (some ⟨w.heap.size, 5, none⟩), .slice (some ad) b.ts.length c, .int .i64 (i : Int), .pointer (some (ad.add (i * 5))), .pointer (some (at_ (ad.add (i * 5)) 3)), .agg #[.int .i64 b.ts[i].wlo, .int .i64 b.ts[i].whi], .bool true, .bool true, .bool true] (by kernel_rfl) (by kernel_rfl) (by kernel_rfl) (by kernel_rfl) (by kernel_rfl) (by kernel_rfl) (by kernel_rfl) ⟨HE6.out.drew, hS6.out.drew, hT6.out.drew, HI6.out⟩ ?_ ?_
              · refine Vals.Steps.run (by kernel_rfl) ?_ ?_
                · intro a W hSt pre old K hK
                  have e15 : a.tmps.getD 15 undef = .pointer (some ⟨gT, 0, none⟩) := old 15 _ (by kernel_rfl) rfl
                  clear pre old
                  simp only [Array.getD_eq_getD_getElem?] at e15
                  go_simp
                  exact hK _ hSt
                refine Vals.Steps.run (by kernel_rfl) ?_ ?_
                · intro a W hSt pre old K hK
                  have e120 : a.tmps.getD 120 undef = .pointer (some ⟨gT, 0, none⟩) := pre 0 120 _ (by kernel_rfl) rfl rfl
                  clear pre old
                  simp only [Array.getD_eq_getD_getElem?] at e120
                  have hS9 := hSt
                  obtain ⟨⟨⟨s0, s1, s2, s3, s4, s5⟩, ⟨d0, d1, d2⟩, sx, ts, us, sn⟩, ⟨p0, p1⟩, ⟨t0, t1, t2, t3⟩, hI⟩ := hS9
                  rw [HX.out] at sx
                  have x0 := sx 0 _ rfl
                  have x1 := sx 1 _ rfl
                  have x2 := sx 2 _ rfl
                  go_simp
                  exact hK _ hSt
                refine Vals.Steps.run (by kernel_rfl) ?_ ?_
                · intro a W hSt pre old K hK
                  have e3 : a.tmps.getD 3 undef = .pointer (some ⟨w.heap.size, 0, none⟩) := old 3 _ (by kernel_rfl) rfl
                  clear pre old
                  simp only [Array.getD_eq_getD_getElem?] at e3
                  go_simp
                  exact hK _ hSt
                refine Vals.Steps.run (by kernel_rfl) ?_ ?_
                · intro a W hSt pre old K hK
                  have e122 : a.tmps.getD 122 undef = .pointer (some ⟨w.heap.size, 0, none⟩) := pre 2 122 _ (by kernel_rfl) rfl rfl
                  clear pre old
                  simp only [Array.getD_eq_getD_getElem?] at e122
                  have hS9 := hSt
                  obtain ⟨⟨⟨s0, s1, s2, s3, s4, s5⟩, ⟨d0, d1, d2⟩, sx, ts, us, sn⟩, ⟨p0, p1⟩, ⟨t0, t1, t2, t3⟩, hI⟩ := hS9
                  rw [HX.out] at sx
                  have x0 := sx 0 _ rfl
                  have x1 := sx 1 _ rfl
                  have x2 := sx 2 _ rfl
                  go_simp
                  exact hK _ hSt
                refine Vals.Steps.run (by kernel_rfl) ?_ ?_
                · intro a W hSt pre old K hK
                  have e121 : a.tmps.getD 121 undef = .int .i64 q0 := pre 1 121 _ (by kernel_rfl) rfl rfl
                  have e123 : a.tmps.getD 123 undef = .agg #[.int .i64 b.slo, .int .i64 b.shi] := pre 3 123 _ (by kernel_rfl) rfl rfl
                  clear pre old
                  simp only [Array.getD_eq_getD_getElem?] at e121 e123
                  go_simp
                  obtain ⟨hE, hC2, hC4, hI⟩ := hSt
                  refine (inside_c _ _ _ _).mono ?_
                  rintro e w' ⟨rfl, hb'⟩
                  rw [HA0.out]
                  exact hK _ ⟨hE.keep hb', hC2.keep hb', hC4.keep hb', hI.keep hb'⟩
                refine Vals.Steps.run (by kernel_rfl) ?_ ?_
                · intro a W hSt pre old K hK
                  have e124 : a.tmps.getD 124 undef = .bool true := pre 4 124 _ (by kernel_rfl) rfl rfl
                  clear pre old
                  simp only [Array.getD_eq_getD_getElem?] at e124
                  go_simp
                  exact hK _ hSt
                refine Vals.Steps.run (by kernel_rfl) ?_ ?_
                · intro a W hSt pre old K hK
                  have e15 : a.tmps.getD 15 undef = .pointer (some ⟨gT, 0, none⟩) := old 15 _ (by kernel_rfl) rfl
                  clear pre old
                  simp only [Array.getD_eq_getD_getElem?] at e15
                  go_simp
                  exact hK _ hSt
                refine Vals.Steps.run (by kernel_rfl) ?_ ?_
                · intro a W hSt pre old K hK
                  have e126 : a.tmps.getD 126 undef = .pointer (some ⟨gT, 1, none⟩) := pre 6 126 _ (by kernel_rfl) rfl rfl
                  clear pre old
                  simp only [Array.getD_eq_getD_getElem?] at e126
                  have hS9 := hSt
                  obtain ⟨⟨⟨s0, s1, s2, s3, s4, s5⟩, ⟨d0, d1, d2⟩, sx, ts, us, sn⟩, ⟨p0, p1⟩, ⟨t0, t1, t2, t3⟩, hI⟩ := hS9
                  rw [HX.out] at sx
                  have x0 := sx 0 _ rfl
                  have x1 := sx 1 _ rfl
                  have x2 := sx 2 _ rfl
                  go_simp
                  exact hK _ hSt
                refine Vals.Steps.run (by kernel_rfl) ?_ ?_
                · intro a W hSt pre old K hK
                  have e4 : a.tmps.getD 4 undef = .pointer (some ⟨w.heap.size + 1, 0, none⟩) := old 4 _ (by kernel_rfl) rfl
                  clear pre old
                  simp only [Array.getD_eq_getD_getElem?] at e4
                  go_simp
                  exact hK _ hSt
                refine Vals.Steps.run (by kernel_rfl) ?_ ?_
                · intro a W hSt pre old K hK
                  have e128 : a.tmps.getD 128 undef = .pointer (some ⟨w.heap.size + 1, 0, none⟩) := pre 8 128 _ (by kernel_rfl) rfl rfl
                  clear pre old
                  simp only [Array.getD_eq_getD_getElem?] at e128
                  have hS9 := hSt
                  obtain ⟨⟨⟨s0, s1, s2, s3, s4, s5⟩, ⟨d0, d1, d2⟩, sx, ts, us, sn⟩, ⟨p0, p1⟩, ⟨t0, t1, t2, t3⟩, hI⟩ := hS9
                  rw [HX.out] at sx
                  have x0 := sx 0 _ rfl
                  have x1 := sx 1 _ rfl
                  have x2 := sx 2 _ rfl
                  go_simp
                  exact hK _ hSt
                refine Vals.Steps.run (by kernel_rfl) ?_ ?_
                · intro a W hSt pre old K hK
                  have e127 : a.tmps.getD 127 undef = .int .i64 q1 := pre 7 127 _ (by kernel_rfl) rfl rfl
                  have e129 : a.tmps.getD 129 undef = .agg #[.int .i64 s.dlo, .int .i64 s.dhi] := pre 9 129 _ (by kernel_rfl) rfl rfl
                  clear pre old
                  simp only [Array.getD_eq_getD_getElem?] at e127 e129
                  go_simp
                  obtain ⟨hE, hC2, hC4, hI⟩ := hSt
                  refine (inside_c _ _ _ _).mono ?_
                  rintro e w' ⟨rfl, hb'⟩
                  rw [HA1.out]
                  exact hK _ ⟨hE.keep hb', hC2.keep hb', hC4.keep hb', hI.keep hb'⟩
                refine Vals.Steps.run (by kernel_rfl) ?_ ?_
                · intro a W hSt pre old K hK
                  have e125 : a.tmps.getD 125 undef = .bool true := pre 5 125 _ (by kernel_rfl) rfl rfl
                  have e130 : a.tmps.getD 130 undef = .bool true := pre 10 130 _ (by kernel_rfl) rfl rfl
                  clear pre old
                  simp only [Array.getD_eq_getD_getElem?] at e125 e130
                  go_simp
                  exact hK _ hSt
                refine Vals.Steps.run (by kernel_rfl) ?_ ?_
                · intro a W hSt pre old K hK
                  have e131 : a.tmps.getD 131 undef = .bool true := pre 11 131 _ (by kernel_rfl) rfl rfl
                  clear pre old
                  simp only [Array.getD_eq_getD_getElem?] at e131
                  go_simp
                  exact hK _ hSt
                refine Vals.Steps.run (by kernel_rfl) ?_ ?_
                · intro a W hSt pre old K hK
                  have e15 : a.tmps.getD 15 undef = .pointer (some ⟨gT, 0, none⟩) := old 15 _ (by kernel_rfl) rfl
                  clear pre old
                  simp only [Array.getD_eq_getD_getElem?] at e15
                  go_simp
                  exact hK _ hSt
                refine Vals.Steps.run (by kernel_rfl) ?_ ?_
                · intro a W hSt pre old K hK
                  have e133 : a.tmps.getD 133 undef = .pointer (some ⟨gT, 2, none⟩) := pre 13 133 _ (by kernel_rfl) rfl rfl
                  clear pre old
                  simp only [Array.getD_eq_getD_getElem?] at e133
                  have hS9 := hSt
                  obtain ⟨⟨⟨s0, s1, s2, s3, s4, s5⟩, ⟨d0, d1, d2⟩, sx, ts, us, sn⟩, ⟨p0, p1⟩, ⟨t0, t1, t2, t3⟩, hI⟩ := hS9
                  rw [HX.out] at sx
                  have x0 := sx 0 _ rfl
                  have x1 := sx 1 _ rfl
                  have x2 := sx 2 _ rfl
                  go_simp
                  exact hK _ hSt
                refine Vals.Steps.run (by kernel_rfl) ?_ ?_
                · intro a W hSt pre old K hK
                  have e3 : a.tmps.getD 3 undef = .pointer (some ⟨w.heap.size, 0, none⟩) := old 3 _ (by kernel_rfl) rfl
                  clear pre old
                  simp only [Array.getD_eq_getD_getElem?] at e3
                  go_simp
                  exact hK _ hSt
                refine Vals.Steps.run (by kernel_rfl) ?_ ?_
                · intro a W hSt pre old K hK
                  have e135 : a.tmps.getD 135 undef = .pointer (some ⟨w.heap.size, 5, none⟩) := pre 15 135 _ (by kernel_rfl) rfl rfl
                  clear pre old
                  simp only [Array.getD_eq_getD_getElem?] at e135
                  have hS9 := hSt
                  obtain ⟨⟨⟨s0, s1, s2, s3, s4, s5⟩, ⟨d0, d1, d2⟩, sx, ts, us, sn⟩, ⟨p0, p1⟩, ⟨t0, t1, t2, t3⟩, hI⟩ := hS9
                  rw [HX.out] at sx
                  have x0 := sx 0 _ rfl
                  have x1 := sx 1 _ rfl
                  have x2 := sx 2 _ rfl
                  go_simp
                  exact hK _ hSt
                refine Vals.Steps.run (by kernel_rfl) ?_ ?_
                · intro a W hSt pre old K hK
                  have e9 : a.tmps.getD 9 undef = .int .i64 (i : Int) := old 9 _ (by kernel_rfl) rfl
                  clear pre old
                  simp only [Array.getD_eq_getD_getElem?] at e9
                  go_simp
                  exact hK _ hSt
                refine Vals.Steps.run (by kernel_rfl) ?_ ?_
                · intro a W hSt pre old K hK
                  have e136 : a.tmps.getD 136 undef = .slice (some ad) b.ts.length c := pre 16 136 _ (by kernel_rfl) rfl rfl
                  have e137 : a.tmps.getD 137 undef = .int .i64 (i : Int) := pre 17 137 _ (by kernel_rfl) rfl rfl
                  clear pre old
                  simp only [Array.getD_eq_getD_getElem?] at e136 e137
                  go_simp
                  exact hK _ hSt
                refine Vals.Steps.run (by kernel_rfl) ?_ ?_
                · intro a W hSt pre old K hK
                  have e138 : a.tmps.getD 138 undef = .pointer (some (ad.add (i * 5))) := pre 18 138 _ (by kernel_rfl) rfl rfl
                  clear pre old
                  simp only [Array.getD_eq_getD_getElem?] at e138
                  go_simp
                  exact hK _ hSt
                refine Vals.Steps.run (by kernel_rfl) ?_ ?_
                · intro a W hSt pre old K hK
                  have e139 : a.tmps.getD 139 undef = .pointer (some (at_ (ad.add (i * 5)) 1)) := pre 19 139 _ (by kernel_rfl) rfl rfl
                  clear pre old
                  simp only [Array.getD_eq_getD_getElem?] at e139
                  have hS9 := hSt
                  obtain ⟨⟨⟨s0, s1, s2, s3, s4, s5⟩, ⟨d0, d1, d2⟩, sx, ts, us, sn⟩, ⟨p0, p1⟩, ⟨t0, t1, t2, t3⟩, hI⟩ := hS9
                  obtain ⟨ad', hA, hat⟩ := ts.get hil
                  obtain rfl : ad = ad' := by simpa using hA
                  obtain ⟨_, k1, k2, k3, k4⟩ := hat
                  go_simp
                  exact hK _ hSt
                refine Vals.Steps.run (by kernel_rfl) ?_ ?_
                · intro a W hSt pre old K hK
                  have e134 : a.tmps.getD 134 undef = .int .i64 q2 := pre 14 134 _ (by kernel_rfl) rfl rfl
                  have e140 : a.tmps.getD 140 undef = .agg #[.int .i64 b.ts[i].hlo, .int .i64 b.ts[i].hhi] := pre 20 140 _ (by kernel_rfl) rfl rfl
                  clear pre old
                  simp only [Array.getD_eq_getD_getElem?] at e134 e140
                  go_simp
                  obtain ⟨hE, hC2, hC4, hI⟩ := hSt
                  refine (inside_c _ _ _ _).mono ?_
                  rintro e w' ⟨rfl, hb'⟩
                  rw [HA2.out]
                  exact hK _ ⟨hE.keep hb', hC2.keep hb', hC4.keep hb', hI.keep hb'⟩
                refine Vals.Steps.run (by kernel_rfl) ?_ ?_
                · intro a W hSt pre old K hK
                  have e132 : a.tmps.getD 132 undef = .bool true := pre 12 132 _ (by kernel_rfl) rfl rfl
                  have e141 : a.tmps.getD 141 undef = .bool true := pre 21 141 _ (by kernel_rfl) rfl rfl
                  clear pre old
                  simp only [Array.getD_eq_getD_getElem?] at e132 e141
                  go_simp
                  exact hK _ hSt
                refine Vals.Steps.run (by kernel_rfl) ?_ ?_
                · intro a W hSt pre old K hK
                  have e142 : a.tmps.getD 142 undef = .bool true := pre 22 142 _ (by kernel_rfl) rfl rfl
                  clear pre old
                  simp only [Array.getD_eq_getD_getElem?] at e142
                  go_simp
                  exact hK _ hSt
                refine Vals.Steps.run (by kernel_rfl) ?_ ?_
                · intro a W hSt pre old K hK
                  have e15 : a.tmps.getD 15 undef = .pointer (some ⟨gT, 0, none⟩) := old 15 _ (by kernel_rfl) rfl
                  clear pre old
                  simp only [Array.getD_eq_getD_getElem?] at e15
                  go_simp
                  exact hK _ hSt
                refine Vals.Steps.run (by kernel_rfl) ?_ ?_
                · intro a W hSt pre old K hK
                  have e144 : a.tmps.getD 144 undef = .pointer (some ⟨gT, 3, none⟩) := pre 24 144 _ (by kernel_rfl) rfl rfl
                  clear pre old
                  simp only [Array.getD_eq_getD_getElem?] at e144
                  have hS9 := hSt
                  obtain ⟨⟨⟨s0, s1, s2, s3, s4, s5⟩, ⟨d0, d1, d2⟩, sx, ts, us, sn⟩, ⟨p0, p1⟩, ⟨t0, t1, t2, t3⟩, hI⟩ := hS9
                  rw [HX.out] at sx
                  have x0 := sx 0 _ rfl
                  have x1 := sx 1 _ rfl
                  have x2 := sx 2 _ rfl
                  go_simp
                  exact hK _ hSt
                refine Vals.Steps.run (by kernel_rfl) ?_ ?_
                · intro a W hSt pre old K hK
                  have e3 : a.tmps.getD 3 undef = .pointer (some ⟨w.heap.size, 0, none⟩) := old 3 _ (by kernel_rfl) rfl
                  clear pre old
                  simp only [Array.getD_eq_getD_getElem?] at e3
                  go_simp
                  exact hK _ hSt
                refine Vals.Steps.run (by kernel_rfl) ?_ ?_
                · intro a W hSt pre old K hK
                  have e146 : a.tmps.getD 146 undef = .pointer (some ⟨w.heap.size, 5, none⟩) := pre 26 146 _ (by kernel_rfl) rfl rfl
                  clear pre old
                  simp only [Array.getD_eq_getD_getElem?] at e146
                  have hS9 := hSt
                  obtain ⟨⟨⟨s0, s1, s2, s3, s4, s5⟩, ⟨d0, d1, d2⟩, sx, ts, us, sn⟩, ⟨p0, p1⟩, ⟨t0, t1, t2, t3⟩, hI⟩ := hS9
                  rw [HX.out] at sx
                  have x0 := sx 0 _ rfl
                  have x1 := sx 1 _ rfl
                  have x2 := sx 2 _ rfl
                  go_simp
                  exact hK _ hSt
                refine Vals.Steps.run (by kernel_rfl) ?_ ?_
                · intro a W hSt pre old K hK
                  have e9 : a.tmps.getD 9 undef = .int .i64 (i : Int) := old 9 _ (by kernel_rfl) rfl
                  clear pre old
                  simp only [Array.getD_eq_getD_getElem?] at e9
                  go_simp
                  exact hK _ hSt
                refine Vals.Steps.run (by kernel_rfl) ?_ ?_
                · intro a W hSt pre old K hK
                  have e147 : a.tmps.getD 147 undef = .slice (some ad) b.ts.length c := pre 27 147 _ (by kernel_rfl) rfl rfl
                  have e148 : a.tmps.getD 148 undef = .int .i64 (i : Int) := pre 28 148 _ (by kernel_rfl) rfl rfl
                  clear pre old
                  simp only [Array.getD_eq_getD_getElem?] at e147 e148
                  go_simp
                  exact hK _ hSt
                refine Vals.Steps.run (by kernel_rfl) ?_ ?_
                · intro a W hSt pre old K hK
                  have e149 : a.tmps.getD 149 undef = .pointer (some (ad.add (i * 5))) := pre 29 149 _ (by kernel_rfl) rfl rfl
                  clear pre old
                  simp only [Array.getD_eq_getD_getElem?] at e149
                  go_simp
                  exact hK _ hSt
                refine Vals.Steps.run (by kernel_rfl) ?_ ?_
                · intro a W hSt pre old K hK
                  have e150 : a.tmps.getD 150 undef = .pointer (some (at_ (ad.add (i * 5)) 3)) := pre 30 150 _ (by kernel_rfl) rfl rfl
                  clear pre old
                  simp only [Array.getD_eq_getD_getElem?] at e150
                  have hS9 := hSt
                  obtain ⟨⟨⟨s0, s1, s2, s3, s4, s5⟩, ⟨d0, d1, d2⟩, sx, ts, us, sn⟩, ⟨p0, p1⟩, ⟨t0, t1, t2, t3⟩, hI⟩ := hS9
                  obtain ⟨ad', hA, hat⟩ := ts.get hil
                  obtain rfl : ad = ad' := by simpa using hA
                  obtain ⟨_, k1, k2, k3, k4⟩ := hat
                  go_simp
                  exact hK _ hSt
                refine Vals.Steps.run (by kernel_rfl) ?_ ?_
                · intro a W hSt pre old K hK
                  have e145 : a.tmps.getD 145 undef = .int .i64 q3 := pre 25 145 _ (by kernel_rfl) rfl rfl
                  have e151 : a.tmps.getD 151 undef = .agg #[.int .i64 b.ts[i].wlo, .int .i64 b.ts[i].whi] := pre 31 151 _ (by kernel_rfl) rfl rfl
                  clear pre old
                  simp only [Array.getD_eq_getD_getElem?] at e145 e151
                  go_simp
                  obtain ⟨hE, hC2, hC4, hI⟩ := hSt
                  refine (inside_c _ _ _ _).mono ?_
                  rintro e w' ⟨rfl, hb'⟩
                  rw [HA3.out]
                  exact hK _ ⟨hE.keep hb', hC2.keep hb', hC4.keep hb', hI.keep hb'⟩
                refine Vals.Steps.run (by kernel_rfl) ?_ ?_
                · intro a W hSt pre old K hK
                  have e143 : a.tmps.getD 143 undef = .bool true := pre 23 143 _ (by kernel_rfl) rfl rfl
                  have e152 : a.tmps.getD 152 undef = .bool true := pre 32 152 _ (by kernel_rfl) rfl rfl
                  clear pre old
                  simp only [Array.getD_eq_getD_getElem?] at e143 e152
                  go_simp
                  exact hK _ hSt
                refine Vals.Steps.last (by kernel_rfl) ?_
                · intro a W hSt pre old K hK
                  have e153 : a.tmps.getD 153 undef = .bool true := pre 33 153 _ (by kernel_rfl) rfl rfl
                  clear pre old
                  simp only [Array.getD_eq_getD_getElem?] at e153
                  go_simp
                  exact hK _ hSt
              · rintro w7 ⟨hE7, hS7, hT7, hI7⟩
                simp only [Vals.putAll, List.setIfInBounds_toArray, List.set_cons_zero, List.set_cons_succ]
                have HE7 := Lib.hid hE7
                have hT7 := Lib.hid hT7
                clear hE7 hS7 hI7 HE6 hS6 hT6 HI6
                obtain ⟨⟨c0, c1, c2, c3, c4, c5⟩, ⟨d0, d1, d2⟩, sx, _, _, _⟩ := HE7.out
                clear sx
                obtain ⟨t0, t1, t2, t3⟩ := hT7.out
                go_wp2_with fail
                refine (stop_c s q0 q1 q2 q3 (m : Int) _ HT.out hS.k0 hS.k1 (by omega) (by omega)).mono ?_
                rintro e w8 ⟨rfl, hb8⟩
                rw [HQ.out]
                have HE8 := Lib.hid (HE7.out.keep hb8)
                clear HE7 hb8 c0 c1 c2 c3 c4 c5 d0 d1 d2 t0 t1 t2 t3
                obtain ⟨⟨c0, c1, c2, c3, c4, c5⟩, ⟨d0, d1, d2⟩, sx, _, _, _⟩ := HE8.out
                clear sx
                go_wp2_with fail
                refine (inside_c _ _ _ _).mono ?_
                rintro e w9 ⟨rfl, hb9⟩
                rw [HN.out]
                have HE9 := Lib.hid (HE8.out.keep hb9)
                clear c0 c1 c2 c3 c4 c5 d0 d1 d2
                go_wp2_with fail
                refine (awake_c _).mono ?_
                rintro e w10 ⟨rfl, hb10⟩
                go_wp2_with fail
                go_ret
                exact ⟨rfl, (HE9.out.keep hb10).sn.1⟩
  · have HD : Hid (decide ((chk b s).2.2 = 0) = false) := decide_eq_false hk
    have HST := Lib.hid (stopsV_bad hk 0 0)
    have hne : ((chk b s).2.2 != 0) = true := by simpa using hk
    clear hk
    go_enter Try.func8, Try.ntmps8
    go_wp2_with fail
    refine (valid_c b s A c _ HE0.out.ts).mono ?_
    rintro e w1 ⟨rfl, hb1⟩
    rw [HD.out]
    have HE1 := Lib.hid (HE0.out.keep hb1)
    clear HE0 hb1
    obtain ⟨⟨c0, c1, c2, c3, c4, c5⟩, ⟨d0, d1, d2⟩, sx, _, _, _⟩ := HE1.out
    clear sx
    go_wp2_with fail
    refine (stops_c b s A c 0 0 _ HE1.out.ts).mono ?_
    rintro e w2 ⟨rfl, hb2⟩
    rw [HST.out]
    clear c0 c1 c2 c3 c4 c5 d0 d1 d2
    have HE2 := Lib.hid ((HE1.out.keep hb2).alloc (.cells #[.int .i64 0, .int .i64 0] 23))
    go_wp2_with fail
    refine (awake_c _).mono ?_
    rintro e w3 ⟨rfl, hb3⟩
    go_wp2_with fail
    go_ret
    exact ⟨rfl, (HE2.out.keep hb3).sn.1⟩
end Td
end Go.Proofs.Ytojpiliamecgkaa
