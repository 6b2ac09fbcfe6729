import Derived.Test.YtojpiliamecgkaaEnv
namespace Go.Proofs.Ytojpiliamecgkaa
open Go.RowKit
namespace Td
set_option linter.unusedSimpArgs false
set_option linter.unusedVariables false
set_option maxRecDepth 100000 in
set_option maxHeartbeats 8000000 in
theorem tideLeast_c (b : Bch) (s : Shp) (A : Option Addr) (c n0 n1 : Nat) (P : Option Addr) (l : List Int) (pc : Nat) (w : World) (hp : TsAt w A b.ts) (h0 : n0 ≤ 255) (h1 : n1 ≤ 255) (hu : U16At w P l) (ho : U16Ok l) :
    Calls Try.prog 10 #[.agg (bV b A c), .agg (sV s), .agg #[.int .u8 n0, .int .u8 n1, .slice P l.length pc]] w fun e w' => e = .returned (.bool true) ∧ Below w.heap.size w w' := by
  obtain ⟨xs, hxs⟩ : ∃ xs : List Value, xs = [.int .u8 n0, .int .u8 n1, .slice P l.length pc] := ⟨_, rfl⟩
  have hE0 : Env w.heap.size (w.heap.size + 1) (w.heap.size + 1 + 1) b A c s xs P l w (((w.alloc (.cells (bV b A c) 26)).alloc (.cells (sV s) 28)).alloc (.cells #[.int .u8 n0, .int .u8 n1, .slice P l.length pc] 61)) := by
    have hs0 := (((Since.refl w).alloc (.cells (bV b A c) 26)).alloc (.cells (sV s) 28)).alloc (.cells #[.int .u8 n0, .int .u8 n1, .slice P l.length pc] 61)
    refine ⟨(((Blk.new w 26 (bV b A c)).alloc (.cells (sV s) 28)).alloc _).beach, ((Blk.new1 w (.cells (bV b A c) 26) 28 (sV s)).alloc _).ship, fun j v hj => ?_, hp.keep hs0.1, hu.keep hs0.1, hs0⟩
    subst hxs
    rw [(Blk.new2 w (.cells (bV b A c) 26) (.cells (sV s) 28) 61 #[.int .u8 n0, .int .u8 n1, .slice P l.length pc]).cell j]
    simpa using hj
  have HX : Hid (xs = [.int .u8 n0, .int .u8 n1, .slice P l.length pc]) := hxs
  have HE0 := Lib.hid hE0
  clear hE0 hxs
  by_cases hk : (chk b s).2.2 = 0
  · obtain ⟨hB, hS⟩ := chk_ok.1 hk
    have HD : Hid (decide ((chk b s).2.2 = 0) = true) := decide_eq_true hk
    have hl12 : b.ts.length ≤ 12 := hB.n1
    have hl1 : 1 ≤ b.ts.length := hB.n0
    obtain ⟨i, hi⟩ : ∃ i, n0 % b.ts.length = i := ⟨_, rfl⟩
    have hil : i < b.ts.length := by rw [← hi]; exact Nat.mod_lt _ (by omega)
    have hem : ((n0 : Int)) % (b.ts.length : Int) = (i : Int) := by rw [← hi]; omega
    have htm : ((n0 : Int)).tmod (b.ts.length : Int) = (i : Int) := by rw [Int.tmod_eq_emod_of_nonneg (by omega)]; exact hem
    have hlz : ((b.ts.length : Int) == 0) = false := by rw [beq_eq_false_iff_ne]; omega
    have hw0 : IntKind.i64.wrap (n0 : Int) = n0 := IntWalk.i64_in _ (by omega)
    have hw1 : IntKind.i64.wrap (n1 : Int) = n1 := IntWalk.i64_in _ (by omega)
    have hwi : IntKind.i64.wrap (i : Int) = i := IntWalk.i64_in _ (by omega)
    clear hi
    have HK := Lib.hid hk
    clear hk
    have HOK := Lib.hid (bx_ok hB hS hil)
    go_enter Try.func10, Try.ntmps10
    go_wp2_with fail
    refine (valid_c b s A c _ HE0.out.ts).mono ?_
    rintro e w1 ⟨rfl, hb1⟩
    rw [HD.out]
    have HE1 := Lib.hid (HE0.out.keep hb1)
    clear HE0 hb1
    obtain ⟨⟨c0, c1, c2, c3, c4, c5⟩, ⟨d0, d1, d2⟩, sx, _, _, _⟩ := HE1.out
    rw [HX.out] at sx
    have x0 := sx 0 _ rfl
    have x1 := sx 1 _ rfl
    have x2 := sx 2 _ rfl
    clear sx
    go_wp2_with fail
    refine (tleast_c b s A c i _ HE1.out.ts).mono ?_
    rintro e w2 ⟨rfl, hb2⟩
    clear c0 c1 c2 c3 c4 c5 d0 d1 d2 x0 x1 x2 hem htm hlz hwi
    have HE2 := Lib.hid (HE1.out.keep hb2)
    clear HE1 hb2
    cases hlo : leastOf (doesB b s i) with
    | none =>
      rw [leastV_no HK.out hil hlo]
      have HDN : Hid (∀ j, j < 41 → doesB b s i j = false) := leastOf_no hlo
      clear hlo
      obtain ⟨⟨c0, c1, c2, c3, c4, c5⟩, ⟨d0, d1, d2⟩, sx, _, _, _⟩ := HE2.out
      rw [HX.out] at sx
      have x0 := sx 0 _ rfl
      have x1 := sx 1 _ rfl
      have x2 := sx 2 _ rfl
      clear sx
      have HE3 := Lib.hid HE2.out
      clear HE2
      obtain ⟨m, hm⟩ : ∃ m, n1 % 41 = m := ⟨_, rfl⟩
      have hmk : m < 41 := by rw [← hm]; exact Nat.mod_lt _ (by omega)
      have hm40 : m ≤ 40 := by omega
      have HDM := Lib.hid (HDN.out m hmk)
      have hem2 : ((n1 : Int)) % (41 : Int) = (m : Int) := by rw [← hm]; omega
      have htm2 : ((n1 : Int)).tmod (41 : Int) = (m : Int) := by rw [Int.tmod_eq_emod_of_nonneg (by omega)]; exact hem2
      have hkz : ((41 : Int) == 0) = false := by first | rfl | (rw [beq_eq_false_iff_ne]; omega)
      have hwm : IntKind.i64.wrap (m : Int) = m := IntWalk.i64_in _ (by omega)
      clear hm
      go_wp2_with fail
      refine (misses_c b s A c i m _ HE3.out.ts).mono ?_
      rintro e w5 ⟨rfl, hb5⟩
      rw [missesV_ok HK.out hil hm40 HDM.out]
      have HQ : Hid (pl (m0 b.mlo b.mhi (bx b s i) (-s.sink * (m : Int))) (m1 b.mlo b.mhi (bx b s i) (-s.sink * (m : Int))) (m2 b.mlo b.mhi (bx b s i) (-s.sink * (m : Int))) (m3 b.mlo b.mhi (bx b s i) (-s.sink * (m : Int))) (-s.sink * (m : Int)) = mAt b.mlo b.mhi (bx b s i) (-s.sink * (m : Int))) := rfl
      have HN := Lib.hid (miss_out HOK.out HDM.out)
      have HT := Lib.hid (inn_tr HOK.out (mis_in HOK.out HDM.out))
      generalize m0 b.mlo b.mhi (bx b s i) (-s.sink * (m : Int)) = q0 at *
      generalize m1 b.mlo b.mhi (bx b s i) (-s.sink * (m : Int)) = q1 at *
      generalize m2 b.mlo b.mhi (bx b s i) (-s.sink * (m : Int)) = q2 at *
      generalize m3 b.mlo b.mhi (bx b s i) (-s.sink * (m : Int)) = q3 at *
      generalize mAt b.mlo b.mhi (bx b s i) (-s.sink * (m : Int)) = qa at *
      have HE5 := Lib.hid ((HE3.out.keep hb5).alloc (.cells (trV q0 q1 q2 q3) 45))
      have hT5 := Lib.hid (show C4 w5.heap.size q0 q1 q2 q3 _ from (Blk.new w5 45 (trV q0 q1 q2 q3)).tr)
      clear HE3 hb5
      clear hem2 htm2 hkz hwm c0 c1 c2 c3 c4 c5 d0 d1 d2 x0 x1 x2
      obtain ⟨⟨c0, c1, c2, c3, c4, c5⟩, ⟨d0, d1, d2⟩, sx, _, _, _⟩ := HE5.out
      obtain ⟨t0, t1, t2, t3⟩ := hT5.out
      clear sx
      go_wp2_with fail
      refine (stop_c s q0 q1 q2 q3 (m : Int) _ HT.out hS.k0 hS.k1 (by omega) (by omega)).mono ?_
      rintro e w6 ⟨rfl, hb6⟩
      rw [HQ.out]
      clear c0 c1 c2 c3 c4 c5 d0 d1 d2 t0 t1 t2 t3
      have HE6 := Lib.hid (HE5.out.keep hb6)
      have hT6 := Lib.hid (C4.keep hT5.out hb6)
      clear HE5 hT5 hb6
      obtain ⟨⟨c0, c1, c2, c3, c4, c5⟩, ⟨d0, d1, d2⟩, sx, _, _, _⟩ := HE6.out
      obtain ⟨t0, t1, t2, t3⟩ := hT6.out
      clear sx
      go_wp2_with fail
      refine (inside_c _ _ _ _).mono ?_
      rintro e w7 ⟨rfl, hb7⟩
      rw [HN.out]
      have HE7 := Lib.hid (HE6.out.keep hb7)
      clear c0 c1 c2 c3 c4 c5 d0 d1 d2 t0 t1 t2 t3
      go_wp2_with fail
      refine (awake_c _).mono ?_
      rintro e w8 ⟨rfl, hb8⟩
      go_wp2_with fail
      go_ret
      exact ⟨rfl, (HE7.out.keep hb8).sn.1⟩
    | some n =>
      rw [leastV_ok HK.out hil hlo]
      obtain ⟨hn41, hdn, hdj⟩ := leastOf_spec hlo
      have HDN := Lib.hid hdj
      have HW := Lib.hid (sur_in (x := bx b s i) HOK.out (truthV_in HOK.out i l) hdn)
      clear hlo hdj hdn
      have hf1 : decide ((n : Int) < 0) = false := decide_eq_false (by omega)
      have hf2 : decide ((40 : Int) < (n : Int)) = false := decide_eq_false (by omega)
      have hwn : IntKind.i64.wrap (n : Int) = n := IntWalk.i64_in _ (by omega)
      go_wp2_with fail
      refine Vals.region (fun X => Env (w.heap.size) (w.heap.size + 1) (w.heap.size + 1 + 1) b A c s xs P l w X) (fun X => Env (w.heap.size) (w.heap.size + 1) (w.heap.size + 1 + 1) b A c s xs P l w X) [some 48, some 49, some 50, some 51, some 52, some 53, some 54, some 55, some 56, some 57, some 58, some 59, some 60, some 61, some 62, some 63, some 64, some 65, some 66, some 67, some 68] [.int .i64 (n : Int), .bool false, .bool false, .int .i64 (n : Int), .bool false, .bool false, .bool false, .agg (sV s), .agg (bV b A c), .agg (sV s), .int .i64 (i : Int), .pointer (some ⟨w.heap.size + 1 + 1, 2, none⟩), .slice P l.length pc, .agg (trV (truthV (bx b s i) i l).1 (truthV (bx b s i) i l).2.1 (truthV (bx b s i) i l).2.2.1 (truthV (bx b s i) i l).2.2.2), .int .i64 (n : Int), .int .i64 (pl (truthV (bx b s i) i l).1 (truthV (bx b s i) i l).2.1 (truthV (bx b s i) i l).2.2.1 (truthV (bx b s i) i l).2.2.2 (-s.sink * (n : Int))), .pointer (some ⟨w.heap.size, 2, none⟩), .agg #[.int .i64 b.mlo, .int .i64 b.mhi], .bool true, .bool false, .bool false] (by kernel_rfl) (by kernel_rfl) (by kernel_rfl) (by kernel_rfl) (by kernel_rfl) (by kernel_rfl) (by kernel_rfl) HE2.out.drew ?_ ?_
      · refine Vals.Steps.run (by kernel_rfl) ?_ ?_
        · intro a W hSt pre old K hK
          have e11 : a.tmps.getD 11 undef = .int .i64 (n : Int) := old 11 _ (by kernel_rfl) rfl
          clear pre old
          simp only [Array.getD_eq_getD_getElem?] at e11
          go_simp
          exact hK _ hSt
        refine Vals.Steps.run (by kernel_rfl) ?_ ?_
        · intro a W hSt pre old K hK
          have e48 : a.tmps.getD 48 undef = .int .i64 (n : Int) := pre 0 48 _ (by kernel_rfl) rfl rfl
          clear pre old
          simp only [Array.getD_eq_getD_getElem?] at e48
          go_simp
          exact hK _ hSt
        refine Vals.Steps.run (by kernel_rfl) ?_ ?_
        · intro a W hSt pre old K hK
          have e49 : a.tmps.getD 49 undef = .bool false := pre 1 49 _ (by kernel_rfl) rfl rfl
          clear pre old
          simp only [Array.getD_eq_getD_getElem?] at e49
          go_simp
          exact hK _ hSt
        refine Vals.Steps.run (by kernel_rfl) ?_ ?_
        · intro a W hSt pre old K hK
          have e11 : a.tmps.getD 11 undef = .int .i64 (n : Int) := old 11 _ (by kernel_rfl) rfl
          clear pre old
          simp only [Array.getD_eq_getD_getElem?] at e11
          go_simp
          exact hK _ hSt
        refine Vals.Steps.run (by kernel_rfl) ?_ ?_
        · intro a W hSt pre old K hK
          have e51 : a.tmps.getD 51 undef = .int .i64 (n : Int) := pre 3 51 _ (by kernel_rfl) rfl rfl
          clear pre old
          simp only [Array.getD_eq_getD_getElem?] at e51
          go_simp
          exact hK _ hSt
        refine Vals.Steps.run (by kernel_rfl) ?_ ?_
        · intro a W hSt pre old K hK
          have e50 : a.tmps.getD 50 undef = .bool false := pre 2 50 _ (by kernel_rfl) rfl rfl
          have e52 : a.tmps.getD 52 undef = .bool false := pre 4 52 _ (by kernel_rfl) rfl rfl
          clear pre old
          simp only [Array.getD_eq_getD_getElem?] at e50 e52
          go_simp
          exact hK _ hSt
        refine Vals.Steps.run (by kernel_rfl) ?_ ?_
        · intro a W hSt pre old K hK
          have e53 : a.tmps.getD 53 undef = .bool false := pre 5 53 _ (by kernel_rfl) rfl rfl
          clear pre old
          simp only [Array.getD_eq_getD_getElem?] at e53
          go_simp
          exact hK _ hSt
        refine Vals.Steps.run (by kernel_rfl) ?_ ?_
        · intro a W hSt pre old K hK
          have e4 : a.tmps.getD 4 undef = .pointer (some ⟨w.heap.size + 1, 0, none⟩) := old 4 _ (by kernel_rfl) rfl
          clear pre old
          simp only [Array.getD_eq_getD_getElem?] at e4
          have hS9 := hSt
          obtain ⟨⟨s0, s1, s2, s3, s4, s5⟩, ⟨d0, d1, d2⟩, sx, ts, us, sn⟩ := hS9
          rw [HX.out] at sx
          have x0 := sx 0 _ rfl
          have x1 := sx 1 _ rfl
          have x2 := sx 2 _ rfl
          go_simp
          exact hK _ hSt
        refine Vals.Steps.run (by kernel_rfl) ?_ ?_
        · intro a W hSt pre old K hK
          have e3 : a.tmps.getD 3 undef = .pointer (some ⟨w.heap.size, 0, none⟩) := old 3 _ (by kernel_rfl) rfl
          clear pre old
          simp only [Array.getD_eq_getD_getElem?] at e3
          have hS9 := hSt
          obtain ⟨⟨s0, s1, s2, s3, s4, s5⟩, ⟨d0, d1, d2⟩, sx, ts, us, sn⟩ := hS9
          rw [HX.out] at sx
          have x0 := sx 0 _ rfl
          have x1 := sx 1 _ rfl
          have x2 := sx 2 _ rfl
          go_simp
          exact hK _ hSt
        refine Vals.Steps.run (by kernel_rfl) ?_ ?_
        · intro a W hSt pre old K hK
          have e4 : a.tmps.getD 4 undef = .pointer (some ⟨w.heap.size + 1, 0, none⟩) := old 4 _ (by kernel_rfl) rfl
          clear pre old
          simp only [Array.getD_eq_getD_getElem?] at e4
          have hS9 := hSt
          obtain ⟨⟨s0, s1, s2, s3, s4, s5⟩, ⟨d0, d1, d2⟩, sx, ts, us, sn⟩ := hS9
          rw [HX.out] at sx
          have x0 := sx 0 _ rfl
          have x1 := sx 1 _ rfl
          have x2 := sx 2 _ rfl
          go_simp
          exact hK _ hSt
        refine Vals.Steps.run (by kernel_rfl) ?_ ?_
        · intro a W hSt pre old K hK
          have e9 : a.tmps.getD 9 undef = .int .i64 (i : Int) := old 9 _ (by kernel_rfl) rfl
          clear pre old
          simp only [Array.getD_eq_getD_getElem?] at e9
          go_simp
          exact hK _ hSt
        refine Vals.Steps.run (by kernel_rfl) ?_ ?_
        · intro a W hSt pre old K hK
          have e5 : a.tmps.getD 5 undef = .pointer (some ⟨w.heap.size + 1 + 1, 0, none⟩) := old 5 _ (by kernel_rfl) rfl
          clear pre old
          simp only [Array.getD_eq_getD_getElem?] at e5
          go_simp
          exact hK _ hSt
        refine Vals.Steps.run (by kernel_rfl) ?_ ?_
        · intro a W hSt pre old K hK
          have e59 : a.tmps.getD 59 undef = .pointer (some ⟨w.heap.size + 1 + 1, 2, none⟩) := pre 11 59 _ (by kernel_rfl) rfl rfl
          clear pre old
          simp only [Array.getD_eq_getD_getElem?] at e59
          have hS9 := hSt
          obtain ⟨⟨s0, s1, s2, s3, s4, s5⟩, ⟨d0, d1, d2⟩, sx, ts, us, sn⟩ := hS9
          rw [HX.out] at sx
          have x0 := sx 0 _ rfl
          have x1 := sx 1 _ rfl
          have x2 := sx 2 _ rfl
          go_simp
          exact hK _ hSt
        refine Vals.Steps.run (by kernel_rfl) ?_ ?_
        · intro a W hSt pre old K hK
          have e56 : a.tmps.getD 56 undef = .agg (bV b A c) := pre 8 56 _ (by kernel_rfl) rfl rfl
          have e57 : a.tmps.getD 57 undef = .agg (sV s) := pre 9 57 _ (by kernel_rfl) rfl rfl
          have e58 : a.tmps.getD 58 undef = .int .i64 (i : Int) := pre 10 58 _ (by kernel_rfl) rfl rfl
          have e60 : a.tmps.getD 60 undef = .slice P l.length pc := pre 12 60 _ (by kernel_rfl) rfl rfl
          clear pre old
          simp only [Array.getD_eq_getD_getElem?] at e56 e57 e58 e60
          go_simp
          have hS9 := hSt
          have hE := hS9
          refine (truth_c b s A c i P l pc _ hE.ts hB hS hil hE.us ho).mono ?_
          rintro e w' ⟨rfl, hb'⟩
          exact hK _ (hE.keep hb')
        refine Vals.Steps.run (by kernel_rfl) ?_ ?_
        · intro a W hSt pre old K hK
          have e11 : a.tmps.getD 11 undef = .int .i64 (n : Int) := old 11 _ (by kernel_rfl) rfl
          clear pre old
          simp only [Array.getD_eq_getD_getElem?] at e11
          go_simp
          exact hK _ hSt
        refine Vals.Steps.run (by kernel_rfl) ?_ ?_
        · intro a W hSt pre old K hK
          have e55 : a.tmps.getD 55 undef = .agg (sV s) := pre 7 55 _ (by kernel_rfl) rfl rfl
          have e61 : a.tmps.getD 61 undef = .agg (trV (truthV (bx b s i) i l).1 (truthV (bx b s i) i l).2.1 (truthV (bx b s i) i l).2.2.1 (truthV (bx b s i) i l).2.2.2) := pre 13 61 _ (by kernel_rfl) rfl rfl
          have e62 : a.tmps.getD 62 undef = .int .i64 (n : Int) := pre 14 62 _ (by kernel_rfl) rfl rfl
          clear pre old
          simp only [Array.getD_eq_getD_getElem?] at e55 e61 e62
          go_simp
          have hS9 := hSt
          have hE := hS9
          refine (stop_c s _ _ _ _ (n : Int) _ (inn_tr HOK.out (truthV_in HOK.out i l)) hS.k0 hS.k1 (by omega) (by omega)).mono ?_
          rintro e w' ⟨rfl, hb'⟩
          exact hK _ (hE.keep hb')
        refine Vals.Steps.run (by kernel_rfl) ?_ ?_
        · intro a W hSt pre old K hK
          have e3 : a.tmps.getD 3 undef = .pointer (some ⟨w.heap.size, 0, none⟩) := old 3 _ (by kernel_rfl) rfl
          clear pre old
          simp only [Array.getD_eq_getD_getElem?] at e3
          go_simp
          exact hK _ hSt
        refine Vals.Steps.run (by kernel_rfl) ?_ ?_
        · intro a W hSt pre old K hK
          have e64 : a.tmps.getD 64 undef = .pointer (some ⟨w.heap.size, 2, none⟩) := pre 16 64 _ (by kernel_rfl) rfl rfl
          clear pre old
          simp only [Array.getD_eq_getD_getElem?] at e64
          have hS9 := hSt
          obtain ⟨⟨s0, s1, s2, s3, s4, s5⟩, ⟨d0, d1, d2⟩, sx, ts, us, sn⟩ := hS9
          rw [HX.out] at sx
          have x0 := sx 0 _ rfl
          have x1 := sx 1 _ rfl
          have x2 := sx 2 _ rfl
          go_simp
          exact hK _ hSt
        refine Vals.Steps.run (by kernel_rfl) ?_ ?_
        · intro a W hSt pre old K hK
          have e63 : a.tmps.getD 63 undef = .int .i64 (pl (truthV (bx b s i) i l).1 (truthV (bx b s i) i l).2.1 (truthV (bx b s i) i l).2.2.1 (truthV (bx b s i) i l).2.2.2 (-s.sink * (n : Int))) := pre 15 63 _ (by kernel_rfl) rfl rfl
          have e65 : a.tmps.getD 65 undef = .agg #[.int .i64 b.mlo, .int .i64 b.mhi] := pre 17 65 _ (by kernel_rfl) rfl rfl
          clear pre old
          simp only [Array.getD_eq_getD_getElem?] at e63 e65
          go_simp
          have hE := hSt
          refine (inside_c _ _ _ _).mono ?_
          rintro e w' ⟨rfl, hb'⟩
          rw [HW.out]
          exact hK _ (hE.keep hb')
        refine Vals.Steps.run (by kernel_rfl) ?_ ?_
        · intro a W hSt pre old K hK
          have e66 : a.tmps.getD 66 undef = .bool true := pre 18 66 _ (by kernel_rfl) rfl rfl
          clear pre old
          simp only [Array.getD_eq_getD_getElem?] at e66
          go_simp
          exact hK _ hSt
        refine Vals.Steps.last (by kernel_rfl) ?_
        · intro a W hSt pre old K hK
          have e54 : a.tmps.getD 54 undef = .bool false := pre 6 54 _ (by kernel_rfl) rfl rfl
          have e67 : a.tmps.getD 67 undef = .bool false := pre 19 67 _ (by kernel_rfl) rfl rfl
          clear pre old
          simp only [Array.getD_eq_getD_getElem?] at e54 e67
          go_simp
          exact hK _ hSt
      · rintro w3 hE3
        have HE3 := Lib.hid hE3
        clear HE2
        obtain ⟨⟨c0, c1, c2, c3, c4, c5⟩, ⟨d0, d1, d2⟩, sx, _, _, _⟩ := hE3
        rw [HX.out] at sx
        have x0 := sx 0 _ rfl
        have x1 := sx 1 _ rfl
        have x2 := sx 2 _ rfl
        clear sx hf1 hf2
        simp only [Vals.putAll, List.setIfInBounds_toArray, List.set_cons_zero, List.set_cons_succ]
        rcases Nat.eq_zero_or_pos n with hn0 | hn0
        · subst hn0
          go_wp2_with fail
          refine (awake_c _).mono ?_
          rintro e w4 ⟨rfl, hb4⟩
          go_wp2_with fail
          go_ret
          exact ⟨rfl, (HE3.out.keep hb4).sn.1⟩
        · have hn0' : ((n : Int) == 0) = false := by rw [beq_eq_false_iff_ne]; omega
          obtain ⟨m, hm⟩ : ∃ m, n1 % n = m := ⟨_, rfl⟩
          have hmk : m < n := by rw [← hm]; exact Nat.mod_lt _ (by omega)
          have hm40 : m ≤ 40 := by omega
          have HDM := Lib.hid (HDN.out m hmk)
          have hem2 : ((n1 : Int)) % ((n : Nat) : Int) = (m : Int) := by rw [← hm]; omega
          have htm2 : ((n1 : Int)).tmod ((n : Nat) : Int) = (m : Int) := by rw [Int.tmod_eq_emod_of_nonneg (by omega)]; exact hem2
          have hkz : (((n : Nat) : Int) == 0) = false := by first | rfl | (rw [beq_eq_false_iff_ne]; omega)
          have hwm : IntKind.i64.wrap (m : Int) = m := IntWalk.i64_in _ (by omega)
          clear hm
          go_wp2_with fail
          refine (misses_c b s A c i m _ HE3.out.ts).mono ?_
          rintro e w5 ⟨rfl, hb5⟩
          rw [missesV_ok HK.out hil hm40 HDM.out]
          have HQ : Hid (pl (m0 b.mlo b.mhi (bx b s i) (-s.sink * (m : Int))) (m1 b.mlo b.mhi (bx b s i) (-s.sink * (m : Int))) (m2 b.mlo b.mhi (bx b s i) (-s.sink * (m : Int))) (m3 b.mlo b.mhi (bx b s i) (-s.sink * (m : Int))) (-s.sink * (m : Int)) = mAt b.mlo b.mhi (bx b s i) (-s.sink * (m : Int))) := rfl
          have HN := Lib.hid (miss_out HOK.out HDM.out)
          have HT := Lib.hid (inn_tr HOK.out (mis_in HOK.out HDM.out))
          generalize m0 b.mlo b.mhi (bx b s i) (-s.sink * (m : Int)) = q0 at *
          generalize m1 b.mlo b.mhi (bx b s i) (-s.sink * (m : Int)) = q1 at *
          generalize m2 b.mlo b.mhi (bx b s i) (-s.sink * (m : Int)) = q2 at *
          generalize m3 b.mlo b.mhi (bx b s i) (-s.sink * (m : Int)) = q3 at *
          generalize mAt b.mlo b.mhi (bx b s i) (-s.sink * (m : Int)) = qa at *
          have HE5 := Lib.hid ((HE3.out.keep hb5).alloc (.cells (trV q0 q1 q2 q3) 45))
          have hT5 := Lib.hid (show C4 w5.heap.size q0 q1 q2 q3 _ from (Blk.new w5 45 (trV q0 q1 q2 q3)).tr)
          clear HE3 hb5
          clear hem2 htm2 hkz hwm c0 c1 c2 c3 c4 c5 d0 d1 d2 x0 x1 x2
          obtain ⟨⟨c0, c1, c2, c3, c4, c5⟩, ⟨d0, d1, d2⟩, sx, _, _, _⟩ := HE5.out
          obtain ⟨t0, t1, t2, t3⟩ := hT5.out
          clear sx
          go_wp2_with fail
          refine (stop_c s q0 q1 q2 q3 (m : Int) _ HT.out hS.k0 hS.k1 (by omega) (by omega)).mono ?_
          rintro e w6 ⟨rfl, hb6⟩
          rw [HQ.out]
          clear c0 c1 c2 c3 c4 c5 d0 d1 d2 t0 t1 t2 t3
          have HE6 := Lib.hid (HE5.out.keep hb6)
          have hT6 := Lib.hid (C4.keep hT5.out hb6)
          clear HE5 hT5 hb6
          obtain ⟨⟨c0, c1, c2, c3, c4, c5⟩, ⟨d0, d1, d2⟩, sx, _, _, _⟩ := HE6.out
          obtain ⟨t0, t1, t2, t3⟩ := hT6.out
          clear sx
          go_wp2_with fail
          refine (inside_c _ _ _ _).mono ?_
          rintro e w7 ⟨rfl, hb7⟩
          rw [HN.out]
          have HE7 := Lib.hid (HE6.out.keep hb7)
          clear c0 c1 c2 c3 c4 c5 d0 d1 d2 t0 t1 t2 t3
          go_wp2_with fail
          refine (awake_c _).mono ?_
          rintro e w8 ⟨rfl, hb8⟩
          go_wp2_with fail
          go_ret
          exact ⟨rfl, (HE7.out.keep hb8).sn.1⟩
  · have HD : Hid (decide ((chk b s).2.2 = 0) = false) := decide_eq_false hk
    have HK := Lib.hid hk
    have hne : ((chk b s).2.2 != 0) = true := by simpa using hk
    clear hk
    go_enter Try.func10, Try.ntmps10
    go_wp2_with fail
    refine (valid_c b s A c _ HE0.out.ts).mono ?_
    rintro e w1 ⟨rfl, hb1⟩
    rw [HD.out]
    have HE1 := Lib.hid (HE0.out.keep hb1)
    clear HE0 hb1
    obtain ⟨⟨c0, c1, c2, c3, c4, c5⟩, ⟨d0, d1, d2⟩, sx, _, _, _⟩ := HE1.out
    clear sx
    go_wp2_with fail
    refine (tleast_c b s A c 0 _ HE1.out.ts).mono ?_
    rintro e w2 ⟨rfl, hb2⟩
    rw [leastV_bad HK.out]
    clear c0 c1 c2 c3 c4 c5 d0 d1 d2
    have HE2 := Lib.hid (HE1.out.keep hb2)
    go_wp2_with fail
    refine (awake_c _).mono ?_
    rintro e w3 ⟨rfl, hb3⟩
    go_wp2_with fail
    go_ret
    exact ⟨rfl, (HE2.out.keep hb3).sn.1⟩
end Td
end Go.Proofs.Ytojpiliamecgkaa
