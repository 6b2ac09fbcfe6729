import Derived.Test.YtojpiliamecgkaaRefA
import Derived.Test.YtojpiliamecgkaaInts
import Derived.Test.YtojpiliamecgkaaTops
import Derived.Test.YtojpiliamecgkaaTopsC
import Derived.Test.YtojpiliamecgkaaEnv
namespace Go.Proofs.Ytojpiliamecgkaa
open Go.RowKit
namespace Td
set_option linter.unusedSimpArgs false
set_option linter.unusedVariables false
def rlV (p : Nat → Bool) : Int := match leastOf p with | some n => n | none => -1
theorem rlV_some {p : Nat → Bool} {n : Nat} (h : leastOf p = some n) : rlV p = n := by unfold rlV; rw [h]
theorem rlV_none {p : Nat → Bool} (h : leastOf p = none) : rlV p = -1 := by unfold rlV; rw [h]
set_option maxRecDepth 100000 in
set_option maxHeartbeats 4000000 in
theorem rleast_c (b : Bch) (s : Shp) (A : Option Addr) (c i : Nat) (w : World) (hp : TsAt w A b.ts) (hB : BchOk b) (hS : ShpOk s) (hi : i < b.ts.length) :
    Calls Try.prog 62 #[.agg (bV b A c), .agg (sV s), .int .i64 i] w fun e w' => e = .returned (.int .i64 (rlV (doesB b s i))) ∧ Below w.heap.size w w' := by
  have hl12 : b.ts.length ≤ 12 := hB.n1
  have HOK := Lib.hid (bx_ok hB hS hi)
  have hs0 := ((Since.refl w).alloc (.cells (bV b A c) 26)).alloc (.cells (sV s) 28)
  have HB0 : Hid (SB w.heap.size b A c _) := Lib.hid ((Blk.new w 26 (bV b A c)).alloc (.cells (sV s) 28)).beach
  have HS0 : Hid (SS (w.heap.size + 1) s _) := Lib.hid (Blk.new1 w (.cells (bV b A c) 26) 28 (sV s)).ship
  go_enter Try.func62, Try.ntmps62
  go_wp2_with fail
  go_loopw [7] (fun n wr => ∃ k : Nat, k ≤ 41 ∧ n = .int .i64 k ∧ Since w wr ∧ Hid (SB w.heap.size b A c wr) ∧ Hid (SS (w.heap.size + 1) s wr) ∧ Hid (∀ j, j < k → doesB b s i j = false)) (fun n _ => 41 - (intOf n).toNat)
  case atStart => exact ⟨0, by omega, rfl, hs0, HB0, HS0, fun j h => absurd h (by omega)⟩
  case round =>
    clear HB0 HS0 hs0
    obtain ⟨k, hk, rfl, hsn, HB1, HS1, H0⟩ := hrel
    have hts := hp.keep hsn.1
    by_cases hlt : k ≤ 40
    · have hw1 : IntKind.i64.wrap (k : Int) = k := IntWalk.i64_in _ (by omega)
      rcases Bool.eq_false_or_eq_true (doesB b s i k) with h | h
      · have HV : Hid (rlV (doesB b s i) = (k : Int)) := rlV_some (leastOf_some (by omega) H0.out h)
        have HDK : Hid (sur b.mlo b.mhi (bx b s i) (-s.sink * (k : Int)) = true) := h
        clear h
        go_wp2_with fail
        refine Vals.region (fun X => SB (w.heap.size) b A c X ∧ SS (w.heap.size + 1) s X ∧ TsAt X A b.ts ∧ Since w X) (fun X => SB (w.heap.size) b A c X ∧ SS (w.heap.size + 1) s X ∧ TsAt X A b.ts ∧ Since w X) [some 12, some 13, some 14, some 15, some 16, some 17, some 18, some 19] [.agg (bV b A c), .agg (sV s), .agg (bV b A c), .agg (sV s), .int .i64 (i : Int), .agg (boxV (bx b s i)), .int .i64 (k : Int), .bool true] (by kernel_rfl) (by kernel_rfl) (by kernel_rfl) (by kernel_rfl) (by kernel_rfl) (by kernel_rfl) (by kernel_rfl) ⟨HB1.out, HS1.out, hts.keep ((Below.refl _ _).drew), hsn.drew⟩ ?_ ?_
        · refine Vals.Steps.run (by kernel_rfl) ?_ ?_
          · intro a W hSt pre old K hK
            have e3 : a.tmps.getD 3 undef = .pointer (some ⟨w.heap.size, 0, none⟩) := old 3 _ (by kernel_rfl) rfl
            clear pre old
            simp only [Array.getD_eq_getD_getElem?] at e3
            have hS9 := hSt
            obtain ⟨⟨s0, s1, s2, s3, s4, s5⟩, ⟨d0, d1, d2⟩, ts, sn⟩ := hS9
            go_simp
            exact hK _ hSt
          refine Vals.Steps.run (by kernel_rfl) ?_ ?_
          · intro a W hSt pre old K hK
            have e4 : a.tmps.getD 4 undef = .pointer (some ⟨w.heap.size + 1, 0, none⟩) := old 4 _ (by kernel_rfl) rfl
            clear pre old
            simp only [Array.getD_eq_getD_getElem?] at e4
            have hS9 := hSt
            obtain ⟨⟨s0, s1, s2, s3, s4, s5⟩, ⟨d0, d1, d2⟩, ts, sn⟩ := hS9
            go_simp
            exact hK _ hSt
          refine Vals.Steps.run (by kernel_rfl) ?_ ?_
          · intro a W hSt pre old K hK
            have e3 : a.tmps.getD 3 undef = .pointer (some ⟨w.heap.size, 0, none⟩) := old 3 _ (by kernel_rfl) rfl
            clear pre old
            simp only [Array.getD_eq_getD_getElem?] at e3
            have hS9 := hSt
            obtain ⟨⟨s0, s1, s2, s3, s4, s5⟩, ⟨d0, d1, d2⟩, ts, sn⟩ := hS9
            go_simp
            exact hK _ hSt
          refine Vals.Steps.run (by kernel_rfl) ?_ ?_
          · intro a W hSt pre old K hK
            have e4 : a.tmps.getD 4 undef = .pointer (some ⟨w.heap.size + 1, 0, none⟩) := old 4 _ (by kernel_rfl) rfl
            clear pre old
            simp only [Array.getD_eq_getD_getElem?] at e4
            have hS9 := hSt
            obtain ⟨⟨s0, s1, s2, s3, s4, s5⟩, ⟨d0, d1, d2⟩, ts, sn⟩ := hS9
            go_simp
            exact hK _ hSt
          refine Vals.Steps.run (by kernel_rfl) ?_ ?_
          · intro a W hSt pre old K hK
            have e2 : a.tmps.getD 2 undef = .int .i64 (i : Int) := old 2 _ (by kernel_rfl) rfl
            clear pre old
            simp only [Array.getD_eq_getD_getElem?] at e2
            go_simp
            exact hK _ hSt
          refine Vals.Steps.run (by kernel_rfl) ?_ ?_
          · intro a W hSt pre old K hK
            have e14 : a.tmps.getD 14 undef = .agg (bV b A c) := pre 2 14 _ (by kernel_rfl) rfl rfl
            have e15 : a.tmps.getD 15 undef = .agg (sV s) := pre 3 15 _ (by kernel_rfl) rfl rfl
            have e16 : a.tmps.getD 16 undef = .int .i64 (i : Int) := pre 4 16 _ (by kernel_rfl) rfl rfl
            clear pre old
            simp only [Array.getD_eq_getD_getElem?] at e14 e15 e16
            go_simp
            obtain ⟨sB, sS, ts, sn⟩ := hSt
            refine (of_c b s A c i _ ts hi (by omega)).mono ?_
            rintro e w' ⟨rfl, hb'⟩
            exact hK _ ⟨SB.keep sB hb', SS.keep sS hb', ts.keep hb', sn.keep hb'⟩
          refine Vals.Steps.run (by kernel_rfl) ?_ ?_
          · intro a W hSt pre old K hK
            have e7 : a.tmps.getD 7 undef = .int .i64 (k : Int) := old 7 _ (by kernel_rfl) rfl
            clear pre old
            simp only [Array.getD_eq_getD_getElem?] at e7
            go_simp
            exact hK _ hSt
          refine Vals.Steps.last (by kernel_rfl) ?_
          · intro a W hSt pre old K hK
            have e12 : a.tmps.getD 12 undef = .agg (bV b A c) := pre 0 12 _ (by kernel_rfl) rfl rfl
            have e13 : a.tmps.getD 13 undef = .agg (sV s) := pre 1 13 _ (by kernel_rfl) rfl rfl
            have e17 : a.tmps.getD 17 undef = .agg (boxV (bx b s i)) := pre 5 17 _ (by kernel_rfl) rfl rfl
            have e18 : a.tmps.getD 18 undef = .int .i64 (k : Int) := pre 6 18 _ (by kernel_rfl) rfl rfl
            clear pre old
            simp only [Array.getD_eq_getD_getElem?] at e12 e13 e17 e18
            go_simp
            obtain ⟨sB, sS, ts, sn⟩ := hSt
            refine (rwithin2_c b A c s (bx b s i) (k : Int) _ HOK.out hS.k0 hS.k1 (by omega) (by omega)).mono ?_
            rintro e w' ⟨rfl, hb'⟩
            rw [HDK.out]
            exact hK _ ⟨SB.keep sB hb', SS.keep sS hb', ts.keep hb', sn.keep hb'⟩
        · rintro W ⟨t0, t1, t2, t3⟩
          simp only [Vals.putAll, List.setIfInBounds_toArray, List.set_cons_zero, List.set_cons_succ]
          go_wp2_with fail
          go_ret
          exact ⟨ret_int HV.out.symm, t3.1⟩
      · have HDK : Hid (sur b.mlo b.mhi (bx b s i) (-s.sink * (k : Int)) = false) := h
        have HDJ := Lib.hid h
        clear h
        go_wp2_with fail
        refine Vals.region (fun X => SB (w.heap.size) b A c X ∧ SS (w.heap.size + 1) s X ∧ TsAt X A b.ts ∧ Since w X) (fun X => SB (w.heap.size) b A c X ∧ SS (w.heap.size + 1) s X ∧ TsAt X A b.ts ∧ Since w X) [some 12, some 13, some 14, some 15, some 16, some 17, some 18, some 19] [.agg (bV b A c), .agg (sV s), .agg (bV b A c), .agg (sV s), .int .i64 (i : Int), .agg (boxV (bx b s i)), .int .i64 (k : Int), .bool false] (by kernel_rfl) (by kernel_rfl) (by kernel_rfl) (by kernel_rfl) (by kernel_rfl) (by kernel_rfl) (by kernel_rfl) ⟨HB1.out, HS1.out, hts.keep ((Below.refl _ _).drew), hsn.drew⟩ ?_ ?_
        · refine Vals.Steps.run (by kernel_rfl) ?_ ?_
          · intro a W hSt pre old K hK
            have e3 : a.tmps.getD 3 undef = .pointer (some ⟨w.heap.size, 0, none⟩) := old 3 _ (by kernel_rfl) rfl
            clear pre old
            simp only [Array.getD_eq_getD_getElem?] at e3
            have hS9 := hSt
            obtain ⟨⟨s0, s1, s2, s3, s4, s5⟩, ⟨d0, d1, d2⟩, ts, sn⟩ := hS9
            go_simp
            exact hK _ hSt
          refine Vals.Steps.run (by kernel_rfl) ?_ ?_
          · intro a W hSt pre old K hK
            have e4 : a.tmps.getD 4 undef = .pointer (some ⟨w.heap.size + 1, 0, none⟩) := old 4 _ (by kernel_rfl) rfl
            clear pre old
            simp only [Array.getD_eq_getD_getElem?] at e4
            have hS9 := hSt
            obtain ⟨⟨s0, s1, s2, s3, s4, s5⟩, ⟨d0, d1, d2⟩, ts, sn⟩ := hS9
            go_simp
            exact hK _ hSt
          refine Vals.Steps.run (by kernel_rfl) ?_ ?_
          · intro a W hSt pre old K hK
            have e3 : a.tmps.getD 3 undef = .pointer (some ⟨w.heap.size, 0, none⟩) := old 3 _ (by kernel_rfl) rfl
            clear pre old
            simp only [Array.getD_eq_getD_getElem?] at e3
            have hS9 := hSt
            obtain ⟨⟨s0, s1, s2, s3, s4, s5⟩, ⟨d0, d1, d2⟩, ts, sn⟩ := hS9
            go_simp
            exact hK _ hSt
          refine Vals.Steps.run (by kernel_rfl) ?_ ?_
          · intro a W hSt pre old K hK
            have e4 : a.tmps.getD 4 undef = .pointer (some ⟨w.heap.size + 1, 0, none⟩) := old 4 _ (by kernel_rfl) rfl
            clear pre old
            simp only [Array.getD_eq_getD_getElem?] at e4
            have hS9 := hSt
            obtain ⟨⟨s0, s1, s2, s3, s4, s5⟩, ⟨d0, d1, d2⟩, ts, sn⟩ := hS9
            go_simp
            exact hK _ hSt
          refine Vals.Steps.run (by kernel_rfl) ?_ ?_
          · intro a W hSt pre old K hK
            have e2 : a.tmps.getD 2 undef = .int .i64 (i : Int) := old 2 _ (by kernel_rfl) rfl
            clear pre old
            simp only [Array.getD_eq_getD_getElem?] at e2
            go_simp
            exact hK _ hSt
          refine Vals.Steps.run (by kernel_rfl) ?_ ?_
          · intro a W hSt pre old K hK
            have e14 : a.tmps.getD 14 undef = .agg (bV b A c) := pre 2 14 _ (by kernel_rfl) rfl rfl
            have e15 : a.tmps.getD 15 undef = .agg (sV s) := pre 3 15 _ (by kernel_rfl) rfl rfl
            have e16 : a.tmps.getD 16 undef = .int .i64 (i : Int) := pre 4 16 _ (by kernel_rfl) rfl rfl
            clear pre old
            simp only [Array.getD_eq_getD_getElem?] at e14 e15 e16
            go_simp
            obtain ⟨sB, sS, ts, sn⟩ := hSt
            refine (of_c b s A c i _ ts hi (by omega)).mono ?_
            rintro e w' ⟨rfl, hb'⟩
            exact hK _ ⟨SB.keep sB hb', SS.keep sS hb', ts.keep hb', sn.keep hb'⟩
          refine Vals.Steps.run (by kernel_rfl) ?_ ?_
          · intro a W hSt pre old K hK
            have e7 : a.tmps.getD 7 undef = .int .i64 (k : Int) := old 7 _ (by kernel_rfl) rfl
            clear pre old
            simp only [Array.getD_eq_getD_getElem?] at e7
            go_simp
            exact hK _ hSt
          refine Vals.Steps.last (by kernel_rfl) ?_
          · intro a W hSt pre old K hK
            have e12 : a.tmps.getD 12 undef = .agg (bV b A c) := pre 0 12 _ (by kernel_rfl) rfl rfl
            have e13 : a.tmps.getD 13 undef = .agg (sV s) := pre 1 13 _ (by kernel_rfl) rfl rfl
            have e17 : a.tmps.getD 17 undef = .agg (boxV (bx b s i)) := pre 5 17 _ (by kernel_rfl) rfl rfl
            have e18 : a.tmps.getD 18 undef = .int .i64 (k : Int) := pre 6 18 _ (by kernel_rfl) rfl rfl
            clear pre old
            simp only [Array.getD_eq_getD_getElem?] at e12 e13 e17 e18
            go_simp
            obtain ⟨sB, sS, ts, sn⟩ := hSt
            refine (rwithin2_c b A c s (bx b s i) (k : Int) _ HOK.out hS.k0 hS.k1 (by omega) (by omega)).mono ?_
            rintro e w' ⟨rfl, hb'⟩
            rw [HDK.out]
            exact hK _ ⟨SB.keep sB hb', SS.keep sS hb', ts.keep hb', sn.keep hb'⟩
        · rintro W ⟨t0, t1, t2, t3⟩
          simp only [Vals.putAll, List.setIfInBounds_toArray, List.set_cons_zero, List.set_cons_succ]
          go_wp2_with fail
          go_roundw
          case rel =>
            refine ⟨k + 1, by omega, by go_num, t3, t0, t1, fun j hj => ?_⟩
            rcases Nat.lt_or_ge j k with h1 | h1
            · exact H0.out j h1
            · obtain rfl : j = k := by omega
              exact HDJ.out
          case measure => simp [intOf]; omega
    · have HV : Hid (rlV (doesB b s i) = -1) := rlV_none (leastOf_none (fun j hj => H0.out j (by omega)))
      go_wp2_with fail
      go_ret
      exact ⟨ret_int HV.out.symm, hsn.1⟩
set_option maxRecDepth 100000 in
set_option maxHeartbeats 4000000 in
theorem rLeast_c (b : Bch) (s : Shp) (A : Option Addr) (c : Nat) (tide : Int) (w : World) (hp : TsAt w A b.ts) :
    Calls Try.prog 25 #[.agg (bV b A c), .agg (sV s), .int .i64 tide] w fun e w' => e = .returned (leastV b s tide) ∧ Below w.heap.size w w' := by
  have hs0 := ((Since.refl w).alloc (.cells (bV b A c) 26)).alloc (.cells (sV s) 28)
  have HB0 := Lib.hid ((Blk.new w 26 (bV b A c)).alloc (.cells (sV s) 28))
  have HS0 := Lib.hid (Blk.new1 w (.cells (bV b A c) 26) 28 (sV s))
  go_enter Try.func25, Try.ntmps25
  go_wp2_with fail
  refine (step_c b s A c tide 0 _ (hp.keep hs0.1)).mono ?_
  rintro e w1 ⟨rfl, hb1⟩
  have hs1 := hs0.keep hb1
  obtain ⟨c0, c1, c2, c3, c4, c5⟩ := (HB0.out.keep hb1).beach
  obtain ⟨d0, d1, d2⟩ := (HS0.out.keep hb1).ship
  clear HB0 HS0 hb1
  by_cases hc : stepE b s tide 0 = 0
  · obtain ⟨hk, ⟨r0, r1⟩, r2, r3⟩ := stepE_ok hc
    obtain ⟨hB, hS⟩ := chk_ok.1 hk
    have HK := Lib.hid hk
    rw [hc]
    clear hc hk
    obtain ⟨i, rfl⟩ : ∃ i : Nat, tide = i := ⟨tide.toNat, by omega⟩
    have hi : i < b.ts.length := by omega
    go_wp2_with fail
    refine (rleast_c b s A c i _ (hp.keep hs1.1) hB hS hi).mono ?_
    rintro e w2 ⟨rfl, hb2⟩
    have hs2 := hs1.keep hb2
    cases hlo : leastOf (doesB b s i) with
    | none =>
      have HV := Lib.hid (leastV_no HK.out hi hlo)
      rw [rlV_none hlo]
      clear hlo
      go_wp2_with fail
      go_ret2
      exact ⟨by rw [HV.out]; first | done | rfl, hs2.1⟩
    | some n =>
      have HV := Lib.hid (leastV_ok HK.out hi hlo)
      rw [rlV_some hlo]
      clear hlo
      have hf1 : decide ((n : Int) < 0) = false := decide_eq_false (by omega)
      clear hf1
      go_wp2_with fail
      go_ret2
      exact ⟨by rw [HV.out]; first | done | rfl, hs2.1⟩
  · have HV : Hid (leastV b s tide = .tuple #[.int .i64 0, .int .i64 (stepE b s tide 0)]) := by show _ = _; simp [leastV, hc]
    have hc' : (stepE b s tide 0 != 0) = true := by simpa using hc
    clear hc
    go_wp2_with fail
    go_ret2
    exact ⟨by rw [HV.out]; first | done | rfl, hs1.1⟩
end Td
end Go.Proofs.Ytojpiliamecgkaa
