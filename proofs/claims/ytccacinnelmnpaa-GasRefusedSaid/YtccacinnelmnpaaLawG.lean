import Derived.Test.YtccacinnelmnpaaRefG
/- The law package: by turns, among, inside; the reference: Limited, Rise. -/
namespace Go.Proofs.Ytccacinnelmnpaa
open Go.RowKit
namespace Td
set_option linter.unusedSimpArgs false
set_option linter.unusedVariables false
/-- numbers of 16 bits in a row. -/
def U16At (w : World) (A : Option Addr) (l : List Int) : Prop :=
  l ≠ [] → ∃ a, A = some a ∧ ∀ i p, l[i]? = some p → w.cell? (a.add i) = some (.int .u16 p)
theorem U16At.keep {w w' : World} {A : Option Addr} {l : List Int} (h : U16At w A l) (hb : Below w.heap.size w w') : U16At w' A l := fun hx =>
  let ⟨a, ha, hc⟩ := h hx; ⟨a, ha, fun i p hp => keep_cell hb (hc i p hp)⟩
theorem U16At.get {w : World} {A : Option Addr} {l : List Int} (h : U16At w A l) {k : Nat} (hk : k < l.length) : ∃ a, A = some a ∧ w.cell? (a.add k) = some (.int .u16 l[k]) := by
  obtain ⟨a, ha, hc⟩ := h (fun e => by simp [e] at hk)
  exact ⟨a, ha, hc k _ (List.getElem?_eq_getElem hk)⟩
theorem U16At.alloc {w : World} {A : Option Addr} {l : List Int} (h : U16At w A l) (o : Obj) : U16At (w.alloc o) A l := h.keep ((Below.refl _ _).alloc (Nat.le_refl _) _)
theorem U16At.drew {w : World} {A : Option Addr} {l : List Int} (h : U16At w A l) : U16At w.drew A l := h
def U16Ok (l : List Int) : Prop := ∀ j (h : j < l.length), 0 ≤ l[j] ∧ l[j] ≤ 65535
/-- the n-th number of a list, by turns. -/
def turnV (l : List Int) (n : Nat) : Int := l[n % l.length]?.getD 0
theorem turnV_nil (n : Nat) : turnV [] n = 0 := by simp [turnV]
theorem turnV_at {l : List Int} {n : Nat} (h : n % l.length < l.length) : turnV l n = l[n % l.length] := by simp [turnV, List.getElem?_eq_getElem h]
theorem turnV_bd {l : List Int} (ho : U16Ok l) (n : Nat) : 0 ≤ turnV l n ∧ turnV l n ≤ 65535 := by
  rcases Nat.eq_zero_or_pos l.length with h | h
  · obtain rfl := List.eq_nil_of_length_eq_zero h
    simp [turnV]
  · have := ho (n % l.length) (Nat.mod_lt _ h)
    rw [turnV_at (Nat.mod_lt _ h)]
    exact this
set_option maxRecDepth 100000 in
set_option maxHeartbeats 2000000 in
theorem turn_c (P : Option Addr) (l : List Int) (pc n : Nat) (w : World) (hn : n ≤ 1000000) (hp : U16At w P l) (ho : U16Ok l) :
    Calls Try.prog 38 #[.slice P l.length pc, .int .i64 n] w fun e w' => e = .returned (.int .i64 (turnV l n)) ∧ w = w' := by
  rcases Nat.eq_zero_or_pos l.length with h | h
  · obtain rfl := List.eq_nil_of_length_eq_zero h
    have HV := Lib.hid (turnV_nil n)
    go_enter Try.func38, Try.ntmps38
    go_wp2_with fail
    go_ret
    exact ⟨ret_int HV.out.symm, rfl⟩
  · have hm := Nat.mod_lt n h
    have HV := Lib.hid (turnV_at hm)
    obtain ⟨ad, hA, c0⟩ := hp.get hm
    subst hA
    obtain ⟨v, hv⟩ : ∃ v, l[n % l.length] = v := ⟨_, rfl⟩
    obtain ⟨v0, v1⟩ := ho _ hm
    rw [hv] at c0 HV v0 v1
    clear hv ho
    obtain ⟨L, hL⟩ : ∃ L, l.length = L := ⟨_, rfl⟩
    rw [hL] at h hm c0 ⊢
    have HL := Lib.hid hL
    clear hL hp
    have hz : ((L : Int) == 0) = false := by simp; omega
    have hz2 : (L == 0) = false := by simp; omega
    have hcast : ((n : Int) % (L : Int)) = ((n % L : Nat) : Int) := by omega
    have htm : ((n : Int).tmod (L : Int)) = ((n % L : Nat) : Int) := by rw [Int.tmod_eq_emod_of_nonneg (by omega)]; omega
    obtain ⟨m, hmm⟩ : ∃ m, n % L = m := ⟨_, rfl⟩
    rw [hmm] at hm c0 hcast htm
    have HM := Lib.hid hmm
    clear hmm
    go_enter Try.func38, Try.ntmps38
    go_wp2_with fail
    go_ret
    exact ⟨ret_int HV.out.symm, rfl⟩
def amongV (lo hi n : Int) : Int := lo + n % (hi - lo + 1)
theorem amongV_in {lo hi n : Int} (h : lo ≤ hi) : lo ≤ amongV lo hi n ∧ amongV lo hi n ≤ hi := by
  unfold amongV
  have := Int.emod_nonneg n (show hi - lo + 1 ≠ 0 by omega)
  have := Int.emod_lt_of_pos n (show 0 < hi - lo + 1 by omega)
  omega
set_option maxRecDepth 100000 in
set_option maxHeartbeats 2000000 in
theorem among_c (lo hi n : Int) (w : World) (h : lo ≤ hi) (h0 : -10000 ≤ lo) (h1 : hi ≤ 10000) (n0 : 0 ≤ n) (n1 : n ≤ 1000000) :
    Calls Try.prog 40 #[.agg #[.int .i64 lo, .int .i64 hi], .int .i64 n] w fun e w' => e = .returned (.int .i64 (amongV lo hi n)) ∧ Below w.heap.size w w' := by
  have hin := amongV_in (n := n) h
  have HV : Hid (lo + n % (hi - lo + 1) = amongV lo hi n) := by rfl
  have e1 : IntKind.i64.wrap (hi - lo) = hi - lo := IntWalk.i64_in _ (by omega)
  have e2 : IntKind.i64.wrap (hi - lo + 1) = hi - lo + 1 := IntWalk.i64_in _ (by omega)
  have e4 : n.tmod (hi - lo + 1) = n % (hi - lo + 1) := Int.tmod_eq_emod_of_nonneg n0
  have e3 : IntKind.i64.wrap (lo + n % (hi - lo + 1)) = lo + n % (hi - lo + 1) := IntWalk.i64_in _ (by rw [HV.out]; omega)
  have hne : ((hi - lo + 1) == 0) = false := by simp; omega
  have hne2 : hi - lo + 1 ≠ 0 := by omega
  have e5 : IntKind.i64.wrap (n % (hi - lo + 1)) = n % (hi - lo + 1) := IntWalk.i64_in _ (by
    have := Int.emod_nonneg n (show hi - lo + 1 ≠ 0 by omega)
    have := Int.emod_lt_of_pos n (show 0 < hi - lo + 1 by omega)
    omega)
  obtain ⟨hi0, hi1⟩ := hin
  go_enter Try.func40, Try.ntmps40
  go_wp2_with fail
  go_quiet (fail)
  go_wp2_with fail
  go_ret
  exact ⟨ret_int HV.out, bdrew ((Below.refl _ _).alloc (Nat.le_refl _) _) _⟩
theorem inside_c (n : Int) (p : Int × Int) (w : World) : Calls Try.prog 35 #[.int .i64 n, .agg #[.int .i64 p.1, .int .i64 p.2]] w fun e w' => e = .returned (.bool (wi p.1 p.2 n)) ∧ Below w.heap.size w w' := by
  by_cases h1 : p.1 ≤ n <;> by_cases h2 : n ≤ p.2
  all_goals
    have hv : wi p.1 p.2 n = (decide (p.1 ≤ n) && decide (n ≤ p.2)) := rfl
    simp only [h1, h2, decide_true, decide_false, Bool.and_true, Bool.and_false] at hv
    have HV := Lib.hid hv
    clear hv
    go_enter Try.func35, Try.ntmps35
    go_wp2
    go_ret
    exact ⟨ret_bool HV.out.symm, (Below.refl _ _).alloc (Nat.le_refl _) _⟩
theorem limited_c (n : Int) (w : World) : Calls Try.prog 58 #[.int .i64 n] w fun e w' => e = .returned (.int .i64 (hld n)) ∧ w = w' := by
  rcases (by omega : n < 0 ∨ (0 ≤ n ∧ n ≤ 200) ∨ 200 < n) with h | ⟨h1, h2⟩ | h
  · have HV : Hid (0 = hld n) := by show _ = _; unfold hld; omega
    have q1 : n < 200 := by omega
    go_enter Try.func58, Try.ntmps58
    go_wp2
    go_ret
    exact ⟨ret_int HV.out, rfl⟩
  · have HV : Hid (n = hld n) := by show _ = _; unfold hld; omega
    by_cases q1 : n < 200
    · by_cases q2 : 0 < n
      · go_enter Try.func58, Try.ntmps58
        go_wp2
        go_ret
        exact ⟨ret_int HV.out, rfl⟩
      · obtain rfl : n = 0 := by omega
        have HV2 : Hid (0 = hld 0) := HV
        go_enter Try.func58, Try.ntmps58
        go_wp2
        go_ret
        exact ⟨ret_int HV2.out, rfl⟩
    · obtain rfl : n = 200 := by omega
      have HV2 : Hid (200 = hld 200) := HV
      go_enter Try.func58, Try.ntmps58
      go_wp2
      go_ret
      exact ⟨ret_int HV2.out, rfl⟩
  · have HV : Hid (200 = hld n) := by show _ = _; unfold hld; omega
    have q1 : ¬ n < 200 := by omega
    go_enter Try.func58, Try.ntmps58
    go_wp2
    go_ret
    exact ⟨ret_int HV.out, rfl⟩
set_option maxRecDepth 100000 in
set_option maxHeartbeats 4000000 in
theorem rise_c (s : Spc) (m : Sl) (mi : Int) (w : World) (hl : s.blows.length ≤ 1000) (hsa : SAt w m s) :
    Calls Try.prog 57 #[.agg (sV s m), .int .i64 mi] w fun e w' => e = .returned (.agg #[.int .i64 (chg s mi).1, .int .i64 (chg s mi).2]) ∧ Below w.heap.size w w' := by
  have hsn0 := ((Since.refl w).alloc (.cells (sV s m) 27)).alloc (.cells #[.int .i64 0, .int .i64 0] 23)
  have HB0 := Lib.hid ((Blk.new w 27 (sV s m)).alloc (.cells #[.int .i64 0, .int .i64 0] 23))
  have HR0 := Lib.hid (Blk.new1 w (.cells (sV s m) 27) 23 #[.int .i64 0, .int .i64 0])
  go_enter Try.func57, Try.ntmps57
  go_wp2_with fail
  go_loopw [5] (fun i wr => ∃ k : Nat, k ≤ s.blows.length ∧ i = .int .i64 k ∧ Since w wr ∧ Hid (Blk wr w.heap.size 27 (sV s m)) ∧ Hid (Blk wr (w.heap.size + 1) 23 #[.int .i64 0, .int .i64 0]) ∧ Hid (∀ j (h : j < s.blows.length), j < k → wi s.blows[j].1 s.blows[j].2 mi = false)) (fun i _ => s.blows.length - (intOf i).toNat)
  case atStart => exact ⟨0, Nat.zero_le _, rfl, hsn0, HB0, HR0, fun j _ h => absurd h (by omega)⟩
  case round =>
    obtain ⟨k, hk, rfl, hsn, HB, HR, H0⟩ := hrel
    obtain ⟨c0, c1, c2, c3, c4, c5, c6, c7, c8⟩ := HB.out.space
    by_cases hlt : k < s.blows.length
    · obtain ⟨ad, hA, q0, q1⟩ := hsa.bl.get hlt
      have HA := Lib.hid hA
      have HC0 := Lib.hid q0
      have HC1 := Lib.hid q1
      have hki : (k : Int) < (s.blows.length : Int) := by omega
      have HKI := Lib.hid hki
      have hAt : Hid (wi s.blows[k].1 s.blows[k].2 mi = true → chg s mi = (s.b0, s.b1)) := fun h => chg_at hlt h
      clear q0 q1 hA
      go_wp2_with fail
      refine Vals9.region (fun _ X => Blk X w.heap.size 27 (sV s m) ∧ Blk X (w.heap.size + 1) 23 #[.int .i64 0, .int .i64 0] ∧ Since w X) [some 13, some 14, some 15, some 16, some 17, some 18, some 19, some 20, some 21, some 22, some 23, some 24, some 25, some 26] [.is (.int .i64 mi), .is (.pointer (some ⟨w.heap.size, 7, none⟩)), .is (.slice m.A s.blows.length m.c), .is (.int .i64 (k : Int)), .is (.pointer (some (ad.add (k * 2)))), .is (.pointer (some (ad.add (k * 2)))), .is (.int .i64 s.blows[k].1), .is (.pointer (some ⟨w.heap.size, 7, none⟩)), .is (.slice m.A s.blows.length m.c), .is (.int .i64 (k : Int)), .is (.pointer (some (ad.add (k * 2)))), .is (.pointer (some (at_ (ad.add (k * 2)) 1))), .is (.int .i64 s.blows[k].2), .is (.bool (wi s.blows[k].1 s.blows[k].2 mi))] (by kernel_rfl) (by kernel_rfl) (by kernel_rfl) (by kernel_rfl) (by kernel_rfl) (by kernel_rfl) (⟨HB.out.drew, HR.out.drew, hsn.drew⟩) ?_ ?_
      · refine Vals9.Steps.run (by kernel_rfl) ?_ ?_
        · intro a W σ hJ pre K hK
          have e1 : a.tmps.getD 1 undef = .int .i64 mi := pre.2.2 1 _ (by kernel_rfl) rfl
          clear pre
          simp only [Array.getD_eq_getD_getElem?] at e1
          go_simp
          exact hK _ hJ
        refine Vals9.Steps.run (by kernel_rfl) ?_ ?_
        · intro a W σ hJ pre K hK
          have e2 : a.tmps.getD 2 undef = .pointer (some ⟨w.heap.size, 0, none⟩) := pre.2.2 2 _ (by kernel_rfl) rfl
          clear pre
          simp only [Array.getD_eq_getD_getElem?] at e2
          go_simp
          exact hK _ hJ
        refine Vals9.Steps.run (by kernel_rfl) ?_ ?_
        · intro a W σ hJ pre K hK
          have e14 : a.tmps.getD 14 undef = .pointer (some ⟨w.heap.size, 7, none⟩) := pre.1 1 14 _ (by kernel_rfl) rfl rfl
          clear pre
          simp only [Array.getD_eq_getD_getElem?] at e14
          have hS9 := hJ
          obtain ⟨l1, l2, l3⟩ := hS9
          have q0 := keep_cell l3.1 HC0.out
          have q1 := keep_cell l3.1 HC1.out
          obtain ⟨c0, c1, c2, c3, c4, c5, c6, c7, c8⟩ := l1.space
          go_simp
          exact hK _ hJ
        refine Vals9.Steps.run (by kernel_rfl) ?_ ?_
        · intro a W σ hJ pre K hK
          have e5 : a.tmps.getD 5 undef = .int .i64 (k : Int) := pre.2.2 5 _ (by kernel_rfl) rfl
          clear pre
          simp only [Array.getD_eq_getD_getElem?] at e5
          go_simp
          exact hK _ hJ
        refine Vals9.Steps.run (by kernel_rfl) ?_ ?_
        · intro a W σ hJ pre K hK
          have e15 : a.tmps.getD 15 undef = .slice m.A s.blows.length m.c := pre.1 2 15 _ (by kernel_rfl) rfl rfl
          have e16 : a.tmps.getD 16 undef = .int .i64 (k : Int) := pre.1 3 16 _ (by kernel_rfl) rfl rfl
          clear pre
          simp only [Array.getD_eq_getD_getElem?] at e15 e16
          have hki := HKI.out
          have hA := HA.out
          go_simp
          exact hK _ hJ
        refine Vals9.Steps.run (by kernel_rfl) ?_ ?_
        · intro a W σ hJ pre K hK
          have e17 : a.tmps.getD 17 undef = .pointer (some (ad.add (k * 2))) := pre.1 4 17 _ (by kernel_rfl) rfl rfl
          clear pre
          simp only [Array.getD_eq_getD_getElem?] at e17
          go_simp
          exact hK _ hJ
        refine Vals9.Steps.run (by kernel_rfl) ?_ ?_
        · intro a W σ hJ pre K hK
          have e18 : a.tmps.getD 18 undef = .pointer (some (ad.add (k * 2))) := pre.1 5 18 _ (by kernel_rfl) rfl rfl
          clear pre
          simp only [Array.getD_eq_getD_getElem?] at e18
          have hS9 := hJ
          obtain ⟨l1, l2, l3⟩ := hS9
          have q0 := keep_cell l3.1 HC0.out
          have q1 := keep_cell l3.1 HC1.out
          obtain ⟨c0, c1, c2, c3, c4, c5, c6, c7, c8⟩ := l1.space
          go_simp
          exact hK _ hJ
        refine Vals9.Steps.run (by kernel_rfl) ?_ ?_
        · intro a W σ hJ pre K hK
          have e2 : a.tmps.getD 2 undef = .pointer (some ⟨w.heap.size, 0, none⟩) := pre.2.2 2 _ (by kernel_rfl) rfl
          clear pre
          simp only [Array.getD_eq_getD_getElem?] at e2
          go_simp
          exact hK _ hJ
        refine Vals9.Steps.run (by kernel_rfl) ?_ ?_
        · intro a W σ hJ pre K hK
          have e20 : a.tmps.getD 20 undef = .pointer (some ⟨w.heap.size, 7, none⟩) := pre.1 7 20 _ (by kernel_rfl) rfl rfl
          clear pre
          simp only [Array.getD_eq_getD_getElem?] at e20
          have hS9 := hJ
          obtain ⟨l1, l2, l3⟩ := hS9
          have q0 := keep_cell l3.1 HC0.out
          have q1 := keep_cell l3.1 HC1.out
          obtain ⟨c0, c1, c2, c3, c4, c5, c6, c7, c8⟩ := l1.space
          go_simp
          exact hK _ hJ
        refine Vals9.Steps.run (by kernel_rfl) ?_ ?_
        · intro a W σ hJ pre K hK
          have e5 : a.tmps.getD 5 undef = .int .i64 (k : Int) := pre.2.2 5 _ (by kernel_rfl) rfl
          clear pre
          simp only [Array.getD_eq_getD_getElem?] at e5
          go_simp
          exact hK _ hJ
        refine Vals9.Steps.run (by kernel_rfl) ?_ ?_
        · intro a W σ hJ pre K hK
          have e21 : a.tmps.getD 21 undef = .slice m.A s.blows.length m.c := pre.1 8 21 _ (by kernel_rfl) rfl rfl
          have e22 : a.tmps.getD 22 undef = .int .i64 (k : Int) := pre.1 9 22 _ (by kernel_rfl) rfl rfl
          clear pre
          simp only [Array.getD_eq_getD_getElem?] at e21 e22
          have hki := HKI.out
          have hA := HA.out
          go_simp
          exact hK _ hJ
        refine Vals9.Steps.run (by kernel_rfl) ?_ ?_
        · intro a W σ hJ pre K hK
          have e23 : a.tmps.getD 23 undef = .pointer (some (ad.add (k * 2))) := pre.1 10 23 _ (by kernel_rfl) rfl rfl
          clear pre
          simp only [Array.getD_eq_getD_getElem?] at e23
          go_simp
          exact hK _ hJ
        refine Vals9.Steps.run (by kernel_rfl) ?_ ?_
        · intro a W σ hJ pre K hK
          have e24 : a.tmps.getD 24 undef = .pointer (some (at_ (ad.add (k * 2)) 1)) := pre.1 11 24 _ (by kernel_rfl) rfl rfl
          clear pre
          simp only [Array.getD_eq_getD_getElem?] at e24
          have hS9 := hJ
          obtain ⟨l1, l2, l3⟩ := hS9
          have q0 := keep_cell l3.1 HC0.out
          have q1 := keep_cell l3.1 HC1.out
          obtain ⟨c0, c1, c2, c3, c4, c5, c6, c7, c8⟩ := l1.space
          go_simp
          exact hK _ hJ
        refine Vals9.Steps.run (by kernel_rfl) ?_ ?_
        · intro a W σ hJ pre K hK
          have e13 : a.tmps.getD 13 undef = .int .i64 mi := pre.1 0 13 _ (by kernel_rfl) rfl rfl
          have e19 : a.tmps.getD 19 undef = .int .i64 s.blows[k].1 := pre.1 6 19 _ (by kernel_rfl) rfl rfl
          have e25 : a.tmps.getD 25 undef = .int .i64 s.blows[k].2 := pre.1 12 25 _ (by kernel_rfl) rfl rfl
          clear pre
          simp only [Array.getD_eq_getD_getElem?] at e13 e19 e25
          go_simp
          refine (rin_c s.blows[k].1 s.blows[k].2 mi _).mono ?_
          rintro e w' ⟨rfl, rfl⟩
          exact hK _ hJ
        exact Vals9.Steps.nil
      · intro X σ hJ
        simp only [Vals9.All]
        simp only [Vals.putAll, List.setIfInBounds_toArray, List.set_cons_zero, List.set_cons_succ]
        obtain ⟨HB2, HR2, hsn2⟩ := hJ
        clear c0 c1 c2 c3 c4 c5 c6 c7 c8
        rcases Bool.eq_false_or_eq_true (wi s.blows[k].1 s.blows[k].2 mi) with h1 | h1
        · have HV := Lib.hid (hAt.out h1)
          rw [h1]
          clear h1
          obtain ⟨c0, c1, c2, c3, c4, c5, c6, c7, c8⟩ := HB2.space
          have HR3 := Lib.hid HR2
          go_wp2_with (refine wpList_store_row rfl 23 _ _ rfl (w.heap.size + 1) _ rfl rfl 23 _ HR3.out (by kernel_rfl) rfl (by simp [Value.oneCell']) ?_)
          refine bodyPost_ret (v := .agg _) (results_cell_row Try.results57 _ _ (w.heap.size + 1) 23 _ (0, 0) _ rfl (HR3.out.row _) Try.underlying23 rfl (by kernel_rfl)) rfl ⟨?_, (hsn2.row (by omega) _).1⟩
          rw [HV.out]
        · have HN := Lib.hid h1
          rw [h1]
          clear h1
          go_wp2_with fail
          go_roundw
          case rel =>
            refine ⟨k + 1, by omega, by go_num, hsn2, HB2, HR2, fun j h hj => ?_⟩
            rcases Nat.lt_or_ge j k with h1 | h1
            · exact H0.out j h h1
            · obtain rfl : j = k := by omega
              exact HN.out
          case measure => simp [intOf]; omega
    · have HV := Lib.hid (chg_none (s := s) (m := mi) fun j h => H0.out j h (by omega))
      have hki : ¬ (k : Int) < (s.blows.length : Int) := by omega
      go_wp2_with (refine wpList_store_row rfl 23 _ _ rfl (w.heap.size + 1) _ rfl rfl 23 _ HR.out (by kernel_rfl) rfl (by simp [Value.oneCell']) ?_)
      refine bodyPost_ret (v := .agg _) (results_cell_row Try.results57 _ _ (w.heap.size + 1) 23 _ (0, 0) _ rfl (HR.out.row _) Try.underlying23 rfl (by kernel_rfl)) rfl ⟨?_, (hsn.row (by omega) _).1⟩
      rw [HV.out]
end Td
end Go.Proofs.Ytccacinnelmnpaa
