import Derived.Test.YtfonljbkoaelaaaLeafB
namespace Go.Proofs.Ytfonljbkoaelaaa
open Go.RowKit
namespace Td
set_option linter.unusedSimpArgs false
set_option linter.unusedVariables false
theorem add_new (g i : Nat) : (⟨g, 0, none⟩ : Addr).add i = ⟨g, i, none⟩ := by unfold Addr.add; split <;> simp_all
theorem SpAt.one {w : World} {g : Nat} {t : TypeId} {p : Int × Int} (h : Blk w g t #[.int .i64 p.1, .int .i64 p.2]) : SpAt w (some ⟨g, 0, none⟩) [p] := fun _ => ⟨_, rfl, fun i q hq => by
  rw [add_new]
  match i, hq with
  | 0, hq =>
    obtain rfl : p = q := by simpa using hq
    exact ⟨h.cell 0, h.cell 1⟩
  | i + 1, hq => simp at hq⟩
theorem SpAt.two {w : World} {g : Nat} {t : TypeId} {p r : Int × Int} (h : Blk w g t #[.int .i64 p.1, .int .i64 p.2, .int .i64 r.1, .int .i64 r.2]) : SpAt w (some ⟨g, 0, none⟩) [p, r] := fun _ => ⟨_, rfl, fun i q hq => by
  rw [add_new]
  match i, hq with
  | 0, hq =>
    obtain rfl : p = q := by simpa using hq
    exact ⟨h.cell 0, h.cell 1⟩
  | 1, hq =>
    obtain rfl : r = q := by simpa using hq
    exact ⟨h.cell 2, h.cell 3⟩
  | i + 2, hq => simp at hq⟩
theorem PuAt.one {w : World} {g : Nat} {t : TypeId} {p : Pul} (h : Blk w g t #[.int .i64 p.tide, .int .i64 p.bal]) : PuAt w (some ⟨g, 0, none⟩) [p] := fun _ => ⟨_, rfl, fun i q hq => by
  rw [add_new]
  match i, hq with
  | 0, hq =>
    obtain rfl : p = q := by simpa using hq
    exact ⟨h.cell 0, h.cell 1⟩
  | i + 1, hq => simp at hq⟩
theorem near_c (lo hi n by_ : Int) (w : World) (a0 : -100000 ≤ n) (a1 : n ≤ 100000) (b0 : 0 ≤ by_) (b1 : by_ ≤ 100000) : Calls Try.prog 44 #[.agg #[.int .i64 lo, .int .i64 hi], .int .i64 n, .int .i64 by_] w fun e w' => e = .returned (.agg #[.int .i64 (max lo (n - by_)), .int .i64 (min hi (n + by_))]) ∧ Below w.heap.size w w' := by
  rcases (by omega : (lo < n - by_ ∧ max lo (n - by_) = n - by_) ∨ (¬ lo < n - by_ ∧ max lo (n - by_) = lo)) with ⟨h1, hx⟩ | ⟨h1, hx⟩ <;> rcases (by omega : (n + by_ < hi ∧ min hi (n + by_) = n + by_) ∨ (¬ n + by_ < hi ∧ min hi (n + by_) = hi)) with ⟨h2, hn⟩ | ⟨h2, hn⟩
  all_goals
    rw [hx, hn]
    clear hx hn
    go_enter Try.func44, Try.ntmps44
    go_wp2_with fail
    refine (span_c _ _ _).mono ?_
    rintro e w' ⟨rfl, hb⟩
    have HB := Lib.hid ((Blk.new1 w (.cells #[.int .i64 lo, .int .i64 hi] 23) 23 #[.int .i64 0, .int .i64 0]).keep hb)
    go_wp2_with (refine wpList_store_row rfl 23 _ _ rfl (w.heap.size + 1) _ rfl rfl 23 _ HB.out (by kernel_rfl) rfl (by simp [Value.oneCell']) ?_)
    (refine bodyPost_ret (v := .agg _) ?_ rfl ⟨rfl, ?_⟩; exact (results_cell_row Try.results44 _ _ (w.heap.size + 1) 23 _ (0, 0) _ rfl (HB.out.row _) Try.underlying23 rfl (by kernel_rfl)))
    exact below_setRow (bjoin hb (((Below.refl _ _).alloc (Nat.le_refl _) _).alloc (by simp) _) (by simp; omega)) (by omega) _
/-! ### spans in a row -/
theorem sw_at {lo hi : Int} {l : List (Int × Int)} {k : Nat} (hk : k < l.length) (h : (wi lo hi l[k].1 && wi lo hi l[k].2) = false) : sw lo hi l = false := by
  unfold sw
  rw [Bool.eq_false_iff, Ne, List.all_eq_true]
  intro ha
  have := ha _ (List.getElem_mem hk)
  rw [h] at this; cases this
theorem sw_all {lo hi : Int} {l : List (Int × Int)} (h : ∀ j (h : j < l.length), (wi lo hi l[j].1 && wi lo hi l[j].2) = true) : sw lo hi l = true := by
  unfold sw
  rw [List.all_eq_true]
  intro x hx
  obtain ⟨j, hj, rfl⟩ := List.mem_iff_getElem.1 hx
  exact h j hj
theorem tn_at {l : List (Int × Int)} {k : Nat} (hk : k < l.length) (h : l[k].2 < l[k].1) : tn l = true := by
  unfold tn
  rw [List.any_eq_true]
  exact ⟨_, List.getElem_mem hk, by simpa using h⟩
theorem tn_none {l : List (Int × Int)} (h : ∀ j (h : j < l.length), ¬ l[j].2 < l[j].1) : tn l = false := by
  unfold tn
  rw [Bool.eq_false_iff, Ne, List.any_eq_true]
  rintro ⟨x, hx, hy⟩
  obtain ⟨j, hj, rfl⟩ := List.mem_iff_getElem.1 hx
  exact h j hj (by simpa using hy)
set_option maxHeartbeats 1000000 in
theorem spansWithin_c (A : Option Addr) (l : List (Int × Int)) (c : Nat) (lo hi : Int) (w : World) (hl : l.length ≤ 1000) (hp : SpAt w A l) :
    Calls Try.prog 73 #[.int .i64 lo, .int .i64 hi, .slice A l.length c] w fun e w' => e = .returned (.bool (sw lo hi l)) ∧ Below w.heap.size w w' := by
  go_enter Try.func73, Try.ntmps73
  go_wp2
  go_loopw [8, 11] (fun _ i wr => ∃ k : Nat, k ≤ l.length ∧ i = .int .i64 k ∧ Since w wr ∧ Hid (∀ j (h : j < l.length), j < k → (wi lo hi l[j].1 && wi lo hi l[j].2) = true)) (fun _ i _ => l.length - (intOf i).toNat)
  case atStart => exact ⟨0, Nat.zero_le _, rfl, Since.refl _, fun j _ h => absurd h (by omega)⟩
  case round =>
    obtain ⟨k, hk, rfl, hsn, H0⟩ := hrel
    by_cases hlt : k < l.length
    · obtain ⟨ad, hA, c0, c1⟩ := hp.get hlt
      subst hA
      have c0' := keep_cell hsn.1 c0
      have c1' := keep_cell hsn.1 c1
      clear c0 c1
      have hsn2 := hsn.alloc (.cells #[.int .i64 l[k].1, .int .i64 l[k].2] 23)
      cases h1 : wi lo hi l[k].1
      · have HV := Lib.hid (sw_at (lo := lo) (hi := hi) hlt (by rw [h1]; rfl))
        have H1 := Lib.hid h1
        clear h1
        go_wp2_with fail
        refine (within_c _ _ _ _).mono ?_
        rintro e w' ⟨rfl, rfl⟩
        rw [H1.out]
        go_wp2_with fail
        go_ret
        exact ⟨ret_bool HV.out.symm, hsn2.1⟩
      · cases h2 : wi lo hi l[k].2
        · have HV := Lib.hid (sw_at (lo := lo) (hi := hi) hlt (by rw [h1, h2]; rfl))
          have H1 := Lib.hid h1
          have H2 := Lib.hid h2
          clear h1 h2
          go_wp2_with fail
          refine (within_c _ _ _ _).mono ?_
          rintro e w' ⟨rfl, rfl⟩
          rw [H1.out]
          go_wp2_with fail
          refine (within_c _ _ _ _).mono ?_
          rintro e w' ⟨rfl, rfl⟩
          rw [H2.out]
          go_wp2_with fail
          go_ret
          exact ⟨ret_bool HV.out.symm, hsn2.1⟩
        · have HV : Hid ((wi lo hi l[k].1 && wi lo hi l[k].2) = true) := by show _ = _; rw [h1, h2]; rfl
          have H1 := Lib.hid h1
          have H2 := Lib.hid h2
          clear h1 h2
          go_wp2_with fail
          refine (within_c _ _ _ _).mono ?_
          rintro e w' ⟨rfl, rfl⟩
          rw [H1.out]
          go_wp2_with fail
          refine (within_c _ _ _ _).mono ?_
          rintro e w' ⟨rfl, rfl⟩
          rw [H2.out]
          go_wp2_with fail
          go_roundw
          case rel =>
            refine ⟨k + 1, by omega, by go_num, hsn2, fun j h hj => ?_⟩
            rcases Nat.lt_or_ge j k with h1 | h1
            · exact H0.out j h h1
            · obtain rfl : j = k := by omega
              exact HV.out
          case measure => simp [intOf]; omega
    · have HV := Lib.hid (sw_all (lo := lo) (hi := hi) (l := l) fun j hj => H0.out j hj (by omega))
      go_wp2_with fail
      go_ret
      exact ⟨ret_bool HV.out.symm, hsn.1⟩
set_option maxHeartbeats 1000000 in
theorem turned_c (A : Option Addr) (l : List (Int × Int)) (c : Nat) (w : World) (hl : l.length ≤ 1000) (hp : SpAt w A l) :
    Calls Try.prog 74 #[.slice A l.length c] w fun e w' => e = .returned (.bool (tn l)) ∧ Below w.heap.size w w' := by
  go_enter Try.func74, Try.ntmps74
  go_wp2
  go_loopw [4, 7] (fun _ i wr => ∃ k : Nat, k ≤ l.length ∧ i = .int .i64 k ∧ Since w wr ∧ Hid (∀ j (h : j < l.length), j < k → ¬ l[j].2 < l[j].1)) (fun _ i _ => l.length - (intOf i).toNat)
  case atStart => exact ⟨0, Nat.zero_le _, rfl, Since.refl _, fun j _ h => absurd h (by omega)⟩
  case round =>
    obtain ⟨k, hk, rfl, hsn, H0⟩ := hrel
    by_cases hlt : k < l.length
    · obtain ⟨ad, hA, c0, c1⟩ := hp.get hlt
      subst hA
      have c0' := keep_cell hsn.1 c0
      have c1' := keep_cell hsn.1 c1
      clear c0 c1
      have hsn2 := hsn.alloc (.cells #[.int .i64 l[k].1, .int .i64 l[k].2] 23)
      by_cases h1 : l[k].2 < l[k].1
      · have HV := Lib.hid (tn_at hlt h1)
        go_wp2_with fail
        go_ret
        exact ⟨ret_bool HV.out.symm, hsn2.1⟩
      · have HV := Lib.hid h1
        go_wp2_with fail
        go_roundw
        case rel =>
          refine ⟨k + 1, by omega, by go_num, hsn2, fun j h hj => ?_⟩
          rcases Nat.lt_or_ge j k with h1 | h1
          · exact H0.out j h h1
          · obtain rfl : j = k := by omega
            exact HV.out
        case measure => simp [intOf]; omega
    · have HV := Lib.hid (tn_none (l := l) fun j hj => H0.out j hj (by omega))
      go_wp2_with fail
      go_ret
      exact ⟨ret_bool HV.out.symm, hsn.1⟩
end Td
end Go.Proofs.Ytfonljbkoaelaaa
