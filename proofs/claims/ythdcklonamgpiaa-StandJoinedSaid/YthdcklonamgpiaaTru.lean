import Derived.Test.YthdcklonamgpiaaBal2
/- The errors of a truth, of a height, of a tide; why a balance does not stand. -/
namespace Go.Proofs.Ythdcklonamgpiaa
open Go.RowKit
namespace Td
set_option linter.unusedSimpArgs false
set_option linter.unusedVariables false
attribute [local go_sem] Oper.semAt_some
/-! ### why a balance does not stand -/
def enf (k : Nat) : Int := if k = 0 then 1 else 0
theorem index_r3 (f : Nat → Int) {k : Nat} (hk : k < 3) (w : World) : (Instr.index 90 (.agg (r3 f)) (.int .i64 k)).run Try.prog w = .ok (.int .i64 (f k)) w := by
  rcases (by omega : k = 0 ∨ k = 1 ∨ k = 2) with rfl | rfl | rfl <;> kernel_rfl
theorem whyB_at {f : Nat → Int} {k : Nat} (hk : k < 3) (h0 : ∀ j, j < k → ¬ f j < enf j) (h : f k < enf k) : whyB (f 0) (f 1) (f 2) = k + 1 := by
  rcases (by omega : k = 0 ∨ k = 1 ∨ k = 2) with rfl | rfl | rfl
  · unfold whyB; rw [if_pos (by simpa [enf] using h)]; rfl
  · have h1 := h0 0 (by omega)
    unfold whyB; rw [if_neg (by simpa [enf] using h1), if_pos (by simpa [enf] using h)]; rfl
  · have h1 := h0 0 (by omega)
    have h2 := h0 1 (by omega)
    unfold whyB; rw [if_neg (by simpa [enf] using h1), if_neg (by simpa [enf] using h2), if_pos (by simpa [enf] using h)]; rfl
theorem whyB_none {f : Nat → Int} (h0 : ∀ j, j < 3 → ¬ f j < enf j) : whyB (f 0) (f 1) (f 2) = 0 := by
  have h1 := h0 0 (by omega)
  have h2 := h0 1 (by omega)
  have h3 := h0 2 (by omega)
  unfold whyB; rw [if_neg (by simpa [enf] using h1), if_neg (by simpa [enf] using h2), if_neg (by simpa [enf] using h3)]
set_option maxHeartbeats 2000000 in
theorem bwhy_c (f : Nat → Int) (w : World) : Calls Try.prog 61 #[.agg (r3 f)] w fun e w' => e = .returned (.int .i64 (whyB (f 0) (f 1) (f 2))) ∧ Below w.heap.size w w' := by
  have HB := Lib.hid (show Blk (w.alloc (.cells #[.int .i64 (f 0), .int .i64 (f 1), .int .i64 (f 2)] 90)) w.heap.size 90 #[.int .i64 (f 0), .int .i64 (f 1), .int .i64 (f 2)] from Blk.new w _ _)
  have hs0 := ((Since.refl w).alloc (.cells #[.int .i64 (f 0), .int .i64 (f 1), .int .i64 (f 2)] 90)).alloc (.cells #[.int .i64 1, .int .i64 0, .int .i64 0] 90)
  have HE : Hid (Blk ((w.alloc (.cells #[.int .i64 (f 0), .int .i64 (f 1), .int .i64 (f 2)] 90)).alloc (.cells #[.int .i64 1, .int .i64 0, .int .i64 0] 90)) (w.heap.size + 1) 90 (r3 enf)) := Blk.new1 w _ _ _
  show Calls Try.prog 61 #[.agg #[.int .i64 (f 0), .int .i64 (f 1), .int .i64 (f 2)]] w _
  go_enter Try.func61, Try.ntmps61
  go_wp2_with fail
  go_loopw [8] (fun i wr => ∃ k : Nat, k ≤ 3 ∧ i = .int .i64 k ∧ Hid (Since w wr) ∧ Hid (Blk wr (w.heap.size + 1) 90 (r3 enf)) ∧ Hid (∀ j, j < k → ¬ f j < enf j)) (fun i _ => 3 - (intOf i).toNat)
  case atStart => exact ⟨0, by omega, rfl, hs0, HE, fun j h => absurd h (by omega)⟩
  case round =>
    obtain ⟨k, hk, rfl, hsn, HEk, H0⟩ := hrel
    by_cases hlt : k < 3
    · have hix : ∀ w, (Instr.index 90 (.agg #[.int .i64 (f 0), .int .i64 (f 1), .int .i64 (f 2)]) (.int .i64 k)).run Try.prog w = .ok (.int .i64 (f k)) w := index_r3 f hlt
      have g0 := HEk.out.cell k
      rw [r3_get _ hlt] at g0
      by_cases hf : f k < enf k
      · have HV := Lib.hid (whyB_at hlt H0.out hf)
        go_wp2_with fail
        go_ret
        exact ⟨ret_int (by rw [HV.out]; omega), hsn.out.1⟩
      · have HF := Lib.hid hf
        go_wp2_with fail
        go_roundw
        case rel =>
          refine ⟨k + 1, by omega, by go_num, hsn, HEk, fun j hj => ?_⟩
          rcases Nat.lt_or_ge j k with h1 | h1
          · exact H0.out j h1
          · obtain rfl : j = k := by omega
            exact HF.out
        case measure => simp [intOf]; omega
    · obtain rfl : k = 3 := by omega
      have HV := Lib.hid (whyB_none H0.out)
      go_wp2_with fail
      go_ret
      exact ⟨ret_int HV.out.symm, hsn.out.1⟩
/-! ### the errors of a height and a tide -/
theorem waterFault_c (wt : Int) (w : World) : Calls Try.prog 50 #[.int .i64 wt] w fun e w' => e = .returned (.int .i64 (waterE wt)) ∧ Below w.heap.size w w' := by
  obtain ⟨E, hE⟩ : ∃ E, waterE wt = E := ⟨_, rfl⟩
  rw [hE]
  unfold waterE at hE
  have hs0 := (Since.refl w).alloc (.cells #[.int .i64 wt] 3)
  go_enter Try.func50, Try.ntmps50
  go_wp2_with fail
  refine (within_c _ _ _ _ _ _ (Blk.new _ _ _)).mono ?_
  rintro e w1 ⟨rfl, hb1⟩
  have hs1 := hs0.keep hb1
  rcases Bool.eq_false_or_eq_true (wi 0 1000 wt) with h1 | h1
  · rw [if_pos h1] at hE
    rw [h1]
    go_wp2_with fail
    go_ret
    exact ⟨ret_int hE, hs1.1⟩
  · rw [if_neg (by rw [h1]; decide)] at hE
    rw [h1]
    go_wp2_with fail
    go_ret
    exact ⟨ret_int hE, hs1.1⟩
theorem Blk.span {w : World} {g : Nat} {t : TypeId} {a b : Int} (k : Blk w g t #[.int .i64 a, .int .i64 b]) : w.cell? ⟨g, 0, none⟩ = some (.int .i64 a) ∧ w.cell? ⟨g, 1, none⟩ = some (.int .i64 b) := ⟨k.cell 0, k.cell 1⟩
theorem tideFault_c (lo hi : Int) (w : World) : Calls Try.prog 64 #[.agg #[.int .i64 lo, .int .i64 hi]] w fun e w' => e = .returned (.int .i64 (tideE lo hi)) ∧ Below w.heap.size w w' := by
  obtain ⟨E, hE⟩ : ∃ E, tideE lo hi = E := ⟨_, rfl⟩
  rw [hE]
  have hE2 : (if sw 0 1000 [(lo, hi)] then (if tn [(lo, hi)] then 2 else 0) else 7) = E := by
    rw [← hE]; simp [tideE, sw, tn]
  clear hE
  have hs0 := (Since.refl w).alloc (.cells #[.int .i64 lo, .int .i64 hi] 48)
  have HB0 := Lib.hid (Blk.new w 48 #[.int .i64 lo, .int .i64 hi])
  go_enter Try.func64, Try.ntmps64
  go_wp2_with fail
  refine (spansWithin_c _ [(lo, hi)] _ 0 1000 _ (by simp) (SpAt.one (p := (lo, hi)) (Blk.new1 _ _ _ _))).mono ?_
  rintro e w1 ⟨rfl, hb1⟩
  have hs1 := (hs0.alloc _).keep hb1
  have HB1 := Lib.hid ((HB0.out.alloc _).keep hb1)
  rcases Bool.eq_false_or_eq_true (sw 0 1000 [(lo, hi)]) with h1 | h1
  · rw [if_pos h1] at hE2
    rw [h1]
    clear h1
    obtain ⟨c0, c1⟩ := HB1.out.span
    go_wp2_with fail
    refine (turned_c _ [(lo, hi)] _ _ (by simp) (SpAt.one (p := (lo, hi)) (Blk.new _ _ _))).mono ?_
    rintro e w2 ⟨rfl, hb2⟩
    have hs2 := (hs1.alloc _).keep hb2
    clear c0 c1
    rcases Bool.eq_false_or_eq_true (tn [(lo, hi)]) with h2 | h2
    · rw [if_pos h2] at hE2
      rw [h2]
      go_wp2_with fail
      go_ret
      exact ⟨ret_int hE2, hs2.1⟩
    · rw [if_neg (by rw [h2]; decide)] at hE2
      rw [h2]
      go_wp2_with fail
      go_ret
      exact ⟨ret_int hE2, hs2.1⟩
  · rw [if_neg (by rw [h1]; decide)] at hE2
    rw [h1]
    go_wp2_with fail
    go_ret
    exact ⟨ret_int hE2, hs1.1⟩
/-! ### numbers of a truth, from their spans -/
theorem span1_c (x : Prt) (w : World) : Calls Try.prog 84 #[.agg (pV x)] w fun e w' => e = .returned (.agg #[.int .i64 x.w0, .int .i64 x.w1]) ∧ Below w.heap.size w w' := by
  have hs0 := ((Since.refl w).alloc (.cells (pV x) 74)).alloc (.cells #[.int .i64 0, .int .i64 0] 48)
  have HP := Lib.hid ((Blk.new w 74 (pV x)).alloc (.cells #[.int .i64 0, .int .i64 0] 48))
  have HB := Lib.hid (Blk.new1 w (.cells (pV x) 74) 48 #[.int .i64 0, .int .i64 0])
  obtain ⟨d0, d1, d2, d3, d4, d5, d6⟩ := HP.out.part
  go_enter Try.func84, Try.ntmps84
  go_wp2_with (refine wpList_store_row rfl 48 _ _ rfl (w.heap.size + 1) _ rfl rfl 48 _ HB.out (by kernel_rfl) rfl (by simp [Value.oneCell']) ?_)
  (refine bodyPost_ret (v := .agg _) ?_ rfl ⟨rfl, ?_⟩; exact (results_cell_row Try.results84 _ _ (w.heap.size + 1) 48 _ (0, 0) _ rfl (HB.out.row _) Try.underlying48 rfl (by kernel_rfl)))
  exact (hs0.row (by omega) _).1
theorem span2_c (x : Prt) (w : World) : Calls Try.prog 85 #[.agg (pV x)] w fun e w' => e = .returned (.agg #[.int .i64 x.l0, .int .i64 x.l1]) ∧ Below w.heap.size w w' := by
  have hs0 := ((Since.refl w).alloc (.cells (pV x) 74)).alloc (.cells #[.int .i64 0, .int .i64 0] 48)
  have HP := Lib.hid ((Blk.new w 74 (pV x)).alloc (.cells #[.int .i64 0, .int .i64 0] 48))
  have HB := Lib.hid (Blk.new1 w (.cells (pV x) 74) 48 #[.int .i64 0, .int .i64 0])
  obtain ⟨d0, d1, d2, d3, d4, d5, d6⟩ := HP.out.part
  go_enter Try.func85, Try.ntmps85
  go_wp2_with (refine wpList_store_row rfl 48 _ _ rfl (w.heap.size + 1) _ rfl rfl 48 _ HB.out (by kernel_rfl) rfl (by simp [Value.oneCell']) ?_)
  (refine bodyPost_ret (v := .agg _) ?_ rfl ⟨rfl, ?_⟩; exact (results_cell_row Try.results85 _ _ (w.heap.size + 1) 48 _ (0, 0) _ rfl (HB.out.row _) Try.underlying48 rfl (by kernel_rfl)))
  exact (hs0.row (by omega) _).1
/-- a slice of one number, in memory of its own. -/
def NewI (n : Int) (v : Value) (X : World) : Prop := ∃ g : Nat, v = .slice (some ⟨g, 0, none⟩) 1 1 ∧ Blk X g 3 #[.int .i64 n]
theorem NewI.stable (n : Int) : Vals5.Stable (.has (NewI n)) := fun v w w' ⟨g, h, hb⟩ k => ⟨g, h, hb.keep k⟩
/-- each of the first n numbers is from its span. -/
def mch (S : Prt → Int × Int) (l : List Prt) (xs : List Int) : Bool := (List.range l.length).all fun i => wi (S (pa l i)).1 (S (pa l i)).2 (xs[i]?.getD 0)
theorem mch_at {S : Prt → Int × Int} {l : List Prt} {xs : List Int} {k : Nat} (hk : k < l.length) (hx : k < xs.length) (h : wi (S l[k]).1 (S l[k]).2 xs[k] = false) : mch S l xs = false := by
  unfold mch
  rw [Bool.eq_false_iff, Ne, List.all_eq_true]
  intro ha
  have := ha k (by simpa using hk)
  rw [pa_at hk, List.getElem?_eq_getElem hx, Option.getD_some, h] at this
  cases this
theorem mch_all {S : Prt → Int × Int} {l : List Prt} {xs : List Int} (hx : xs.length = l.length) (h : ∀ j (h1 : j < l.length) (h2 : j < xs.length), wi (S l[j]).1 (S l[j]).2 xs[j] = true) : mch S l xs = true := by
  unfold mch
  rw [List.all_eq_true]
  intro j hj
  have hj' : j < l.length := by simpa using hj
  rw [pa_at hj', List.getElem?_eq_getElem (by omega), Option.getD_some]
  exact h j hj' (by omega)
set_option maxRecDepth 100000 in
set_option maxHeartbeats 4000000 in
theorem match_c (A : Option Addr) (l : List Prt) (c : Nat) (X : Option Addr) (xs : List Int) (xc : Nat) (g : FuncId) (S : Prt → Int × Int) (w : World) (hl : l.length ≤ 1000) (hx : xs.length = l.length) (hp : PtAt w A l) (hX : InAt w X xs)
    (hg : ∀ (args : Array Value) (W : World), (callFunc g args).run Try.prog W = .ok (.enter g args) W)
    (hf : ∀ (x : Prt) (W : World), Calls Try.prog g #[.agg (pV x)] W fun e W' => e = .returned (.agg #[.int .i64 (S x).1, .int .i64 (S x).2]) ∧ Below W.heap.size W W') :
    Calls Try.prog 83 #[.slice X xs.length xc, .slice A l.length c, .func (.func g) #[] #[]] w fun e w' => e = .returned (.bool (mch S l xs)) ∧ Below w.heap.size w w' := by
  have HF := Lib.hid hf
  have HG := Lib.hid hg
  have HXL := Lib.hid hx
  clear hf hg hx
  go_enter Try.func83, Try.ntmps83
  go_wp2_with fail
  go_loopw [12] (fun i wr => ∃ k : Nat, k ≤ l.length ∧ i = .int .i64 k ∧ Hid (Since w wr) ∧ Hid (∀ j (h1 : j < l.length) (h2 : j < xs.length), j < k → wi (S l[j]).1 (S l[j]).2 xs[j] = true)) (fun i _ => l.length - (intOf i).toNat)
  case atStart => exact ⟨0, by omega, rfl, Since.refl _, fun j _ _ h => absurd h (by omega)⟩
  case round =>
    obtain ⟨k, hk, rfl, hsn, H0⟩ := hrel
    by_cases hlt : k < l.length
    · obtain ⟨ad, hA, z0, z1, z2, z3, z4, z5, z6⟩ := (hp.keep hsn.out.1).get hlt
      have hkx : k < xs.length := by have := HXL.out; omega
      obtain ⟨ax, hax, zx⟩ := hX.get hkx
      have HXA := Lib.hid hax
      have HZ0 := Lib.hid zx
      have HKX := Lib.hid hkx
      clear hax zx
      have hs2 := hsn.out.alloc (.cells (pV l[k]) 74)
      have e1 := HG.out
      go_wp2_with fail
      refine (HF.out _ _).mono ?_
      rintro e w3 ⟨rfl, hb3⟩
      have hs3 := hs2.keep hb3
      have hs4 := hs3.alloc (.cells #[.int .i64 (S l[k]).1, .int .i64 (S l[k]).2] 48)
      have HQ4 := Lib.hid (Blk.new w3 48 #[.int .i64 (S l[k]).1, .int .i64 (S l[k]).2])
      clear hA z0 z1 z2 z3 z4 z5 z6 hb3 e1
      go_wp2_with fail
      obtain ⟨sp, hsp⟩ : ∃ sp, w3.heap.size = sp := ⟨_, rfl⟩
      rw [hsp] at HQ4 ⊢
      clear hsp
      refine Vals6.regionAll (fun X => Since w X ∧ Blk X sp 48 #[.int .i64 (S l[k]).1, .int .i64 (S l[k]).2]) [some 20, some 21, some 22, some 23, some 24, some 25, some 26, some 27, some 28, some 29] [.is ?_, .is ?_, .is ?_, .is ?_, .is ?_, .is ?_, .is ?_, .is ?_, .has (NewI xs[k]), .is ?_] (by kernel_rfl) rfl rfl (by kernel_rfl) (by kernel_rfl) (by kernel_rfl) (by kernel_rfl) (by kernel_rfl) (by kernel_rfl) rfl (⟨hs4.drew, HQ4.out.drew⟩) ?hsteps ?hend
      case hsteps =>
        refine Vals5.Steps.run rfl (Vals5.Stable.is _) ?_ ?_
        · intro a W hS pre old K hK
          have e9 := old 9 _ (by kernel_rfl) rfl
          clear pre old
          simp only [Vals5.fits, Array.getD_eq_getD_getElem?, List.getElem?_toArray, List.getElem?_cons_zero, List.getElem?_cons_succ, Option.getD_some] at e9
          go_simp
          refine hK _ _ hS (Below.refl _ _) ?_
          exact fits_is _ _
        refine Vals5.Steps.run rfl (Vals5.Stable.is _) ?_ ?_
        · intro a W hS pre old K hK
          have e20 := pre 0 20 _ (by kernel_rfl) rfl rfl
          clear pre old
          simp only [Vals5.fits, Array.getD_eq_getD_getElem?, List.getElem?_toArray, List.getElem?_cons_zero, List.getElem?_cons_succ, Option.getD_some] at e20
          have hS9 := hS
          obtain ⟨q1, q2⟩ := hS9
          obtain ⟨c0, c1⟩ := q2.span
          have z0 := keep_cell q1.1 HZ0.out
          go_simp
          refine hK _ _ hS (Below.refl _ _) ?_
          exact fits_is _ _
        refine Vals5.Steps.run rfl (Vals5.Stable.is _) ?_ ?_
        · intro a W hS pre old K hK
          have e9 := old 9 _ (by kernel_rfl) rfl
          clear pre old
          simp only [Vals5.fits, Array.getD_eq_getD_getElem?, List.getElem?_toArray, List.getElem?_cons_zero, List.getElem?_cons_succ, Option.getD_some] at e9
          go_simp
          refine hK _ _ hS (Below.refl _ _) ?_
          exact fits_is _ _
        refine Vals5.Steps.run rfl (Vals5.Stable.is _) ?_ ?_
        · intro a W hS pre old K hK
          have e22 := pre 2 22 _ (by kernel_rfl) rfl rfl
          clear pre old
          simp only [Vals5.fits, Array.getD_eq_getD_getElem?, List.getElem?_toArray, List.getElem?_cons_zero, List.getElem?_cons_succ, Option.getD_some] at e22
          have hS9 := hS
          obtain ⟨q1, q2⟩ := hS9
          obtain ⟨c0, c1⟩ := q2.span
          have z0 := keep_cell q1.1 HZ0.out
          go_simp
          refine hK _ _ hS (Below.refl _ _) ?_
          exact fits_is _ _
        refine Vals5.Steps.run rfl (Vals5.Stable.is _) ?_ ?_
        · intro a W hS pre old K hK
          have e0 := old 0 _ (by kernel_rfl) rfl
          clear pre old
          simp only [Vals5.fits, Array.getD_eq_getD_getElem?, List.getElem?_toArray, List.getElem?_cons_zero, List.getElem?_cons_succ, Option.getD_some] at e0
          go_simp
          refine hK _ _ hS (Below.refl _ _) ?_
          exact fits_is _ _
        refine Vals5.Steps.run rfl (Vals5.Stable.is _) ?_ ?_
        · intro a W hS pre old K hK
          have e7 := old 7 _ (by kernel_rfl) rfl
          clear pre old
          simp only [Vals5.fits, Array.getD_eq_getD_getElem?, List.getElem?_toArray, List.getElem?_cons_zero, List.getElem?_cons_succ, Option.getD_some] at e7
          go_simp
          refine hK _ _ hS (Below.refl _ _) ?_
          exact fits_is _ _
        refine Vals5.Steps.run rfl (Vals5.Stable.is _) ?_ ?_
        · intro a W hS pre old K hK
          have e24 := pre 4 24 _ (by kernel_rfl) rfl rfl
          have e25 := pre 5 25 _ (by kernel_rfl) rfl rfl
          clear pre old
          simp only [Vals5.fits, Array.getD_eq_getD_getElem?, List.getElem?_toArray, List.getElem?_cons_zero, List.getElem?_cons_succ, Option.getD_some] at e24 e25
          have hxa := HXA.out
          have hkx := HKX.out
          go_simp
          refine hK _ _ hS (Below.refl _ _) ?_
          exact fits_is _ _
        refine Vals5.Steps.run rfl (Vals5.Stable.is _) ?_ ?_
        · intro a W hS pre old K hK
          have e26 := pre 6 26 _ (by kernel_rfl) rfl rfl
          clear pre old
          simp only [Vals5.fits, Array.getD_eq_getD_getElem?, List.getElem?_toArray, List.getElem?_cons_zero, List.getElem?_cons_succ, Option.getD_some] at e26
          have hS9 := hS
          obtain ⟨q1, q2⟩ := hS9
          obtain ⟨c0, c1⟩ := q2.span
          have z0 := keep_cell q1.1 HZ0.out
          go_simp
          refine hK _ _ hS (Below.refl _ _) ?_
          exact fits_is _ _
        refine Vals5.Steps.run rfl (NewI.stable _) ?_ ?_
        · intro a W hS pre old K hK
          have e27 := pre 7 27 _ (by kernel_rfl) rfl rfl
          clear pre old
          simp only [Vals5.fits, Array.getD_eq_getD_getElem?, List.getElem?_toArray, List.getElem?_cons_zero, List.getElem?_cons_succ, Option.getD_some] at e27
          obtain ⟨q1, q2⟩ := hS
          go_simp
          exact hK _ _ ⟨q1.alloc _, q2.alloc _⟩ ((Below.refl _ _).alloc (Nat.le_refl _) _) ⟨_, rfl, Blk.new _ _ _⟩
        refine Vals5.Steps.run rfl (Vals5.Stable.is _) ?_ ?_
        · intro a W hS pre old K hK
          have e21 := pre 1 21 _ (by kernel_rfl) rfl rfl
          have e23 := pre 3 23 _ (by kernel_rfl) rfl rfl
          have f28 := pre 8 28 _ (by kernel_rfl) rfl rfl
          clear pre old
          simp only [Vals5.fits, Array.getD_eq_getD_getElem?, List.getElem?_toArray, List.getElem?_cons_zero, List.getElem?_cons_succ, Option.getD_some] at e21 e23
          obtain ⟨q1, q2⟩ := hS
          obtain ⟨gn, hv, hbn⟩ := f28
          simp only [Array.getD_eq_getD_getElem?] at hv
          go_simp
          refine (within_c _ _ _ _ _ _ hbn).mono ?_
          rintro e w' ⟨rfl, hb'⟩
          refine hK _ _ ⟨q1.keep hb', q2.keep hb'⟩ hb' ?_
          exact fits_is _ _
        exact Vals5.Steps.nil
      case hend =>
      rintro Y ⟨hs5, -⟩
      simp only [Vals5.All]
      simp only [List.getLast_cons_cons, List.getLast_singleton]
      rintro v28 -
      simp only [Vals.putAll, List.setIfInBounds_toArray, List.set_cons_zero, List.set_cons_succ]
      intro K hK
      rcases Bool.eq_false_or_eq_true (wi (S l[k]).1 (S l[k]).2 xs[k]) with h1 | h1
      · have HW := Lib.hid h1
        rw [h1]
        clear h1
        go_simp
        refine hK _ _ ?_
        clear hK K
        go_wp2_with fail
        go_roundw
        case rel =>
          have HH : Hid (∀ j (h1 : j < l.length) (h2 : j < xs.length), j < k + 1 → wi (S l[j]).1 (S l[j]).2 xs[j] = true) := fun j h1 h2 hj => by
            rcases Nat.lt_or_ge j k with h3 | h3
            · exact H0.out j h1 h2 h3
            · obtain rfl : j = k := by omega
              exact HW.out
          exact ⟨k + 1, by omega, by go_num, hs5, HH⟩
        case measure => simp [intOf]; omega
      · have HV := Lib.hid (mch_at hlt hkx h1)
        rw [h1]
        clear h1
        go_simp
        refine hK _ _ ?_
        clear hK K
        go_wp2_with fail
        go_ret
        exact ⟨ret_bool HV.out.symm, hs5.1⟩
    · have HV := Lib.hid (mch_all (S := S) HXL.out fun j h1 h2 => H0.out j h1 h2 (by omega))
      go_wp2_with fail
      go_ret
      exact ⟨ret_bool HV.out.symm, hsn.out.1⟩
end Td
end Go.Proofs.Ythdcklonamgpiaa
