import Derived.Test.YtojpiliamecgkaaEnv
import Derived.Test.YtojpiliamecgkaaVals4
namespace Go.Proofs.Ytojpiliamecgkaa
open Go.RowKit
namespace Td
set_option linter.unusedSimpArgs false
set_option linter.unusedVariables false
/-- pulls by turns: from the n-th on, behind the tide t. -/
def planFrom (len : Nat) (l : List Int) : Nat → Nat → Int → List Pul
  | 0, _, _ => []
  | g + 1, n, t => if (len : Int) ≤ t + 1 + turnV l (2 * n + 2) % 3 then [] else ⟨t + 1 + turnV l (2 * n + 2) % 3, turnV l (2 * n + 3) % 41⟩ :: planFrom len l g (n + 1) (t + 1 + turnV l (2 * n + 2) % 3)
def planRun (len : Nat) (l : List Int) : Pul := ⟨turnV l 0 % len, turnV l 1 % 41⟩
def planPs (len : Nat) (l : List Int) : List Pul := planFrom len l 6 0 (planRun len l).tide
def pulVals (ps : List Pul) : List Value := ps.flatMap fun p => [.int .i64 p.tide, .int .i64 p.bal]
theorem pulVals_len (ps : List Pul) : (pulVals ps).length = ps.length * 2 := by
  induction ps with
  | nil => rfl
  | cons p ps ih => simp only [pulVals, List.flatMap_cons, List.length_append, List.length_cons, List.length_nil] at ih ⊢; omega
theorem pulVals_two : ∀ {ps : List Pul} {i : Nat} {p : Pul}, ps[i]? = some p → (pulVals ps)[i * 2]? = some (.int .i64 p.tide) ∧ (pulVals ps)[i * 2 + 1]? = some (.int .i64 p.bal)
  | [], i, p, h => by simp at h
  | x :: ps, 0, p, h => by
    obtain rfl : x = p := by simpa using h
    exact ⟨rfl, rfl⟩
  | x :: ps, i + 1, p, h => by
    have := pulVals_two (ps := ps) (i := i) (p := p) (by simpa using h)
    rw [show (i + 1) * 2 = i * 2 + 1 + 1 by omega]
    exact this
theorem pulVals_snoc (ps : List Pul) (p : Pul) : pulVals (ps ++ [p]) = pulVals ps ++ [.int .i64 p.tide, .int .i64 p.bal] := by simp [pulVals]
theorem cell_row' {w : World} {g g' : Nat} (hne : g' ≠ g) (i : Nat) (new : Array Value) : (w.setRow g' new).cell? ⟨g, i, none⟩ = w.cell? ⟨g, i, none⟩ :=
  World.cell?_of_block (w := w) (setRow_other w g' g new (Ne.symm hne))
theorem pul_row {w : World} {B : Nat} {v : Value} {ps : List Pul} (h : w.ownsRow B 49 2 v ps.length (pulVals ps)) (hn : ps = [] → v = .slice none 0 0) {g' : Nat} (hg : g' < B) (new : Array Value) :
    ∃ Q qc, v = .slice Q ps.length qc ∧ PuAt (w.setRow g' new) Q ps ∧ ps.length ≤ qc := by
  by_cases hl : ps = []
  · exact ⟨none, 0, by rw [hn hl, hl]; rfl, fun h => absurd hl h, by simp [hl]⟩
  · have h' := h
    obtain ⟨h1, h2⟩ := h
    rcases h2 with ⟨_, h0⟩ | ⟨g, cap, cur, a1, a2, a3, rest⟩
    · exact absurd (List.eq_nil_of_length_eq_zero h0) hl
    · have hc := h'.cells (g := g) (by rw [a1]; rfl)
      refine ⟨_, cap, a1, fun _ => ⟨_, rfl, fun i p hp => ?_⟩, rest.1⟩
      obtain ⟨e1, e2⟩ := pulVals_two hp
      have f1 := hc _ _ e1
      have f2 := hc _ _ e2
      have hne : g' ≠ g := by omega
      rw [add_new] at f1 f2
      rw [add_new]
      exact ⟨(cell_row' hne _ _).trans f1, (cell_row' hne _ _).trans f2⟩
theorem Try.infoPull : (Try.prog.info? 49).map (fun i => (i.zero, i.size, i.bytes)) = some (some (.agg #[.int .i64 0, .int .i64 0]), 2, 16) := by kernel_rfl
/-- what the run's block is, by what is done: not yet made; made; filled. -/
def PlanAt (g : Nat) (t : TypeId) (z v : Array Value) : Bool → Bool → World → Prop
  | false, false, X => X.heap.size = g
  | false, true, _ => False
  | true, false, X => Blk X g t z
  | true, true, X => Blk X g t v
set_option maxRecDepth 100000 in
set_option maxHeartbeats 4000000 in
theorem plan_c2 (b : Bch) (A : Option Addr) (c : Nat) (P : Option Addr) (l : List Int) (pc : Nat) (w : World) (hp : TsAt w A b.ts) (h0 : 1 ≤ b.ts.length) (h12 : b.ts.length ≤ 12) (hu : U16At w P l) (ho : U16Ok l) :
    Calls Try.prog 42 #[.agg (bV b A c), .slice P l.length pc] w fun e w' => (∃ Q qc, e = .returned (.tuple #[.agg (puV (planRun b.ts.length l)), .slice Q (planPs b.ts.length l).length qc]) ∧ PuAt w' Q (planPs b.ts.length l) ∧ (planPs b.ts.length l).length ≤ qc) ∧ Below w.heap.size w w' := by
  have hs0 : Since w ((w.alloc (.cells (bV b A c) 26)).alloc (.cells #[.int .i64 0, .int .i64 0] 49)) := ((Since.refl w).alloc (.cells (bV b A c) 26)).alloc (.cells #[.int .i64 0, .int .i64 0] 49)
  have HB0 := Lib.hid ((Blk.new w 26 (bV b A c)).alloc (.cells #[.int .i64 0, .int .i64 0] 49))
  have HR0 := Lib.hid (Blk.new1 w (.cells (bV b A c) 26) 49 #[.int .i64 0, .int .i64 0])
  have HU := Lib.hid hu
  have hsz : ((w.alloc (.cells (bV b A c) 26)).alloc (.cells #[.int .i64 0, .int .i64 0] 49)).heap.size = w.heap.size + 1 + 1 := by simp
  have HO := Lib.hid ho
  have b0 := turnV_bd ho 0
  have b1 := turnV_bd ho 1
  clear ho hu
  obtain ⟨r, hr⟩ : ∃ r, turnV l 0 % (b.ts.length : Int) = r := ⟨_, rfl⟩
  obtain ⟨q, hq⟩ : ∃ q, turnV l 1 % 41 = q := ⟨_, rfl⟩
  have hr0 := Int.emod_nonneg (turnV l 0) (show (b.ts.length : Int) ≠ 0 by omega)
  have hr1 := Int.emod_lt_of_pos (turnV l 0) (show 0 < (b.ts.length : Int) by omega)
  rw [hr] at hr0 hr1
  have htr : (turnV l 0).tmod (b.ts.length : Int) = r := by rw [Int.tmod_eq_emod_of_nonneg b0.1]; exact hr
  have htq : (turnV l 1).tmod 41 = q := by rw [Int.tmod_eq_emod_of_nonneg b1.1]; exact hq
  have hq0 : 0 ≤ q ∧ q < 41 := by omega
  have hwr : IntKind.i64.wrap r = r := IntWalk.i64_in _ (by omega)
  have hwq : IntKind.i64.wrap q = q := IntWalk.i64_in _ (by omega)
  have hlz : ((b.ts.length : Int) == 0) = false := by rw [beq_eq_false_iff_ne]; omega
  have hne : ¬ b.ts = [] := fun e => by simp [e] at h0
  obtain ⟨c0, c1, c2, c3, c4, c5⟩ := HB0.out.beach
  go_enter Try.func42, Try.ntmps42
  go_wp2_with fail
  obtain ⟨W0, hW0⟩ : ∃ W0, (w.alloc (.cells (bV b A c) 26)).alloc (.cells #[.int .i64 0, .int .i64 0] 49) = W0 := ⟨_, rfl⟩
  rw [hW0] at hs0 HB0 HR0 hsz c0 c1 c2 c3 c4 c5 ⊢
  clear hW0
  refine Vals4.region (fun tb ub X => Blk X (w.heap.size) 26 (bV b A c) ∧ Since w X ∧ Blk X (w.heap.size + 1) 49 #[.int .i64 0, .int .i64 0] ∧ PlanAt (w.heap.size + 1 + 1) 49 #[.int .i64 0, .int .i64 0] #[.int .i64 r, .int .i64 q] tb ub X) 10 11 [some 10, some 11, some 12, some 13, some 14, some 15, some 16, some 17, some 18, some 19, some 6, none] [.slice P l.length pc, .int .i64 (turnV l 0), .pointer (some ⟨w.heap.size, 5, none⟩), .slice A b.ts.length c, .int .i64 (b.ts.length : Int), .int .i64 r, .slice P l.length pc, .int .i64 (turnV l 1), .int .i64 q, .agg #[.int .i64 r, .int .i64 q], .pointer (some ⟨w.heap.size + 1 + 1, 0, none⟩), undef] (by kernel_rfl) (by kernel_rfl) (by kernel_rfl) (by kernel_rfl) (by kernel_rfl) (by kernel_rfl) (by kernel_rfl) (by kernel_rfl) ⟨HB0.out.drew, hs0.drew, HR0.out.drew, hsz⟩ ?_ ?_
  · refine Vals4.Steps.run (by decide) (by kernel_rfl) (fun tb ub htb => ?_) ?_
    · intro a W hSt pre old K hK
      have e1 : a.tmps.getD 1 undef = .slice P l.length pc := old 1 _ (by kernel_rfl) rfl
      clear pre old
      simp only [Array.getD_eq_getD_getElem?] at e1
      go_simp
      exact hK _ hSt
    refine Vals4.Steps.run (by decide) (by kernel_rfl) (fun tb ub htb => ?_) ?_
    · intro a W hSt pre old K hK
      have e10 : a.tmps.getD 10 undef = .slice P l.length pc := pre 0 10 _ (by kernel_rfl) rfl rfl
      clear pre old
      simp only [Array.getD_eq_getD_getElem?] at e10
      go_simp
      refine (turn_c P l pc 0 _ (by omega) (HU.out.keep hSt.2.1.1) HO.out).mono ?_
      rintro e w' ⟨rfl, rfl⟩
      exact hK _ hSt
    refine Vals4.Steps.run (by decide) (by kernel_rfl) (fun tb ub htb => ?_) ?_
    · intro a W hSt pre old K hK
      have e2 : a.tmps.getD 2 undef = .pointer (some ⟨w.heap.size, 0, none⟩) := old 2 _ (by kernel_rfl) rfl
      clear pre old
      simp only [Array.getD_eq_getD_getElem?] at e2
      go_simp
      exact hK _ hSt
    refine Vals4.Steps.run (by decide) (by kernel_rfl) (fun tb ub htb => ?_) ?_
    · intro a W hSt pre old K hK
      have e12 : a.tmps.getD 12 undef = .pointer (some ⟨w.heap.size, 5, none⟩) := pre 2 12 _ (by kernel_rfl) rfl rfl
      clear pre old
      simp only [Array.getD_eq_getD_getElem?] at e12
      have hS9 := hSt
      obtain ⟨hB9, sn, h4, h5⟩ := hS9
      obtain ⟨s0, s1, s2, s3, s4, s5⟩ := hB9.beach
      go_simp
      exact hK _ hSt
    refine Vals4.Steps.run (by decide) (by kernel_rfl) (fun tb ub htb => ?_) ?_
    · intro a W hSt pre old K hK
      have e13 : a.tmps.getD 13 undef = .slice A b.ts.length c := pre 3 13 _ (by kernel_rfl) rfl rfl
      clear pre old
      simp only [Array.getD_eq_getD_getElem?] at e13
      go_simp
      exact hK _ hSt
    refine Vals4.Steps.run (by decide) (by kernel_rfl) (fun tb ub htb => ?_) ?_
    · intro a W hSt pre old K hK
      have e11 : a.tmps.getD 11 undef = .int .i64 (turnV l 0) := pre 1 11 _ (by kernel_rfl) rfl rfl
      have e14 : a.tmps.getD 14 undef = .int .i64 (b.ts.length : Int) := pre 4 14 _ (by kernel_rfl) rfl rfl
      clear pre old
      simp only [Array.getD_eq_getD_getElem?] at e11 e14
      go_simp
      first | exact hK _ hSt | (rw [if_neg hne]; exact hK _ hSt)
    refine Vals4.Steps.run (by decide) (by kernel_rfl) (fun tb ub htb => ?_) ?_
    · intro a W hSt pre old K hK
      have e1 : a.tmps.getD 1 undef = .slice P l.length pc := old 1 _ (by kernel_rfl) rfl
      clear pre old
      simp only [Array.getD_eq_getD_getElem?] at e1
      go_simp
      exact hK _ hSt
    refine Vals4.Steps.run (by decide) (by kernel_rfl) (fun tb ub htb => ?_) ?_
    · intro a W hSt pre old K hK
      have e16 : a.tmps.getD 16 undef = .slice P l.length pc := pre 6 16 _ (by kernel_rfl) rfl rfl
      clear pre old
      simp only [Array.getD_eq_getD_getElem?] at e16
      go_simp
      refine (turn_c P l pc 1 _ (by omega) (HU.out.keep hSt.2.1.1) HO.out).mono ?_
      rintro e w' ⟨rfl, rfl⟩
      exact hK _ hSt
    refine Vals4.Steps.run (by decide) (by kernel_rfl) (fun tb ub htb => ?_) ?_
    · intro a W hSt pre old K hK
      have e17 : a.tmps.getD 17 undef = .int .i64 (turnV l 1) := pre 7 17 _ (by kernel_rfl) rfl rfl
      clear pre old
      simp only [Array.getD_eq_getD_getElem?] at e17
      go_simp
      first | exact hK _ hSt | (rw [if_neg hne]; exact hK _ hSt)
    refine Vals4.Steps.run (by decide) (by kernel_rfl) (fun tb ub htb => ?_) ?_
    · intro a W hSt pre old K hK
      have e15 : a.tmps.getD 15 undef = .int .i64 r := pre 5 15 _ (by kernel_rfl) rfl rfl
      have e18 : a.tmps.getD 18 undef = .int .i64 q := pre 8 18 _ (by kernel_rfl) rfl rfl
      clear pre old
      simp only [Array.getD_eq_getD_getElem?] at e15 e18
      go_simp
      exact hK _ hSt
    refine Vals4.Steps.turn (by decide) (by kernel_rfl) (fun ub => ?_) ?_
    · intro a W hSt pre old K hK
      clear pre old
      go_simp
      obtain ⟨h1, h2, h3, h5⟩ := hSt
      have hb' : Below W.heap.size W (W.alloc (.cells #[.int .i64 0, .int .i64 0] 49)) := (Below.refl _ _).alloc (Nat.le_refl _) _
      cases ub
      · have h6 : W.heap.size = w.heap.size + 1 + 1 := h5
        have h7 := Blk.new W 49 #[.int .i64 0, .int .i64 0]
        rw [h6] at h7 ⊢
        exact hK _ ⟨h1.keep hb', h2.keep hb', h3.keep hb', h7⟩
      · exact h5.elim
    refine Vals4.Steps.turn2 (by decide) (by kernel_rfl) (fun tb htb => ?_) ?_
    · intro a W hSt pre old K hK
      have e6 : a.tmps.getD 6 undef = .pointer (some ⟨w.heap.size + 1 + 1, 0, none⟩) := pre 10 6 _ (by kernel_rfl) rfl rfl
      have e19 : a.tmps.getD 19 undef = .agg #[.int .i64 r, .int .i64 q] := pre 9 19 _ (by kernel_rfl) rfl rfl
      clear pre old
      simp only [Array.getD_eq_getD_getElem?] at e6 e19
      obtain rfl := htb (by kernel_rfl)
      obtain ⟨h1, h2, h3, h5⟩ := hSt
      refine wp_store_row 49 (.tmp 6) (.tmp 19) rfl (w.heap.size + 1 + 1) #[.int .i64 r, .int .i64 q] ?_ ?_ 49 #[.int .i64 0, .int .i64 0] h5 (by kernel_rfl) rfl (by simp [Value.oneCell']) ?_
      · simp only [Act.eval, Array.getD_eq_getD_getElem?]; exact e6
      · simp only [Act.eval, Array.getD_eq_getD_getElem?]; exact e19
      exact hK _ ⟨h1.rowFar (by omega) _, h2.row (by omega) _, h3.rowFar (by omega) _, Blk.row h5 _⟩
    exact Vals4.Steps.nil
  · rintro W1 ⟨HB1, hs1, HR1, HP1⟩
    simp only [Vals.putAll, List.setIfInBounds_toArray, List.set_cons_zero, List.set_cons_succ]
    have HP : Blk W1 (w.heap.size + 1 + 1) 49 #[.int .i64 r, .int .i64 q] := HP1
    obtain ⟨p0, p1⟩ := Blk.span HP
    go_wp2_with fail
    clear HB0 HR0 hs0 hsz c0 c1 c2 c3 c4 c5 p0 p1 HP1
    have hrun : planRun b.ts.length l = ⟨r, q⟩ := by unfold planRun; rw [hr, hq]
    obtain ⟨PS, hPS⟩ : ∃ PS, planPs b.ts.length l = PS := ⟨_, rfl⟩
    have HRUN := Lib.hid hrun
    have HPS := Lib.hid hPS
    have hPS0 : planFrom b.ts.length l 6 0 r = PS := by rw [← hPS]; unfold planPs; rw [hrun]
    obtain ⟨i0, hi, hz0, hz1, hz2⟩ := info_parts Try.infoPull
    have HI := Lib.hid hi
    have HZ0 := Lib.hid hz0
    have HZ1 := Lib.hid hz1
    have HZ2 := Lib.hid hz2
    clear hi hz0 hz1 hz2 hrun hPS hr hq htr htq b0 b1 hwr hwq
    have HB1 := Lib.hid HB1
    have HR1 := Lib.hid HR1
    have HP := Lib.hid HP
    have hsz1 := HP.out.lt
    go_loopw [7, 8, 9] (fun v t i wr => ∃ (n : Nat) (tt : Int) (ps : List Pul), n ≤ 6 ∧ ps.length ≤ n ∧ i = .int .i64 n ∧ t = .int .i64 tt ∧ (0 ≤ tt ∧ tt < b.ts.length) ∧ Since W1 wr ∧ Hid (wr.ownsRow W1.heap.size 49 2 v ps.length (pulVals ps)) ∧ Hid (ps = [] → v = .slice none 0 0) ∧ Hid (ps ++ planFrom b.ts.length l (6 - n) n tt = PS)) (fun _ _ i _ => 6 - (intOf i).toNat)
    case atStart => exact ⟨0, r, [], by omega, Nat.le_refl _, rfl, rfl, ⟨hr0, hr1⟩, Since.refl _, World.ownsRow_nil _ _ _ _, fun _ => rfl, hPS0⟩
    case round =>
      obtain ⟨n, tt, ps, hn6, hpn, rfl, rfl, ⟨ht0, ht1⟩, hsn, HW, HN, HS⟩ := hrel
      have hsw := hs1.keep hsn.1
      have HR2 := Lib.hid (HR1.out.keep hsn.1)
      have HP2 := Lib.hid (HP.out.keep hsn.1)
      by_cases hlt : n < 6
      · obtain ⟨y, hy⟩ : ∃ y, turnV l (2 * n + 2) % 3 = y := ⟨_, rfl⟩
        have b2 := turnV_bd HO.out (2 * n + 2)
        have hy0 : 0 ≤ y ∧ y < 3 := by omega
        have hty : (turnV l (2 * n + 2)).tmod 3 = y := by rw [Int.tmod_eq_emod_of_nonneg b2.1]; exact hy
        have hstep : planFrom b.ts.length l (6 - n) n tt = if (b.ts.length : Int) ≤ tt + 1 + y then [] else ⟨tt + 1 + y, turnV l (2 * n + 3) % 41⟩ :: planFrom b.ts.length l (6 - (n + 1)) (n + 1) (tt + 1 + y) := by
          rw [show 6 - n = (6 - (n + 1)) + 1 by omega]
          show (if _ then _ else _) = _
          rw [hy]
        have hw1 : IntKind.i64.wrap (2 * (n : Int)) = 2 * (n : Int) := IntWalk.i64_in _ (by omega)
        have hw2 : IntKind.i64.wrap (2 * (n : Int) + 2) = 2 * (n : Int) + 2 := IntWalk.i64_in _ (by omega)
        have hw3 : IntKind.i64.wrap (2 * (n : Int) + 3) = 2 * (n : Int) + 3 := IntWalk.i64_in _ (by omega)
        have hw4 : IntKind.i64.wrap (tt + 1) = tt + 1 := IntWalk.i64_in _ (by omega)
        have hw5 : IntKind.i64.wrap (tt + 1 + y) = tt + 1 + y := IntWalk.i64_in _ (by omega)
        obtain ⟨c0, c1, c2, c3, c4, c5⟩ := (HB1.out.keep hsn.1).beach
        go_wp2_with fail
        rw [show 2 * (n : Int) + 2 = ((2 * n + 2 : Nat) : Int) from by omega]
        refine (turn_c P l pc (2 * n + 2) _ (by omega) (HU.out.keep hsw.1) HO.out).mono ?_
        rintro e w' ⟨rfl, rfl⟩
        have hz3 := hsw.2
        have hz4 := hsn.2
        by_cases hge : (b.ts.length : Int) ≤ tt + 1 + y
        · rw [if_pos hge] at hstep
          have HE : Hid (ps = PS) := by show _ = _; rw [← HS.out, hstep, List.append_nil]
          clear hstep
          obtain ⟨Q, qc, hv, hq, hqc⟩ := pul_row HW.out HN.out (g' := w.heap.size + 1) (by omega) #[.int .i64 r, .int .i64 q]
          subst hv
          have HQ := Lib.hid hq
          clear hq HW HN HS
          obtain ⟨p0, p1⟩ := Blk.span HP2.out
          go_wp2_with (first | (refine wpList_store_row rfl 49 _ _ rfl (w.heap.size + 1) _ rfl rfl 49 _ HR2.out (by kernel_rfl) rfl (by simp [Value.oneCell']) ?_))
          refine bodyPost_ret (results_cell_tmp Try.results42 _ _ (w.heap.size + 1) 49 _ (0, 0) _ rfl (HR2.out.row _) Try.underlying49 rfl (by kernel_rfl)) rfl ⟨⟨Q, qc, ?_, ?_, by rw [HPS.out, ← HE.out]; exact hqc⟩, ?_⟩
          · rw [HRUN.out, HPS.out, ← HE.out]; rfl
          · rw [HPS.out, ← HE.out]; exact HQ.out
          · exact (hsw.row (by omega) _).1
        · rw [if_neg hge] at hstep
          obtain ⟨z, hz⟩ : ∃ z, turnV l (2 * n + 3) % 41 = z := ⟨_, rfl⟩
          rw [hz] at hstep
          have b3 := turnV_bd HO.out (2 * n + 3)
          have hz0 : 0 ≤ z ∧ z < 41 := by omega
          have htz : (turnV l (2 * n + 3)).tmod 41 = z := by rw [Int.tmod_eq_emod_of_nonneg b3.1]; exact hz
          have HE : Hid ((ps ++ [⟨tt + 1 + y, z⟩]) ++ planFrom b.ts.length l (6 - (n + 1)) (n + 1) (tt + 1 + y) = PS) := by
            show _ = _
            rw [List.append_assoc, ← HS.out, hstep]; rfl
          clear hstep HS
          go_wp2_with fail
          rw [show 2 * (n : Int) + 3 = ((2 * n + 3 : Nat) : Int) from by omega]
          refine (turn_c P l pc (2 * n + 3) _ (by omega) (HU.out.keep hsw.1) HO.out).mono ?_
          rintro e w' ⟨rfl, rfl⟩
          go_wp2_with (first
            | (at_builtin; refine wpList_append_own _ rfl _ _ 50 rfl W1.heap.size 49 i0 (.agg #[.int .i64 0, .int .i64 0]) 2 16 Try.underlying50 HI.out HZ0.out HZ1.out HZ2.out rfl (by decide) _ _ _ rfl (HW.out.alloc _) ⟨wr.heap.size, 0, none⟩ 1 1 [.int .i64 (tt + 1 + y), .int .i64 z] rfl rfl ?c1 ?c2 ?c3 ?c4 ?c5 ?_))
          case c1 =>
            intro j u hj
            have hB := Blk.new wr 49 #[.int .i64 (tt + 1 + y), .int .i64 z]
            match j, hj with
            | 0, hj => simp at hj; subst hj; simp [Addr.add]
            | 1, hj => simp at hj; subst hj; simp [Addr.add]
          case c2 => intro u hu; simp at hu; rcases hu with rfl | rfl <;> rfl
          case c3 => unfold maxLen; omega
          case c4 => omega
          case c5 => simp; omega
          · intro v' w3 hown' hgrow _
            have hr : ∀ q, Value.ownBlock _ = some q → W1.heap.size ≤ q := fun q hq => ((HW.out).lt q hq).1
            have hs4 := since_grown (hsn.alloc _) hgrow hr
            have HW3 : Hid (w3.ownsRow W1.heap.size 49 2 v' (ps ++ [(⟨tt + 1 + y, z⟩ : Pul)]).length (pulVals (ps ++ [(⟨tt + 1 + y, z⟩ : Pul)]))) := by
              show World.ownsRow _ _ _ _ _ _ _
              rw [pulVals_snoc, List.length_append]
              exact hown'
            have HN3 : Hid (ps ++ [(⟨tt + 1 + y, z⟩ : Pul)] = [] → v' = .slice none 0 0) := by
              show _ → _
              intro h; simp at h
            have hl3 : (ps ++ [(⟨tt + 1 + y, z⟩ : Pul)]).length ≤ n + 1 := by simp; omega
            clear hown' hgrow hr HW HN
            go_wp2_with fail
            go_roundw
            case rel => exact ⟨n + 1, tt + 1 + y, ps ++ [⟨tt + 1 + y, z⟩], by omega, hl3, by go_num, rfl, ⟨by omega, by omega⟩, hs4, HW3, HN3, HE⟩
            case measure => simp [intOf]; omega
      · have HE : Hid (ps = PS) := by
          show _ = _
          have := HS.out
          rw [show 6 - n = 0 by omega] at this
          rw [← this]; exact (List.append_nil ps).symm
        have hz3 := hsw.2
        have hz4 := hsn.2
        obtain ⟨Q, qc, hv, hq, hqc⟩ := pul_row HW.out HN.out (g' := w.heap.size + 1) (by omega) #[.int .i64 r, .int .i64 q]
        subst hv
        have HQ := Lib.hid hq
        clear hq HW HN HS
        obtain ⟨p0, p1⟩ := Blk.span HP2.out
        go_wp2_with (first | (refine wpList_store_row rfl 49 _ _ rfl (w.heap.size + 1) _ rfl rfl 49 _ HR2.out (by kernel_rfl) rfl (by simp [Value.oneCell']) ?_))
        refine bodyPost_ret (results_cell_tmp Try.results42 _ _ (w.heap.size + 1) 49 _ (0, 0) _ rfl (HR2.out.row _) Try.underlying49 rfl (by kernel_rfl)) rfl ⟨⟨Q, qc, ?_, ?_, by rw [HPS.out, ← HE.out]; exact hqc⟩, ?_⟩
        · rw [HRUN.out, HPS.out, ← HE.out]; rfl
        · rw [HPS.out, ← HE.out]; exact HQ.out
        · exact (hsw.row (by omega) _).1
theorem plan_c (b : Bch) (A : Option Addr) (c : Nat) (P : Option Addr) (l : List Int) (pc : Nat) (w : World) (hp : TsAt w A b.ts) (h0 : 1 ≤ b.ts.length) (h12 : b.ts.length ≤ 12) (hu : U16At w P l) (ho : U16Ok l) :
    Calls Try.prog 42 #[.agg (bV b A c), .slice P l.length pc] w fun e w' => (∃ Q qc, e = .returned (.tuple #[.agg (puV (planRun b.ts.length l)), .slice Q (planPs b.ts.length l).length qc]) ∧ PuAt w' Q (planPs b.ts.length l)) ∧ Below w.heap.size w w' :=
  (plan_c2 b A c P l pc w hp h0 h12 hu ho).mono fun e w' ⟨⟨Q, qc, h1, h2, _⟩, h3⟩ => ⟨⟨Q, qc, h1, h2⟩, h3⟩
end Td
end Go.Proofs.Ytojpiliamecgkaa
