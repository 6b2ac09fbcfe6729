import Derived.Test.YtccacinnelmnpaaUntl
import Derived.Deep.OwnRows
/- The lowest truth: forwards the least levels, then backwards. -/
namespace Go.Proofs.Ytccacinnelmnpaa
open Go.RowKit
namespace Td
set_option linter.unusedSimpArgs false
set_option linter.unusedVariables false
attribute [local go_sem] Oper.semAt_some
/-- a row of numbers. -/
def rowF (f : Nat → Int) (n : Nat) : Array Value := ((List.range n).map fun i => Value.int .i64 (f i)).toArray
theorem rowF_size (f : Nat → Int) (n : Nat) : (rowF f n).size = n := by simp [rowF]
theorem rowF_get (f : Nat → Int) {n k : Nat} (h : k < n) : (rowF f n)[k]? = some (.int .i64 (f k)) := by simp [rowF, h]
theorem rowF_congr {f g : Nat → Int} {n : Nat} (h : ∀ i, i < n → f i = g i) : rowF f n = rowF g n := by
  unfold rowF
  congr 1
  refine List.map_congr_left fun i hi => ?_
  rw [h i (List.mem_range.1 hi)]
theorem rowF_set (f : Nat → Int) (n k : Nat) (v : Int) : (rowF f n).setIfInBounds k (.int .i64 v) = rowF (fun i => if i = k then v else f i) n := by
  apply Array.ext_getElem?
  intro i
  rw [Array.getElem?_setIfInBounds]
  by_cases hi : i < n
  · rw [rowF_get _ hi, rowF_get _ hi]
    by_cases h : k = i
    · subst h
      simp [rowF_size, hi]
    · simp [h, Ne.symm h]
  · have h1 : (rowF f n)[i]? = none := Array.getElem?_eq_none (by rw [rowF_size]; omega)
    have h2 : (rowF (fun i => if i = k then v else f i) n)[i]? = none := Array.getElem?_eq_none (by rw [rowF_size]; omega)
    rw [h1, h2]
    by_cases h : k = i
    · rw [if_pos h, if_neg (by rw [rowF_size]; omega)]
    · rw [if_neg h]
theorem made_row (n : Nat) : madeCells #[.int .i64 0] n = rowF (fun _ => 0) n := by
  apply Array.ext
  · rw [size_madeCells, rowF_size]
  · intro i h1 h2
    simp [madeCells, rowF, Nat.mod_one]
/-- what the level before has to be. -/
def srcV (f ch : Nat → Int) (k : Nat) : Int := if f (k + 1) = 0 then f k else max (f k) (f (k + 1) - ch k)
def mix (lo ch : Nat → Int) (last : Int) (n j i : Nat) : Int := if j ≤ i then bkd lo ch last n (n - i) else lo i
theorem src_mix (lo ch : Nat → Int) (last : Int) (n j : Nat) (h : j < n) : srcV (mix lo ch last n (j + 1)) ch j = bkd lo ch last n (n - j) := by
  have e : n - j = (n - (j + 1)) + 1 := by omega
  have h1 : mix lo ch last n (j + 1) (j + 1) = bkd lo ch last n (n - (j + 1)) := by simp [mix]
  have h2 : mix lo ch last n (j + 1) j = lo j := by unfold mix; rw [if_neg (by omega)]
  unfold srcV
  rw [h1, h2, e, bkd, show n - ((n - (j + 1)) + 1) = j by omega]
theorem mix_set (lo ch : Nat → Int) (last : Int) (n j : Nat) : (fun i => if i = j then bkd lo ch last n (n - j) else mix lo ch last n (j + 1) i) = mix lo ch last n j := by
  funext i
  unfold mix
  by_cases h : i = j
  · subst h; simp
  · by_cases h2 : j ≤ i
    · rw [if_neg h, if_pos (by omega), if_pos h2]
    · rw [if_neg h, if_neg (by omega), if_neg h2]
theorem bkd_in {lo ch : Nat → Int} {last : Int} {n : Nat} (hl : ∀ k, 0 ≤ lo k ∧ lo k ≤ 200) (hc : ∀ k, -20 ≤ ch k) (h0 : 0 ≤ last) (h1 : last ≤ 300) (j : Nat) : 0 ≤ bkd lo ch last n j ∧ bkd lo ch last n j ≤ 300 + 20 * (j : Int) := by
  induction j with
  | zero => simp [bkd]; omega
  | succ j ih =>
    have h2 := hl (n - (j + 1))
    have h3 := hc (n - (j + 1))
    rw [bkd]
    split
    · omega
    · push_cast; omega
set_option maxRecDepth 100000 in
set_option maxHeartbeats 4000000 in
theorem source_c (s : Spc) (m : Sl) (M : Option Nat) (f : Nat → Int) (n k gV gR gS : Nat) (w : World) (hv : Blk w gV 38 #[.slice (some ⟨gR, 0, none⟩) (n + 1) (n + 1)]) (hr : Blk w gR 3 (rowF f (n + 1))) (hsp : Blk w gS 93 (wV s m M)) (hsa : SAt w m s) (hs : SOk s) (hbl : s.blows.length ≤ 1000) (hkn : k < n) (hn : n ≤ 60)
    (hM1 : ∀ i, i ≤ n → -100000 ≤ f i) (hM2 : ∀ i, i ≤ n → f i ≤ 100000) :
    Calls Try.prog 82 #[.int .i64 (k : Int), .pointer (some ⟨gV, 0, none⟩), .pointer (some ⟨gS, 0, none⟩)] w fun e w' => e = .returned (.int .i64 (srcV f (fun k => (chg s (k : Int)).2) k)) ∧ Below w.heap.size w w' := by
  obtain ⟨E, hE⟩ : ∃ E, srcV f (fun k => (chg s (k : Int)).2) k = E := ⟨_, rfl⟩
  rw [hE]
  unfold srcV at hE
  have v0 := hv.cell 0
  simp only [List.getElem?_toArray, List.getElem?_cons_zero] at v0
  have r1 := hr.cell (k + 1)
  rw [rowF_get f (show k + 1 < n + 1 by omega)] at r1
  have r0 := hr.cell k
  rw [rowF_get f (show k < n + 1 by omega)] at r0
  have hb1 := hM1 (k + 1) (by omega)
  have hb2 := hM2 (k + 1) (by omega)
  have hch := chg_ok hs (k : Int)
  have hk2 : k + 1 < n + 1 := by omega
  have hk3 : k < n + 1 := by omega
  by_cases hz : f (k + 1) = 0
  · rw [if_pos hz] at hE
    rw [hz] at r1
    have HE := Lib.hid hE
    clear hE
    clear hb1 hb2 hz
    go_enter Try.func82, Try.ntmps82
    go_wp2_with fail
    go_ret
    exact ⟨ret_int HE.out, Below.refl _ _⟩
  · rw [if_neg hz] at hE
    have HE := Lib.hid hE
    clear hE
    have hz' : (f (k + 1) == 0) = false := beq_eq_false_iff_ne.2 hz
    clear hz
    go_enter Try.func82, Try.ntmps82
    go_wp2_with fail
    clear v0 r1 r0
    refine Vals6.regionAll (fun X => Blk X gV 38 #[.slice (some ⟨gR, 0, none⟩) (n + 1) (n + 1)] ∧ Blk X gR 3 (rowF f (n + 1)) ∧ Blk X gS 93 (wV s m M) ∧ SAt X m s ∧ Since w X) [some 17, some 18, some 19, some 20, some 21, some 22, some 23, some 24, some 25, some 26, some 27] [.is (.slice (some ⟨gR, 0, none⟩) (n + 1) (n + 1)), .is (.int .i64 (k : Int)), .is (.pointer (some ⟨gR, k, none⟩)), .is (.int .i64 (f k)), .is (.int .i64 (f (k + 1))), .is (.agg (wV s m M)), .is (.int .i64 (k : Int)), .is (.agg #[.int .i64 (chg s (k : Int)).1, .int .i64 (chg s (k : Int)).2]), .is (.int .i64 (chg s (k : Int)).2), .is (.int .i64 (f (k + 1) - (chg s (k : Int)).2)), .is (.int .i64 (max (f k) (f (k + 1) - (chg s (k : Int)).2)))] (by kernel_rfl) rfl rfl (by kernel_rfl) (by kernel_rfl) (by kernel_rfl) (by kernel_rfl) (by kernel_rfl) (by kernel_rfl) (by kernel_rfl) (⟨hv.drew, hr.drew, hsp.drew, hsa.keep (Below.refl _ _).drew, (Since.refl w).drew⟩) ?_ ?_
    · refine Vals5.Steps.run (by kernel_rfl) (Vals5.Stable.is _) ?_ ?_
      · intro a W hS pre old K hK
        have e1 : a.tmps.getD 1 undef = .pointer (some ⟨gV, 0, none⟩) := old 1 _ (by kernel_rfl) rfl
        clear pre old
        simp only [Array.getD_eq_getD_getElem?] at e1
        have hS9 := hS
        obtain ⟨l1, l2, l3, _, _⟩ := hS9
        have v0 := l1.cell 0
        simp only [List.getElem?_toArray, List.getElem?_cons_zero] at v0
        have r0 := l2.cell k
        rw [rowF_get f (show k < n + 1 by omega)] at r0
        obtain ⟨d0, d1, d2, d3, d4, d5, d6, d7, d8, d9⟩ := l3.watch
        go_simp
        exact hK _ _ hS (Below.refl _ _) rfl
      refine Vals5.Steps.run (by kernel_rfl) (Vals5.Stable.is _) ?_ ?_
      · intro a W hS pre old K hK
        have e0 : a.tmps.getD 0 undef = .int .i64 (k : Int) := old 0 _ (by kernel_rfl) rfl
        clear pre old
        simp only [Array.getD_eq_getD_getElem?] at e0
        go_simp
        exact hK _ _ hS (Below.refl _ _) rfl
      refine Vals5.Steps.run (by kernel_rfl) (Vals5.Stable.is _) ?_ ?_
      · intro a W hS pre old K hK
        have e17 : a.tmps.getD 17 undef = .slice (some ⟨gR, 0, none⟩) (n + 1) (n + 1) := pre 0 17 _ (by kernel_rfl) rfl rfl
        have e18 : a.tmps.getD 18 undef = .int .i64 (k : Int) := pre 1 18 _ (by kernel_rfl) rfl rfl
        clear pre old
        simp only [Array.getD_eq_getD_getElem?] at e17 e18
        have hk1 : (k : Int) < (n : Int) + 1 := by omega
        go_simp
        first | exact hK _ _ hS (Below.refl _ _) rfl | (rw [add_new]; exact hK _ _ hS (Below.refl _ _) rfl)
      refine Vals5.Steps.run (by kernel_rfl) (Vals5.Stable.is _) ?_ ?_
      · intro a W hS pre old K hK
        have e19 : a.tmps.getD 19 undef = .pointer (some ⟨gR, k, none⟩) := pre 2 19 _ (by kernel_rfl) rfl rfl
        clear pre old
        simp only [Array.getD_eq_getD_getElem?] at e19
        have hS9 := hS
        obtain ⟨l1, l2, l3, _, _⟩ := hS9
        have v0 := l1.cell 0
        simp only [List.getElem?_toArray, List.getElem?_cons_zero] at v0
        have r0 := l2.cell k
        rw [rowF_get f (show k < n + 1 by omega)] at r0
        obtain ⟨d0, d1, d2, d3, d4, d5, d6, d7, d8, d9⟩ := l3.watch
        go_simp
        exact hK _ _ hS (Below.refl _ _) rfl
      refine Vals5.Steps.run (by kernel_rfl) (Vals5.Stable.is _) ?_ ?_
      · intro a W hS pre old K hK
        have e5 : a.tmps.getD 5 undef = .int .i64 (f (k + 1)) := old 5 _ (by kernel_rfl) rfl
        clear pre old
        simp only [Array.getD_eq_getD_getElem?] at e5
        go_simp
        exact hK _ _ hS (Below.refl _ _) rfl
      refine Vals5.Steps.run (by kernel_rfl) (Vals5.Stable.is _) ?_ ?_
      · intro a W hS pre old K hK
        have e2 : a.tmps.getD 2 undef = .pointer (some ⟨gS, 0, none⟩) := old 2 _ (by kernel_rfl) rfl
        clear pre old
        simp only [Array.getD_eq_getD_getElem?] at e2
        have hS9 := hS
        obtain ⟨l1, l2, l3, _, _⟩ := hS9
        have v0 := l1.cell 0
        simp only [List.getElem?_toArray, List.getElem?_cons_zero] at v0
        have r0 := l2.cell k
        rw [rowF_get f (show k < n + 1 by omega)] at r0
        obtain ⟨d0, d1, d2, d3, d4, d5, d6, d7, d8, d9⟩ := l3.watch
        go_simp
        exact hK _ _ hS (Below.refl _ _) rfl
      refine Vals5.Steps.run (by kernel_rfl) (Vals5.Stable.is _) ?_ ?_
      · intro a W hS pre old K hK
        have e0 : a.tmps.getD 0 undef = .int .i64 (k : Int) := old 0 _ (by kernel_rfl) rfl
        clear pre old
        simp only [Array.getD_eq_getD_getElem?] at e0
        go_simp
        exact hK _ _ hS (Below.refl _ _) rfl
      refine Vals5.Steps.run (by kernel_rfl) (Vals5.Stable.is _) ?_ ?_
      · intro a W hS pre old K hK
        have e22 : a.tmps.getD 22 undef = .agg (wV s m M) := pre 5 22 _ (by kernel_rfl) rfl rfl
        have e23 : a.tmps.getD 23 undef = .int .i64 (k : Int) := pre 6 23 _ (by kernel_rfl) rfl rfl
        clear pre old
        simp only [Array.getD_eq_getD_getElem?] at e22 e23
        go_simp
        refine (change_c s m M (k : Int) _ hbl hS.2.2.2.1.bl).mono ?_
        rintro e w' ⟨rfl, hb'⟩
        obtain ⟨h1, h2, h3, h4, h5⟩ := hS
        exact hK _ _ ⟨h1.keep hb', h2.keep hb', h3.keep hb', h4.keep hb', h5.keep hb'⟩ hb' rfl
      refine Vals5.Steps.run (by kernel_rfl) (Vals5.Stable.is _) ?_ ?_
      · intro a W hS pre old K hK
        have e24 : a.tmps.getD 24 undef = .agg #[.int .i64 (chg s (k : Int)).1, .int .i64 (chg s (k : Int)).2] := pre 7 24 _ (by kernel_rfl) rfl rfl
        clear pre old
        simp only [Array.getD_eq_getD_getElem?] at e24
        have hfi : ∀ (p q : Int) (w : World), (Instr.field 23 (.agg #[.int .i64 p, .int .i64 q]) 1).run Try.prog w = .ok (.int .i64 q) w := fun _ _ _ => by kernel_rfl
        go_simp
        exact hK _ _ hS (Below.refl _ _) rfl
      refine Vals5.Steps.run (by kernel_rfl) (Vals5.Stable.is _) ?_ ?_
      · intro a W hS pre old K hK
        have e21 : a.tmps.getD 21 undef = .int .i64 (f (k + 1)) := pre 4 21 _ (by kernel_rfl) rfl rfl
        have e25 : a.tmps.getD 25 undef = .int .i64 (chg s (k : Int)).2 := pre 8 25 _ (by kernel_rfl) rfl rfl
        clear pre old
        simp only [Array.getD_eq_getD_getElem?] at e21 e25
        have hw : IntKind.i64.wrap (f (k + 1) - (chg s (k : Int)).2) = f (k + 1) - (chg s (k : Int)).2 := IntWalk.i64_in _ (by omega)
        go_simp
        exact hK _ _ hS (Below.refl _ _) rfl
      refine Vals5.Steps.run (by kernel_rfl) (Vals5.Stable.is _) ?_ ?_
      · intro a W hS pre old K hK
        have e20 : a.tmps.getD 20 undef = .int .i64 (f k) := pre 3 20 _ (by kernel_rfl) rfl rfl
        have e26 : a.tmps.getD 26 undef = .int .i64 (f (k + 1) - (chg s (k : Int)).2) := pre 9 26 _ (by kernel_rfl) rfl rfl
        clear pre old
        simp only [Array.getD_eq_getD_getElem?] at e20 e26
        rcases (by omega : (f k < f (k + 1) - (chg s (k : Int)).2 ∧ max (f k) (f (k + 1) - (chg s (k : Int)).2) = f (k + 1) - (chg s (k : Int)).2) ∨ (¬ f k < f (k + 1) - (chg s (k : Int)).2 ∧ max (f k) (f (k + 1) - (chg s (k : Int)).2) = f k)) with ⟨h2, hn⟩ | ⟨h2, hn⟩
        · go_simp
          exact hK _ _ hS (Below.refl _ _) (by show _ = _; rw [hn])
        · go_simp
          exact hK _ _ hS (Below.refl _ _) (by show _ = _; rw [hn])
      exact Vals5.Steps.nil
    rintro X ⟨h1, h2, h3, h4, h5⟩
    simp only [Vals5.All, List.getLast_cons_cons, List.getLast_singleton]
    simp only [Vals.putAll, List.setIfInBounds_toArray, List.set_cons_zero, List.set_cons_succ]
    intro K hK
    go_simp
    refine hK _ _ ?_
    clear hK K
    go_wp2_with fail
    go_ret
    exact ⟨ret_int HE.out, h5.1⟩
/-- the least levels of the first k minutes, then 0. -/
def lowK (lo : Nat → Int) (k i : Nat) : Int := if i < k then lo i else 0
theorem lowK_set (lo : Nat → Int) (k : Nat) : (fun i => if i = k then lo k else lowK lo k i) = lowK lo (k + 1) := by
  funext i
  unfold lowK
  by_cases h : i = k
  · subst h; simp
  · by_cases h2 : i < k
    · rw [if_neg h, if_pos h2, if_pos (by omega)]
    · rw [if_neg h, if_neg h2, if_neg (by omega)]
theorem lowK_mix (lo ch : Nat → Int) (last : Int) (n i : Nat) (hi : i < n + 1) : (if i = n then last else lowK lo n i) = mix lo ch last n n i := by
  unfold lowK mix
  by_cases h : i = n
  · subst h; simp [bkd]
  · rw [if_neg h, if_pos (by omega), if_neg (by omega)]
theorem lowOf_in {s : Spc} {l : List Rd} {m : Int} {o : Option (Int × Int)} (h : Vd o) (k : Nat) : 0 ≤ lowOf s l m o k ∧ lowOf s l m o k ≤ 200 := by
  unfold lowOf
  cases hl : lv s l m o k with
  | none => simp
  | some x => have := vd_lv h k x hl; simp; omega
theorem lowOf_some {s : Spc} {l : List Rd} {m : Int} {o : Option (Int × Int)} {k : Nat} {x : Int × Int} (h : lv s l m o k = some x) : lowOf s l m o k = x.1 := by simp [lowOf, h]
theorem info3 : (Try.prog.info? 3).map (fun i => (i.zero, i.size, i.bytes)) = some (some (.int .i64 0), 1, 8) := by kernel_rfl
set_option maxRecDepth 100000 in
set_option maxHeartbeats 4000000 in
theorem lowest_c (s : Spc) (m : Sl) (M : Option Nat) (rs : List Rd) (n : Nat) (last : Int) (w : World) (hs : SOk s) (hr : ∀ r ∈ rs, ROk s r) (hrl : rs.length ≤ 1000) (hsa : SAt w m s) (hm : Mp w M rs) (hn60 : n ≤ 60)
    (hsome : ∀ k, k ≤ n → (lv s rs 0 (btw s.s0 s.s1) k).isSome = true) (hl0 : 0 ≤ last) (hl1 : last ≤ 300) :
    Calls Try.prog 54 #[.agg (wV s m M), .int .i64 (n : Int), .int .i64 last] w fun e w' =>
      (∃ g, e = .returned (.slice (some ⟨g, 0, none⟩) (n + 1) (n + 1)) ∧ Blk w' g 3 (rowF (fun k => bkd (lowOf s rs 0 (btw s.s0 s.s1)) (fun k => (chg s (k : Int)).2) last n (n - k)) (n + 1))) ∧ Below w.heap.size w w' := by
  obtain ⟨o, ho⟩ : ∃ o, btw s.s0 s.s1 = o := ⟨_, rfl⟩
  have hvd : Vd o := by rw [← ho]; exact vd_start hs
  rw [ho] at hsome ⊢
  obtain ⟨lo, hlo⟩ : ∃ lo, lowOf s rs 0 o = lo := ⟨_, rfl⟩
  obtain ⟨ch, hch⟩ : ∃ ch, (fun k : Nat => (chg s (k : Int)).2) = ch := ⟨_, rfl⟩
  rw [hlo, hch]
  have HLO := Lib.hid hlo
  have HCH := Lib.hid hch
  clear hlo hch
  obtain ⟨p0, q0, r0, hv0⟩ := lV_ex o
  have HV0 : Hid (lV (btw s.s0 s.s1) = #[.int .i64 p0, .int .i64 q0, .bool r0]) := by show _ = _; rw [ho, hv0]
  have HVO := Lib.hid hv0
  have hbl : s.blows.length ≤ 1000 := by have := hs.nb; omega
  refine (callsIn_wide (n := 6)).1 ?_
  refine callsIn_of_wp_marks Try.func54 rfl trivial ?_ rfl
  clear hv0
  simp only [Try.ntmps54, List.size_toArray, List.length_cons, List.length_nil, Nat.reduceAdd, Nat.reduceSub, Array.replicate_succ, Array.replicate_zero, List.push_toArray, List.append_toArray, List.nil_append, List.cons_append]
  refine wpIn_wide.2 ?_
  have hmk := fun W => run_make_row' (P := Try.prog) 38 3 (.int .i64 0) 8 Try.underlying38 info3 rfl .i64 .i64 (n + 1) (by omega) (by omega) W
  have hw1 : IntKind.i64.wrap ((n : Int) + 1) = (n : Int) + 1 := IntWalk.i64_in _ (by omega)
  simp only [made_row] at hmk
  push_cast at hmk
  obtain ⟨W1, hW1⟩ : ∃ W1, (((w.alloc (.cells (wV s m M) 93)).alloc (.cells #[.int .i64 (n : Int)] 3)).alloc (.cells (rowF (fun _ => 0) (n + 1)) 3)).alloc (.cells #[.slice (some ⟨w.heap.size + 1 + 1, 0, none⟩) (n + 1) (n + 1)] 38) = W1 := ⟨_, rfl⟩
  have hsn1 : Since w W1 := by rw [← hW1]; exact ((((Since.refl w).alloc _).alloc _).alloc _).alloc _
  have bS1 : Blk W1 w.heap.size 93 (wV s m M) := by rw [← hW1]; exact (((Blk.new w _ _).alloc _).alloc _).alloc _
  have bM1 : Blk W1 (w.heap.size + 1) 3 #[.int .i64 (n : Int)] := by rw [← hW1]; exact ((Blk.new1 w _ _ _).alloc _).alloc _
  have bR1 : Blk W1 (w.heap.size + 1 + 1) 3 (rowF (fun _ => 0) (n + 1)) := by rw [← hW1]; exact (Blk.new2 w _ _ _ _).alloc _
  have bV1 : Blk W1 (w.heap.size + 1 + 1 + 1) 38 #[.slice (some ⟨w.heap.size + 1 + 1, 0, none⟩) (n + 1) (n + 1)] := by rw [← hW1]; exact Blk.new3 w _ _ _ _ _
  go_wp2_with fail
  try rw [hW1]
  clear hW1 hmk hw1
  refine Vals6.regionAll (fun X => Blk X w.heap.size 93 (wV s m M) ∧ Since W1 X) [some 15, some 16, some 17] [.is (.agg (wV s m M)), .is (.agg (wV s m M)), .is (.agg #[.int .i64 p0, .int .i64 q0, .bool r0])] (by kernel_rfl) rfl rfl (by kernel_rfl) (by kernel_rfl) (by kernel_rfl) (by kernel_rfl) (by kernel_rfl) (by kernel_rfl) (by kernel_rfl) (⟨bS1.drew, (Since.refl W1).drew⟩) ?_ ?_
  · refine Vals5.Steps.run (by kernel_rfl) (Vals5.Stable.is _) ?_ ?_
    · intro a W hS pre old K hK
      have e3 : a.tmps.getD 3 undef = .pointer (some ⟨w.heap.size, 0, none⟩) := old 3 _ (by kernel_rfl) rfl
      clear pre old
      simp only [Array.getD_eq_getD_getElem?] at e3
      have hS9 := hS
      obtain ⟨l1, _⟩ := hS9
      obtain ⟨d0, d1, d2, d3, d4, d5, d6, d7, d8, d9⟩ := l1.watch
      go_simp
      exact hK _ _ hS (Below.refl _ _) rfl
    refine Vals5.Steps.run (by kernel_rfl) (Vals5.Stable.is _) ?_ ?_
    · intro a W hS pre old K hK
      have e3 : a.tmps.getD 3 undef = .pointer (some ⟨w.heap.size, 0, none⟩) := old 3 _ (by kernel_rfl) rfl
      clear pre old
      simp only [Array.getD_eq_getD_getElem?] at e3
      have hS9 := hS
      obtain ⟨l1, _⟩ := hS9
      obtain ⟨d0, d1, d2, d3, d4, d5, d6, d7, d8, d9⟩ := l1.watch
      go_simp
      exact hK _ _ hS (Below.refl _ _) rfl
    refine Vals5.Steps.run (by kernel_rfl) (Vals5.Stable.is _) ?_ ?_
    · intro a W hS pre old K hK
      have e16 : a.tmps.getD 16 undef = .agg (wV s m M) := pre 1 16 _ (by kernel_rfl) rfl rfl
      clear pre old
      simp only [Array.getD_eq_getD_getElem?] at e16
      go_simp
      refine (start_c s m M _).mono ?_
      rintro e w' ⟨rfl, hb'⟩
      obtain ⟨h1, h2⟩ := hS
      exact hK _ _ ⟨h1.keep hb', h2.keep hb'⟩ hb' (by show Value.agg _ = Value.agg _; rw [HV0.out])
    exact Vals5.Steps.nil
  rintro X2 ⟨bS2, hsn2⟩
  simp only [Vals5.All, List.getLast_cons_cons, List.getLast_singleton]
  simp only [Vals.putAll, List.setIfInBounds_toArray, List.set_cons_zero, List.set_cons_succ]
  intro K hK
  go_simp
  have hF := follow_c s m M 0 o X2
  rw [HVO.out] at hF
  refine hF.mono ?_
  clear hF
  rintro e w0 ⟨rfl, hw0⟩
  refine hK _ _ ?_
  clear hK K
  have hz2 := hsn2.2
  have hz1 := bV1.lt
  have hz0 : w0.heap.size = X2.heap.size + 3 := by rw [← hw0]; simp
  have hsnB : Since W1 w0 := by rw [← hw0]; exact ((hsn2.alloc _).alloc _).alloc _
  have hsnA : Since w w0 := hsn1.keep hsnB.1
  have bS3 := bS1.keep hsnB.1
  have bM3 := bM1.keep hsnB.1
  have bR3 := bR1.keep hsnB.1
  have bV3 := bV1.keep hsnB.1
  have C : Cx (w.heap.size + 1 + 1) (w.heap.size + 1 + 1 + 1) w0.heap.size w0 X2.heap.size (X2.heap.size + 1) (X2.heap.size + 1 + 1) s m M rs 0 o := by
    refine ⟨?_, ?_, ?_, by omega, by omega, by omega, ?_, ?_, hs, hvd, hr, hrl, by omega, by omega⟩
    · rw [← hw0]; exact ((Blk.new X2 _ _).alloc _).alloc _
    · rw [← hw0]; exact (Blk.new1 X2 _ _ _).alloc _
    · rw [← hw0, HVO.out]; exact Blk.new2 X2 _ _ _ _
    · intro W hW
      exact hsa.keep (below_kp hsnA.1 hW (by omega))
    · intro W hW
      exact hm.keep (below_kp hsnA.1 hW (by omega))
  clear hw0 bS1 bM1 bR1 bV1 bS2
  go_wp2_with fail
  refine (wpIn_wide (n := 6)).1 ?_
  refine rangeFunc_c (w := w0) rfl (by omega) (gf := 93) (lb := #[.pointer (some ⟨X2.heap.size + 1 + 1, 0, none⟩), .pointer (some ⟨X2.heap.size + 1, 0, none⟩), .pointer (some ⟨X2.heap.size, 0, none⟩)]) rfl trivial (enters_of Try.func93 (by kernel_rfl) rfl)
    (follow_seq _ (by omega) C (by omega)) Kp.trans (fun W l o o' hl hg hc _ => Kp.put W l o o' (by omega) hg hc) (Below.refl _ _) (fun _ => rfl)
    (fun pre W => ((Blk W (w.heap.size + 1 + 1) 3 (rowF (lowK lo pre.length) (n + 1)) ∧ Blk W (w.heap.size + 1 + 1 + 1) 38 #[.slice (some ⟨w.heap.size + 1 + 1, 0, none⟩) (n + 1) (n + 1)]) ∧ (Blk W w.heap.size 93 (wV s m M) ∧ Blk W (w.heap.size + 1) 3 #[.int .i64 (n : Int)])) ∧ (pre.length ≤ n ∧ Below w.heap.size w W))
    (fun c _ W => ((Blk W (w.heap.size + 1 + 1) 3 (rowF (lowK lo n) (n + 1)) ∧ Blk W (w.heap.size + 1 + 1 + 1) 38 #[.slice (some ⟨w.heap.size + 1 + 1, 0, none⟩) (n + 1) (n + 1)]) ∧ (Blk W w.heap.size 93 (wV s m M) ∧ Blk W (w.heap.size + 1) 3 #[.int .i64 (n : Int)])) ∧ (c = .exit 0 ∧ Below w.heap.size w W))
    ((((AllFrom.blk (by omega) _ _).and (AllFrom.blk (by omega) _ _)).and ((AllFrom.blk (by omega) _ _).and (AllFrom.blk (by omega) _ _))).and ((AllFrom.pure _ _).and (AllFrom.below (Nat.le_refl _) (by omega))))
    (fun _ => (((AllFrom.blk (by omega) _ _).and (AllFrom.blk (by omega) _ _)).and ((AllFrom.blk (by omega) _ _).and (AllFrom.blk (by omega) _ _))).and ((AllFrom.pure _ _).and (AllFrom.below (Nat.le_refl _) (by omega))))
    ⟨⟨⟨by rw [show rowF (lowK lo ([] : List Nat).length) (n + 1) = rowF (fun _ => 0) (n + 1) from rowF_congr fun i _ => by simp [lowK]]; exact bR3, bV3⟩, bS3, bM3⟩, by simp, hsnA.1⟩
    (fun x a' W => ∃ Bx, w.heap.size + 1 + 1 + 1 < Bx ∧ Blk W Bx 95 (lV (lv s rs 0 o x)) ∧ a' = { tmps := #[.agg (wV s m M), .int .i64 (n : Int), .int .i64 last, .pointer (some ⟨w.heap.size, 0, none⟩), .pointer (some ⟨w.heap.size + 1, 0, none⟩), undef, .slice none 0 0, .pointer (some ⟨w.heap.size + 1 + 1 + 1, 0, none⟩), .int .i64 (x : Int), .pointer (some ⟨Bx, 0, none⟩), undef, undef, .int .i64 (n : Int), .int .i64 ((n : Int) + 1), .slice (some ⟨w.heap.size + 1 + 1, 0, none⟩) (n + 1) (n + 1), .agg (wV s m M), .agg (wV s m M), .agg #[.int .i64 p0, .int .i64 q0, .bool r0], .func (.func 93) #[] #[.pointer (some ⟨X2.heap.size + 1 + 1, 0, none⟩), .pointer (some ⟨X2.heap.size + 1, 0, none⟩), .pointer (some ⟨X2.heap.size, 0, none⟩)], .int .i64 (x : Int), .agg (lV (lv s rs 0 o x)), undef, undef, undef, undef, undef, undef, undef, undef, undef, undef, undef, undef, undef, undef, undef, undef, undef, undef, undef, undef, undef, undef, undef, undef, undef, undef, undef], defers := [] })
    (fun x a' _ X Y row hs hg hr => by
      obtain ⟨Bx, h1, h2, h3⟩ := hs
      exact ⟨Bx, h1, h2.grown hg (fun e => by obtain ⟨_, o, ho, hc⟩ := hr Bx e.symm; rw [show X.heap[Bx]? = _ from h2] at ho; cases ho; cases hc), h3⟩)
    ?assign ?body ?done ?stop
  case assign =>
    rintro l pre x W K ⟨⟨⟨i1, i2⟩, i3, i4⟩, i5, i6⟩ hK
    obtain ⟨p1, q1, r1, hv1⟩ := lV_ex (lv s rs 0 o x)
    dsimp only [encF]
    rw [Int.zero_add]
    rw [hv1] at hK ⊢
    gi_wp2
    exact hK _ _ ((KeepsOthers.alloc _ _).from _) (.of ((Below.refl _ W).alloc (Nat.le_refl _) _)) ⟨⟨⟨i1.alloc _, i2.alloc _⟩, i3.alloc _, i4.alloc _⟩, i5, i6.alloc i6.size _⟩ ⟨W.heap.size, i2.lt, Blk.new W _ _, rfl⟩
  case body =>
    rintro l pre x a' W hl ⟨r, hr⟩ ⟨⟨⟨i1, i2⟩, i3, i4⟩, i5, i6⟩ ⟨Bx, hBx, bX, rfl⟩ ⟨rfl, hSx⟩
    have hxl : (List.range x).length = x := List.length_range
    have m0 := i4.cell 0
    have v0 := i2.cell 0
    simp only [List.getElem?_toArray, List.getElem?_cons_zero] at m0 v0
    rw [hxl] at i1 i5
    by_cases hxn : x = n
    · subst hxn
      clear bX
      gi_wp2
      exact ⟨⟨Nat.le_refl _, fun _ _ _ h _ => h⟩, ⟨⟨i1, i2⟩, i3, i4⟩, rfl, i6⟩
    · have hxn' : ((x : Int) == (n : Int)) = false := beq_eq_false_iff_ne.2 (by omega)
      cases hlv : lv s rs 0 o x with
      | none => have := (hSx x (by omega)).1; rw [hlv] at this; cases this
      | some y =>
        try rw [hlv] at bX
        simp only [lV] at bX ⊢
        have hlo : lo x = y.1 := by rw [← HLO.out]; exact lowOf_some hlv
        obtain ⟨e0, e1, e2⟩ := bX.lev
        have hx1 : (x : Int) < (n : Int) + 1 := by omega
        have r0 := i1.cell x
        rw [rowF_get _ (show x < n + 1 by omega)] at r0
        have f0 := i1.frozen x
        have HX := Lib.hid (show x + 1 ≤ n by omega)
        have HR := Lib.hid ((i1.set x (.int .i64 (lo x))))
        rw [rowF_set, lowK_set, hlo] at HR
        clear hxn hlv hlo
        gi_wp2
        refine ⟨(KeepsOthers.setCell _ _ _).from _, (Kp.refl _ _ _ _).setCell _ _ _ (by omega) (by omega), ⟨⟨?_, i2.far (by omega) _ _⟩, i3.far (by omega) _ _, i4.far (by omega) _ _⟩, ?_, i6.setCell (p := ⟨w.heap.size + 1 + 1, x, none⟩) (by simp; omega) _⟩
        · rw [List.length_append, hxl]; exact HR.out
        · rw [List.length_append, hxl]; exact HX.out
  case done =>
    rintro D xs W hD ⟨k, rfl, hE⟩ ⟨⟨⟨i1, i2⟩, i3, i4⟩, i5, i6⟩ hK
    exfalso
    rw [List.length_range] at i5
    rcases hE.2 with h | h
    · have := hsome k i5; rw [h] at this; cases this
    · omega
  case stop =>
    rintro D c pre W hD ⟨k, rfl, hE⟩ ⟨⟨⟨i1, i2⟩, i3, i4⟩, rfl, i6⟩ hK
    have m0 := i4.cell 0
    have v0 := i2.cell 0
    simp only [List.getElem?_toArray, List.getElem?_cons_zero] at m0 v0
    have r0 := i1.cell n
    rw [rowF_get _ (show n < n + 1 by omega)] at r0
    have f0 := i1.frozen n
    have hnn : (n : Int) < (n : Int) + 1 := by omega
    have hlob : Hid (∀ k, 0 ≤ lo k ∧ lo k ≤ 200) := fun k => by rw [← HLO.out]; exact lowOf_in hvd k
    have hchb : Hid (∀ k, -20 ≤ ch k) := fun k => by
      rw [← HCH.out]
      have := chg_ok hs (k : Int)
      show -20 ≤ (chg s (k : Int)).2
      omega
    have hBR := (i1.set n (.int .i64 last))
    rw [rowF_set, rowF_congr (fun i hi => lowK_mix lo ch last n i hi)] at hBR
    have HBR := Lib.hid hBR
    have HV2 := Lib.hid (i2.far (g' := w.heap.size + 1 + 1) (by omega) n (.int .i64 last))
    have HS2 := Lib.hid (i3.far (g' := w.heap.size + 1 + 1) (by omega) n (.int .i64 last))
    have HM2 := Lib.hid (i4.far (g' := w.heap.size + 1 + 1) (by omega) n (.int .i64 last))
    have hsn6 : Since w (W.setCell ⟨w.heap.size + 1 + 1, n, none⟩ (.int .i64 last)) := ⟨i6.setCell (p := ⟨w.heap.size + 1 + 1, n, none⟩) (by simp; omega) _, by simpa using i6.size⟩
    have hD6 : (W.setCell ⟨w.heap.size + 1 + 1, n, none⟩ (.int .i64 last)).heap[D]? = some (.deferred (some [])) := (heap_setCell_other W ⟨w.heap.size + 1 + 1, n, none⟩ D _ (by simp; omega)).trans hK
    have HDN : Hid (w0.heap.size ≤ D) := hD
    clear hBR
    gi_wp2
    go_wp2_with fail
    clear m0 v0 r0 f0 hnn i1 i2 i3 i4
    go_loopw [11] (fun i wr => ∃ (q : Nat) (v : Int), q ≤ n ∧ i = .int .i64 v ∧ v = (q : Int) - 1 ∧ Hid (Blk wr (w.heap.size + 1 + 1) 3 (rowF (mix lo ch last n q) (n + 1))) ∧ Hid (Blk wr (w.heap.size + 1 + 1 + 1) 38 #[.slice (some ⟨w.heap.size + 1 + 1, 0, none⟩) (n + 1) (n + 1)]) ∧ Hid (Blk wr w.heap.size 93 (wV s m M)) ∧ Hid (Blk wr (w.heap.size + 1) 3 #[.int .i64 (n : Int)]) ∧ Since w wr ∧ Hid (wr.heap[D]? = some (.deferred (some [])))) (fun i _ => (intOf i + 1).toNat)
    case atStart => exact ⟨n, _, Nat.le_refl _, rfl, rfl, HBR, HV2, HS2, HM2, hsn6, hD6⟩
    case round =>
      obtain ⟨q, v, hq, rfl, hvq, HR, HV, HS, HM, hsn, HD⟩ := hrel
      cases q with
      | zero =>
        obtain rfl : v = -1 := by omega
        clear hvq
        have hm1 : decide ((-1 : Int) ≥ 0) = false := by decide
        have v0 := HV.out.cell 0
        simp only [List.getElem?_toArray, List.getElem?_cons_zero] at v0
        go_wp2_with fail
        have hD9 := HDN.out
        refine ⟨by simp, .inl ⟨_, _, rfl, run_takeDeferred HD.out, ?_⟩⟩
        refine ⟨_, results_tmp rfl _ _ _, ⟨w.heap.size + 1 + 1, rfl, ?_⟩, hsn.1.trans (belowK_b (w := w) (Nat.le_refl _) _ D _ _ (by omega) HD.out rfl rfl)⟩
        rw [rowF_congr (g := mix lo ch last n 0) (fun i _ => by simp [mix])]
        exact HR.out.grown (grownBy_putObj' _ D (.deferred none)) (fun e => by cases e; omega)
      | succ j =>
        obtain rfl : v = (j : Int) := by omega
        clear hvq
        have hj0 : ¬ (j : Int) < 0 := by omega
        have hj1 : (0 : Int) ≤ (j : Int) := by omega
        have hsa9 := hsa.keep hsn.1
        have HSO := Lib.hid (src_mix lo ch last n j (by omega))
        have hM1 : Hid (∀ i, i ≤ n → -100000 ≤ mix lo ch last n (j + 1) i) := fun i hi => by
          have h1 := bkd_in (n := n) hlob.out hchb.out hl0 hl1 (n - i)
          have h2 := hlob.out i
          unfold mix
          split <;> omega
        have hM2 : Hid (∀ i, i ≤ n → mix lo ch last n (j + 1) i ≤ 100000) := fun i hi => by
          have h1 := bkd_in (n := n) hlob.out hchb.out hl0 hl1 (n - i)
          have h2 := hlob.out i
          unfold mix
          split <;> omega
        go_wp2_with fail
        refine Vals6.regionAll (fun X => Blk X (w.heap.size + 1 + 1 + 1) 38 #[.slice (some ⟨w.heap.size + 1 + 1, 0, none⟩) (n + 1) (n + 1)] ∧ Blk X (w.heap.size + 1 + 1) 3 (rowF (mix lo ch last n (j + 1)) (n + 1)) ∧ Blk X w.heap.size 93 (wV s m M) ∧ SAt X m s ∧ Since w X ∧ Blk X (w.heap.size + 1) 3 #[.int .i64 (n : Int)] ∧ X.heap[D]? = some (.deferred (some []))) [some 41, some 42, some 43, some 44, some 45, some 46] [.is (.slice (some ⟨w.heap.size + 1 + 1, 0, none⟩) (n + 1) (n + 1)), .is (.int .i64 (j : Int)), .is (.func (.func 82) #[] #[.pointer (some ⟨w.heap.size + 1 + 1 + 1, 0, none⟩), .pointer (some ⟨w.heap.size, 0, none⟩)]), .is (.int .i64 (j : Int)), .is (.int .i64 (bkd lo ch last n (n - j))), .is (.pointer (some ⟨w.heap.size + 1 + 1, j, none⟩))] (by kernel_rfl) rfl rfl (by kernel_rfl) (by kernel_rfl) (by kernel_rfl) (by kernel_rfl) (by kernel_rfl) (by kernel_rfl) (by kernel_rfl) (⟨HV.out.drew, HR.out.drew, HS.out.drew, hsa9.keep (Below.refl _ _).drew, hsn.drew, HM.out.drew, HD.out⟩) ?_ ?_
        · refine Vals5.Steps.run (by kernel_rfl) (Vals5.Stable.is _) ?_ ?_
          · intro a W hS pre old K hK
            have e7 : a.tmps.getD 7 undef = .pointer (some ⟨w.heap.size + 1 + 1 + 1, 0, none⟩) := old 7 _ (by kernel_rfl) rfl
            clear pre old
            simp only [Array.getD_eq_getD_getElem?] at e7
            have hS9 := hS
            obtain ⟨l1, _⟩ := hS9
            have v0 := l1.cell 0
            simp only [List.getElem?_toArray, List.getElem?_cons_zero] at v0
            go_simp
            exact hK _ _ hS (Below.refl _ _) rfl
          refine Vals5.Steps.run (by kernel_rfl) (Vals5.Stable.is _) ?_ ?_
          · intro a W hS pre old K hK
            have e11 : a.tmps.getD 11 undef = .int .i64 (j : Int) := old 11 _ (by kernel_rfl) rfl
            clear pre old
            simp only [Array.getD_eq_getD_getElem?] at e11
            go_simp
            exact hK _ _ hS (Below.refl _ _) rfl
          refine Vals5.Steps.run (by kernel_rfl) (Vals5.Stable.is _) ?_ ?_
          · intro a W hS pre old K hK
            have e10 : a.tmps.getD 10 undef = .func (.func 82) #[] #[.pointer (some ⟨w.heap.size + 1 + 1 + 1, 0, none⟩), .pointer (some ⟨w.heap.size, 0, none⟩)] := old 10 _ (by kernel_rfl) rfl
            clear pre old
            simp only [Array.getD_eq_getD_getElem?] at e10
            go_simp
            exact hK _ _ hS (Below.refl _ _) rfl
          refine Vals5.Steps.run (by kernel_rfl) (Vals5.Stable.is _) ?_ ?_
          · intro a W hS pre old K hK
            have e11 : a.tmps.getD 11 undef = .int .i64 (j : Int) := old 11 _ (by kernel_rfl) rfl
            clear pre old
            simp only [Array.getD_eq_getD_getElem?] at e11
            go_simp
            exact hK _ _ hS (Below.refl _ _) rfl
          refine Vals5.Steps.run (by kernel_rfl) (Vals5.Stable.is _) ?_ ?_
          · intro a W hS pre old K hK
            have e43 : a.tmps.getD 43 undef = .func (.func 82) #[] #[.pointer (some ⟨w.heap.size + 1 + 1 + 1, 0, none⟩), .pointer (some ⟨w.heap.size, 0, none⟩)] := pre 2 43 _ (by kernel_rfl) rfl rfl
            have e44 : a.tmps.getD 44 undef = .int .i64 (j : Int) := pre 3 44 _ (by kernel_rfl) rfl rfl
            clear pre old
            simp only [Array.getD_eq_getD_getElem?] at e43 e44
            go_simp
            obtain ⟨h1, h2, h3, h4, h5, h6, h7⟩ := hS
            refine (source_c s m M (mix lo ch last n (j + 1)) n j (w.heap.size + 1 + 1 + 1) (w.heap.size + 1 + 1) w.heap.size _ h1 h2 h3 h4 hs hbl (by omega) (by omega) hM1.out hM2.out).mono ?_
            rintro e w' ⟨rfl, hb'⟩
            exact hK _ _ ⟨h1.keep hb', h2.keep hb', h3.keep hb', h4.keep hb', h5.keep hb', h6.keep hb', (hb'.block D (Array.getElem?_eq_some_iff.1 h7).1).trans h7⟩ hb' (by show Value.int _ _ = Value.int _ _; rw [HCH.out, HSO.out])
          refine Vals5.Steps.run (by kernel_rfl) (Vals5.Stable.is _) ?_ ?_
          · intro a W hS pre old K hK
            have e41 : a.tmps.getD 41 undef = .slice (some ⟨w.heap.size + 1 + 1, 0, none⟩) (n + 1) (n + 1) := pre 0 41 _ (by kernel_rfl) rfl rfl
            have e42 : a.tmps.getD 42 undef = .int .i64 (j : Int) := pre 1 42 _ (by kernel_rfl) rfl rfl
            clear pre old
            simp only [Array.getD_eq_getD_getElem?] at e41 e42
            have hk1 : (j : Int) < (n : Int) + 1 := by omega
            go_simp
            first | exact hK _ _ hS (Below.refl _ _) rfl | (rw [add_new]; exact hK _ _ hS (Below.refl _ _) rfl)
          exact Vals5.Steps.nil
        rintro X ⟨hv9, hr9, hs9, _, hsn9, hm9, hd9⟩
        simp only [Vals5.All, List.getLast_cons_cons, List.getLast_singleton]
        simp only [Vals.putAll, List.setIfInBounds_toArray, List.set_cons_zero, List.set_cons_succ]
        have r9 := hr9.cell j
        rw [rowF_get _ (show j < n + 1 by omega)] at r9
        have f9 := hr9.frozen j
        have HR9 := Lib.hid (hr9.set j (.int .i64 (bkd lo ch last n (n - j))))
        rw [rowF_set, mix_set] at HR9
        have hD9 := HDN.out
        have HD9 : Hid ((X.setCell ⟨w.heap.size + 1 + 1, j, none⟩ (.int .i64 (bkd lo ch last n (n - j)))).heap[D]? = some (.deferred (some []))) := (heap_setCell_other X ⟨w.heap.size + 1 + 1, j, none⟩ D _ (by simp; omega)).trans hd9
        intro K hK
        go_simp
        refine hK _ _ ?_
        clear hK K r9 f9
        go_wp2_with fail
        go_roundw
        case rel => exact ⟨j, _, by omega, rfl, rfl, HR9, Lib.hid (hv9.far (by omega) _ _), Lib.hid (hs9.far (by omega) _ _), Lib.hid (hm9.far (by omega) _ _), ⟨hsn9.1.setCell (p := ⟨w.heap.size + 1 + 1, j, none⟩) (by simp; omega) _, by simpa using hsn9.2⟩, HD9⟩
        case measure => simp [intOf]
end Td
end Go.Proofs.Ytccacinnelmnpaa
