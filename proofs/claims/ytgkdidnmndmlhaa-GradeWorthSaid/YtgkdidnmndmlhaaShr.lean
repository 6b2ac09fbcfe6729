import Derived.Test.YtgkdidnmndmlhaaPas
/- Shares: the greatest divisor, the order, the foremost one. -/
namespace Go.Proofs.Ytgkdidnmndmlhaa
open Go.RowKit
namespace Td
set_option linter.unusedSimpArgs false
set_option linter.unusedVariables false
attribute [local go_sem] Oper.semAt_some
/-- a fraction as integers. -/
abbrev ip (s : Nat × Nat) : Int × Int := ((s.1 : Int), (s.2 : Int))
set_option maxHeartbeats 1000000 in
theorem divisor_c (x y : Nat) (w : World) (hx : x < 9223372036854775807) (hy : y < 9223372036854775807) :
    Calls Try.prog 83 #[.int .i64 x, .int .i64 y] w fun e w' => e = .returned (.int .i64 (Nat.gcd x y)) ∧ w = w' := by
  go_enter Try.func83, Try.ntmps83
  go_wp2
  go_loop [0, 1] (fun i j => ∃ a b : Nat, i = .int .i64 a ∧ j = .int .i64 b ∧ a < 9223372036854775807 ∧ b < 9223372036854775807 ∧ Hid (Nat.gcd a b = Nat.gcd x y)) (fun i _ => (intOf i).toNat)
  case atStart => exact ⟨x, y, rfl, rfl, hx, hy, Lib.hid rfl⟩
  case round =>
    obtain ⟨a, b, rfl, rfl, ha, hb, HG⟩ := hrel
    by_cases h0 : a = 0
    · subst h0
      have hz : (((0 : Nat) : Int) != 0) = false := by decide
      go_wp2_with fail
      go_ret
      refine ⟨?_, rfl⟩
      have := HG.out
      rw [Nat.gcd_zero_left] at this
      rw [← this]
      rfl
    · have hz : ((a : Int) != 0) = true := by simpa using h0
      have hz2 : ((a : Int) == 0) = false := by simpa using h0
      have hm : b % a < a := Nat.mod_lt _ (by omega)
      have ht : (b : Int).tmod (a : Int) = ((b % a : Nat) : Int) := by rw [Int.tmod_eq_emod_of_nonneg (by omega)]; omega
      have ht2 : (b : Int) % (a : Int) = ((b % a : Nat) : Int) := by omega
      have HR : Hid (Nat.gcd (b % a) a = Nat.gcd x y) := by show _ = _; rw [← HG.out]; exact (Nat.gcd_rec a b).symm
      obtain ⟨r, hr⟩ : ∃ r, b % a = r := ⟨_, rfl⟩
      rw [hr] at ht ht2 HR hm
      clear hr HG
      go_wp2_with fail
      go_round
      case rel => exact ⟨r, a, rfl, rfl, by omega, ha, HR⟩
      case measure => simp [intOf]; omega
set_option maxRecDepth 100000 in
set_option maxHeartbeats 1000000 in
theorem shareOf_c (x y : Nat) (w : World) (hx : x < 9223372036854775807) (hy : y < 9223372036854775807) (h0 : 0 < y) :
    Calls Try.prog 54 #[.int .i64 x, .int .i64 y] w fun e w' => e = .returned (.agg (fV (ip (shr x y)))) ∧ Below w.heap.size w w' := by
  have hs0 := (Since.refl w).alloc (.cells (fV (0, 0)) 90)
  have HR := Lib.hid (Blk.new w 90 (fV (0, 0)))
  have hg : 0 < Nat.gcd x y := Nat.gcd_pos_of_pos_right _ h0
  have hgl : Nat.gcd x y ≤ y := Nat.gcd_le_right _ h0
  have HV : Hid (ip (shr x y) = (((x / Nat.gcd x y : Nat) : Int), ((y / Nat.gcd x y : Nat) : Int))) := rfl
  have HD := fun W => Lib.hid (divisor_c x y W hx hy)
  obtain ⟨g, hgg⟩ : ∃ g, Nat.gcd x y = g := ⟨_, rfl⟩
  rw [hgg] at hg hgl HV
  have hD : Hid (∀ W, Calls Try.prog 83 #[.int .i64 x, .int .i64 y] W fun e w' => e = .returned (.int .i64 g) ∧ W = w') := fun W => by have := (HD W).out; rwa [hgg] at this
  clear HD hgg
  have q0 : ((g : Int) == 0) = false := by simp; omega
  have q0' : ¬ (g : Int) = 0 := by omega
  have q1 : (x : Int).tdiv (g : Int) = ((x / g : Nat) : Int) := by rw [Int.tdiv_eq_ediv_of_nonneg (by omega)]; omega
  have q2 : (y : Int).tdiv (g : Int) = ((y / g : Nat) : Int) := by rw [Int.tdiv_eq_ediv_of_nonneg (by omega)]; omega
  have b1 := Nat.div_le_self x g
  have b2 := Nat.div_le_self y g
  have q5 : (x : Int) / (g : Int) = ((x / g : Nat) : Int) := by omega
  have q6 : (y : Int) / (g : Int) = ((y / g : Nat) : Int) := by omega
  obtain ⟨u, hu⟩ : ∃ u, x / g = u := ⟨_, rfl⟩
  obtain ⟨v, hv⟩ : ∃ v, y / g = v := ⟨_, rfl⟩
  rw [hu] at q1 HV b1 q5
  rw [hv] at q2 HV b2 q6
  clear hu hv
  have q3 : IntKind.i64.wrap (u : Int) = (u : Int) := wrapI (by unfold I64; omega)
  have q4 : IntKind.i64.wrap (v : Int) = (v : Int) := wrapI (by unfold I64; omega)
  have q7 : ¬ g = 0 := by omega
  go_enter Try.func54, Try.ntmps54
  go_wp2_with fail
  refine (hD.out _).mono ?_
  rintro e w1 ⟨rfl, rfl⟩
  go_wp2_with fail
  refine Vals6.regionAll (fun X => Since w X ∧ Blk X w.heap.size 90 (fV (0, 0))) [some 9, some 10, some 11, some 12, some 13, some 14, some 15] [.is ?_, .is ?_, .is ?_, .is ?_, .is ?_, .is ?_, .is ?_] (by kernel_rfl) rfl rfl (by kernel_rfl) (by kernel_rfl) (by kernel_rfl) (by kernel_rfl) (by kernel_rfl) (by kernel_rfl) rfl (⟨hs0.drew, HR.out.drew⟩) ?hsteps ?hend
  case hsteps =>
    refine Vals5.Steps.run rfl (Vals5.Stable.is _) ?_ ?_
    · intro a W hS pre old K hK
      have e0 := old 0 _ (by kernel_rfl) rfl
      clear pre old
      simp only [Vals5.fits, Array.getD_eq_getD_getElem?, List.getElem?_toArray, List.getElem?_cons_zero, List.getElem?_cons_succ, Option.getD_some] at e0
      go_simp
      refine hK _ _ hS (Below.refl _ _) ?_
      exact fits_is _ _
    refine Vals5.Steps.run rfl (Vals5.Stable.is _) ?_ ?_
    · intro a W hS pre old K hK
      have e5 := old 5 _ (by kernel_rfl) rfl
      clear pre old
      simp only [Vals5.fits, Array.getD_eq_getD_getElem?, List.getElem?_toArray, List.getElem?_cons_zero, List.getElem?_cons_succ, Option.getD_some] at e5
      go_simp
      refine hK _ _ hS (Below.refl _ _) ?_
      exact fits_is _ _
    refine Vals5.Steps.run rfl (Vals5.Stable.is _) ?_ ?_
    · intro a W hS pre old K hK
      have e9 := pre 0 9 _ (by kernel_rfl) rfl rfl
      have e10 := pre 1 10 _ (by kernel_rfl) rfl rfl
      clear pre old
      simp only [Vals5.fits, Array.getD_eq_getD_getElem?, List.getElem?_toArray, List.getElem?_cons_zero, List.getElem?_cons_succ, Option.getD_some] at e9 e10
      go_simp
      refine hK _ _ hS (Below.refl _ _) ?_
      exact fits_is _ _
    refine Vals5.Steps.run rfl (Vals5.Stable.is _) ?_ ?_
    · intro a W hS pre old K hK
      have e1 := old 1 _ (by kernel_rfl) rfl
      clear pre old
      simp only [Vals5.fits, Array.getD_eq_getD_getElem?, List.getElem?_toArray, List.getElem?_cons_zero, List.getElem?_cons_succ, Option.getD_some] at e1
      go_simp
      refine hK _ _ hS (Below.refl _ _) ?_
      exact fits_is _ _
    refine Vals5.Steps.run rfl (Vals5.Stable.is _) ?_ ?_
    · intro a W hS pre old K hK
      have e5 := old 5 _ (by kernel_rfl) rfl
      clear pre old
      simp only [Vals5.fits, Array.getD_eq_getD_getElem?, List.getElem?_toArray, List.getElem?_cons_zero, List.getElem?_cons_succ, Option.getD_some] at e5
      go_simp
      refine hK _ _ hS (Below.refl _ _) ?_
      exact fits_is _ _
    refine Vals5.Steps.run rfl (Vals5.Stable.is _) ?_ ?_
    · intro a W hS pre old K hK
      have e12 := pre 3 12 _ (by kernel_rfl) rfl rfl
      have e13 := pre 4 13 _ (by kernel_rfl) rfl rfl
      clear pre old
      simp only [Vals5.fits, Array.getD_eq_getD_getElem?, List.getElem?_toArray, List.getElem?_cons_zero, List.getElem?_cons_succ, Option.getD_some] at e12 e13
      go_simp
      refine hK _ _ hS (Below.refl _ _) ?_
      exact fits_is _ _
    refine Vals5.Steps.run rfl (Vals5.Stable.is _) ?_ ?_
    · intro a W hS pre old K hK
      have e11 := pre 2 11 _ (by kernel_rfl) rfl rfl
      have e14 := pre 5 14 _ (by kernel_rfl) rfl rfl
      clear pre old
      simp only [Vals5.fits, Array.getD_eq_getD_getElem?, List.getElem?_toArray, List.getElem?_cons_zero, List.getElem?_cons_succ, Option.getD_some] at e11 e14
      go_simp
      refine hK _ _ hS (Below.refl _ _) ?_
      exact fits_is _ _
    exact Vals5.Steps.nil
  case hend =>
  rintro X ⟨hsn, hR⟩
  have HR2 := Lib.hid hR
  simp only [Vals5.All]
  simp only [List.getLast_cons_cons, List.getLast_singleton]
  simp only [Vals.putAll, List.setIfInBounds_toArray, List.set_cons_zero, List.set_cons_succ]
  intro K hK
  refine wp_store_row 90 _ _ rfl w.heap.size (fV ((u : Int), (v : Int))) rfl rfl 90 _ HR2.out (by kernel_rfl) rfl (by simp [Value.oneCell']) ?_
  refine hK _ _ ?_
  clear hK K
  dsimp only [Act.put]
  go_wp2_with fail
  (refine bodyPost_ret (v := .agg (fV ((u : Int), (v : Int)))) ?_ rfl ⟨by rw [HV.out], ?_⟩; exact (results_cell_row Try.results54 _ _ w.heap.size 90 _ (0, 0) _ rfl (HR2.out.row _) Try.underlying90 rfl (by kernel_rfl)))
  exact (hsn.row (Nat.le_refl _) _).1
/-- a share whose products fit. -/
def Sm (s : Nat × Nat) : Prop := s.1 < 34359738368 ∧ s.2 < 268435456
theorem Sm.mul {s t : Nat × Nat} (h : Sm s) (k : Sm t) : s.1 * t.2 < 9223372036854775808 := by
  have h1 := Nat.mul_le_mul (show s.1 ≤ 34359738367 from by have := h.1; omega) (show t.2 ≤ 268435455 from by have := k.2; omega)
  omega
set_option maxHeartbeats 1000000 in
theorem below_c (s t : Nat × Nat) (w : World) (hs : Sm s) (ht : Sm t) :
    Calls Try.prog 86 #[.agg (fV (ip s)), .agg (fV (ip t))] w fun e w' => e = .returned (.bool (lt' s t)) ∧ Below w.heap.size w w' := by
  have hs0 := ((Since.refl w).alloc (.cells (fV (ip s)) 90)).alloc (.cells (fV (ip t)) 90)
  obtain ⟨c0, c1⟩ := ((Blk.new w 90 (fV (ip s))).alloc (.cells (fV (ip t)) 90)).fcells
  obtain ⟨d0, d1⟩ := (Blk.new1 w (.cells (fV (ip s)) 90) 90 (fV (ip t))).fcells
  have m1 := hs.mul ht
  have m2 := ht.mul hs
  have HV : Hid (lt' s t = decide (((s.1 * t.2 : Nat) : Int) < ((t.1 * s.2 : Nat) : Int))) := by show _ = _; unfold lt'; congr 1; rw [Int.ofNat_lt]
  have p1 : (s.1 : Int) * (t.2 : Int) = ((s.1 * t.2 : Nat) : Int) := by push_cast; rfl
  have p2 : (t.1 : Int) * (s.2 : Int) = ((t.1 * s.2 : Nat) : Int) := by push_cast; rfl
  have e1 : IntKind.i64.wrap ((s.1 : Int) * (t.2 : Int)) = (s.1 : Int) * (t.2 : Int) := wrapI (by rw [p1]; unfold I64; omega)
  have e2 : IntKind.i64.wrap ((t.1 : Int) * (s.2 : Int)) = (t.1 : Int) * (s.2 : Int) := wrapI (by rw [p2]; unfold I64; omega)
  have HV2 : Hid (lt' s t = decide ((s.1 : Int) * (t.2 : Int) < (t.1 : Int) * (s.2 : Int))) := by show _ = _; rw [HV.out, p1, p2]
  clear p1 p2 HV m1 m2 hs ht
  go_enter Try.func86, Try.ntmps86
  go_wp2_with fail
  go_ret
  exact ⟨by rw [HV2.out]; rfl, hs0.1⟩
set_option maxHeartbeats 1000000 in
theorem above_c (s t : Nat × Nat) (w : World) (hs : Sm s) (ht : Sm t) :
    Calls Try.prog 72 #[.agg (fV (ip s)), .agg (fV (ip t))] w fun e w' => e = .returned (.bool (lt' t s)) ∧ Below w.heap.size w w' := by
  have hs0 := ((Since.refl w).alloc (.cells (fV (ip s)) 90)).alloc (.cells (fV (ip t)) 90)
  obtain ⟨c0, c1⟩ := ((Blk.new w 90 (fV (ip s))).alloc (.cells (fV (ip t)) 90)).fcells
  obtain ⟨d0, d1⟩ := (Blk.new1 w (.cells (fV (ip s)) 90) 90 (fV (ip t))).fcells
  have HB := fun W => Lib.hid (below_c t s W ht hs)
  obtain ⟨V, hV⟩ : ∃ V, lt' t s = V := ⟨_, rfl⟩
  rw [hV]
  go_enter Try.func72, Try.ntmps72
  go_wp2_with fail
  refine (HB _).out.mono ?_
  rintro e w1 ⟨rfl, hb⟩
  rw [hV]
  clear c0 c1 d0 d1
  go_wp2_with fail
  go_ret
  exact ⟨rfl, (hs0.keep hb).1⟩
set_option maxRecDepth 100000 in
set_option maxHeartbeats 1000000 in
theorem atMost_c (s t : Nat × Nat) (w : World) (hs : Sm s) (ht : Sm t) :
    Calls Try.prog 92 #[.agg (fV (ip s)), .agg (fV (ip t))] w fun e w' => e = .returned (.bool (decide (s = t) || lt' s t)) ∧ Below w.heap.size w w' := by
  have hs0 := ((Since.refl w).alloc (.cells (fV (ip s)) 90)).alloc (.cells (fV (ip t)) 90)
  obtain ⟨c0, c1⟩ := ((Blk.new w 90 (fV (ip s))).alloc (.cells (fV (ip t)) 90)).fcells
  obtain ⟨d0, d1⟩ := (Blk.new1 w (.cells (fV (ip s)) 90) 90 (fV (ip t))).fcells
  have HB := fun W => Lib.hid (below_c s t W hs ht)
  by_cases h1 : s.1 = t.1 ∧ s.2 = t.2
  · have HV : Hid ((decide (s = t) || lt' s t) = true) := by show _ = _; rw [decide_eq_true (Prod.ext h1.1 h1.2)]; rfl
    have q1 : ((s.1 : Int) == (t.1 : Int)) = true := by simp [h1.1]
    have q2 : ((s.2 : Int) == (t.2 : Int)) = true := by simp [h1.2]
    obtain ⟨r1, r2⟩ := h1
    have r1' : (s.1 : Int) = (t.1 : Int) := by omega
    have r2' : (s.2 : Int) = (t.2 : Int) := by omega
    clear r1 r2 q1 q2
    go_enter Try.func92, Try.ntmps92
    go_wp2_with fail
    go_ret
    exact ⟨by rw [HV.out]; rfl, hs0.1⟩
  · have HV : Hid ((decide (s = t) || lt' s t) = lt' s t) := by show _ = _; rw [decide_eq_false (fun e => h1 (by rw [e]; exact ⟨rfl, rfl⟩))]; rfl
    have hcase : (¬ (s.1 : Int) = (t.1 : Int)) ∨ ((s.1 : Int) = (t.1 : Int) ∧ ¬ (s.2 : Int) = (t.2 : Int)) := by omega
    clear h1
    rcases hcase with r1 | ⟨r1, r2⟩
    · go_enter Try.func92, Try.ntmps92
      go_wp2_with fail
      refine (HB _).out.mono ?_
      rintro e w1 ⟨rfl, hb⟩
      clear c0 c1 d0 d1 HB
      obtain ⟨V, hV⟩ : ∃ V, lt' s t = V := ⟨_, rfl⟩
      have HV2 : Hid ((decide (s = t) || lt' s t) = V) := hV ▸ HV.out
      rw [hV]
      clear hV HV
      go_wp2_with fail
      go_ret
      exact ⟨by rw [HV2.out]; rfl, (hs0.keep hb).1⟩
    · obtain ⟨s1, s2⟩ := s
      obtain ⟨t1, t2⟩ := t
      obtain rfl : s1 = t1 := by have := r1; simp only at this; omega
      clear r1
      dsimp only at r2
      go_enter Try.func92, Try.ntmps92
      go_wp2_with fail
      refine (HB _).out.mono ?_
      rintro e w1 ⟨rfl, hb⟩
      clear c0 c1 d0 d1 HB
      obtain ⟨V, hV⟩ : ∃ V, lt' (s1, s2) (s1, t2) = V := ⟨_, rfl⟩
      have HV2 : Hid ((decide ((s1, s2) = (s1, t2)) || lt' (s1, s2) (s1, t2)) = V) := hV ▸ HV.out
      rw [hV]
      clear hV HV
      go_wp2_with fail
      go_ret
      exact ⟨by rw [HV2.out]; rfl, (hs0.keep hb).1⟩
/-- the first element before which no other one comes. -/
def fore (b : Nat × Nat → Nat × Nat → Bool) : List (Nat × Nat) → Nat × Nat
  | [] => (0, 0)
  | x :: r => r.foldl (fun f y => if b y f then y else f) x
/-- shares in a row that begins a block. -/
def FrB (w : World) (g : Nat) (l : List (Nat × Nat)) : Prop := ∀ i s, l[i]? = some s → w.cell? ⟨g, i * 2, none⟩ = some (.int .i64 (s.1 : Int)) ∧ w.cell? ⟨g, i * 2 + 1, none⟩ = some (.int .i64 (s.2 : Int))
theorem FrB.keep {w w' : World} {g : Nat} {l : List (Nat × Nat)} (h : FrB w g l) (hb : Below w.heap.size w w') : FrB w' g l := fun i s hs => ⟨keep_cell hb (h i s hs).1, keep_cell hb (h i s hs).2⟩
theorem FrB.get {w : World} {g : Nat} {l : List (Nat × Nat)} (h : FrB w g l) {k : Nat} (hk : k < l.length) : w.cell? ⟨g, k * 2, none⟩ = some (.int .i64 (l[k].1 : Int)) ∧ w.cell? ⟨g, k * 2 + 1, none⟩ = some (.int .i64 (l[k].2 : Int)) := h k _ (List.getElem?_eq_getElem hk)
theorem fore_take (b : Nat × Nat → Nat × Nat → Bool) {l : List (Nat × Nat)} {k : Nat} (h : k + 1 < l.length) :
    fore b (l.take (k + 2)) = if b l[k + 1] (fore b (l.take (k + 1))) then l[k + 1] else fore b (l.take (k + 1)) := by
  cases l with
  | nil => simp at h
  | cons x r =>
    have hk : k < r.length := by simpa using h
    rw [List.take_succ_cons, List.take_succ_cons, List.getElem_cons_succ]
    rw [List.take_succ_eq_append_getElem hk]
    simp only [fore, List.foldl_append, List.foldl_cons, List.foldl_nil]
    rfl
theorem fore_mem (b : Nat × Nat → Nat × Nat → Bool) : ∀ {l : List (Nat × Nat)}, l ≠ [] → fore b l ∈ l
  | x :: r, _ => by
    unfold fore
    have : ∀ (r : List (Nat × Nat)) (x : Nat × Nat), r.foldl (fun f y => if b y f then y else f) x ∈ x :: r := by
      intro r
      induction r with
      | nil => intro x; simp
      | cons y r ih =>
        intro x
        rw [List.foldl_cons]
        have := ih (if b y x then y else x)
        rcases List.mem_cons.1 this with h | h
        · rw [h]; split <;> simp
        · simp [h]
    exact this r x
set_option maxRecDepth 100000 in
set_option maxHeartbeats 2000000 in
theorem foremost_c (fn : FuncId) (b : Nat × Nat → Nat × Nat → Bool) (hent : ∀ args W, (callFunc fn args).run Try.prog W = .ok (.enter fn args) W)
    (hfn : ∀ (s t : Nat × Nat) (W : World), Sm s → Sm t → Calls Try.prog fn #[.agg (fV (ip s)), .agg (fV (ip t))] W fun e w' => e = .returned (.bool (b s t)) ∧ Below W.heap.size W w')
    (g : Nat) (l : List (Nat × Nat)) (c : Nat) (w : World) (hl : l ≠ []) (hlen : l.length ≤ 100) (hp : FrB w g l) (hsm : ∀ x ∈ l, Sm x) (hlc : l.length ≤ c) (hc : c ≤ 9223372036854775807) :
    Calls Try.prog 71 #[.slice (some ⟨g, 0, none⟩) l.length c, .func (.func fn) #[] #[]] w fun e w' => e = .returned (.agg (fV (ip (fore b l)))) ∧ Below w.heap.size w w' := by
  have hl0 : 0 < l.length := List.length_pos_iff.2 hl
  obtain ⟨c0, c1⟩ := hp.get hl0
  have hgl := cell_lt c0
  replace hgl : g < w.heap.size := hgl
  have hs1 := ((Since.refl w).alloc (.cells (fV (0, 0)) 90)).alloc (.cells (fV (ip l[0])) 90)
  have HR1 := Lib.hid ((Blk.new w 90 (fV (0, 0))).alloc (.cells (fV (ip l[0])) 90))
  have HF1 : Hid (Blk ((w.alloc (.cells (fV (0, 0)) 90)).alloc (.cells (fV (ip l[0])) 90)) (w.heap.size + 1) 90 (fV (ip (fore b (l.take 1))))) := by
    have e : fore b (l.take 1) = l[0] := by
      cases l with
      | nil => simp at hl0
      | cons x r => rfl
    show Blk _ _ _ _
    rw [e]
    exact Blk.new1 w _ _ _
  have t1 : ¬ (l.length : Int) < 1 := by omega
  have t2 : (0 : Int) < (l.length : Int) := by omega
  have t3 : (1 : Int) ≤ (l.length : Int) := by omega
  have t4 : 1 ≤ l.length := by omega
  obtain ⟨L, hL⟩ : ∃ L, l.length = L := ⟨_, rfl⟩
  have HL := Lib.hid hL
  rw [hL] at t1 t2 t3 t4 hlc hlen hl0 ⊢
  clear hL
  have HP := Lib.hid hp
  have HSM := Lib.hid hsm
  have HE := Lib.hid hent
  have HFN := Lib.hid hfn
  have hcc : c = 1 ∨ 1 < c := by omega
  clear hp hsm hent hfn hl
  rcases hcc with hcc | hcc
  · subst hcc
    go_enter Try.func71, Try.ntmps71
    go_wp2_with fail
    have HK : Hid (∀ j, j + 1 < L → 1 < 1) := fun j hj => by omega
    clear c0 c1
    obtain ⟨w2, hw2⟩ : ∃ w2, ((w.alloc (.cells (fV (0, 0)) 90)).alloc (.cells (fV (ip l[0]) ) 90)) = w2 := ⟨_, rfl⟩
    rw [hw2] at hs1 HR1 HF1 ⊢
    have HS1 := Lib.hid hs1
    clear hw2 hs1
    go_loopw [14] (fun i wr => ∃ k : Nat, k + 1 ≤ L ∧ i = .int .i64 k ∧ Hid (Blk wr (w.heap.size + 1) 90 (fV (ip (fore b (l.take (k + 1)))))) ∧ Hid (Blk wr w.heap.size 90 (fV (0, 0))) ∧ Hid (Since w wr)) (fun i _ => L - (intOf i).toNat)
    case atStart => exact ⟨0, by omega, rfl, HF1, HR1, HS1⟩
    case round =>
      obtain ⟨k, hk, rfl, HF, HR, HS⟩ := hrel
      by_cases hlt : k + 1 < L
      · omega
      · have e : l.take (k + 1) = l := List.take_of_length_le (by have := HL.out; omega)
        rw [e] at HF
        have q2 : ¬ (k : Int) < ((L - 1 : Nat) : Int) := by omega
        have q3 : ¬ k < L - 1 := by omega
        have HS2 := Lib.hid (HS.out.row (g := w.heap.size) (Nat.le_refl _) (fV (ip (fore b l))))
        obtain ⟨f0, f1⟩ := HF.out.fcells
        go_wp2_with (refine wpList_store_row rfl 90 _ _ rfl (w.heap.size) _ rfl rfl 90 _ HR.out (by kernel_rfl) rfl (by simp [Value.oneCell']) ?_)
        (refine bodyPost_ret (v := .agg _) ?_ rfl ⟨rfl, ?_⟩; exact (results_cell_row Try.results71 _ _ (w.heap.size) 90 _ (0, 0) _ rfl (HR.out.row _) Try.underlying90 rfl (by kernel_rfl)))
        exact HS2.out.1
  · skip
    go_enter Try.func71, Try.ntmps71
    go_wp2_with fail
    have HK : Hid (∀ j, j + 1 < L → 1 < c) := fun j hj => by omega
    clear c0 c1
    obtain ⟨w2, hw2⟩ : ∃ w2, ((w.alloc (.cells (fV (0, 0)) 90)).alloc (.cells (fV (ip l[0]) ) 90)) = w2 := ⟨_, rfl⟩
    rw [hw2] at hs1 HR1 HF1 ⊢
    have HS1 := Lib.hid hs1
    clear hw2 hs1
    go_loopw [14] (fun i wr => ∃ k : Nat, k + 1 ≤ L ∧ i = .int .i64 k ∧ Hid (Blk wr (w.heap.size + 1) 90 (fV (ip (fore b (l.take (k + 1)))))) ∧ Hid (Blk wr w.heap.size 90 (fV (0, 0))) ∧ Hid (Since w wr)) (fun i _ => L - (intOf i).toNat)
    case atStart => exact ⟨0, by omega, rfl, HF1, HR1, HS1⟩
    case round =>
      obtain ⟨k, hk, rfl, HF, HR, HS⟩ := hrel
      by_cases hlt : k + 1 < L
      · have hkl : k + 1 < l.length := by have := HL.out; omega
        obtain ⟨d0, d1⟩ := (HP.out.keep HS.out.1).get hkl
        rw [show (k + 1) * 2 = 2 + k * 2 from by omega] at d0 d1
        have q2 : (k : Int) < ((L - 1 : Nat) : Int) := by omega
        have q3 : k < L - 1 := by omega
        have hx : Sm l[k + 1] := HSM.out _ (List.getElem_mem hkl)
        have hy : Sm (fore b (l.take (k + 1))) := HSM.out _ (List.mem_of_mem_take (fore_mem b (l := l.take (k + 1)) (List.ne_nil_of_length_pos (by rw [List.length_take]; omega))))
        have HT : Hid (fore b (l.take (k + 1 + 1)) = if b l[k + 1] (fore b (l.take (k + 1))) then l[k + 1] else fore b (l.take (k + 1))) := fore_take b hkl
        obtain ⟨y, hyy⟩ : ∃ y, fore b (l.take (k + 1)) = y := ⟨_, rfl⟩
        obtain ⟨x, hxx⟩ : ∃ x, l[k + 1] = x := ⟨_, rfl⟩
        rw [hyy] at HF HT hy
        rw [hxx] at HT hx d0 d1
        clear hyy hxx
        have HF2 := Lib.hid (HF.out.alloc (.cells (fV (ip x)) 90))
        have HR2 := Lib.hid (HR.out.alloc (.cells (fV (ip x)) 90))
        have HS2 := Lib.hid (HS.out.alloc (.cells (fV (ip x)) 90))
        have HX2 := Lib.hid (Blk.new wr 90 (fV (ip x)))
        obtain ⟨f0, f1⟩ := HF2.out.fcells
        have e1 := HE.out
        have hgr : g < wr.heap.size := Nat.lt_of_lt_of_le hgl HS.out.2
        go_wp2_with fail
        refine (HFN.out x y _ hx hy).mono ?_
        rintro e w3 ⟨rfl, hb⟩
        have HF3 := Lib.hid (HF2.out.keep hb)
        have HR3 := Lib.hid (HR2.out.keep hb)
        have HS3 := Lib.hid (HS2.out.keep hb)
        have HX3 := Lib.hid (HX2.out.keep hb)
        obtain ⟨gx, hgx⟩ : ∃ gx, wr.heap.size = gx := ⟨_, rfl⟩
        rw [hgx] at HX3 ⊢
        clear f0 f1 d0 d1 HF2 HR2 HS2 HX2 hb HF HR HS e1 hgr hgx
        by_cases hb : b x y = true
        · rw [if_pos hb] at HT
          rw [hb]
          clear hb
          have HF4 := Lib.hid (HF3.out.row (fV (ip x)))
          have HR4 := Lib.hid (HR3.out.rowFar (g' := w.heap.size + 1) (by omega) (fV (ip x)))
          have HS4 := Lib.hid (HS3.out.row (g := w.heap.size + 1) (by omega) (fV (ip x)))
          replace HF4 : Hid (Blk (w3.setRow (w.heap.size + 1) (fV (ip x))) (w.heap.size + 1) 90 (fV (ip (fore b (l.take (k + 1 + 1)))))) := by show Blk _ _ _ _; rw [HT.out]; exact HF4.out
          obtain ⟨x0, x1⟩ := HX3.out.fcells
          go_wp2_with (refine wpList_store_row rfl 90 _ _ rfl (w.heap.size + 1) _ rfl rfl 90 _ HF3.out (by kernel_rfl) rfl (by simp [Value.oneCell']) ?_)
          go_roundw
          case rel => exact ⟨k + 1, by omega, by go_num, HF4, HR4, HS4⟩
          case measure => simp [intOf]; omega
        · rw [if_neg hb] at HT
          rw [Bool.eq_false_iff.2 hb]
          clear hb
          rw [← HT.out] at HF3
          go_wp2_with fail
          go_roundw
          case rel => exact ⟨k + 1, by omega, by go_num, HF3, HR3, HS3⟩
          case measure => simp [intOf]; omega
      · have e : l.take (k + 1) = l := List.take_of_length_le (by have := HL.out; omega)
        rw [e] at HF
        have q2 : ¬ (k : Int) < ((L - 1 : Nat) : Int) := by omega
        have q3 : ¬ k < L - 1 := by omega
        have HS2 := Lib.hid (HS.out.row (g := w.heap.size) (Nat.le_refl _) (fV (ip (fore b l))))
        obtain ⟨f0, f1⟩ := HF.out.fcells
        go_wp2_with (refine wpList_store_row rfl 90 _ _ rfl (w.heap.size) _ rfl rfl 90 _ HR.out (by kernel_rfl) rfl (by simp [Value.oneCell']) ?_)
        (refine bodyPost_ret (v := .agg _) ?_ rfl ⟨rfl, ?_⟩; exact (results_cell_row Try.results71 _ _ (w.heap.size) 90 _ (0, 0) _ rfl (HR.out.row _) Try.underlying90 rfl (by kernel_rfl)))
        exact HS2.out.1
end Td
end Go.Proofs.Ytgkdidnmndmlhaa
