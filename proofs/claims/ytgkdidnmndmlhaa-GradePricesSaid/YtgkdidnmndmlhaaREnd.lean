import Derived.Test.YtgkdidnmndmlhaaRPas
import Derived.Test.YtgkdidnmndmlhaaSty
/- The reference: the least and the greatest of shares. -/
namespace Go.Proofs.Ytgkdidnmndmlhaa
open Go.RowKit
namespace Td
set_option linter.unusedSimpArgs false
set_option linter.unusedVariables false
attribute [local go_sem] Oper.semAt_some
theorem fore_step (b : Nat × Nat → Nat × Nat → Bool) {l : List (Nat × Nat)} {k : Nat} {x : Nat × Nat} (h0 : 1 ≤ k) (h : l[k]? = some x) : fore b (l.take (k + 1)) = if b x (fore b (l.take k)) then x else fore b (l.take k) := by
  obtain ⟨j, rfl⟩ : ∃ j, k = j + 1 := ⟨k - 1, by omega⟩
  obtain ⟨h1, h2⟩ := List.getElem?_eq_some_iff.1 h
  rw [fore_take b h1, h2]
/-- the results: two boxes that two others are put into. -/
structure E9 (w : World) (g4 g5 : Nat) (uL uM : Int × Int) (s t : Option Value) (X : World) : Prop where
  sn : Since w X
  a : Blk X g4 41 (fV uL)
  b : Blk X g5 41 (fV uM)
  c : (s = none ∧ Blk X w.heap.size 41 (fV (0, 0))) ∨ (s ≠ none ∧ Blk X w.heap.size 41 (fV uL))
  d : (t = none ∧ Blk X (w.heap.size + 1) 41 (fV (0, 0))) ∨ (t ≠ none ∧ Blk X (w.heap.size + 1) 41 (fV uM))
theorem E9.put1 {w : World} {g4 g5 : Nat} {uL uM : Int × Int} {t : Option Value} {X : World} (h : E9 w g4 g5 uL uM none t X) (h4 : w.heap.size + 1 < g4) (h5 : w.heap.size + 1 < g5) (v : Value) : E9 w g4 g5 uL uM (some v) t (X.setRow w.heap.size (fV uL)) := by
  rcases h.c with ⟨-, k⟩ | ⟨q, -⟩
  · exact ⟨h.sn.row (Nat.le_refl _) _, h.a.rowFar (by omega) _, h.b.rowFar (by omega) _, .inr ⟨by simp, k.row _⟩, by
      rcases h.d with ⟨q, k⟩ | ⟨q, k⟩
      · exact .inl ⟨q, k.rowFar (by omega) _⟩
      · exact .inr ⟨q, k.rowFar (by omega) _⟩⟩
  · exact absurd rfl q
theorem E9.put2 {w : World} {g4 g5 : Nat} {uL uM : Int × Int} {s : Option Value} {X : World} (h : E9 w g4 g5 uL uM s none X) (h4 : w.heap.size + 1 < g4) (h5 : w.heap.size + 1 < g5) (v : Value) : E9 w g4 g5 uL uM s (some v) (X.setRow (w.heap.size + 1) (fV uM)) := by
  rcases h.d with ⟨-, k⟩ | ⟨q, -⟩
  · exact ⟨h.sn.row (by omega) _, h.a.rowFar (by omega) _, h.b.rowFar (by omega) _, by
      rcases h.c with ⟨q, k⟩ | ⟨q, k⟩
      · exact .inl ⟨q, k.rowFar (by omega) _⟩
      · exact .inr ⟨q, k.rowFar (by omega) _⟩, .inr ⟨by simp, k.row _⟩⟩
  · exact absurd rfl q
set_option maxRecDepth 100000 in
set_option maxHeartbeats 8000000 in
theorem rEnds_c (g : Nat) (l : List (Nat × Nat)) (c : Nat) (w : World) (hl : l ≠ []) (hlen : l.length ≤ 100) (hp : FrB w g l) (hsm : ∀ x ∈ l, Sm x) (hlc : l.length ≤ c) (hc : c ≤ 9223372036854775807) :
    Calls Try.prog 68 #[.slice (some ⟨g, 0, none⟩) l.length c] w fun e w' => e = .returned (.tuple #[.agg (fV (ip (leastS l))), .agg (fV (ip (mostS l)))]) ∧ Below w.heap.size w w' := by
  have hs := ((Since.refl w).alloc (.cells (fV (0, 0)) 41)).alloc (.cells (fV (0, 0)) 41)
  have H2 := Lib.hid ((Blk.new w 41 (fV (0, 0))).alloc (.cells (fV (0, 0)) 41))
  have H3 := Lib.hid (Blk.new1 w (.cells (fV (0, 0)) 41) 41 (fV (0, 0)))
  obtain ⟨W2, hW2⟩ : ∃ W2, (w.alloc (.cells (fV (0, 0)) 41)).alloc (.cells (fV (0, 0)) 41) = W2 := ⟨_, rfl⟩
  have hsz : W2.heap.size = w.heap.size + 1 + 1 := by rw [← hW2]; simp
  rw [hW2] at hs H2 H3
  have hl0 : 0 < l.length := List.length_pos_iff.2 hl
  obtain ⟨x0, hx0⟩ : ∃ x, l[0] = x := ⟨_, rfl⟩
  have e0 : l[0]? = some x0 := by rw [List.getElem?_eq_getElem hl0, hx0]
  have HT4 : Hid (fore lt' (l.take 1) = x0) := by
    cases l with
    | nil => exact absurd rfl hl
    | cons y r => exact hx0
  have HT5 : Hid (fore (fun s t => lt' t s) (l.take 1) = x0) := by
    cases l with
    | nil => exact absurd rfl hl
    | cons y r => exact hx0
  have HEX : Hid (∀ k, k < l.length → ∃ x, l[k]? = some x) := fun k hk => ⟨_, List.getElem?_eq_getElem hk⟩
  have hsmF : ∀ b k, 1 ≤ k → k ≤ l.length → Sm (fore b (l.take k)) := fun b k h1 h2 => hsm _ (List.mem_of_mem_take (fore_mem b (l := l.take k) (by intro e; have := congrArg List.length e; rw [List.length_take, List.length_nil] at this; omega)))
  have HSMF := Lib.hid hsmF
  have HSM := Lib.hid hsm
  have HFL : Hid (l.take l.length = l) := List.take_length
  obtain ⟨L, hL⟩ : ∃ L, l.length = L := ⟨_, rfl⟩
  rw [hL] at hlen hlc hl0 HEX HSMF HFL ⊢
  obtain ⟨u0, hu0⟩ : ∃ u, ip x0 = u := ⟨_, rfl⟩
  have HP := Lib.hid hp
  have l0 : (0 : Int) < (L : Int) := by omega
  have e0u : ∀ W, FrB W g l → W.cell? ⟨g, 0, none⟩ = some (.int .i64 u0.1) ∧ W.cell? ⟨g, 1, none⟩ = some (.int .i64 u0.2) := fun W h => by
    obtain ⟨a, b⟩ := h 0 _ e0
    rw [← hu0]
    exact ⟨a, b⟩
  obtain ⟨uL, hL_⟩ : ∃ u, ip (leastS l) = u := ⟨_, rfl⟩
  obtain ⟨uM, hM_⟩ : ∃ u, ip (mostS l) = u := ⟨_, rfl⟩
  rw [hL_, hM_]
  have HLU : Hid (ip (leastS l) = uL) := hL_
  have HMU : Hid (ip (mostS l) = uM) := hM_
  clear hx0 hL hsmF hsm hl hL_ hM_
  go_enter Try.func68, Try.ntmps68
  go_wp2_with fail
  first | rw [hW2] | skip
  clear hW2
  obtain ⟨z, hz⟩ : ∃ z, W2.heap.size = z := ⟨_, rfl⟩
  obtain ⟨I, hI⟩ : ∃ I : Unit → World → Prop, I = fun _ X => Blk X w.heap.size 41 (fV (0, 0)) ∧ Blk X (w.heap.size + 1) 41 (fV (0, 0)) := ⟨_, rfl⟩
  have hA : AllFrom z I := by
    rw [hI]
    exact (AllFrom.blk (by omega) _ _).and (AllFrom.blk (by omega) _ _)
  have hw : w.heap.size ≤ z := by omega
  have hI0 : I () W2 := by rw [hI]; exact ⟨H2.out, H3.out⟩
  have hIo : ∀ X, I () X → Blk X w.heap.size 41 (fV (0, 0)) ∧ Blk X (w.heap.size + 1) 41 (fV (0, 0)) := fun X h => by rw [hI] at h; exact h
  have hzz : z ≤ W2.heap.size := Nat.le_of_eq hz.symm
  have hz2 : w.heap.size + 1 < z := by omega
  clear hI H2 H3 hz hsz
  try dsimp only [Act.put]
  refine Vals9.region (fun σ X => J6 w z I u0 (σ 6) (σ 7) (σ 8) (σ 9) X) [some 7, some 8, some 9, some 10, some 11, some 12, some 4, some 5, none, none] [.is (.slice (some ⟨g, 0, none⟩) L c), .is ?_, .is (.agg (fV u0)), .is (.slice (some ⟨g, 0, none⟩) L c), .is ?_, .is (.agg (fV u0)), .any, .any, .any, .any] (by kernel_rfl) (by kernel_rfl) (by kernel_rfl) (by kernel_rfl) (by kernel_rfl) (by kernel_rfl) (⟨B1.start hzz hs.drew (hA.keep hI0 (Below.refl _ _).drew), B1.start hzz hs.drew (hA.keep hI0 (Below.refl _ _).drew), fun v v1 hv => by cases hv⟩) ?hsteps ?hfin
  case hsteps =>
    refine Vals9.Steps.run rfl ?_ ?_
    · intro a W σ hJ pre K hK
      have e0 := pre.2.2 0 _ (by kernel_rfl) rfl
      clear pre
      simp only [Array.getD_eq_getD_getElem?, List.getElem?_toArray, List.getElem?_cons_zero, List.getElem?_cons_succ, Option.getD_some] at e0
      go_simp
      exact hK _ hJ
    refine Vals9.Steps.run rfl ?_ ?_
    · intro a W σ hJ pre K hK
      have e7 := pre.1 0 7 _ (by kernel_rfl) rfl rfl
      clear pre
      simp only [Array.getD_eq_getD_getElem?, List.getElem?_toArray, List.getElem?_cons_zero, List.getElem?_cons_succ, Option.getD_some] at e7
      go_simp
      exact hK _ hJ
    refine Vals9.Steps.run rfl ?_ ?_
    · intro a W σ hJ pre K hK
      have e8 := pre.1 1 8 _ (by kernel_rfl) rfl rfl
      clear pre
      simp only [Array.getD_eq_getD_getElem?, List.getElem?_toArray, List.getElem?_cons_zero, List.getElem?_cons_succ, Option.getD_some] at e8
      have hS9 := hJ
      have hW9 : J6 w z I u0 (σ 6) (σ 7) (σ 8) (σ 9) W := hS9
      obtain ⟨f0, f1⟩ := e0u _ (HP.out.keep hW9.a.sn.1)
      go_simp
      exact hK _ hJ
    refine Vals9.Steps.run rfl ?_ ?_
    · intro a W σ hJ pre K hK
      have e0 := pre.2.2 0 _ (by kernel_rfl) rfl
      clear pre
      simp only [Array.getD_eq_getD_getElem?, List.getElem?_toArray, List.getElem?_cons_zero, List.getElem?_cons_succ, Option.getD_some] at e0
      go_simp
      exact hK _ hJ
    refine Vals9.Steps.run rfl ?_ ?_
    · intro a W σ hJ pre K hK
      have e10 := pre.1 3 10 _ (by kernel_rfl) rfl rfl
      clear pre
      simp only [Array.getD_eq_getD_getElem?, List.getElem?_toArray, List.getElem?_cons_zero, List.getElem?_cons_succ, Option.getD_some] at e10
      go_simp
      exact hK _ hJ
    refine Vals9.Steps.run rfl ?_ ?_
    · intro a W σ hJ pre K hK
      have e11 := pre.1 4 11 _ (by kernel_rfl) rfl rfl
      clear pre
      simp only [Array.getD_eq_getD_getElem?, List.getElem?_toArray, List.getElem?_cons_zero, List.getElem?_cons_succ, Option.getD_some] at e11
      have hS9 := hJ
      have hW9 : J6 w z I u0 (σ 6) (σ 7) (σ 8) (σ 9) W := hS9
      obtain ⟨f0, f1⟩ := e0u _ (HP.out.keep hW9.a.sn.1)
      go_simp
      exact hK _ hJ
    refine Vals9.Steps.mark rfl ?_ ?_
    · intro a W σ hJ hn pre K hK
      have hJ2 : J6 w z I u0 (σ 6) (σ 7) (σ 8) (σ 9) W := hJ
      rw [hn] at hJ2
      have hb9 : Below W.heap.size W (W.alloc (.cells (fV (0, 0)) 41)) := (Below.refl _ _).alloc (Nat.le_refl _) _
      have hfr := hJ2.b.fresh
      go_simp
      exact hK _ _ ⟨hJ2.a.mk1 hA, hJ2.b.keep hA hb9, fun v v1 h1 h2 e => hfr v1 h2 (by rw [← e]; exact (Option.some.inj h1).symm)⟩
    refine Vals9.Steps.mark rfl ?_ ?_
    · intro a W σ hJ hn pre K hK
      have hJ2 : J6 w z I u0 (σ 6) (σ 7) (σ 8) (σ 9) W := hJ
      rw [hn] at hJ2
      have hb9 : Below W.heap.size W (W.alloc (.cells (fV (0, 0)) 41)) := (Below.refl _ _).alloc (Nat.le_refl _) _
      have hfr := hJ2.a.fresh
      go_simp
      exact hK _ _ ⟨hJ2.a.keep hA hb9, hJ2.b.mk1 hA, fun v v1 h1 h2 e => hfr v h1 (by rw [e]; exact (Option.some.inj h2).symm)⟩
    refine Vals9.Steps.mark rfl ?_ ?_
    · intro a W σ hJ hn pre K hK
      obtain ⟨v4, s4, e4⟩ := pre.2.1 6 (by kernel_rfl) rfl
      replace e4 : a.tmps.getD 4 undef = v4 := e4 4 rfl
      have e9 := pre.1 2 9 _ (by kernel_rfl) rfl rfl
      simp only [Array.getD_eq_getD_getElem?, List.getElem?_toArray, List.getElem?_cons_zero, List.getElem?_cons_succ, Option.getD_some] at e4 e9
      have hJ2 : J6 w z I u0 (σ 6) (σ 7) (σ 8) (σ 9) W := hJ
      rw [hn, s4] at hJ2
      obtain ⟨g7, hv7, hg7, ⟨-, hB⟩ | ⟨q, -⟩⟩ := hJ2.a.nw _ rfl
      · subst hv7
        refine wp_store_row 41 _ _ rfl g7 (fV u0) (by simpa [Act.eval] using e4) (by simpa [Act.eval] using e9) 41 _ hB (by kernel_rfl) rfl (by simp [Value.oneCell']) ?_
        have h2 := hJ2.a.put hw hA hg7 hB undef
        have h3 := hJ2.b.far hw hA hg7 (fun v hv e => hJ2.ne _ v rfl hv e.symm) (fV u0)
        have h4 := hJ2.ne
        rw [← s4] at h2 h4
        exact hK undef _ ⟨h2, h3, h4⟩
      · exact absurd rfl q
    refine Vals9.Steps.mark rfl ?_ ?_
    · intro a W σ hJ hn pre K hK
      obtain ⟨v5, s5, e5⟩ := pre.2.1 7 (by kernel_rfl) rfl
      replace e5 : a.tmps.getD 5 undef = v5 := e5 5 rfl
      have e12 := pre.1 5 12 _ (by kernel_rfl) rfl rfl
      simp only [Array.getD_eq_getD_getElem?, List.getElem?_toArray, List.getElem?_cons_zero, List.getElem?_cons_succ, Option.getD_some] at e5 e12
      have hJ2 : J6 w z I u0 (σ 6) (σ 7) (σ 8) (σ 9) W := hJ
      rw [hn, s5] at hJ2
      obtain ⟨g7, hv7, hg7, ⟨-, hB⟩ | ⟨q, -⟩⟩ := hJ2.b.nw _ rfl
      · subst hv7
        refine wp_store_row 41 _ _ rfl g7 (fV u0) (by simpa [Act.eval] using e5) (by simpa [Act.eval] using e12) 41 _ hB (by kernel_rfl) rfl (by simp [Value.oneCell']) ?_
        have h2 := hJ2.b.put hw hA hg7 hB undef
        have h3 := hJ2.a.far hw hA hg7 (fun v hv e => hJ2.ne v _ hv rfl e) (fV u0)
        have h4 := hJ2.ne
        rw [← s5] at h2 h4
        exact hK undef _ ⟨h3, h2, h4⟩
      · exact absurd rfl q
    exact Vals9.Steps.nil
  case hfin =>
  rintro X σ hJ
  simp only [Vals9.All]
  intro va hva vb hvb vc hvc vd hvd
  have hJ2 : J6 w z I u0 (σ 6) (σ 7) (σ 8) (σ 9) X := hJ
  rw [hvc, hvd] at hJ2
  have hne := hJ2.ne va vb hva hvb
  obtain ⟨g4, rfl, hg4, ⟨q, -⟩ | ⟨-, hBa⟩⟩ := hJ2.a.nw _ hva
  · cases q
  obtain ⟨g5, rfl, hg5, ⟨q, -⟩ | ⟨-, hBb⟩⟩ := hJ2.b.nw _ hvb
  · cases q
  have hne' : g4 ≠ g5 := fun e => hne (by rw [e])
  have h24 : w.heap.size + 1 < g4 := by omega
  have h25 : w.heap.size + 1 < g5 := by omega
  have HSX := Lib.hid hJ2.a.sn
  obtain ⟨k2, k3⟩ := hIo X hJ2.a.inv
  have H2X := Lib.hid k2
  have H3X := Lib.hid k3
  have H4X : Hid (Blk X g4 41 (fV (ip (fore lt' (l.take 1))))) := by show Blk _ _ _ _; rw [HT4.out, hu0]; exact hBa
  have H5X : Hid (Blk X g5 41 (fV (ip (fore (fun s t => lt' t s) (l.take 1))))) := by show Blk _ _ _ _; rw [HT5.out, hu0]; exact hBb
  clear hJ hJ2 hva hvb hvc hvd hBa hBb hne k2 k3 hI0 hA hIo hzz hw I hs hg4 hg5 hz2 e0u hu0 HT4 HT5 e0 z
  simp only [Vals.putAll, List.setIfInBounds_toArray, List.set_cons_zero, List.set_cons_succ]
  go_wp2_with fail
  go_loopw [6] (fun i wr => ∃ k : Nat, 1 ≤ k ∧ k ≤ L ∧ i = .int .i64 k ∧ Hid (Blk wr g4 41 (fV (ip (fore lt' (l.take k))))) ∧ Hid (Blk wr g5 41 (fV (ip (fore (fun s t => lt' t s) (l.take k))))) ∧ Hid (Blk wr w.heap.size 41 (fV (0, 0))) ∧ Hid (Blk wr (w.heap.size + 1) 41 (fV (0, 0))) ∧ Hid (Since w wr)) (fun i _ => L - (intOf i).toNat)
  case atStart => exact ⟨1, by omega, by omega, rfl, H4X, H5X, H2X, H3X, HSX⟩
  case round =>
    clear H4X H5X H2X H3X HSX
    obtain ⟨k, hk1, hk, rfl, H4, H5, H2, H3, HS⟩ := hrel
    by_cases hlt : k < L
    · have q1 : (k : Int) < (L : Int) := by omega
      have u1 : IntKind.i64.wrap ((k : Int) + 1) = ((k + 1 : Nat) : Int) := by rw [wrapI (by unfold I64; omega)]; omega
      obtain ⟨x, ex⟩ := HEX.out k hlt
      have sX : Sm x := HSM.out x (List.mem_of_getElem? ex)
      have n4 := fore_step lt' hk1 ex
      have n5 := fore_step (fun s t => lt' t s) hk1 ex
      have sA := HSMF.out lt' k hk1 hk
      have sB := HSMF.out (fun s t => lt' t s) k hk1 hk
      obtain ⟨a, ha⟩ : ∃ a, fore lt' (l.take k) = a := ⟨_, rfl⟩
      obtain ⟨b, hb⟩ : ∃ b, fore (fun s t => lt' t s) (l.take k) = b := ⟨_, rfl⟩
      rw [ha] at n4 sA H4
      rw [hb] at n5 sB H5
      have HLE : Hid (∀ W, Calls Try.prog 44 #[.agg (fV (ip x)), .agg (fV (ip a))] W fun e w' => e = .returned (.bool (lt' x a)) ∧ Below W.heap.size W w') := fun W => rLess_c x a W sX sA
      have HGR : Hid (∀ W, Calls Try.prog 44 #[.agg (fV (ip b)), .agg (fV (ip x))] W fun e w' => e = .returned (.bool (lt' b x)) ∧ Below W.heap.size W w') := fun W => rLess_c b x W sB sX
      obtain ⟨v1, hv1⟩ : ∃ v, lt' x a = v := ⟨_, rfl⟩
      obtain ⟨v2, hv2⟩ : ∃ v, lt' b x = v := ⟨_, rfl⟩
      rw [hv1] at HLE n4
      rw [hv2] at HGR n5
      have HM0 : Hid (v2 = false → fore (fun s t => lt' t s) (l.take (k + 1)) = b) := fun h => by rw [n5, h]; rfl
      have HM1 : Hid (v2 = true → fore (fun s t => lt' t s) (l.take (k + 1)) = x) := fun h => by rw [n5, h]; rfl
      have HN0 : Hid (v1 = false → fore lt' (l.take (k + 1)) = a) := fun h => by rw [n4, h]; rfl
      have HN1 : Hid (v1 = true → fore lt' (l.take (k + 1)) = x) := fun h => by rw [n4, h]; rfl
      obtain ⟨f0, f1⟩ := (HP.out.keep HS.out.1) k _ ex
      obtain ⟨m0, m1⟩ := H4.out.fcells
      clear n4 n5 sX sA sB ha hb hv1 hv2
      go_wp2_with fail
      refine Vals6.regionAll (fun X => Below wr.drew.heap.size wr.drew X) [some 19, some 20, some 21, some 22, some 23] [.is (.slice (some ⟨g, 0, none⟩) L c), .is (.int .i64 (k : Nat)), .is ?_, .is (.agg (fV (ip x))), .is (.agg (fV (ip a)))] (by kernel_rfl) rfl rfl (by kernel_rfl) (by kernel_rfl) (by kernel_rfl) (by kernel_rfl) (by kernel_rfl) (by kernel_rfl) rfl (Below.refl _ _) ?hsteps ?hend
      case hsteps =>
        refine Vals5.Steps.run rfl (Vals5.Stable.is _) ?_ ?_
        · intro a W hS pre old K hK
          have e0 := old 0 _ (by kernel_rfl) rfl
          clear pre old
          simp only [Vals5.fits, Array.getD_eq_getD_getElem?, List.getElem?_toArray, List.getElem?_cons_zero, List.getElem?_cons_succ, Option.getD_some] at e0
          go_simp
          refine hK _ _ hS (Below.refl _ _) ?_
          exact fits_is _ _
        refine Vals5.Steps.run rfl (Vals5.Stable.is _) ?_ ?_
        · intro a W hS pre old K hK
          have e6 := old 6 _ (by kernel_rfl) rfl
          clear pre old
          simp only [Vals5.fits, Array.getD_eq_getD_getElem?, List.getElem?_toArray, List.getElem?_cons_zero, List.getElem?_cons_succ, Option.getD_some] at e6
          go_simp
          refine hK _ _ hS (Below.refl _ _) ?_
          exact fits_is _ _
        refine Vals5.Steps.run rfl (Vals5.Stable.is _) ?_ ?_
        · intro a W hS pre old K hK
          have e19 := pre 0 19 _ (by kernel_rfl) rfl rfl
          have e20 := pre 1 20 _ (by kernel_rfl) rfl rfl
          clear pre old
          simp only [Vals5.fits, Array.getD_eq_getD_getElem?, List.getElem?_toArray, List.getElem?_cons_zero, List.getElem?_cons_succ, Option.getD_some] at e19 e20
          go_simp
          refine hK _ _ hS (Below.refl _ _) ?_
          exact fits_is _ _
        refine Vals5.Steps.run rfl (Vals5.Stable.is _) ?_ ?_
        · intro a W hS pre old K hK
          have e21 := pre 2 21 _ (by kernel_rfl) rfl rfl
          clear pre old
          simp only [Vals5.fits, Array.getD_eq_getD_getElem?, List.getElem?_toArray, List.getElem?_cons_zero, List.getElem?_cons_succ, Option.getD_some] at e21
          have hS9 := hS
          have bw9 : Below wr.heap.size wr W := (Below.drew (Below.refl _ _)).trans (hS9.mono (by first | exact Nat.le_refl _ | (simp; done)))
          have e0_ := keep_cell bw9 f0
          have e1_ := keep_cell bw9 f1
          have e2_ := keep_cell bw9 m0
          have e3_ := keep_cell bw9 m1
          go_simp
          refine hK _ _ hS (Below.refl _ _) ?_
          exact fits_is _ _
        refine Vals5.Steps.run rfl (Vals5.Stable.is _) ?_ ?_
        · intro a W hS pre old K hK
          have e4 := old 4 _ (by kernel_rfl) rfl
          clear pre old
          simp only [Vals5.fits, Array.getD_eq_getD_getElem?, List.getElem?_toArray, List.getElem?_cons_zero, List.getElem?_cons_succ, Option.getD_some] at e4
          have hS9 := hS
          have bw9 : Below wr.heap.size wr W := (Below.drew (Below.refl _ _)).trans (hS9.mono (by first | exact Nat.le_refl _ | (simp; done)))
          have e0_ := keep_cell bw9 f0
          have e1_ := keep_cell bw9 f1
          have e2_ := keep_cell bw9 m0
          have e3_ := keep_cell bw9 m1
          go_simp
          refine hK _ _ hS (Below.refl _ _) ?_
          exact fits_is _ _
        exact Vals5.Steps.nil
      case hend =>
      rintro X hX
      have hbX : Below wr.heap.size wr X := (Below.drew (Below.refl _ _)).trans (hX.mono (by first | exact Nat.le_refl _ | (simp; done)))
      simp only [Vals5.All, List.getLast_cons_cons, List.getLast_singleton]
      simp only [Vals.putAll, List.setIfInBounds_toArray, List.set_cons_zero, List.set_cons_succ]
      intro K hK
      go_simp
      refine (HLE.out _).mono ?_
      rintro e Y ⟨rfl, hY⟩
      have hbY := hbX.trans (hY.mono hbX.size)
      refine hK _ _ ?_
      clear hK K hbX hX hY
      have H4y := Lib.hid (H4.out.keep hbY)
      have H5y := Lib.hid (H5.out.keep hbY)
      have H2y := Lib.hid (H2.out.keep hbY)
      have H3y := Lib.hid (H3.out.keep hbY)
      have HSy := Lib.hid (HS.out.keep hbY)
      clear hbY f0 f1 m0 m1 H4 H5 H2 H3 HS
      cases v1
      · have e1 := HN0.out rfl
        have H4q := H4y
        rw [← e1] at H4q
        have H5q := H5y
        have H2q := H2y
        have H3q := H3y
        have HSq := HSy
        obtain ⟨wq, hwq⟩ : ∃ wq, wq = Y := ⟨_, rfl⟩
        subst hwq
        clear e1 H4y H5y H2y H3y HSy
        try dsimp only [Act.put]
        obtain ⟨f0, f1⟩ := (HP.out.keep HSq.out.1) k _ ex
        obtain ⟨n0, n1⟩ := H5q.out.fcells
        go_wp2_with fail
        refine Vals6.regionAll (fun X => Below wq.drew.heap.size wq.drew X) [some 29, some 30, some 31, some 32, some 33] [.is (.agg (fV (ip b))), .is (.slice (some ⟨g, 0, none⟩) L c), .is (.int .i64 (k : Nat)), .is ?_, .is (.agg (fV (ip x)))] (by kernel_rfl) rfl rfl (by kernel_rfl) (by kernel_rfl) (by kernel_rfl) (by kernel_rfl) (by kernel_rfl) (by kernel_rfl) rfl (Below.refl _ _) ?hsteps ?hend
        case hsteps =>
          refine Vals5.Steps.run rfl (Vals5.Stable.is _) ?_ ?_
          · intro a W hS pre old K hK
            have e5 := old 5 _ (by kernel_rfl) rfl
            clear pre old
            simp only [Vals5.fits, Array.getD_eq_getD_getElem?, List.getElem?_toArray, List.getElem?_cons_zero, List.getElem?_cons_succ, Option.getD_some] at e5
            have hS9 := hS
            have bw9 : Below wq.heap.size wq W := (Below.drew (Below.refl _ _)).trans (hS9.mono (by first | exact Nat.le_refl _ | (simp; done)))
            have e0_ := keep_cell bw9 f0
            have e1_ := keep_cell bw9 f1
            have e2_ := keep_cell bw9 n0
            have e3_ := keep_cell bw9 n1
            go_simp
            refine hK _ _ hS (Below.refl _ _) ?_
            exact fits_is _ _
          refine Vals5.Steps.run rfl (Vals5.Stable.is _) ?_ ?_
          · intro a W hS pre old K hK
            have e0 := old 0 _ (by kernel_rfl) rfl
            clear pre old
            simp only [Vals5.fits, Array.getD_eq_getD_getElem?, List.getElem?_toArray, List.getElem?_cons_zero, List.getElem?_cons_succ, Option.getD_some] at e0
            go_simp
            refine hK _ _ hS (Below.refl _ _) ?_
            exact fits_is _ _
          refine Vals5.Steps.run rfl (Vals5.Stable.is _) ?_ ?_
          · intro a W hS pre old K hK
            have e6 := old 6 _ (by kernel_rfl) rfl
            clear pre old
            simp only [Vals5.fits, Array.getD_eq_getD_getElem?, List.getElem?_toArray, List.getElem?_cons_zero, List.getElem?_cons_succ, Option.getD_some] at e6
            go_simp
            refine hK _ _ hS (Below.refl _ _) ?_
            exact fits_is _ _
          refine Vals5.Steps.run rfl (Vals5.Stable.is _) ?_ ?_
          · intro a W hS pre old K hK
            have e30 := pre 1 30 _ (by kernel_rfl) rfl rfl
            have e31 := pre 2 31 _ (by kernel_rfl) rfl rfl
            clear pre old
            simp only [Vals5.fits, Array.getD_eq_getD_getElem?, List.getElem?_toArray, List.getElem?_cons_zero, List.getElem?_cons_succ, Option.getD_some] at e30 e31
            go_simp
            refine hK _ _ hS (Below.refl _ _) ?_
            exact fits_is _ _
          refine Vals5.Steps.run rfl (Vals5.Stable.is _) ?_ ?_
          · intro a W hS pre old K hK
            have e32 := pre 3 32 _ (by kernel_rfl) rfl rfl
            clear pre old
            simp only [Vals5.fits, Array.getD_eq_getD_getElem?, List.getElem?_toArray, List.getElem?_cons_zero, List.getElem?_cons_succ, Option.getD_some] at e32
            have hS9 := hS
            have bw9 : Below wq.heap.size wq W := (Below.drew (Below.refl _ _)).trans (hS9.mono (by first | exact Nat.le_refl _ | (simp; done)))
            have e0_ := keep_cell bw9 f0
            have e1_ := keep_cell bw9 f1
            have e2_ := keep_cell bw9 n0
            have e3_ := keep_cell bw9 n1
            go_simp
            refine hK _ _ hS (Below.refl _ _) ?_
            exact fits_is _ _
          exact Vals5.Steps.nil
        case hend =>
        rintro X hX
        have hbX : Below wq.heap.size wq X := (Below.drew (Below.refl _ _)).trans (hX.mono (by first | exact Nat.le_refl _ | (simp; done)))
        simp only [Vals5.All, List.getLast_cons_cons, List.getLast_singleton]
        simp only [Vals.putAll, List.setIfInBounds_toArray, List.set_cons_zero, List.set_cons_succ]
        intro K hK
        go_simp
        refine (HGR.out _).mono ?_
        rintro e Y ⟨rfl, hY⟩
        have hbY := hbX.trans (hY.mono hbX.size)
        refine hK _ _ ?_
        clear hK K hbX hX hY
        have H4y := Lib.hid (H4q.out.keep hbY)
        have H5y := Lib.hid (H5q.out.keep hbY)
        have H2y := Lib.hid (H2q.out.keep hbY)
        have H3y := Lib.hid (H3q.out.keep hbY)
        have HSy := Lib.hid (HSq.out.keep hbY)
        clear hbY f0 f1 n0 n1
        obtain ⟨f0, f1⟩ := (HP.out.keep HSy.out.1) k _ ex
        cases v2
        · have e2 := HM0.out rfl
          rw [← e2] at H5y
          clear e2
          try dsimp only [Act.put]
          go_wp2_with fail
          go_roundw
          case rel => exact ⟨k + 1, by omega, by omega, by go_num, H4y, H5y, H2y, H3y, HSy⟩
          case measure => simp [intOf]; omega
        · have e2 := HM1.out rfl
          have H5z : Hid (Blk (Y.setRow g5 (fV (ip x))) g5 41 (fV (ip (fore (fun s t => lt' t s) (l.take (k + 1)))))) := by show Blk _ _ _ _; rw [e2]; exact H5y.out.row _
          have H4z := Lib.hid (H4y.out.rowFar (g' := g5) (by omega) (fV (ip x)))
          have H2z := Lib.hid (H2y.out.rowFar (g' := g5) (by omega) (fV (ip x)))
          have H3z := Lib.hid (H3y.out.rowFar (g' := g5) (by omega) (fV (ip x)))
          have HSz := Lib.hid (HSy.out.row (g := g5) (by omega) (fV (ip x)))
          clear e2
          try dsimp only [Act.put]
          go_wp2_with (refine wpList_store_row rfl 41 _ _ rfl g5 (fV (ip x)) rfl (by first | rfl | (simp; done)) 41 _ H5y.out (by kernel_rfl) rfl (by simp [Value.oneCell']) ?_)
          go_roundw
          case rel => exact ⟨k + 1, by omega, by omega, by go_num, H4z, H5z, H2z, H3z, HSz⟩
          case measure => simp [intOf]; omega
      · have e1 := HN1.out rfl
        have H4q : Hid (Blk (Y.setRow g4 (fV (ip x))) g4 41 (fV (ip (fore lt' (l.take (k + 1)))))) := by show Blk _ _ _ _; rw [e1]; exact H4y.out.row _
        have H5q := Lib.hid (H5y.out.rowFar (g' := g4) hne' (fV (ip x)))
        have H2q := Lib.hid (H2y.out.rowFar (g' := g4) (by omega) (fV (ip x)))
        have H3q := Lib.hid (H3y.out.rowFar (g' := g4) (by omega) (fV (ip x)))
        have HSq := Lib.hid (HSy.out.row (g := g4) (by omega) (fV (ip x)))
        obtain ⟨f0, f1⟩ := (HP.out.keep HSy.out.1) k _ ex
        clear e1
        try dsimp only [Act.put]
        go_wp2_with (refine wpList_store_row rfl 41 _ _ rfl g4 (fV (ip x)) rfl (by first | rfl | (simp; done)) 41 _ H4y.out (by kernel_rfl) rfl (by simp [Value.oneCell']) ?_)
        obtain ⟨wq, hwq⟩ : ∃ wq, Y.setRow g4 (fV (ip x)) = wq := ⟨_, rfl⟩
        rw [hwq] at H4q H5q H2q H3q HSq ⊢
        clear hwq f0 f1 H4y H5y H2y H3y HSy
        obtain ⟨f0, f1⟩ := (HP.out.keep HSq.out.1) k _ ex
        obtain ⟨n0, n1⟩ := H5q.out.fcells
        go_wp2_with fail
        refine Vals6.regionAll (fun X => Below wq.drew.heap.size wq.drew X) [some 29, some 30, some 31, some 32, some 33] [.is (.agg (fV (ip b))), .is (.slice (some ⟨g, 0, none⟩) L c), .is (.int .i64 (k : Nat)), .is ?_, .is (.agg (fV (ip x)))] (by kernel_rfl) rfl rfl (by kernel_rfl) (by kernel_rfl) (by kernel_rfl) (by kernel_rfl) (by kernel_rfl) (by kernel_rfl) rfl (Below.refl _ _) ?hsteps ?hend
        case hsteps =>
          refine Vals5.Steps.run rfl (Vals5.Stable.is _) ?_ ?_
          · intro a W hS pre old K hK
            have e5 := old 5 _ (by kernel_rfl) rfl
            clear pre old
            simp only [Vals5.fits, Array.getD_eq_getD_getElem?, List.getElem?_toArray, List.getElem?_cons_zero, List.getElem?_cons_succ, Option.getD_some] at e5
            have hS9 := hS
            have bw9 : Below wq.heap.size wq W := (Below.drew (Below.refl _ _)).trans (hS9.mono (by first | exact Nat.le_refl _ | (simp; done)))
            have e0_ := keep_cell bw9 f0
            have e1_ := keep_cell bw9 f1
            have e2_ := keep_cell bw9 n0
            have e3_ := keep_cell bw9 n1
            go_simp
            refine hK _ _ hS (Below.refl _ _) ?_
            exact fits_is _ _
          refine Vals5.Steps.run rfl (Vals5.Stable.is _) ?_ ?_
          · intro a W hS pre old K hK
            have e0 := old 0 _ (by kernel_rfl) rfl
            clear pre old
            simp only [Vals5.fits, Array.getD_eq_getD_getElem?, List.getElem?_toArray, List.getElem?_cons_zero, List.getElem?_cons_succ, Option.getD_some] at e0
            go_simp
            refine hK _ _ hS (Below.refl _ _) ?_
            exact fits_is _ _
          refine Vals5.Steps.run rfl (Vals5.Stable.is _) ?_ ?_
          · intro a W hS pre old K hK
            have e6 := old 6 _ (by kernel_rfl) rfl
            clear pre old
            simp only [Vals5.fits, Array.getD_eq_getD_getElem?, List.getElem?_toArray, List.getElem?_cons_zero, List.getElem?_cons_succ, Option.getD_some] at e6
            go_simp
            refine hK _ _ hS (Below.refl _ _) ?_
            exact fits_is _ _
          refine Vals5.Steps.run rfl (Vals5.Stable.is _) ?_ ?_
          · intro a W hS pre old K hK
            have e30 := pre 1 30 _ (by kernel_rfl) rfl rfl
            have e31 := pre 2 31 _ (by kernel_rfl) rfl rfl
            clear pre old
            simp only [Vals5.fits, Array.getD_eq_getD_getElem?, List.getElem?_toArray, List.getElem?_cons_zero, List.getElem?_cons_succ, Option.getD_some] at e30 e31
            go_simp
            refine hK _ _ hS (Below.refl _ _) ?_
            exact fits_is _ _
          refine Vals5.Steps.run rfl (Vals5.Stable.is _) ?_ ?_
          · intro a W hS pre old K hK
            have e32 := pre 3 32 _ (by kernel_rfl) rfl rfl
            clear pre old
            simp only [Vals5.fits, Array.getD_eq_getD_getElem?, List.getElem?_toArray, List.getElem?_cons_zero, List.getElem?_cons_succ, Option.getD_some] at e32
            have hS9 := hS
            have bw9 : Below wq.heap.size wq W := (Below.drew (Below.refl _ _)).trans (hS9.mono (by first | exact Nat.le_refl _ | (simp; done)))
            have e0_ := keep_cell bw9 f0
            have e1_ := keep_cell bw9 f1
            have e2_ := keep_cell bw9 n0
            have e3_ := keep_cell bw9 n1
            go_simp
            refine hK _ _ hS (Below.refl _ _) ?_
            exact fits_is _ _
          exact Vals5.Steps.nil
        case hend =>
        rintro X hX
        have hbX : Below wq.heap.size wq X := (Below.drew (Below.refl _ _)).trans (hX.mono (by first | exact Nat.le_refl _ | (simp; done)))
        simp only [Vals5.All, List.getLast_cons_cons, List.getLast_singleton]
        simp only [Vals.putAll, List.setIfInBounds_toArray, List.set_cons_zero, List.set_cons_succ]
        intro K hK
        go_simp
        refine (HGR.out _).mono ?_
        rintro e Y ⟨rfl, hY⟩
        have hbY := hbX.trans (hY.mono hbX.size)
        refine hK _ _ ?_
        clear hK K hbX hX hY
        have H4y := Lib.hid (H4q.out.keep hbY)
        have H5y := Lib.hid (H5q.out.keep hbY)
        have H2y := Lib.hid (H2q.out.keep hbY)
        have H3y := Lib.hid (H3q.out.keep hbY)
        have HSy := Lib.hid (HSq.out.keep hbY)
        clear hbY f0 f1 n0 n1
        obtain ⟨f0, f1⟩ := (HP.out.keep HSy.out.1) k _ ex
        cases v2
        · have e2 := HM0.out rfl
          rw [← e2] at H5y
          clear e2
          try dsimp only [Act.put]
          go_wp2_with fail
          go_roundw
          case rel => exact ⟨k + 1, by omega, by omega, by go_num, H4y, H5y, H2y, H3y, HSy⟩
          case measure => simp [intOf]; omega
        · have e2 := HM1.out rfl
          have H5z : Hid (Blk (Y.setRow g5 (fV (ip x))) g5 41 (fV (ip (fore (fun s t => lt' t s) (l.take (k + 1)))))) := by show Blk _ _ _ _; rw [e2]; exact H5y.out.row _
          have H4z := Lib.hid (H4y.out.rowFar (g' := g5) (by omega) (fV (ip x)))
          have H2z := Lib.hid (H2y.out.rowFar (g' := g5) (by omega) (fV (ip x)))
          have H3z := Lib.hid (H3y.out.rowFar (g' := g5) (by omega) (fV (ip x)))
          have HSz := Lib.hid (HSy.out.row (g := g5) (by omega) (fV (ip x)))
          clear e2
          try dsimp only [Act.put]
          go_wp2_with (refine wpList_store_row rfl 41 _ _ rfl g5 (fV (ip x)) rfl (by first | rfl | (simp; done)) 41 _ H5y.out (by kernel_rfl) rfl (by simp [Value.oneCell']) ?_)
          go_roundw
          case rel => exact ⟨k + 1, by omega, by omega, by go_num, H4z, H5z, H2z, H3z, HSz⟩
          case measure => simp [intOf]; omega
    · obtain rfl : k = L := by omega
      have q1 : ¬ (k : Int) < (k : Int) := by omega
      rw [HFL.out] at H4 H5
      have H4' : Hid (Blk wr g4 41 (fV uL)) := by show Blk _ _ _ _; rw [← HLU.out]; exact H4.out
      have H5' : Hid (Blk wr g5 41 (fV uM)) := by show Blk _ _ _ _; rw [← HMU.out]; exact H5.out
      have HJ : Hid (E9 w g4 g5 uL uM none none wr.drew) := ⟨HS.out.drew, H4'.out.drew, H5'.out.drew, .inl ⟨rfl, H2.out.drew⟩, .inl ⟨rfl, H3.out.drew⟩⟩
      clear H4 H5 H2 H3 H4' H5' HS
      go_wp2_with fail
      try dsimp only [Act.put]
      refine Vals9.region (fun σ X => E9 w g4 g5 uL uM (σ 2) (σ 3) X) [some 39, some 40, none, none] [.is (.agg (fV uL)), .is (.agg (fV uM)), .any, .any] (by kernel_rfl) (by kernel_rfl) (by kernel_rfl) (by kernel_rfl) (by kernel_rfl) (by kernel_rfl) (HJ.out) ?hsteps ?hfin
      case hsteps =>
        refine Vals9.Steps.run rfl ?_ ?_
        · intro a W σ hJ pre K hK
          have e4 := pre.2.2 4 _ (by kernel_rfl) rfl
          clear pre
          simp only [Array.getD_eq_getD_getElem?, List.getElem?_toArray, List.getElem?_cons_zero, List.getElem?_cons_succ, Option.getD_some] at e4
          have hS9 := hJ
          have hW9 : E9 w g4 g5 uL uM (σ 2) (σ 3) W := hS9
          obtain ⟨m0, m1⟩ := hW9.a.fcells
          obtain ⟨n0, n1⟩ := hW9.b.fcells
          go_simp
          exact hK _ hJ
        refine Vals9.Steps.run rfl ?_ ?_
        · intro a W σ hJ pre K hK
          have e5 := pre.2.2 5 _ (by kernel_rfl) rfl
          clear pre
          simp only [Array.getD_eq_getD_getElem?, List.getElem?_toArray, List.getElem?_cons_zero, List.getElem?_cons_succ, Option.getD_some] at e5
          have hS9 := hJ
          have hW9 : E9 w g4 g5 uL uM (σ 2) (σ 3) W := hS9
          obtain ⟨m0, m1⟩ := hW9.a.fcells
          obtain ⟨n0, n1⟩ := hW9.b.fcells
          go_simp
          exact hK _ hJ
        refine Vals9.Steps.mark rfl ?_ ?_
        · intro a W σ hJ hn pre K hK
          have e2 := pre.2.2 2 _ (by kernel_rfl) rfl
          have e39 := pre.1 0 39 _ (by kernel_rfl) rfl rfl
          simp only [Array.getD_eq_getD_getElem?, List.getElem?_toArray, List.getElem?_cons_zero, List.getElem?_cons_succ, Option.getD_some] at e2 e39
          have hJ2 : E9 w g4 g5 uL uM (σ 2) (σ 3) W := hJ
          rw [hn] at hJ2
          rcases hJ2.c with ⟨-, hB⟩ | ⟨q, -⟩
          · refine wp_store_row 41 _ _ rfl w.heap.size (fV uL) (by simpa [Act.eval] using e2) (by simpa [Act.eval] using e39) 41 _ hB (by kernel_rfl) rfl (by simp [Value.oneCell']) ?_
            exact hK undef _ (hJ2.put1 h24 h25 undef)
          · exact absurd rfl q
        refine Vals9.Steps.mark rfl ?_ ?_
        · intro a W σ hJ hn pre K hK
          have e3 := pre.2.2 3 _ (by kernel_rfl) rfl
          have e40 := pre.1 1 40 _ (by kernel_rfl) rfl rfl
          simp only [Array.getD_eq_getD_getElem?, List.getElem?_toArray, List.getElem?_cons_zero, List.getElem?_cons_succ, Option.getD_some] at e3 e40
          have hJ2 : E9 w g4 g5 uL uM (σ 2) (σ 3) W := hJ
          rw [hn] at hJ2
          rcases hJ2.d with ⟨-, hB⟩ | ⟨q, -⟩
          · refine wp_store_row 41 _ _ rfl (w.heap.size + 1) (fV uM) (by simpa [Act.eval] using e3) (by simpa [Act.eval] using e40) 41 _ hB (by kernel_rfl) rfl (by simp [Value.oneCell']) ?_
            exact hK undef _ (hJ2.put2 h24 h25 undef)
          · exact absurd rfl q
        exact Vals9.Steps.nil
      case hfin =>
      rintro X σ hJ
      simp only [Vals9.All]
      intro va hva vb hvb
      have hJ2 : E9 w g4 g5 uL uM (σ 2) (σ 3) X := hJ
      rw [hva, hvb] at hJ2
      have hx2 : Blk X w.heap.size 41 (fV uL) := by
        rcases hJ2.c with ⟨q, -⟩ | ⟨-, h⟩
        · cases q
        · exact h
      have hx3 : Blk X (w.heap.size + 1) 41 (fV uM) := by
        rcases hJ2.d with ⟨q, -⟩ | ⟨-, h⟩
        · cases q
        · exact h
      have hsX := hJ2.sn
      have H8 := Lib.hid hx2
      have H9 := Lib.hid hx3
      clear hJ hJ2 hva hvb hx2 hx3
      simp only [Vals.putAll, List.setIfInBounds_toArray, List.set_cons_zero, List.set_cons_succ]
      go_wp2_with fail
      refine bodyPost_ret (results_cells2 Try.results68 _ _ _ _ _ _ rfl rfl (load_fr H8.out) (load_fr H9.out)) rfl ⟨rfl, hsX.1⟩
end Td
end Go.Proofs.Ytgkdidnmndmlhaa
