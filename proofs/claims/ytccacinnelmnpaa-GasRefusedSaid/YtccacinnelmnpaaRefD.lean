import Derived.Test.YtccacinnelmnpaaRefC
/- The reference: the error of a space's plan. -/
namespace Go.Proofs.Ytccacinnelmnpaa
open Go.RowKit
namespace Td
set_option linter.unusedSimpArgs false
set_option linter.unusedVariables false
attribute [local go_sem] Oper.semAt_some
def NewS2 (p q : Int × Int) (v : Value) (X : World) : Prop := ∃ g : Nat, v = .slice (some ⟨g, 0, none⟩) 2 2 ∧ Blk X g 23 #[.int .i64 p.1, .int .i64 p.2, .int .i64 q.1, .int .i64 q.2]
theorem NewS2.stable (p q : Int × Int) : Vals5.Stable (.has (NewS2 p q)) := by
  rintro v w w' ⟨g, h1, h2⟩ hb
  exact ⟨g, h1, h2.keep hb⟩
set_option maxRecDepth 100000 in
set_option maxHeartbeats 4000000 in
theorem rplan_c (s : Spc) (m : Sl) (w : World) : Calls Try.prog 44 #[.agg (sV s m)] w fun e w' => e = .returned (.int .i64 (levE s)) ∧ Below w.heap.size w w' := by
  rw [← planE_eq]
  obtain ⟨E, hE⟩ : ∃ E, planE s = E := ⟨_, rfl⟩
  rw [hE]
  unfold planE at hE
  have hsn0 := (Since.refl w).alloc (.cells (sV s m) 27)
  have HS0 := Lib.hid (Blk.new w 27 (sV s m))
  go_enter Try.func44, Try.ntmps44
  go_wp2_with fail
  refine Vals6.regionAll (fun X => Blk X w.heap.size 27 (sV s m) ∧ Since w X) [some 5, some 6, some 7, some 8, some 9, some 10, some 11, some 12, some 13, some 3] [.is (.pointer (some ⟨w.heap.size, 0, none⟩)), .is (.agg #[.int .i64 s.s0, .int .i64 s.s1]), .is (.int .i64 (spr 0 200 [(s.s0, s.s1)])), .is (.pointer (some ⟨w.heap.size, 2, none⟩)), .is (.agg #[.int .i64 s.r0, .int .i64 s.r1]), .is (.pointer (some ⟨w.heap.size, 4, none⟩)), .is (.agg #[.int .i64 s.b0, .int .i64 s.b1]), .has (NewS2 (s.r0, s.r1) (s.b0, s.b1)), .is (.int .i64 (spr (-20) 20 [(s.r0, s.r1), (s.b0, s.b1)])), .is (.int .i64 (spr 0 200 [(s.s0, s.s1)]))] (by kernel_rfl) rfl rfl (by kernel_rfl) (by kernel_rfl) (by kernel_rfl) (by kernel_rfl) (by kernel_rfl) (by kernel_rfl) (by kernel_rfl) (⟨HS0.out.drew, hsn0.drew⟩) ?_ ?_
  · refine Vals5.Steps.run (by kernel_rfl) (Vals5.Stable.is _) ?_ ?_
    · intro a W hS pre old K hK
      have e1 : a.tmps.getD 1 undef = .pointer (some ⟨w.heap.size, 0, none⟩) := old 1 _ (by kernel_rfl) rfl
      clear pre old
      simp only [Array.getD_eq_getD_getElem?] at e1
      go_simp
      exact hK _ _ hS (Below.refl _ _) rfl
    refine Vals5.Steps.run (by kernel_rfl) (Vals5.Stable.is _) ?_ ?_
    · intro a W hS pre old K hK
      have e5 : a.tmps.getD 5 undef = .pointer (some ⟨w.heap.size, 0, none⟩) := pre 0 5 _ (by kernel_rfl) rfl rfl
      clear pre old
      simp only [Array.getD_eq_getD_getElem?] at e5
      have hS9 := hS
      obtain ⟨l1, _⟩ := hS9
      obtain ⟨c0, c1, c2, c3, c4, c5, c6, c7, c8⟩ := l1.space
      go_simp
      exact hK _ _ hS (Below.refl _ _) rfl
    refine Vals5.Steps.run (by kernel_rfl) (Vals5.Stable.is _) ?_ ?_
    · intro a W hS pre old K hK
      have e6 : a.tmps.getD 6 undef = .agg #[.int .i64 s.s0, .int .i64 s.s1] := pre 1 6 _ (by kernel_rfl) rfl rfl
      clear pre old
      simp only [Array.getD_eq_getD_getElem?] at e6
      go_simp
      refine (range_c (s.s0, s.s1) 0 200 _).mono ?_
      rintro e w' ⟨rfl, hb'⟩
      obtain ⟨h1, h2⟩ := hS
      exact hK _ _ ⟨h1.keep hb', h2.keep hb'⟩ hb' rfl
    refine Vals5.Steps.run (by kernel_rfl) (Vals5.Stable.is _) ?_ ?_
    · intro a W hS pre old K hK
      have e1 : a.tmps.getD 1 undef = .pointer (some ⟨w.heap.size, 0, none⟩) := old 1 _ (by kernel_rfl) rfl
      clear pre old
      simp only [Array.getD_eq_getD_getElem?] at e1
      go_simp
      exact hK _ _ hS (Below.refl _ _) rfl
    refine Vals5.Steps.run (by kernel_rfl) (Vals5.Stable.is _) ?_ ?_
    · intro a W hS pre old K hK
      have e8 : a.tmps.getD 8 undef = .pointer (some ⟨w.heap.size, 2, none⟩) := pre 3 8 _ (by kernel_rfl) rfl rfl
      clear pre old
      simp only [Array.getD_eq_getD_getElem?] at e8
      have hS9 := hS
      obtain ⟨l1, _⟩ := hS9
      obtain ⟨c0, c1, c2, c3, c4, c5, c6, c7, c8⟩ := l1.space
      go_simp
      exact hK _ _ hS (Below.refl _ _) rfl
    refine Vals5.Steps.run (by kernel_rfl) (Vals5.Stable.is _) ?_ ?_
    · intro a W hS pre old K hK
      have e1 : a.tmps.getD 1 undef = .pointer (some ⟨w.heap.size, 0, none⟩) := old 1 _ (by kernel_rfl) rfl
      clear pre old
      simp only [Array.getD_eq_getD_getElem?] at e1
      go_simp
      exact hK _ _ hS (Below.refl _ _) rfl
    refine Vals5.Steps.run (by kernel_rfl) (Vals5.Stable.is _) ?_ ?_
    · intro a W hS pre old K hK
      have e10 : a.tmps.getD 10 undef = .pointer (some ⟨w.heap.size, 4, none⟩) := pre 5 10 _ (by kernel_rfl) rfl rfl
      clear pre old
      simp only [Array.getD_eq_getD_getElem?] at e10
      have hS9 := hS
      obtain ⟨l1, _⟩ := hS9
      obtain ⟨c0, c1, c2, c3, c4, c5, c6, c7, c8⟩ := l1.space
      go_simp
      exact hK _ _ hS (Below.refl _ _) rfl
    refine Vals5.Steps.run (by kernel_rfl) (NewS2.stable _ _) ?_ ?_
    · intro a W hS pre old K hK
      have e9 : a.tmps.getD 9 undef = .agg #[.int .i64 s.r0, .int .i64 s.r1] := pre 4 9 _ (by kernel_rfl) rfl rfl
      have e11 : a.tmps.getD 11 undef = .agg #[.int .i64 s.b0, .int .i64 s.b1] := pre 6 11 _ (by kernel_rfl) rfl rfl
      clear pre old
      simp only [Array.getD_eq_getD_getElem?] at e9 e11
      go_simp
      have hb' : Below W.heap.size W (W.alloc (.cells #[.int .i64 s.r0, .int .i64 s.r1, .int .i64 s.b0, .int .i64 s.b1] 23)) := (Below.refl _ _).alloc (Nat.le_refl _) _
      obtain ⟨h1, h2⟩ := hS
      exact hK _ _ ⟨h1.keep hb', h2.keep hb'⟩ hb' ⟨_, rfl, Blk.new _ _ _⟩
    refine Vals5.Steps.run (by kernel_rfl) (Vals5.Stable.is _) ?_ ?_
    · intro a W hS pre old K hK
      have f12 := pre 7 12 _ (by kernel_rfl) rfl rfl
      clear pre old
      obtain ⟨g9, hy9, hg9⟩ := f12
      simp only [Array.getD_eq_getD_getElem?] at hy9
      go_simp
      refine (spread_c _ [(s.r0, s.r1), (s.b0, s.b1)] 2 (-20) 20 _ (by simp) (SpAt.two (p := (s.r0, s.r1)) (r := (s.b0, s.b1)) hg9)).mono ?_
      rintro e w' ⟨rfl, hb'⟩
      obtain ⟨h1, h2⟩ := hS
      exact hK _ _ ⟨h1.keep hb', h2.keep hb'⟩ hb' rfl
    refine Vals5.Steps.run (by kernel_rfl) (Vals5.Stable.is _) ?_ ?_
    · intro a W hS pre old K hK
      have e7 : a.tmps.getD 7 undef = .int .i64 (spr 0 200 [(s.s0, s.s1)]) := pre 2 7 _ (by kernel_rfl) rfl rfl
      clear pre old
      simp only [Array.getD_eq_getD_getElem?] at e7
      go_simp
      exact hK _ _ hS (Below.refl _ _) rfl
    exact Vals5.Steps.nil
  rintro X ⟨HS1, hsn1⟩
  simp only [Vals5.All, List.getLast_cons_cons, List.getLast_singleton]
  rintro v12 -
  simp only [Vals.putAll, List.setIfInBounds_toArray, List.set_cons_zero, List.set_cons_succ]
  intro K hK
  go_simp
  refine hK _ _ ?_
  clear hK K
  obtain ⟨a, ha⟩ : ∃ a, spr 0 200 [(s.s0, s.s1)] = a := ⟨_, rfl⟩
  obtain ⟨b, hb⟩ : ∃ b, spr (-20) 20 [(s.r0, s.r1), (s.b0, s.b1)] = b := ⟨_, rfl⟩
  rw [ha, hb] at hE
  rw [ha, hb]
  clear ha hb
  have HE := Lib.hid hE
  clear hE
  have c6 := HS1.cell 6
  simp only [List.getElem?_toArray, List.getElem?_cons_zero, List.getElem?_cons_succ] at c6
  by_cases h1 : a = 7
  · have HV : Hid (7 = E) := by have := HE.out; rwa [if_pos (.inl h1)] at this
    subst h1
    clear HE
    go_wp2_with fail
    go_ret
    exact ⟨ret_int HV.out, hsn1.1⟩
  · have h1' : ((a : Int) == 7) = false := by simpa using h1
    by_cases h2 : b = 7
    · have HV : Hid (7 = E) := by have := HE.out; rwa [if_pos (.inr (.inl h2))] at this
      subst h2
      clear HE h1
      go_wp2_with fail
      go_ret
      exact ⟨ret_int HV.out, hsn1.1⟩
    · have h2' : ((b : Int) == 7) = false := by simpa using h2
      have H1 := Lib.hid h1
      have H2 := Lib.hid h2
      clear h1 h2
      go_wp2_with fail
      refine (rin_c 0 200 s.lim _).mono ?_
      rintro e w' ⟨rfl, rfl⟩
      rcases Bool.eq_false_or_eq_true (wi 0 200 s.lim) with h3 | h3
      · have HV : Hid ((if a ≠ 0 then a else b) = E) := by
          have := HE.out
          rwa [if_neg (by rintro (h | h | h); exact H1.out h; exact H2.out h; rw [h3] at h; cases h)] at this
        rw [h3]
        clear h3 HE
        by_cases h4 : a = 0
        · have HV2 : Hid (b = E) := by have := HV.out; rwa [if_neg (by simpa using h4)] at this
          subst h4
          go_wp2_with fail
          go_ret
          exact ⟨ret_int HV2.out, hsn1.1⟩
        · have HV2 : Hid (a = E) := by have := HV.out; rwa [if_pos h4] at this
          have h4' : (a != 0) = true := by simpa using h4
          clear h4
          go_wp2_with fail
          go_ret
          exact ⟨ret_int HV2.out, hsn1.1⟩
      · have HV : Hid (7 = E) := by have := HE.out; rwa [if_pos (.inr (.inr h3))] at this
        rw [h3]
        clear h3 HE
        go_wp2_with fail
        go_ret
        exact ⟨ret_int HV.out, hsn1.1⟩
end Td
end Go.Proofs.Ytccacinnelmnpaa
