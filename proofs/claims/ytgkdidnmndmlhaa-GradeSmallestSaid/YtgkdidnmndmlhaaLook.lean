import Derived.Test.YtgkdidnmndmlhaaLookA
/- A heap that is looked at. -/
namespace Go.Proofs.Ytgkdidnmndmlhaa
open Go.RowKit
namespace Td
set_option linter.unusedSimpArgs false
set_option linter.unusedVariables false
attribute [local go_sem] Oper.semAt_some
set_option maxRecDepth 100000 in
set_option maxHeartbeats 4000000 in
theorem look_c (P lo hi : Int) (w : World) :
    Calls Try.prog 53 #[.agg (gV P lo hi)] w fun e w' => Below w.heap.size w w' ∧ ((chkE P lo hi = 0 ∧ ∃ g, e = .returned (.tuple #[.pointer (some ⟨g, 0, none⟩), .int .i64 0]) ∧ Blk w' g 97 (hpV P lo hi)) ∨ (chkE P lo hi ≠ 0 ∧ e = .returned (.tuple #[.pointer none, .int .i64 (chkE P lo hi)]))) := by
  have hs0 := (Since.refl w).alloc (.cells (gV P lo hi) 25)
  have HG := Lib.hid (Blk.new w 25 (gV P lo hi))
  go_enter Try.func53, Try.ntmps53
  go_wp2_with fail
  refine (Check_c P lo hi _).mono ?_
  rintro e w1 ⟨rfl, hb1⟩
  have hs1 := hs0.keep hb1
  have HG1 := Lib.hid (HG.out.keep hb1)
  clear HG hb1
  by_cases hc : chkE P lo hi = 0
  · have HC := Lib.hid hc
    rw [hc]
    clear hc
    go_wp2_with fail
    refine Vals9.region (fun σ X => Lk w P lo hi (σ 3) (σ 4) X) [some 10, some 11, some 12, some 13, some 2, some 3] [.is (.agg (gV P lo hi)), .is (.agg (alF tri)), .is (.agg (hpV P lo hi)), .any, .any, .is ?_] (by kernel_rfl) (by kernel_rfl) (by kernel_rfl) (by kernel_rfl) (by kernel_rfl) (by kernel_rfl) (⟨hs1.drew, HG1.out.drew, (fun v hv => by cases hv), (fun v hv => by cases hv)⟩) ?hsteps ?hfin
    case hsteps =>
      refine Vals9.Steps.run rfl ?_ ?_
      · intro a W σ hJ pre K hK
        have e1 := pre.2.2 1 _ (by kernel_rfl) rfl
        clear pre
        simp only [Array.getD_eq_getD_getElem?, List.getElem?_toArray, List.getElem?_cons_zero, List.getElem?_cons_succ, Option.getD_some] at e1
        have hS9 := hJ
        obtain ⟨c0, c1, c2⟩ := hS9.bg.gcells
        go_simp
        exact hK _ hJ
      refine Vals9.Steps.run rfl ?_ ?_
      · intro a W σ hJ pre K hK
        clear pre
        go_simp
        refine (newRows_c _).mono ?_
        rintro e w' ⟨rfl, hb'⟩
        exact hK _ (hJ.keep hb')
      refine Vals9.Steps.run rfl ?_ ?_
      · intro a W σ hJ pre K hK
        have e10 := pre.1 0 10 _ (by kernel_rfl) rfl rfl
        have e11 := pre.1 1 11 _ (by kernel_rfl) rfl rfl
        clear pre
        simp only [Array.getD_eq_getD_getElem?, List.getElem?_toArray, List.getElem?_cons_zero, List.getElem?_cons_succ, Option.getD_some] at e10 e11
        refine wp_buildTo 97 _ rfl (hpV P lo hi) ?_ (hK _ hJ)
        show Try.prog.built 97 [(0, a.eval (.tmp 10)), (1, a.eval (.tmp 11))] = some (hpV P lo hi)
        rw [show a.eval (.tmp 10) = .agg (gV P lo hi) from by simpa [Act.eval] using e10, show a.eval (.tmp 11) = .agg (alF tri) from by simpa [Act.eval] using e11]
        exact built_hp P lo hi
      refine Vals9.Steps.mark rfl ?_ ?_
      · intro a W σ hJ hn pre K hK
        have e12 := pre.1 2 12 _ (by kernel_rfl) rfl rfl
        simp only [Array.getD_eq_getD_getElem?, List.getElem?_toArray, List.getElem?_cons_zero, List.getElem?_cons_succ, Option.getD_some] at e12
        refine wp_boxTo 97 _ rfl (hpV P lo hi) ?_ ?_
        · rw [show a.eval (.tmp 12) = .agg (hpV P lo hi) from by simpa [Act.eval] using e12]; rfl
        have hJ2 : Lk w P lo hi (σ 3) (σ 4) W := hJ
        rw [hn] at hJ2
        exact hK _ _ (Lk.box rfl hJ2)
      refine Vals9.Steps.mark rfl ?_ ?_
      · intro a W σ hJ hn pre K hK
        obtain ⟨v13, s13, e13⟩ := pre.2.1 3 (by kernel_rfl) rfl
        replace e13 : a.tmps.getD 13 undef = v13 := e13 13 rfl
        simp only [Array.getD_eq_getD_getElem?, List.getElem?_toArray, List.getElem?_cons_zero, List.getElem?_cons_succ, Option.getD_some] at e13
        have hJ2 : Lk w P lo hi (σ 3) (σ 4) W := hJ
        rw [s13] at hJ2
        go_simp
        have h2 := hJ2.put
        have h3 : Lk w P lo hi (σ 3) (some v13) W := by rw [s13]; exact h2
        exact hK _ _ h3
      refine Vals9.Steps.run rfl ?_ ?_
      · intro a W σ hJ pre K hK
        clear pre
        go_simp
        exact hK _ hJ
      exact Vals9.Steps.nil
    case hfin =>
    rintro X σ hL
    simp only [Vals9.All]
    intro v hv u hu
    have he := hL.eq u hu
    rw [hv] at he
    cases he
    obtain ⟨g, rfl, hg⟩ := hL.nw _ hv
    have hsn := hL.sn
    clear hL hv hu
    simp only [Vals.putAll, List.setIfInBounds_toArray, List.set_cons_zero, List.set_cons_succ]
    go_wp2_with fail
    go_ret2
    exact ⟨hsn.1, .inl ⟨HC.out, g, rfl, hg⟩⟩
  · have HC := Lib.hid hc
    have hc' : (chkE P lo hi != 0) = true := by simpa using hc
    clear hc
    go_wp2_with fail
    go_ret2
    exact ⟨hs1.1, .inr ⟨HC.out, rfl⟩⟩
set_option maxHeartbeats 2000000 in
theorem lookBy_c (P lo hi fi pa fa se to : Int) (w : World) :
    Calls Try.prog 61 #[.agg (gV P lo hi), .agg (lV fi pa fa se to)] w fun e w' => Below w.heap.size w w' ∧ ((chkP P lo hi fi pa fa se to = 0 ∧ ∃ g, e = .returned (.tuple #[.pointer (some ⟨g, 0, none⟩), .int .i64 0]) ∧ Blk w' g 97 (hpV P lo hi)) ∨ (chkP P lo hi fi pa fa se to ≠ 0 ∧ e = .returned (.tuple #[.pointer none, .int .i64 (chkP P lo hi fi pa fa se to)]))) := by
  have hs0 := ((Since.refl w).alloc (.cells (gV P lo hi) 25)).alloc (.cells (lV fi pa fa se to) 38)
  have HG := Lib.hid ((Blk.new w 25 (gV P lo hi)).alloc (.cells (lV fi pa fa se to) 38))
  have HL := Lib.hid (Blk.new1 w (.cells (gV P lo hi) 25) 38 (lV fi pa fa se to))
  obtain ⟨c0, c1, c2⟩ := HG.out.gcells
  obtain ⟨d0, d1, d2, d3, d4⟩ := HL.out.lcells
  go_enter Try.func61, Try.ntmps61
  go_wp2_with fail
  refine (CheckPlan_c P lo hi fi pa fa se to _).mono ?_
  rintro e w1 ⟨rfl, hb1⟩
  have hs1 := hs0.keep hb1
  have HG1 := Lib.hid (HG.out.keep hb1)
  clear HG HL hb1 c0 c1 c2 d0 d1 d2 d3 d4
  by_cases hc : chkP P lo hi fi pa fa se to = 0
  · have hc0 : chkE P lo hi = 0 := by
      unfold chkP at hc
      by_cases h : chkE P lo hi = 0
      · exact h
      · rw [if_neg h] at hc; exact absurd hc h
    have HC := Lib.hid hc
    have HC0 := Lib.hid hc0
    rw [hc]
    clear hc hc0
    obtain ⟨c0, c1, c2⟩ := HG1.out.gcells
    go_wp2_with fail
    refine (look_c P lo hi _).mono ?_
    rintro e w2 ⟨hb2, ⟨-, g, rfl, hg⟩ | ⟨h, -⟩⟩
    · have hs2 := hs1.keep hb2
      clear hb2 c0 c1 c2
      go_wp2_with fail
      go_ret2
      exact ⟨hs2.1, .inl ⟨HC.out, g, rfl, hg⟩⟩
    · exact absurd HC0.out h
  · have HC := Lib.hid hc
    have hc' : (chkP P lo hi fi pa fa se to != 0) = true := by simpa using hc
    clear hc
    go_wp2_with fail
    go_ret2
    exact ⟨hs1.1, .inr ⟨HC.out, rfl⟩⟩
end Td
end Go.Proofs.Ytgkdidnmndmlhaa
