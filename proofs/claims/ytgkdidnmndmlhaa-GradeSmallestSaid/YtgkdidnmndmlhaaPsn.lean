import Derived.Test.YtgkdidnmndmlhaaPrc
import Derived.Test.YtgkdidnmndmlhaaMathC
/- What is left of a heap that passes: the iterator over both samples. -/
namespace Go.Proofs.Ytgkdidnmndmlhaa
open Go.RowKit
namespace Td
set_option linter.unusedSimpArgs false
set_option linter.unusedVariables false
attribute [local go_sem] Oper.semAt_some
set_option maxHeartbeats 1000000 in
theorem passing_c (g : Nat) (fi pa fa se to d : Int) (w : World) :
    Calls Try.prog 96 #[hpP g, .agg (lV fi pa fa se to), .int .i64 d] w fun e w' =>
      e = .returned (.func (.func 97) #[] #[hpP w.heap.size, hpP (w.heap.size + 1), hpP (w.heap.size + 1 + 1)]) ∧
      ((w.alloc (.cells #[hpP g] 87)).alloc (.cells (lV fi pa fa se to) 38)).alloc (.cells #[.int .i64 d] 3) = w' := by
  go_enter Try.func96, Try.ntmps96
  go_wp2
  go_ret
  exact ⟨rfl, rfl⟩
/-- the iterator's boxes, as far as rounds leave them. -/
structure Cq (a b : Nat) (w₀ : World) (g1 g2 g3 g : Nat) (lo hi : Int) (P F pa fa S to d : Nat) : Prop where
  h1 : Blk w₀ g1 87 #[hpP g]
  h2 : Blk w₀ g2 38 (lV F pa fa S to)
  h3 : Blk w₀ g3 3 #[.int .i64 d]
  hw : Blk w₀ g 97 (hpV (P : Int) lo hi)
  n1 : ¬ (a ≤ g1 ∧ g1 < b)
  n2 : ¬ (a ≤ g2 ∧ g2 < b)
  n3 : ¬ (a ≤ g3 ∧ g3 < b)
  nw : ¬ (a ≤ g ∧ g < b)
  dP : d ≤ P
  fP : F ≤ P
  sP : S ≤ P - F
  pL : P ≤ 20
  ab : a ≤ b
  bw : b ≤ w₀.heap.size
/-- the region that lays the box of the rest: nothing is laid yet, or it is laid, or it is filled. -/
def Rst (V : World) (r : Int) (oA oS : Option Value) (X : World) : Prop :=
  (oA = none ∧ oS = none ∧ X = V) ∨ (oA = some (hpP V.heap.size) ∧ oS = none ∧ X = V.alloc (.cells #[.int .i64 0] 3)) ∨ (oA = some (hpP V.heap.size) ∧ oS ≠ none ∧ X = V.alloc (.cells #[.int .i64 r] 3))
theorem Rst.below {V : World} {r : Int} {oA oS : Option Value} {X : World} (h : Rst V r oA oS X) : Below V.heap.size V X := by
  rcases h with ⟨_, _, rfl⟩ | ⟨_, _, rfl⟩ | ⟨_, _, rfl⟩
  · exact Below.refl _ _
  · exact (Below.refl _ _).alloc (Nat.le_refl _) _
  · exact (Below.refl _ _).alloc (Nat.le_refl _) _
theorem alloc_set {V : World} {t : TypeId} {v u : Value} : (V.alloc (.cells #[v] t)).setCell ⟨V.heap.size, 0, none⟩ u = V.alloc (.cells #[u] t) := by
  unfold World.setCell World.alloc
  congr 1
  apply Array.ext_getElem?
  intro i
  rw [Array.getElem?_modify]
  by_cases h : V.heap.size = i
  · subst h
    simp
  · rw [if_neg h, Array.getElem?_push, Array.getElem?_push]
    split
    · rename_i h2; exact absurd h2.symm h
    · rfl
theorem AllFrom.more {β : Type} {B B' : Nat} {I : β → World → Prop} (h : AllFrom B I) (hB : B ≤ B') : AllFrom B' I := fun s W W' row hs hg hr => h s W W' row hs hg (fun r e => Nat.le_trans hB (hr r e))
theorem Blk.own {W W' : World} {g : Nat} {t : TypeId} {cs : Array Value} {row : Option Nat} (h : Blk W g t cs) (hg : W.grownBy W' row) (hr : ∀ r, row = some r → ∃ o : Obj, W.heap[r]? = some o ∧ o.isCells = false) : Blk W' g t cs :=
  h.grown hg (fun q => by
    obtain ⟨o, ho, hc⟩ := hr g q.symm
    rw [show W.heap[g]? = _ from h] at ho
    cases ho
    cases hc)
theorem keepsFrom_mono {B B' : Nat} {W W' : World} (h : KeepsFrom B W W') (hB : B ≤ B') : KeepsFrom B' W W' := ⟨h.1, fun k o hk ho hc => h.2 k o (Nat.le_trans hB hk) ho hc⟩
theorem roundIn_any {n m : Nat} {F : Fence} (hF : Wd F) {P : Program} {l : Nat} {f : FuncId} {tmps : Array Value} {assign body : Code} {w : World} {R : Ending → World → Prop} (h : RoundIn Fence.wide n P l f tmps assign body w R) : RoundIn F m P l f tmps assign body w R := by
  rcases hF with rfl | ⟨l', rfl⟩
  · exact ⟨trivial, fun c cs _ => h.2 c cs (room_wide _)⟩
  · exact ⟨trivial, fun c cs _ => h.2 c cs (room_wide _)⟩
set_option maxRecDepth 100000 in
set_option maxHeartbeats 4000000 in
theorem passing1_in (nn : Nat) (hnn : 4 ≤ nn) {a b c ee : Nat} {w₀ : World} {g1 g2 g3 g : Nat} {lo hi : Int} {P F pa fa S to d : Nat} (C : Cq a b w₀ g1 g2 g3 g lo hi P F pa fa S to d)
    (l : Nat) (J : List (Nat × Nat) → World → Prop) (Y : World) (hc : c ≤ ee) (hcw : w₀.heap.size ≤ c) (hee : ee ≤ Y.heap.size) (hW : Below w₀.heap.size w₀ Y) (hJ : AllFrom Y.heap.size J)
    (hY : ∀ pre x W1, J pre W1 → (∃ rest, passL P F pa fa S to d = pre ++ x :: rest) → YieldAt Fence.wide (nn - 1) Try.prog l (encS x) W1 fun e Y' =>
      e = .returned (.bool true) ∧ J (pre ++ [x]) Y' ∧ Kp a b c ee W1 Y')
    (h0 : J [] Y) :
    CallsIn Fence.wide nn Try.prog 97 #[.func (.yield l) #[] #[], hpP g1, hpP g2, hpP g3] Y fun e Y' =>
      (∃ v, e = .returned v) ∧ ∃ xs, xs = passL P F pa fa S to d ∧ J xs Y' := by
  have hdP := C.dP
  have hfP := C.fP
  have hsP := C.sP
  have hpL := C.pL
  have hbw := C.bw
  refine callsIn_of_wp_marks Try.func97 rfl trivial ?_ rfl
  simp only [Try.ntmps97, List.size_toArray, List.length_cons, List.length_nil, Nat.reduceAdd, Nat.reduceSub, Array.replicate_succ, Array.replicate_zero, List.push_toArray, List.append_toArray, List.nil_append, List.cons_append]
  refine wpIn_wide.2 ?_
  obtain ⟨Y1, hY1⟩ : ∃ Y1, Y.alloc (.cells #[.func (.yield l) #[] #[]] 123) = Y1 := ⟨_, rfl⟩
  have hb1 : Below Y.heap.size Y Y1 := by rw [← hY1]; exact (Below.refl _ _).alloc (Nat.le_refl _) _
  have hz1 : Y1.heap.size = Y.heap.size + 1 := by rw [← hY1]; simp
  have bY1 : Blk Y1 Y.heap.size 123 #[.func (.yield l) #[] #[]] := by rw [← hY1]; exact Blk.new _ _ _
  have hW1 := hW.trans (hb1.mono hW.size)
  have e1 : IntKind.i64.wrap ((P : Int) - (F : Int)) = ((P - F : Nat) : Int) := by rw [wrapI (by unfold I64; omega)]; omega
  go_wp2_with fail
  clear hY1
  obtain ⟨V, hV⟩ : ∃ V, Y1.drew = V := ⟨_, rfl⟩
  have hWV : Below w₀.heap.size w₀ V := hV ▸ hW1.drew
  have bH := C.h1.keep hWV
  have bL := C.h2.keep hWV
  have bB := C.h3.keep hWV
  have bW := C.hw.keep hWV
  have bY : Blk V Y.heap.size 123 #[.func (.yield l) #[] #[]] := hV ▸ bY1.drew
  have hbV : Below Y.heap.size Y V := hV ▸ hb1.drew
  have HZV : Hid (V.heap.size = Y.heap.size + 1) := by show _ = _; rw [← hV]; exact hz1
  refine Vals9.region (fun σ X => Rst V ((P - F : Nat) : Int) (σ 8) (σ 9) X) [some 11, some 12, some 13, some 14, some 15, some 16, some 17, some 18, some 5, none] [.is ?_, .is ?_, .is ?_, .is ?_, .is ?_, .is ?_, .is ?_, .is ?_, .any, .any] (by kernel_rfl) (by kernel_rfl) (by kernel_rfl) (by kernel_rfl) (by kernel_rfl) (by kernel_rfl) (.inl ⟨rfl, rfl, hV⟩) ?hsteps ?hfin
  case hsteps =>
    refine Vals9.Steps.run rfl ?_ ?_
    · intro a W σ hJ pre K hK
      have e1 := pre.2.2 1 _ (by kernel_rfl) rfl
      clear pre
      simp only [Array.getD_eq_getD_getElem?, List.getElem?_toArray, List.getElem?_cons_zero, List.getElem?_cons_succ, Option.getD_some] at e1
      have hS9 := hJ
      have hb9 := Rst.below hS9
      have c1 := (bH.keep hb9).cell 0
      obtain ⟨d0, d1, d2, d3, d4⟩ := (bL.keep hb9).lcells
      obtain ⟨w0, w1, w2⟩ := (bW.keep hb9).hcells
      simp only [List.getElem?_toArray, List.getElem?_cons_zero] at c1
      go_simp
      exact hK _ hJ
    refine Vals9.Steps.run rfl ?_ ?_
    · intro a W σ hJ pre K hK
      have e11 := pre.1 0 11 _ (by kernel_rfl) rfl rfl
      clear pre
      simp only [Array.getD_eq_getD_getElem?, List.getElem?_toArray, List.getElem?_cons_zero, List.getElem?_cons_succ, Option.getD_some] at e11
      go_simp
      exact hK _ hJ
    refine Vals9.Steps.run rfl ?_ ?_
    · intro a W σ hJ pre K hK
      have e12 := pre.1 1 12 _ (by kernel_rfl) rfl rfl
      clear pre
      simp only [Array.getD_eq_getD_getElem?, List.getElem?_toArray, List.getElem?_cons_zero, List.getElem?_cons_succ, Option.getD_some] at e12
      go_simp
      exact hK _ hJ
    refine Vals9.Steps.run rfl ?_ ?_
    · intro a W σ hJ pre K hK
      have e13 := pre.1 2 13 _ (by kernel_rfl) rfl rfl
      clear pre
      simp only [Array.getD_eq_getD_getElem?, List.getElem?_toArray, List.getElem?_cons_zero, List.getElem?_cons_succ, Option.getD_some] at e13
      go_simp
      exact hK _ hJ
    refine Vals9.Steps.run rfl ?_ ?_
    · intro a W σ hJ pre K hK
      have e14 := pre.1 3 14 _ (by kernel_rfl) rfl rfl
      clear pre
      simp only [Array.getD_eq_getD_getElem?, List.getElem?_toArray, List.getElem?_cons_zero, List.getElem?_cons_succ, Option.getD_some] at e14
      have hS9 := hJ
      have hb9 := Rst.below hS9
      have c1 := (bH.keep hb9).cell 0
      obtain ⟨d0, d1, d2, d3, d4⟩ := (bL.keep hb9).lcells
      obtain ⟨w0, w1, w2⟩ := (bW.keep hb9).hcells
      simp only [List.getElem?_toArray, List.getElem?_cons_zero] at c1
      go_simp
      exact hK _ hJ
    refine Vals9.Steps.run rfl ?_ ?_
    · intro a W σ hJ pre K hK
      have e2 := pre.2.2 2 _ (by kernel_rfl) rfl
      clear pre
      simp only [Array.getD_eq_getD_getElem?, List.getElem?_toArray, List.getElem?_cons_zero, List.getElem?_cons_succ, Option.getD_some] at e2
      go_simp
      exact hK _ hJ
    refine Vals9.Steps.run rfl ?_ ?_
    · intro a W σ hJ pre K hK
      have e16 := pre.1 5 16 _ (by kernel_rfl) rfl rfl
      clear pre
      simp only [Array.getD_eq_getD_getElem?, List.getElem?_toArray, List.getElem?_cons_zero, List.getElem?_cons_succ, Option.getD_some] at e16
      have hS9 := hJ
      have hb9 := Rst.below hS9
      have c1 := (bH.keep hb9).cell 0
      obtain ⟨d0, d1, d2, d3, d4⟩ := (bL.keep hb9).lcells
      obtain ⟨w0, w1, w2⟩ := (bW.keep hb9).hcells
      simp only [List.getElem?_toArray, List.getElem?_cons_zero] at c1
      go_simp
      exact hK _ hJ
    refine Vals9.Steps.run rfl ?_ ?_
    · intro a W σ hJ pre K hK
      have e15 := pre.1 4 15 _ (by kernel_rfl) rfl rfl
      have e17 := pre.1 6 17 _ (by kernel_rfl) rfl rfl
      clear pre
      simp only [Array.getD_eq_getD_getElem?, List.getElem?_toArray, List.getElem?_cons_zero, List.getElem?_cons_succ, Option.getD_some] at e15 e17
      go_simp
      exact hK _ hJ
    refine Vals9.Steps.mark rfl ?_ ?_
    · intro a W σ hJ hn pre K hK
      have hJ2 : Rst V ((P - F : Nat) : Int) (σ 8) (σ 9) W := hJ
      rw [hn] at hJ2
      rcases hJ2 with ⟨_, q2, rfl⟩ | ⟨q, _⟩ | ⟨q, _⟩
      · go_simp
        have h2 : Rst W ((P - F : Nat) : Int) (some (hpP W.heap.size)) (σ 9) (W.alloc (.cells #[.int .i64 0] 3)) := .inr (.inl ⟨rfl, q2, rfl⟩)
        exact hK _ _ h2
      · cases q
      · cases q
    refine Vals9.Steps.mark rfl ?_ ?_
    · intro a W σ hJ hn pre K hK
      obtain ⟨v5, s5, e5⟩ := pre.2.1 8 (by kernel_rfl) rfl
      replace e5 : a.tmps.getD 5 undef = v5 := e5 5 rfl
      have e18 := pre.1 7 18 _ (by kernel_rfl) rfl rfl
      simp only [Array.getD_eq_getD_getElem?, List.getElem?_toArray, List.getElem?_cons_zero, List.getElem?_cons_succ, Option.getD_some] at e5 e18
      have hJ2 : Rst V ((P - F : Nat) : Int) (σ 8) (σ 9) W := hJ
      rw [hn, s5] at hJ2
      rcases hJ2 with ⟨q, _⟩ | ⟨q, _, rfl⟩ | ⟨_, q, _⟩
      · cases q
      · cases q
        have c9 := (Blk.new V 3 #[.int .i64 0]).cell 0
        have f9 := (Blk.new V 3 #[.int .i64 0]).frozen 0
        simp only [List.getElem?_toArray, List.getElem?_cons_zero] at c9
        go_simp
        have h2 : ∀ u, Rst V ((P - F : Nat) : Int) (σ 8) (some u) (V.alloc (.cells #[.int .i64 ((P - F : Nat) : Int)] 3)) := fun u => .inr (.inr ⟨s5, by simp, rfl⟩)
        exact hK undef _ (h2 undef)
      · exact absurd rfl q
    exact Vals9.Steps.nil
  case hfin =>
  rintro X σ hR
  simp only [Vals9.All]
  intro v hv u hu
  obtain ⟨rfl, rfl⟩ : v = hpP V.heap.size ∧ X = V.alloc (.cells #[.int .i64 ((P - F : Nat) : Int)] 3) := by
    rcases hR with ⟨q, _⟩ | ⟨_, q, _⟩ | ⟨q, _, q2⟩
    · rw [hv] at q; cases q
    · rw [hu] at q; cases q
    · rw [hv] at q; exact ⟨Option.some.inj q, q2⟩
  clear hR hv hu
  have hzV := HZV.out
  simp only [Vals.putAll, List.setIfInBounds_toArray, List.set_cons_zero, List.set_cons_succ]
  obtain ⟨V2, hV2⟩ : ∃ V2, (V.alloc (.cells #[.int .i64 ((P - F : Nat) : Int)] 3)).drew = V2 := ⟨_, rfl⟩
  have hb2 : Below V.heap.size V V2 := hV2 ▸ ((Below.refl _ _).alloc (Nat.le_refl _) _).drew
  have bR2 : Blk V2 V.heap.size 3 #[.int .i64 ((P - F : Nat) : Int)] := hV2 ▸ (Blk.new V _ _).drew
  have hz2 : V2.heap.size = Y.heap.size + 2 := by rw [← hV2]; show (V.alloc _).heap.size = _; simp [hzV]
  rw [hzV] at bR2 ⊢
  have bY2 := bY.keep hb2
  have bH2 := bH.keep hb2
  have bL2 := bL.keep hb2
  have bB2 := bB.keep hb2
  have bW2 := bW.keep hb2
  have hbY2 : Below Y.heap.size Y V2 := hbV.trans (hb2.mono hbV.size)
  have c1 := bH2.cell 0
  have c2 := bB2.cell 0
  obtain ⟨d0, d1, d2, d3, d4⟩ := bL2.lcells
  obtain ⟨y0, y1, y2⟩ := bW2.hcells
  simp only [List.getElem?_toArray, List.getElem?_cons_zero] at c1 c2
  clear hV bH bL bB bW bY hbV hWV hb1 hz1 bY1 hW1
  go_wp2_with fail
  refine Vals6.regionAll (fun X => Hid (X = V2)) [some 19, some 20, some 21, some 22, some 23, some 24, some 25, some 26, some 27] [.is ?_, .is ?_, .is ?_, .is ?_, .is ?_, .is ?_, .is ?_, .is ?_, .is ?_] (by kernel_rfl) rfl rfl (by kernel_rfl) (by kernel_rfl) (by kernel_rfl) (by kernel_rfl) (by kernel_rfl) (by kernel_rfl) rfl (Lib.hid hV2) ?hsteps ?hend
  case hsteps =>
    refine Vals5.Steps.run rfl (Vals5.Stable.is _) ?_ ?_
    · intro a W hS pre old K hK
      have e1 := old 1 _ (by kernel_rfl) rfl
      clear pre old
      simp only [Vals5.fits, Array.getD_eq_getD_getElem?, List.getElem?_toArray, List.getElem?_cons_zero, List.getElem?_cons_succ, Option.getD_some] at e1
      have hS9 := hS
      obtain rfl := hS9.out
      go_simp
      refine hK _ _ hS (Below.refl _ _) ?_
      exact fits_is _ Y
    refine Vals5.Steps.run rfl (Vals5.Stable.is _) ?_ ?_
    · intro a W hS pre old K hK
      have e1 := old 1 _ (by kernel_rfl) rfl
      clear pre old
      simp only [Vals5.fits, Array.getD_eq_getD_getElem?, List.getElem?_toArray, List.getElem?_cons_zero, List.getElem?_cons_succ, Option.getD_some] at e1
      have hS9 := hS
      obtain rfl := hS9.out
      go_simp
      refine hK _ _ hS (Below.refl _ _) ?_
      exact fits_is _ Y
    refine Vals5.Steps.run rfl (Vals5.Stable.is _) ?_ ?_
    · intro a W hS pre old K hK
      have e20 := pre 1 20 _ (by kernel_rfl) rfl rfl
      clear pre old
      simp only [Vals5.fits, Array.getD_eq_getD_getElem?, List.getElem?_toArray, List.getElem?_cons_zero, List.getElem?_cons_succ, Option.getD_some] at e20
      go_simp
      refine hK _ _ hS (Below.refl _ _) ?_
      exact fits_is _ Y
    refine Vals5.Steps.run rfl (Vals5.Stable.is _) ?_ ?_
    · intro a W hS pre old K hK
      have e21 := pre 2 21 _ (by kernel_rfl) rfl rfl
      clear pre old
      simp only [Vals5.fits, Array.getD_eq_getD_getElem?, List.getElem?_toArray, List.getElem?_cons_zero, List.getElem?_cons_succ, Option.getD_some] at e21
      go_simp
      refine hK _ _ hS (Below.refl _ _) ?_
      exact fits_is _ Y
    refine Vals5.Steps.run rfl (Vals5.Stable.is _) ?_ ?_
    · intro a W hS pre old K hK
      have e22 := pre 3 22 _ (by kernel_rfl) rfl rfl
      clear pre old
      simp only [Vals5.fits, Array.getD_eq_getD_getElem?, List.getElem?_toArray, List.getElem?_cons_zero, List.getElem?_cons_succ, Option.getD_some] at e22
      go_simp
      refine hK _ _ hS (Below.refl _ _) ?_
      exact fits_is _ Y
    refine Vals5.Steps.run rfl (Vals5.Stable.is _) ?_ ?_
    · intro a W hS pre old K hK
      have e23 := pre 4 23 _ (by kernel_rfl) rfl rfl
      clear pre old
      simp only [Vals5.fits, Array.getD_eq_getD_getElem?, List.getElem?_toArray, List.getElem?_cons_zero, List.getElem?_cons_succ, Option.getD_some] at e23
      have hS9 := hS
      obtain rfl := hS9.out
      go_simp
      refine hK _ _ hS (Below.refl _ _) ?_
      exact fits_is _ Y
    refine Vals5.Steps.run rfl (Vals5.Stable.is _) ?_ ?_
    · intro a W hS pre old K hK
      have e3 := old 3 _ (by kernel_rfl) rfl
      clear pre old
      simp only [Vals5.fits, Array.getD_eq_getD_getElem?, List.getElem?_toArray, List.getElem?_cons_zero, List.getElem?_cons_succ, Option.getD_some] at e3
      have hS9 := hS
      obtain rfl := hS9.out
      go_simp
      refine hK _ _ hS (Below.refl _ _) ?_
      exact fits_is _ Y
    refine Vals5.Steps.run rfl (Vals5.Stable.is _) ?_ ?_
    · intro a W hS pre old K hK
      have e2 := old 2 _ (by kernel_rfl) rfl
      clear pre old
      simp only [Vals5.fits, Array.getD_eq_getD_getElem?, List.getElem?_toArray, List.getElem?_cons_zero, List.getElem?_cons_succ, Option.getD_some] at e2
      go_simp
      refine hK _ _ hS (Below.refl _ _) ?_
      exact fits_is _ Y
    refine Vals5.Steps.run rfl (Vals5.Stable.is _) ?_ ?_
    · intro a W hS pre old K hK
      have e26 := pre 7 26 _ (by kernel_rfl) rfl rfl
      clear pre old
      simp only [Vals5.fits, Array.getD_eq_getD_getElem?, List.getElem?_toArray, List.getElem?_cons_zero, List.getElem?_cons_succ, Option.getD_some] at e26
      have hS9 := hS
      obtain rfl := hS9.out
      go_simp
      refine hK _ _ hS (Below.refl _ _) ?_
      exact fits_is _ Y
    exact Vals5.Steps.nil
  case hend =>
  rintro X hXV
  obtain rfl : X = V2 := hXV.out
  simp only [Vals5.All]
  simp only [List.getLast_cons_cons, List.getLast_singleton]
  simp only [Vals.putAll, List.setIfInBounds_toArray, List.set_cons_zero, List.set_cons_succ]
  intro K hK
  go_simp
  refine (shows_c g (P : Int) (d : Int) (F : Int) X).mono ?_
  rintro e X2 ⟨rfl, hX2⟩
  refine hK _ _ ?_
  clear hK K
  obtain ⟨hz0, hb0⟩ := shows_w0 hX2
  have C2 := Cs.mk4 (a := a) (b := b) hX2 bW2 (by omega) C.nw hdP hfP hpL
  clear hX2 c1 c2 d0 d1 d2 d3 d4 y0 y1 y2 hV2 hb2
  rw [hz2] at C2 ⊢
  go_wp2_with fail
  have hWX : Below w₀.heap.size w₀ X := hW.trans (hbY2.mono hW.size)
  have hWX2 : Below w₀.heap.size w₀ X2 := hWX.trans (hb0.mono hWX.size)
  have hYX2 : Below Y.heap.size Y X2 := hbY2.trans (hb0.mono hbY2.size)
  have hYz := hYX2.size
  refine (wpIn_wide (n := nn)).1 ?_
  refine rangeFunc_d (w := X2) rfl (by omega) (gf := 85) (lb := #[hpP (Y.heap.size + 2 + 1), hpP (Y.heap.size + 2 + 1 + 1), hpP (Y.heap.size + 2 + 1 + 1 + 1), hpP (Y.heap.size + 2)]) rfl trivial (enters_of Try.func85 (by kernel_rfl) rfl)
    (shows_seq (c := c) (ee := X2.heap.size + 2) _ (by omega) C2) Kp.trans (fun W o o' hg hc _ => Kp.put W _ o o' (by omega) (by omega) hg hc) (Below.refl _ _) (fun _ => rfl)
    (fun pre W => (((J (rowsOf P F pa S to d pre) W ∧ (∀ x ∈ pre, x.1 < fa)) ∧ Blk W Y.heap.size 123 #[.func (.yield l) #[] #[]]) ∧ Blk W (Y.heap.size + 1) 3 #[.int .i64 ((P - F : Nat) : Int)]) ∧ Kp a b c (X2.heap.size + 2) X2 W)
    (fun q pre W => q = .ret ∧ J (passL P F pa fa S to d) W)
    ((((AllFrom.and (I := fun pre W => J (rowsOf P F pa S to d pre) W) (fun s W W' row hs hg hr => hJ (rowsOf P F pa S to d s) W W' row hs hg (fun r e => Nat.le_trans hYz (hr r e))) (AllFrom.pure _ (fun pre : List (Nat × Nat) => ∀ x ∈ pre, x.1 < fa))).and (AllFrom.blk (g := Y.heap.size) (by omega) _ _)).and (AllFrom.blk (g := Y.heap.size + 1) (by omega) _ _)).and (AllFrom.kp (Nat.le_refl _)))
    (fun q s W W' row hs hg hr => ⟨hs.1, hJ _ W W' row hs.2 hg (fun r e => Nat.le_trans hYz (hr r e))⟩)
    ⟨⟨⟨⟨hJ.keep h0 hYX2, fun x hx => absurd hx (by simp)⟩, bY2.keep hb0⟩, bR2.keep hb0⟩, .refl _ _ _ _ _⟩
    (fun x a' W => ∃ b6, X2.heap.size ≤ b6 ∧ Blk W b6 3 #[.int .i64 (x.1 : Nat)] ∧ Blk W (b6 + 1) 3 #[.int .i64 (x.2 : Nat)] ∧ a' = { tmps := #[.func (.yield l) #[] #[], hpP g1, hpP g2, hpP g3, hpP Y.heap.size, hpP (Y.heap.size + 1), hpP b6, hpP (b6 + 1), undef, undef, undef, hpP g, hpP g, hpP g, hpP g, .int .i64 P, hpP g2, .int .i64 F, .int .i64 ((P - F : Nat) : Int), hpP g, hpP g, hpP g, hpP g, hpP g, .int .i64 P, .int .i64 d, hpP g2, .int .i64 F, .func (.func 85) #[] #[hpP (Y.heap.size + 2 + 1), hpP (Y.heap.size + 2 + 1 + 1), hpP (Y.heap.size + 2 + 1 + 1 + 1), hpP (Y.heap.size + 2)], .int .i64 (x.1 : Nat), .int .i64 (x.2 : Nat), undef, undef, undef, undef, undef, undef, undef, undef, undef, undef, undef, undef, undef, undef, undef, undef, undef, undef, undef, undef, undef, undef, undef, undef, undef, undef, undef, undef, undef, undef, undef, undef, undef, undef, undef, undef, undef, undef, undef, undef, undef, undef, undef, undef, undef, undef, undef, undef, undef, undef, undef, undef, undef], defers := [] })
    (fun x a' _ A B row hs hg hr => by
      obtain ⟨b6, q1, q2, q3, q4⟩ := hs
      exact ⟨b6, q1, q2.own hg (fun r e => (hr r e).2), q3.own hg (fun r e => (hr r e).2), q4⟩)
    ?assign ?body ?done ?stop
  case assign =>
    rintro l2 pre x W K ⟨⟨⟨⟨i1, i2⟩, i3⟩, i4⟩, i5⟩ hK
    have hzz := i5.size
    gi_wp2
    have hb : Below W.heap.size W ((W.alloc (.cells #[.int .i64 (x.1 : Nat)] 3)).alloc (.cells #[.int .i64 (x.2 : Nat)] 3)) := ((Below.refl _ W).alloc (Nat.le_refl _) _).alloc (by simp) _
    exact hK _ _ (keepsFrom_of_below hb) (.of hb) ⟨⟨⟨⟨hJ.keep i1 hb, i2⟩, i3.keep hb⟩, i4.keep hb⟩, i5.then hb⟩ ⟨W.heap.size, hzz, (Blk.new W _ _).alloc _, Blk.new1 W _ _ _, rfl⟩
  case stop =>
    rintro D q pre W hD - ⟨rfl, hq⟩ hK
    gi_wp2
    refine ⟨by simp, .inl ⟨_, _, rfl, run_takeDeferred hK, ?_⟩⟩
    exact ⟨_, results_none rfl _ _ _, ⟨_, rfl⟩, _, rfl, hJ.putObj _ hq (by omega)⟩
  case done =>
    rintro D ys W hD rfl ⟨⟨⟨⟨i1, i2⟩, i3⟩, i4⟩, i5⟩ hK
    have i1' : J (passL P F pa fa S to d) W := by rw [pass_all i2]; exact i1
    go_wp2_with fail
    refine ⟨by simp, .inl ⟨_, _, rfl, run_takeDeferred hK, ?_⟩⟩
    exact ⟨_, results_none rfl _ _ _, ⟨_, rfl⟩, _, rfl, hJ.putObj _ i1' (by omega)⟩
  case body =>
    rintro l2 pre x a' W hl ⟨r, hr⟩ ⟨⟨⟨⟨i1, i2⟩, i3⟩, i4⟩, i5⟩ ⟨b6, q1, q2, q3, rfl⟩ ⟨rest, hrest⟩
    have hxm := showsL_mem (x := x) (P := P) (b := d) (n := F) (by rw [hrest]; simp)
    obtain ⟨i, s⟩ := x
    dsimp only at hxm q2 q3 ⊢
    obtain ⟨hm1, hm2, rfl⟩ := hxm
    have hid : i ≤ d := by unfold hiS at hm2; omega
    have hiF : i ≤ F := by unfold hiS at hm2; omega
    have hlo : d - i ≤ P - F := by unfold loS at hm1; omega
    have hzW := i5.size
    have bH := (C.h1.keep hWX2).kp i5 C.n1
    have bL := (C.h2.keep hWX2).kp i5 C.n2
    have bB := (C.h3.keep hWX2).kp i5 C.n3
    have bW := (C.hw.keep hWX2).kp i5 C.nw
    obtain ⟨W1, hW1⟩ : ∃ W1, W.alloc (.cells #[.int .i64 ((d - i : Nat) : Int)] 3) = W1 := ⟨_, rfl⟩
    have hb1 : Below W.heap.size W W1 := by rw [← hW1]; exact (Below.refl _ _).alloc (Nat.le_refl _) _
    have b8 : Blk W1 W.heap.size 3 #[.int .i64 ((d - i : Nat) : Int)] := by rw [← hW1]; exact Blk.new _ _ _
    have c3 := bB.cell 0
    have c6 := q2.cell 0
    have c6' := (q2.keep hb1).cell 0
    obtain ⟨d0, d1, d2, d3, d4⟩ := (bL.keep hb1).lcells
    simp only [List.getElem?_toArray, List.getElem?_cons_zero] at c3 c6 c6'
    have w1 : IntKind.i64.wrap ((d : Int) - (i : Int)) = ((d - i : Nat) : Int) := by rw [wrapI (by unfold I64; omega)]; omega
    by_cases hf : i < fa
    · have t1 : ¬ (fa : Int) ≤ (i : Int) := by omega
      have t1' : ¬ fa ≤ i := by omega
      by_cases hp : i ≤ pa
      · have t2 : (i : Int) ≤ (pa : Int) := by omega
        obtain ⟨V8, hV8⟩ : ∃ V8, W1.drew = V8 := ⟨_, rfl⟩
        have hb8 : Below W.heap.size W V8 := hV8 ▸ hb1.drew
        have hbX8 : Below W1.heap.size W1 V8 := hV8 ▸ (Below.refl _ _).drew
        obtain ⟨pr, hpr⟩ := pass_part (pa := pa) (S := S) (to := to) hrest i2 hf
        rw [row_pass hp] at hpr
        have hyy := hY (rowsOf P F pa S to d pre) (d - i, sh P d F i * bn (P - F) S) V8 (hJ.keep i1 hb8) ⟨pr, hpr⟩
        obtain ⟨fn, tmps, assign, body, hy, hR⟩ := hyy
        dsimp only [encS] at hy
        have HR := Lib.hid hR
        have HJ9 : Hid (rowsOf P F pa S to d (pre ++ [(i, sh P d F i)]) = rowsOf P F pa S to d pre ++ [(d - i, sh P d F i * bn (P - F) S)]) := by show _ = _; rw [rowsOf_snoc, row_pass hp]
        have l1 := sh_le (P := P) (b := d) (n := F) (i := i) hdP hiF
        have l2' := bn_bd' (n := P) (by omega) F
        have l3 := bn_bd' (n := P - F) (by omega) S
        have l4 := Nat.mul_le_mul (Nat.le_trans l1 l2') l3
        have em : ((sh P d F i : Nat) : Int) * ((bn (P - F) S : Nat) : Int) = ((sh P d F i * bn (P - F) S : Nat) : Int) := by push_cast; rfl
        have e9 : IntKind.i64.wrap (((sh P d F i : Nat) : Int) * ((bn (P - F) S : Nat) : Int)) = ((sh P d F i * bn (P - F) S : Nat) : Int) := by rw [em]; exact wrapI (by unfold I64; omega)
        have k1 := ((bH.keep hb8).cell 0)
        have k2 := ((i3.keep hb8).cell 0)
        have k3 := ((i4.keep hb8).cell 0)
        have k4 := ((b8.keep hbX8).cell 0)
        have k5 := ((q3.keep hb8).cell 0)
        obtain ⟨k6, k7, k8, k9, k10⟩ := (bL.keep hb8).lcells
        have k11 := (bW.keep hb8).way (n := P - F) (k := S) (by omega) (by omega)
        simp only [List.getElem?_toArray, List.getElem?_cons_zero] at k1 k2 k3 k4 k5
        have t5 : ((P - F : Nat) : Int) < 21 := by omega
        have t6 : (S : Int) < 21 := by omega
        have t7 : P - F < 21 := by omega
        have t8 : S < 21 := by omega
        obtain ⟨sv, hsv⟩ : ∃ sv, sh P d F i = sv := ⟨_, rfl⟩
        rw [hsv] at e9 hy HR HJ9 k5 ⊢
        obtain ⟨mv, hmv⟩ : ∃ mv, sv * bn (P - F) S = mv := ⟨_, rfl⟩
        rw [hmv] at e9 hy HR HJ9
        clear hmv hsv
        clear l1 l2' l3 l4 em hR hpr
        gi_wp2
        refine Vals6T.regionAll 13 (fun X => Hid (X = V8)) [some 44, some 45, some 46, some 47, some 48, some 49, some 50, some 51, some 52, some 53, some 54, some 55, some 56] [.is ?_, .is ?_, .is ?_, .is ?_, .is ?_, .is ?_, .is ?_, .is ?_, .is ?_, .is ?_, .is ?_, .is ?_, .is ?_] (.inr ⟨l2, rfl⟩) (by kernel_rfl) (by kernel_rfl) (by kernel_rfl) rfl (by kernel_rfl) (by kernel_rfl) (by kernel_rfl) (by kernel_rfl) (by kernel_rfl) (by kernel_rfl) rfl (Lib.hid hV8) ?hsteps ?hend
        case hsteps =>
          refine Vals5.Steps.run rfl (Vals5.Stable.is _) ?_ ?_
          · intro a W hS pre old K hK
            have e4 := old 4 _ (by kernel_rfl) rfl
            clear pre old
            simp only [Vals5.fits, Array.getD_eq_getD_getElem?, List.getElem?_toArray, List.getElem?_cons_zero, List.getElem?_cons_succ, Option.getD_some] at e4
            have hS9 := hS
            obtain rfl := hS9.out
            go_simp
            refine hK _ _ hS (Below.refl _ _) ?_
            exact fits_is _ Y
          refine Vals5.Steps.run rfl (Vals5.Stable.is _) ?_ ?_
          · intro a W hS pre old K hK
            have e8 := old 8 _ (by kernel_rfl) rfl
            clear pre old
            simp only [Vals5.fits, Array.getD_eq_getD_getElem?, List.getElem?_toArray, List.getElem?_cons_zero, List.getElem?_cons_succ, Option.getD_some] at e8
            have hS9 := hS
            obtain rfl := hS9.out
            go_simp
            refine hK _ _ hS (Below.refl _ _) ?_
            exact fits_is _ Y
          refine Vals5.Steps.run rfl (Vals5.Stable.is _) ?_ ?_
          · intro a W hS pre old K hK
            have e7 := old 7 _ (by kernel_rfl) rfl
            clear pre old
            simp only [Vals5.fits, Array.getD_eq_getD_getElem?, List.getElem?_toArray, List.getElem?_cons_zero, List.getElem?_cons_succ, Option.getD_some] at e7
            have hS9 := hS
            obtain rfl := hS9.out
            go_simp
            refine hK _ _ hS (Below.refl _ _) ?_
            exact fits_is _ Y
          refine Vals5.Steps.run rfl (Vals5.Stable.is _) ?_ ?_
          · intro a W hS pre old K hK
            have e1 := old 1 _ (by kernel_rfl) rfl
            clear pre old
            simp only [Vals5.fits, Array.getD_eq_getD_getElem?, List.getElem?_toArray, List.getElem?_cons_zero, List.getElem?_cons_succ, Option.getD_some] at e1
            have hS9 := hS
            obtain rfl := hS9.out
            go_simp
            refine hK _ _ hS (Below.refl _ _) ?_
            exact fits_is _ Y
          refine Vals5.Steps.run rfl (Vals5.Stable.is _) ?_ ?_
          · intro a W hS pre old K hK
            have e5 := old 5 _ (by kernel_rfl) rfl
            clear pre old
            simp only [Vals5.fits, Array.getD_eq_getD_getElem?, List.getElem?_toArray, List.getElem?_cons_zero, List.getElem?_cons_succ, Option.getD_some] at e5
            have hS9 := hS
            obtain rfl := hS9.out
            go_simp
            refine hK _ _ hS (Below.refl _ _) ?_
            exact fits_is _ Y
          refine Vals5.Steps.run rfl (Vals5.Stable.is _) ?_ ?_
          · intro a W hS pre old K hK
            have e2 := old 2 _ (by kernel_rfl) rfl
            clear pre old
            simp only [Vals5.fits, Array.getD_eq_getD_getElem?, List.getElem?_toArray, List.getElem?_cons_zero, List.getElem?_cons_succ, Option.getD_some] at e2
            go_simp
            refine hK _ _ hS (Below.refl _ _) ?_
            exact fits_is _ Y
          refine Vals5.Steps.run rfl (Vals5.Stable.is _) ?_ ?_
          · intro a W hS pre old K hK
            have e49 := pre 5 49 _ (by kernel_rfl) rfl rfl
            clear pre old
            simp only [Vals5.fits, Array.getD_eq_getD_getElem?, List.getElem?_toArray, List.getElem?_cons_zero, List.getElem?_cons_succ, Option.getD_some] at e49
            have hS9 := hS
            obtain rfl := hS9.out
            go_simp
            refine hK _ _ hS (Below.refl _ _) ?_
            exact fits_is _ Y
          refine Vals5.Steps.run rfl (Vals5.Stable.is _) ?_ ?_
          · intro a W hS pre old K hK
            have e47 := pre 3 47 _ (by kernel_rfl) rfl rfl
            clear pre old
            simp only [Vals5.fits, Array.getD_eq_getD_getElem?, List.getElem?_toArray, List.getElem?_cons_zero, List.getElem?_cons_succ, Option.getD_some] at e47
            go_simp
            refine hK _ _ hS (Below.refl _ _) ?_
            exact fits_is _ Y
          refine Vals5.Steps.run rfl (Vals5.Stable.is _) ?_ ?_
          · intro a W hS pre old K hK
            have e51 := pre 7 51 _ (by kernel_rfl) rfl rfl
            clear pre old
            simp only [Vals5.fits, Array.getD_eq_getD_getElem?, List.getElem?_toArray, List.getElem?_cons_zero, List.getElem?_cons_succ, Option.getD_some] at e51
            go_simp
            refine hK _ _ hS (Below.refl _ _) ?_
            exact fits_is _ Y
          refine Vals5.Steps.run rfl (Vals5.Stable.is _) ?_ ?_
          · intro a W hS pre old K hK
            have e48 := pre 4 48 _ (by kernel_rfl) rfl rfl
            have e52 := pre 8 52 _ (by kernel_rfl) rfl rfl
            clear pre old
            simp only [Vals5.fits, Array.getD_eq_getD_getElem?, List.getElem?_toArray, List.getElem?_cons_zero, List.getElem?_cons_succ, Option.getD_some] at e48 e52
            go_simp
            refine hK _ _ hS (Below.refl _ _) ?_
            exact fits_is _ Y
          refine Vals5.Steps.run rfl (Vals5.Stable.is _) ?_ ?_
          · intro a W hS pre old K hK
            have e50 := pre 6 50 _ (by kernel_rfl) rfl rfl
            have e53 := pre 9 53 _ (by kernel_rfl) rfl rfl
            clear pre old
            simp only [Vals5.fits, Array.getD_eq_getD_getElem?, List.getElem?_toArray, List.getElem?_cons_zero, List.getElem?_cons_succ, Option.getD_some] at e50 e53
            go_simp
            refine hK _ _ hS (Below.refl _ _) ?_
            exact fits_is _ Y
          refine Vals5.Steps.run rfl (Vals5.Stable.is _) ?_ ?_
          · intro a W hS pre old K hK
            have e54 := pre 10 54 _ (by kernel_rfl) rfl rfl
            clear pre old
            simp only [Vals5.fits, Array.getD_eq_getD_getElem?, List.getElem?_toArray, List.getElem?_cons_zero, List.getElem?_cons_succ, Option.getD_some] at e54
            have hS9 := hS
            obtain rfl := hS9.out
            go_simp
            refine hK _ _ hS (Below.refl _ _) ?_
            exact fits_is _ Y
          refine Vals5.Steps.run rfl (Vals5.Stable.is _) ?_ ?_
          · intro a W hS pre old K hK
            have e46 := pre 2 46 _ (by kernel_rfl) rfl rfl
            have e55 := pre 11 55 _ (by kernel_rfl) rfl rfl
            clear pre old
            simp only [Vals5.fits, Array.getD_eq_getD_getElem?, List.getElem?_toArray, List.getElem?_cons_zero, List.getElem?_cons_succ, Option.getD_some] at e46 e55
            go_simp
            refine hK _ _ hS (Below.refl _ _) ?_
            exact fits_is _ Y
          exact Vals5.Steps.nil
        case hend =>
        rintro X8 hX8
        obtain rfl : X8 = V8 := hX8.out
        simp only [Vals5.All]
        simp only [Vals.putAll, List.setIfInBounds_toArray, List.set_cons_zero, List.set_cons_succ]
        show wpListIn _ _ _ _ _ [_, _] _ _
        gi_wp2
        refine ⟨fun e => (by cases e), (roundIn_any (.inr ⟨l2, rfl⟩) HR.out).mono ?_⟩
        have hbW8 := hb8.size
        rintro e W9 ⟨rfl, hJ9, hk9⟩
        · have hkW : Kp a b c (X2.heap.size + 2) W W9 := (Kp.of hb8).trans (hk9.mono (by omega))
          have hkf : KeepsFrom X2.heap.size W W9 := (keepsFrom_of_below hb8).trans (keepsFrom_mono (hk9.from (by omega)) (by omega))
          gi_wp2
          exact ⟨hkf, hkW, ⟨⟨⟨by rw [HJ9.out]; exact hJ9, fun y hy => by rcases List.mem_append.1 hy with h | h; exact i2 y h; rw [List.mem_singleton.1 h]; exact hf⟩, i3.kp hkW (by omega)⟩, i4.kp hkW (by omega)⟩, i5.trans hkW⟩
      · have t2 : ¬ (i : Int) ≤ (pa : Int) := by omega
        have c1 := (bH.keep hb1).cell 0
        have c4 := (i4.keep hb1).cell 0
        have c8 := b8.cell 0
        simp only [List.getElem?_toArray, List.getElem?_cons_zero] at c1 c4 c8
        gi_wp2
        refine ⟨trivial, fun e => (by cases e), (Wd.calls (.inr ⟨l2, rfl⟩) (shows_c g ((P - F : Nat) : Int) ((d - i : Nat) : Int) (S : Int) W1)).mono ?_⟩
        rintro e W2 ⟨rfl, hW2⟩
        obtain ⟨hz2', hb2'⟩ := shows_w0 hW2
        have hzb1 := hb1.size
        have C3 := Cs.mk4 (a := a) (b := b) hW2 (bW.keep hb1) (by omega) C.nw hlo hsP (by omega)
        have hbW2 : Below W.heap.size W W2 := hb1.trans (hb2'.mono hzb1)
        clear hW2 c1 c3 c4 c6 c6' c8 d0 d1 d2 d3 d4
        obtain ⟨pr, hpr⟩ := pass_part (pa := pa) (S := S) (to := to) hrest i2 hf
        rw [row_more hp] at hpr
        have hr2 : W2.heap[l2]? = some (.loop r) := (hbW2.block l2 (Array.getElem?_eq_some_iff.1 hr).1).trans hr
        have hXW2 : Kp a b c (X2.heap.size + 2) X2 W2 := i5.then hbW2
        have jH := bH.keep hbW2
        have jL := bL.keep hbW2
        have j6 := q2.keep hbW2
        have j7 := q3.keep hbW2
        have jY := i3.keep hbW2
        have j8 := b8.keep hb2'
        have hJ2 := hJ.keep i1 hbW2
        have hzW2 := hbW2.size
        have hJW2 : AllFrom W2.heap.size J := hJ.more (by omega)
        have HJ9 : Hid (rowsOf P F pa S to d (pre ++ [(i, sh P d F i)]) = rowsOf P F pa S to d pre ++ mf P F to d i (showsL (P - F) (d - i) S)) := by show _ = _; rw [rowsOf_snoc, row_more hp]
        have l1 := sh_le (P := P) (b := d) (n := F) (i := i) hdP hiF
        have l2' := bn_bd' (n := P) (by omega) F
        obtain ⟨sv, hsv⟩ : ∃ sv, sh P d F i = sv := ⟨_, rfl⟩
        rw [hsv] at j7 l1 ⊢
        have HSV := Lib.hid hsv
        clear hsv
        gi_wp2
        refine rangeFunc_cN (w := W2) (l₀ := l2) rfl hr2 (by omega) (gf := 85) (lb := #[hpP (W1.heap.size + 1), hpP (W1.heap.size + 1 + 1), hpP (W1.heap.size + 1 + 1 + 1), hpP W1.heap.size]) rfl trivial (enters_of Try.func85 (by kernel_rfl) rfl)
          (shows_seqR (c := c) (ee := W2.heap.size + 1) _ (by omega) C3 l2) Kp.trans (fun Z o o' hg hc _ => Kp.put Z _ o o' (by omega) (by omega) hg hc) (Below.refl _ _) (fun _ => rfl)
          (fun p2 Z => (J (rowsOf P F pa S to d pre ++ mf P F to d i p2) Z ∧ Kp a b c (X2.heap.size + 2) W2 Z) ∧ KeepsFrom X2.heap.size W2 Z)
          (fun _ _ _ => False)
          ((AllFrom.and (I := fun p2 Z => J (rowsOf P F pa S to d pre ++ mf P F to d i p2) Z) (fun s A B row hs hg hr => hJW2 (rowsOf P F pa S to d pre ++ mf P F to d i s) A B row hs hg hr) (AllFrom.kp (Nat.le_refl _))).and (AllFrom.keeps (Nat.le_refl _)))
          (fun _ _ _ _ _ hs _ _ => hs)
          ⟨⟨by rw [mf_nil, List.append_nil]; exact hJ2, .refl _ _ _ _ _⟩, KeepsFrom.refl _ _⟩
          (fun y a' Z => a' = { tmps := #[.func (.yield l) #[] #[], hpP g1, hpP g2, hpP g3, hpP Y.heap.size, hpP (Y.heap.size + 1), hpP b6, hpP (b6 + 1), hpP W.heap.size, .int .i64 (y.1 : Nat), .int .i64 (y.2 : Nat), hpP g, hpP g, hpP g, hpP g, .int .i64 P, hpP g2, .int .i64 F, .int .i64 ((P - F : Nat) : Int), hpP g, hpP g, hpP g, hpP g, hpP g, .int .i64 P, .int .i64 d, hpP g2, .int .i64 F, .func (.func 85) #[] #[hpP (Y.heap.size + 2 + 1), hpP (Y.heap.size + 2 + 1 + 1), hpP (Y.heap.size + 2 + 1 + 1 + 1), hpP (Y.heap.size + 2)], .int .i64 (i : Nat), .int .i64 (sv : Nat), .int .i64 d, .int .i64 i, .int .i64 ((d - i : Nat) : Int), .bool false, .int .i64 i, .pointer (some ⟨g2, 2, none⟩), .int .i64 fa, .bool false, .bool false, .int .i64 i, .pointer (some ⟨g2, 1, none⟩), .int .i64 pa, .bool false, undef, undef, undef, undef, undef, undef, undef, undef, undef, undef, undef, undef, undef, undef, undef, hpP g, .int .i64 ((P - F : Nat) : Int), .int .i64 ((d - i : Nat) : Int), .pointer (some ⟨g2, 3, none⟩), .int .i64 S, .func (.func 85) #[] #[hpP (W1.heap.size + 1), hpP (W1.heap.size + 1 + 1), hpP (W1.heap.size + 1 + 1 + 1), hpP W1.heap.size], .int .i64 (y.1 : Nat), .int .i64 (y.2 : Nat), undef, undef, undef, undef, undef, undef, undef, undef, undef, undef, undef, undef, undef, undef, undef, undef, undef], defers := [] })
          (fun y a' _ A B row hs hg hr => hs)
          ?assign ?body ?done ?stop
        case assign =>
          rintro l3 p2 y Z K i0 hK
          gi_wp2
          exact hK _ _ (keepsFrom_of_below (Below.refl _ _)) (.refl _ _ _ _ _) i0 rfl
        case stop =>
          rintro q p2 Z hs h
          exact h.elim
        case done =>
          rintro p2 Z rfl ⟨⟨m1, m2⟩, m3⟩
          have hkW : Kp a b c (X2.heap.size + 2) W Z := (Kp.of hbW2).trans m2
          have hkf : KeepsFrom X2.heap.size W Z := (keepsFrom_of_below hbW2).trans m3
          gi_wp2
          exact ⟨hkf, hkW, ⟨⟨⟨by rw [HJ9.out]; exact m1, fun y hy => by rcases List.mem_append.1 hy with h | h; exact i2 y h; rw [List.mem_singleton.1 h]; exact hf⟩, i3.kp hkW (by omega)⟩, i4.kp hkW (by omega)⟩, i5.trans hkW⟩
        case body =>
          rintro l3 p2 y a' Z hl3 ⟨r3, hr3⟩ ⟨⟨m1, m2⟩, m3⟩ rfl ⟨rest2, hrest2⟩
          have hym := showsL_mem (x := y) (P := P - F) (b := d - i) (n := S) (by rw [hrest2]; simp)
          obtain ⟨j, t⟩ := y
          dsimp only at hym ⊢
          obtain ⟨hj1, hj2, rfl⟩ := hym
          have hjd : j ≤ d - i := by unfold hiS at hj2; omega
          have hjS : j ≤ S := by unfold hiS at hj2; omega
          have n1 := sh_le (P := P - F) (b := d - i) (n := S) (i := j) hlo hjS
          have n2 := bn_bd' (n := P - F) (by omega) S
          have c4 := (jY.kp m2 (by omega)).cell 0
          have c6 := (j6.kp m2 (by omega)).cell 0
          have c7 := (j7.kp m2 (by omega)).cell 0
          have c8 := (j8.kp m2 (by omega)).cell 0
          obtain ⟨d0, d1, d2, d3, d4⟩ := (jL.kp m2 C.n2).lcells
          simp only [List.getElem?_toArray, List.getElem?_cons_zero] at c4 c6 c7 c8
          have w5 : IntKind.i64.wrap ((i : Int) + (j : Int)) = (i : Int) + (j : Int) := wrapI (by unfold I64; omega)
          by_cases ht : i + j ≤ to
          · have t5 : (i : Int) + (j : Int) ≤ (to : Int) := by omega
            have w6 : IntKind.i64.wrap (((d - i : Nat) : Int) - (j : Int)) = ((d - i - j : Nat) : Int) := by rw [wrapI (by unfold I64; omega)]; omega
            have n3 := Nat.mul_le_mul (Nat.le_trans l1 l2') (Nat.le_trans n1 n2)
            have em : (sv : Int) * ((sh (P - F) (d - i) S j : Nat) : Int) = ((sv * sh (P - F) (d - i) S j : Nat) : Int) := by push_cast; rfl
            have w7 : IntKind.i64.wrap ((sv : Int) * ((sh (P - F) (d - i) S j : Nat) : Int)) = ((sv * sh (P - F) (d - i) S j : Nat) : Int) := by rw [em]; exact wrapI (by unfold I64; omega)
            have hmf : mf P F to d i (p2 ++ [(j, sh (P - F) (d - i) S j)]) = mf P F to d i p2 ++ [(d - i - j, sv * sh (P - F) (d - i) S j)] := by rw [mf_yes p2 (x := (j, sh (P - F) (d - i) S j)) ht, HSV.out]
            have hyy := hY (rowsOf P F pa S to d pre ++ mf P F to d i p2) (d - i - j, sv * sh (P - F) (d - i) S j) Z m1 ⟨mf P F to d i rest2 ++ pr, by
              rw [hpr, hrest2, show p2 ++ (j, sh (P - F) (d - i) S j) :: rest2 = (p2 ++ [(j, sh (P - F) (d - i) S j)]) ++ rest2 from by simp, mf_app, hmf]
              simp⟩
            rw [List.append_assoc, ← hmf] at hyy
            have HMF := Lib.hid hmf
            obtain ⟨fn, tmps, assign, body, hy, hR⟩ := hyy
            dsimp only [encS] at hy
            obtain ⟨tv, htv⟩ : ∃ tv, sh (P - F) (d - i) S j = tv := ⟨_, rfl⟩
            rw [htv] at w7 hy hR ⊢
            obtain ⟨mv, hmv⟩ : ∃ mv, sv * tv = mv := ⟨_, rfl⟩
            rw [hmv] at w7 hy
            have HR := Lib.hid hR
            have HTV := Lib.hid htv
            clear hmv htv hR n3 em n1 n2 hmf l1 l2'
            gi_wp2
            refine ⟨fun e => (by cases e), (roundIn_any (.inr ⟨l3, rfl⟩) HR.out).mono ?_⟩
            rintro e Z9 ⟨rfl, hJ9, hk9⟩
            have hk1 : Kp a b c (W2.heap.size + 1) Z Z9 := hk9.mono (by omega)
            have hk2 : Kp a b c (X2.heap.size + 2) W2 Z9 := m2.trans (hk9.mono (by omega))
            have hkf : KeepsFrom W2.heap.size Z Z9 := keepsFrom_mono (hk9.from (by omega)) (by omega)
            have hkf2 : KeepsFrom X2.heap.size W2 Z9 := m3.trans (keepsFrom_mono (hk9.from (by omega)) (by omega))
            gi_wp2
            exact ⟨hkf, hk1, ⟨hJ9, hk2⟩, hkf2⟩
          · have t5 : ¬ (i : Int) + (j : Int) ≤ (to : Int) := by omega
            gi_wp2
            refine ⟨fun _ h => (by cases h), ?_⟩
            gi_wp2
            exact ⟨KeepsFrom.refl _ _, .refl _ _ _ _ _, ⟨by rw [mf_no p2 (x := (j, sh (P - F) (d - i) S j)) ht]; exact m1, m2⟩, m3⟩
    · have t1 : (fa : Int) ≤ (i : Int) := by omega
      have t1' : fa ≤ i := by omega
      gi_wp2
      refine ⟨keepsFrom_of_below hb1, rfl, ?_⟩
      rw [pass_full hrest i2 hf]
      exact hJ.keep i1 hb1
end Td
end Go.Proofs.Ytgkdidnmndmlhaa
