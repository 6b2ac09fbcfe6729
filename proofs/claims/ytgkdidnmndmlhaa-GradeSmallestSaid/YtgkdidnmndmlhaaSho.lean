import Derived.Test.YtgkdidnmndmlhaaItr
/- What samples show: the iterator. -/
namespace Go.Proofs.Ytgkdidnmndmlhaa
open Go.RowKit
namespace Td
set_option linter.unusedSimpArgs false
set_option linter.unusedVariables false
attribute [local go_sem] Oper.semAt_some
abbrev hpP (g : Nat) : Value := .pointer (some ⟨g, 0, none⟩)
set_option maxHeartbeats 1000000 in
theorem shows_c (g : Nat) (P b n : Int) (w : World) :
    Calls Try.prog 56 #[hpP g, .int .i64 P, .int .i64 b, .int .i64 n] w fun e w' =>
      e = .returned (.func (.func 85) #[] #[hpP (w.heap.size + 1), hpP (w.heap.size + 1 + 1), hpP (w.heap.size + 1 + 1 + 1), hpP w.heap.size]) ∧
      (((w.alloc (.cells #[hpP g] 87)).alloc (.cells #[.int .i64 P] 3)).alloc (.cells #[.int .i64 b] 3)).alloc (.cells #[.int .i64 n] 3) = w' := by
  go_enter Try.func56, Try.ntmps56
  go_wp2
  go_ret
  exact ⟨rfl, rfl⟩
/-- the iterator's boxes, as far as rounds leave them. -/
structure Cs (a b : Nat) (w₀ : World) (gP gB gN gH g : Nat) (tp lo hi : Int) (P d n : Nat) : Prop where
  pb : Blk w₀ gP 3 #[.int .i64 P]
  bb : Blk w₀ gB 3 #[.int .i64 d]
  nb : Blk w₀ gN 3 #[.int .i64 n]
  hb : Blk w₀ gH 87 #[hpP g]
  wb : Blk w₀ g 97 (hpV tp lo hi)
  nP : ¬ (a ≤ gP ∧ gP < b)
  nB : ¬ (a ≤ gB ∧ gB < b)
  nN : ¬ (a ≤ gN ∧ gN < b)
  nH : ¬ (a ≤ gH ∧ gH < b)
  nW : ¬ (a ≤ g ∧ g < b)
  dP : d ≤ P
  nL : n ≤ P
  pL : P ≤ 20
abbrev encS (x : Nat × Nat) : Array Value := #[.int .i64 (x.1 : Int), .int .i64 (x.2 : Int)]
theorem sh_fit {P d n : Nat} (hd : d ≤ P) (hP : P ≤ 20) {i : Nat} (hi : i ≤ n) (hn : n ≤ P) : I64 ((bn d i : Int) * (bn (P - d) (n - i) : Int)) := by
  have h := sh_le hd hi (n := n)
  have h2 := bn_bd' (n := P) (by omega) n
  have e : ((bn d i : Int) * (bn (P - d) (n - i) : Int)) = ((sh P d n i : Nat) : Int) := by unfold sh; push_cast; rfl
  rw [e]
  unfold I64
  omega
set_option maxRecDepth 100000 in
set_option maxHeartbeats 4000000 in
theorem shows1_in (nn : Nat) (hnn : 1 ≤ nn) {a b c ee : Nat} {w₀ : World} {gP gB gN gH g : Nat} {tp lo hi : Int} {P d n : Nat} (C : Cs a b w₀ gP gB gN gH g tp lo hi P d n)
    (l : Nat) (J Jx : List (Nat × Nat) → World → Prop) (Y : World) (hW : Below w₀.heap.size w₀ Y) (hJ : AllFrom Y.heap.size J)
    (hY : ∀ pre x W1, J pre W1 → (∃ rest, showsL P d n = pre ++ x :: rest) → YieldAt Fence.wide (nn - 1) Try.prog l (encS x) W1 fun e Y' =>
      (e = .returned (.bool true) ∧ J (pre ++ [x]) Y' ∧ Kp a b c ee W1 Y') ∨ (e = .returned (.bool false) ∧ Jx (pre ++ [x]) Y'))
    (h0 : J [] Y) :
    CallsIn Fence.wide nn Try.prog 85 #[.func (.yield l) #[] #[], hpP gP, hpP gB, hpP gN, hpP gH] Y fun e Y' =>
      (∃ v, e = .returned v) ∧ ((∃ xs, xs = showsL P d n ∧ J xs Y') ∨ (∃ pre, (∃ rest, showsL P d n = pre ++ rest) ∧ Jx pre Y')) := by
  have hdP := C.dP
  have hnP := C.nL
  have hP20 := C.pL
  have hKW : Kp a b c ee w₀ Y := .of hW
  have HK0 := Lib.hid hKW
  have HJ0 : Hid (J ((showsL P d n).take 0) Y) := h0
  have p0 := (C.pb.kp hKW C.nP).cell 0
  have p1 := (C.bb.kp hKW C.nB).cell 0
  have p2 := (C.nb.kp hKW C.nN).cell 0
  simp only [List.getElem?_toArray, List.getElem?_cons_zero] at p0 p1 p2
  have e1 : IntKind.i64.wrap ((P : Int) - (d : Int)) = ((P - d : Nat) : Int) := by rw [wrapI (by unfold I64; omega)]; omega
  have e2 : IntKind.i64.wrap ((n : Int) - ((P - d : Nat) : Int)) = (n : Int) - ((P - d : Nat) : Int) := wrapI (by unfold I64; omega)
  refine callsIn_of_wp Try.func85 rfl trivial ?_ rfl
  simp only [Try.ntmps85, List.size_toArray, List.length_cons, List.length_nil, Nat.reduceAdd, Nat.reduceSub, Array.replicate_succ, Array.replicate_zero, List.push_toArray, List.append_toArray, List.nil_append, List.cons_append]
  gi_wp2
  clear p0 p1 p2
  gi_loopw [7] (fun i wr => ∃ k : Nat, k ≤ (showsL P d n).length ∧ i = .int .i64 ((loS P d n + k : Nat) : Int) ∧ Hid (J ((showsL P d n).take k) wr) ∧ Hid (Kp a b c ee w₀ wr)) (fun i _ => hiS d n + 1 - (intOf i).toNat)
  case atStart => exact ⟨0, by omega, by unfold loS; congr 1; omega, HJ0, HK0⟩
  case round =>
    obtain ⟨k, hk, rfl, HJ, HK⟩ := hrel
    have c1 := (C.nb.kp HK.out C.nN).cell 0
    have c0 := (C.bb.kp HK.out C.nB).cell 0
    simp only [List.getElem?_toArray, List.getElem?_cons_zero] at c0 c1
    have hlen := showsL_len P d n
    rcases Nat.lt_or_ge k (showsL P d n).length with hlt | hge
    · have hgt := showsL_get hlt
      obtain ⟨i, hi⟩ : ∃ i, loS P d n + k = i := ⟨_, rfl⟩
      rw [hi] at hgt
      have hil : i ≤ hiS d n := by omega
      have hin : i ≤ n := by unfold hiS at hil; omega
      have hid : i ≤ d := by unfold hiS at hil; omega
      have hlo : n - (P - d) ≤ i := by unfold loS at hi; omega
      have HI := Lib.hid hi
      have hyy := hY ((showsL P d n).take k) ((showsL P d n)[k])
      rw [hgt] at hyy
      have HY := Lib.hid (fun X (hX : J ((showsL P d n).take k) X) => hyy X hX ⟨(showsL P d n).drop (k + 1), by rw [← hgt, ← List.drop_eq_getElem_cons hlt, List.take_append_drop]⟩)
      have HG := Lib.hid hgt
      have e9 : IntKind.i64.wrap ((bn d i : Int) * (bn (P - d) (n - i) : Int)) = ((sh P d n i : Nat) : Int) := by rw [wrapI (sh_fit C.dP C.pL hin C.nL)]; unfold sh; push_cast; rfl
      have hni : IntKind.i64.wrap ((n : Int) - (i : Int)) = ((n - i : Nat) : Int) := by rw [wrapI (by unfold I64; omega)]; omega
      have hi1 : IntKind.i64.wrap ((i : Int) + 1) = ((i + 1 : Nat) : Int) := by rw [wrapI (by unfold I64; omega)]; omega
      have t1 : (d : Int) < 21 := by omega
      have t2 : (i : Int) < 21 := by omega
      have t3 : ((P - d : Nat) : Int) < 21 := by omega
      have t4 : ((n - i : Nat) : Int) < 21 := by omega
      have t5 : d < 21 := by omega
      have t6 : i < 21 := by omega
      have t7 : P - d < 21 := by omega
      have t8 : n - i < 21 := by omega
      have mn : (i : Int) ≤ (d : Int) := by omega
      have mm : (i : Int) ≤ (n : Int) := by omega
      rw [hi]
      clear hyy hgt
      gi_wp2
      clear c0 c1
      refine Vals6T.regionAll 21 (fun X => J ((showsL P d n).take k) X ∧ Kp a b c ee w₀ X) [some 22, some 23, some 24, some 25, some 26, some 27, some 28, some 29, some 30, some 31, some 32, some 33, some 34, some 35, some 36, some 37, some 38, some 39, some 40, some 41, some 42] [.is ?_, .is ?_, .is ?_, .is ?_, .is ?_, .is ?_, .is ?_, .is ?_, .is ?_, .is ?_, .is ?_, .is ?_, .is ?_, .is ?_, .is ?_, .is ?_, .is ?_, .is ?_, .is ?_, .is ?_, .is ?_] (.inl rfl) (by kernel_rfl) (by kernel_rfl) (by kernel_rfl) rfl (by kernel_rfl) (by kernel_rfl) (by kernel_rfl) (by kernel_rfl) (by kernel_rfl) (by kernel_rfl) rfl (⟨AllFrom.keep hJ HJ.out ((Below.refl _ _).drew), HK.out.then ((Below.refl _ _).drew)⟩) ?hsteps ?hend
      case hsteps =>
        refine Vals5.Steps.run rfl (Vals5.Stable.is _) ?_ ?_
        · intro a W hS pre old K hK
          have e0 := old 0 _ (by kernel_rfl) rfl
          clear pre old
          simp only [Vals5.fits, Array.getD_eq_getD_getElem?, List.getElem?_toArray, List.getElem?_cons_zero, List.getElem?_cons_succ, Option.getD_some] at e0
          go_simp
          refine hK _ _ hS (Below.refl _ _) ?_
          exact fits_is _ _
        refine Vals5.Steps.run rfl (Vals5.Stable.is _) ?_ ?_
        · intro a W hS pre old K hK
          have e7 := old 7 _ (by kernel_rfl) rfl
          clear pre old
          simp only [Vals5.fits, Array.getD_eq_getD_getElem?, List.getElem?_toArray, List.getElem?_cons_zero, List.getElem?_cons_succ, Option.getD_some] at e7
          go_simp
          refine hK _ _ hS (Below.refl _ _) ?_
          exact fits_is _ _
        refine Vals5.Steps.run rfl (Vals5.Stable.is _) ?_ ?_
        · intro a W hS pre old K hK
          have e4 := old 4 _ (by kernel_rfl) rfl
          clear pre old
          simp only [Vals5.fits, Array.getD_eq_getD_getElem?, List.getElem?_toArray, List.getElem?_cons_zero, List.getElem?_cons_succ, Option.getD_some] at e4
          have hS9 := hS
          obtain ⟨q1, q0⟩ := hS9
          have c0 := (C.bb.kp q0 C.nB).cell 0
          have c1 := (C.nb.kp q0 C.nN).cell 0
          have c2 := (C.hb.kp q0 C.nH).cell 0
          have c3 := (C.wb.kp q0 C.nW).way (n := d) (k := i) (by omega) (by omega)
          have c4 := (C.wb.kp q0 C.nW).way (n := P - d) (k := n - i) (by omega) (by omega)
          simp only [List.getElem?_toArray, List.getElem?_cons_zero] at c0 c1 c2
          go_simp
          refine hK _ _ hS (Below.refl _ _) ?_
          exact fits_is _ _
        refine Vals5.Steps.run rfl (Vals5.Stable.is _) ?_ ?_
        · intro a W hS pre old K hK
          have e2 := old 2 _ (by kernel_rfl) rfl
          clear pre old
          simp only [Vals5.fits, Array.getD_eq_getD_getElem?, List.getElem?_toArray, List.getElem?_cons_zero, List.getElem?_cons_succ, Option.getD_some] at e2
          have hS9 := hS
          obtain ⟨q1, q0⟩ := hS9
          have c0 := (C.bb.kp q0 C.nB).cell 0
          have c1 := (C.nb.kp q0 C.nN).cell 0
          have c2 := (C.hb.kp q0 C.nH).cell 0
          have c3 := (C.wb.kp q0 C.nW).way (n := d) (k := i) (by omega) (by omega)
          have c4 := (C.wb.kp q0 C.nW).way (n := P - d) (k := n - i) (by omega) (by omega)
          simp only [List.getElem?_toArray, List.getElem?_cons_zero] at c0 c1 c2
          go_simp
          refine hK _ _ hS (Below.refl _ _) ?_
          exact fits_is _ _
        refine Vals5.Steps.run rfl (Vals5.Stable.is _) ?_ ?_
        · intro a W hS pre old K hK
          have e7 := old 7 _ (by kernel_rfl) rfl
          clear pre old
          simp only [Vals5.fits, Array.getD_eq_getD_getElem?, List.getElem?_toArray, List.getElem?_cons_zero, List.getElem?_cons_succ, Option.getD_some] at e7
          go_simp
          refine hK _ _ hS (Below.refl _ _) ?_
          exact fits_is _ _
        refine Vals5.Steps.run rfl (Vals5.Stable.is _) ?_ ?_
        · intro a W hS pre old K hK
          have e24 := pre 2 24 _ (by kernel_rfl) rfl rfl
          clear pre old
          simp only [Vals5.fits, Array.getD_eq_getD_getElem?, List.getElem?_toArray, List.getElem?_cons_zero, List.getElem?_cons_succ, Option.getD_some] at e24
          go_simp
          refine hK _ _ hS (Below.refl _ _) ?_
          exact fits_is _ _
        refine Vals5.Steps.run rfl (Vals5.Stable.is _) ?_ ?_
        · intro a W hS pre old K hK
          have e27 := pre 5 27 _ (by kernel_rfl) rfl rfl
          clear pre old
          simp only [Vals5.fits, Array.getD_eq_getD_getElem?, List.getElem?_toArray, List.getElem?_cons_zero, List.getElem?_cons_succ, Option.getD_some] at e27
          go_simp
          refine hK _ _ hS (Below.refl _ _) ?_
          exact fits_is _ _
        refine Vals5.Steps.run rfl (Vals5.Stable.is _) ?_ ?_
        · intro a W hS pre old K hK
          have e25 := pre 3 25 _ (by kernel_rfl) rfl rfl
          have e28 := pre 6 28 _ (by kernel_rfl) rfl rfl
          clear pre old
          simp only [Vals5.fits, Array.getD_eq_getD_getElem?, List.getElem?_toArray, List.getElem?_cons_zero, List.getElem?_cons_succ, Option.getD_some] at e25 e28
          go_simp
          refine hK _ _ hS (Below.refl _ _) ?_
          exact fits_is _ _
        refine Vals5.Steps.run rfl (Vals5.Stable.is _) ?_ ?_
        · intro a W hS pre old K hK
          have e26 := pre 4 26 _ (by kernel_rfl) rfl rfl
          have e29 := pre 7 29 _ (by kernel_rfl) rfl rfl
          clear pre old
          simp only [Vals5.fits, Array.getD_eq_getD_getElem?, List.getElem?_toArray, List.getElem?_cons_zero, List.getElem?_cons_succ, Option.getD_some] at e26 e29
          go_simp
          refine hK _ _ hS (Below.refl _ _) ?_
          exact fits_is _ _
        refine Vals5.Steps.run rfl (Vals5.Stable.is _) ?_ ?_
        · intro a W hS pre old K hK
          have e30 := pre 8 30 _ (by kernel_rfl) rfl rfl
          clear pre old
          simp only [Vals5.fits, Array.getD_eq_getD_getElem?, List.getElem?_toArray, List.getElem?_cons_zero, List.getElem?_cons_succ, Option.getD_some] at e30
          have hS9 := hS
          obtain ⟨q1, q0⟩ := hS9
          have c0 := (C.bb.kp q0 C.nB).cell 0
          have c1 := (C.nb.kp q0 C.nN).cell 0
          have c2 := (C.hb.kp q0 C.nH).cell 0
          have c3 := (C.wb.kp q0 C.nW).way (n := d) (k := i) (by omega) (by omega)
          have c4 := (C.wb.kp q0 C.nW).way (n := P - d) (k := n - i) (by omega) (by omega)
          simp only [List.getElem?_toArray, List.getElem?_cons_zero] at c0 c1 c2
          go_simp
          refine hK _ _ hS (Below.refl _ _) ?_
          exact fits_is _ _
        refine Vals5.Steps.run rfl (Vals5.Stable.is _) ?_ ?_
        · intro a W hS pre old K hK
          have e4 := old 4 _ (by kernel_rfl) rfl
          clear pre old
          simp only [Vals5.fits, Array.getD_eq_getD_getElem?, List.getElem?_toArray, List.getElem?_cons_zero, List.getElem?_cons_succ, Option.getD_some] at e4
          have hS9 := hS
          obtain ⟨q1, q0⟩ := hS9
          have c0 := (C.bb.kp q0 C.nB).cell 0
          have c1 := (C.nb.kp q0 C.nN).cell 0
          have c2 := (C.hb.kp q0 C.nH).cell 0
          have c3 := (C.wb.kp q0 C.nW).way (n := d) (k := i) (by omega) (by omega)
          have c4 := (C.wb.kp q0 C.nW).way (n := P - d) (k := n - i) (by omega) (by omega)
          simp only [List.getElem?_toArray, List.getElem?_cons_zero] at c0 c1 c2
          go_simp
          refine hK _ _ hS (Below.refl _ _) ?_
          exact fits_is _ _
        refine Vals5.Steps.run rfl (Vals5.Stable.is _) ?_ ?_
        · intro a W hS pre old K hK
          have e6 := old 6 _ (by kernel_rfl) rfl
          clear pre old
          simp only [Vals5.fits, Array.getD_eq_getD_getElem?, List.getElem?_toArray, List.getElem?_cons_zero, List.getElem?_cons_succ, Option.getD_some] at e6
          go_simp
          refine hK _ _ hS (Below.refl _ _) ?_
          exact fits_is _ _
        refine Vals5.Steps.run rfl (Vals5.Stable.is _) ?_ ?_
        · intro a W hS pre old K hK
          have e3 := old 3 _ (by kernel_rfl) rfl
          clear pre old
          simp only [Vals5.fits, Array.getD_eq_getD_getElem?, List.getElem?_toArray, List.getElem?_cons_zero, List.getElem?_cons_succ, Option.getD_some] at e3
          have hS9 := hS
          obtain ⟨q1, q0⟩ := hS9
          have c0 := (C.bb.kp q0 C.nB).cell 0
          have c1 := (C.nb.kp q0 C.nN).cell 0
          have c2 := (C.hb.kp q0 C.nH).cell 0
          have c3 := (C.wb.kp q0 C.nW).way (n := d) (k := i) (by omega) (by omega)
          have c4 := (C.wb.kp q0 C.nW).way (n := P - d) (k := n - i) (by omega) (by omega)
          simp only [List.getElem?_toArray, List.getElem?_cons_zero] at c0 c1 c2
          go_simp
          refine hK _ _ hS (Below.refl _ _) ?_
          exact fits_is _ _
        refine Vals5.Steps.run rfl (Vals5.Stable.is _) ?_ ?_
        · intro a W hS pre old K hK
          have e7 := old 7 _ (by kernel_rfl) rfl
          clear pre old
          simp only [Vals5.fits, Array.getD_eq_getD_getElem?, List.getElem?_toArray, List.getElem?_cons_zero, List.getElem?_cons_succ, Option.getD_some] at e7
          go_simp
          refine hK _ _ hS (Below.refl _ _) ?_
          exact fits_is _ _
        refine Vals5.Steps.run rfl (Vals5.Stable.is _) ?_ ?_
        · intro a W hS pre old K hK
          have e34 := pre 12 34 _ (by kernel_rfl) rfl rfl
          have e35 := pre 13 35 _ (by kernel_rfl) rfl rfl
          clear pre old
          simp only [Vals5.fits, Array.getD_eq_getD_getElem?, List.getElem?_toArray, List.getElem?_cons_zero, List.getElem?_cons_succ, Option.getD_some] at e34 e35
          go_simp
          refine hK _ _ hS (Below.refl _ _) ?_
          exact fits_is _ _
        refine Vals5.Steps.run rfl (Vals5.Stable.is _) ?_ ?_
        · intro a W hS pre old K hK
          have e32 := pre 10 32 _ (by kernel_rfl) rfl rfl
          clear pre old
          simp only [Vals5.fits, Array.getD_eq_getD_getElem?, List.getElem?_toArray, List.getElem?_cons_zero, List.getElem?_cons_succ, Option.getD_some] at e32
          go_simp
          refine hK _ _ hS (Below.refl _ _) ?_
          exact fits_is _ _
        refine Vals5.Steps.run rfl (Vals5.Stable.is _) ?_ ?_
        · intro a W hS pre old K hK
          have e37 := pre 15 37 _ (by kernel_rfl) rfl rfl
          clear pre old
          simp only [Vals5.fits, Array.getD_eq_getD_getElem?, List.getElem?_toArray, List.getElem?_cons_zero, List.getElem?_cons_succ, Option.getD_some] at e37
          go_simp
          refine hK _ _ hS (Below.refl _ _) ?_
          exact fits_is _ _
        refine Vals5.Steps.run rfl (Vals5.Stable.is _) ?_ ?_
        · intro a W hS pre old K hK
          have e33 := pre 11 33 _ (by kernel_rfl) rfl rfl
          have e38 := pre 16 38 _ (by kernel_rfl) rfl rfl
          clear pre old
          simp only [Vals5.fits, Array.getD_eq_getD_getElem?, List.getElem?_toArray, List.getElem?_cons_zero, List.getElem?_cons_succ, Option.getD_some] at e33 e38
          go_simp
          refine hK _ _ hS (Below.refl _ _) ?_
          exact fits_is _ _
        refine Vals5.Steps.run rfl (Vals5.Stable.is _) ?_ ?_
        · intro a W hS pre old K hK
          have e36 := pre 14 36 _ (by kernel_rfl) rfl rfl
          have e39 := pre 17 39 _ (by kernel_rfl) rfl rfl
          clear pre old
          simp only [Vals5.fits, Array.getD_eq_getD_getElem?, List.getElem?_toArray, List.getElem?_cons_zero, List.getElem?_cons_succ, Option.getD_some] at e36 e39
          go_simp
          refine hK _ _ hS (Below.refl _ _) ?_
          exact fits_is _ _
        refine Vals5.Steps.run rfl (Vals5.Stable.is _) ?_ ?_
        · intro a W hS pre old K hK
          have e40 := pre 18 40 _ (by kernel_rfl) rfl rfl
          clear pre old
          simp only [Vals5.fits, Array.getD_eq_getD_getElem?, List.getElem?_toArray, List.getElem?_cons_zero, List.getElem?_cons_succ, Option.getD_some] at e40
          have hS9 := hS
          obtain ⟨q1, q0⟩ := hS9
          have c0 := (C.bb.kp q0 C.nB).cell 0
          have c1 := (C.nb.kp q0 C.nN).cell 0
          have c2 := (C.hb.kp q0 C.nH).cell 0
          have c3 := (C.wb.kp q0 C.nW).way (n := d) (k := i) (by omega) (by omega)
          have c4 := (C.wb.kp q0 C.nW).way (n := P - d) (k := n - i) (by omega) (by omega)
          simp only [List.getElem?_toArray, List.getElem?_cons_zero] at c0 c1 c2
          go_simp
          refine hK _ _ hS (Below.refl _ _) ?_
          exact fits_is _ _
        refine Vals5.Steps.run rfl (Vals5.Stable.is _) ?_ ?_
        · intro a W hS pre old K hK
          have e31 := pre 9 31 _ (by kernel_rfl) rfl rfl
          have e41 := pre 19 41 _ (by kernel_rfl) rfl rfl
          clear pre old
          simp only [Vals5.fits, Array.getD_eq_getD_getElem?, List.getElem?_toArray, List.getElem?_cons_zero, List.getElem?_cons_succ, Option.getD_some] at e31 e41
          go_simp
          refine hK _ _ hS (Below.refl _ _) ?_
          exact fits_is _ _
        exact Vals5.Steps.nil
      case hend =>
      rintro X ⟨hJX, hKX⟩
      obtain ⟨fn, tmps, assign, body, hy, hR⟩ := HY.out X hJX
      have HKX := Lib.hid hKX
      clear hKX
      simp only [Vals5.All]
      simp only [Vals.putAll, List.setIfInBounds_toArray, List.set_cons_zero, List.set_cons_succ]
      show wpListIn _ _ _ _ _ [_, _] _ _
      gi_wp2
      refine hR.mono ?_
      clear hR hy HY
      rintro e W3 (⟨rfl, hJ3, hk3⟩ | ⟨rfl, hJx3⟩)
      · have HJ3 : Hid (J ((showsL P d n).take (k + 1)) W3) := by
          show J _ _
          rw [List.take_succ_eq_append_getElem hlt, HG.out]; exact hJ3
        have HK3 := Lib.hid (HKX.out.trans hk3)
        have hrel2 : i + 1 = loS P d n + (k + 1) := by have := HI.out; omega
        gi_wp2
        go_roundw
        case rel => exact ⟨k + 1, by omega, by congr 1 <;> omega, HJ3, HK3⟩
        case measure => simp [intOf]; omega
      · gi_wp2
        refine bodyPost_ret (results_none rfl _ _ _) rfl ?_
        refine ⟨⟨_, rfl⟩, .inr ⟨_, ⟨(showsL P d n).drop (k + 1), ?_⟩, hJx3⟩⟩
        rw [List.append_assoc, List.singleton_append, ← HG.out, ← List.drop_eq_getElem_cons hlt, List.take_append_drop]
    · obtain rfl : k = (showsL P d n).length := by omega
      have HJe := HJ.out
      rw [List.take_length] at HJe
      have hle := loS_le C.dP C.nL
      obtain ⟨i, hi⟩ : ∃ i, loS P d n + (showsL P d n).length = i := ⟨_, rfl⟩
      have hih : i = hiS d n + 1 := by omega
      rw [hi]
      have hcs : (¬ (i : Int) ≤ (d : Int)) ∨ (¬ (i : Int) ≤ (n : Int)) := by unfold hiS at hih; omega
      clear hi hih hlen hk hge
      rcases hcs with t1 | t1
      · gi_wp2
        go_end0
        exact ⟨⟨_, rfl⟩, .inl HJe⟩
      · gi_wp2
        go_end0
        exact ⟨⟨_, rfl⟩, .inl HJe⟩
theorem shows_seq (nn : Nat) (hnn : 1 ≤ nn) {a b c ee : Nat} {w₀ : World} {gP gB gN gH g : Nat} {tp lo hi : Int} {P d n : Nat} (C : Cs a b w₀ gP gB gN gH g tp lo hi P d n) :
    SeqC Fence.wide nn Try.prog 85 #[hpP gP, hpP gB, hpP gN, hpP gH] encS (Kp a b c ee) (fun xs => xs = showsL P d n) (fun pre => ∃ rest, showsL P d n = pre ++ rest) (fun pre x => ∃ rest, showsL P d n = pre ++ x :: rest) w₀ :=
  fun l J Jx W hW hJ _ hY h0 => shows1_in nn hnn C l J Jx W hW hJ hY h0
theorem shows_seqR (nn : Nat) (hnn : 1 ≤ nn) {a b c ee : Nat} {w₀ : World} {gP gB gN gH g : Nat} {tp lo hi : Int} {P d n : Nat} (C : Cs a b w₀ gP gB gN gH g tp lo hi P d n) (l : Nat) :
    SeqC (Fence.wide.inRound l) nn Try.prog 85 #[hpP gP, hpP gB, hpP gN, hpP gH] encS (Kp a b c ee) (fun xs => xs = showsL P d n) (fun pre => ∃ rest, showsL P d n = pre ++ rest) (fun pre x => ∃ rest, showsL P d n = pre ++ x :: rest) w₀ := shows_seq nn hnn C
end Td
end Go.Proofs.Ytgkdidnmndmlhaa
