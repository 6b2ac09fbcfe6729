import Derived.Test.YtccacinnelmnpaaLeafC
/- The first fault of a list, by any function that finds it. -/
namespace Go.Proofs.Ytccacinnelmnpaa
open Go.RowKit
namespace Td
set_option linter.unusedSimpArgs false
set_option linter.unusedVariables false
attribute [local go_sem] Oper.semAt_some
theorem ff_at1 {F : Nat → Int} {n k : Nat} (hk : k < n) (h0 : ∀ j, j < k → F j = 0) (h : F k ≠ 0) : (ff F n).1 = k := by rw [ff_at hk h0 h]
theorem ff_at2 {F : Nat → Int} {n k : Nat} (hk : k < n) (h0 : ∀ j, j < k → F j = 0) (h : F k ≠ 0) : (ff F n).2 = F k := by rw [ff_at hk h0 h]
set_option maxRecDepth 100000 in
set_option maxHeartbeats 2000000 in
theorem ff_span_c (A : Option Addr) (l : List (Int × Int)) (c : Nat) (g : FuncId) (cp : Array Value) (F : Nat → Int) (w : World) (hc : l.length ≤ c) (hcM : c ≤ 9223372036854775807) (hp : SpAt w A l)
    (hg : ∀ (args : Array Value) (W : World), (callFunc g args).run Try.prog W = .ok (.enter g args) W)
    (hf : ∀ k (hk : k < l.length) ad, A = some ad → ∀ W : World, Below w.heap.size w W → Calls Try.prog g (#[.agg #[.int .i64 l[k].1, .int .i64 l[k].2], .slice (some ad) k c] ++ cp) W fun e W' => e = .returned (.int .i64 (F k)) ∧ Below W.heap.size W W') :
    Calls Try.prog 68 #[.slice A l.length c, .func (.func g) #[] cp] w fun e w' => e = .returned (.tuple #[.int .i64 (ff F l.length).1, .int .i64 (ff F l.length).2]) ∧ Below w.heap.size w w' := by
  have HF := Lib.hid hf
  clear hf
  go_enter Try.func68, Try.ntmps68
  go_wp2_with fail
  go_loopw [11] (fun i wr => ∃ k : Nat, k ≤ l.length ∧ i = .int .i64 k ∧ Since w wr ∧ Hid (∀ j, j < k → F j = 0)) (fun i _ => l.length - (intOf i).toNat)
  case atStart => exact ⟨0, Nat.zero_le _, rfl, Since.refl _, fun j h => absurd h (by omega)⟩
  case round =>
    obtain ⟨k, hk, rfl, hsn, H0⟩ := hrel
    by_cases hlt : k < l.length
    · obtain ⟨ad, hA, c0, c1⟩ := hp.get hlt
      have k0 := keep_cell hsn.1 c0
      have k1 := keep_cell hsn.1 c1
      clear c0 c1
      subst hA
      have hsn2 := hsn.alloc (.cells #[.int .i64 l[k].1, .int .i64 l[k].2] 23)
      have HB2 := Lib.hid (Blk.new wr 23 #[.int .i64 l[k].1, .int .i64 l[k].2])
      go_wp2_with fail
      refine Vals6.regionAll (fun X => Blk X wr.heap.size 23 #[.int .i64 l[k].1, .int .i64 l[k].2] ∧ Since w X) [some 16, some 17, some 18, some 19, some 20, some 21] [.is (.func (.func g) #[] cp), .is (.agg #[.int .i64 l[k].1, .int .i64 l[k].2]), .is (.slice (some ad) l.length c), .is (.int .i64 (k : Int)), .is (.slice (some ad) k c), .is (.int .i64 (F k))] (by kernel_rfl) rfl rfl (by kernel_rfl) (by kernel_rfl) (by kernel_rfl) (by kernel_rfl) (by kernel_rfl) (by kernel_rfl) (by kernel_rfl) (⟨HB2.out.drew, hsn2.drew⟩) ?_ ?_
      · refine Vals5.Steps.run (by kernel_rfl) (Vals5.Stable.is _) ?_ ?_
        · intro a W hS pre old K hK
          have e1 : a.tmps.getD 1 undef = .func (.func g) #[] cp := old 1 _ (by kernel_rfl) rfl
          clear pre old
          simp only [Array.getD_eq_getD_getElem?] at e1
          go_simp
          exact hK _ _ hS (Below.refl _ _) rfl
        refine Vals5.Steps.run (by kernel_rfl) (Vals5.Stable.is _) ?_ ?_
        · intro a W hS pre old K hK
          have e7 : a.tmps.getD 7 undef = .pointer (some ⟨wr.heap.size, 0, none⟩) := old 7 _ (by kernel_rfl) rfl
          clear pre old
          simp only [Array.getD_eq_getD_getElem?] at e7
          have hS9 := hS
          obtain ⟨l1, _⟩ := hS9
          have c0 := l1.cell 0
          have c1 := l1.cell 1
          simp only [List.getElem?_toArray, List.getElem?_cons_zero, List.getElem?_cons_succ] at c0 c1
          go_simp
          exact hK _ _ hS (Below.refl _ _) rfl
        refine Vals5.Steps.run (by kernel_rfl) (Vals5.Stable.is _) ?_ ?_
        · intro a W hS pre old K hK
          have e0 : a.tmps.getD 0 undef = .slice (some ad) l.length c := old 0 _ (by kernel_rfl) rfl
          clear pre old
          simp only [Array.getD_eq_getD_getElem?] at e0
          go_simp
          exact hK _ _ hS (Below.refl _ _) rfl
        refine Vals5.Steps.run (by kernel_rfl) (Vals5.Stable.is _) ?_ ?_
        · intro a W hS pre old K hK
          have e6 : a.tmps.getD 6 undef = .int .i64 (k : Int) := old 6 _ (by kernel_rfl) rfl
          clear pre old
          simp only [Array.getD_eq_getD_getElem?] at e6
          go_simp
          exact hK _ _ hS (Below.refl _ _) rfl
        refine Vals5.Steps.run (by kernel_rfl) (Vals5.Stable.is _) ?_ ?_
        · intro a W hS pre old K hK
          have e18 : a.tmps.getD 18 undef = .slice (some ad) l.length c := pre 2 18 _ (by kernel_rfl) rfl rfl
          have e19 : a.tmps.getD 19 undef = .int .i64 (k : Int) := pre 3 19 _ (by kernel_rfl) rfl rfl
          clear pre old
          simp only [Array.getD_eq_getD_getElem?] at e18 e19
          have hkc : k ≤ c := by omega
          go_simp
          exact hK _ _ hS (Below.refl _ _) rfl
        refine Vals5.Steps.run (by kernel_rfl) (Vals5.Stable.is _) ?_ ?_
        · intro a W hS pre old K hK
          have e16 : a.tmps.getD 16 undef = .func (.func g) #[] cp := pre 0 16 _ (by kernel_rfl) rfl rfl
          have e17 : a.tmps.getD 17 undef = .agg #[.int .i64 l[k].1, .int .i64 l[k].2] := pre 1 17 _ (by kernel_rfl) rfl rfl
          have e20 : a.tmps.getD 20 undef = .slice (some ad) k c := pre 4 20 _ (by kernel_rfl) rfl rfl
          clear pre old
          simp only [Array.getD_eq_getD_getElem?] at e16 e17 e20
          obtain ⟨h1, h2⟩ := hS
          have hC := HF.out k hlt ad rfl W h2.1
          go_simp
          refine hC.mono ?_
          rintro e w' ⟨rfl, hb'⟩
          exact hK _ _ ⟨h1.keep hb', h2.keep hb'⟩ hb' rfl
        exact Vals5.Steps.nil
      rintro X ⟨h1, hs3⟩
      simp only [Vals5.All, List.getLast_cons_cons, List.getLast_singleton]
      simp only [Vals.putAll, List.setIfInBounds_toArray, List.set_cons_zero, List.set_cons_succ]
      intro K hK
      go_simp
      refine hK _ _ ?_
      clear hK K
      by_cases hz : F k = 0
      · have hz' : (F k != 0) = false := by simp [hz]
        go_wp2_with fail
        go_roundw
        case rel =>
          refine ⟨k + 1, by omega, by go_num, hs3, fun j hj => ?_⟩
          rcases Nat.lt_or_ge j k with h1 | h1
          · exact H0.out j h1
          · obtain rfl : j = k := by omega
            exact hz
        case measure => simp [intOf]; omega
      · have hz' : (F k != 0) = true := by simpa using hz
        have HV := Lib.hid (ff_at hlt H0.out hz)
        clear hz
        go_wp2_with fail
        go_ret2
        exact ⟨by rw [HV.out]; rfl, hs3.1⟩
    · obtain rfl : k = l.length := by omega
      have HV := Lib.hid (ff_ok H0.out)
      go_wp2_with fail
      go_ret2
      exact ⟨by rw [HV.out]; rfl, hsn.1⟩
set_option maxRecDepth 100000 in
set_option maxHeartbeats 2000000 in
theorem ff_tool_c (A : Option Addr) (l : List (Tl)) (c : Nat) (g : FuncId) (cp : Array Value) (F : Nat → Int) (w : World) (hc : l.length ≤ c) (hcM : c ≤ 9223372036854775807) (hp : TlAt w A l)
    (hg : ∀ (args : Array Value) (W : World), (callFunc g args).run Try.prog W = .ok (.enter g args) W)
    (hf : ∀ k (hk : k < l.length) ad, A = some ad → ∀ W : World, Below w.heap.size w W → Calls Try.prog g (#[.agg #[.string l[k].name, .int .i64 l[k].err], .slice (some ad) k c] ++ cp) W fun e W' => e = .returned (.int .i64 (F k)) ∧ Below W.heap.size W W') :
    Calls Try.prog 70 #[.slice A l.length c, .func (.func g) #[] cp] w fun e w' => e = .returned (.tuple #[.int .i64 (ff F l.length).1, .int .i64 (ff F l.length).2]) ∧ Below w.heap.size w w' := by
  have HF := Lib.hid hf
  clear hf
  go_enter Try.func70, Try.ntmps70
  go_wp2_with fail
  go_loopw [11] (fun i wr => ∃ k : Nat, k ≤ l.length ∧ i = .int .i64 k ∧ Since w wr ∧ Hid (∀ j, j < k → F j = 0)) (fun i _ => l.length - (intOf i).toNat)
  case atStart => exact ⟨0, Nat.zero_le _, rfl, Since.refl _, fun j h => absurd h (by omega)⟩
  case round =>
    obtain ⟨k, hk, rfl, hsn, H0⟩ := hrel
    by_cases hlt : k < l.length
    · obtain ⟨ad, hA, c0, c1⟩ := hp.get hlt
      have k0 := keep_cell hsn.1 c0
      have k1 := keep_cell hsn.1 c1
      clear c0 c1
      subst hA
      have hsn2 := hsn.alloc (.cells #[.string l[k].name, .int .i64 l[k].err] 65)
      have HB2 := Lib.hid (Blk.new wr 65 #[.string l[k].name, .int .i64 l[k].err])
      go_wp2_with fail
      refine Vals6.regionAll (fun X => Blk X wr.heap.size 65 #[.string l[k].name, .int .i64 l[k].err] ∧ Since w X) [some 16, some 17, some 18, some 19, some 20, some 21] [.is (.func (.func g) #[] cp), .is (.agg #[.string l[k].name, .int .i64 l[k].err]), .is (.slice (some ad) l.length c), .is (.int .i64 (k : Int)), .is (.slice (some ad) k c), .is (.int .i64 (F k))] (by kernel_rfl) rfl rfl (by kernel_rfl) (by kernel_rfl) (by kernel_rfl) (by kernel_rfl) (by kernel_rfl) (by kernel_rfl) (by kernel_rfl) (⟨HB2.out.drew, hsn2.drew⟩) ?_ ?_
      · refine Vals5.Steps.run (by kernel_rfl) (Vals5.Stable.is _) ?_ ?_
        · intro a W hS pre old K hK
          have e1 : a.tmps.getD 1 undef = .func (.func g) #[] cp := old 1 _ (by kernel_rfl) rfl
          clear pre old
          simp only [Array.getD_eq_getD_getElem?] at e1
          go_simp
          exact hK _ _ hS (Below.refl _ _) rfl
        refine Vals5.Steps.run (by kernel_rfl) (Vals5.Stable.is _) ?_ ?_
        · intro a W hS pre old K hK
          have e7 : a.tmps.getD 7 undef = .pointer (some ⟨wr.heap.size, 0, none⟩) := old 7 _ (by kernel_rfl) rfl
          clear pre old
          simp only [Array.getD_eq_getD_getElem?] at e7
          have hS9 := hS
          obtain ⟨l1, _⟩ := hS9
          have c0 := l1.cell 0
          have c1 := l1.cell 1
          simp only [List.getElem?_toArray, List.getElem?_cons_zero, List.getElem?_cons_succ] at c0 c1
          go_simp
          exact hK _ _ hS (Below.refl _ _) rfl
        refine Vals5.Steps.run (by kernel_rfl) (Vals5.Stable.is _) ?_ ?_
        · intro a W hS pre old K hK
          have e0 : a.tmps.getD 0 undef = .slice (some ad) l.length c := old 0 _ (by kernel_rfl) rfl
          clear pre old
          simp only [Array.getD_eq_getD_getElem?] at e0
          go_simp
          exact hK _ _ hS (Below.refl _ _) rfl
        refine Vals5.Steps.run (by kernel_rfl) (Vals5.Stable.is _) ?_ ?_
        · intro a W hS pre old K hK
          have e6 : a.tmps.getD 6 undef = .int .i64 (k : Int) := old 6 _ (by kernel_rfl) rfl
          clear pre old
          simp only [Array.getD_eq_getD_getElem?] at e6
          go_simp
          exact hK _ _ hS (Below.refl _ _) rfl
        refine Vals5.Steps.run (by kernel_rfl) (Vals5.Stable.is _) ?_ ?_
        · intro a W hS pre old K hK
          have e18 : a.tmps.getD 18 undef = .slice (some ad) l.length c := pre 2 18 _ (by kernel_rfl) rfl rfl
          have e19 : a.tmps.getD 19 undef = .int .i64 (k : Int) := pre 3 19 _ (by kernel_rfl) rfl rfl
          clear pre old
          simp only [Array.getD_eq_getD_getElem?] at e18 e19
          have hkc : k ≤ c := by omega
          go_simp
          exact hK _ _ hS (Below.refl _ _) rfl
        refine Vals5.Steps.run (by kernel_rfl) (Vals5.Stable.is _) ?_ ?_
        · intro a W hS pre old K hK
          have e16 : a.tmps.getD 16 undef = .func (.func g) #[] cp := pre 0 16 _ (by kernel_rfl) rfl rfl
          have e17 : a.tmps.getD 17 undef = .agg #[.string l[k].name, .int .i64 l[k].err] := pre 1 17 _ (by kernel_rfl) rfl rfl
          have e20 : a.tmps.getD 20 undef = .slice (some ad) k c := pre 4 20 _ (by kernel_rfl) rfl rfl
          clear pre old
          simp only [Array.getD_eq_getD_getElem?] at e16 e17 e20
          obtain ⟨h1, h2⟩ := hS
          have hC := HF.out k hlt ad rfl W h2.1
          go_simp
          refine hC.mono ?_
          rintro e w' ⟨rfl, hb'⟩
          exact hK _ _ ⟨h1.keep hb', h2.keep hb'⟩ hb' rfl
        exact Vals5.Steps.nil
      rintro X ⟨h1, hs3⟩
      simp only [Vals5.All, List.getLast_cons_cons, List.getLast_singleton]
      simp only [Vals.putAll, List.setIfInBounds_toArray, List.set_cons_zero, List.set_cons_succ]
      intro K hK
      go_simp
      refine hK _ _ ?_
      clear hK K
      by_cases hz : F k = 0
      · have hz' : (F k != 0) = false := by simp [hz]
        go_wp2_with fail
        go_roundw
        case rel =>
          refine ⟨k + 1, by omega, by go_num, hs3, fun j hj => ?_⟩
          rcases Nat.lt_or_ge j k with h1 | h1
          · exact H0.out j h1
          · obtain rfl : j = k := by omega
            exact hz
        case measure => simp [intOf]; omega
      · have hz' : (F k != 0) = true := by simpa using hz
        have HV := Lib.hid (ff_at hlt H0.out hz)
        clear hz
        go_wp2_with fail
        go_ret2
        exact ⟨by rw [HV.out]; rfl, hs3.1⟩
    · obtain rfl : k = l.length := by omega
      have HV := Lib.hid (ff_ok H0.out)
      go_wp2_with fail
      go_ret2
      exact ⟨by rw [HV.out]; rfl, hsn.1⟩
set_option maxRecDepth 100000 in
set_option maxHeartbeats 2000000 in
theorem ff_read_c (A : Option Addr) (l : List (Rd)) (c : Nat) (g : FuncId) (cp : Array Value) (F : Nat → Int) (w : World) (hc : l.length ≤ c) (hcM : c ≤ 9223372036854775807) (hp : RdAt w A l)
    (hg : ∀ (args : Array Value) (W : World), (callFunc g args).run Try.prog W = .ok (.enter g args) W)
    (hf : ∀ k (hk : k < l.length) ad, A = some ad → ∀ W : World, Below w.heap.size w W → Calls Try.prog g (#[.agg #[.int .i64 l[k].min, .int .i64 l[k].tool, .int .i64 l[k].shown], .slice (some ad) k c] ++ cp) W fun e W' => e = .returned (.int .i64 (F k)) ∧ Below W.heap.size W W') :
    Calls Try.prog 91 #[.slice A l.length c, .func (.func g) #[] cp] w fun e w' => e = .returned (.tuple #[.int .i64 (ff F l.length).1, .int .i64 (ff F l.length).2]) ∧ Below w.heap.size w w' := by
  have HF := Lib.hid hf
  clear hf
  go_enter Try.func91, Try.ntmps91
  go_wp2_with fail
  go_loopw [11] (fun i wr => ∃ k : Nat, k ≤ l.length ∧ i = .int .i64 k ∧ Since w wr ∧ Hid (∀ j, j < k → F j = 0)) (fun i _ => l.length - (intOf i).toNat)
  case atStart => exact ⟨0, Nat.zero_le _, rfl, Since.refl _, fun j h => absurd h (by omega)⟩
  case round =>
    obtain ⟨k, hk, rfl, hsn, H0⟩ := hrel
    by_cases hlt : k < l.length
    · obtain ⟨ad, hA, c0, c1, c2⟩ := hp.get hlt
      have k0 := keep_cell hsn.1 c0
      have k1 := keep_cell hsn.1 c1
      have k2 := keep_cell hsn.1 c2
      clear c0 c1 c2
      subst hA
      have hsn2 := hsn.alloc (.cells #[.int .i64 l[k].min, .int .i64 l[k].tool, .int .i64 l[k].shown] 61)
      have HB2 := Lib.hid (Blk.new wr 61 #[.int .i64 l[k].min, .int .i64 l[k].tool, .int .i64 l[k].shown])
      go_wp2_with fail
      refine Vals6.regionAll (fun X => Blk X wr.heap.size 61 #[.int .i64 l[k].min, .int .i64 l[k].tool, .int .i64 l[k].shown] ∧ Since w X) [some 16, some 17, some 18, some 19, some 20, some 21] [.is (.func (.func g) #[] cp), .is (.agg #[.int .i64 l[k].min, .int .i64 l[k].tool, .int .i64 l[k].shown]), .is (.slice (some ad) l.length c), .is (.int .i64 (k : Int)), .is (.slice (some ad) k c), .is (.int .i64 (F k))] (by kernel_rfl) rfl rfl (by kernel_rfl) (by kernel_rfl) (by kernel_rfl) (by kernel_rfl) (by kernel_rfl) (by kernel_rfl) (by kernel_rfl) (⟨HB2.out.drew, hsn2.drew⟩) ?_ ?_
      · refine Vals5.Steps.run (by kernel_rfl) (Vals5.Stable.is _) ?_ ?_
        · intro a W hS pre old K hK
          have e1 : a.tmps.getD 1 undef = .func (.func g) #[] cp := old 1 _ (by kernel_rfl) rfl
          clear pre old
          simp only [Array.getD_eq_getD_getElem?] at e1
          go_simp
          exact hK _ _ hS (Below.refl _ _) rfl
        refine Vals5.Steps.run (by kernel_rfl) (Vals5.Stable.is _) ?_ ?_
        · intro a W hS pre old K hK
          have e7 : a.tmps.getD 7 undef = .pointer (some ⟨wr.heap.size, 0, none⟩) := old 7 _ (by kernel_rfl) rfl
          clear pre old
          simp only [Array.getD_eq_getD_getElem?] at e7
          have hS9 := hS
          obtain ⟨l1, _⟩ := hS9
          have c0 := l1.cell 0
          have c1 := l1.cell 1
          have c2 := l1.cell 2
          simp only [List.getElem?_toArray, List.getElem?_cons_zero, List.getElem?_cons_succ] at c0 c1 c2
          go_simp
          exact hK _ _ hS (Below.refl _ _) rfl
        refine Vals5.Steps.run (by kernel_rfl) (Vals5.Stable.is _) ?_ ?_
        · intro a W hS pre old K hK
          have e0 : a.tmps.getD 0 undef = .slice (some ad) l.length c := old 0 _ (by kernel_rfl) rfl
          clear pre old
          simp only [Array.getD_eq_getD_getElem?] at e0
          go_simp
          exact hK _ _ hS (Below.refl _ _) rfl
        refine Vals5.Steps.run (by kernel_rfl) (Vals5.Stable.is _) ?_ ?_
        · intro a W hS pre old K hK
          have e6 : a.tmps.getD 6 undef = .int .i64 (k : Int) := old 6 _ (by kernel_rfl) rfl
          clear pre old
          simp only [Array.getD_eq_getD_getElem?] at e6
          go_simp
          exact hK _ _ hS (Below.refl _ _) rfl
        refine Vals5.Steps.run (by kernel_rfl) (Vals5.Stable.is _) ?_ ?_
        · intro a W hS pre old K hK
          have e18 : a.tmps.getD 18 undef = .slice (some ad) l.length c := pre 2 18 _ (by kernel_rfl) rfl rfl
          have e19 : a.tmps.getD 19 undef = .int .i64 (k : Int) := pre 3 19 _ (by kernel_rfl) rfl rfl
          clear pre old
          simp only [Array.getD_eq_getD_getElem?] at e18 e19
          have hkc : k ≤ c := by omega
          go_simp
          exact hK _ _ hS (Below.refl _ _) rfl
        refine Vals5.Steps.run (by kernel_rfl) (Vals5.Stable.is _) ?_ ?_
        · intro a W hS pre old K hK
          have e16 : a.tmps.getD 16 undef = .func (.func g) #[] cp := pre 0 16 _ (by kernel_rfl) rfl rfl
          have e17 : a.tmps.getD 17 undef = .agg #[.int .i64 l[k].min, .int .i64 l[k].tool, .int .i64 l[k].shown] := pre 1 17 _ (by kernel_rfl) rfl rfl
          have e20 : a.tmps.getD 20 undef = .slice (some ad) k c := pre 4 20 _ (by kernel_rfl) rfl rfl
          clear pre old
          simp only [Array.getD_eq_getD_getElem?] at e16 e17 e20
          obtain ⟨h1, h2⟩ := hS
          have hC := HF.out k hlt ad rfl W h2.1
          go_simp
          refine hC.mono ?_
          rintro e w' ⟨rfl, hb'⟩
          exact hK _ _ ⟨h1.keep hb', h2.keep hb'⟩ hb' rfl
        exact Vals5.Steps.nil
      rintro X ⟨h1, hs3⟩
      simp only [Vals5.All, List.getLast_cons_cons, List.getLast_singleton]
      simp only [Vals.putAll, List.setIfInBounds_toArray, List.set_cons_zero, List.set_cons_succ]
      intro K hK
      go_simp
      refine hK _ _ ?_
      clear hK K
      by_cases hz : F k = 0
      · have hz' : (F k != 0) = false := by simp [hz]
        go_wp2_with fail
        go_roundw
        case rel =>
          refine ⟨k + 1, by omega, by go_num, hs3, fun j hj => ?_⟩
          rcases Nat.lt_or_ge j k with h1 | h1
          · exact H0.out j h1
          · obtain rfl : j = k := by omega
            exact hz
        case measure => simp [intOf]; omega
      · have hz' : (F k != 0) = true := by simpa using hz
        have HV := Lib.hid (ff_at hlt H0.out hz)
        clear hz
        go_wp2_with fail
        go_ret2
        exact ⟨by rw [HV.out]; rfl, hs3.1⟩
    · obtain rfl : k = l.length := by omega
      have HV := Lib.hid (ff_ok H0.out)
      go_wp2_with fail
      go_ret2
      exact ⟨by rw [HV.out]; rfl, hsn.1⟩
end Td
end Go.Proofs.Ytccacinnelmnpaa
