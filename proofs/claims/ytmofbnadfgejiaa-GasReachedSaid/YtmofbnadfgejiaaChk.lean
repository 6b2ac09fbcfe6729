import Derived.Test.YtmofbnadfgejiaaLeaf
import Derived.Test.YtmofbnadfgejiaaMath
import Derived.Deep.OwnRows
import Derived.MapKept
/- The first fault of a list, by any function that finds it. -/
namespace Go.Proofs.Ytmofbnadfgejiaa
open Go.RowKit
namespace Td
set_option linter.unusedSimpArgs false
set_option linter.unusedVariables false
attribute [local go_sem] Oper.semAt_some
theorem ff_at1 {F : Nat → Int} {n k : Nat} (hk : k < n) (h0 : ∀ j, j < k → F j = 0) (h : F k ≠ 0) : (ff F n).1 = k := by rw [ff_at hk h0 h]
theorem ff_at2 {F : Nat → Int} {n k : Nat} (hk : k < n) (h0 : ∀ j, j < k → F j = 0) (h : F k ≠ 0) : (ff F n).2 = F k := by rw [ff_at hk h0 h]
set_option maxRecDepth 100000 in
set_option maxHeartbeats 2000000 in
theorem ff_span_c (A : Option Addr) (l : List (Int × Int)) (c : Nat) (g : FuncId) (cp : Array Value) (F : Nat → Int) (w : World) (hc : l.length ≤ c) (hcM : c ≤ 9223372036854775807) (hp : SpAt w A l)
    (hg : ∀ (args : Array Value) (W : World), (callFunc g args).run Try.prog W = .ok (.enter g args) W)
    (hf : ∀ k (hk : k < l.length) ad, A = some ad → ∀ W : World, Below w.heap.size w W → Calls Try.prog g (#[.agg #[.int .i64 l[k].1, .int .i64 l[k].2], .slice (some ad) k c] ++ cp) W fun e W' => e = .returned (.int .i64 (F k)) ∧ Below W.heap.size W W') :
    Calls Try.prog 68 #[.slice A l.length c, .func (.func g) #[] cp] w fun e w' => e = .returned (.tuple #[.int .i64 (ff F l.length).1, .int .i64 (ff F l.length).2]) ∧ Below w.heap.size w w' := by
  have HF := Lib.hid hf
  clear hf
  go_enter Try.func68, Try.ntmps68
  go_wp2_with fail
  go_loopw [11] (fun i wr => ∃ k : Nat, k ≤ l.length ∧ i = .int .i64 k ∧ Since w wr ∧ Hid (∀ j, j < k → F j = 0)) (fun i _ => l.length - (intOf i).toNat)
  case atStart => exact ⟨0, Nat.zero_le _, rfl, Since.refl _, fun j h => absurd h (by omega)⟩
  case round =>
    obtain ⟨k, hk, rfl, hsn, H0⟩ := hrel
    by_cases hlt : k < l.length
    · obtain ⟨ad, hA, c0, c1⟩ := hp.get hlt
      have k0 := keep_cell hsn.1 c0
      have k1 := keep_cell hsn.1 c1
      clear c0 c1
      subst hA
      have hsn2 := hsn.alloc (.cells #[.int .i64 l[k].1, .int .i64 l[k].2] 23)
      have HB2 := Lib.hid (Blk.new wr 23 #[.int .i64 l[k].1, .int .i64 l[k].2])
      go_wp2_with fail
      refine Vals6.regionAll (fun X => Blk X wr.heap.size 23 #[.int .i64 l[k].1, .int .i64 l[k].2] ∧ Since w X) [some 16, some 17, some 18, some 19, some 20, some 21] [.is (.func (.func g) #[] cp), .is (.agg #[.int .i64 l[k].1, .int .i64 l[k].2]), .is (.slice (some ad) l.length c), .is (.int .i64 (k : Int)), .is (.slice (some ad) k c), .is (.int .i64 (F k))] (by kernel_rfl) rfl rfl (by kernel_rfl) (by kernel_rfl) (by kernel_rfl) (by kernel_rfl) (by kernel_rfl) (by kernel_rfl) (by kernel_rfl) (⟨HB2.out.drew, hsn2.drew⟩) ?_ ?_
      · refine Vals5.Steps.run (by kernel_rfl) (Vals5.Stable.is _) ?_ ?_
        · intro a W hS pre old K hK
          have e1 : a.tmps.getD 1 undef = .func (.func g) #[] cp := old 1 _ (by kernel_rfl) rfl
          clear pre old
          simp only [Array.getD_eq_getD_getElem?] at e1
          go_simp
          exact hK _ _ hS (Below.refl _ _) rfl
        refine Vals5.Steps.run (by kernel_rfl) (Vals5.Stable.is _) ?_ ?_
        · intro a W hS pre old K hK
          have e7 : a.tmps.getD 7 undef = .pointer (some ⟨wr.heap.size, 0, none⟩) := old 7 _ (by kernel_rfl) rfl
          clear pre old
          simp only [Array.getD_eq_getD_getElem?] at e7
          have hS9 := hS
          obtain ⟨l1, _⟩ := hS9
          have c0 := l1.cell 0
          have c1 := l1.cell 1
          simp only [List.getElem?_toArray, List.getElem?_cons_zero, List.getElem?_cons_succ] at c0 c1
          go_simp
          exact hK _ _ hS (Below.refl _ _) rfl
        refine Vals5.Steps.run (by kernel_rfl) (Vals5.Stable.is _) ?_ ?_
        · intro a W hS pre old K hK
          have e0 : a.tmps.getD 0 undef = .slice (some ad) l.length c := old 0 _ (by kernel_rfl) rfl
          clear pre old
          simp only [Array.getD_eq_getD_getElem?] at e0
          go_simp
          exact hK _ _ hS (Below.refl _ _) rfl
        refine Vals5.Steps.run (by kernel_rfl) (Vals5.Stable.is _) ?_ ?_
        · intro a W hS pre old K hK
          have e6 : a.tmps.getD 6 undef = .int .i64 (k : Int) := old 6 _ (by kernel_rfl) rfl
          clear pre old
          simp only [Array.getD_eq_getD_getElem?] at e6
          go_simp
          exact hK _ _ hS (Below.refl _ _) rfl
        refine Vals5.Steps.run (by kernel_rfl) (Vals5.Stable.is _) ?_ ?_
        · intro a W hS pre old K hK
          have e18 : a.tmps.getD 18 undef = .slice (some ad) l.length c := pre 2 18 _ (by kernel_rfl) rfl rfl
          have e19 : a.tmps.getD 19 undef = .int .i64 (k : Int) := pre 3 19 _ (by kernel_rfl) rfl rfl
          clear pre old
          simp only [Array.getD_eq_getD_getElem?] at e18 e19
          have hkc : k ≤ c := by omega
          go_simp
          exact hK _ _ hS (Below.refl _ _) rfl
        refine Vals5.Steps.run (by kernel_rfl) (Vals5.Stable.is _) ?_ ?_
        · intro a W hS pre old K hK
          have e16 : a.tmps.getD 16 undef = .func (.func g) #[] cp := pre 0 16 _ (by kernel_rfl) rfl rfl
          have e17 : a.tmps.getD 17 undef = .agg #[.int .i64 l[k].1, .int .i64 l[k].2] := pre 1 17 _ (by kernel_rfl) rfl rfl
          have e20 : a.tmps.getD 20 undef = .slice (some ad) k c := pre 4 20 _ (by kernel_rfl) rfl rfl
          clear pre old
          simp only [Array.getD_eq_getD_getElem?] at e16 e17 e20
          obtain ⟨h1, h2⟩ := hS
          have hC := HF.out k hlt ad rfl W h2.1
          go_simp
          refine hC.mono ?_
          rintro e w' ⟨rfl, hb'⟩
          exact hK _ _ ⟨h1.keep hb', h2.keep hb'⟩ hb' rfl
        exact Vals5.Steps.nil
      rintro X ⟨h1, hs3⟩
      simp only [Vals5.All, List.getLast_cons_cons, List.getLast_singleton]
      simp only [Vals.putAll, List.setIfInBounds_toArray, List.set_cons_zero, List.set_cons_succ]
      intro K hK
      go_simp
      refine hK _ _ ?_
      clear hK K
      by_cases hz : F k = 0
      · have hz' : (F k != 0) = false := by simp [hz]
        go_wp2_with fail
        go_roundw
        case rel =>
          refine ⟨k + 1, by omega, by go_num, hs3, fun j hj => ?_⟩
          rcases Nat.lt_or_ge j k with h1 | h1
          · exact H0.out j h1
          · obtain rfl : j = k := by omega
            exact hz
        case measure => simp [intOf]; omega
      · have hz' : (F k != 0) = true := by simpa using hz
        have HV := Lib.hid (ff_at hlt H0.out hz)
        clear hz
        go_wp2_with fail
        go_ret2
        exact ⟨by rw [HV.out]; rfl, hs3.1⟩
    · obtain rfl : k = l.length := by omega
      have HV := Lib.hid (ff_ok H0.out)
      go_wp2_with fail
      go_ret2
      exact ⟨by rw [HV.out]; rfl, hsn.1⟩
set_option maxRecDepth 100000 in
set_option maxHeartbeats 2000000 in
theorem ff_tool_c (A : Option Addr) (l : List (Tl)) (c : Nat) (g : FuncId) (cp : Array Value) (F : Nat → Int) (w : World) (hc : l.length ≤ c) (hcM : c ≤ 9223372036854775807) (hp : TlAt w A l)
    (hg : ∀ (args : Array Value) (W : World), (callFunc g args).run Try.prog W = .ok (.enter g args) W)
    (hf : ∀ k (hk : k < l.length) ad, A = some ad → ∀ W : World, Below w.heap.size w W → Calls Try.prog g (#[.agg #[.string l[k].name, .int .i64 l[k].err], .slice (some ad) k c] ++ cp) W fun e W' => e = .returned (.int .i64 (F k)) ∧ Below W.heap.size W W') :
    Calls Try.prog 70 #[.slice A l.length c, .func (.func g) #[] cp] w fun e w' => e = .returned (.tuple #[.int .i64 (ff F l.length).1, .int .i64 (ff F l.length).2]) ∧ Below w.heap.size w w' := by
  have HF := Lib.hid hf
  clear hf
  go_enter Try.func70, Try.ntmps70
  go_wp2_with fail
  go_loopw [11] (fun i wr => ∃ k : Nat, k ≤ l.length ∧ i = .int .i64 k ∧ Since w wr ∧ Hid (∀ j, j < k → F j = 0)) (fun i _ => l.length - (intOf i).toNat)
  case atStart => exact ⟨0, Nat.zero_le _, rfl, Since.refl _, fun j h => absurd h (by omega)⟩
  case round =>
    obtain ⟨k, hk, rfl, hsn, H0⟩ := hrel
    by_cases hlt : k < l.length
    · obtain ⟨ad, hA, c0, c1⟩ := hp.get hlt
      have k0 := keep_cell hsn.1 c0
      have k1 := keep_cell hsn.1 c1
      clear c0 c1
      subst hA
      have hsn2 := hsn.alloc (.cells #[.string l[k].name, .int .i64 l[k].err] 65)
      have HB2 := Lib.hid (Blk.new wr 65 #[.string l[k].name, .int .i64 l[k].err])
      go_wp2_with fail
      refine Vals6.regionAll (fun X => Blk X wr.heap.size 65 #[.string l[k].name, .int .i64 l[k].err] ∧ Since w X) [some 16, some 17, some 18, some 19, some 20, some 21] [.is (.func (.func g) #[] cp), .is (.agg #[.string l[k].name, .int .i64 l[k].err]), .is (.slice (some ad) l.length c), .is (.int .i64 (k : Int)), .is (.slice (some ad) k c), .is (.int .i64 (F k))] (by kernel_rfl) rfl rfl (by kernel_rfl) (by kernel_rfl) (by kernel_rfl) (by kernel_rfl) (by kernel_rfl) (by kernel_rfl) (by kernel_rfl) (⟨HB2.out.drew, hsn2.drew⟩) ?_ ?_
      · refine Vals5.Steps.run (by kernel_rfl) (Vals5.Stable.is _) ?_ ?_
        · intro a W hS pre old K hK
          have e1 : a.tmps.getD 1 undef = .func (.func g) #[] cp := old 1 _ (by kernel_rfl) rfl
          clear pre old
          simp only [Array.getD_eq_getD_getElem?] at e1
          go_simp
          exact hK _ _ hS (Below.refl _ _) rfl
        refine Vals5.Steps.run (by kernel_rfl) (Vals5.Stable.is _) ?_ ?_
        · intro a W hS pre old K hK
          have e7 : a.tmps.getD 7 undef = .pointer (some ⟨wr.heap.size, 0, none⟩) := old 7 _ (by kernel_rfl) rfl
          clear pre old
          simp only [Array.getD_eq_getD_getElem?] at e7
          have hS9 := hS
          obtain ⟨l1, _⟩ := hS9
          have c0 := l1.cell 0
          have c1 := l1.cell 1
          simp only [List.getElem?_toArray, List.getElem?_cons_zero, List.getElem?_cons_succ] at c0 c1
          go_simp
          exact hK _ _ hS (Below.refl _ _) rfl
        refine Vals5.Steps.run (by kernel_rfl) (Vals5.Stable.is _) ?_ ?_
        · intro a W hS pre old K hK
          have e0 : a.tmps.getD 0 undef = .slice (some ad) l.length c := old 0 _ (by kernel_rfl) rfl
          clear pre old
          simp only [Array.getD_eq_getD_getElem?] at e0
          go_simp
          exact hK _ _ hS (Below.refl _ _) rfl
        refine Vals5.Steps.run (by kernel_rfl) (Vals5.Stable.is _) ?_ ?_
        · intro a W hS pre old K hK
          have e6 : a.tmps.getD 6 undef = .int .i64 (k : Int) := old 6 _ (by kernel_rfl) rfl
          clear pre old
          simp only [Array.getD_eq_getD_getElem?] at e6
          go_simp
          exact hK _ _ hS (Below.refl _ _) rfl
        refine Vals5.Steps.run (by kernel_rfl) (Vals5.Stable.is _) ?_ ?_
        · intro a W hS pre old K hK
          have e18 : a.tmps.getD 18 undef = .slice (some ad) l.length c := pre 2 18 _ (by kernel_rfl) rfl rfl
          have e19 : a.tmps.getD 19 undef = .int .i64 (k : Int) := pre 3 19 _ (by kernel_rfl) rfl rfl
          clear pre old
          simp only [Array.getD_eq_getD_getElem?] at e18 e19
          have hkc : k ≤ c := by omega
          go_simp
          exact hK _ _ hS (Below.refl _ _) rfl
        refine Vals5.Steps.run (by kernel_rfl) (Vals5.Stable.is _) ?_ ?_
        · intro a W hS pre old K hK
          have e16 : a.tmps.getD 16 undef = .func (.func g) #[] cp := pre 0 16 _ (by kernel_rfl) rfl rfl
          have e17 : a.tmps.getD 17 undef = .agg #[.string l[k].name, .int .i64 l[k].err] := pre 1 17 _ (by kernel_rfl) rfl rfl
          have e20 : a.tmps.getD 20 undef = .slice (some ad) k c := pre 4 20 _ (by kernel_rfl) rfl rfl
          clear pre old
          simp only [Array.getD_eq_getD_getElem?] at e16 e17 e20
          obtain ⟨h1, h2⟩ := hS
          have hC := HF.out k hlt ad rfl W h2.1
          go_simp
          refine hC.mono ?_
          rintro e w' ⟨rfl, hb'⟩
          exact hK _ _ ⟨h1.keep hb', h2.keep hb'⟩ hb' rfl
        exact Vals5.Steps.nil
      rintro X ⟨h1, hs3⟩
      simp only [Vals5.All, List.getLast_cons_cons, List.getLast_singleton]
      simp only [Vals.putAll, List.setIfInBounds_toArray, List.set_cons_zero, List.set_cons_succ]
      intro K hK
      go_simp
      refine hK _ _ ?_
      clear hK K
      by_cases hz : F k = 0
      · have hz' : (F k != 0) = false := by simp [hz]
        go_wp2_with fail
        go_roundw
        case rel =>
          refine ⟨k + 1, by omega, by go_num, hs3, fun j hj => ?_⟩
          rcases Nat.lt_or_ge j k with h1 | h1
          · exact H0.out j h1
          · obtain rfl : j = k := by omega
            exact hz
        case measure => simp [intOf]; omega
      · have hz' : (F k != 0) = true := by simpa using hz
        have HV := Lib.hid (ff_at hlt H0.out hz)
        clear hz
        go_wp2_with fail
        go_ret2
        exact ⟨by rw [HV.out]; rfl, hs3.1⟩
    · obtain rfl : k = l.length := by omega
      have HV := Lib.hid (ff_ok H0.out)
      go_wp2_with fail
      go_ret2
      exact ⟨by rw [HV.out]; rfl, hsn.1⟩
set_option maxRecDepth 100000 in
set_option maxHeartbeats 2000000 in
theorem ff_read_c (A : Option Addr) (l : List (Rd)) (c : Nat) (g : FuncId) (cp : Array Value) (F : Nat → Int) (w : World) (hc : l.length ≤ c) (hcM : c ≤ 9223372036854775807) (hp : RdAt w A l)
    (hg : ∀ (args : Array Value) (W : World), (callFunc g args).run Try.prog W = .ok (.enter g args) W)
    (hf : ∀ k (hk : k < l.length) ad, A = some ad → ∀ W : World, Below w.heap.size w W → Calls Try.prog g (#[.agg #[.int .i64 l[k].min, .int .i64 l[k].tool, .int .i64 l[k].shown], .slice (some ad) k c] ++ cp) W fun e W' => e = .returned (.int .i64 (F k)) ∧ Below W.heap.size W W') :
    Calls Try.prog 91 #[.slice A l.length c, .func (.func g) #[] cp] w fun e w' => e = .returned (.tuple #[.int .i64 (ff F l.length).1, .int .i64 (ff F l.length).2]) ∧ Below w.heap.size w w' := by
  have HF := Lib.hid hf
  clear hf
  go_enter Try.func91, Try.ntmps91
  go_wp2_with fail
  go_loopw [11] (fun i wr => ∃ k : Nat, k ≤ l.length ∧ i = .int .i64 k ∧ Since w wr ∧ Hid (∀ j, j < k → F j = 0)) (fun i _ => l.length - (intOf i).toNat)
  case atStart => exact ⟨0, Nat.zero_le _, rfl, Since.refl _, fun j h => absurd h (by omega)⟩
  case round =>
    obtain ⟨k, hk, rfl, hsn, H0⟩ := hrel
    by_cases hlt : k < l.length
    · obtain ⟨ad, hA, c0, c1, c2⟩ := hp.get hlt
      have k0 := keep_cell hsn.1 c0
      have k1 := keep_cell hsn.1 c1
      have k2 := keep_cell hsn.1 c2
      clear c0 c1 c2
      subst hA
      have hsn2 := hsn.alloc (.cells #[.int .i64 l[k].min, .int .i64 l[k].tool, .int .i64 l[k].shown] 61)
      have HB2 := Lib.hid (Blk.new wr 61 #[.int .i64 l[k].min, .int .i64 l[k].tool, .int .i64 l[k].shown])
      go_wp2_with fail
      refine Vals6.regionAll (fun X => Blk X wr.heap.size 61 #[.int .i64 l[k].min, .int .i64 l[k].tool, .int .i64 l[k].shown] ∧ Since w X) [some 16, some 17, some 18, some 19, some 20, some 21] [.is (.func (.func g) #[] cp), .is (.agg #[.int .i64 l[k].min, .int .i64 l[k].tool, .int .i64 l[k].shown]), .is (.slice (some ad) l.length c), .is (.int .i64 (k : Int)), .is (.slice (some ad) k c), .is (.int .i64 (F k))] (by kernel_rfl) rfl rfl (by kernel_rfl) (by kernel_rfl) (by kernel_rfl) (by kernel_rfl) (by kernel_rfl) (by kernel_rfl) (by kernel_rfl) (⟨HB2.out.drew, hsn2.drew⟩) ?_ ?_
      · refine Vals5.Steps.run (by kernel_rfl) (Vals5.Stable.is _) ?_ ?_
        · intro a W hS pre old K hK
          have e1 : a.tmps.getD 1 undef = .func (.func g) #[] cp := old 1 _ (by kernel_rfl) rfl
          clear pre old
          simp only [Array.getD_eq_getD_getElem?] at e1
          go_simp
          exact hK _ _ hS (Below.refl _ _) rfl
        refine Vals5.Steps.run (by kernel_rfl) (Vals5.Stable.is _) ?_ ?_
        · intro a W hS pre old K hK
          have e7 : a.tmps.getD 7 undef = .pointer (some ⟨wr.heap.size, 0, none⟩) := old 7 _ (by kernel_rfl) rfl
          clear pre old
          simp only [Array.getD_eq_getD_getElem?] at e7
          have hS9 := hS
          obtain ⟨l1, _⟩ := hS9
          have c0 := l1.cell 0
          have c1 := l1.cell 1
          have c2 := l1.cell 2
          simp only [List.getElem?_toArray, List.getElem?_cons_zero, List.getElem?_cons_succ] at c0 c1 c2
          go_simp
          exact hK _ _ hS (Below.refl _ _) rfl
        refine Vals5.Steps.run (by kernel_rfl) (Vals5.Stable.is _) ?_ ?_
        · intro a W hS pre old K hK
          have e0 : a.tmps.getD 0 undef = .slice (some ad) l.length c := old 0 _ (by kernel_rfl) rfl
          clear pre old
          simp only [Array.getD_eq_getD_getElem?] at e0
          go_simp
          exact hK _ _ hS (Below.refl _ _) rfl
        refine Vals5.Steps.run (by kernel_rfl) (Vals5.Stable.is _) ?_ ?_
        · intro a W hS pre old K hK
          have e6 : a.tmps.getD 6 undef = .int .i64 (k : Int) := old 6 _ (by kernel_rfl) rfl
          clear pre old
          simp only [Array.getD_eq_getD_getElem?] at e6
          go_simp
          exact hK _ _ hS (Below.refl _ _) rfl
        refine Vals5.Steps.run (by kernel_rfl) (Vals5.Stable.is _) ?_ ?_
        · intro a W hS pre old K hK
          have e18 : a.tmps.getD 18 undef = .slice (some ad) l.length c := pre 2 18 _ (by kernel_rfl) rfl rfl
          have e19 : a.tmps.getD 19 undef = .int .i64 (k : Int) := pre 3 19 _ (by kernel_rfl) rfl rfl
          clear pre old
          simp only [Array.getD_eq_getD_getElem?] at e18 e19
          have hkc : k ≤ c := by omega
          go_simp
          exact hK _ _ hS (Below.refl _ _) rfl
        refine Vals5.Steps.run (by kernel_rfl) (Vals5.Stable.is _) ?_ ?_
        · intro a W hS pre old K hK
          have e16 : a.tmps.getD 16 undef = .func (.func g) #[] cp := pre 0 16 _ (by kernel_rfl) rfl rfl
          have e17 : a.tmps.getD 17 undef = .agg #[.int .i64 l[k].min, .int .i64 l[k].tool, .int .i64 l[k].shown] := pre 1 17 _ (by kernel_rfl) rfl rfl
          have e20 : a.tmps.getD 20 undef = .slice (some ad) k c := pre 4 20 _ (by kernel_rfl) rfl rfl
          clear pre old
          simp only [Array.getD_eq_getD_getElem?] at e16 e17 e20
          obtain ⟨h1, h2⟩ := hS
          have hC := HF.out k hlt ad rfl W h2.1
          go_simp
          refine hC.mono ?_
          rintro e w' ⟨rfl, hb'⟩
          exact hK _ _ ⟨h1.keep hb', h2.keep hb'⟩ hb' rfl
        exact Vals5.Steps.nil
      rintro X ⟨h1, hs3⟩
      simp only [Vals5.All, List.getLast_cons_cons, List.getLast_singleton]
      simp only [Vals.putAll, List.setIfInBounds_toArray, List.set_cons_zero, List.set_cons_succ]
      intro K hK
      go_simp
      refine hK _ _ ?_
      clear hK K
      by_cases hz : F k = 0
      · have hz' : (F k != 0) = false := by simp [hz]
        go_wp2_with fail
        go_roundw
        case rel =>
          refine ⟨k + 1, by omega, by go_num, hs3, fun j hj => ?_⟩
          rcases Nat.lt_or_ge j k with h1 | h1
          · exact H0.out j h1
          · obtain rfl : j = k := by omega
            exact hz
        case measure => simp [intOf]; omega
      · have hz' : (F k != 0) = true := by simpa using hz
        have HV := Lib.hid (ff_at hlt H0.out hz)
        clear hz
        go_wp2_with fail
        go_ret2
        exact ⟨by rw [HV.out]; rfl, hs3.1⟩
    · obtain rfl : k = l.length := by omega
      have HV := Lib.hid (ff_ok H0.out)
      go_wp2_with fail
      go_ret2
      exact ⟨by rw [HV.out]; rfl, hsn.1⟩
end Td
end Go.Proofs.Ytmofbnadfgejiaa
/- The error of a span of minutes; those of all; the error of a space's levels. -/
namespace Go.Proofs.Ytmofbnadfgejiaa
open Go.RowKit
namespace Td
set_option linter.unusedSimpArgs false
set_option linter.unusedVariables false
attribute [local go_sem] Oper.semAt_some
def NewSp (p : Int × Int) (v : Value) (X : World) : Prop := ∃ g : Nat, v = .slice (some ⟨g, 0, none⟩) 1 1 ∧ Blk X g 23 #[.int .i64 p.1, .int .i64 p.2]
theorem NewSp.stable (p : Int × Int) : Vals5.Stable (.has (NewSp p)) := by
  rintro v w w' ⟨g, h1, h2⟩ hb
  exact ⟨g, h1, h2.keep hb⟩
theorem sw_one (lo hi : Int) (p : Int × Int) : sw lo hi [p] = (wi lo hi p.1 && wi lo hi p.2) := by simp [sw]
theorem last_take {α : Type} {l : List α} {k j : Nat} (hjl : j < l.length) (hj : k = j + 1) : (l.take k).getLast? = some l[j] := by
  subst hj
  rw [List.getLast?_eq_getElem?, List.length_take, List.getElem?_take]
  have h1 : min (j + 1) l.length - 1 = j := by omega
  rw [h1, if_pos (by omega), List.getElem?_eq_getElem (by omega)]
set_option maxRecDepth 100000 in
set_option maxHeartbeats 4000000 in
theorem blow1_c (ad : Addr) (l : List (Int × Int)) (k c : Nat) (w : World) (hk : k < l.length) (hl : l.length ≤ 1000) (hc : l.length ≤ c) (hp : SpAt w (some ad) l) :
    Calls Try.prog 69 #[.agg #[.int .i64 l[k].1, .int .i64 l[k].2], .slice (some ad) k c] w fun e w' => e = .returned (.int .i64 (blowE l[k] (l.take k))) ∧ Below w.heap.size w w' := by
  obtain ⟨E, hE⟩ : ∃ E, blowE l[k] (l.take k) = E := ⟨_, rfl⟩
  rw [hE]
  unfold blowE at hE
  have hsn0 := ((Since.refl w).alloc (.cells #[.int .i64 l[k].1, .int .i64 l[k].2] 23)).alloc (.cells #[.int .i64 l[k].1, .int .i64 l[k].2] 23)
  have HB0 := Lib.hid ((Blk.new w 23 #[.int .i64 l[k].1, .int .i64 l[k].2]).alloc (.cells #[.int .i64 l[k].1, .int .i64 l[k].2] 23))
  go_enter Try.func69, Try.ntmps69
  go_wp2_with fail
  refine (spansWithin_c _ [l[k]] _ 0 60 _ (by simp) (SpAt.one (p := l[k]) (Blk.new1 _ _ _ _))).mono ?_
  rintro e w1 ⟨rfl, hb1⟩
  have hsn1 := hsn0.keep hb1
  have HB1 := Lib.hid (HB0.out.keep hb1)
  rcases Bool.eq_false_or_eq_true (sw 0 60 [l[k]]) with h1 | h1
  · rw [if_pos h1] at hE
    rw [h1]
    clear h1
    go_wp2_with fail
    rcases Bool.eq_false_or_eq_true (tn [l[k]]) with h2 | h2
    · have HT := Lib.hid h2
      rw [if_pos h2] at hE
      clear h2
      have HE := Lib.hid hE
      clear hE
      refine Vals6.regionAll (fun X => Blk X w.heap.size 23 #[.int .i64 l[k].1, .int .i64 l[k].2] ∧ Since w X) [some 9, some 10, some 11, some 12, some 13, some 14, some 15, some 16, some 17, some 18, some 19, some 20, some 21, some 22, some 23, some 24, some 25, some 26, some 27] [.is (.agg #[.int .i64 l[k].1, .int .i64 l[k].2]), .has (NewSp l[k]), .is (.bool true), .is (.bool true), .is (undef), .is (undef), .is (undef), .is (undef), .is (undef), .is (undef), .is (undef), .is (undef), .is (undef), .is (undef), .is (undef), .is (undef), .is (undef), .is (undef), .is (undef)] (by kernel_rfl) rfl rfl (by kernel_rfl) (by kernel_rfl) (by kernel_rfl) (by kernel_rfl) (by kernel_rfl) (by kernel_rfl) (by kernel_rfl) (⟨HB1.out.drew, hsn1.drew⟩) ?_ ?_
      · refine Vals5.Steps.run (by kernel_rfl) (Vals5.Stable.is _) ?_ ?_
        · intro a W hS pre old K hK
          have e2 : a.tmps.getD 2 undef = .pointer (some ⟨w.heap.size, 0, none⟩) := old 2 _ (by kernel_rfl) rfl
          clear pre old
          simp only [Array.getD_eq_getD_getElem?] at e2
          have hS9 := hS
          obtain ⟨l1, l2⟩ := hS9
          have c0 := l1.cell 0
          have c1 := l1.cell 1
          simp only [List.getElem?_toArray, List.getElem?_cons_zero, List.getElem?_cons_succ] at c0 c1
          go_simp
          exact hK _ _ hS (Below.refl _ _) rfl
        refine Vals5.Steps.run (by kernel_rfl) (NewSp.stable _) ?_ ?_
        · intro a W hS pre old K hK
          have e9 : a.tmps.getD 9 undef = .agg #[.int .i64 l[k].1, .int .i64 l[k].2] := pre 0 9 _ (by kernel_rfl) rfl rfl
          clear pre old
          simp only [Array.getD_eq_getD_getElem?] at e9
          obtain ⟨h1, h2⟩ := hS
          go_simp
          have hb' : Below W.heap.size W (W.alloc (.cells #[.int .i64 l[k].1, .int .i64 l[k].2] 23)) := (Below.refl _ _).alloc (Nat.le_refl _) _
          exact hK _ _ ⟨h1.keep hb', h2.keep hb'⟩ hb' ⟨_, rfl, Blk.new _ _ _⟩
        refine Vals5.Steps.run (by kernel_rfl) (Vals5.Stable.is _) ?_ ?_
        · intro a W hS pre old K hK
          have f10 := pre 1 10 _ (by kernel_rfl) rfl rfl
          clear pre old
          obtain ⟨h1, h2⟩ := hS
          obtain ⟨gq, hq1, hq2⟩ := f10
          simp only [Array.getD_eq_getD_getElem?] at hq1
          go_simp
          refine (turned_c _ [l[k]] _ _ (by simp) (SpAt.one (p := l[k]) hq2)).mono ?_
          rintro e w' ⟨rfl, hb'⟩
          rw [HT.out]
          exact hK _ _ ⟨h1.keep hb', h2.keep hb'⟩ hb' rfl
        refine Vals5.Steps.run (by kernel_rfl) (Vals5.Stable.is _) ?_ ?_
        · intro a W hS pre old K hK
          have e11 : a.tmps.getD 11 undef = .bool true := pre 2 11 _ (by kernel_rfl) rfl rfl
          clear pre old
          simp only [Array.getD_eq_getD_getElem?] at e11
          go_simp
          exact hK _ _ hS (Below.refl _ _) rfl
        refine Vals5.Steps.skip (by kernel_rfl) (by kernel_rfl) ?_
        refine Vals5.Steps.skip (by kernel_rfl) (by kernel_rfl) ?_
        refine Vals5.Steps.skip (by kernel_rfl) (by kernel_rfl) ?_
        refine Vals5.Steps.skip (by kernel_rfl) (by kernel_rfl) ?_
        refine Vals5.Steps.skip (by kernel_rfl) (by kernel_rfl) ?_
        refine Vals5.Steps.skip (by kernel_rfl) (by kernel_rfl) ?_
        refine Vals5.Steps.skip (by kernel_rfl) (by kernel_rfl) ?_
        refine Vals5.Steps.skip (by kernel_rfl) (by kernel_rfl) ?_
        refine Vals5.Steps.skip (by kernel_rfl) (by kernel_rfl) ?_
        refine Vals5.Steps.skip (by kernel_rfl) (by kernel_rfl) ?_
        refine Vals5.Steps.skip (by kernel_rfl) (by kernel_rfl) ?_
        refine Vals5.Steps.skip (by kernel_rfl) (by kernel_rfl) ?_
        refine Vals5.Steps.skip (by kernel_rfl) (by kernel_rfl) ?_
        refine Vals5.Steps.skip (by kernel_rfl) (by kernel_rfl) ?_
        refine Vals5.Steps.skip (by kernel_rfl) (by kernel_rfl) ?_
        exact Vals5.Steps.nil
      rintro X ⟨h1, hs3⟩
      simp only [Vals5.All, List.getLast_cons_cons, List.getLast_singleton]
      rintro v10 -
      simp only [Vals.putAll, List.setIfInBounds_toArray, List.set_cons_zero, List.set_cons_succ]
      intro K hK
      go_simp
      refine hK _ _ ?_
      clear hK K
      go_wp2_with fail
      go_ret
      exact ⟨ret_int HE.out, hs3.1⟩
    · have HT := Lib.hid h2
      rw [if_neg (by rw [h2]; decide)] at hE
      clear h2
      by_cases hk0 : k = 0
      · have hE' : (0 : Int) = E := by
          have ht : l.take k = [] := by rw [hk0]; rfl
          rw [ht] at hE; exact hE
        have HE := Lib.hid hE'
        have HK0 := Lib.hid hk0
        clear hE hE' hk0
        refine Vals6.regionAll (fun X => Blk X w.heap.size 23 #[.int .i64 l[k].1, .int .i64 l[k].2] ∧ Since w X) [some 9, some 10, some 11, some 12, some 13, some 14, some 15, some 16, some 17, some 18, some 19, some 20, some 21, some 22, some 23, some 24, some 25, some 26, some 27] [.is (.agg #[.int .i64 l[k].1, .int .i64 l[k].2]), .has (NewSp l[k]), .is (.bool false), .is (.bool false), .is (.slice (some ad) k c), .is (.int .i64 (k : Int)), .is (.bool false), .is (.bool false), .is (undef), .is (undef), .is (undef), .is (undef), .is (undef), .is (undef), .is (undef), .is (undef), .is (undef), .is (undef), .is (.bool false)] (by kernel_rfl) rfl rfl (by kernel_rfl) (by kernel_rfl) (by kernel_rfl) (by kernel_rfl) (by kernel_rfl) (by kernel_rfl) (by kernel_rfl) (⟨HB1.out.drew, hsn1.drew⟩) ?_ ?_
        · refine Vals5.Steps.run (by kernel_rfl) (Vals5.Stable.is _) ?_ ?_
          · intro a W hS pre old K hK
            have e2 : a.tmps.getD 2 undef = .pointer (some ⟨w.heap.size, 0, none⟩) := old 2 _ (by kernel_rfl) rfl
            clear pre old
            simp only [Array.getD_eq_getD_getElem?] at e2
            have hS9 := hS
            obtain ⟨l1, l2⟩ := hS9
            have c0 := l1.cell 0
            have c1 := l1.cell 1
            simp only [List.getElem?_toArray, List.getElem?_cons_zero, List.getElem?_cons_succ] at c0 c1
            go_simp
            exact hK _ _ hS (Below.refl _ _) rfl
          refine Vals5.Steps.run (by kernel_rfl) (NewSp.stable _) ?_ ?_
          · intro a W hS pre old K hK
            have e9 : a.tmps.getD 9 undef = .agg #[.int .i64 l[k].1, .int .i64 l[k].2] := pre 0 9 _ (by kernel_rfl) rfl rfl
            clear pre old
            simp only [Array.getD_eq_getD_getElem?] at e9
            obtain ⟨h1, h2⟩ := hS
            go_simp
            have hb' : Below W.heap.size W (W.alloc (.cells #[.int .i64 l[k].1, .int .i64 l[k].2] 23)) := (Below.refl _ _).alloc (Nat.le_refl _) _
            exact hK _ _ ⟨h1.keep hb', h2.keep hb'⟩ hb' ⟨_, rfl, Blk.new _ _ _⟩
          refine Vals5.Steps.run (by kernel_rfl) (Vals5.Stable.is _) ?_ ?_
          · intro a W hS pre old K hK
            have f10 := pre 1 10 _ (by kernel_rfl) rfl rfl
            clear pre old
            obtain ⟨h1, h2⟩ := hS
            obtain ⟨gq, hq1, hq2⟩ := f10
            simp only [Array.getD_eq_getD_getElem?] at hq1
            go_simp
            refine (turned_c _ [l[k]] _ _ (by simp) (SpAt.one (p := l[k]) hq2)).mono ?_
            rintro e w' ⟨rfl, hb'⟩
            rw [HT.out]
            exact hK _ _ ⟨h1.keep hb', h2.keep hb'⟩ hb' rfl
          refine Vals5.Steps.run (by kernel_rfl) (Vals5.Stable.is _) ?_ ?_
          · intro a W hS pre old K hK
            have e11 : a.tmps.getD 11 undef = .bool false := pre 2 11 _ (by kernel_rfl) rfl rfl
            clear pre old
            simp only [Array.getD_eq_getD_getElem?] at e11
            go_simp
            exact hK _ _ hS (Below.refl _ _) rfl
          refine Vals5.Steps.run (by kernel_rfl) (Vals5.Stable.is _) ?_ ?_
          · intro a W hS pre old K hK
            have e1 : a.tmps.getD 1 undef = .slice (some ad) k c := old 1 _ (by kernel_rfl) rfl
            clear pre old
            simp only [Array.getD_eq_getD_getElem?] at e1
            go_simp
            exact hK _ _ hS (Below.refl _ _) rfl
          refine Vals5.Steps.run (by kernel_rfl) (Vals5.Stable.is _) ?_ ?_
          · intro a W hS pre old K hK
            have e13 : a.tmps.getD 13 undef = .slice (some ad) k c := pre 4 13 _ (by kernel_rfl) rfl rfl
            clear pre old
            simp only [Array.getD_eq_getD_getElem?] at e13
            go_simp
            exact hK _ _ hS (Below.refl _ _) rfl
          refine Vals5.Steps.run (by kernel_rfl) (Vals5.Stable.is _) ?_ ?_
          · intro a W hS pre old K hK
            have e14 : a.tmps.getD 14 undef = .int .i64 (k : Int) := pre 5 14 _ (by kernel_rfl) rfl rfl
            clear pre old
            simp only [Array.getD_eq_getD_getElem?] at e14
            go_simp
            exact hK _ _ hS (Below.refl _ _) (by show Value.bool _ = Value.bool _; rw [decide_eq_false (by have := HK0.out; omega)])
          refine Vals5.Steps.run (by kernel_rfl) (Vals5.Stable.is _) ?_ ?_
          · intro a W hS pre old K hK
            have e15 : a.tmps.getD 15 undef = .bool false := pre 6 15 _ (by kernel_rfl) rfl rfl
            clear pre old
            simp only [Array.getD_eq_getD_getElem?] at e15
            go_simp
            exact hK _ _ hS (Below.refl _ _) rfl
          refine Vals5.Steps.skip (by kernel_rfl) (by kernel_rfl) ?_
          refine Vals5.Steps.skip (by kernel_rfl) (by kernel_rfl) ?_
          refine Vals5.Steps.skip (by kernel_rfl) (by kernel_rfl) ?_
          refine Vals5.Steps.skip (by kernel_rfl) (by kernel_rfl) ?_
          refine Vals5.Steps.skip (by kernel_rfl) (by kernel_rfl) ?_
          refine Vals5.Steps.skip (by kernel_rfl) (by kernel_rfl) ?_
          refine Vals5.Steps.skip (by kernel_rfl) (by kernel_rfl) ?_
          refine Vals5.Steps.skip (by kernel_rfl) (by kernel_rfl) ?_
          refine Vals5.Steps.skip (by kernel_rfl) (by kernel_rfl) ?_
          refine Vals5.Steps.skip (by kernel_rfl) (by kernel_rfl) ?_
          refine Vals5.Steps.run (by kernel_rfl) (Vals5.Stable.is _) ?_ ?_
          · intro a W hS pre old K hK
            have e16 : a.tmps.getD 16 undef = .bool false := pre 7 16 _ (by kernel_rfl) rfl rfl
            have e26 : a.tmps.getD 26 undef = undef := pre 17 26 _ (by kernel_rfl) rfl rfl
            clear pre old
            simp only [Array.getD_eq_getD_getElem?] at e16 e26
            go_simp
            exact hK _ _ hS (Below.refl _ _) rfl
          exact Vals5.Steps.nil
        rintro X ⟨h1, hs3⟩
        simp only [Vals5.All, List.getLast_cons_cons, List.getLast_singleton]
        rintro v10 -
        simp only [Vals.putAll, List.setIfInBounds_toArray, List.set_cons_zero, List.set_cons_succ]
        intro K hK
        go_simp
        refine hK _ _ ?_
        clear hK K
        go_wp2_with fail
        go_ret
        exact ⟨ret_int HE.out, hs3.1⟩
      · obtain ⟨j, hj⟩ : ∃ j, k = j + 1 := ⟨k - 1, by omega⟩
        have hjl : j < l.length := by omega
        rw [last_take hjl hj] at hE
        dsimp only at hE
        obtain ⟨a0, hA0, _, hc1⟩ := hp.get (k := j) (by omega)
        obtain rfl : ad = a0 := by simpa using hA0
        have HJ := Lib.hid hc1
        have HJK := Lib.hid hj
        clear hc1 hA0 hj
        refine Vals6.regionAll (fun X => Blk X w.heap.size 23 #[.int .i64 l[k].1, .int .i64 l[k].2] ∧ Since w X) [some 9, some 10, some 11, some 12, some 13, some 14, some 15, some 16, some 17, some 18, some 19, some 20, some 21, some 22, some 23, some 24, some 25, some 26, some 27] [.is (.agg #[.int .i64 l[k].1, .int .i64 l[k].2]), .has (NewSp l[k]), .is (.bool false), .is (.bool false), .is (.slice (some ad) k c), .is (.int .i64 (k : Int)), .is (.bool true), .is (.bool true), .is (.pointer (some ⟨w.heap.size, 0, none⟩)), .is (.int .i64 l[k].1), .is (.slice (some ad) k c), .is (.slice (some ad) k c), .is (.int .i64 (k : Int)), .is (.int .i64 (j : Int)), .is (.pointer (some (ad.add (j * 2)))), .is (.pointer (some (at_ (ad.add (j * 2)) 1))), .is (.int .i64 l[j].2), .is (.bool (decide (l[k].1 ≤ l[j].2))), .is (.bool (decide (l[k].1 ≤ l[j].2)))] (by kernel_rfl) rfl rfl (by kernel_rfl) (by kernel_rfl) (by kernel_rfl) (by kernel_rfl) (by kernel_rfl) (by kernel_rfl) (by kernel_rfl) (⟨HB1.out.drew, hsn1.drew⟩) ?_ ?_
        · refine Vals5.Steps.run (by kernel_rfl) (Vals5.Stable.is _) ?_ ?_
          · intro a W hS pre old K hK
            have e2 : a.tmps.getD 2 undef = .pointer (some ⟨w.heap.size, 0, none⟩) := old 2 _ (by kernel_rfl) rfl
            clear pre old
            simp only [Array.getD_eq_getD_getElem?] at e2
            have hS9 := hS
            obtain ⟨l1, l2⟩ := hS9
            have c0 := l1.cell 0
            have c1 := l1.cell 1
            simp only [List.getElem?_toArray, List.getElem?_cons_zero, List.getElem?_cons_succ] at c0 c1
            go_simp
            exact hK _ _ hS (Below.refl _ _) rfl
          refine Vals5.Steps.run (by kernel_rfl) (NewSp.stable _) ?_ ?_
          · intro a W hS pre old K hK
            have e9 : a.tmps.getD 9 undef = .agg #[.int .i64 l[k].1, .int .i64 l[k].2] := pre 0 9 _ (by kernel_rfl) rfl rfl
            clear pre old
            simp only [Array.getD_eq_getD_getElem?] at e9
            obtain ⟨h1, h2⟩ := hS
            go_simp
            have hb' : Below W.heap.size W (W.alloc (.cells #[.int .i64 l[k].1, .int .i64 l[k].2] 23)) := (Below.refl _ _).alloc (Nat.le_refl _) _
            exact hK _ _ ⟨h1.keep hb', h2.keep hb'⟩ hb' ⟨_, rfl, Blk.new _ _ _⟩
          refine Vals5.Steps.run (by kernel_rfl) (Vals5.Stable.is _) ?_ ?_
          · intro a W hS pre old K hK
            have f10 := pre 1 10 _ (by kernel_rfl) rfl rfl
            clear pre old
            obtain ⟨h1, h2⟩ := hS
            obtain ⟨gq, hq1, hq2⟩ := f10
            simp only [Array.getD_eq_getD_getElem?] at hq1
            go_simp
            refine (turned_c _ [l[k]] _ _ (by simp) (SpAt.one (p := l[k]) hq2)).mono ?_
            rintro e w' ⟨rfl, hb'⟩
            rw [HT.out]
            exact hK _ _ ⟨h1.keep hb', h2.keep hb'⟩ hb' rfl
          refine Vals5.Steps.run (by kernel_rfl) (Vals5.Stable.is _) ?_ ?_
          · intro a W hS pre old K hK
            have e11 : a.tmps.getD 11 undef = .bool false := pre 2 11 _ (by kernel_rfl) rfl rfl
            clear pre old
            simp only [Array.getD_eq_getD_getElem?] at e11
            go_simp
            exact hK _ _ hS (Below.refl _ _) rfl
          refine Vals5.Steps.run (by kernel_rfl) (Vals5.Stable.is _) ?_ ?_
          · intro a W hS pre old K hK
            have e1 : a.tmps.getD 1 undef = .slice (some ad) k c := old 1 _ (by kernel_rfl) rfl
            clear pre old
            simp only [Array.getD_eq_getD_getElem?] at e1
            go_simp
            exact hK _ _ hS (Below.refl _ _) rfl
          refine Vals5.Steps.run (by kernel_rfl) (Vals5.Stable.is _) ?_ ?_
          · intro a W hS pre old K hK
            have e13 : a.tmps.getD 13 undef = .slice (some ad) k c := pre 4 13 _ (by kernel_rfl) rfl rfl
            clear pre old
            simp only [Array.getD_eq_getD_getElem?] at e13
            go_simp
            exact hK _ _ hS (Below.refl _ _) rfl
          refine Vals5.Steps.run (by kernel_rfl) (Vals5.Stable.is _) ?_ ?_
          · intro a W hS pre old K hK
            have e14 : a.tmps.getD 14 undef = .int .i64 (k : Int) := pre 5 14 _ (by kernel_rfl) rfl rfl
            clear pre old
            simp only [Array.getD_eq_getD_getElem?] at e14
            go_simp
            exact hK _ _ hS (Below.refl _ _) (by show Value.bool _ = Value.bool _; rw [decide_eq_true (by have := HJK.out; omega)])
          refine Vals5.Steps.run (by kernel_rfl) (Vals5.Stable.is _) ?_ ?_
          · intro a W hS pre old K hK
            have e15 : a.tmps.getD 15 undef = .bool true := pre 6 15 _ (by kernel_rfl) rfl rfl
            clear pre old
            simp only [Array.getD_eq_getD_getElem?] at e15
            go_simp
            exact hK _ _ hS (Below.refl _ _) rfl
          refine Vals5.Steps.run (by kernel_rfl) (Vals5.Stable.is _) ?_ ?_
          · intro a W hS pre old K hK
            have e2 : a.tmps.getD 2 undef = .pointer (some ⟨w.heap.size, 0, none⟩) := old 2 _ (by kernel_rfl) rfl
            clear pre old
            simp only [Array.getD_eq_getD_getElem?] at e2
            go_simp
            exact hK _ _ hS (Below.refl _ _) rfl
          refine Vals5.Steps.run (by kernel_rfl) (Vals5.Stable.is _) ?_ ?_
          · intro a W hS pre old K hK
            have e17 : a.tmps.getD 17 undef = .pointer (some ⟨w.heap.size, 0, none⟩) := pre 8 17 _ (by kernel_rfl) rfl rfl
            clear pre old
            simp only [Array.getD_eq_getD_getElem?] at e17
            have hS9 := hS
            obtain ⟨l1, l2⟩ := hS9
            have c0 := l1.cell 0
            have c1 := l1.cell 1
            simp only [List.getElem?_toArray, List.getElem?_cons_zero, List.getElem?_cons_succ] at c0 c1
            go_simp
            exact hK _ _ hS (Below.refl _ _) rfl
          refine Vals5.Steps.run (by kernel_rfl) (Vals5.Stable.is _) ?_ ?_
          · intro a W hS pre old K hK
            have e1 : a.tmps.getD 1 undef = .slice (some ad) k c := old 1 _ (by kernel_rfl) rfl
            clear pre old
            simp only [Array.getD_eq_getD_getElem?] at e1
            go_simp
            exact hK _ _ hS (Below.refl _ _) rfl
          refine Vals5.Steps.run (by kernel_rfl) (Vals5.Stable.is _) ?_ ?_
          · intro a W hS pre old K hK
            have e1 : a.tmps.getD 1 undef = .slice (some ad) k c := old 1 _ (by kernel_rfl) rfl
            clear pre old
            simp only [Array.getD_eq_getD_getElem?] at e1
            go_simp
            exact hK _ _ hS (Below.refl _ _) rfl
          refine Vals5.Steps.run (by kernel_rfl) (Vals5.Stable.is _) ?_ ?_
          · intro a W hS pre old K hK
            have e20 : a.tmps.getD 20 undef = .slice (some ad) k c := pre 11 20 _ (by kernel_rfl) rfl rfl
            clear pre old
            simp only [Array.getD_eq_getD_getElem?] at e20
            go_simp
            exact hK _ _ hS (Below.refl _ _) rfl
          refine Vals5.Steps.run (by kernel_rfl) (Vals5.Stable.is _) ?_ ?_
          · intro a W hS pre old K hK
            have e21 : a.tmps.getD 21 undef = .int .i64 (k : Int) := pre 12 21 _ (by kernel_rfl) rfl rfl
            clear pre old
            simp only [Array.getD_eq_getD_getElem?] at e21
            have hw : IntKind.i64.wrap ((k : Int) - 1) = (j : Int) := by have := HJK.out; rw [IntWalk.i64_in _ (by omega)]; omega
            go_simp
            exact hK _ _ hS (Below.refl _ _) rfl
          refine Vals5.Steps.run (by kernel_rfl) (Vals5.Stable.is _) ?_ ?_
          · intro a W hS pre old K hK
            have e19 : a.tmps.getD 19 undef = .slice (some ad) k c := pre 10 19 _ (by kernel_rfl) rfl rfl
            have e22 : a.tmps.getD 22 undef = .int .i64 (j : Int) := pre 13 22 _ (by kernel_rfl) rfl rfl
            clear pre old
            simp only [Array.getD_eq_getD_getElem?] at e19 e22
            have hjk : j < k := by have := HJK.out; omega
            go_simp
            exact hK _ _ hS (Below.refl _ _) rfl
          refine Vals5.Steps.run (by kernel_rfl) (Vals5.Stable.is _) ?_ ?_
          · intro a W hS pre old K hK
            have e23 : a.tmps.getD 23 undef = .pointer (some (ad.add (j * 2))) := pre 14 23 _ (by kernel_rfl) rfl rfl
            clear pre old
            simp only [Array.getD_eq_getD_getElem?] at e23
            go_simp
            exact hK _ _ hS (Below.refl _ _) rfl
          refine Vals5.Steps.run (by kernel_rfl) (Vals5.Stable.is _) ?_ ?_
          · intro a W hS pre old K hK
            have e24 : a.tmps.getD 24 undef = .pointer (some (at_ (ad.add (j * 2)) 1)) := pre 15 24 _ (by kernel_rfl) rfl rfl
            clear pre old
            simp only [Array.getD_eq_getD_getElem?] at e24
            have c9 := keep_cell hS.2.1 HJ.out
            go_simp
            exact hK _ _ hS (Below.refl _ _) rfl
          refine Vals5.Steps.run (by kernel_rfl) (Vals5.Stable.is _) ?_ ?_
          · intro a W hS pre old K hK
            have e18 : a.tmps.getD 18 undef = .int .i64 l[k].1 := pre 9 18 _ (by kernel_rfl) rfl rfl
            have e25 : a.tmps.getD 25 undef = .int .i64 l[j].2 := pre 16 25 _ (by kernel_rfl) rfl rfl
            clear pre old
            simp only [Array.getD_eq_getD_getElem?] at e18 e25
            go_simp
            exact hK _ _ hS (Below.refl _ _) rfl
          refine Vals5.Steps.run (by kernel_rfl) (Vals5.Stable.is _) ?_ ?_
          · intro a W hS pre old K hK
            have e16 : a.tmps.getD 16 undef = .bool true := pre 7 16 _ (by kernel_rfl) rfl rfl
            have e26 : a.tmps.getD 26 undef = .bool (decide (l[k].1 ≤ l[j].2)) := pre 17 26 _ (by kernel_rfl) rfl rfl
            clear pre old
            simp only [Array.getD_eq_getD_getElem?] at e16 e26
            go_simp
            exact hK _ _ hS (Below.refl _ _) rfl
          exact Vals5.Steps.nil
        rintro X ⟨h1, hs3⟩
        simp only [Vals5.All, List.getLast_cons_cons, List.getLast_singleton]
        rintro v10 -
        simp only [Vals.putAll, List.setIfInBounds_toArray, List.set_cons_zero, List.set_cons_succ]
        intro K hK
        go_simp
        refine hK _ _ ?_
        clear hK K
        have HE := Lib.hid hE
        clear hE
        go_wp2_with fail
        · have h5 : l[k].1 ≤ l[j].2 := by assumption
          go_ret
          exact ⟨ret_int (by have := HE.out; rw [if_pos h5] at this; exact this), hs3.1⟩
        · have h5 : l[j].2 < l[k].1 := by assumption
          go_ret
          exact ⟨ret_int (by have := HE.out; rw [if_neg (by omega)] at this; exact this), hs3.1⟩
  · rw [if_neg (by rw [h1]; decide)] at hE
    rw [h1]
    go_wp2_with fail
    go_ret
    exact ⟨ret_int hE, hsn1.1⟩
set_option maxHeartbeats 1000000 in
theorem blowsFault_c (A : Option Addr) (l : List (Int × Int)) (c : Nat) (w : World) (hc : l.length ≤ c) (hcM : c ≤ 9223372036854775807) (hp : SpAt w A l) :
    Calls Try.prog 42 #[.slice A l.length c] w fun e w' => e = .returned (.tuple #[.int .i64 (blowsE l).1, .int .i64 (blowsE l).2]) ∧ Below w.heap.size w w' := by
  have hlM : (l.length : Int) ≤ 9223372036854775807 := by omega
  by_cases h4 : 4 < l.length
  · have HV : Hid (blowsE l = (0, 3)) := by show _ = _; unfold blowsE; rw [if_pos h4]
    have h4' : (4 : Int) < (l.length : Int) := by omega
    go_enter Try.func42, Try.ntmps42
    go_wp2_with fail
    go_ret2
    exact ⟨by rw [HV.out]; rfl, Below.refl _ _⟩
  · have HV : Hid (blowsE l = ff (blowAt l) l.length) := by show _ = _; unfold blowsE; rw [if_neg h4]
    have hl4 : l.length ≤ 4 := by omega
    go_enter Try.func42, Try.ntmps42
    go_wp2_with fail
    refine (ff_span_c A l c _ #[] (blowAt l) _ hc hcM hp (enters_of Try.func69 (by kernel_rfl) rfl) ?_).mono ?_
    · rintro k hk ad hA W hW
      rw [show blowAt l k = blowE l[k] (l.take k) from by simp [blowAt, List.getElem?_eq_getElem hk]]
      subst hA
      exact blow1_c ad l k c W hk (by omega) hc (hp.keep hW)
    rintro e w' ⟨rfl, hb⟩
    rw [← HV.out]
    go_wp2_with fail
    go_ret2
    exact ⟨rfl, hb⟩
set_option maxHeartbeats 2000000 in
theorem levelsFault_c (s : Spc) (m : Sl) (w : World) :
    Calls Try.prog 41 #[.agg (sV s m)] w fun e w' => e = .returned (.int .i64 (levE s)) ∧ Below w.heap.size w w' := by
  obtain ⟨E, hE⟩ : ∃ E, levE s = E := ⟨_, rfl⟩
  rw [hE]
  unfold levE at hE
  have hs0 := (Since.refl w).alloc (.cells (sV s m) 27)
  have HB0 := Lib.hid (Blk.new w 27 (sV s m))
  go_enter Try.func41, Try.ntmps41
  go_wp2_with fail
  refine (spansWithin_c _ [(s.s0, s.s1)] _ 0 200 _ (by simp) (SpAt.one (p := (s.s0, s.s1)) (Blk.new1 _ _ _ _))).mono ?_
  rintro e w1 ⟨rfl, hb1⟩
  have hs1 := (hs0.alloc _).keep hb1
  have HB1 := Lib.hid ((HB0.out.alloc _).keep hb1)
  rcases Bool.eq_false_or_eq_true (sw 0 200 [(s.s0, s.s1)]) with h1 | h1
  · obtain ⟨c0, c1, c2, c3, c4, c5, c6, c7, c8⟩ := HB1.out.space
    rw [h1]
    go_wp2_with fail
    refine (spansWithin_c _ [(s.r0, s.r1), (s.b0, s.b1)] _ (-20) 20 _ (by simp) (SpAt.two (p := (s.r0, s.r1)) (r := (s.b0, s.b1)) (Blk.new _ _ _))).mono ?_
    rintro e w2 ⟨rfl, hb2⟩
    have hs2 := (hs1.alloc _).keep hb2
    have HB2 := Lib.hid ((HB1.out.alloc _).keep hb2)
    clear c0 c1 c2 c3 c4 c5 c6 c7 c8
    rcases Bool.eq_false_or_eq_true (sw (-20) 20 [(s.r0, s.r1), (s.b0, s.b1)]) with h2 | h2
    · obtain ⟨c0, c1, c2, c3, c4, c5, c6, c7, c8⟩ := HB2.out.space
      rw [h2]
      go_wp2_with fail
      refine (within_c _ _ _ _ _ _ (Blk.new _ _ _)).mono ?_
      rintro e w3 ⟨rfl, hb3⟩
      have hs3 := (hs2.alloc _).keep hb3
      have HB3 := Lib.hid ((HB2.out.alloc _).keep hb3)
      clear c0 c1 c2 c3 c4 c5 c6 c7 c8
      rcases Bool.eq_false_or_eq_true (wi 0 200 s.lim) with h3 | h3
      · obtain ⟨c0, c1, c2, c3, c4, c5, c6, c7, c8⟩ := HB3.out.space
        rw [h3]
        go_wp2_with fail
        refine (turned_c _ [(s.s0, s.s1), (s.r0, s.r1), (s.b0, s.b1)] _ _ (by simp) (SpAt.three (p := (s.s0, s.s1)) (r := (s.r0, s.r1)) (q := (s.b0, s.b1)) (Blk.new _ _ _))).mono ?_
        rintro e w4 ⟨rfl, hb4⟩
        have hs4 := (hs3.alloc _).keep hb4
        clear c0 c1 c2 c3 c4 c5 c6 c7 c8
        rcases Bool.eq_false_or_eq_true (tn [(s.s0, s.s1), (s.r0, s.r1), (s.b0, s.b1)]) with h4 | h4
        all_goals
          rw [h1, h2, h3, h4] at hE
          rw [h4]
          go_wp2_with fail
          go_ret
          exact ⟨ret_int hE, hs4.1⟩
      · rw [h1, h2, h3] at hE
        rw [h3]
        go_wp2_with fail
        go_ret
        exact ⟨ret_int hE, hs3.1⟩
    · rw [h1, h2] at hE
      rw [h2]
      go_wp2_with fail
      go_ret
      exact ⟨ret_int hE, hs2.1⟩
  · rw [h1] at hE
    rw [h1]
    go_wp2_with fail
    go_ret
    exact ⟨ret_int hE, hs1.1⟩
end Td
end Go.Proofs.Ytmofbnadfgejiaa
/- The errors of instruments, of readings, and Check. -/
namespace Go.Proofs.Ytmofbnadfgejiaa
open Go.RowKit
namespace Td
set_option linter.unusedSimpArgs false
set_option linter.unusedVariables false
attribute [local go_sem] Oper.semAt_some
theorem Blk.tool {w : World} {g : Nat} {t : TypeId} {a : ByteArray} {b : Int} (h : Blk w g t #[.string a, .int .i64 b]) : w.cell? ⟨g, 0, none⟩ = some (.string a) ∧ w.cell? ⟨g, 1, none⟩ = some (.int .i64 b) := ⟨h.cell 0, h.cell 1⟩
theorem same1_c (u : Tl) (nm : ByteArray) (er : Int) (g : Nat) (w : World) (hg : Blk w g 65 #[.string nm, .int .i64 er]) :
    Calls Try.prog 74 #[.agg #[.string u.name, .int .i64 u.err], .pointer (some ⟨g, 0, none⟩)] w fun e w' => e = .returned (.bool (eqS u.name nm)) ∧ Below w.heap.size w w' := by
  have hs0 := (Since.refl w).alloc (.cells #[.string u.name, .int .i64 u.err] 65)
  obtain ⟨c0, c1⟩ := (hg.alloc (.cells #[.string u.name, .int .i64 u.err] 65)).tool
  go_enter Try.func74, Try.ntmps74
  go_wp2_with fail
  go_ret
  exact ⟨rfl, hs0.1⟩
def idxT (l : List Tl) (nm : ByteArray) : Int := match l.findIdx? (fun u => eqS u.name nm) with | some i => i | none => -1
theorem idxT_at {l : List Tl} {nm : ByteArray} {k : Nat} (hk : k < l.length) (h0 : ∀ j (h : j < l.length), j < k → eqS l[j].name nm = false) (h1 : eqS l[k].name nm = true) : idxT l nm = k := by
  have : l.findIdx? (fun u => eqS u.name nm) = some k := by
    rw [List.findIdx?_eq_some_iff_getElem]
    exact ⟨hk, h1, fun j hj => by simp [h0 j (by omega) hj]⟩
  simp [idxT, this]
theorem idxT_none {l : List Tl} {nm : ByteArray} (h0 : ∀ j (h : j < l.length), j < l.length → eqS l[j].name nm = false) : idxT l nm = -1 := by
  have : l.findIdx? (fun u => eqS u.name nm) = none := by
    rw [List.findIdx?_eq_none_iff]
    intro x hx
    obtain ⟨j, hj, rfl⟩ := List.mem_iff_getElem.1 hx
    exact h0 j hj hj
  simp [idxT, this]
theorem idxT_any (l : List Tl) (nm : ByteArray) : decide (0 ≤ idxT l nm) = l.any (fun u => eqS u.name nm) := by
  unfold idxT
  cases h : l.findIdx? (fun u => eqS u.name nm) with
  | none =>
    rw [List.findIdx?_eq_none_iff] at h
    symm
    simpa using h
  | some i =>
    rw [List.findIdx?_eq_some_iff_getElem] at h
    obtain ⟨hi, h1, _⟩ := h
    simp
    exact ⟨l[i], List.getElem_mem _, h1⟩
set_option maxHeartbeats 1000000 in
theorem indexFunc_c (A : Option Addr) (l : List Tl) (c : Nat) (nm : ByteArray) (er : Int) (g : Nat) (w : World) (hl : l.length ≤ 9223372036854775807) (hp : TlAt w A l) (hg : Blk w g 65 #[.string nm, .int .i64 er]) :
    Calls Try.prog 89 #[.slice A l.length c, .func (.func 74) #[] #[.pointer (some ⟨g, 0, none⟩)]] w fun e w' => e = .returned (.int .i64 (idxT l nm)) ∧ Below w.heap.size w w' := by
  go_enter Try.func89, Try.ntmps89
  go_wp2_with fail
  go_loopw [8] (fun i wr => ∃ k : Nat, k ≤ l.length ∧ i = .int .i64 k ∧ Since w wr ∧ Hid (∀ j (h : j < l.length), j < k → eqS l[j].name nm = false)) (fun i _ => l.length - (intOf i).toNat)
  case atStart => exact ⟨0, Nat.zero_le _, rfl, Since.refl _, fun j _ h => absurd h (by omega)⟩
  case round =>
    obtain ⟨k, hk, rfl, hsn, H0⟩ := hrel
    by_cases hlt : k < l.length
    · obtain ⟨ad, hA, c0, c1⟩ := hp.get hlt
      subst hA
      have k0 := keep_cell hsn.1 c0
      have k1 := keep_cell hsn.1 c1
      clear c0 c1
      go_wp2_with fail
      refine (same1_c l[k] nm er g _ (hg.keep hsn.1)).mono ?_
      rintro e w' ⟨rfl, hb⟩
      have hsn2 := hsn.keep hb
      rcases Bool.eq_false_or_eq_true (eqS l[k].name nm) with he | he
      · have HV := Lib.hid (idxT_at hlt H0.out he)
        rw [he]
        clear he k0 k1
        go_wp2_with fail
        go_ret
        exact ⟨ret_int HV.out.symm, hsn2.1⟩
      · have HE := Lib.hid he
        rw [he]
        clear he k0 k1
        go_wp2_with fail
        go_roundw
        case rel =>
          refine ⟨k + 1, by omega, by go_num, hsn2, fun j h hj => ?_⟩
          rcases Nat.lt_or_ge j k with h1 | h1
          · exact H0.out j h h1
          · obtain rfl : j = k := by omega
            exact HE.out
        case measure => simp [intOf]; omega
    · have HV := Lib.hid (idxT_none (l := l) (nm := nm) (by obtain rfl : k = l.length := by omega
                                                            exact H0.out))
      go_wp2_with fail
      go_ret
      exact ⟨ret_int HV.out.symm, hsn.1⟩
theorem containsFunc_c (A : Option Addr) (l : List Tl) (c : Nat) (nm : ByteArray) (er : Int) (g : Nat) (w : World) (hl : l.length ≤ 9223372036854775807) (hp : TlAt w A l) (hg : Blk w g 65 #[.string nm, .int .i64 er]) :
    Calls Try.prog 73 #[.slice A l.length c, .func (.func 74) #[] #[.pointer (some ⟨g, 0, none⟩)]] w fun e w' => e = .returned (.bool (l.any fun u => eqS u.name nm)) ∧ Below w.heap.size w w' := by
  go_enter Try.func73, Try.ntmps73
  go_wp2_with fail
  refine (indexFunc_c A l c nm er g _ hl hp hg).mono ?_
  rintro e w' ⟨rfl, hb⟩
  go_wp2_with fail
  go_ret
  exact ⟨ret_bool (idxT_any l nm), hb⟩
set_option maxHeartbeats 1000000 in
theorem tool1_c (ad : Addr) (l : List Tl) (k c : Nat) (w : World) (hk : k < l.length) (hl : l.length ≤ 1000) (hp : TlAt w (some ad) l) (hn : l[k].name.size ≤ maxLen) :
    Calls Try.prog 71 #[.agg #[.string l[k].name, .int .i64 l[k].err], .slice (some ad) k c] w fun e w' => e = .returned (.int .i64 (toolE l[k] (l.take k))) ∧ Below w.heap.size w w' := by
  obtain ⟨E, hE⟩ : ∃ E, toolE l[k] (l.take k) = E := ⟨_, rfl⟩
  rw [hE]
  unfold toolE at hE
  have hs0 := (Since.refl w).alloc (.cells #[.string l[k].name, .int .i64 l[k].err] 65)
  have HB0 := Lib.hid (Blk.new w 65 #[.string l[k].name, .int .i64 l[k].err])
  go_enter Try.func71, Try.ntmps71
  go_wp2_with fail
  refine (name_c _ _ hn).mono ?_
  rintro e w1 ⟨rfl, rfl⟩
  rcases Bool.eq_false_or_eq_true (isName l[k].name) with h1 | h1
  · rw [if_pos h1] at hE
    rw [h1]
    clear h1
    go_wp2_with fail
    have hlk : (l.take k).length = k := by rw [List.length_take]; omega
    have hcf := containsFunc_c (some ad) (l.take k) c l[k].name l[k].err w.heap.size (w.alloc (.cells #[.string l[k].name, .int .i64 l[k].err] 65)) (by omega) ((hp.keep hs0.1).take k) HB0.out
    rw [hlk] at hcf
    refine hcf.mono ?_
    clear hcf
    rintro e w2 ⟨rfl, hb2⟩
    have hs2 := hs0.keep hb2
    have HB2 := Lib.hid (HB0.out.keep hb2)
    rcases Bool.eq_false_or_eq_true ((l.take k).any fun u => eqS u.name l[k].name) with h2 | h2
    · rw [if_pos h2] at hE
      rw [h2]
      clear h2
      go_wp2_with fail
      go_ret
      exact ⟨ret_int hE, hs2.1⟩
    · rw [if_neg (by rw [h2]; decide)] at hE
      rw [h2]
      clear h2
      obtain ⟨c0, c1⟩ := HB2.out.tool
      go_wp2_with fail
      refine (within_c _ _ _ _ _ _ (Blk.new _ _ _)).mono ?_
      rintro e w3 ⟨rfl, hb3⟩
      have hs3 := (hs2.alloc _).keep hb3
      clear c0 c1
      rcases Bool.eq_false_or_eq_true (wi 0 50 l[k].err) with h3 | h3
      · rw [if_pos h3] at hE
        rw [h3]
        go_wp2_with fail
        go_ret
        exact ⟨ret_int hE, hs3.1⟩
      · rw [if_neg (by rw [h3]; decide)] at hE
        rw [h3]
        go_wp2_with fail
        go_ret
        exact ⟨ret_int hE, hs3.1⟩
  · rw [if_neg (by rw [h1]; decide)] at hE
    rw [h1]
    go_wp2_with fail
    go_ret
    exact ⟨ret_int hE, hs0.1⟩
set_option maxHeartbeats 1000000 in
theorem toolsFault_c (A : Option Addr) (l : List Tl) (c : Nat) (w : World) (hc : l.length ≤ c) (hcM : c ≤ 9223372036854775807) (hp : TlAt w A l) (hn : ∀ t ∈ l, t.name.size ≤ maxLen) :
    Calls Try.prog 43 #[.slice A l.length c] w fun e w' => e = .returned (.tuple #[.int .i64 (toolsE l).1, .int .i64 (toolsE l).2]) ∧ Below w.heap.size w w' := by
  obtain ⟨E, hE⟩ : ∃ E, toolsE l = E := ⟨_, rfl⟩
  rw [hE]
  unfold toolsE at hE
  have hs0 := (Since.refl w).alloc (.cells #[.int .i64 (l.length : Int)] 3)
  go_enter Try.func43, Try.ntmps43
  go_wp2_with fail
  refine (within_c _ _ _ _ _ _ (Blk.new _ _ _)).mono ?_
  rintro e w1 ⟨rfl, hb1⟩
  have hs1 := hs0.keep hb1
  rcases Bool.eq_false_or_eq_true (wi 1 3 l.length) with h1 | h1
  · have h3 : l.length ≤ 3 := by have := wi_iff.1 h1; omega
    rw [if_pos h1] at hE
    rw [h1]
    clear h1
    go_wp2_with fail
    refine (ff_tool_c A l c _ #[] (toolAt l) _ hc hcM (hp.keep hs1.1) (enters_of Try.func71 (by kernel_rfl) rfl) ?_).mono ?_
    · rintro k hk ad hA W hW
      rw [show toolAt l k = toolE l[k] (l.take k) from by simp [toolAt, List.getElem?_eq_getElem hk]]
      subst hA
      exact tool1_c ad l k c W hk (by omega) ((hp.keep hs1.1).keep hW) (hn _ (List.getElem_mem hk))
    rintro e w' ⟨rfl, hb⟩
    rw [hE]
    go_wp2_with fail
    go_ret2
    exact ⟨rfl, (hs1.keep hb).1⟩
  · rw [if_neg (by rw [h1]; decide)] at hE
    subst hE
    rw [h1]
    go_wp2_with fail
    go_ret2
    exact ⟨rfl, hs1.1⟩
set_option maxHeartbeats 1000000 in
theorem readingFault_c (s : Spc) (m : Sl) (r : Rd) (w : World) (hl : s.tools.length ≤ 1000) :
    Calls Try.prog 59 #[.agg (sV s m), .agg (rV r)] w fun e w' => e = .returned (.int .i64 (rdE s.tools.length r)) ∧ Below w.heap.size w w' := by
  obtain ⟨E, hE⟩ : ∃ E, rdE s.tools.length r = E := ⟨_, rfl⟩
  rw [hE]
  unfold rdE at hE
  have hs0 := ((Since.refl w).alloc (.cells (sV s m) 27)).alloc (.cells (rV r) 61)
  have HB0 := Lib.hid (Blk.new1 w (.cells (sV s m) 27) 61 (rV r))
  have hw : IntKind.i64.wrap ((s.tools.length : Int) - 1) = (s.tools.length : Int) - 1 := IntWalk.i64_in _ (by omega)
  go_enter Try.func59, Try.ntmps59
  go_wp2_with fail
  refine (within_c _ _ _ _ _ _ (Blk.new2 _ _ _ _ _)).mono ?_
  rintro e w1 ⟨rfl, hb1⟩
  have hs1 := (hs0.alloc _).keep hb1
  have HB1 := Lib.hid ((HB0.out.alloc _).keep hb1)
  rcases Bool.eq_false_or_eq_true (wi 0 ((s.tools.length : Int) - 1) r.tool) with h1 | h1
  · rw [if_pos h1] at hE
    rw [h1]
    clear h1
    have c0 := HB1.out.cell 0
    have c1 := HB1.out.cell 1
    have c2 := HB1.out.cell 2
    simp only [List.getElem?_toArray, List.getElem?_cons_zero, List.getElem?_cons_succ] at c0 c1 c2
    go_wp2_with fail
    refine (within_c _ _ _ _ _ _ (Blk.new _ _ _)).mono ?_
    rintro e w2 ⟨rfl, hb2⟩
    have hs2 := (hs1.alloc _).keep hb2
    have HB2 := Lib.hid ((HB1.out.alloc _).keep hb2)
    clear c0 c1 c2
    rcases Bool.eq_false_or_eq_true (wi 0 60 r.min) with h2 | h2
    · rw [h2] at hE ⊢
      rw [Bool.true_and] at hE
      clear h2
      have c0 := HB2.out.cell 0
      have c1 := HB2.out.cell 1
      have c2 := HB2.out.cell 2
      simp only [List.getElem?_toArray, List.getElem?_cons_zero, List.getElem?_cons_succ] at c0 c1 c2
      go_wp2_with fail
      refine (within_c _ _ _ _ _ _ (Blk.new _ _ _)).mono ?_
      rintro e w3 ⟨rfl, hb3⟩
      have hs3 := (hs2.alloc _).keep hb3
      clear c0 c1 c2
      rcases Bool.eq_false_or_eq_true (wi (-50) 250 r.shown) with h3 | h3
      · rw [if_pos h3] at hE
        rw [h3]
        go_wp2_with fail
        go_ret
        exact ⟨ret_int hE, hs3.1⟩
      · rw [if_neg (by rw [h3]; decide)] at hE
        rw [h3]
        go_wp2_with fail
        go_ret
        exact ⟨ret_int hE, hs3.1⟩
    · rw [h2] at hE ⊢
      rw [Bool.false_and, if_neg (by decide)] at hE
      go_wp2_with fail
      go_ret
      exact ⟨ret_int hE, hs2.1⟩
  · rw [if_neg (by rw [h1]; decide)] at hE
    rw [h1]
    go_wp2_with fail
    go_ret
    exact ⟨ret_int hE, hs1.1⟩
theorem read1_c (s : Spc) (m : Sl) (r : Rd) (A : Option Addr) (k c g : Nat) (w : World) (hl : s.tools.length ≤ 1000) (hg : Blk w g 27 (sV s m)) :
    Calls Try.prog 92 #[.agg (rV r), .slice A k c, .pointer (some ⟨g, 0, none⟩)] w fun e w' => e = .returned (.int .i64 (rdE s.tools.length r)) ∧ Below w.heap.size w w' := by
  have hs0 := (Since.refl w).alloc (.cells (rV r) 61)
  obtain ⟨c0, c1, c2, c3, c4, c5, c6, c7, c8⟩ := (hg.alloc (.cells (rV r) 61)).space
  go_enter Try.func92, Try.ntmps92
  go_wp2_with fail
  refine (readingFault_c s m r _ hl).mono ?_
  rintro e w1 ⟨rfl, hb1⟩
  clear c0 c1 c2 c3 c4 c5 c6 c7 c8
  go_wp2_with fail
  go_ret
  exact ⟨rfl, (hs0.keep hb1).1⟩
set_option maxHeartbeats 1000000 in
theorem readingsFault_c (s : Spc) (m : Sl) (A : Option Addr) (l : List Rd) (c : Nat) (w : World) (ht : s.tools.length ≤ 1000) (hc : l.length ≤ c) (hcM : c ≤ 9223372036854775807) (hp : RdAt w A l) :
    Calls Try.prog 78 #[.agg (sV s m), .slice A l.length c] w fun e w' => e = .returned (.int .i64 (rdsE s.tools.length l)) ∧ Below w.heap.size w w' := by
  obtain ⟨E, hE⟩ : ∃ E, rdsE s.tools.length l = E := ⟨_, rfl⟩
  rw [hE]
  unfold rdsE at hE
  have hs0 := (Since.refl w).alloc (.cells (sV s m) 27)
  have HB0 := Lib.hid (Blk.new w 27 (sV s m))
  have hlM : (l.length : Int) ≤ 9223372036854775807 := by omega
  by_cases h1 : 12 < l.length
  · rw [if_pos h1] at hE
    have h1' : (12 : Int) < (l.length : Int) := by omega
    go_enter Try.func78, Try.ntmps78
    go_wp2_with fail
    go_ret
    exact ⟨ret_int hE, hs0.1⟩
  · rw [if_neg h1] at hE
    have h2 : l.length ≤ 12 := by omega
    clear h1
    go_enter Try.func78, Try.ntmps78
    go_wp2_with fail
    refine (ff_read_c A l c _ #[.pointer (some ⟨w.heap.size, 0, none⟩)] (rdAt s.tools.length l) _ hc hcM (hp.keep hs0.1) (enters_of Try.func92 (by kernel_rfl) rfl) ?_).mono ?_
    · rintro k hk ad hA W hW
      rw [show rdAt s.tools.length l k = rdE s.tools.length l[k] from by simp [rdAt, List.getElem?_eq_getElem hk]]
      subst hA
      exact read1_c s m l[k] (some ad) k c w.heap.size W ht (HB0.out.keep hW)
    rintro e w' ⟨rfl, hb⟩
    rw [hE]
    go_wp2_with fail
    go_ret
    exact ⟨rfl, (hs0.keep hb).1⟩
set_option maxHeartbeats 1000000 in
theorem check_c (s : Spc) (m : Sl) (w : World) (hp : SAt w m s) :
    Calls Try.prog 15 #[.agg (sV s m)] w fun e w' => e = .returned (.tuple #[.int .i64 (chk s).1, .int .i64 (chk s).2.1, .int .i64 (chk s).2.2]) ∧ Below w.heap.size w w' := by
  have hs0 := (Since.refl w).alloc (.cells (sV s m) 27)
  have HB0 := Lib.hid (Blk.new w 27 (sV s m))
  go_enter Try.func15, Try.ntmps15
  go_wp2_with fail
  refine (levelsFault_c s m _).mono ?_
  rintro e w1 ⟨rfl, hb1⟩
  have hs1 := hs0.keep hb1
  have HB1 := Lib.hid (HB0.out.keep hb1)
  by_cases h1 : levE s = 0
  · rw [h1]
    obtain ⟨c0, c1, c2, c3, c4, c5, c6, c7, c8⟩ := HB1.out.space
    go_wp2_with fail
    refine (blowsFault_c m.A s.blows m.c _ hp.bc hp.cM (hp.bl.keep hs1.1)).mono ?_
    rintro e w2 ⟨rfl, hb2⟩
    have hs2 := hs1.keep hb2
    have HB2 := Lib.hid (HB1.out.keep hb2)
    clear c0 c1 c2 c3 c4 c5 c6 c7 c8
    by_cases h2 : (blowsE s.blows).2 = 0
    · rw [h2]
      obtain ⟨c0, c1, c2, c3, c4, c5, c6, c7, c8⟩ := HB2.out.space
      go_wp2_with fail
      refine (toolsFault_c m.T s.tools m.d _ hp.tc hp.dM (hp.tl.keep hs2.1) hp.nm).mono ?_
      rintro e w3 ⟨rfl, hb3⟩
      have hs3 := hs2.keep hb3
      clear c0 c1 c2 c3 c4 c5 c6 c7 c8
      by_cases h3 : (toolsE s.tools).2 = 0
      · have HV : Hid (chk s = (0, 0, 0)) := by show _ = _; simp [chk, h1, h2, h3]
        rw [h3]
        go_wp2_with fail
        go_ret3
        exact ⟨by rw [HV.out]; rfl, hs3.1⟩
      · have HV : Hid (chk s = (3, (toolsE s.tools).1, (toolsE s.tools).2)) := by show _ = _; simp [chk, h1, h2, h3]
        have h3' : ((toolsE s.tools).2 != 0) = true := by simpa using h3
        clear h3
        go_wp2_with fail
        go_ret3
        exact ⟨by rw [HV.out]; rfl, hs3.1⟩
    · have HV : Hid (chk s = (2, (blowsE s.blows).1, (blowsE s.blows).2)) := by show _ = _; simp [chk, h1, h2]
      have h2' : ((blowsE s.blows).2 != 0) = true := by simpa using h2
      clear h2
      go_wp2_with fail
      go_ret3
      exact ⟨by rw [HV.out]; rfl, hs2.1⟩
  · have HV : Hid (chk s = (1, 0, levE s)) := by show _ = _; simp [chk, h1]
    have h1' : (levE s != 0) = true := by simpa using h1
    clear h1
    go_wp2_with fail
    go_ret3
    exact ⟨by rw [HV.out]; rfl, hs1.1⟩
end Td
end Go.Proofs.Ytmofbnadfgejiaa
/- Following the levels minute by minute: the range over a function. -/
namespace Go.Proofs.Ytmofbnadfgejiaa
open Go.RowKit
namespace Td
set_option linter.unusedSimpArgs false
set_option linter.unusedVariables false
attribute [local go_sem] Oper.semAt_some
/-- W' keeps what W has, but for the blocks from a to b, and for what is no cells and lies at c or beyond. -/
structure Kp (a b c : Nat) (W W' : World) : Prop where
  os : W'.os = W.os
  tape : W'.tape = W.tape
  output : W'.output = W.output
  size : W.heap.size ≤ W'.heap.size
  kept : ∀ (k : Nat) (o : Obj), W.heap[k]? = some o → ¬ (a ≤ k ∧ k < b) → (o.isCells = true ∨ k < c) → W'.heap[k]? = some o
theorem Kp.of {a b c : Nat} {W W' : World} (h : Below W.heap.size W W') : Kp a b c W W' :=
  ⟨h.os, h.tape, h.output, h.size, fun k o hk _ _ => (h.block k (Array.getElem?_eq_some_iff.1 hk).1).trans hk⟩
theorem Kp.refl (a b c : Nat) (W : World) : Kp a b c W W := .of (Below.refl _ _)
theorem Kp.trans {a b c : Nat} {A B C : World} (h : Kp a b c A B) (k : Kp a b c B C) : Kp a b c A C :=
  ⟨k.os.trans h.os, k.tape.trans h.tape, k.output.trans h.output, Nat.le_trans h.size k.size, fun i o hi hn hc => k.kept i o (h.kept i o hi hn hc) hn hc⟩
theorem Kp.put {a b c : Nat} (W : World) (l : Nat) (o o' : Obj) (hl : c ≤ l) (hg : W.heap[l]? = some o) (hc : o.isCells = false) : Kp a b c W (W.putObj l o') :=
  ⟨rfl, rfl, rfl, by simp [World.putObj], fun k u hk _ hu => by
    by_cases hkl : k = l
    · subst hkl
      rw [hg] at hk
      cases hk
      rcases hu with hu | hu
      · rw [hc] at hu; cases hu
      · omega
    · exact (World.putObj_heap_other (fun e => hkl e)).trans hk⟩
theorem Kp.setCell {a b c : Nat} {A W : World} (h : Kp a b c A W) (g i : Nat) (v : Value) (ha : a ≤ g) (hb : g < b) : Kp a b c A (W.setCell ⟨g, i, none⟩ v) :=
  ⟨h.os, h.tape, h.output, by simpa using h.size, fun k o hk hn hc => (heap_setCell_other W ⟨g, i, none⟩ k v (fun e => hn (by subst e; exact ⟨ha, hb⟩))).trans (h.kept k o hk hn hc)⟩
theorem Kp.row {a b c : Nat} {A W : World} (h : Kp a b c A W) (g : Nat) (cs : Array Value) (ha : a ≤ g) (hb : g < b) : Kp a b c A (W.setRow g cs) :=
  ⟨h.os, h.tape, h.output, by rw [size_setRow]; exact h.size, fun k o hk hn hc => (setRow_other W g k cs (fun e => hn (by subst e; exact ⟨ha, hb⟩))).trans (h.kept k o hk hn hc)⟩
theorem Kp.then {a b c : Nat} {A W W' : World} (h : Kp a b c A W) (hb : Below W.heap.size W W') : Kp a b c A W' := h.trans (.of hb)
theorem Blk.kp {a b c : Nat} {W W' : World} {g : Nat} {t : TypeId} {cs : Array Value} (h : Blk W g t cs) (k : Kp a b c W W') (hg : ¬ (a ≤ g ∧ g < b)) : Blk W' g t cs := k.kept g _ h hg (.inl rfl)
theorem AllFrom.kp {β : Type} {a b c B : Nat} {w₀ : World} (hB : w₀.heap.size ≤ B) : AllFrom B (fun (_ : β) W => Kp a b c w₀ W) :=
  fun _ W W' row hs hg hr => ⟨hg.os.trans hs.os, hg.tape.trans hs.tape, hg.output.trans hs.output, Nat.le_trans hs.size hg.size, fun k o hk hn hc =>
    (hg.block k (Nat.lt_of_lt_of_le (Array.getElem?_eq_some_iff.1 hk).1 hs.size) (fun e => by have := hr k e.symm; have := (Array.getElem?_eq_some_iff.1 hk).1; omega)).trans (hs.kept k o hk hn hc)⟩
theorem AllFrom.keep {β : Type} {B : Nat} {I : β → World → Prop} (h : AllFrom B I) {s : β} {W W' : World} (hs : I s W) (hb : Below W.heap.size W W') : I s W' :=
  h s W W' none hs ⟨hb.os, hb.tape, hb.output, hb.size, fun k hk _ => hb.block k hk⟩ (fun r e => by cases e)
theorem AllFrom.row {β : Type} {B : Nat} {I : β → World → Prop} (h : AllFrom B I) {s : β} {W : World} (g : Nat) (cs : Array Value) (hs : I s W) (hB : B ≤ g) : I s (W.setRow g cs) :=
  h s W _ (some g) hs ⟨rfl, rfl, rfl, by simp, fun k hk hne => setRow_other W g k cs (fun e => hne (by rw [e]))⟩ (fun r e => by cases e; exact hB)
/-- the iterator's boxes, and what it follows, as far as rounds leave them. -/
structure Cx (a b c : Nat) (w₀ : World) (gS gM gL : Nat) (s : Spc) (m : Sl) (M : Option Nat) (rs : List Rd) (mi : Int) (o : Option (Int × Int)) : Prop where
  sb : Blk w₀ gS 93 (wV s m M)
  mb : Blk w₀ gM 3 #[.int .i64 mi]
  lb : Blk w₀ gL 95 (lV o)
  nS : ¬ (a ≤ gS ∧ gS < b)
  nM : ¬ (a ≤ gM ∧ gM < b)
  nL : ¬ (a ≤ gL ∧ gL < b)
  sa : ∀ W, Kp a b c w₀ W → SAt W m s
  mp : ∀ W, Kp a b c w₀ W → Mp W M rs
  ok : SOk s
  vd : Vd o
  ro : ∀ r ∈ rs, ROk s r
  rl : rs.length ≤ 1000
  m0 : 0 ≤ mi
  m1 : mi ≤ 60
/-- minutes that are yielded: so far there are levels. -/
def Some_ (s : Spc) (rs : List Rd) (mi : Int) (o : Option (Int × Int)) (k : Nat) : Prop := ∀ j, j < k → (lv s rs mi o j).isSome = true ∧ mi + j ≤ 60
def Ended (s : Spc) (rs : List Rd) (mi : Int) (o : Option (Int × Int)) (k : Nat) : Prop := Some_ s rs mi o k ∧ (lv s rs mi o k = none ∨ 60 < mi + k)
def Next_ (s : Spc) (rs : List Rd) (mi : Int) (o : Option (Int × Int)) (pre : List Nat) (x : Nat) : Prop := pre = List.range x ∧ Some_ s rs mi o (x + 1)
abbrev encF (s : Spc) (rs : List Rd) (mi : Int) (o : Option (Int × Int)) (k : Nat) : Array Value := #[.int .i64 (mi + (k : Int)), .agg (lV (lv s rs mi o k))]
theorem Some_.succ {s : Spc} {rs : List Rd} {mi : Int} {o : Option (Int × Int)} {k : Nat} (h : Some_ s rs mi o k) (h1 : (lv s rs mi o k).isSome = true) (h2 : mi + k ≤ 60) : Some_ s rs mi o (k + 1) := fun j hj => by
  by_cases e : j < k
  · exact h j e
  · obtain rfl : j = k := by omega
    exact ⟨h1, h2⟩
theorem follow_c (s : Spc) (m : Sl) (M : Option Nat) (mi : Int) (o : Option (Int × Int)) (w : World) :
    Calls Try.prog 79 #[.agg (wV s m M), .int .i64 mi, .agg (lV o)] w fun e w' =>
      e = .returned (.func (.func 93) #[] #[.pointer (some ⟨w.heap.size + 1 + 1, 0, none⟩), .pointer (some ⟨w.heap.size + 1, 0, none⟩), .pointer (some ⟨w.heap.size, 0, none⟩)]) ∧ ((w.alloc (.cells (wV s m M) 93)).alloc (.cells #[.int .i64 mi] 3)).alloc (.cells (lV o) 95) = w' := by
  obtain ⟨p, q, r, hv⟩ := lV_ex o
  rw [hv]
  go_enter Try.func79, Try.ntmps79
  go_wp2
  go_ret
  exact ⟨rfl, rfl⟩
set_option maxRecDepth 100000 in
set_option maxHeartbeats 4000000 in
theorem follow1_in (n : Nat) (hn : 1 ≤ n) {a b c : Nat} {w₀ : World} {gS gM gL : Nat} {s : Spc} {m : Sl} {M : Option Nat} {rs : List Rd} {mi : Int} {o : Option (Int × Int)} (C : Cx a b c w₀ gS gM gL s m M rs mi o)
    (l : Nat) (J Jx : List Nat → World → Prop) (Y : World) (hb : b ≤ w₀.heap.size) (hW : Below w₀.heap.size w₀ Y) (hJ : AllFrom Y.heap.size J)
    (hY : ∀ pre x W1, J pre W1 → Next_ s rs mi o pre x → YieldAt Fence.wide (n - 1) Try.prog l (encF s rs mi o x) W1 fun e Y' =>
      (e = .returned (.bool true) ∧ J (pre ++ [x]) Y' ∧ Kp a b c W1 Y') ∨ (e = .returned (.bool false) ∧ Jx (pre ++ [x]) Y'))
    (h0 : J [] Y) :
    CallsIn Fence.wide n Try.prog 93 #[.func (.yield l) #[] #[], .pointer (some ⟨gL, 0, none⟩), .pointer (some ⟨gM, 0, none⟩), .pointer (some ⟨gS, 0, none⟩)] Y fun e Y' =>
      (∃ v, e = .returned v) ∧ ((∃ xs, (∃ k, xs = List.range k ∧ Ended s rs mi o k) ∧ J xs Y') ∨ (∃ pre, (∃ k, pre = List.range (k + 1) ∧ Some_ s rs mi o (k + 1)) ∧ Jx pre Y')) := by
  have hsz := hW.size
  have hs := C.ok
  have hm0 := C.m0
  have hm1 := C.m1
  have hKW : Kp a b c w₀ Y := .of hW
  obtain ⟨p0, q0, r0, hv0⟩ := lV_ex o
  have bL := C.lb.kp hKW C.nL
  have bM := C.mb.kp hKW C.nM
  rw [hv0] at bL
  obtain ⟨c0, c1, c2⟩ := bL.lev
  have d0 := (bM.alloc (.cells #[.int .i64 p0, .int .i64 q0, .bool r0] 95)).cell 0
  simp only [List.getElem?_toArray, List.getElem?_cons_zero] at d0
  refine callsIn_of_wp Try.func93 rfl trivial ?_ rfl
  simp only [Try.ntmps93, List.size_toArray, List.length_cons, List.length_nil, Nat.reduceAdd, Nat.reduceSub, Array.replicate_succ, Array.replicate_zero, List.push_toArray, List.append_toArray, List.nil_append, List.cons_append]
  have HV0 := Lib.hid hv0
  clear hv0
  gi_wp2
  clear c0 c1 c2 d0
  gi_loopw [6] (fun i wr => ∃ k : Nat, i = .int .i64 (mi + (k : Int)) ∧ mi + k ≤ 61 ∧ Some_ s rs mi o k ∧ J (List.range k) wr ∧ Kp a b c w₀ wr ∧ Y.heap.size < wr.heap.size ∧ Hid (Blk wr Y.heap.size 95 (lV (pre s rs mi o k)))) (fun i _ => 61 - (intOf i).toNat)
  case atStart => exact ⟨0, by simp, by omega, fun j hj => absurd hj (by omega), hJ.alloc _ h0, hKW.then ((Below.refl _ _).alloc (Nat.le_refl _) _), by simp, Lib.hid (by show Blk _ _ _ (lV o); rw [HV0.out]; exact Blk.new _ _ _)⟩
  case round =>
    obtain ⟨k, rfl, hk61, hSo, hJk, hKp, hzr, HN⟩ := hrel
    by_cases h60 : mi + (k : Int) ≤ 60
    · obtain ⟨p1, q1, r1, hv1⟩ := lV_ex (pre s rs mi o k)
      have hAG := agreeing_c s m M rs (mi + (k : Int)) (pre s rs mi o k) wr hs (C.sa wr hKp) (C.mp wr hKp) C.ro C.rl
      rw [hv1] at HN hAG
      rw [← lv_eq] at hAG
      clear hv1
      have bS := C.sb.kp hKp C.nS
      obtain ⟨d0, d1, d2, d3, d4, d5, d6, d7, d8, d9⟩ := bS.watch
      obtain ⟨c0, c1, c2⟩ := HN.out.lev
      refine wpIn_wide.2 ?_
      go_wp2_with fail
      refine hAG.mono ?_
      clear hAG
      rintro e w2 ⟨rfl, hb2⟩
      have hK2 := hKp.then hb2
      have hN2 := HN.out.keep hb2
      have hJ2 := hJ.keep hJk hb2
      have hz2 := hb2.size
      clear c0 c1 c2 d0 d1 d2 d3 d4 d5 d6 d7 d8 d9 HN bS
      cases hlv : lv s rs mi o k with
      | none =>
        have hN := fun w => eqNone w
        simp only [lV]
        go_upto_region 5 with (refine wpList_store_row rfl 95 _ _ rfl (Y.heap.size) _ rfl rfl 95 _ hN2 (by kernel_rfl) rfl (by simp [Value.oneCell']) ?_)
        obtain ⟨e0, e1, e2⟩ := (hN2.row #[.int .i64 0, .int .i64 0, .bool false]).lev
        obtain ⟨w3, hw3⟩ : ∃ w3, w2.setRow Y.heap.size #[.int .i64 0, .int .i64 0, .bool false] = w3 := ⟨_, rfl⟩
        have hJ3 : J (List.range k) w3 := by rw [← hw3]; exact hJ.row _ _ hJ2 (Nat.le_refl _)
        rw [hw3] at e0 e1 e2 ⊢
        clear hw3
        go_wp2_with fail
        refine bodyPost_ret (results_none rfl _ _ _) rfl ?_
        exact ⟨⟨_, rfl⟩, .inl ⟨_, ⟨k, rfl, hSo, .inl hlv⟩, hJ3⟩⟩
      | some x =>
        have hX := fun w => eqSome x.1 x.2 w
        simp only [lV]
        go_upto_region 5 with (refine wpList_store_row rfl 95 _ _ rfl (Y.heap.size) _ rfl rfl 95 _ hN2 (by kernel_rfl) rfl (by simp [Value.oneCell']) ?_)
        have bN3 := hN2.row #[.int .i64 x.1, .int .i64 x.2, .bool true]
        obtain ⟨e0, e1, e2⟩ := bN3.lev
        obtain ⟨w3, hw3⟩ : ∃ w3, w2.setRow Y.heap.size #[.int .i64 x.1, .int .i64 x.2, .bool true] = w3 := ⟨_, rfl⟩
        have hJ3 : J (List.range k) w3 := by rw [← hw3]; exact hJ.row _ _ hJ2 (Nat.le_refl _)
        have hK3 : Kp a b c w₀ w3 := by
          rw [← hw3]
          exact ⟨hK2.os, hK2.tape, hK2.output, by rw [size_setRow]; exact hK2.size, fun i u hi hn' hc' => (setRow_other w2 Y.heap.size i _ (fun e => by have := (Array.getElem?_eq_some_iff.1 hi).1; omega)).trans (hK2.kept i u hi hn' hc')⟩
        have hz3 : w2.heap.size = w3.heap.size := by rw [← hw3, size_setRow]
        rw [hw3] at e0 e1 e2 bN3 ⊢
        have BN3 := Lib.hid bN3
        clear hw3 bN3 hN2 hJ2 hK2
        have hS1 : Some_ s rs mi o (k + 1) := hSo.succ (by rw [hlv]; rfl) h60
        obtain ⟨fn, tmps, assign, body, hy, hR⟩ := hY (List.range k) k w3 hJ3 ⟨rfl, hS1⟩
        dsimp only [encF] at hy
        rw [hlv] at hy
        simp only [lV] at hy
        refine (wpIn_wide (n := n)).1 ?_
        gi_wp2
        refine hR.mono ?_
        clear hR hy
        rintro e W3 (⟨rfl, hJ4, hk4⟩ | ⟨rfl, hJx4⟩)
        · have hN3 := BN3.out.kp hk4 (by omega)
          have hK4 := hK3.trans hk4
          have hS3 := C.sb.kp hK4 C.nS
          have hA3 := C.sa W3 hK4
          have hz4 := hk4.size
          clear e0 e1 e2
          gi_wp2
          obtain ⟨p, q, r, hv⟩ := lV_ex (aft x (chg s (mi + (k : Int))))
          have HV := Lib.hid hv
          clear hv
          have hvx := vd_lv (m := mi) (l := rs) C.vd k x hlv
          have hch := chg_ok hs (mi + (k : Int))
          go_wp2_with fail
          refine Vals6.regionAll (fun X => Blk X Y.heap.size 95 #[.int .i64 x.1, .int .i64 x.2, .bool true] ∧ Blk X gS 93 (wV s m M) ∧ SAt X m s ∧ Since W3 X) [some 27, some 28, some 29, some 30, some 31] [.is (.agg #[.int .i64 x.1, .int .i64 x.2, .bool true]), .is (.agg (wV s m M)), .is (.int .i64 (mi + (k : Int))), .is (.agg #[.int .i64 (chg s (mi + (k : Int))).1, .int .i64 (chg s (mi + (k : Int))).2]), .is (.agg #[.int .i64 p, .int .i64 q, .bool r])] (by kernel_rfl) rfl rfl (by kernel_rfl) (by kernel_rfl) (by kernel_rfl) (by kernel_rfl) (by kernel_rfl) (by kernel_rfl) (by kernel_rfl) (⟨hN3.drew, hS3.drew, hA3.keep (Below.refl _ _).drew, (Since.refl W3).drew⟩) ?_ ?_
          · refine Vals5.Steps.run (by kernel_rfl) (Vals5.Stable.is _) ?_ ?_
            · intro a W hS pre old K hK
              have e5 : a.tmps.getD 5 undef = .pointer (some ⟨Y.heap.size, 0, none⟩) := old 5 _ (by kernel_rfl) rfl
              clear pre old
              simp only [Array.getD_eq_getD_getElem?] at e5
              have hS9 := hS
              obtain ⟨l1, l2, _, _⟩ := hS9
              have c0 := l1.cell 0
              have c1 := l1.cell 1
              have c2 := l1.cell 2
              simp only [List.getElem?_toArray, List.getElem?_cons_zero, List.getElem?_cons_succ] at c0 c1 c2
              obtain ⟨d0, d1, d2, d3, d4, d5, d6, d7, d8, d9⟩ := l2.watch
              go_simp
              exact hK _ _ hS (Below.refl _ _) rfl
            refine Vals5.Steps.run (by kernel_rfl) (Vals5.Stable.is _) ?_ ?_
            · intro a W hS pre old K hK
              have e3 : a.tmps.getD 3 undef = .pointer (some ⟨gS, 0, none⟩) := old 3 _ (by kernel_rfl) rfl
              clear pre old
              simp only [Array.getD_eq_getD_getElem?] at e3
              have hS9 := hS
              obtain ⟨l1, l2, _, _⟩ := hS9
              have c0 := l1.cell 0
              have c1 := l1.cell 1
              have c2 := l1.cell 2
              simp only [List.getElem?_toArray, List.getElem?_cons_zero, List.getElem?_cons_succ] at c0 c1 c2
              obtain ⟨d0, d1, d2, d3, d4, d5, d6, d7, d8, d9⟩ := l2.watch
              go_simp
              exact hK _ _ hS (Below.refl _ _) rfl
            refine Vals5.Steps.run (by kernel_rfl) (Vals5.Stable.is _) ?_ ?_
            · intro a W hS pre old K hK
              have e6 : a.tmps.getD 6 undef = .int .i64 (mi + (k : Int)) := old 6 _ (by kernel_rfl) rfl
              clear pre old
              simp only [Array.getD_eq_getD_getElem?] at e6
              go_simp
              exact hK _ _ hS (Below.refl _ _) rfl
            refine Vals5.Steps.run (by kernel_rfl) (Vals5.Stable.is _) ?_ ?_
            · intro a W hS pre old K hK
              have e28 : a.tmps.getD 28 undef = .agg (wV s m M) := pre 1 28 _ (by kernel_rfl) rfl rfl
              have e29 : a.tmps.getD 29 undef = .int .i64 (mi + (k : Int)) := pre 2 29 _ (by kernel_rfl) rfl rfl
              clear pre old
              simp only [Array.getD_eq_getD_getElem?] at e28 e29
              go_simp
              refine (change_c s m M (mi + (k : Int)) _ (by have := hs.nb; omega) hS.2.2.1.bl).mono ?_
              rintro e w' ⟨rfl, hb'⟩
              obtain ⟨h1, h2, h3, h4⟩ := hS
              exact hK _ _ ⟨h1.keep hb', h2.keep hb', h3.keep hb', h4.keep hb'⟩ hb' rfl
            refine Vals5.Steps.run (by kernel_rfl) (Vals5.Stable.is _) ?_ ?_
            · intro a W hS pre old K hK
              have e27 : a.tmps.getD 27 undef = .agg #[.int .i64 x.1, .int .i64 x.2, .bool true] := pre 0 27 _ (by kernel_rfl) rfl rfl
              have e30 : a.tmps.getD 30 undef = .agg #[.int .i64 (chg s (mi + (k : Int))).1, .int .i64 (chg s (mi + (k : Int))).2] := pre 3 30 _ (by kernel_rfl) rfl rfl
              clear pre old
              simp only [Array.getD_eq_getD_getElem?] at e27 e30
              go_simp
              refine (after_c x (chg s (mi + (k : Int))) _ (by omega) (by omega) (by omega) (by omega) (by omega) (by omega) (by omega) (by omega)).mono ?_
              rintro e w' ⟨rfl, hb'⟩
              obtain ⟨h1, h2, h3, h4⟩ := hS
              exact hK _ _ ⟨h1.keep hb', h2.keep hb', h3.keep hb', h4.keep hb'⟩ hb' (by show Value.agg _ = Value.agg _; rw [HV.out])
            exact Vals5.Steps.nil
          rintro X ⟨h1, h2, h3, h4⟩
          simp only [Vals5.All, List.getLast_cons_cons, List.getLast_singleton]
          simp only [Vals.putAll, List.setIfInBounds_toArray, List.set_cons_zero, List.set_cons_succ]
          intro K hK
          refine wp_store_row 95 _ _ rfl Y.heap.size #[.int .i64 p, .int .i64 q, .bool r] rfl rfl 95 _ h1 (by kernel_rfl) rfl (by simp [Value.oneCell']) ?_
          refine hK _ _ ?_
          clear hK K
          have hN9 := h1.row #[.int .i64 p, .int .i64 q, .bool r]
          have hJ9 : J (List.range (k + 1)) (X.setRow Y.heap.size #[.int .i64 p, .int .i64 q, .bool r]) := hJ.row _ _ (hJ.keep (by rw [List.range_succ]; exact hJ4) h4.1) (Nat.le_refl _)
          have hK9 : Kp a b c w₀ (X.setRow Y.heap.size #[.int .i64 p, .int .i64 q, .bool r]) := by
            have hKX := hK4.then h4.1
            exact ⟨hKX.os, hKX.tape, hKX.output, by rw [size_setRow]; exact hKX.size, fun i u hi hn' hc' => (setRow_other X Y.heap.size i _ (fun e => by have := (Array.getElem?_eq_some_iff.1 hi).1; omega)).trans (hKX.kept i u hi hn' hc')⟩
          have hpre : pre s rs mi o (k + 1) = aft x (chg s (mi + (k : Int))) := by rw [pre, hlv]; rfl
          have hz9 := h4.2
          go_wp2_with fail
          go_roundw
          case rel => exact ⟨k + 1, by congr 1; push_cast; omega, by push_cast; omega, hS1, hJ9, hK9, by rw [size_setRow]; omega, Lib.hid (by rw [hpre, HV.out]; exact hN9)⟩
          case measure => simp [intOf]; omega
        · gi_wp2
          go_wp2_with fail
          refine bodyPost_ret (results_none rfl _ _ _) rfl ?_
          exact ⟨⟨_, rfl⟩, .inr ⟨_, ⟨k, rfl, hS1⟩, by rw [List.range_succ]; exact hJx4⟩⟩
    · gi_wp2
      go_end0
      exact ⟨⟨_, rfl⟩, .inl ⟨_, ⟨k, rfl, hSo, .inr (by omega)⟩, hJk⟩⟩
end Td
end Go.Proofs.Ytmofbnadfgejiaa
/- Until when a torch may burn. -/
namespace Go.Proofs.Ytmofbnadfgejiaa
open Go.RowKit
namespace Td
set_option linter.unusedSimpArgs false
set_option linter.unusedVariables false
attribute [local go_sem] Oper.semAt_some
theorem follow_seq (n : Nat) (hn : 1 ≤ n) {a b c : Nat} {w₀ : World} {gS gM gL : Nat} {s : Spc} {m : Sl} {M : Option Nat} {rs : List Rd} {mi : Int} {o : Option (Int × Int)} (C : Cx a b c w₀ gS gM gL s m M rs mi o) (hb : b ≤ w₀.heap.size) :
    SeqC Fence.wide n Try.prog 93 #[.pointer (some ⟨gL, 0, none⟩), .pointer (some ⟨gM, 0, none⟩), .pointer (some ⟨gS, 0, none⟩)] (encF s rs mi o) (Kp a b c) (fun xs => ∃ k, xs = List.range k ∧ Ended s rs mi o k) (fun pre => ∃ k, pre = List.range (k + 1) ∧ Some_ s rs mi o (k + 1)) (Next_ s rs mi o) w₀ :=
  fun l J Jx W hW hJ hJx hY h0 => follow1_in n hn C l J Jx W hb hW hJ hY h0
theorem lead_of {p : Nat → Bool} {n k : Nat} (h0 : ∀ j, j < k → p j = true) (h : k = n ∨ (k < n ∧ p k = false)) : lead p n = k := by
  unfold lead
  have hsp : List.range n = List.range k ++ List.range' k (n - k) := by
    have e : List.range n = List.range' 0 (k + (n - k)) := by rw [List.range_eq_range']; congr 1; omega
    rw [e, ← List.range'_append_1, ← List.range_eq_range', Nat.zero_add]
  rw [hsp, List.takeWhile_append_of_pos (by intro a ha; exact h0 a (List.mem_range.1 ha))]
  rcases h with h | ⟨h1, h2⟩
  · subst h; simp
  · obtain ⟨d, hd⟩ : ∃ d, n - k = d + 1 := ⟨n - k - 1, by omega⟩
    rw [hd, List.range'_succ, List.takeWhile_cons, h2]
    simp
/-- the last minute so far. -/
def lastM (mi : Int) (k : Nat) : Int := if k = 0 then -1 else mi + k - 1
theorem untl_of {s : Spc} {rs : List Rd} {mi : Int} {o : Option (Int × Int)} {k : Nat} (h0 : 0 ≤ mi) (h1 : mi ≤ 60) (hk : mi + k ≤ 61) (hg : ∀ j, j < k → good s rs mi o j = true) (h : mi + k = 61 ∨ good s rs mi o k = false) : untl s rs mi o = lastM mi k := by
  have hl : lead (good s rs mi o) (61 - mi).toNat = k := by
    refine lead_of hg ?_
    rcases h with h | h
    · left; omega
    · by_cases e : mi + k = 61
      · left; omega
      · right; exact ⟨by omega, h⟩
  unfold untl lastM
  rw [hl]
/-- so far no level is above the limit. -/
def PG (s : Spc) (rs : List Rd) (mi : Int) (o : Option (Int × Int)) (pre : List Nat) : Prop := ∀ j, j < pre.length → good s rs mi o j = true
theorem below_kp {w W X : World} {a b c : Nat} (h : Below w.heap.size w W) (k : Kp a b c W X) (hn : w.heap.size ≤ a ∧ w.heap.size ≤ c) : Below w.heap.size w X :=
  ⟨k.os.trans h.os, k.tape.trans h.tape, k.output.trans h.output, Nat.le_trans h.size k.size, fun i hi => by
    have hiW : i < W.heap.size := Nat.lt_of_lt_of_le hi h.size
    have e : W.heap[i]? = some W.heap[i] := Array.getElem?_eq_getElem hiW
    exact (k.kept i _ e (by omega) (.inr (by omega))).trans (e.symm.trans (h.block i hi))⟩
set_option maxRecDepth 100000 in
set_option maxHeartbeats 4000000 in
theorem until_c (s : Spc) (m : Sl) (M : Option Nat) (rs : List Rd) (mi : Int) (o : Option (Int × Int)) (w : World) (hs : SOk s) (ho : Vd o) (hr : ∀ r ∈ rs, ROk s r) (hrl : rs.length ≤ 1000) (hsa : SAt w m s) (hm : Mp w M rs) (h0 : 0 ≤ mi) (h1 : mi ≤ 60) :
    Calls Try.prog 51 #[.agg (wV s m M), .int .i64 mi, .agg (lV o)] w fun e w' => e = .returned (.int .i64 (untl s rs mi o)) ∧ Below w.heap.size w w' := by
  obtain ⟨p0, q0, r0, hv0⟩ := lV_ex o
  have HV0 := Lib.hid hv0
  refine (callsIn_wide (n := 6)).1 ?_
  refine callsIn_of_wp_marks Try.func51 rfl trivial ?_ rfl
  rw [hv0]
  clear hv0
  simp only [Try.ntmps51, List.size_toArray, List.length_cons, List.length_nil, Nat.reduceAdd, Nat.reduceSub, Array.replicate_succ, Array.replicate_zero, List.push_toArray, List.append_toArray, List.nil_append, List.cons_append]
  refine wpIn_wide.2 ?_
  have hsn0 := (((Since.refl w).alloc (.cells (wV s m M) 93)).alloc (.cells #[.int .i64 p0, .int .i64 q0, .bool r0] 95)).alloc (.cells #[.int .i64 (-1)] 3)
  have bS0 := ((Blk.new w 93 (wV s m M)).alloc (.cells #[.int .i64 p0, .int .i64 q0, .bool r0] 95)).alloc (.cells #[.int .i64 (-1)] 3)
  have bT0 := Blk.new2 w (.cells (wV s m M) 93) (.cells #[.int .i64 p0, .int .i64 q0, .bool r0] 95) 3 #[.int .i64 (-1)]
  go_wp2_with fail
  have hF := follow_c s m M mi o (((w.alloc (.cells (wV s m M) 93)).alloc (.cells #[.int .i64 p0, .int .i64 q0, .bool r0] 95)).alloc (.cells #[.int .i64 (-1)] 3))
  rw [HV0.out] at hF
  refine hF.mono ?_
  clear hF
  rintro e w0 ⟨rfl, hw0⟩
  have hz0 : w0.heap.size = w.heap.size + 6 := by rw [← hw0]; simp
  have hsn1 : Since w w0 := by rw [← hw0]; exact ((hsn0.alloc _).alloc _).alloc _
  have bS1 : Blk w0 w.heap.size 93 (wV s m M) := by rw [← hw0]; exact ((bS0.alloc _).alloc _).alloc _
  have bT1 : Blk w0 (w.heap.size + 1 + 1) 3 #[.int .i64 (-1)] := by rw [← hw0]; exact ((bT0.alloc _).alloc _).alloc _
  have C : Cx (w.heap.size + 1 + 1) (w.heap.size + 1 + 1 + 1) w0.heap.size w0 (w.heap.size + 1 + 1 + 1) (w.heap.size + 1 + 1 + 1 + 1) (w.heap.size + 1 + 1 + 1 + 1 + 1) s m M rs mi o := by
    refine ⟨?_, ?_, ?_, by omega, by omega, by omega, ?_, ?_, hs, ho, hr, hrl, h0, h1⟩
    · rw [← hw0]
      have := Blk.new (((w.alloc (.cells (wV s m M) 93)).alloc (.cells #[.int .i64 p0, .int .i64 q0, .bool r0] 95)).alloc (.cells #[.int .i64 (-1)] 3)) 93 (wV s m M)
      simp only [World.size_alloc] at this
      exact (this.alloc _).alloc _
    · rw [← hw0]
      have := Blk.new1 (((w.alloc (.cells (wV s m M) 93)).alloc (.cells #[.int .i64 p0, .int .i64 q0, .bool r0] 95)).alloc (.cells #[.int .i64 (-1)] 3)) (.cells (wV s m M) 93) 3 #[.int .i64 mi]
      simp only [World.size_alloc] at this
      exact this.alloc _
    · rw [← hw0, HV0.out]
      have := Blk.new2 (((w.alloc (.cells (wV s m M) 93)).alloc (.cells #[.int .i64 p0, .int .i64 q0, .bool r0] 95)).alloc (.cells #[.int .i64 (-1)] 3)) (.cells (wV s m M) 93) (.cells #[.int .i64 mi] 3) 95 #[.int .i64 p0, .int .i64 q0, .bool r0]
      simp only [World.size_alloc] at this
      exact this
    · intro W hW
      exact hsa.keep (below_kp hsn1.1 hW (by omega))
    · intro W hW
      exact hm.keep (below_kp hsn1.1 hW (by omega))
  clear hsn0 bS0 bT0 hw0
  go_wp2_with fail
  refine (wpIn_wide (n := 6)).1 ?_
  refine rangeFunc_c (w := w0) rfl (by omega) (gf := 93) (lb := #[.pointer (some ⟨w.heap.size + 1 + 1 + 1 + 1 + 1, 0, none⟩), .pointer (some ⟨w.heap.size + 1 + 1 + 1 + 1, 0, none⟩), .pointer (some ⟨w.heap.size + 1 + 1 + 1, 0, none⟩)]) rfl trivial (enters_of Try.func93 (by kernel_rfl) rfl)
    (follow_seq _ (by omega) C (by omega)) Kp.trans (fun W l o o' hl hg hc _ => Kp.put W l o o' (by omega) hg hc) (Below.refl _ _) (fun _ => rfl)
    (fun pre W => ((Blk W (w.heap.size + 1 + 1) 3 #[.int .i64 (lastM mi pre.length)] ∧ Blk W w.heap.size 93 (wV s m M)) ∧ PG s rs mi o pre) ∧ Below w.heap.size w W)
    (fun c _ W => (c = .exit 0 ∧ Blk W (w.heap.size + 1 + 1) 3 #[.int .i64 (untl s rs mi o)]) ∧ Below w.heap.size w W)
    ((((AllFrom.blk (by omega) _ _).and (AllFrom.blk (by omega) _ _)).and (AllFrom.pure _ _)).and (AllFrom.below (Nat.le_refl _) (by omega)))
    (fun _ => ((AllFrom.pure _ _).and (AllFrom.blk (by omega) _ _)).and (AllFrom.below (Nat.le_refl _) (by omega)))
    ⟨⟨⟨bT1, bS1⟩, fun j hj => absurd hj (by simp)⟩, hsn1.1⟩
    (fun x a' W => ∃ Bx, w.heap.size + 1 + 1 < Bx ∧ Blk W Bx 95 (lV (lv s rs mi o x)) ∧ a' = { tmps := #[.agg (wV s m M), .int .i64 mi, .agg #[.int .i64 p0, .int .i64 q0, .bool r0], .pointer (some ⟨w.heap.size, 0, none⟩), undef, .pointer (some ⟨w.heap.size + 1, 0, none⟩), .int .i64 0, .pointer (some ⟨w.heap.size + 1 + 1, 0, none⟩), .int .i64 (mi + (x : Int)), .pointer (some ⟨Bx, 0, none⟩), .agg (wV s m M), .int .i64 mi, .agg #[.int .i64 p0, .int .i64 q0, .bool r0], .func (.func 93) #[] #[.pointer (some ⟨w.heap.size + 1 + 1 + 1 + 1 + 1, 0, none⟩), .pointer (some ⟨w.heap.size + 1 + 1 + 1 + 1, 0, none⟩), .pointer (some ⟨w.heap.size + 1 + 1 + 1, 0, none⟩)], .int .i64 (mi + (x : Int)), .agg (lV (lv s rs mi o x)), undef, undef, undef, undef, undef, undef, undef, undef, undef], defers := [] })
    (fun x a' _ X Y row hs hg hr => by
      obtain ⟨Bx, h1, h2, h3⟩ := hs
      exact ⟨Bx, h1, h2.grown hg (fun e => by obtain ⟨_, o, ho, hc⟩ := hr Bx e.symm; rw [show X.heap[Bx]? = _ from h2] at ho; cases ho; cases hc), h3⟩)
    ?assign ?body ?done ?stop
  case assign =>
    rintro l pre x W K ⟨⟨⟨i1, i2⟩, i3⟩, i5⟩ hK
    obtain ⟨p1, q1, r1, hv1⟩ := lV_ex (lv s rs mi o x)
    dsimp only [encF]
    rw [hv1] at hK ⊢
    gi_wp2
    exact hK _ _ ((KeepsOthers.alloc _ _).from _) (.of ((Below.refl _ W).alloc (Nat.le_refl _) _)) ⟨⟨⟨i1.alloc _, i2.alloc _⟩, i3⟩, i5.alloc i5.size _⟩ ⟨W.heap.size, by have := i1.lt; omega, Blk.new W _ _, rfl⟩
  case body =>
    rintro l pre x a' W hl ⟨r, hr⟩ ⟨⟨⟨i1, i2⟩, i3⟩, i5⟩ ⟨Bx, hBx, bX, rfl⟩ ⟨rfl, hSx⟩
    have hx60 := (hSx x (by omega)).2
    cases hlv : lv s rs mi o x with
    | none => have := (hSx x (by omega)).1; rw [hlv] at this; cases this
    | some y =>
      try rw [hlv] at bX
      simp only [lV] at bX ⊢
      obtain ⟨e0, e1, e2⟩ := bX.lev
      obtain ⟨d0, d1, d2, d3, d4, d5, d6, d7, d8, d9⟩ := i2.watch
      have t0 := i1.cell 0
      have f0 := i1.frozen 0
      simp only [List.getElem?_toArray, List.getElem?_cons_zero] at t0
      have hxl : (List.range x).length = x := List.length_range
      rw [hxl] at t0
      by_cases hg : y.2 ≤ s.lim
      · have hgd : good s rs mi o x = true := by simp [good, hlv, hg]
        have hg' : ¬ s.lim < y.2 := by omega
        have HG := Lib.hid hgd
        have hlast : lastM mi (List.range x ++ [x]).length = mi + (x : Int) := by simp [lastM, hxl]; omega
        have HLA := Lib.hid hlast
        clear hgd hlast hg
        gi_wp2
        refine ⟨(KeepsOthers.setCell _ _ _).from _, (Kp.refl _ _ _ _).setCell _ _ _ (by omega) (by omega), ⟨⟨?_, i2.far (by omega) _ _⟩, fun j hj => ?_⟩, i5.setCell (p := ⟨w.heap.size + 1 + 1, 0, none⟩) (by simp; omega) _⟩
        · rw [HLA.out]
          exact i1.set 0 _
        · rw [List.length_append, List.length_singleton, hxl] at hj
          by_cases e : j < x
          · exact i3 j (by omega)
          · obtain rfl : j = x := by omega
            exact HG.out
      · have hgd : good s rs mi o x = false := by simp [good, hlv]; omega
        have hg' : s.lim < y.2 := by omega
        have HU : Hid (untl s rs mi o = lastM mi (List.range x).length) := untl_of h0 h1 (by omega) (fun j hj => i3 j hj) (.inr (by rw [hxl]; exact hgd))
        clear hg hgd
        gi_wp2
        exact ⟨⟨Nat.le_refl _, fun _ _ _ h _ => h⟩, ⟨rfl, by rw [HU.out]; exact i1⟩, i5⟩
  case done =>
    rintro D xs W hD ⟨k, rfl, hE⟩ ⟨⟨⟨i1, i2⟩, i3⟩, i5⟩ hK
    have hk : mi + (k : Int) ≤ 61 := by
      rcases Nat.eq_zero_or_pos k with e | e
      · omega
      · have := (hE.1 (k - 1) (by omega)).2; omega
    have HU : Hid (untl s rs mi o = lastM mi (List.range k).length) := by
      show _ = _
      rw [List.length_range]
      refine untl_of h0 h1 hk (fun j hj => i3 j (by rw [List.length_range]; exact hj)) ?_
      rcases hE.2 with h | h
      · right; simp [good, h]
      · left; omega
    rw [← HU.out] at i1
    have t0 := i1.cell 0
    have f0 := i1.frozen 0
    simp only [List.getElem?_toArray, List.getElem?_cons_zero] at t0
    go_wp2_with fail
    refine ⟨by simp, .inl ⟨_, _, rfl, run_takeDeferred hK, ?_⟩⟩
    exact ⟨_, results_tmp rfl _ _ _, rfl, i5.trans (belowK_b (w := w) (Nat.le_refl _) _ D _ _ (by omega) hK rfl rfl)⟩
  case stop =>
    rintro D c pre W hD ⟨k, rfl, hE⟩ ⟨⟨rfl, i1⟩, i5⟩ hK
    have t0 := i1.cell 0
    have f0 := i1.frozen 0
    simp only [List.getElem?_toArray, List.getElem?_cons_zero] at t0
    gi_wp2
    go_wp2_with fail
    refine ⟨by simp, .inl ⟨_, _, rfl, run_takeDeferred hK, ?_⟩⟩
    exact ⟨_, results_tmp rfl _ _ _, rfl, i5.trans (belowK_b (w := w) (Nat.le_refl _) _ D _ _ (by omega) hK rfl rfl)⟩
end Td
end Go.Proofs.Ytmofbnadfgejiaa
/- The lowest truth: forwards the least levels, then backwards. -/
namespace Go.Proofs.Ytmofbnadfgejiaa
open Go.RowKit
namespace Td
set_option linter.unusedSimpArgs false
set_option linter.unusedVariables false
attribute [local go_sem] Oper.semAt_some
/-- a row of numbers. -/
def rowF (f : Nat → Int) (n : Nat) : Array Value := ((List.range n).map fun i => Value.int .i64 (f i)).toArray
theorem rowF_size (f : Nat → Int) (n : Nat) : (rowF f n).size = n := by simp [rowF]
theorem rowF_get (f : Nat → Int) {n k : Nat} (h : k < n) : (rowF f n)[k]? = some (.int .i64 (f k)) := by simp [rowF, h]
theorem rowF_congr {f g : Nat → Int} {n : Nat} (h : ∀ i, i < n → f i = g i) : rowF f n = rowF g n := by
  unfold rowF
  congr 1
  refine List.map_congr_left fun i hi => ?_
  rw [h i (List.mem_range.1 hi)]
theorem rowF_set (f : Nat → Int) (n k : Nat) (v : Int) : (rowF f n).setIfInBounds k (.int .i64 v) = rowF (fun i => if i = k then v else f i) n := by
  apply Array.ext_getElem?
  intro i
  rw [Array.getElem?_setIfInBounds]
  by_cases hi : i < n
  · rw [rowF_get _ hi, rowF_get _ hi]
    by_cases h : k = i
    · subst h
      simp [rowF_size, hi]
    · simp [h, Ne.symm h]
  · have h1 : (rowF f n)[i]? = none := Array.getElem?_eq_none (by rw [rowF_size]; omega)
    have h2 : (rowF (fun i => if i = k then v else f i) n)[i]? = none := Array.getElem?_eq_none (by rw [rowF_size]; omega)
    rw [h1, h2]
    by_cases h : k = i
    · rw [if_pos h, if_neg (by rw [rowF_size]; omega)]
    · rw [if_neg h]
theorem made_row (n : Nat) : madeCells #[.int .i64 0] n = rowF (fun _ => 0) n := by
  apply Array.ext
  · rw [size_madeCells, rowF_size]
  · intro i h1 h2
    simp [madeCells, rowF, Nat.mod_one]
/-- what the level before has to be. -/
def srcV (f ch : Nat → Int) (k : Nat) : Int := if f (k + 1) = 0 then f k else max (f k) (f (k + 1) - ch k)
def mix (lo ch : Nat → Int) (last : Int) (n j i : Nat) : Int := if j ≤ i then bkd lo ch last n (n - i) else lo i
theorem src_mix (lo ch : Nat → Int) (last : Int) (n j : Nat) (h : j < n) : srcV (mix lo ch last n (j + 1)) ch j = bkd lo ch last n (n - j) := by
  have e : n - j = (n - (j + 1)) + 1 := by omega
  have h1 : mix lo ch last n (j + 1) (j + 1) = bkd lo ch last n (n - (j + 1)) := by simp [mix]
  have h2 : mix lo ch last n (j + 1) j = lo j := by unfold mix; rw [if_neg (by omega)]
  unfold srcV
  rw [h1, h2, e, bkd, show n - ((n - (j + 1)) + 1) = j by omega]
theorem mix_set (lo ch : Nat → Int) (last : Int) (n j : Nat) : (fun i => if i = j then bkd lo ch last n (n - j) else mix lo ch last n (j + 1) i) = mix lo ch last n j := by
  funext i
  unfold mix
  by_cases h : i = j
  · subst h; simp
  · by_cases h2 : j ≤ i
    · rw [if_neg h, if_pos (by omega), if_pos h2]
    · rw [if_neg h, if_neg (by omega), if_neg h2]
theorem bkd_in {lo ch : Nat → Int} {last : Int} {n : Nat} (hl : ∀ k, 0 ≤ lo k ∧ lo k ≤ 200) (hc : ∀ k, -20 ≤ ch k) (h0 : 0 ≤ last) (h1 : last ≤ 300) (j : Nat) : 0 ≤ bkd lo ch last n j ∧ bkd lo ch last n j ≤ 300 + 20 * (j : Int) := by
  induction j with
  | zero => simp [bkd]; omega
  | succ j ih =>
    have h2 := hl (n - (j + 1))
    have h3 := hc (n - (j + 1))
    rw [bkd]
    split
    · omega
    · push_cast; omega
set_option maxRecDepth 100000 in
set_option maxHeartbeats 4000000 in
theorem source_c (s : Spc) (m : Sl) (M : Option Nat) (f : Nat → Int) (n k gV gR gS : Nat) (w : World) (hv : Blk w gV 38 #[.slice (some ⟨gR, 0, none⟩) (n + 1) (n + 1)]) (hr : Blk w gR 3 (rowF f (n + 1))) (hsp : Blk w gS 93 (wV s m M)) (hsa : SAt w m s) (hs : SOk s) (hbl : s.blows.length ≤ 1000) (hkn : k < n) (hn : n ≤ 60)
    (hM1 : ∀ i, i ≤ n → -100000 ≤ f i) (hM2 : ∀ i, i ≤ n → f i ≤ 100000) :
    Calls Try.prog 82 #[.int .i64 (k : Int), .pointer (some ⟨gV, 0, none⟩), .pointer (some ⟨gS, 0, none⟩)] w fun e w' => e = .returned (.int .i64 (srcV f (fun k => (chg s (k : Int)).2) k)) ∧ Below w.heap.size w w' := by
  obtain ⟨E, hE⟩ : ∃ E, srcV f (fun k => (chg s (k : Int)).2) k = E := ⟨_, rfl⟩
  rw [hE]
  unfold srcV at hE
  have v0 := hv.cell 0
  simp only [List.getElem?_toArray, List.getElem?_cons_zero] at v0
  have r1 := hr.cell (k + 1)
  rw [rowF_get f (show k + 1 < n + 1 by omega)] at r1
  have r0 := hr.cell k
  rw [rowF_get f (show k < n + 1 by omega)] at r0
  have hb1 := hM1 (k + 1) (by omega)
  have hb2 := hM2 (k + 1) (by omega)
  have hch := chg_ok hs (k : Int)
  have hk2 : k + 1 < n + 1 := by omega
  have hk3 : k < n + 1 := by omega
  by_cases hz : f (k + 1) = 0
  · rw [if_pos hz] at hE
    rw [hz] at r1
    have HE := Lib.hid hE
    clear hE
    clear hb1 hb2 hz
    go_enter Try.func82, Try.ntmps82
    go_wp2_with fail
    go_ret
    exact ⟨ret_int HE.out, Below.refl _ _⟩
  · rw [if_neg hz] at hE
    have HE := Lib.hid hE
    clear hE
    have hz' : (f (k + 1) == 0) = false := beq_eq_false_iff_ne.2 hz
    clear hz
    go_enter Try.func82, Try.ntmps82
    go_wp2_with fail
    clear v0 r1 r0
    refine Vals6.regionAll (fun X => Blk X gV 38 #[.slice (some ⟨gR, 0, none⟩) (n + 1) (n + 1)] ∧ Blk X gR 3 (rowF f (n + 1)) ∧ Blk X gS 93 (wV s m M) ∧ SAt X m s ∧ Since w X) [some 17, some 18, some 19, some 20, some 21, some 22, some 23, some 24, some 25, some 26, some 27] [.is (.slice (some ⟨gR, 0, none⟩) (n + 1) (n + 1)), .is (.int .i64 (k : Int)), .is (.pointer (some ⟨gR, k, none⟩)), .is (.int .i64 (f k)), .is (.int .i64 (f (k + 1))), .is (.agg (wV s m M)), .is (.int .i64 (k : Int)), .is (.agg #[.int .i64 (chg s (k : Int)).1, .int .i64 (chg s (k : Int)).2]), .is (.int .i64 (chg s (k : Int)).2), .is (.int .i64 (f (k + 1) - (chg s (k : Int)).2)), .is (.int .i64 (max (f k) (f (k + 1) - (chg s (k : Int)).2)))] (by kernel_rfl) rfl rfl (by kernel_rfl) (by kernel_rfl) (by kernel_rfl) (by kernel_rfl) (by kernel_rfl) (by kernel_rfl) (by kernel_rfl) (⟨hv.drew, hr.drew, hsp.drew, hsa.keep (Below.refl _ _).drew, (Since.refl w).drew⟩) ?_ ?_
    · refine Vals5.Steps.run (by kernel_rfl) (Vals5.Stable.is _) ?_ ?_
      · intro a W hS pre old K hK
        have e1 : a.tmps.getD 1 undef = .pointer (some ⟨gV, 0, none⟩) := old 1 _ (by kernel_rfl) rfl
        clear pre old
        simp only [Array.getD_eq_getD_getElem?] at e1
        have hS9 := hS
        obtain ⟨l1, l2, l3, _, _⟩ := hS9
        have v0 := l1.cell 0
        simp only [List.getElem?_toArray, List.getElem?_cons_zero] at v0
        have r0 := l2.cell k
        rw [rowF_get f (show k < n + 1 by omega)] at r0
        obtain ⟨d0, d1, d2, d3, d4, d5, d6, d7, d8, d9⟩ := l3.watch
        go_simp
        exact hK _ _ hS (Below.refl _ _) rfl
      refine Vals5.Steps.run (by kernel_rfl) (Vals5.Stable.is _) ?_ ?_
      · intro a W hS pre old K hK
        have e0 : a.tmps.getD 0 undef = .int .i64 (k : Int) := old 0 _ (by kernel_rfl) rfl
        clear pre old
        simp only [Array.getD_eq_getD_getElem?] at e0
        go_simp
        exact hK _ _ hS (Below.refl _ _) rfl
      refine Vals5.Steps.run (by kernel_rfl) (Vals5.Stable.is _) ?_ ?_
      · intro a W hS pre old K hK
        have e17 : a.tmps.getD 17 undef = .slice (some ⟨gR, 0, none⟩) (n + 1) (n + 1) := pre 0 17 _ (by kernel_rfl) rfl rfl
        have e18 : a.tmps.getD 18 undef = .int .i64 (k : Int) := pre 1 18 _ (by kernel_rfl) rfl rfl
        clear pre old
        simp only [Array.getD_eq_getD_getElem?] at e17 e18
        have hk1 : (k : Int) < (n : Int) + 1 := by omega
        go_simp
        first | exact hK _ _ hS (Below.refl _ _) rfl | (rw [add_new]; exact hK _ _ hS (Below.refl _ _) rfl)
      refine Vals5.Steps.run (by kernel_rfl) (Vals5.Stable.is _) ?_ ?_
      · intro a W hS pre old K hK
        have e19 : a.tmps.getD 19 undef = .pointer (some ⟨gR, k, none⟩) := pre 2 19 _ (by kernel_rfl) rfl rfl
        clear pre old
        simp only [Array.getD_eq_getD_getElem?] at e19
        have hS9 := hS
        obtain ⟨l1, l2, l3, _, _⟩ := hS9
        have v0 := l1.cell 0
        simp only [List.getElem?_toArray, List.getElem?_cons_zero] at v0
        have r0 := l2.cell k
        rw [rowF_get f (show k < n + 1 by omega)] at r0
        obtain ⟨d0, d1, d2, d3, d4, d5, d6, d7, d8, d9⟩ := l3.watch
        go_simp
        exact hK _ _ hS (Below.refl _ _) rfl
      refine Vals5.Steps.run (by kernel_rfl) (Vals5.Stable.is _) ?_ ?_
      · intro a W hS pre old K hK
        have e5 : a.tmps.getD 5 undef = .int .i64 (f (k + 1)) := old 5 _ (by kernel_rfl) rfl
        clear pre old
        simp only [Array.getD_eq_getD_getElem?] at e5
        go_simp
        exact hK _ _ hS (Below.refl _ _) rfl
      refine Vals5.Steps.run (by kernel_rfl) (Vals5.Stable.is _) ?_ ?_
      · intro a W hS pre old K hK
        have e2 : a.tmps.getD 2 undef = .pointer (some ⟨gS, 0, none⟩) := old 2 _ (by kernel_rfl) rfl
        clear pre old
        simp only [Array.getD_eq_getD_getElem?] at e2
        have hS9 := hS
        obtain ⟨l1, l2, l3, _, _⟩ := hS9
        have v0 := l1.cell 0
        simp only [List.getElem?_toArray, List.getElem?_cons_zero] at v0
        have r0 := l2.cell k
        rw [rowF_get f (show k < n + 1 by omega)] at r0
        obtain ⟨d0, d1, d2, d3, d4, d5, d6, d7, d8, d9⟩ := l3.watch
        go_simp
        exact hK _ _ hS (Below.refl _ _) rfl
      refine Vals5.Steps.run (by kernel_rfl) (Vals5.Stable.is _) ?_ ?_
      · intro a W hS pre old K hK
        have e0 : a.tmps.getD 0 undef = .int .i64 (k : Int) := old 0 _ (by kernel_rfl) rfl
        clear pre old
        simp only [Array.getD_eq_getD_getElem?] at e0
        go_simp
        exact hK _ _ hS (Below.refl _ _) rfl
      refine Vals5.Steps.run (by kernel_rfl) (Vals5.Stable.is _) ?_ ?_
      · intro a W hS pre old K hK
        have e22 : a.tmps.getD 22 undef = .agg (wV s m M) := pre 5 22 _ (by kernel_rfl) rfl rfl
        have e23 : a.tmps.getD 23 undef = .int .i64 (k : Int) := pre 6 23 _ (by kernel_rfl) rfl rfl
        clear pre old
        simp only [Array.getD_eq_getD_getElem?] at e22 e23
        go_simp
        refine (change_c s m M (k : Int) _ hbl hS.2.2.2.1.bl).mono ?_
        rintro e w' ⟨rfl, hb'⟩
        obtain ⟨h1, h2, h3, h4, h5⟩ := hS
        exact hK _ _ ⟨h1.keep hb', h2.keep hb', h3.keep hb', h4.keep hb', h5.keep hb'⟩ hb' rfl
      refine Vals5.Steps.run (by kernel_rfl) (Vals5.Stable.is _) ?_ ?_
      · intro a W hS pre old K hK
        have e24 : a.tmps.getD 24 undef = .agg #[.int .i64 (chg s (k : Int)).1, .int .i64 (chg s (k : Int)).2] := pre 7 24 _ (by kernel_rfl) rfl rfl
        clear pre old
        simp only [Array.getD_eq_getD_getElem?] at e24
        have hfi : ∀ (p q : Int) (w : World), (Instr.field 23 (.agg #[.int .i64 p, .int .i64 q]) 1).run Try.prog w = .ok (.int .i64 q) w := fun _ _ _ => by kernel_rfl
        go_simp
        exact hK _ _ hS (Below.refl _ _) rfl
      refine Vals5.Steps.run (by kernel_rfl) (Vals5.Stable.is _) ?_ ?_
      · intro a W hS pre old K hK
        have e21 : a.tmps.getD 21 undef = .int .i64 (f (k + 1)) := pre 4 21 _ (by kernel_rfl) rfl rfl
        have e25 : a.tmps.getD 25 undef = .int .i64 (chg s (k : Int)).2 := pre 8 25 _ (by kernel_rfl) rfl rfl
        clear pre old
        simp only [Array.getD_eq_getD_getElem?] at e21 e25
        have hw : IntKind.i64.wrap (f (k + 1) - (chg s (k : Int)).2) = f (k + 1) - (chg s (k : Int)).2 := IntWalk.i64_in _ (by omega)
        go_simp
        exact hK _ _ hS (Below.refl _ _) rfl
      refine Vals5.Steps.run (by kernel_rfl) (Vals5.Stable.is _) ?_ ?_
      · intro a W hS pre old K hK
        have e20 : a.tmps.getD 20 undef = .int .i64 (f k) := pre 3 20 _ (by kernel_rfl) rfl rfl
        have e26 : a.tmps.getD 26 undef = .int .i64 (f (k + 1) - (chg s (k : Int)).2) := pre 9 26 _ (by kernel_rfl) rfl rfl
        clear pre old
        simp only [Array.getD_eq_getD_getElem?] at e20 e26
        rcases (by omega : (f k < f (k + 1) - (chg s (k : Int)).2 ∧ max (f k) (f (k + 1) - (chg s (k : Int)).2) = f (k + 1) - (chg s (k : Int)).2) ∨ (¬ f k < f (k + 1) - (chg s (k : Int)).2 ∧ max (f k) (f (k + 1) - (chg s (k : Int)).2) = f k)) with ⟨h2, hn⟩ | ⟨h2, hn⟩
        · go_simp
          exact hK _ _ hS (Below.refl _ _) (by show _ = _; rw [hn])
        · go_simp
          exact hK _ _ hS (Below.refl _ _) (by show _ = _; rw [hn])
      exact Vals5.Steps.nil
    rintro X ⟨h1, h2, h3, h4, h5⟩
    simp only [Vals5.All, List.getLast_cons_cons, List.getLast_singleton]
    simp only [Vals.putAll, List.setIfInBounds_toArray, List.set_cons_zero, List.set_cons_succ]
    intro K hK
    go_simp
    refine hK _ _ ?_
    clear hK K
    go_wp2_with fail
    go_ret
    exact ⟨ret_int HE.out, h5.1⟩
/-- the least levels of the first k minutes, then 0. -/
def lowK (lo : Nat → Int) (k i : Nat) : Int := if i < k then lo i else 0
theorem lowK_set (lo : Nat → Int) (k : Nat) : (fun i => if i = k then lo k else lowK lo k i) = lowK lo (k + 1) := by
  funext i
  unfold lowK
  by_cases h : i = k
  · subst h; simp
  · by_cases h2 : i < k
    · rw [if_neg h, if_pos h2, if_pos (by omega)]
    · rw [if_neg h, if_neg h2, if_neg (by omega)]
theorem lowK_mix (lo ch : Nat → Int) (last : Int) (n i : Nat) (hi : i < n + 1) : (if i = n then last else lowK lo n i) = mix lo ch last n n i := by
  unfold lowK mix
  by_cases h : i = n
  · subst h; simp [bkd]
  · rw [if_neg h, if_pos (by omega), if_neg (by omega)]
theorem lowOf_in {s : Spc} {l : List Rd} {m : Int} {o : Option (Int × Int)} (h : Vd o) (k : Nat) : 0 ≤ lowOf s l m o k ∧ lowOf s l m o k ≤ 200 := by
  unfold lowOf
  cases hl : lv s l m o k with
  | none => simp
  | some x => have := vd_lv h k x hl; simp; omega
theorem lowOf_some {s : Spc} {l : List Rd} {m : Int} {o : Option (Int × Int)} {k : Nat} {x : Int × Int} (h : lv s l m o k = some x) : lowOf s l m o k = x.1 := by simp [lowOf, h]
theorem info3 : (Try.prog.info? 3).map (fun i => (i.zero, i.size, i.bytes)) = some (some (.int .i64 0), 1, 8) := by kernel_rfl
set_option maxRecDepth 100000 in
set_option maxHeartbeats 4000000 in
theorem lowest_c (s : Spc) (m : Sl) (M : Option Nat) (rs : List Rd) (n : Nat) (last : Int) (w : World) (hs : SOk s) (hr : ∀ r ∈ rs, ROk s r) (hrl : rs.length ≤ 1000) (hsa : SAt w m s) (hm : Mp w M rs) (hn60 : n ≤ 60)
    (hsome : ∀ k, k ≤ n → (lv s rs 0 (btw s.s0 s.s1) k).isSome = true) (hl0 : 0 ≤ last) (hl1 : last ≤ 300) :
    Calls Try.prog 54 #[.agg (wV s m M), .int .i64 (n : Int), .int .i64 last] w fun e w' =>
      (∃ g, e = .returned (.slice (some ⟨g, 0, none⟩) (n + 1) (n + 1)) ∧ Blk w' g 3 (rowF (fun k => bkd (lowOf s rs 0 (btw s.s0 s.s1)) (fun k => (chg s (k : Int)).2) last n (n - k)) (n + 1))) ∧ Below w.heap.size w w' := by
  obtain ⟨o, ho⟩ : ∃ o, btw s.s0 s.s1 = o := ⟨_, rfl⟩
  have hvd : Vd o := by rw [← ho]; exact vd_start hs
  rw [ho] at hsome ⊢
  obtain ⟨lo, hlo⟩ : ∃ lo, lowOf s rs 0 o = lo := ⟨_, rfl⟩
  obtain ⟨ch, hch⟩ : ∃ ch, (fun k : Nat => (chg s (k : Int)).2) = ch := ⟨_, rfl⟩
  rw [hlo, hch]
  have HLO := Lib.hid hlo
  have HCH := Lib.hid hch
  clear hlo hch
  obtain ⟨p0, q0, r0, hv0⟩ := lV_ex o
  have HV0 : Hid (lV (btw s.s0 s.s1) = #[.int .i64 p0, .int .i64 q0, .bool r0]) := by show _ = _; rw [ho, hv0]
  have HVO := Lib.hid hv0
  have hbl : s.blows.length ≤ 1000 := by have := hs.nb; omega
  refine (callsIn_wide (n := 6)).1 ?_
  refine callsIn_of_wp_marks Try.func54 rfl trivial ?_ rfl
  clear hv0
  simp only [Try.ntmps54, List.size_toArray, List.length_cons, List.length_nil, Nat.reduceAdd, Nat.reduceSub, Array.replicate_succ, Array.replicate_zero, List.push_toArray, List.append_toArray, List.nil_append, List.cons_append]
  refine wpIn_wide.2 ?_
  have hmk := fun W => run_make_row' (P := Try.prog) 38 3 (.int .i64 0) 8 Try.underlying38 info3 rfl .i64 .i64 (n + 1) (by omega) (by omega) W
  have hw1 : IntKind.i64.wrap ((n : Int) + 1) = (n : Int) + 1 := IntWalk.i64_in _ (by omega)
  simp only [made_row] at hmk
  push_cast at hmk
  obtain ⟨W1, hW1⟩ : ∃ W1, (((w.alloc (.cells (wV s m M) 93)).alloc (.cells #[.int .i64 (n : Int)] 3)).alloc (.cells (rowF (fun _ => 0) (n + 1)) 3)).alloc (.cells #[.slice (some ⟨w.heap.size + 1 + 1, 0, none⟩) (n + 1) (n + 1)] 38) = W1 := ⟨_, rfl⟩
  have hsn1 : Since w W1 := by rw [← hW1]; exact ((((Since.refl w).alloc _).alloc _).alloc _).alloc _
  have bS1 : Blk W1 w.heap.size 93 (wV s m M) := by rw [← hW1]; exact (((Blk.new w _ _).alloc _).alloc _).alloc _
  have bM1 : Blk W1 (w.heap.size + 1) 3 #[.int .i64 (n : Int)] := by rw [← hW1]; exact ((Blk.new1 w _ _ _).alloc _).alloc _
  have bR1 : Blk W1 (w.heap.size + 1 + 1) 3 (rowF (fun _ => 0) (n + 1)) := by rw [← hW1]; exact (Blk.new2 w _ _ _ _).alloc _
  have bV1 : Blk W1 (w.heap.size + 1 + 1 + 1) 38 #[.slice (some ⟨w.heap.size + 1 + 1, 0, none⟩) (n + 1) (n + 1)] := by rw [← hW1]; exact Blk.new3 w _ _ _ _ _
  go_wp2_with fail
  try rw [hW1]
  clear hW1 hmk hw1
  refine Vals6.regionAll (fun X => Blk X w.heap.size 93 (wV s m M) ∧ Since W1 X) [some 15, some 16, some 17] [.is (.agg (wV s m M)), .is (.agg (wV s m M)), .is (.agg #[.int .i64 p0, .int .i64 q0, .bool r0])] (by kernel_rfl) rfl rfl (by kernel_rfl) (by kernel_rfl) (by kernel_rfl) (by kernel_rfl) (by kernel_rfl) (by kernel_rfl) (by kernel_rfl) (⟨bS1.drew, (Since.refl W1).drew⟩) ?_ ?_
  · refine Vals5.Steps.run (by kernel_rfl) (Vals5.Stable.is _) ?_ ?_
    · intro a W hS pre old K hK
      have e3 : a.tmps.getD 3 undef = .pointer (some ⟨w.heap.size, 0, none⟩) := old 3 _ (by kernel_rfl) rfl
      clear pre old
      simp only [Array.getD_eq_getD_getElem?] at e3
      have hS9 := hS
      obtain ⟨l1, _⟩ := hS9
      obtain ⟨d0, d1, d2, d3, d4, d5, d6, d7, d8, d9⟩ := l1.watch
      go_simp
      exact hK _ _ hS (Below.refl _ _) rfl
    refine Vals5.Steps.run (by kernel_rfl) (Vals5.Stable.is _) ?_ ?_
    · intro a W hS pre old K hK
      have e3 : a.tmps.getD 3 undef = .pointer (some ⟨w.heap.size, 0, none⟩) := old 3 _ (by kernel_rfl) rfl
      clear pre old
      simp only [Array.getD_eq_getD_getElem?] at e3
      have hS9 := hS
      obtain ⟨l1, _⟩ := hS9
      obtain ⟨d0, d1, d2, d3, d4, d5, d6, d7, d8, d9⟩ := l1.watch
      go_simp
      exact hK _ _ hS (Below.refl _ _) rfl
    refine Vals5.Steps.run (by kernel_rfl) (Vals5.Stable.is _) ?_ ?_
    · intro a W hS pre old K hK
      have e16 : a.tmps.getD 16 undef = .agg (wV s m M) := pre 1 16 _ (by kernel_rfl) rfl rfl
      clear pre old
      simp only [Array.getD_eq_getD_getElem?] at e16
      go_simp
      refine (start_c s m M _).mono ?_
      rintro e w' ⟨rfl, hb'⟩
      obtain ⟨h1, h2⟩ := hS
      exact hK _ _ ⟨h1.keep hb', h2.keep hb'⟩ hb' (by show Value.agg _ = Value.agg _; rw [HV0.out])
    exact Vals5.Steps.nil
  rintro X2 ⟨bS2, hsn2⟩
  simp only [Vals5.All, List.getLast_cons_cons, List.getLast_singleton]
  simp only [Vals.putAll, List.setIfInBounds_toArray, List.set_cons_zero, List.set_cons_succ]
  intro K hK
  go_simp
  have hF := follow_c s m M 0 o X2
  rw [HVO.out] at hF
  refine hF.mono ?_
  clear hF
  rintro e w0 ⟨rfl, hw0⟩
  refine hK _ _ ?_
  clear hK K
  have hz2 := hsn2.2
  have hz1 := bV1.lt
  have hz0 : w0.heap.size = X2.heap.size + 3 := by rw [← hw0]; simp
  have hsnB : Since W1 w0 := by rw [← hw0]; exact ((hsn2.alloc _).alloc _).alloc _
  have hsnA : Since w w0 := hsn1.keep hsnB.1
  have bS3 := bS1.keep hsnB.1
  have bM3 := bM1.keep hsnB.1
  have bR3 := bR1.keep hsnB.1
  have bV3 := bV1.keep hsnB.1
  have C : Cx (w.heap.size + 1 + 1) (w.heap.size + 1 + 1 + 1) w0.heap.size w0 X2.heap.size (X2.heap.size + 1) (X2.heap.size + 1 + 1) s m M rs 0 o := by
    refine ⟨?_, ?_, ?_, by omega, by omega, by omega, ?_, ?_, hs, hvd, hr, hrl, by omega, by omega⟩
    · rw [← hw0]; exact ((Blk.new X2 _ _).alloc _).alloc _
    · rw [← hw0]; exact (Blk.new1 X2 _ _ _).alloc _
    · rw [← hw0, HVO.out]; exact Blk.new2 X2 _ _ _ _
    · intro W hW
      exact hsa.keep (below_kp hsnA.1 hW (by omega))
    · intro W hW
      exact hm.keep (below_kp hsnA.1 hW (by omega))
  clear hw0 bS1 bM1 bR1 bV1 bS2
  go_wp2_with fail
  refine (wpIn_wide (n := 6)).1 ?_
  refine rangeFunc_c (w := w0) rfl (by omega) (gf := 93) (lb := #[.pointer (some ⟨X2.heap.size + 1 + 1, 0, none⟩), .pointer (some ⟨X2.heap.size + 1, 0, none⟩), .pointer (some ⟨X2.heap.size, 0, none⟩)]) rfl trivial (enters_of Try.func93 (by kernel_rfl) rfl)
    (follow_seq _ (by omega) C (by omega)) Kp.trans (fun W l o o' hl hg hc _ => Kp.put W l o o' (by omega) hg hc) (Below.refl _ _) (fun _ => rfl)
    (fun pre W => ((Blk W (w.heap.size + 1 + 1) 3 (rowF (lowK lo pre.length) (n + 1)) ∧ Blk W (w.heap.size + 1 + 1 + 1) 38 #[.slice (some ⟨w.heap.size + 1 + 1, 0, none⟩) (n + 1) (n + 1)]) ∧ (Blk W w.heap.size 93 (wV s m M) ∧ Blk W (w.heap.size + 1) 3 #[.int .i64 (n : Int)])) ∧ (pre.length ≤ n ∧ Below w.heap.size w W))
    (fun c _ W => ((Blk W (w.heap.size + 1 + 1) 3 (rowF (lowK lo n) (n + 1)) ∧ Blk W (w.heap.size + 1 + 1 + 1) 38 #[.slice (some ⟨w.heap.size + 1 + 1, 0, none⟩) (n + 1) (n + 1)]) ∧ (Blk W w.heap.size 93 (wV s m M) ∧ Blk W (w.heap.size + 1) 3 #[.int .i64 (n : Int)])) ∧ (c = .exit 0 ∧ Below w.heap.size w W))
    ((((AllFrom.blk (by omega) _ _).and (AllFrom.blk (by omega) _ _)).and ((AllFrom.blk (by omega) _ _).and (AllFrom.blk (by omega) _ _))).and ((AllFrom.pure _ _).and (AllFrom.below (Nat.le_refl _) (by omega))))
    (fun _ => (((AllFrom.blk (by omega) _ _).and (AllFrom.blk (by omega) _ _)).and ((AllFrom.blk (by omega) _ _).and (AllFrom.blk (by omega) _ _))).and ((AllFrom.pure _ _).and (AllFrom.below (Nat.le_refl _) (by omega))))
    ⟨⟨⟨by rw [show rowF (lowK lo ([] : List Nat).length) (n + 1) = rowF (fun _ => 0) (n + 1) from rowF_congr fun i _ => by simp [lowK]]; exact bR3, bV3⟩, bS3, bM3⟩, by simp, hsnA.1⟩
    (fun x a' W => ∃ Bx, w.heap.size + 1 + 1 + 1 < Bx ∧ Blk W Bx 95 (lV (lv s rs 0 o x)) ∧ a' = { tmps := #[.agg (wV s m M), .int .i64 (n : Int), .int .i64 last, .pointer (some ⟨w.heap.size, 0, none⟩), .pointer (some ⟨w.heap.size + 1, 0, none⟩), undef, .slice none 0 0, .pointer (some ⟨w.heap.size + 1 + 1 + 1, 0, none⟩), .int .i64 (x : Int), .pointer (some ⟨Bx, 0, none⟩), undef, undef, .int .i64 (n : Int), .int .i64 ((n : Int) + 1), .slice (some ⟨w.heap.size + 1 + 1, 0, none⟩) (n + 1) (n + 1), .agg (wV s m M), .agg (wV s m M), .agg #[.int .i64 p0, .int .i64 q0, .bool r0], .func (.func 93) #[] #[.pointer (some ⟨X2.heap.size + 1 + 1, 0, none⟩), .pointer (some ⟨X2.heap.size + 1, 0, none⟩), .pointer (some ⟨X2.heap.size, 0, none⟩)], .int .i64 (x : Int), .agg (lV (lv s rs 0 o x)), undef, undef, undef, undef, undef, undef, undef, undef, undef, undef, undef, undef, undef, undef, undef, undef, undef, undef, undef, undef, undef, undef, undef, undef, undef, undef, undef], defers := [] })
    (fun x a' _ X Y row hs hg hr => by
      obtain ⟨Bx, h1, h2, h3⟩ := hs
      exact ⟨Bx, h1, h2.grown hg (fun e => by obtain ⟨_, o, ho, hc⟩ := hr Bx e.symm; rw [show X.heap[Bx]? = _ from h2] at ho; cases ho; cases hc), h3⟩)
    ?assign ?body ?done ?stop
  case assign =>
    rintro l pre x W K ⟨⟨⟨i1, i2⟩, i3, i4⟩, i5, i6⟩ hK
    obtain ⟨p1, q1, r1, hv1⟩ := lV_ex (lv s rs 0 o x)
    dsimp only [encF]
    rw [Int.zero_add]
    rw [hv1] at hK ⊢
    gi_wp2
    exact hK _ _ ((KeepsOthers.alloc _ _).from _) (.of ((Below.refl _ W).alloc (Nat.le_refl _) _)) ⟨⟨⟨i1.alloc _, i2.alloc _⟩, i3.alloc _, i4.alloc _⟩, i5, i6.alloc i6.size _⟩ ⟨W.heap.size, i2.lt, Blk.new W _ _, rfl⟩
  case body =>
    rintro l pre x a' W hl ⟨r, hr⟩ ⟨⟨⟨i1, i2⟩, i3, i4⟩, i5, i6⟩ ⟨Bx, hBx, bX, rfl⟩ ⟨rfl, hSx⟩
    have hxl : (List.range x).length = x := List.length_range
    have m0 := i4.cell 0
    have v0 := i2.cell 0
    simp only [List.getElem?_toArray, List.getElem?_cons_zero] at m0 v0
    rw [hxl] at i1 i5
    by_cases hxn : x = n
    · subst hxn
      clear bX
      gi_wp2
      exact ⟨⟨Nat.le_refl _, fun _ _ _ h _ => h⟩, ⟨⟨i1, i2⟩, i3, i4⟩, rfl, i6⟩
    · have hxn' : ((x : Int) == (n : Int)) = false := beq_eq_false_iff_ne.2 (by omega)
      cases hlv : lv s rs 0 o x with
      | none => have := (hSx x (by omega)).1; rw [hlv] at this; cases this
      | some y =>
        try rw [hlv] at bX
        simp only [lV] at bX ⊢
        have hlo : lo x = y.1 := by rw [← HLO.out]; exact lowOf_some hlv
        obtain ⟨e0, e1, e2⟩ := bX.lev
        have hx1 : (x : Int) < (n : Int) + 1 := by omega
        have r0 := i1.cell x
        rw [rowF_get _ (show x < n + 1 by omega)] at r0
        have f0 := i1.frozen x
        have HX := Lib.hid (show x + 1 ≤ n by omega)
        have HR := Lib.hid ((i1.set x (.int .i64 (lo x))))
        rw [rowF_set, lowK_set, hlo] at HR
        clear hxn hlv hlo
        gi_wp2
        refine ⟨(KeepsOthers.setCell _ _ _).from _, (Kp.refl _ _ _ _).setCell _ _ _ (by omega) (by omega), ⟨⟨?_, i2.far (by omega) _ _⟩, i3.far (by omega) _ _, i4.far (by omega) _ _⟩, ?_, i6.setCell (p := ⟨w.heap.size + 1 + 1, x, none⟩) (by simp; omega) _⟩
        · rw [List.length_append, hxl]; exact HR.out
        · rw [List.length_append, hxl]; exact HX.out
  case done =>
    rintro D xs W hD ⟨k, rfl, hE⟩ ⟨⟨⟨i1, i2⟩, i3, i4⟩, i5, i6⟩ hK
    exfalso
    rw [List.length_range] at i5
    rcases hE.2 with h | h
    · have := hsome k i5; rw [h] at this; cases this
    · omega
  case stop =>
    rintro D c pre W hD ⟨k, rfl, hE⟩ ⟨⟨⟨i1, i2⟩, i3, i4⟩, rfl, i6⟩ hK
    have m0 := i4.cell 0
    have v0 := i2.cell 0
    simp only [List.getElem?_toArray, List.getElem?_cons_zero] at m0 v0
    have r0 := i1.cell n
    rw [rowF_get _ (show n < n + 1 by omega)] at r0
    have f0 := i1.frozen n
    have hnn : (n : Int) < (n : Int) + 1 := by omega
    have hlob : Hid (∀ k, 0 ≤ lo k ∧ lo k ≤ 200) := fun k => by rw [← HLO.out]; exact lowOf_in hvd k
    have hchb : Hid (∀ k, -20 ≤ ch k) := fun k => by
      rw [← HCH.out]
      have := chg_ok hs (k : Int)
      show -20 ≤ (chg s (k : Int)).2
      omega
    have hBR := (i1.set n (.int .i64 last))
    rw [rowF_set, rowF_congr (fun i hi => lowK_mix lo ch last n i hi)] at hBR
    have HBR := Lib.hid hBR
    have HV2 := Lib.hid (i2.far (g' := w.heap.size + 1 + 1) (by omega) n (.int .i64 last))
    have HS2 := Lib.hid (i3.far (g' := w.heap.size + 1 + 1) (by omega) n (.int .i64 last))
    have HM2 := Lib.hid (i4.far (g' := w.heap.size + 1 + 1) (by omega) n (.int .i64 last))
    have hsn6 : Since w (W.setCell ⟨w.heap.size + 1 + 1, n, none⟩ (.int .i64 last)) := ⟨i6.setCell (p := ⟨w.heap.size + 1 + 1, n, none⟩) (by simp; omega) _, by simpa using i6.size⟩
    have hD6 : (W.setCell ⟨w.heap.size + 1 + 1, n, none⟩ (.int .i64 last)).heap[D]? = some (.deferred (some [])) := (heap_setCell_other W ⟨w.heap.size + 1 + 1, n, none⟩ D _ (by simp; omega)).trans hK
    have HDN : Hid (w0.heap.size ≤ D) := hD
    clear hBR
    gi_wp2
    go_wp2_with fail
    clear m0 v0 r0 f0 hnn i1 i2 i3 i4
    go_loopw [11] (fun i wr => ∃ (q : Nat) (v : Int), q ≤ n ∧ i = .int .i64 v ∧ v = (q : Int) - 1 ∧ Hid (Blk wr (w.heap.size + 1 + 1) 3 (rowF (mix lo ch last n q) (n + 1))) ∧ Hid (Blk wr (w.heap.size + 1 + 1 + 1) 38 #[.slice (some ⟨w.heap.size + 1 + 1, 0, none⟩) (n + 1) (n + 1)]) ∧ Hid (Blk wr w.heap.size 93 (wV s m M)) ∧ Hid (Blk wr (w.heap.size + 1) 3 #[.int .i64 (n : Int)]) ∧ Since w wr ∧ Hid (wr.heap[D]? = some (.deferred (some [])))) (fun i _ => (intOf i + 1).toNat)
    case atStart => exact ⟨n, _, Nat.le_refl _, rfl, rfl, HBR, HV2, HS2, HM2, hsn6, hD6⟩
    case round =>
      obtain ⟨q, v, hq, rfl, hvq, HR, HV, HS, HM, hsn, HD⟩ := hrel
      cases q with
      | zero =>
        obtain rfl : v = -1 := by omega
        clear hvq
        have hm1 : decide ((-1 : Int) ≥ 0) = false := by decide
        have v0 := HV.out.cell 0
        simp only [List.getElem?_toArray, List.getElem?_cons_zero] at v0
        go_wp2_with fail
        have hD9 := HDN.out
        refine ⟨by simp, .inl ⟨_, _, rfl, run_takeDeferred HD.out, ?_⟩⟩
        refine ⟨_, results_tmp rfl _ _ _, ⟨w.heap.size + 1 + 1, rfl, ?_⟩, hsn.1.trans (belowK_b (w := w) (Nat.le_refl _) _ D _ _ (by omega) HD.out rfl rfl)⟩
        rw [rowF_congr (g := mix lo ch last n 0) (fun i _ => by simp [mix])]
        exact HR.out.grown (grownBy_putObj' _ D (.deferred none)) (fun e => by cases e; omega)
      | succ j =>
        obtain rfl : v = (j : Int) := by omega
        clear hvq
        have hj0 : ¬ (j : Int) < 0 := by omega
        have hj1 : (0 : Int) ≤ (j : Int) := by omega
        have hsa9 := hsa.keep hsn.1
        have HSO := Lib.hid (src_mix lo ch last n j (by omega))
        have hM1 : Hid (∀ i, i ≤ n → -100000 ≤ mix lo ch last n (j + 1) i) := fun i hi => by
          have h1 := bkd_in (n := n) hlob.out hchb.out hl0 hl1 (n - i)
          have h2 := hlob.out i
          unfold mix
          split <;> omega
        have hM2 : Hid (∀ i, i ≤ n → mix lo ch last n (j + 1) i ≤ 100000) := fun i hi => by
          have h1 := bkd_in (n := n) hlob.out hchb.out hl0 hl1 (n - i)
          have h2 := hlob.out i
          unfold mix
          split <;> omega
        go_wp2_with fail
        refine Vals6.regionAll (fun X => Blk X (w.heap.size + 1 + 1 + 1) 38 #[.slice (some ⟨w.heap.size + 1 + 1, 0, none⟩) (n + 1) (n + 1)] ∧ Blk X (w.heap.size + 1 + 1) 3 (rowF (mix lo ch last n (j + 1)) (n + 1)) ∧ Blk X w.heap.size 93 (wV s m M) ∧ SAt X m s ∧ Since w X ∧ Blk X (w.heap.size + 1) 3 #[.int .i64 (n : Int)] ∧ X.heap[D]? = some (.deferred (some []))) [some 41, some 42, some 43, some 44, some 45, some 46] [.is (.slice (some ⟨w.heap.size + 1 + 1, 0, none⟩) (n + 1) (n + 1)), .is (.int .i64 (j : Int)), .is (.func (.func 82) #[] #[.pointer (some ⟨w.heap.size + 1 + 1 + 1, 0, none⟩), .pointer (some ⟨w.heap.size, 0, none⟩)]), .is (.int .i64 (j : Int)), .is (.int .i64 (bkd lo ch last n (n - j))), .is (.pointer (some ⟨w.heap.size + 1 + 1, j, none⟩))] (by kernel_rfl) rfl rfl (by kernel_rfl) (by kernel_rfl) (by kernel_rfl) (by kernel_rfl) (by kernel_rfl) (by kernel_rfl) (by kernel_rfl) (⟨HV.out.drew, HR.out.drew, HS.out.drew, hsa9.keep (Below.refl _ _).drew, hsn.drew, HM.out.drew, HD.out⟩) ?_ ?_
        · refine Vals5.Steps.run (by kernel_rfl) (Vals5.Stable.is _) ?_ ?_
          · intro a W hS pre old K hK
            have e7 : a.tmps.getD 7 undef = .pointer (some ⟨w.heap.size + 1 + 1 + 1, 0, none⟩) := old 7 _ (by kernel_rfl) rfl
            clear pre old
            simp only [Array.getD_eq_getD_getElem?] at e7
            have hS9 := hS
            obtain ⟨l1, _⟩ := hS9
            have v0 := l1.cell 0
            simp only [List.getElem?_toArray, List.getElem?_cons_zero] at v0
            go_simp
            exact hK _ _ hS (Below.refl _ _) rfl
          refine Vals5.Steps.run (by kernel_rfl) (Vals5.Stable.is _) ?_ ?_
          · intro a W hS pre old K hK
            have e11 : a.tmps.getD 11 undef = .int .i64 (j : Int) := old 11 _ (by kernel_rfl) rfl
            clear pre old
            simp only [Array.getD_eq_getD_getElem?] at e11
            go_simp
            exact hK _ _ hS (Below.refl _ _) rfl
          refine Vals5.Steps.run (by kernel_rfl) (Vals5.Stable.is _) ?_ ?_
          · intro a W hS pre old K hK
            have e10 : a.tmps.getD 10 undef = .func (.func 82) #[] #[.pointer (some ⟨w.heap.size + 1 + 1 + 1, 0, none⟩), .pointer (some ⟨w.heap.size, 0, none⟩)] := old 10 _ (by kernel_rfl) rfl
            clear pre old
            simp only [Array.getD_eq_getD_getElem?] at e10
            go_simp
            exact hK _ _ hS (Below.refl _ _) rfl
          refine Vals5.Steps.run (by kernel_rfl) (Vals5.Stable.is _) ?_ ?_
          · intro a W hS pre old K hK
            have e11 : a.tmps.getD 11 undef = .int .i64 (j : Int) := old 11 _ (by kernel_rfl) rfl
            clear pre old
            simp only [Array.getD_eq_getD_getElem?] at e11
            go_simp
            exact hK _ _ hS (Below.refl _ _) rfl
          refine Vals5.Steps.run (by kernel_rfl) (Vals5.Stable.is _) ?_ ?_
          · intro a W hS pre old K hK
            have e43 : a.tmps.getD 43 undef = .func (.func 82) #[] #[.pointer (some ⟨w.heap.size + 1 + 1 + 1, 0, none⟩), .pointer (some ⟨w.heap.size, 0, none⟩)] := pre 2 43 _ (by kernel_rfl) rfl rfl
            have e44 : a.tmps.getD 44 undef = .int .i64 (j : Int) := pre 3 44 _ (by kernel_rfl) rfl rfl
            clear pre old
            simp only [Array.getD_eq_getD_getElem?] at e43 e44
            go_simp
            obtain ⟨h1, h2, h3, h4, h5, h6, h7⟩ := hS
            refine (source_c s m M (mix lo ch last n (j + 1)) n j (w.heap.size + 1 + 1 + 1) (w.heap.size + 1 + 1) w.heap.size _ h1 h2 h3 h4 hs hbl (by omega) (by omega) hM1.out hM2.out).mono ?_
            rintro e w' ⟨rfl, hb'⟩
            exact hK _ _ ⟨h1.keep hb', h2.keep hb', h3.keep hb', h4.keep hb', h5.keep hb', h6.keep hb', (hb'.block D (Array.getElem?_eq_some_iff.1 h7).1).trans h7⟩ hb' (by show Value.int _ _ = Value.int _ _; rw [HCH.out, HSO.out])
          refine Vals5.Steps.run (by kernel_rfl) (Vals5.Stable.is _) ?_ ?_
          · intro a W hS pre old K hK
            have e41 : a.tmps.getD 41 undef = .slice (some ⟨w.heap.size + 1 + 1, 0, none⟩) (n + 1) (n + 1) := pre 0 41 _ (by kernel_rfl) rfl rfl
            have e42 : a.tmps.getD 42 undef = .int .i64 (j : Int) := pre 1 42 _ (by kernel_rfl) rfl rfl
            clear pre old
            simp only [Array.getD_eq_getD_getElem?] at e41 e42
            have hk1 : (j : Int) < (n : Int) + 1 := by omega
            go_simp
            first | exact hK _ _ hS (Below.refl _ _) rfl | (rw [add_new]; exact hK _ _ hS (Below.refl _ _) rfl)
          exact Vals5.Steps.nil
        rintro X ⟨hv9, hr9, hs9, _, hsn9, hm9, hd9⟩
        simp only [Vals5.All, List.getLast_cons_cons, List.getLast_singleton]
        simp only [Vals.putAll, List.setIfInBounds_toArray, List.set_cons_zero, List.set_cons_succ]
        have r9 := hr9.cell j
        rw [rowF_get _ (show j < n + 1 by omega)] at r9
        have f9 := hr9.frozen j
        have HR9 := Lib.hid (hr9.set j (.int .i64 (bkd lo ch last n (n - j))))
        rw [rowF_set, mix_set] at HR9
        have hD9 := HDN.out
        have HD9 : Hid ((X.setCell ⟨w.heap.size + 1 + 1, j, none⟩ (.int .i64 (bkd lo ch last n (n - j)))).heap[D]? = some (.deferred (some []))) := (heap_setCell_other X ⟨w.heap.size + 1 + 1, j, none⟩ D _ (by simp; omega)).trans hd9
        intro K hK
        go_simp
        refine hK _ _ ?_
        clear hK K r9 f9
        go_wp2_with fail
        go_roundw
        case rel => exact ⟨j, _, by omega, rfl, rfl, HR9, Lib.hid (hv9.far (by omega) _ _), Lib.hid (hs9.far (by omega) _ _), Lib.hid (hm9.far (by omega) _ _), ⟨hsn9.1.setCell (p := ⟨w.heap.size + 1 + 1, j, none⟩) (by simp; omega) _, by simpa using hsn9.2⟩, HD9⟩
        case measure => simp [intOf]
end Td
end Go.Proofs.Ytmofbnadfgejiaa
/- Until when a reading holds. -/
namespace Go.Proofs.Ytmofbnadfgejiaa
open Go.RowKit
namespace Td
set_option linter.unusedSimpArgs false
set_option linter.unusedVariables false
attribute [local go_sem] Oper.semAt_some
theorem isKeyI (n : Int) : MapKept.IsKey (.int .i64) (.int .i64 n) := by simp [MapKept.IsKey]
theorem mp_nil (w : World) : Mp w none [] := fun m => ⟨none, 0, fun W _ => by
  have hz : ∀ W, (zeroValue 28).run Try.prog W = .ok (.slice none 0 0) W := fun W => by kernel_rfl
  simp [Instr.lookup, atM, run_underlying Try.underlying91, run_underlying Try.underlying3, Sem.run_bind, MapKept.run_checkKey Try.underlying3 (isKeyI _) _ 9999, Instr.findKey, Instr.findNow, hz], fun h => absurd rfl h⟩
set_option maxRecDepth 100000 in
set_option maxHeartbeats 4000000 in
theorem holds_c (s : Spc) (m : Sl) (r : Rd) (w : World) (hs : SOk s) (hsa : SAt w m s) (hr : ROk s r) :
    Calls Try.prog 60 #[.agg (wV s m none), .agg (rV r)] w fun e w' => e = .returned (.int .i64 (hol s r)) ∧ Below w.heap.size w w' := by
  obtain ⟨t, ht⟩ : ∃ t : Nat, r.tool = (t : Int) := ⟨r.tool.toNat, by have := hr.t0; omega⟩
  have htl : t < s.tools.length := by have := hr.t1; omega
  obtain ⟨ae, hT, _, e1⟩ := hsa.tl.get htl
  obtain ⟨er, her⟩ : ∃ er, s.tools[t].err = er := ⟨_, rfl⟩
  have her2 : errOf s r = er := by unfold errOf; rw [ht]; simp [List.getElem?_eq_getElem htl, her]
  have he1 := hs.er _ (List.getElem_mem htl)
  have ht3 := hs.t3
  rw [her] at e1 he1
  have HE1 := Lib.hid e1
  have HT := Lib.hid hT
  have hh0 := hr.h0
  have hh1 := hr.h1
  obtain ⟨mo, hmo⟩ : ∃ mo, r.shown + er = mo := ⟨_, rfl⟩
  obtain ⟨E, hE⟩ : ∃ E, hol s r = E := ⟨_, rfl⟩
  rw [hE]
  unfold hol at hE
  rw [her2, hmo] at hE
  have HE := Lib.hid hE
  clear e1 her her2 hE hT
  have bS0 := (Blk.new w 93 (wV s m none)).alloc (.cells (rV r) 61)
  have bR0 := Blk.new1 w (.cells (wV s m none) 93) 61 (rV r)
  have hsn0 := ((Since.refl w).alloc (.cells (wV s m none) 93)).alloc (.cells (rV r) 61)
  go_enter Try.func60, Try.ntmps60
  go_wp2_with fail
  refine Vals6.regionAll (fun X => Blk X w.heap.size 93 (wV s m none) ∧ Blk X (w.heap.size + 1) 61 (rV r) ∧ Since w X) [some 6, some 7, some 8, some 9, some 10, some 11, some 12, some 13, some 14, some 15, some 16] [.is (.pointer (some ⟨w.heap.size + 1, 2, none⟩)), .is (.int .i64 r.shown), .is (.pointer (some ⟨w.heap.size, 0, none⟩)), .is (.pointer (some ⟨w.heap.size, 8, none⟩)), .is (.slice (some ae) s.tools.length m.d), .is (.pointer (some ⟨w.heap.size + 1, 1, none⟩)), .is (.int .i64 (t : Int)), .is (.pointer (some (ae.add (t * 2)))), .is (.pointer (some (at_ (ae.add (t * 2)) 1))), .is (.int .i64 er), .is (.int .i64 mo)] (by kernel_rfl) rfl rfl (by kernel_rfl) (by kernel_rfl) (by kernel_rfl) (by kernel_rfl) (by kernel_rfl) (by kernel_rfl) (by kernel_rfl) (⟨bS0.drew, bR0.drew, hsn0.drew⟩) ?_ ?_
  · refine Vals5.Steps.run (by kernel_rfl) (Vals5.Stable.is _) ?_ ?_
    · intro a W hS pre old K hK
      have e3 : a.tmps.getD 3 undef = .pointer (some ⟨w.heap.size + 1, 0, none⟩) := old 3 _ (by kernel_rfl) rfl
      clear pre old
      simp only [Array.getD_eq_getD_getElem?] at e3
      go_simp
      exact hK _ _ hS (Below.refl _ _) rfl
    refine Vals5.Steps.run (by kernel_rfl) (Vals5.Stable.is _) ?_ ?_
    · intro a W hS pre old K hK
      have e6 : a.tmps.getD 6 undef = .pointer (some ⟨w.heap.size + 1, 2, none⟩) := pre 0 6 _ (by kernel_rfl) rfl rfl
      clear pre old
      simp only [Array.getD_eq_getD_getElem?] at e6
      have hS9 := hS
      obtain ⟨l1, l2, l3⟩ := hS9
      obtain ⟨d0, d1, d2, d3, d4, d5, d6, d7, d8, d9⟩ := l1.watch
      rw [HT.out] at d8
      have c1 := l2.cell 1
      have c2 := l2.cell 2
      simp only [List.getElem?_toArray, List.getElem?_cons_zero, List.getElem?_cons_succ] at c1 c2
      rw [ht] at c1
      have e9 := keep_cell l3.1 HE1.out
      go_simp
      exact hK _ _ hS (Below.refl _ _) rfl
    refine Vals5.Steps.run (by kernel_rfl) (Vals5.Stable.is _) ?_ ?_
    · intro a W hS pre old K hK
      have e2 : a.tmps.getD 2 undef = .pointer (some ⟨w.heap.size, 0, none⟩) := old 2 _ (by kernel_rfl) rfl
      clear pre old
      simp only [Array.getD_eq_getD_getElem?] at e2
      go_simp
      exact hK _ _ hS (Below.refl _ _) rfl
    refine Vals5.Steps.run (by kernel_rfl) (Vals5.Stable.is _) ?_ ?_
    · intro a W hS pre old K hK
      have e8 : a.tmps.getD 8 undef = .pointer (some ⟨w.heap.size, 0, none⟩) := pre 2 8 _ (by kernel_rfl) rfl rfl
      clear pre old
      simp only [Array.getD_eq_getD_getElem?] at e8
      go_simp
      exact hK _ _ hS (Below.refl _ _) rfl
    refine Vals5.Steps.run (by kernel_rfl) (Vals5.Stable.is _) ?_ ?_
    · intro a W hS pre old K hK
      have e9 : a.tmps.getD 9 undef = .pointer (some ⟨w.heap.size, 8, none⟩) := pre 3 9 _ (by kernel_rfl) rfl rfl
      clear pre old
      simp only [Array.getD_eq_getD_getElem?] at e9
      have hS9 := hS
      obtain ⟨l1, l2, l3⟩ := hS9
      obtain ⟨d0, d1, d2, d3, d4, d5, d6, d7, d8, d9⟩ := l1.watch
      rw [HT.out] at d8
      have c1 := l2.cell 1
      have c2 := l2.cell 2
      simp only [List.getElem?_toArray, List.getElem?_cons_zero, List.getElem?_cons_succ] at c1 c2
      rw [ht] at c1
      have e9 := keep_cell l3.1 HE1.out
      go_simp
      exact hK _ _ hS (Below.refl _ _) rfl
    refine Vals5.Steps.run (by kernel_rfl) (Vals5.Stable.is _) ?_ ?_
    · intro a W hS pre old K hK
      have e3 : a.tmps.getD 3 undef = .pointer (some ⟨w.heap.size + 1, 0, none⟩) := old 3 _ (by kernel_rfl) rfl
      clear pre old
      simp only [Array.getD_eq_getD_getElem?] at e3
      go_simp
      exact hK _ _ hS (Below.refl _ _) rfl
    refine Vals5.Steps.run (by kernel_rfl) (Vals5.Stable.is _) ?_ ?_
    · intro a W hS pre old K hK
      have e11 : a.tmps.getD 11 undef = .pointer (some ⟨w.heap.size + 1, 1, none⟩) := pre 5 11 _ (by kernel_rfl) rfl rfl
      clear pre old
      simp only [Array.getD_eq_getD_getElem?] at e11
      have hS9 := hS
      obtain ⟨l1, l2, l3⟩ := hS9
      obtain ⟨d0, d1, d2, d3, d4, d5, d6, d7, d8, d9⟩ := l1.watch
      rw [HT.out] at d8
      have c1 := l2.cell 1
      have c2 := l2.cell 2
      simp only [List.getElem?_toArray, List.getElem?_cons_zero, List.getElem?_cons_succ] at c1 c2
      rw [ht] at c1
      have e9 := keep_cell l3.1 HE1.out
      go_simp
      exact hK _ _ hS (Below.refl _ _) rfl
    refine Vals5.Steps.run (by kernel_rfl) (Vals5.Stable.is _) ?_ ?_
    · intro a W hS pre old K hK
      have e10 : a.tmps.getD 10 undef = .slice (some ae) s.tools.length m.d := pre 4 10 _ (by kernel_rfl) rfl rfl
      have e12 : a.tmps.getD 12 undef = .int .i64 (t : Int) := pre 6 12 _ (by kernel_rfl) rfl rfl
      clear pre old
      simp only [Array.getD_eq_getD_getElem?] at e10 e12
      have hti : (t : Int) < (s.tools.length : Int) := by omega
      go_simp
      exact hK _ _ hS (Below.refl _ _) rfl
    refine Vals5.Steps.run (by kernel_rfl) (Vals5.Stable.is _) ?_ ?_
    · intro a W hS pre old K hK
      have e13 : a.tmps.getD 13 undef = .pointer (some (ae.add (t * 2))) := pre 7 13 _ (by kernel_rfl) rfl rfl
      clear pre old
      simp only [Array.getD_eq_getD_getElem?] at e13
      go_simp
      exact hK _ _ hS (Below.refl _ _) rfl
    refine Vals5.Steps.run (by kernel_rfl) (Vals5.Stable.is _) ?_ ?_
    · intro a W hS pre old K hK
      have e14 : a.tmps.getD 14 undef = .pointer (some (at_ (ae.add (t * 2)) 1)) := pre 8 14 _ (by kernel_rfl) rfl rfl
      clear pre old
      simp only [Array.getD_eq_getD_getElem?] at e14
      have hS9 := hS
      obtain ⟨l1, l2, l3⟩ := hS9
      obtain ⟨d0, d1, d2, d3, d4, d5, d6, d7, d8, d9⟩ := l1.watch
      rw [HT.out] at d8
      have c1 := l2.cell 1
      have c2 := l2.cell 2
      simp only [List.getElem?_toArray, List.getElem?_cons_zero, List.getElem?_cons_succ] at c1 c2
      rw [ht] at c1
      have e9 := keep_cell l3.1 HE1.out
      go_simp
      exact hK _ _ hS (Below.refl _ _) rfl
    refine Vals5.Steps.run (by kernel_rfl) (Vals5.Stable.is _) ?_ ?_
    · intro a W hS pre old K hK
      have e7 : a.tmps.getD 7 undef = .int .i64 r.shown := pre 1 7 _ (by kernel_rfl) rfl rfl
      have e15 : a.tmps.getD 15 undef = .int .i64 er := pre 9 15 _ (by kernel_rfl) rfl rfl
      clear pre old
      simp only [Array.getD_eq_getD_getElem?] at e7 e15
      have hw9 : IntKind.i64.wrap mo = mo := IntWalk.i64_in _ (by omega)
      go_simp
      exact hK _ _ hS (Below.refl _ _) rfl
    exact Vals5.Steps.nil
  rintro X ⟨bS1, bR1, hsn1⟩
  simp only [Vals5.All, List.getLast_cons_cons, List.getLast_singleton]
  simp only [Vals.putAll, List.setIfInBounds_toArray, List.set_cons_zero, List.set_cons_succ]
  intro K hK
  go_simp
  refine hK _ _ ?_
  clear hK K
  by_cases hm0 : mo < 0
  · have HZ : Hid (-1 = E) := by have := HE.out; rw [if_pos hm0] at this; exact this
    go_wp2_with fail
    go_ret
    exact ⟨ret_int HZ.out, hsn1.1⟩
  · have HZ : Hid (untl s [] r.min (btw (hld mo) (hld mo)) = E) := by have := HE.out; rw [if_neg hm0] at this; exact this
    have hm0' : ¬ mo < 0 := hm0
    have hvd : Vd (btw (hld mo) (hld mo)) := vd_of (up_btw _ _) fun n hn => by rw [mem_btw] at hn; have := hld_in mo; omega
    obtain ⟨p, q, bb, hv⟩ := lV_ex (btw (hld mo) (hld mo))
    have HV := Lib.hid hv
    clear hv
    go_wp2_with fail
    refine (held_c _ _).mono ?_
    rintro e w2 ⟨rfl, rfl⟩
    have bS2 := bS1
    have bR2 := bR1
    have hsn2 := hsn1
    go_wp2_with fail
    refine Vals6.regionAll (fun X => Blk X w.heap.size 93 (wV s m none) ∧ Blk X (w.heap.size + 1) 61 (rV r) ∧ Since w X) [some 21, some 22, some 23, some 24, some 25, some 26, some 27] [.is (.agg (wV s m none)), .is (.pointer (some ⟨w.heap.size + 1, 0, none⟩)), .is (.int .i64 r.min), .is (.int .i64 (hld mo)), .is (.int .i64 (hld mo)), .is (.agg #[.int .i64 p, .int .i64 q, .bool bb]), .is (.int .i64 (untl s [] r.min (btw (hld mo) (hld mo))))] (by kernel_rfl) rfl rfl (by kernel_rfl) (by kernel_rfl) (by kernel_rfl) (by kernel_rfl) (by kernel_rfl) (by kernel_rfl) (by kernel_rfl) (⟨bS2.drew, bR2.drew, hsn2.drew⟩) ?_ ?_
    · refine Vals5.Steps.run (by kernel_rfl) (Vals5.Stable.is _) ?_ ?_
      · intro a W hS pre old K hK
        have e2 : a.tmps.getD 2 undef = .pointer (some ⟨w.heap.size, 0, none⟩) := old 2 _ (by kernel_rfl) rfl
        clear pre old
        simp only [Array.getD_eq_getD_getElem?] at e2
        have hS9 := hS
        obtain ⟨l1, l2, l3⟩ := hS9
        obtain ⟨d0, d1, d2, d3, d4, d5, d6, d7, d8, d9⟩ := l1.watch
        have c0 := l2.cell 0
        simp only [List.getElem?_toArray, List.getElem?_cons_zero, List.getElem?_cons_succ] at c0
        go_simp
        exact hK _ _ hS (Below.refl _ _) rfl
      refine Vals5.Steps.run (by kernel_rfl) (Vals5.Stable.is _) ?_ ?_
      · intro a W hS pre old K hK
        have e3 : a.tmps.getD 3 undef = .pointer (some ⟨w.heap.size + 1, 0, none⟩) := old 3 _ (by kernel_rfl) rfl
        clear pre old
        simp only [Array.getD_eq_getD_getElem?] at e3
        go_simp
        exact hK _ _ hS (Below.refl _ _) rfl
      refine Vals5.Steps.run (by kernel_rfl) (Vals5.Stable.is _) ?_ ?_
      · intro a W hS pre old K hK
        have e22 : a.tmps.getD 22 undef = .pointer (some ⟨w.heap.size + 1, 0, none⟩) := pre 1 22 _ (by kernel_rfl) rfl rfl
        clear pre old
        simp only [Array.getD_eq_getD_getElem?] at e22
        have hS9 := hS
        obtain ⟨l1, l2, l3⟩ := hS9
        obtain ⟨d0, d1, d2, d3, d4, d5, d6, d7, d8, d9⟩ := l1.watch
        have c0 := l2.cell 0
        simp only [List.getElem?_toArray, List.getElem?_cons_zero, List.getElem?_cons_succ] at c0
        go_simp
        exact hK _ _ hS (Below.refl _ _) rfl
      refine Vals5.Steps.run (by kernel_rfl) (Vals5.Stable.is _) ?_ ?_
      · intro a W hS pre old K hK
        have e5 : a.tmps.getD 5 undef = .int .i64 (hld mo) := old 5 _ (by kernel_rfl) rfl
        clear pre old
        simp only [Array.getD_eq_getD_getElem?] at e5
        go_simp
        exact hK _ _ hS (Below.refl _ _) rfl
      refine Vals5.Steps.run (by kernel_rfl) (Vals5.Stable.is _) ?_ ?_
      · intro a W hS pre old K hK
        have e5 : a.tmps.getD 5 undef = .int .i64 (hld mo) := old 5 _ (by kernel_rfl) rfl
        clear pre old
        simp only [Array.getD_eq_getD_getElem?] at e5
        go_simp
        exact hK _ _ hS (Below.refl _ _) rfl
      refine Vals5.Steps.run (by kernel_rfl) (Vals5.Stable.is _) ?_ ?_
      · intro a W hS pre old K hK
        have e24 : a.tmps.getD 24 undef = .int .i64 (hld mo) := pre 3 24 _ (by kernel_rfl) rfl rfl
        have e25 : a.tmps.getD 25 undef = .int .i64 (hld mo) := pre 4 25 _ (by kernel_rfl) rfl rfl
        clear pre old
        simp only [Array.getD_eq_getD_getElem?] at e24 e25
        go_simp
        refine (between_c _ _ _).mono ?_
        rintro e w' ⟨rfl, hb'⟩
        obtain ⟨h1, h2, h3⟩ := hS
        exact hK _ _ ⟨h1.keep hb', h2.keep hb', h3.keep hb'⟩ hb' (by show Value.agg _ = Value.agg _; rw [HV.out])
      refine Vals5.Steps.run (by kernel_rfl) (Vals5.Stable.is _) ?_ ?_
      · intro a W hS pre old K hK
        have e21 : a.tmps.getD 21 undef = .agg (wV s m none) := pre 0 21 _ (by kernel_rfl) rfl rfl
        have e23 : a.tmps.getD 23 undef = .int .i64 r.min := pre 2 23 _ (by kernel_rfl) rfl rfl
        have e26 : a.tmps.getD 26 undef = .agg #[.int .i64 p, .int .i64 q, .bool bb] := pre 5 26 _ (by kernel_rfl) rfl rfl
        clear pre old
        simp only [Array.getD_eq_getD_getElem?] at e21 e23 e26
        have hU := until_c s m none [] r.min (btw (hld mo) (hld mo)) W hs hvd (fun r h => absurd h (by simp)) (by simp) (hsa.keep hS.2.2.1) (mp_nil W) hr.m0 hr.m1
        rw [HV.out] at hU
        go_simp
        refine hU.mono ?_
        rintro e w' ⟨rfl, hb'⟩
        obtain ⟨h1, h2, h3⟩ := hS
        exact hK _ _ ⟨h1.keep hb', h2.keep hb', h3.keep hb'⟩ hb' rfl
      exact Vals5.Steps.nil
    rintro X9 ⟨bS3, bR3, hsn3⟩
    simp only [Vals5.All, List.getLast_cons_cons, List.getLast_singleton]
    simp only [Vals.putAll, List.setIfInBounds_toArray, List.set_cons_zero, List.set_cons_succ]
    intro K hK
    go_simp
    refine hK _ _ ?_
    clear hK K
    go_wp2_with fail
    go_ret
    exact ⟨ret_int HZ.out, hsn3.1⟩
end Td
end Go.Proofs.Ytmofbnadfgejiaa
