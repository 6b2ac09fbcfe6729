import Derived.Test.YtccacinnelmnpaaChkA
import Derived.Test.YtccacinnelmnpaaRf
/- The error of a span of minutes; those of all; the error of a space's levels. -/
namespace Go.Proofs.Ytccacinnelmnpaa
open Go.RowKit
namespace Td
set_option linter.unusedSimpArgs false
set_option linter.unusedVariables false
attribute [local go_sem] Oper.semAt_some
def NewSp (p : Int × Int) (v : Value) (X : World) : Prop := ∃ g : Nat, v = .slice (some ⟨g, 0, none⟩) 1 1 ∧ Blk X g 23 #[.int .i64 p.1, .int .i64 p.2]
theorem NewSp.stable (p : Int × Int) : Vals5.Stable (.has (NewSp p)) := by
  rintro v w w' ⟨g, h1, h2⟩ hb
  exact ⟨g, h1, h2.keep hb⟩
theorem sw_one (lo hi : Int) (p : Int × Int) : sw lo hi [p] = (wi lo hi p.1 && wi lo hi p.2) := by simp [sw]
theorem last_take {α : Type} {l : List α} {k j : Nat} (hjl : j < l.length) (hj : k = j + 1) : (l.take k).getLast? = some l[j] := by
  subst hj
  rw [List.getLast?_eq_getElem?, List.length_take, List.getElem?_take]
  have h1 : min (j + 1) l.length - 1 = j := by omega
  rw [h1, if_pos (by omega), List.getElem?_eq_getElem (by omega)]
set_option maxRecDepth 100000 in
set_option maxHeartbeats 4000000 in
theorem blow1_c (ad : Addr) (l : List (Int × Int)) (k c : Nat) (w : World) (hk : k < l.length) (hl : l.length ≤ 1000) (hc : l.length ≤ c) (hp : SpAt w (some ad) l) :
    Calls Try.prog 69 #[.agg #[.int .i64 l[k].1, .int .i64 l[k].2], .slice (some ad) k c] w fun e w' => e = .returned (.int .i64 (blowE l[k] (l.take k))) ∧ Below w.heap.size w w' := by
  obtain ⟨E, hE⟩ : ∃ E, blowE l[k] (l.take k) = E := ⟨_, rfl⟩
  rw [hE]
  unfold blowE at hE
  have hsn0 := ((Since.refl w).alloc (.cells #[.int .i64 l[k].1, .int .i64 l[k].2] 23)).alloc (.cells #[.int .i64 l[k].1, .int .i64 l[k].2] 23)
  have HB0 := Lib.hid ((Blk.new w 23 #[.int .i64 l[k].1, .int .i64 l[k].2]).alloc (.cells #[.int .i64 l[k].1, .int .i64 l[k].2] 23))
  go_enter Try.func69, Try.ntmps69
  go_wp2_with fail
  refine (spansWithin_c _ [l[k]] _ 0 60 _ (by simp) (SpAt.one (p := l[k]) (Blk.new1 _ _ _ _))).mono ?_
  rintro e w1 ⟨rfl, hb1⟩
  have hsn1 := hsn0.keep hb1
  have HB1 := Lib.hid (HB0.out.keep hb1)
  rcases Bool.eq_false_or_eq_true (sw 0 60 [l[k]]) with h1 | h1
  · rw [if_pos h1] at hE
    rw [h1]
    clear h1
    go_wp2_with fail
    rcases Bool.eq_false_or_eq_true (tn [l[k]]) with h2 | h2
    · have HT := Lib.hid h2
      rw [if_pos h2] at hE
      clear h2
      have HE := Lib.hid hE
      clear hE
      refine Vals6.regionAll (fun X => Blk X w.heap.size 23 #[.int .i64 l[k].1, .int .i64 l[k].2] ∧ Since w X) [some 9, some 10, some 11, some 12, some 13, some 14, some 15, some 16, some 17, some 18, some 19, some 20, some 21, some 22, some 23, some 24, some 25, some 26, some 27] [.is (.agg #[.int .i64 l[k].1, .int .i64 l[k].2]), .has (NewSp l[k]), .is (.bool true), .is (.bool true), .is (undef), .is (undef), .is (undef), .is (undef), .is (undef), .is (undef), .is (undef), .is (undef), .is (undef), .is (undef), .is (undef), .is (undef), .is (undef), .is (undef), .is (undef)] (by kernel_rfl) rfl rfl (by kernel_rfl) (by kernel_rfl) (by kernel_rfl) (by kernel_rfl) (by kernel_rfl) (by kernel_rfl) (by kernel_rfl) (⟨HB1.out.drew, hsn1.drew⟩) ?_ ?_
      · refine Vals5.Steps.run (by kernel_rfl) (Vals5.Stable.is _) ?_ ?_
        · intro a W hS pre old K hK
          have e2 : a.tmps.getD 2 undef = .pointer (some ⟨w.heap.size, 0, none⟩) := old 2 _ (by kernel_rfl) rfl
          clear pre old
          simp only [Array.getD_eq_getD_getElem?] at e2
          have hS9 := hS
          obtain ⟨l1, l2⟩ := hS9
          have c0 := l1.cell 0
          have c1 := l1.cell 1
          simp only [List.getElem?_toArray, List.getElem?_cons_zero, List.getElem?_cons_succ] at c0 c1
          go_simp
          exact hK _ _ hS (Below.refl _ _) rfl
        refine Vals5.Steps.run (by kernel_rfl) (NewSp.stable _) ?_ ?_
        · intro a W hS pre old K hK
          have e9 : a.tmps.getD 9 undef = .agg #[.int .i64 l[k].1, .int .i64 l[k].2] := pre 0 9 _ (by kernel_rfl) rfl rfl
          clear pre old
          simp only [Array.getD_eq_getD_getElem?] at e9
          obtain ⟨h1, h2⟩ := hS
          go_simp
          have hb' : Below W.heap.size W (W.alloc (.cells #[.int .i64 l[k].1, .int .i64 l[k].2] 23)) := (Below.refl _ _).alloc (Nat.le_refl _) _
          exact hK _ _ ⟨h1.keep hb', h2.keep hb'⟩ hb' ⟨_, rfl, Blk.new _ _ _⟩
        refine Vals5.Steps.run (by kernel_rfl) (Vals5.Stable.is _) ?_ ?_
        · intro a W hS pre old K hK
          have f10 := pre 1 10 _ (by kernel_rfl) rfl rfl
          clear pre old
          obtain ⟨h1, h2⟩ := hS
          obtain ⟨gq, hq1, hq2⟩ := f10
          simp only [Array.getD_eq_getD_getElem?] at hq1
          go_simp
          refine (turned_c _ [l[k]] _ _ (by simp) (SpAt.one (p := l[k]) hq2)).mono ?_
          rintro e w' ⟨rfl, hb'⟩
          rw [HT.out]
          exact hK _ _ ⟨h1.keep hb', h2.keep hb'⟩ hb' rfl
        refine Vals5.Steps.run (by kernel_rfl) (Vals5.Stable.is _) ?_ ?_
        · intro a W hS pre old K hK
          have e11 : a.tmps.getD 11 undef = .bool true := pre 2 11 _ (by kernel_rfl) rfl rfl
          clear pre old
          simp only [Array.getD_eq_getD_getElem?] at e11
          go_simp
          exact hK _ _ hS (Below.refl _ _) rfl
        refine Vals5.Steps.skip (by kernel_rfl) (by kernel_rfl) ?_
        refine Vals5.Steps.skip (by kernel_rfl) (by kernel_rfl) ?_
        refine Vals5.Steps.skip (by kernel_rfl) (by kernel_rfl) ?_
        refine Vals5.Steps.skip (by kernel_rfl) (by kernel_rfl) ?_
        refine Vals5.Steps.skip (by kernel_rfl) (by kernel_rfl) ?_
        refine Vals5.Steps.skip (by kernel_rfl) (by kernel_rfl) ?_
        refine Vals5.Steps.skip (by kernel_rfl) (by kernel_rfl) ?_
        refine Vals5.Steps.skip (by kernel_rfl) (by kernel_rfl) ?_
        refine Vals5.Steps.skip (by kernel_rfl) (by kernel_rfl) ?_
        refine Vals5.Steps.skip (by kernel_rfl) (by kernel_rfl) ?_
        refine Vals5.Steps.skip (by kernel_rfl) (by kernel_rfl) ?_
        refine Vals5.Steps.skip (by kernel_rfl) (by kernel_rfl) ?_
        refine Vals5.Steps.skip (by kernel_rfl) (by kernel_rfl) ?_
        refine Vals5.Steps.skip (by kernel_rfl) (by kernel_rfl) ?_
        refine Vals5.Steps.skip (by kernel_rfl) (by kernel_rfl) ?_
        exact Vals5.Steps.nil
      rintro X ⟨h1, hs3⟩
      simp only [Vals5.All, List.getLast_cons_cons, List.getLast_singleton]
      rintro v10 -
      simp only [Vals.putAll, List.setIfInBounds_toArray, List.set_cons_zero, List.set_cons_succ]
      intro K hK
      go_simp
      refine hK _ _ ?_
      clear hK K
      go_wp2_with fail
      go_ret
      exact ⟨ret_int HE.out, hs3.1⟩
    · have HT := Lib.hid h2
      rw [if_neg (by rw [h2]; decide)] at hE
      clear h2
      by_cases hk0 : k = 0
      · have hE' : (0 : Int) = E := by
          have ht : l.take k = [] := by rw [hk0]; rfl
          rw [ht] at hE; exact hE
        have HE := Lib.hid hE'
        have HK0 := Lib.hid hk0
        clear hE hE' hk0
        refine Vals6.regionAll (fun X => Blk X w.heap.size 23 #[.int .i64 l[k].1, .int .i64 l[k].2] ∧ Since w X) [some 9, some 10, some 11, some 12, some 13, some 14, some 15, some 16, some 17, some 18, some 19, some 20, some 21, some 22, some 23, some 24, some 25, some 26, some 27] [.is (.agg #[.int .i64 l[k].1, .int .i64 l[k].2]), .has (NewSp l[k]), .is (.bool false), .is (.bool false), .is (.slice (some ad) k c), .is (.int .i64 (k : Int)), .is (.bool false), .is (.bool false), .is (undef), .is (undef), .is (undef), .is (undef), .is (undef), .is (undef), .is (undef), .is (undef), .is (undef), .is (undef), .is (.bool false)] (by kernel_rfl) rfl rfl (by kernel_rfl) (by kernel_rfl) (by kernel_rfl) (by kernel_rfl) (by kernel_rfl) (by kernel_rfl) (by kernel_rfl) (⟨HB1.out.drew, hsn1.drew⟩) ?_ ?_
        · refine Vals5.Steps.run (by kernel_rfl) (Vals5.Stable.is _) ?_ ?_
          · intro a W hS pre old K hK
            have e2 : a.tmps.getD 2 undef = .pointer (some ⟨w.heap.size, 0, none⟩) := old 2 _ (by kernel_rfl) rfl
            clear pre old
            simp only [Array.getD_eq_getD_getElem?] at e2
            have hS9 := hS
            obtain ⟨l1, l2⟩ := hS9
            have c0 := l1.cell 0
            have c1 := l1.cell 1
            simp only [List.getElem?_toArray, List.getElem?_cons_zero, List.getElem?_cons_succ] at c0 c1
            go_simp
            exact hK _ _ hS (Below.refl _ _) rfl
          refine Vals5.Steps.run (by kernel_rfl) (NewSp.stable _) ?_ ?_
          · intro a W hS pre old K hK
            have e9 : a.tmps.getD 9 undef = .agg #[.int .i64 l[k].1, .int .i64 l[k].2] := pre 0 9 _ (by kernel_rfl) rfl rfl
            clear pre old
            simp only [Array.getD_eq_getD_getElem?] at e9
            obtain ⟨h1, h2⟩ := hS
            go_simp
            have hb' : Below W.heap.size W (W.alloc (.cells #[.int .i64 l[k].1, .int .i64 l[k].2] 23)) := (Below.refl _ _).alloc (Nat.le_refl _) _
            exact hK _ _ ⟨h1.keep hb', h2.keep hb'⟩ hb' ⟨_, rfl, Blk.new _ _ _⟩
          refine Vals5.Steps.run (by kernel_rfl) (Vals5.Stable.is _) ?_ ?_
          · intro a W hS pre old K hK
            have f10 := pre 1 10 _ (by kernel_rfl) rfl rfl
            clear pre old
            obtain ⟨h1, h2⟩ := hS
            obtain ⟨gq, hq1, hq2⟩ := f10
            simp only [Array.getD_eq_getD_getElem?] at hq1
            go_simp
            refine (turned_c _ [l[k]] _ _ (by simp) (SpAt.one (p := l[k]) hq2)).mono ?_
            rintro e w' ⟨rfl, hb'⟩
            rw [HT.out]
            exact hK _ _ ⟨h1.keep hb', h2.keep hb'⟩ hb' rfl
          refine Vals5.Steps.run (by kernel_rfl) (Vals5.Stable.is _) ?_ ?_
          · intro a W hS pre old K hK
            have e11 : a.tmps.getD 11 undef = .bool false := pre 2 11 _ (by kernel_rfl) rfl rfl
            clear pre old
            simp only [Array.getD_eq_getD_getElem?] at e11
            go_simp
            exact hK _ _ hS (Below.refl _ _) rfl
          refine Vals5.Steps.run (by kernel_rfl) (Vals5.Stable.is _) ?_ ?_
          · intro a W hS pre old K hK
            have e1 : a.tmps.getD 1 undef = .slice (some ad) k c := old 1 _ (by kernel_rfl) rfl
            clear pre old
            simp only [Array.getD_eq_getD_getElem?] at e1
            go_simp
            exact hK _ _ hS (Below.refl _ _) rfl
          refine Vals5.Steps.run (by kernel_rfl) (Vals5.Stable.is _) ?_ ?_
          · intro a W hS pre old K hK
            have e13 : a.tmps.getD 13 undef = .slice (some ad) k c := pre 4 13 _ (by kernel_rfl) rfl rfl
            clear pre old
            simp only [Array.getD_eq_getD_getElem?] at e13
            go_simp
            exact hK _ _ hS (Below.refl _ _) rfl
          refine Vals5.Steps.run (by kernel_rfl) (Vals5.Stable.is _) ?_ ?_
          · intro a W hS pre old K hK
            have e14 : a.tmps.getD 14 undef = .int .i64 (k : Int) := pre 5 14 _ (by kernel_rfl) rfl rfl
            clear pre old
            simp only [Array.getD_eq_getD_getElem?] at e14
            go_simp
            exact hK _ _ hS (Below.refl _ _) (by show Value.bool _ = Value.bool _; rw [decide_eq_false (by have := HK0.out; omega)])
          refine Vals5.Steps.run (by kernel_rfl) (Vals5.Stable.is _) ?_ ?_
          · intro a W hS pre old K hK
            have e15 : a.tmps.getD 15 undef = .bool false := pre 6 15 _ (by kernel_rfl) rfl rfl
            clear pre old
            simp only [Array.getD_eq_getD_getElem?] at e15
            go_simp
            exact hK _ _ hS (Below.refl _ _) rfl
          refine Vals5.Steps.skip (by kernel_rfl) (by kernel_rfl) ?_
          refine Vals5.Steps.skip (by kernel_rfl) (by kernel_rfl) ?_
          refine Vals5.Steps.skip (by kernel_rfl) (by kernel_rfl) ?_
          refine Vals5.Steps.skip (by kernel_rfl) (by kernel_rfl) ?_
          refine Vals5.Steps.skip (by kernel_rfl) (by kernel_rfl) ?_
          refine Vals5.Steps.skip (by kernel_rfl) (by kernel_rfl) ?_
          refine Vals5.Steps.skip (by kernel_rfl) (by kernel_rfl) ?_
          refine Vals5.Steps.skip (by kernel_rfl) (by kernel_rfl) ?_
          refine Vals5.Steps.skip (by kernel_rfl) (by kernel_rfl) ?_
          refine Vals5.Steps.skip (by kernel_rfl) (by kernel_rfl) ?_
          refine Vals5.Steps.run (by kernel_rfl) (Vals5.Stable.is _) ?_ ?_
          · intro a W hS pre old K hK
            have e16 : a.tmps.getD 16 undef = .bool false := pre 7 16 _ (by kernel_rfl) rfl rfl
            have e26 : a.tmps.getD 26 undef = undef := pre 17 26 _ (by kernel_rfl) rfl rfl
            clear pre old
            simp only [Array.getD_eq_getD_getElem?] at e16 e26
            go_simp
            exact hK _ _ hS (Below.refl _ _) rfl
          exact Vals5.Steps.nil
        rintro X ⟨h1, hs3⟩
        simp only [Vals5.All, List.getLast_cons_cons, List.getLast_singleton]
        rintro v10 -
        simp only [Vals.putAll, List.setIfInBounds_toArray, List.set_cons_zero, List.set_cons_succ]
        intro K hK
        go_simp
        refine hK _ _ ?_
        clear hK K
        go_wp2_with fail
        go_ret
        exact ⟨ret_int HE.out, hs3.1⟩
      · obtain ⟨j, hj⟩ : ∃ j, k = j + 1 := ⟨k - 1, by omega⟩
        have hjl : j < l.length := by omega
        rw [last_take hjl hj] at hE
        dsimp only at hE
        obtain ⟨a0, hA0, _, hc1⟩ := hp.get (k := j) (by omega)
        obtain rfl : ad = a0 := by simpa using hA0
        have HJ := Lib.hid hc1
        have HJK := Lib.hid hj
        clear hc1 hA0 hj
        refine Vals6.regionAll (fun X => Blk X w.heap.size 23 #[.int .i64 l[k].1, .int .i64 l[k].2] ∧ Since w X) [some 9, some 10, some 11, some 12, some 13, some 14, some 15, some 16, some 17, some 18, some 19, some 20, some 21, some 22, some 23, some 24, some 25, some 26, some 27] [.is (.agg #[.int .i64 l[k].1, .int .i64 l[k].2]), .has (NewSp l[k]), .is (.bool false), .is (.bool false), .is (.slice (some ad) k c), .is (.int .i64 (k : Int)), .is (.bool true), .is (.bool true), .is (.pointer (some ⟨w.heap.size, 0, none⟩)), .is (.int .i64 l[k].1), .is (.slice (some ad) k c), .is (.slice (some ad) k c), .is (.int .i64 (k : Int)), .is (.int .i64 (j : Int)), .is (.pointer (some (ad.add (j * 2)))), .is (.pointer (some (at_ (ad.add (j * 2)) 1))), .is (.int .i64 l[j].2), .is (.bool (decide (l[k].1 ≤ l[j].2))), .is (.bool (decide (l[k].1 ≤ l[j].2)))] (by kernel_rfl) rfl rfl (by kernel_rfl) (by kernel_rfl) (by kernel_rfl) (by kernel_rfl) (by kernel_rfl) (by kernel_rfl) (by kernel_rfl) (⟨HB1.out.drew, hsn1.drew⟩) ?_ ?_
        · refine Vals5.Steps.run (by kernel_rfl) (Vals5.Stable.is _) ?_ ?_
          · intro a W hS pre old K hK
            have e2 : a.tmps.getD 2 undef = .pointer (some ⟨w.heap.size, 0, none⟩) := old 2 _ (by kernel_rfl) rfl
            clear pre old
            simp only [Array.getD_eq_getD_getElem?] at e2
            have hS9 := hS
            obtain ⟨l1, l2⟩ := hS9
            have c0 := l1.cell 0
            have c1 := l1.cell 1
            simp only [List.getElem?_toArray, List.getElem?_cons_zero, List.getElem?_cons_succ] at c0 c1
            go_simp
            exact hK _ _ hS (Below.refl _ _) rfl
          refine Vals5.Steps.run (by kernel_rfl) (NewSp.stable _) ?_ ?_
          · intro a W hS pre old K hK
            have e9 : a.tmps.getD 9 undef = .agg #[.int .i64 l[k].1, .int .i64 l[k].2] := pre 0 9 _ (by kernel_rfl) rfl rfl
            clear pre old
            simp only [Array.getD_eq_getD_getElem?] at e9
            obtain ⟨h1, h2⟩ := hS
            go_simp
            have hb' : Below W.heap.size W (W.alloc (.cells #[.int .i64 l[k].1, .int .i64 l[k].2] 23)) := (Below.refl _ _).alloc (Nat.le_refl _) _
            exact hK _ _ ⟨h1.keep hb', h2.keep hb'⟩ hb' ⟨_, rfl, Blk.new _ _ _⟩
          refine Vals5.Steps.run (by kernel_rfl) (Vals5.Stable.is _) ?_ ?_
          · intro a W hS pre old K hK
            have f10 := pre 1 10 _ (by kernel_rfl) rfl rfl
            clear pre old
            obtain ⟨h1, h2⟩ := hS
            obtain ⟨gq, hq1, hq2⟩ := f10
            simp only [Array.getD_eq_getD_getElem?] at hq1
            go_simp
            refine (turned_c _ [l[k]] _ _ (by simp) (SpAt.one (p := l[k]) hq2)).mono ?_
            rintro e w' ⟨rfl, hb'⟩
            rw [HT.out]
            exact hK _ _ ⟨h1.keep hb', h2.keep hb'⟩ hb' rfl
          refine Vals5.Steps.run (by kernel_rfl) (Vals5.Stable.is _) ?_ ?_
          · intro a W hS pre old K hK
            have e11 : a.tmps.getD 11 undef = .bool false := pre 2 11 _ (by kernel_rfl) rfl rfl
            clear pre old
            simp only [Array.getD_eq_getD_getElem?] at e11
            go_simp
            exact hK _ _ hS (Below.refl _ _) rfl
          refine Vals5.Steps.run (by kernel_rfl) (Vals5.Stable.is _) ?_ ?_
          · intro a W hS pre old K hK
            have e1 : a.tmps.getD 1 undef = .slice (some ad) k c := old 1 _ (by kernel_rfl) rfl
            clear pre old
            simp only [Array.getD_eq_getD_getElem?] at e1
            go_simp
            exact hK _ _ hS (Below.refl _ _) rfl
          refine Vals5.Steps.run (by kernel_rfl) (Vals5.Stable.is _) ?_ ?_
          · intro a W hS pre old K hK
            have e13 : a.tmps.getD 13 undef = .slice (some ad) k c := pre 4 13 _ (by kernel_rfl) rfl rfl
            clear pre old
            simp only [Array.getD_eq_getD_getElem?] at e13
            go_simp
            exact hK _ _ hS (Below.refl _ _) rfl
          refine Vals5.Steps.run (by kernel_rfl) (Vals5.Stable.is _) ?_ ?_
          · intro a W hS pre old K hK
            have e14 : a.tmps.getD 14 undef = .int .i64 (k : Int) := pre 5 14 _ (by kernel_rfl) rfl rfl
            clear pre old
            simp only [Array.getD_eq_getD_getElem?] at e14
            go_simp
            exact hK _ _ hS (Below.refl _ _) (by show Value.bool _ = Value.bool _; rw [decide_eq_true (by have := HJK.out; omega)])
          refine Vals5.Steps.run (by kernel_rfl) (Vals5.Stable.is _) ?_ ?_
          · intro a W hS pre old K hK
            have e15 : a.tmps.getD 15 undef = .bool true := pre 6 15 _ (by kernel_rfl) rfl rfl
            clear pre old
            simp only [Array.getD_eq_getD_getElem?] at e15
            go_simp
            exact hK _ _ hS (Below.refl _ _) rfl
          refine Vals5.Steps.run (by kernel_rfl) (Vals5.Stable.is _) ?_ ?_
          · intro a W hS pre old K hK
            have e2 : a.tmps.getD 2 undef = .pointer (some ⟨w.heap.size, 0, none⟩) := old 2 _ (by kernel_rfl) rfl
            clear pre old
            simp only [Array.getD_eq_getD_getElem?] at e2
            go_simp
            exact hK _ _ hS (Below.refl _ _) rfl
          refine Vals5.Steps.run (by kernel_rfl) (Vals5.Stable.is _) ?_ ?_
          · intro a W hS pre old K hK
            have e17 : a.tmps.getD 17 undef = .pointer (some ⟨w.heap.size, 0, none⟩) := pre 8 17 _ (by kernel_rfl) rfl rfl
            clear pre old
            simp only [Array.getD_eq_getD_getElem?] at e17
            have hS9 := hS
            obtain ⟨l1, l2⟩ := hS9
            have c0 := l1.cell 0
            have c1 := l1.cell 1
            simp only [List.getElem?_toArray, List.getElem?_cons_zero, List.getElem?_cons_succ] at c0 c1
            go_simp
            exact hK _ _ hS (Below.refl _ _) rfl
          refine Vals5.Steps.run (by kernel_rfl) (Vals5.Stable.is _) ?_ ?_
          · intro a W hS pre old K hK
            have e1 : a.tmps.getD 1 undef = .slice (some ad) k c := old 1 _ (by kernel_rfl) rfl
            clear pre old
            simp only [Array.getD_eq_getD_getElem?] at e1
            go_simp
            exact hK _ _ hS (Below.refl _ _) rfl
          refine Vals5.Steps.run (by kernel_rfl) (Vals5.Stable.is _) ?_ ?_
          · intro a W hS pre old K hK
            have e1 : a.tmps.getD 1 undef = .slice (some ad) k c := old 1 _ (by kernel_rfl) rfl
            clear pre old
            simp only [Array.getD_eq_getD_getElem?] at e1
            go_simp
            exact hK _ _ hS (Below.refl _ _) rfl
          refine Vals5.Steps.run (by kernel_rfl) (Vals5.Stable.is _) ?_ ?_
          · intro a W hS pre old K hK
            have e20 : a.tmps.getD 20 undef = .slice (some ad) k c := pre 11 20 _ (by kernel_rfl) rfl rfl
            clear pre old
            simp only [Array.getD_eq_getD_getElem?] at e20
            go_simp
            exact hK _ _ hS (Below.refl _ _) rfl
          refine Vals5.Steps.run (by kernel_rfl) (Vals5.Stable.is _) ?_ ?_
          · intro a W hS pre old K hK
            have e21 : a.tmps.getD 21 undef = .int .i64 (k : Int) := pre 12 21 _ (by kernel_rfl) rfl rfl
            clear pre old
            simp only [Array.getD_eq_getD_getElem?] at e21
            have hw : IntKind.i64.wrap ((k : Int) - 1) = (j : Int) := by have := HJK.out; rw [IntWalk.i64_in _ (by omega)]; omega
            go_simp
            exact hK _ _ hS (Below.refl _ _) rfl
          refine Vals5.Steps.run (by kernel_rfl) (Vals5.Stable.is _) ?_ ?_
          · intro a W hS pre old K hK
            have e19 : a.tmps.getD 19 undef = .slice (some ad) k c := pre 10 19 _ (by kernel_rfl) rfl rfl
            have e22 : a.tmps.getD 22 undef = .int .i64 (j : Int) := pre 13 22 _ (by kernel_rfl) rfl rfl
            clear pre old
            simp only [Array.getD_eq_getD_getElem?] at e19 e22
            have hjk : j < k := by have := HJK.out; omega
            go_simp
            exact hK _ _ hS (Below.refl _ _) rfl
          refine Vals5.Steps.run (by kernel_rfl) (Vals5.Stable.is _) ?_ ?_
          · intro a W hS pre old K hK
            have e23 : a.tmps.getD 23 undef = .pointer (some (ad.add (j * 2))) := pre 14 23 _ (by kernel_rfl) rfl rfl
            clear pre old
            simp only [Array.getD_eq_getD_getElem?] at e23
            go_simp
            exact hK _ _ hS (Below.refl _ _) rfl
          refine Vals5.Steps.run (by kernel_rfl) (Vals5.Stable.is _) ?_ ?_
          · intro a W hS pre old K hK
            have e24 : a.tmps.getD 24 undef = .pointer (some (at_ (ad.add (j * 2)) 1)) := pre 15 24 _ (by kernel_rfl) rfl rfl
            clear pre old
            simp only [Array.getD_eq_getD_getElem?] at e24
            have c9 := keep_cell hS.2.1 HJ.out
            go_simp
            exact hK _ _ hS (Below.refl _ _) rfl
          refine Vals5.Steps.run (by kernel_rfl) (Vals5.Stable.is _) ?_ ?_
          · intro a W hS pre old K hK
            have e18 : a.tmps.getD 18 undef = .int .i64 l[k].1 := pre 9 18 _ (by kernel_rfl) rfl rfl
            have e25 : a.tmps.getD 25 undef = .int .i64 l[j].2 := pre 16 25 _ (by kernel_rfl) rfl rfl
            clear pre old
            simp only [Array.getD_eq_getD_getElem?] at e18 e25
            go_simp
            exact hK _ _ hS (Below.refl _ _) rfl
          refine Vals5.Steps.run (by kernel_rfl) (Vals5.Stable.is _) ?_ ?_
          · intro a W hS pre old K hK
            have e16 : a.tmps.getD 16 undef = .bool true := pre 7 16 _ (by kernel_rfl) rfl rfl
            have e26 : a.tmps.getD 26 undef = .bool (decide (l[k].1 ≤ l[j].2)) := pre 17 26 _ (by kernel_rfl) rfl rfl
            clear pre old
            simp only [Array.getD_eq_getD_getElem?] at e16 e26
            go_simp
            exact hK _ _ hS (Below.refl _ _) rfl
          exact Vals5.Steps.nil
        rintro X ⟨h1, hs3⟩
        simp only [Vals5.All, List.getLast_cons_cons, List.getLast_singleton]
        rintro v10 -
        simp only [Vals.putAll, List.setIfInBounds_toArray, List.set_cons_zero, List.set_cons_succ]
        intro K hK
        go_simp
        refine hK _ _ ?_
        clear hK K
        have HE := Lib.hid hE
        clear hE
        go_wp2_with fail
        · have h5 : l[k].1 ≤ l[j].2 := by assumption
          go_ret
          exact ⟨ret_int (by have := HE.out; rw [if_pos h5] at this; exact this), hs3.1⟩
        · have h5 : l[j].2 < l[k].1 := by assumption
          go_ret
          exact ⟨ret_int (by have := HE.out; rw [if_neg (by omega)] at this; exact this), hs3.1⟩
  · rw [if_neg (by rw [h1]; decide)] at hE
    rw [h1]
    go_wp2_with fail
    go_ret
    exact ⟨ret_int hE, hsn1.1⟩
set_option maxHeartbeats 1000000 in
theorem blowsFault_c (A : Option Addr) (l : List (Int × Int)) (c : Nat) (w : World) (hc : l.length ≤ c) (hcM : c ≤ 9223372036854775807) (hp : SpAt w A l) :
    Calls Try.prog 42 #[.slice A l.length c] w fun e w' => e = .returned (.tuple #[.int .i64 (blowsE l).1, .int .i64 (blowsE l).2]) ∧ Below w.heap.size w w' := by
  have hlM : (l.length : Int) ≤ 9223372036854775807 := by omega
  by_cases h4 : 4 < l.length
  · have HV : Hid (blowsE l = (0, 3)) := by show _ = _; unfold blowsE; rw [if_pos h4]
    have h4' : (4 : Int) < (l.length : Int) := by omega
    go_enter Try.func42, Try.ntmps42
    go_wp2_with fail
    go_ret2
    exact ⟨by rw [HV.out]; rfl, Below.refl _ _⟩
  · have HV : Hid (blowsE l = ff (blowAt l) l.length) := by show _ = _; unfold blowsE; rw [if_neg h4]
    have hl4 : l.length ≤ 4 := by omega
    go_enter Try.func42, Try.ntmps42
    go_wp2_with fail
    refine (ff_span_c A l c _ #[] (blowAt l) _ hc hcM hp (enters_of Try.func69 (by kernel_rfl) rfl) ?_).mono ?_
    · rintro k hk ad hA W hW
      rw [show blowAt l k = blowE l[k] (l.take k) from by simp [blowAt, List.getElem?_eq_getElem hk]]
      subst hA
      exact blow1_c ad l k c W hk (by omega) hc (hp.keep hW)
    rintro e w' ⟨rfl, hb⟩
    rw [← HV.out]
    go_wp2_with fail
    go_ret2
    exact ⟨rfl, hb⟩
set_option maxHeartbeats 2000000 in
theorem levelsFault_c (s : Spc) (m : Sl) (w : World) :
    Calls Try.prog 41 #[.agg (sV s m)] w fun e w' => e = .returned (.int .i64 (levE s)) ∧ Below w.heap.size w w' := by
  obtain ⟨E, hE⟩ : ∃ E, levE s = E := ⟨_, rfl⟩
  rw [hE]
  unfold levE at hE
  have hs0 := (Since.refl w).alloc (.cells (sV s m) 27)
  have HB0 := Lib.hid (Blk.new w 27 (sV s m))
  go_enter Try.func41, Try.ntmps41
  go_wp2_with fail
  refine (spansWithin_c _ [(s.s0, s.s1)] _ 0 200 _ (by simp) (SpAt.one (p := (s.s0, s.s1)) (Blk.new1 _ _ _ _))).mono ?_
  rintro e w1 ⟨rfl, hb1⟩
  have hs1 := (hs0.alloc _).keep hb1
  have HB1 := Lib.hid ((HB0.out.alloc _).keep hb1)
  rcases Bool.eq_false_or_eq_true (sw 0 200 [(s.s0, s.s1)]) with h1 | h1
  · obtain ⟨c0, c1, c2, c3, c4, c5, c6, c7, c8⟩ := HB1.out.space
    rw [h1]
    go_wp2_with fail
    refine (spansWithin_c _ [(s.r0, s.r1), (s.b0, s.b1)] _ (-20) 20 _ (by simp) (SpAt.two (p := (s.r0, s.r1)) (r := (s.b0, s.b1)) (Blk.new _ _ _))).mono ?_
    rintro e w2 ⟨rfl, hb2⟩
    have hs2 := (hs1.alloc _).keep hb2
    have HB2 := Lib.hid ((HB1.out.alloc _).keep hb2)
    clear c0 c1 c2 c3 c4 c5 c6 c7 c8
    rcases Bool.eq_false_or_eq_true (sw (-20) 20 [(s.r0, s.r1), (s.b0, s.b1)]) with h2 | h2
    · obtain ⟨c0, c1, c2, c3, c4, c5, c6, c7, c8⟩ := HB2.out.space
      rw [h2]
      go_wp2_with fail
      refine (within_c _ _ _ _ _ _ (Blk.new _ _ _)).mono ?_
      rintro e w3 ⟨rfl, hb3⟩
      have hs3 := (hs2.alloc _).keep hb3
      have HB3 := Lib.hid ((HB2.out.alloc _).keep hb3)
      clear c0 c1 c2 c3 c4 c5 c6 c7 c8
      rcases Bool.eq_false_or_eq_true (wi 0 200 s.lim) with h3 | h3
      · obtain ⟨c0, c1, c2, c3, c4, c5, c6, c7, c8⟩ := HB3.out.space
        rw [h3]
        go_wp2_with fail
        refine (turned_c _ [(s.s0, s.s1), (s.r0, s.r1), (s.b0, s.b1)] _ _ (by simp) (SpAt.three (p := (s.s0, s.s1)) (r := (s.r0, s.r1)) (q := (s.b0, s.b1)) (Blk.new _ _ _))).mono ?_
        rintro e w4 ⟨rfl, hb4⟩
        have hs4 := (hs3.alloc _).keep hb4
        clear c0 c1 c2 c3 c4 c5 c6 c7 c8
        rcases Bool.eq_false_or_eq_true (tn [(s.s0, s.s1), (s.r0, s.r1), (s.b0, s.b1)]) with h4 | h4
        all_goals
          rw [h1, h2, h3, h4] at hE
          rw [h4]
          go_wp2_with fail
          go_ret
          exact ⟨ret_int hE, hs4.1⟩
      · rw [h1, h2, h3] at hE
        rw [h3]
        go_wp2_with fail
        go_ret
        exact ⟨ret_int hE, hs3.1⟩
    · rw [h1, h2] at hE
      rw [h2]
      go_wp2_with fail
      go_ret
      exact ⟨ret_int hE, hs2.1⟩
  · rw [h1] at hE
    rw [h1]
    go_wp2_with fail
    go_ret
    exact ⟨ret_int hE, hs1.1⟩
end Td
end Go.Proofs.Ytccacinnelmnpaa
