import Derived.Test.YtgkdidnmndmlhaaExpA
import Derived.Test.YtgkdidnmndmlhaaShw
import Derived.Deep.QuietTactic
import Derived.BigQuiet
/- Equal lists of shares. -/
namespace Go.Proofs.Ytgkdidnmndmlhaa
open Go.RowKit
namespace Td
set_option linter.unusedSimpArgs false
set_option linter.unusedVariables false
attribute [local go_sem] Oper.semAt_some
/-- shares in a row, if there are any. -/
def FrO (w : World) (A : Option Addr) (l : List (Nat × Nat)) : Prop := l ≠ [] → ∃ g, A = some ⟨g, 0, none⟩ ∧ FrB w g l
theorem FrO.keep {w w' : World} {A : Option Addr} {l : List (Nat × Nat)} (h : FrO w A l) (hb : Below w.heap.size w w') : FrO w' A l := fun hl =>
  let ⟨g, e, k⟩ := h hl; ⟨g, e, k.keep hb⟩
theorem FrO.get {w : World} {A : Option Addr} {l : List (Nat × Nat)} (h : FrO w A l) {k : Nat} (hk : k < l.length) : ∃ g, A = some ⟨g, 0, none⟩ ∧ w.cell? ⟨g, k * 2, none⟩ = some (.int .i64 (l[k].1 : Int)) ∧ w.cell? ⟨g, k * 2 + 1, none⟩ = some (.int .i64 (l[k].2 : Int)) := by
  obtain ⟨g, e, hb⟩ := h (fun e => by simp [e] at hk)
  exact ⟨g, e, hb.get hk⟩
theorem FrO.drewN {w : World} {A : Option Addr} {l : List (Nat × Nat)} (h : FrO w A l) (n : Nat) : FrO (w.drewN n) A l := h
set_option maxRecDepth 100000 in
set_option maxHeartbeats 2000000 in
theorem Same_c (A B : Option Addr) (a b : List (Nat × Nat)) (c d : Nat) (w : World) (ha : FrO w A a) (hb : FrO w B b) (hl : a.length ≤ 1000) :
    Calls Try.prog 23 #[.slice A a.length c, .slice B b.length d] w fun e w' => e = .returned (.bool (decide (a = b))) ∧ Below w.heap.size w w' := by
  by_cases hlen : a.length = b.length
  · have HA := Lib.hid ha
    have HB := Lib.hid hb
    have HD : Hid (∀ k, k ≤ a.length → (∀ j (h1 : j < k) (h2 : j < a.length) (h3 : j < b.length), a[j] = b[j]) → k = a.length → decide (a = b) = true) := fun k hk hj e => by
      subst e
      exact decide_eq_true (List.ext_getElem hlen fun j h1 h2 => hj j h1 h1 h2)
    have HE : Hid (∀ k (h1 : k < a.length) (h2 : k < b.length), a[k] ≠ b[k] → decide (a = b) = false) := fun k h1 h2 hne => decide_eq_false (fun e => hne (by subst e; rfl))
    obtain ⟨n, hn⟩ : ∃ n, a.length = n := ⟨_, rfl⟩
    have HN := Lib.hid hn
    have HN2 : Hid (b.length = n) := hlen.symm.trans hn
    rw [hn] at hl ⊢
    rw [show b.length = n from HN2.out]
    obtain ⟨r, hr⟩ : ∃ r, decide (a = b) = r := ⟨_, rfl⟩
    rw [hr] at HD HE ⊢
    clear hn hr hlen ha hb
    go_enter Try.func23, Try.ntmps23
    go_wp2_with fail
    go_loopw [5] (fun i wr => ∃ k : Nat, k ≤ n ∧ i = .int .i64 k ∧ Hid (∀ j (h1 : j < k) (h2 : j < a.length) (h3 : j < b.length), a[j] = b[j]) ∧ Hid (Since w wr)) (fun i _ => n - (intOf i).toNat)
    case atStart => exact ⟨0, by omega, rfl, (fun j h1 => by omega), Lib.hid (Since.refl w)⟩
    case round =>
      obtain ⟨k, hk, rfl, HJ, HS⟩ := hrel
      by_cases hlt : k < n
      · have ka : k < a.length := by have := HN.out; omega
        have kb : k < b.length := by have := HN2.out; omega
        obtain ⟨gA, hA, a0, a1⟩ := (HA.out.keep HS.out.1).get ka
        obtain ⟨gB, hB, b0, b1⟩ := (HB.out.keep HS.out.1).get kb
        subst hA hB
        have HE2 := Lib.hid (HE.out k ka kb)
        have HJ2 : Hid (a[k] = b[k] → ∀ j (h1 : j < k + 1) (h2 : j < a.length) (h3 : j < b.length), a[j] = b[j]) := fun e j h1 h2 h3 => by
          rcases Nat.lt_or_ge j k with h | h
          · exact HJ.out j h h2 h3
          · have : j = k := by omega
            subst this
            exact e
        obtain ⟨x, hx⟩ : ∃ x, a[k] = x := ⟨_, rfl⟩
        obtain ⟨y, hy⟩ : ∃ y, b[k] = y := ⟨_, rfl⟩
        rw [hx] at a0 a1 HE2 HJ2
        rw [hy] at b0 b1 HE2 HJ2
        have q1 : (k : Int) < (n : Int) := by omega
        have q2 : (0 : Int) ≤ (k : Int) := by omega
        have w1 : IntKind.i64.wrap ((k : Int) + 1) = ((k + 1 : Nat) : Int) := by rw [wrapI (by unfold I64; omega)]; omega
        have HSd : Hid (∀ n, Since w (wr.drewN n)) := fun n => ⟨bdrew HS.out.1 n, HS.out.2⟩
        clear hx hy ka kb HS HJ
        by_cases he : x = y
        · subst he
          have HJ3 := Lib.hid (HJ2.out rfl)
          clear HJ2 HE2
          go_wp2_with fail
          go_quiet (fail)
          go_wp2_with fail
          go_roundw
          case rel => exact ⟨k + 1, by omega, by go_num, HJ3, HSd.out _⟩
          case measure => simp [intOf]; omega
        · have hf : r = false := HE2.out he
          subst hf
          clear HJ2 HE2 HD HE
          have hcase : (¬ (x.1 : Int) = (y.1 : Int)) ∨ ((x.1 : Int) = (y.1 : Int) ∧ ¬ (x.2 : Int) = (y.2 : Int)) := by
            rcases Nat.lt_trichotomy x.1 y.1 with h | h | h
            · left; omega
            · right
              refine ⟨by omega, fun h2 => he (Prod.ext h (by omega))⟩
            · left; omega
          clear he
          rcases hcase with r1 | ⟨r1, r2⟩
          · go_wp2_with fail
            go_quiet (fail)
            go_wp2_with fail
            go_ret
            exact ⟨rfl, (HSd.out _).1⟩
          · obtain ⟨x1, x2⟩ := x
            obtain ⟨y1, y2⟩ := y
            obtain rfl : x1 = y1 := by have := r1; simp only at this; omega
            clear r1
            dsimp only at r2
            go_wp2_with fail
            go_quiet (fail)
            go_wp2_with fail
            go_ret
            exact ⟨rfl, (HSd.out _).1⟩
      · have hkn : k = n := by omega
        have hf : r = true := HD.out k (by have := HN.out; omega) HJ.out (by have := HN.out; omega)
        subst hf hkn
        have q1 : ¬ (k : Int) < (k : Int) := by omega
        clear HD HE
        go_wp2_with fail
        go_ret
        exact ⟨rfl, HS.out.1⟩
  · have hr : decide (a = b) = false := decide_eq_false (fun e => hlen (by rw [e]))
    rw [hr]
    have q1 : ¬ (a.length : Int) = (b.length : Int) := by omega
    obtain ⟨n, hn⟩ : ∃ n, a.length = n := ⟨_, rfl⟩
    obtain ⟨m, hm⟩ : ∃ m, b.length = m := ⟨_, rfl⟩
    rw [hn] at q1 hlen ⊢
    rw [hm] at q1 hlen ⊢
    clear hn hm hr ha hb
    go_enter Try.func23, Try.ntmps23
    go_wp2_with fail
    go_ret
    exact ⟨rfl, Below.refl _ _⟩
end Td
end Go.Proofs.Ytgkdidnmndmlhaa
/- The examples of Awake; the heap and the plan of the chapter. -/
namespace Go.Proofs.Ytgkdidnmndmlhaa
open Go.RowKit
namespace Td
set_option linter.unusedSimpArgs false
set_option linter.unusedVariables false
attribute [local go_sem] Oper.semAt_some
theorem x_ways : wayA 10 3 = (120, 0) := by decide +kernel
theorem x_shows : shwL 10 3 3 = [(7, 24), (21, 40), (7, 40), (1, 120)] := by decide +kernel
theorem x_showsE : shwE 10 2 4 3 3 = 0 := by decide +kernel
theorem x_pass : pasA 10 2 4 3 0 2 3 1 = ((47, 210), (11, 15), 0) := by decide +kernel
theorem x_small : smaA 10 2 4 0 (1, 3) = (4, 0) := by decide +kernel
theorem x_price : priA 10 2 4 [900, 600, 300, 0] = ((540, 1), (720, 1), 0) := by decide +kernel
theorem x_left : lefA 10 2 4 3 1 = ((1, 3), 0) := by decide +kernel
theorem x_worst : worA 10 2 4 3 0 2 3 1 = (2, (6, 5), 0) := by decide +kernel
theorem x_plan : chkP 10 2 4 3 0 2 0 0 = 2 := by decide +kernel
set_option maxHeartbeats 1000000 in
theorem Heap_c (w : World) : Calls Try.prog 37 #[] w fun e w' => e = .returned (.agg (gV 10 2 4)) ∧ Below w.heap.size w w' := by
  have HR := Lib.hid (Blk.new w 25 (gV 0 0 0))
  have hs0 := (Since.refl w).alloc (.cells (gV 0 0 0) 25)
  go_enter Try.func37, Try.ntmps37
  go_wp2_with (refine wpList_store_row rfl 25 _ _ rfl (w.heap.size) (gV 10 2 4) rfl (by first | rfl | (simp; done)) 25 _ HR.out (by kernel_rfl) rfl (by simp [Value.oneCell']) ?_)
  (refine bodyPost_ret (v := .agg _) ?_ rfl ⟨rfl, ?_⟩; exact (results_cell_row Try.results37 _ _ (w.heap.size) 25 _ (0, 0) _ rfl (HR.out.row _) Try.underlying25 rfl (by kernel_rfl)))
  exact (hs0.row (by omega) _).1
set_option maxHeartbeats 1000000 in
theorem Two_c (w : World) : Calls Try.prog 59 #[] w fun e w' => e = .returned (.agg (lV 3 0 2 3 1)) ∧ Below w.heap.size w w' := by
  have HR := Lib.hid (Blk.new w 38 (lV 0 0 0 0 0))
  have hs0 := (Since.refl w).alloc (.cells (lV 0 0 0 0 0) 38)
  go_enter Try.func59, Try.ntmps59
  go_wp2_with (refine wpList_store_row rfl 38 _ _ rfl (w.heap.size) (lV 3 0 2 3 1) rfl (by first | rfl | (simp; done)) 38 _ HR.out (by kernel_rfl) rfl (by simp [Value.oneCell']) ?_)
  (refine bodyPost_ret (v := .agg _) ?_ rfl ⟨rfl, ?_⟩; exact (results_cell_row Try.results59 _ _ (w.heap.size) 38 _ (0, 0) _ rfl (HR.out.row _) Try.underlying38 rfl (by kernel_rfl)))
  exact (hs0.row (by omega) _).1
set_option maxHeartbeats 1000000 in
theorem share_c (a b : Int) (w : World) : Calls Try.prog 39 #[.int .i64 a, .int .i64 b] w fun e w' => e = .returned (.agg (fV (a, b))) ∧ Below w.heap.size w w' := by
  have HR := Lib.hid (Blk.new w 41 (fV (0, 0)))
  have hs0 := (Since.refl w).alloc (.cells (fV (0, 0)) 41)
  go_enter Try.func39, Try.ntmps39
  go_wp2_with (refine wpList_store_row rfl 41 _ _ rfl (w.heap.size) (fV (a, b)) rfl (by first | rfl | (simp; done)) 41 _ HR.out (by kernel_rfl) rfl (by simp [Value.oneCell']) ?_)
  (refine bodyPost_ret (v := .agg _) ?_ rfl ⟨rfl, ?_⟩; exact (results_cell_row Try.results39 _ _ (w.heap.size) 41 _ (0, 0) _ rfl (HR.out.row _) Try.underlying41 rfl (by kernel_rfl)))
  exact (hs0.row (by omega) _).1
end Td
end Go.Proofs.Ytgkdidnmndmlhaa
/- The calls of the examples. -/
namespace Go.Proofs.Ytgkdidnmndmlhaa
open Go.RowKit
namespace Td
set_option linter.unusedSimpArgs false
set_option linter.unusedVariables false
attribute [local go_sem] Oper.semAt_some
theorem InAt.ints {w : World} {g : Nat} {ty : TypeId} (l : List Int) (h : Blk w g ty (l.map (Value.int .i64)).toArray) : InAt w (some ⟨g, 0, none⟩) l := fun _ => ⟨_, rfl, fun i q hq => by
  rw [add_new, h.cell i, List.getElem?_toArray, List.getElem?_map, hq]
  rfl⟩
theorem FrB.of {w : World} {g : Nat} {t : TypeId} {l : List (Nat × Nat)} (h : Blk w g t (flS l).toArray) : FrB w g l := fun i s hs => by
  obtain ⟨e1, e2⟩ := flS_get l i s hs
  rw [h.cell, h.cell, List.getElem?_toArray, List.getElem?_toArray]
  exact ⟨e1, e2⟩
theorem FrO.of {w : World} {g : Nat} {t : TypeId} {l : List (Nat × Nat)} (h : Blk w g t (flS l).toArray) : FrO w (some ⟨g, 0, none⟩) l := fun _ => ⟨g, rfl, FrB.of h⟩
theorem y_way : wayA 5 6 = (0, 7) := by decide +kernel
theorem y_pass : pasA 10 2 4 3 0 1 0 0 = ((1, 6), (7, 15), 0) := by decide +kernel
theorem y_small : smaA 10 2 4 0 (33, 100) = (5, 0) := by decide +kernel
theorem y_small2 : smaA 10 2 4 0 (0, 1) = (9, 0) := by decide +kernel
theorem y_left : lefA 10 2 4 3 0 = ((2, 4), 0) := by decide +kernel
theorem y_left2 : lefA 10 2 4 8 0 = ((2, 2), 0) := by decide +kernel
theorem y_worst : worA 10 2 4 3 0 1 0 0 = (2, (14, 15), 0) := by decide +kernel
set_option maxHeartbeats 1000000 in
theorem One_c (w : World) : Calls Try.prog 38 #[] w fun e w' => e = .returned (.agg (lV 3 0 1 0 0)) ∧ Below w.heap.size w w' := by
  have HR := Lib.hid (Blk.new w 38 (lV 0 0 0 0 0))
  have hs0 := (Since.refl w).alloc (.cells (lV 0 0 0 0 0) 38)
  go_enter Try.func38, Try.ntmps38
  go_wp2_with (refine wpList_store_row rfl 38 _ _ rfl (w.heap.size) (lV 3 0 1 0 0) rfl (by first | rfl | (simp; done)) 38 _ HR.out (by kernel_rfl) rfl (by simp [Value.oneCell']) ?_)
  (refine bodyPost_ret (v := .agg _) ?_ rfl ⟨rfl, ?_⟩; exact (results_cell_row Try.results38 _ _ (w.heap.size) 38 _ (0, 0) _ rfl (HR.out.row _) Try.underlying38 rfl (by kernel_rfl)))
  exact (hs0.row (by omega) _).1
theorem c_way (w : World) : Calls Try.prog 19 #[.int .i64 10, .int .i64 3] w fun e w' => e = .returned (.tuple #[.int .i64 120, .int .i64 0]) ∧ Below w.heap.size w w' := by
  have := Ways_c 10 3 w
  rw [x_ways] at this
  exact this
theorem c_pass (w : World) : Calls Try.prog 27 #[.agg (gV 10 2 4), .agg (lV 3 0 2 3 1)] w fun e w' => e = .returned (.tuple #[.agg (fV (47, 210)), .agg (fV (11, 15)), .int .i64 0]) ∧ Below w.heap.size w w' := by
  have := Passes_c 10 2 4 3 0 2 3 1 w
  rw [x_pass] at this
  exact this
theorem c_small (w : World) : Calls Try.prog 31 #[.agg (gV 10 2 4), .int .i64 0, .agg (fV (1, 3))] w fun e w' => e = .returned (.tuple #[.int .i64 4, .int .i64 0]) ∧ Below w.heap.size w w' := by
  have := Smallest_c 10 2 4 0 (1, 3) w
  rw [x_small] at this
  exact this
theorem c_left (w : World) : Calls Try.prog 33 #[.agg (gV 10 2 4), .int .i64 3, .int .i64 1] w fun e w' => e = .returned (.tuple #[.agg (fV (1, 3)), .int .i64 0]) ∧ Below w.heap.size w w' := by
  have := Left_c 10 2 4 3 1 w
  rw [x_left] at this
  exact this
theorem c_worst (w : World) : Calls Try.prog 29 #[.agg (gV 10 2 4), .agg (lV 3 0 2 3 1)] w fun e w' => e = .returned (.tuple #[.int .i64 2, .agg (fV (6, 5)), .int .i64 0]) ∧ Below w.heap.size w w' := by
  have := Worst_c 10 2 4 3 0 2 3 1 w
  rw [x_worst] at this
  exact this
theorem c_plan (w : World) : Calls Try.prog 25 #[.agg (gV 10 2 4), .agg (lV 3 0 2 0 0)] w fun e w' => e = .returned (.int .i64 2) ∧ Below w.heap.size w w' := by
  have := CheckPlan_c 10 2 4 3 0 2 0 0 w
  rw [x_plan] at this
  exact this
theorem k_way (w : World) : Calls Try.prog 19 #[.int .i64 5, .int .i64 6] w fun e w' => e = .returned (.tuple #[.int .i64 0, .int .i64 7]) ∧ Below w.heap.size w w' := by
  have := Ways_c 5 6 w
  rw [y_way] at this
  exact this
theorem k_pass (w : World) : Calls Try.prog 27 #[.agg (gV 10 2 4), .agg (lV 3 0 1 0 0)] w fun e w' => e = .returned (.tuple #[.agg (fV (1, 6)), .agg (fV (7, 15)), .int .i64 0]) ∧ Below w.heap.size w w' := by
  have := Passes_c 10 2 4 3 0 1 0 0 w
  rw [y_pass] at this
  exact this
theorem k_small (w : World) : Calls Try.prog 31 #[.agg (gV 10 2 4), .int .i64 0, .agg (fV (33, 100))] w fun e w' => e = .returned (.tuple #[.int .i64 5, .int .i64 0]) ∧ Below w.heap.size w w' := by
  have := Smallest_c 10 2 4 0 (33, 100) w
  rw [y_small] at this
  exact this
theorem k_small2 (w : World) : Calls Try.prog 31 #[.agg (gV 10 2 4), .int .i64 0, .agg (fV (0, 1))] w fun e w' => e = .returned (.tuple #[.int .i64 9, .int .i64 0]) ∧ Below w.heap.size w w' := by
  have := Smallest_c 10 2 4 0 (0, 1) w
  rw [y_small2] at this
  exact this
theorem k_left (w : World) : Calls Try.prog 33 #[.agg (gV 10 2 4), .int .i64 3, .int .i64 0] w fun e w' => e = .returned (.tuple #[.agg (fV (2, 4)), .int .i64 0]) ∧ Below w.heap.size w w' := by
  have := Left_c 10 2 4 3 0 w
  rw [y_left] at this
  exact this
theorem k_left2 (w : World) : Calls Try.prog 33 #[.agg (gV 10 2 4), .int .i64 8, .int .i64 0] w fun e w' => e = .returned (.tuple #[.agg (fV (2, 2)), .int .i64 0]) ∧ Below w.heap.size w w' := by
  have := Left_c 10 2 4 8 0 w
  rw [y_left2] at this
  exact this
theorem k_worst (w : World) : Calls Try.prog 29 #[.agg (gV 10 2 4), .agg (lV 3 0 1 0 0)] w fun e w' => e = .returned (.tuple #[.int .i64 2, .agg (fV (14, 15)), .int .i64 0]) ∧ Below w.heap.size w w' := by
  have := Worst_c 10 2 4 3 0 1 0 0 w
  rw [y_worst] at this
  exact this
theorem c_price (g : Nat) (ty : TypeId) (w : World) (h : Blk w g ty #[.int .i64 900, .int .i64 600, .int .i64 300, .int .i64 0]) : Calls Try.prog 35 #[.agg (gV 10 2 4), .slice (some ⟨g, 0, none⟩) 4 4] w fun e w' => e = .returned (.tuple #[.agg (fV (540, 1)), .agg (fV (720, 1)), .int .i64 0]) ∧ Below w.heap.size w w' := by
  have := Price_c 10 2 4 (some ⟨g, 0, none⟩) [900, 600, 300, 0] 4 w (InAt.ints [900, 600, 300, 0] h)
  rw [x_price] at this
  exact this
def exL : List (Nat × Nat) := [(7, 24), (21, 40), (7, 40), (1, 120)]
theorem c_shows (w : World) : Calls Try.prog 21 #[.agg (gV 10 2 4), .int .i64 3, .int .i64 3] w fun e w' => (∃ g, e = .returned (.tuple #[.slice (some ⟨g, 0, none⟩) 4 4, .int .i64 0]) ∧ FrO w' (some ⟨g, 0, none⟩) exL) ∧ Below w.heap.size w w' := by
  refine (Shows_c 10 2 4 3 3 w).mono ?_
  rintro e w' ⟨hb, ⟨-, g, he, -, hB⟩ | ⟨h, -⟩⟩
  · rw [show (3 : Int).toNat = 3 from rfl] at he
    refine ⟨⟨g, he, ?_⟩, hb⟩
    rw [show (10 : Int).toNat = 10 from rfl, show (3 : Int).toNat = 3 from rfl, x_shows] at hB
    exact FrO.of hB
  · exact absurd x_showsE h
theorem c_same (A B : Option Addr) (w : World) (ha : FrO w A exL) (hb : FrO w B exL) : Calls Try.prog 23 #[.slice A 4 4, .slice B 4 4] w fun e w' => e = .returned (.bool true) ∧ Below w.heap.size w w' := by
  have := Same_c A B exL exL 4 4 w ha hb (by decide)
  rw [show decide (exL = exL) = true from decide_eq_true rfl] at this
  exact this
theorem FrO.lit {w : World} {g : Nat} {ty : TypeId} (h : Blk w g ty #[.int .i64 7, .int .i64 24, .int .i64 21, .int .i64 40, .int .i64 7, .int .i64 40, .int .i64 1, .int .i64 120]) : FrO w (some ⟨g, 0, none⟩) exL := FrO.of (l := exL) h
theorem eqSh (a b : Int) (w : World) : (Op.equalIn 10000 41 (.agg #[.int .i64 a, .int .i64 b]) (.agg #[.int .i64 a, .int .i64 b])).run Try.prog w = .ok true w := by go_simp
theorem eqSp (a b : Int) (w : World) : (Op.equalIn 10000 23 (.agg #[.int .i64 a, .int .i64 b]) (.agg #[.int .i64 a, .int .i64 b])).run Try.prog w = .ok true w := by go_simp
def ShP (v : Value) (X : World) : Prop := ∃ g, v = .slice (some ⟨g, 0, none⟩) 4 4 ∧ FrO X (some ⟨g, 0, none⟩) exL
theorem ShP.stable : Vals5.Stable (.has ShP) := fun v w w' h hb => by
  obtain ⟨g, e, k⟩ := h
  exact ⟨g, e, k.keep hb⟩
end Td
end Go.Proofs.Ytgkdidnmndmlhaa
