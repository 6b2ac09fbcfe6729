import Derived.Test.YthdcklonamgpiaaBlt
/- The examples' hull, truth and forces; Awake. -/
namespace Go.Proofs.Ythdcklonamgpiaa
open Go.RowKit
namespace Td
set_option linter.unusedSimpArgs false
set_option linter.unusedVariables false
attribute [local go_sem] Oper.semAt_some
theorem take_next {l m : List Int} {k : Nat} (hl : k < l.length) (hm : k < m.length) (h : l.take k = m.take k) : (l.take (k + 1) = m.take (k + 1)) ↔ l[k] = m[k] := by
  rw [List.take_succ_eq_append_getElem hl, List.take_succ_eq_append_getElem hm, h]
  simp only [List.append_cancel_left_eq, List.cons.injEq, and_true]
set_option maxRecDepth 100000 in
set_option maxHeartbeats 4000000 in
theorem ints_c (P Q : Option Addr) (l m : List Int) (pc qc : Nat) (w : World) (hl : l.length ≤ 1000) (hm : m.length ≤ 1000) (hp : InAt w P l) (hq : InAt w Q m) :
    Calls Try.prog 89 #[.slice P l.length pc, .slice Q m.length qc] w fun e w' => e = .returned (.bool (decide (l = m))) ∧ Below w.heap.size w w' := by
  by_cases hlen : l.length = m.length
  · have HL := Lib.hid hlen
    rw [← hlen]
    clear hlen
    go_enter Try.func89, Try.ntmps89
    go_wp2_with fail
    go_loopw [5, 6] (fun b i wr => ∃ (k n : Nat) (bv : Bool), k ≤ l.length ∧ i = .int .i64 k ∧ b = .bool bv ∧ wr = w.drewN n ∧ Hid (bv = true → l.take k = m.take k) ∧ Hid (bv = false → l ≠ m)) (fun _ i _ => l.length - (intOf i).toNat)
    case atStart => exact ⟨0, 0, true, Nat.zero_le _, rfl, rfl, rfl, fun _ => rfl, fun h => by cases h⟩
    case round =>
      obtain ⟨k, nd, bv, hk, rfl, rfl, rfl, HT, HF⟩ := hrel
      by_cases hlt : k < l.length
      · cases bv
        · have HV : Hid (decide (l = m) = false) := by show _ = _; exact decide_eq_false (HF.out rfl)
          go_wp2_with fail
          go_ret
          exact ⟨ret_bool HV.out.symm, bdrew (Below.refl _ _) _⟩
        · have hltm : k < m.length := by have := HL.out; omega
          obtain ⟨pa, hP, c0⟩ := hp.get hlt
          obtain ⟨qa, hQ, d0⟩ := hq.get hltm
          subst hP
          subst hQ
          have HN := Lib.hid (take_next hlt hltm (HT.out rfl))
          by_cases he : l[k] = m[k]
          · have he' : (l[k] == m[k]) = true := by simpa using he
            have HE := Lib.hid he
            clear he
            go_wp2_with fail
            go_quiet (fail)
            go_wp2_with fail
            go_roundw
            case rel => exact ⟨k + 1, _, true, by omega, by go_num, rfl, rfl, fun _ => HN.out.2 HE.out, fun h => by cases h⟩
            case measure => simp [intOf]; omega
          · have he' : (l[k] == m[k]) = false := by simpa using he
            have HE := Lib.hid he
            clear he
            go_wp2_with fail
            go_quiet (fail)
            go_wp2_with fail
            go_roundw
            case rel => exact ⟨k + 1, _, false, by omega, by go_num, rfl, rfl, (fun h => by cases h), fun _ e => HE.out (by subst e; rfl)⟩
            case measure => simp [intOf]; omega
      · cases bv
        · have HV : Hid (decide (l = m) = false) := by show _ = _; exact decide_eq_false (HF.out rfl)
          go_wp2_with fail
          go_ret
          exact ⟨ret_bool HV.out.symm, bdrew (Below.refl _ _) _⟩
        · have HV : Hid (decide (l = m) = true) := by
            show _ = _
            have h := HT.out rfl
            have hl := HL.out
            rw [List.take_of_length_le (by omega), List.take_of_length_le (by omega)] at h
            exact decide_eq_true h
          go_wp2_with fail
          go_ret
          exact ⟨ret_bool HV.out.symm, bdrew (Below.refl _ _) _⟩
  · have HV : Hid (decide (l = m) = false) := by show _ = _; exact decide_eq_false (fun e => hlen (by rw [e]))
    have h1 : ((l.length : Int) == (m.length : Int)) = false := by simp; omega
    have h2 : (l.length == m.length) = false := by simpa using hlen
    have HH := Lib.hid hlen
    clear hlen
    go_enter Try.func89, Try.ntmps89
    go_wp2_with fail
    refine wp_loop_rounds 1 ?_
    rw [rounds_succ]
    by_cases h0 : 0 < l.length
    · go_wp2_with fail
      go_ret
      exact ⟨ret_bool HV.out.symm, Below.refl _ _⟩
    · have h00 : l.length = 0 := by omega
      go_wp2_with fail
      go_ret
      exact ⟨ret_bool HV.out.symm, Below.refl _ _⟩
theorem eqForce (a b : Int) (w : World) : (Op.equalIn 10000 57 (.agg #[.int .i64 a, .int .i64 b]) (.agg #[.int .i64 a, .int .i64 b])).run Try.prog w = .ok true w := by go_simp
set_option maxRecDepth 100000 in
set_option maxHeartbeats 4000000 in
theorem alike_c (P Q : Option Addr) (l : List (Int × Int)) (pc qc : Nat) (w : World) (hl : l.length ≤ 1000) (hp : FoAt w P l) (hq : FoAt w Q l) :
    Calls Try.prog 24 #[.slice P l.length pc, .slice Q l.length qc] w fun e w' => e = .returned (.bool true) ∧ Below w.heap.size w w' := by
  go_enter Try.func24, Try.ntmps24
  go_wp2_with fail
  go_loopw [5, 6] (fun b i wr => ∃ (k n : Nat), k ≤ l.length ∧ i = .int .i64 k ∧ b = .bool true ∧ wr = w.drewN n) (fun _ i _ => l.length - (intOf i).toNat)
  case atStart => exact ⟨0, 0, Nat.zero_le _, rfl, rfl, rfl⟩
  case round =>
    obtain ⟨k, nd, hk, rfl, rfl, rfl⟩ := hrel
    by_cases hlt : k < l.length
    · obtain ⟨pa, hP, c0, c1⟩ := hp.get hlt
      obtain ⟨qa, hQ, d0, d1⟩ := hq.get hlt
      subst hP
      subst hQ
      have hE := fun w => eqForce l[k].1 l[k].2 w
      go_wp2_with fail
      go_quiet (fail)
      go_wp2_with fail
      go_roundw
      case rel => exact ⟨k + 1, _, by omega, by go_num, rfl, rfl⟩
      case measure => simp [intOf]; omega
    · go_wp2_with fail
      go_ret
      exact ⟨rfl, bdrew (Below.refl _ _) _⟩
set_option maxHeartbeats 2000000 in
theorem same_c (GA GB LA LB : Option Addr) (gs ls : List Int) (gc gd lc ld : Nat) (w : World) (hg : gs.length ≤ 1000) (hl : ls.length ≤ 1000) (h1 : InAt w GA gs) (h2 : InAt w GB gs) (h3 : InAt w LA ls) (h4 : InAt w LB ls) :
    Calls Try.prog 59 #[.agg (tV GA gs.length gc LA ls.length lc), .agg (tV GB gs.length gd LB ls.length ld)] w fun e w' => e = .returned (.bool true) ∧ Below w.heap.size w w' := by
  have hs0 := ((Since.refl w).alloc (.cells (tV GA gs.length gc LA ls.length lc) 27)).alloc (.cells (tV GB gs.length gd LB ls.length ld) 27)
  have HA := Lib.hid ((Blk.new w 27 (tV GA gs.length gc LA ls.length lc)).alloc (.cells (tV GB gs.length gd LB ls.length ld) 27))
  have HB := Lib.hid (Blk.new1 w (.cells (tV GA gs.length gc LA ls.length lc) 27) 27 (tV GB gs.length gd LB ls.length ld))
  have a0 := HA.out.cell 0
  have b0 := HB.out.cell 0
  simp only [List.getElem?_toArray, List.getElem?_cons_zero] at a0 b0
  go_enter Try.func59, Try.ntmps59
  go_wp2_with fail
  refine (ints_c GA GB gs gs gc gd _ hg hg (h1.keep hs0.1) (h2.keep hs0.1)).mono ?_
  rintro e w1 ⟨rfl, hb1⟩
  have hs1 := hs0.keep hb1
  have a1 := (HA.out.keep hb1).cell 1
  have b1 := (HB.out.keep hb1).cell 1
  simp only [List.getElem?_toArray, List.getElem?_cons_zero, List.getElem?_cons_succ] at a1 b1
  rw [show decide (gs = gs) = true from decide_eq_true rfl]
  clear a0 b0
  go_wp2_with fail
  refine (ints_c LA LB ls ls lc ld _ hl hl (h3.keep hs1.1) (h4.keep hs1.1)).mono ?_
  rintro e w2 ⟨rfl, hb2⟩
  rw [show decide (ls = ls) = true from decide_eq_true rfl]
  clear a1 b1
  go_wp2_with fail
  go_ret
  exact ⟨rfl, (hs1.keep hb2).1⟩
def exH : Hul := ⟨[⟨⟨#[98, 111, 119]⟩, 100, 1000, 1200, 50, 10, 12⟩, ⟨⟨#[109, 105, 100]⟩, 400, 500, 600, 100, 4, 5⟩, ⟨⟨#[115, 116, 101, 114, 110]⟩, 900, 2000, 2000, 100, 20, 20⟩], 200, 800⟩
def exG : List Int := [1000, 500, 2000]
def exL : List Int := [12, 5, 20]
theorem ev_chk : (chk exH).2.2 = 0 := by decide +kernel
theorem ev_bal : balanceA exH exG exL 134 = ((1642, 990800, -5600), 0) := by decide +kernel
theorem ev_bal0 : balanceA exH exG exL 0 = ((3500, 1400000, 700000), 0) := by decide +kernel
theorem ev_least : leastA exH 150 = ((1050, 730000, -140000), 0) := by decide +kernel
theorem ev_why : whyA exH 0 150 = (3, 134, 0) := by decide +kernel
theorem ev_why2 : whyA exH 0 133 = (0, 0, 0) := by decide +kernel
theorem ev_show : showA exH 134 = ((exG, exL), 3, 0) := by decide +kernel
theorem ev_forces : forcesA exH exG exL 0 = ([(200, 700000), (800, 1400000)], 0) := by decide +kernel
theorem ev_bears : bearsA exH exG exL 0 [(300, 525000), (700, 1575000)] = (true, 0) := by decide +kernel
theorem ev_bears1 : bearsA exH exG exL 0 [(300, 525000)] = (false, 0) := by decide +kernel
theorem ev_bears2 : bearsA exH exG exL 0 [(600, 2100000)] = (true, 0) := by decide +kernel
theorem ev_tide : tideA exH = (133, 0) := by decide +kernel
theorem ev_b349 : does exH 1 0 150 349 = false := by decide +kernel
theorem ev_b350 : does exH 1 0 150 350 = true := by decide +kernel
theorem ev_ballast0 : ballastA exH 0 0 150 = (0, 2) := by
  have : ballE exH 0 0 150 = 2 := by decide +kernel
  unfold ballastA; rw [this]; rfl
theorem ev_ballast : ballastA exH 1 0 150 = (350, 0) := by
  have h0 : ballE exH 1 0 150 = 0 := by decide +kernel
  have h1 : blst exH 1 0 150 = 350 := frst_at (by omega) (fun j hj => by
    cases e : does exH 1 0 150 j with
    | false => rfl
    | true =>
      have := does_mono (h := exH) (p := 1) (by decide) (by decide) (by decide) (show j ≤ 349 by omega) e
      rw [ev_b349] at this; cases this) ev_b350
  unfold ballastA
  rw [h0, show (1 : Int).toNat = 1 from rfl, h1]; rfl
theorem span_c (a b : Int) (w : World) : Calls Try.prog 32 #[.int .i64 a, .int .i64 b] w fun e w' => e = .returned (.agg #[.int .i64 a, .int .i64 b]) ∧ Below w.heap.size w w' := by
  have HB := Lib.hid (Blk.new w 48 #[.int .i64 0, .int .i64 0])
  have hsn := (Since.refl w).alloc (.cells #[.int .i64 0, .int .i64 0] 48)
  go_enter Try.func32, Try.ntmps32
  go_wp2_with (refine wpList_store_row rfl 48 _ _ rfl (w.heap.size) _ rfl rfl 48 _ HB.out (by kernel_rfl) rfl (by simp [Value.oneCell']) ?_)
  (refine bodyPost_ret (v := .agg _) ?_ rfl ⟨rfl, ?_⟩; exact (results_cell_row Try.results32 _ _ (w.heap.size) 48 _ (0, 0) _ rfl (HB.out.row _) Try.underlying48 rfl (by kernel_rfl)))
  exact (hsn.row (Nat.le_refl _) _).1
set_option maxRecDepth 100000 in
set_option maxHeartbeats 4000000 in
theorem hull_c (w : World) : Calls Try.prog 29 #[] w fun e w' => (∃ m, e = .returned (.agg (hV exH m)) ∧ HAt w' m exH) ∧ Below w.heap.size w w' := by
  have HB := Lib.hid (Blk.new w 24 #[.slice none 0 0, .int .i64 0, .int .i64 0])
  have hsn := (Since.refl w).alloc (.cells #[.slice none 0 0, .int .i64 0, .int .i64 0] 24)
  go_enter Try.func29, Try.ntmps29
  go_wp2_with fail
  refine (span_c _ _ _).mono ?_
  rintro e w0 ⟨rfl, hb0⟩
  replace HB := Lib.hid (HB.out.keep hb0)
  replace hsn := hsn.keep hb0
  clear hb0
  go_wp2_with fail
  refine (span_c _ _ _).mono ?_
  rintro e w1 ⟨rfl, hb1⟩
  replace HB := Lib.hid (HB.out.keep hb1)
  replace hsn := hsn.keep hb1
  clear hb1
  go_wp2_with fail
  refine (span_c _ _ _).mono ?_
  rintro e w2 ⟨rfl, hb2⟩
  replace HB := Lib.hid (HB.out.keep hb2)
  replace hsn := hsn.keep hb2
  clear hb2
  go_wp2_with fail
  refine (span_c _ _ _).mono ?_
  rintro e w3 ⟨rfl, hb3⟩
  replace HB := Lib.hid (HB.out.keep hb3)
  replace hsn := hsn.keep hb3
  clear hb3
  go_wp2_with fail
  refine (span_c _ _ _).mono ?_
  rintro e w4 ⟨rfl, hb4⟩
  replace HB := Lib.hid (HB.out.keep hb4)
  replace hsn := hsn.keep hb4
  clear hb4
  go_wp2_with fail
  refine (span_c _ _ _).mono ?_
  rintro e w5 ⟨rfl, hb5⟩
  replace HB := Lib.hid (HB.out.keep hb5)
  replace hsn := hsn.keep hb5
  clear hb5
  have HP := Lib.hid (Blk.new w5 74 #[.string ⟨#[98, 111, 119]⟩, .int .i64 100, .int .i64 1000, .int .i64 1200, .int .i64 50, .int .i64 10, .int .i64 12, .string ⟨#[109, 105, 100]⟩, .int .i64 400, .int .i64 500, .int .i64 600, .int .i64 100, .int .i64 4, .int .i64 5, .string ⟨#[115, 116, 101, 114, 110]⟩, .int .i64 900, .int .i64 2000, .int .i64 2000, .int .i64 100, .int .i64 20, .int .i64 20])
  have HB5 := Lib.hid (HB.out.alloc (.cells #[.string ⟨#[98, 111, 119]⟩, .int .i64 100, .int .i64 1000, .int .i64 1200, .int .i64 50, .int .i64 10, .int .i64 12, .string ⟨#[109, 105, 100]⟩, .int .i64 400, .int .i64 500, .int .i64 600, .int .i64 100, .int .i64 4, .int .i64 5, .string ⟨#[115, 116, 101, 114, 110]⟩, .int .i64 900, .int .i64 2000, .int .i64 2000, .int .i64 100, .int .i64 20, .int .i64 20] 74))
  have hs5 := hsn.alloc (.cells #[.string ⟨#[98, 111, 119]⟩, .int .i64 100, .int .i64 1000, .int .i64 1200, .int .i64 50, .int .i64 10, .int .i64 12, .string ⟨#[109, 105, 100]⟩, .int .i64 400, .int .i64 500, .int .i64 600, .int .i64 100, .int .i64 4, .int .i64 5, .string ⟨#[115, 116, 101, 114, 110]⟩, .int .i64 900, .int .i64 2000, .int .i64 2000, .int .i64 100, .int .i64 20, .int .i64 20] 74)
  have hz := HB.out.lt
  go_wp2_with (refine wpList_store_row rfl 24 _ _ rfl (w.heap.size) _ rfl rfl 24 _ HB5.out (by kernel_rfl) rfl (by simp [Value.oneCell']) ?_)
  have hpt : PtC #[.string ⟨#[98, 111, 119]⟩, .int .i64 100, .int .i64 1000, .int .i64 1200, .int .i64 50, .int .i64 10, .int .i64 12, .string ⟨#[109, 105, 100]⟩, .int .i64 400, .int .i64 500, .int .i64 600, .int .i64 100, .int .i64 4, .int .i64 5, .string ⟨#[115, 116, 101, 114, 110]⟩, .int .i64 900, .int .i64 2000, .int .i64 2000, .int .i64 100, .int .i64 20, .int .i64 20] exH.parts := by
    intro i c p hp hc
    match i, hp with
    | 0, hp =>
      obtain rfl : _ = p := by simpa [exH] using hp
      rcases (by omega : c = 0 ∨ c = 1 ∨ c = 2 ∨ c = 3 ∨ c = 4 ∨ c = 5 ∨ c = 6) with rfl | rfl | rfl | rfl | rfl | rfl | rfl <;> rfl
    | 1, hp =>
      obtain rfl : _ = p := by simpa [exH] using hp
      rcases (by omega : c = 0 ∨ c = 1 ∨ c = 2 ∨ c = 3 ∨ c = 4 ∨ c = 5 ∨ c = 6) with rfl | rfl | rfl | rfl | rfl | rfl | rfl <;> rfl
    | 2, hp =>
      obtain rfl : _ = p := by simpa [exH] using hp
      rcases (by omega : c = 0 ∨ c = 1 ∨ c = 2 ∨ c = 3 ∨ c = 4 ∨ c = 5 ∨ c = 6) with rfl | rfl | rfl | rfl | rfl | rfl | rfl <;> rfl
    | i + 3, hp => simp [exH] at hp
  (refine bodyPost_ret (v := .agg _) ?_ rfl ⟨⟨⟨some ⟨w5.heap.size, 0, none⟩, 3⟩, rfl, ?_, by show exH.parts.length ≤ 3; decide, by show (3 : Nat) ≤ _; omega, by decide +kernel⟩, ?_⟩)
  · exact (results_cell_row Try.results29 _ _ (w.heap.size) 24 _ (0, 0) _ rfl (HB5.out.row _) Try.underlying24 rfl (by kernel_rfl))
  · exact PtC.at (HP.out.rowFar (by omega) _) hpt
  · exact (hs5.row (Nat.le_refl _) _).1
theorem InAt.blk {w : World} {g : Nat} {ty : TypeId} {l : List Int} (h : Blk w g ty (l.map fun x => Value.int .i64 x).toArray) : InAt w (some ⟨g, 0, none⟩) l := fun _ => ⟨_, rfl, fun i p hp => by
  rw [add_new, h.cell i]
  simp [hp]⟩
set_option maxRecDepth 100000 in
set_option maxHeartbeats 4000000 in
theorem heavy_c (w : World) : Calls Try.prog 30 #[] w fun e w' => (∃ v, e = .returned v ∧ Tv w.heap.size w' v exG exL) ∧ Below w.heap.size w w' := by
  have HB := Lib.hid (((Blk.new w 27 #[.slice none 0 0, .slice none 0 0]).alloc (.cells #[.int .i64 1000, .int .i64 500, .int .i64 2000] 3)).alloc (.cells #[.int .i64 12, .int .i64 5, .int .i64 20] 3))
  have hsn := (((Since.refl w).alloc (.cells #[.slice none 0 0, .slice none 0 0] 27)).alloc (.cells #[.int .i64 1000, .int .i64 500, .int .i64 2000] 3)).alloc (.cells #[.int .i64 12, .int .i64 5, .int .i64 20] 3)
  have H1 := Lib.hid ((Blk.new1 w (.cells #[.slice none 0 0, .slice none 0 0] 27) 3 #[.int .i64 1000, .int .i64 500, .int .i64 2000]).alloc (.cells #[.int .i64 12, .int .i64 5, .int .i64 20] 3))
  have H2 := Lib.hid (Blk.new2 w (.cells #[.slice none 0 0, .slice none 0 0] 27) (.cells #[.int .i64 1000, .int .i64 500, .int .i64 2000] 3) 3 #[.int .i64 12, .int .i64 5, .int .i64 20])
  go_enter Try.func30, Try.ntmps30
  go_wp2_with (refine wpList_store_row rfl 27 _ _ rfl (w.heap.size) _ rfl rfl 27 _ HB.out (by kernel_rfl) rfl (by simp [Value.oneCell']) ?_)
  (refine bodyPost_ret (v := .agg _) ?_ rfl ⟨⟨_, rfl, some ⟨w.heap.size + 1, 0, none⟩, 3, some ⟨w.heap.size + 1 + 1, 0, none⟩, 3, rfl, InAt.blk (l := exG) (H1.out.rowFar (by omega) _), InAt.blk (l := exL) (H2.out.rowFar (by omega) _), by decide, fun a e => by cases e; show w.heap.size ≤ w.heap.size + 1; omega, fun a e => by cases e; show w.heap.size ≤ w.heap.size + 1 + 1; omega⟩, ?_⟩)
  · exact (results_cell_row Try.results30 _ _ (w.heap.size) 27 _ (0, 0) _ rfl (HB.out.row _) Try.underlying27 rfl (by kernel_rfl))
  · exact (hsn.row (Nat.le_refl _) _).1
theorem two_c (w : World) : Calls Try.prog 58 #[] w fun e w' => (e = .returned (.slice (some ⟨w.heap.size, 0, none⟩) 2 2) ∧ FoAt w' (some ⟨w.heap.size, 0, none⟩) [(300, 525000), (700, 1575000)]) ∧ Below w.heap.size w w' := by
  have HB := Lib.hid (Blk.new w 57 #[.int .i64 300, .int .i64 525000, .int .i64 700, .int .i64 1575000])
  have hsn := (Since.refl w).alloc (.cells #[.int .i64 300, .int .i64 525000, .int .i64 700, .int .i64 1575000] 57)
  go_enter Try.func58, Try.ntmps58
  go_wp2_with fail
  go_ret
  exact ⟨⟨rfl, SpAt.two (p := (300, 525000)) (r := (700, 1575000)) HB.out⟩, hsn.1⟩
end Td
end Go.Proofs.Ythdcklonamgpiaa
