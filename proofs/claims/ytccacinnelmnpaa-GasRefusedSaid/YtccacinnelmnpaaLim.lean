import Derived.Test.YtccacinnelmnpaaBase
/- Package limits: numbers and spans within a span. -/
namespace Go.Proofs.Ytccacinnelmnpaa
open Go.RowKit
namespace Td
set_option linter.unusedSimpArgs false
set_option linter.unusedVariables false
def InAt (w : World) (A : Option Addr) (l : List Int) : Prop :=
  l ≠ [] → ∃ a, A = some a ∧ ∀ i p, l[i]? = some p → w.cell? (a.add i) = some (.int .i64 p)
theorem InAt.keep {w w' : World} {A : Option Addr} {l : List Int} (h : InAt w A l) (hb : Below w.heap.size w w') : InAt w' A l := fun hx =>
  let ⟨a, ha, hc⟩ := h hx; ⟨a, ha, fun i p hp => keep_cell hb (hc i p hp)⟩
theorem InAt.get {w : World} {A : Option Addr} {l : List Int} (h : InAt w A l) {k : Nat} (hk : k < l.length) : ∃ a, A = some a ∧ w.cell? (a.add k) = some (.int .i64 l[k]) := by
  obtain ⟨a, ha, hc⟩ := h (fun e => by simp [e] at hk)
  exact ⟨a, ha, hc k _ (List.getElem?_eq_getElem hk)⟩
theorem InAt.one {w : World} {g : Nat} {ty : TypeId} {a : Int} (h : Blk w g ty #[.int .i64 a]) : InAt w (some ⟨g, 0, none⟩) [a] := fun _ => ⟨_, rfl, fun i q hq => by
  rw [add_new]
  match i, hq with
  | 0, hq => obtain rfl : a = q := by simpa using hq
             exact h.cell 0
  | i + 1, hq => simp at hq⟩
theorem InAt.pair {w : World} {g : Nat} {ty : TypeId} {a b : Int} (h : Blk w g ty #[.int .i64 a, .int .i64 b]) : InAt w (some ⟨g, 0, none⟩) [a, b] := fun _ => ⟨_, rfl, fun i q hq => by
  rw [add_new]
  match i, hq with
  | 0, hq => obtain rfl : a = q := by simpa using hq
             exact h.cell 0
  | 1, hq => obtain rfl : b = q := by simpa using hq
             exact h.cell 1
  | i + 2, hq => simp at hq⟩
theorem SpAt.one {w : World} {g : Nat} {t : TypeId} {p : Int × Int} (h : Blk w g t #[.int .i64 p.1, .int .i64 p.2]) : SpAt w (some ⟨g, 0, none⟩) [p] := fun _ => ⟨_, rfl, fun i q hq => by
  rw [add_new]
  match i, hq with
  | 0, hq =>
    obtain rfl : p = q := by simpa using hq
    exact ⟨h.cell 0, h.cell 1⟩
  | i + 1, hq => simp at hq⟩
theorem SpAt.two {w : World} {g : Nat} {t : TypeId} {p r : Int × Int} (h : Blk w g t #[.int .i64 p.1, .int .i64 p.2, .int .i64 r.1, .int .i64 r.2]) : SpAt w (some ⟨g, 0, none⟩) [p, r] := fun _ => ⟨_, rfl, fun i q hq => by
  rw [add_new]
  match i, hq with
  | 0, hq =>
    obtain rfl : p = q := by simpa using hq
    exact ⟨h.cell 0, h.cell 1⟩
  | 1, hq =>
    obtain rfl : r = q := by simpa using hq
    exact ⟨h.cell 2, h.cell 3⟩
  | i + 2, hq => simp at hq⟩
theorem SpAt.three {w : World} {g : Nat} {t : TypeId} {p r q : Int × Int} (h : Blk w g t #[.int .i64 p.1, .int .i64 p.2, .int .i64 r.1, .int .i64 r.2, .int .i64 q.1, .int .i64 q.2]) : SpAt w (some ⟨g, 0, none⟩) [p, r, q] := fun _ => ⟨_, rfl, fun i z hz => by
  rw [add_new]
  match i, hz with
  | 0, hz =>
    obtain rfl : p = z := by simpa using hz
    exact ⟨h.cell 0, h.cell 1⟩
  | 1, hz =>
    obtain rfl : r = z := by simpa using hz
    exact ⟨h.cell 2, h.cell 3⟩
  | 2, hz =>
    obtain rfl : q = z := by simpa using hz
    exact ⟨h.cell 4, h.cell 5⟩
  | i + 3, hz => simp at hz⟩
/-! ### numbers in a row -/
def wl (lo hi : Int) (l : List Int) : Bool := l.all (wi lo hi)
theorem wl_one (lo hi n : Int) : wl lo hi [n] = wi lo hi n := by simp [wl]
theorem wl_two (lo hi n m : Int) : wl lo hi [n, m] = (wi lo hi n && wi lo hi m) := by simp [wl]
theorem wl_at {lo hi : Int} {l : List Int} {k : Nat} (hk : k < l.length) (h : wi lo hi l[k] = false) : wl lo hi l = false := by
  unfold wl
  rw [Bool.eq_false_iff, Ne, List.all_eq_true]
  intro ha
  have := ha _ (List.getElem_mem hk)
  rw [h] at this; cases this
theorem wl_all {lo hi : Int} {l : List Int} (h : ∀ j (h : j < l.length), wi lo hi l[j] = true) : wl lo hi l = true := by
  unfold wl
  rw [List.all_eq_true]
  intro x hx
  obtain ⟨j, hj, rfl⟩ := List.mem_iff_getElem.1 hx
  exact h j hj
set_option maxHeartbeats 1000000 in
theorem withins_c (A : Option Addr) (l : List Int) (c : Nat) (lo hi : Int) (w : World) (hl : l.length ≤ 1000) (hp : InAt w A l) :
    Calls Try.prog 63 #[.int .i64 lo, .int .i64 hi, .slice A l.length c] w fun e w' => e = .returned (.bool (wl lo hi l)) ∧ w = w' := by
  go_enter Try.func63, Try.ntmps63
  go_wp2
  go_loop [8, 11] (fun _ i => ∃ k : Nat, k ≤ l.length ∧ i = .int .i64 k ∧ Hid (∀ j (h : j < l.length), j < k → wi lo hi l[j] = true)) (fun _ i => l.length - (intOf i).toNat)
  case atStart => exact ⟨0, Nat.zero_le _, rfl, fun j _ h => absurd h (by omega)⟩
  case round =>
    obtain ⟨k, hk, rfl, H0⟩ := hrel
    by_cases hlt : k < l.length
    · obtain ⟨ad, hA, c0⟩ := hp.get hlt
      subst hA
      by_cases h1 : l[k] < lo
      · have HV := Lib.hid (wl_at (lo := lo) (hi := hi) hlt (by simp [wi]; omega))
        go_wp2_with fail
        go_ret
        exact ⟨ret_bool HV.out.symm, rfl⟩
      · by_cases h2 : hi < l[k]
        · have HV := Lib.hid (wl_at (lo := lo) (hi := hi) hlt (by simp [wi]; omega))
          go_wp2_with fail
          go_ret
          exact ⟨ret_bool HV.out.symm, rfl⟩
        · have HV : Hid (wi lo hi l[k] = true) := by show _ = _; simp [wi]; omega
          go_wp2_with fail
          go_round
          case rel =>
            refine ⟨k + 1, by omega, by go_num, fun j h hj => ?_⟩
            rcases Nat.lt_or_ge j k with h1 | h1
            · exact H0.out j h h1
            · obtain rfl : j = k := by omega
              exact HV.out
          case measure => simp [intOf]; omega
    · have HV := Lib.hid (wl_all (lo := lo) (hi := hi) (l := l) fun j hj => H0.out j hj (by omega))
      go_wp2_with fail
      go_ret
      exact ⟨ret_bool HV.out.symm, rfl⟩
/-- of one number, two numbers, that lie in a block of their own. -/
theorem within_c (lo hi n : Int) (g : Nat) (ty : TypeId) (w : World) (h : Blk w g ty #[.int .i64 n]) :
    Calls Try.prog 63 #[.int .i64 lo, .int .i64 hi, .slice (some ⟨g, 0, none⟩) 1 1] w fun e w' => e = .returned (.bool (wi lo hi n)) ∧ Below w.heap.size w w' := by
  have := withins_c (some ⟨g, 0, none⟩) [n] 1 lo hi w (by simp) (InAt.one h)
  rw [wl_one] at this
  exact this.mono fun e w' h => ⟨h.1, h.2 ▸ Below.refl _ _⟩
theorem within2_c (lo hi n m : Int) (g : Nat) (ty : TypeId) (w : World) (h : Blk w g ty #[.int .i64 n, .int .i64 m]) :
    Calls Try.prog 63 #[.int .i64 lo, .int .i64 hi, .slice (some ⟨g, 0, none⟩) 2 2] w fun e w' => e = .returned (.bool (wi lo hi n && wi lo hi m)) ∧ w = w' := by
  have := withins_c (some ⟨g, 0, none⟩) [n, m] 2 lo hi w (by simp) (InAt.pair h)
  rwa [wl_two] at this
/-! ### spans in a row -/
theorem sw_at {lo hi : Int} {l : List (Int × Int)} {k : Nat} (hk : k < l.length) (h : (wi lo hi l[k].1 && wi lo hi l[k].2) = false) : sw lo hi l = false := by
  unfold sw
  rw [Bool.eq_false_iff, Ne, List.all_eq_true]
  intro ha
  have := ha _ (List.getElem_mem hk)
  rw [h] at this; cases this
theorem sw_all {lo hi : Int} {l : List (Int × Int)} (h : ∀ j (h : j < l.length), (wi lo hi l[j].1 && wi lo hi l[j].2) = true) : sw lo hi l = true := by
  unfold sw
  rw [List.all_eq_true]
  intro x hx
  obtain ⟨j, hj, rfl⟩ := List.mem_iff_getElem.1 hx
  exact h j hj
theorem tn_at {l : List (Int × Int)} {k : Nat} (hk : k < l.length) (h : l[k].2 < l[k].1) : tn l = true := by
  unfold tn
  rw [List.any_eq_true]
  exact ⟨_, List.getElem_mem hk, by simpa using h⟩
theorem tn_none {l : List (Int × Int)} (h : ∀ j (h : j < l.length), ¬ l[j].2 < l[j].1) : tn l = false := by
  unfold tn
  rw [Bool.eq_false_iff, Ne, List.any_eq_true]
  rintro ⟨x, hx, hy⟩
  obtain ⟨j, hj, rfl⟩ := List.mem_iff_getElem.1 hx
  exact h j hj (by simpa using hy)
set_option maxHeartbeats 1000000 in
theorem spansWithin_c (A : Option Addr) (l : List (Int × Int)) (c : Nat) (lo hi : Int) (w : World) (hl : l.length ≤ 1000) (hp : SpAt w A l) :
    Calls Try.prog 66 #[.int .i64 lo, .int .i64 hi, .slice A l.length c] w fun e w' => e = .returned (.bool (sw lo hi l)) ∧ Below w.heap.size w w' := by
  go_enter Try.func66, Try.ntmps66
  go_wp2
  go_loopw [8, 11] (fun _ i wr => ∃ k : Nat, k ≤ l.length ∧ i = .int .i64 k ∧ Since w wr ∧ Hid (∀ j (h : j < l.length), j < k → (wi lo hi l[j].1 && wi lo hi l[j].2) = true)) (fun _ i _ => l.length - (intOf i).toNat)
  case atStart => exact ⟨0, Nat.zero_le _, rfl, Since.refl _, fun j _ h => absurd h (by omega)⟩
  case round =>
    obtain ⟨k, hk, rfl, hsn, H0⟩ := hrel
    by_cases hlt : k < l.length
    · obtain ⟨ad, hA, c0, c1⟩ := hp.get hlt
      subst hA
      have c0' := keep_cell hsn.1 c0
      have c1' := keep_cell hsn.1 c1
      clear c0 c1
      have hsn2 := hsn.alloc (.cells #[.int .i64 l[k].1, .int .i64 l[k].2] 23)
      have hsn3 := hsn2.alloc (.cells #[.int .i64 l[k].1, .int .i64 l[k].2] 3)
      go_wp2_with fail
      refine (within2_c lo hi l[k].1 l[k].2 _ _ _ (Blk.new1 _ _ _ _)).mono ?_
      rintro e w' ⟨rfl, rfl⟩
      cases h1 : (wi lo hi l[k].1 && wi lo hi l[k].2)
      · have HV := Lib.hid (sw_at (lo := lo) (hi := hi) hlt h1)
        clear h1
        go_wp2_with fail
        go_ret
        exact ⟨ret_bool HV.out.symm, hsn3.1⟩
      · have HV := Lib.hid h1
        clear h1
        go_wp2_with fail
        go_roundw
        case rel =>
          refine ⟨k + 1, by omega, by go_num, hsn3, fun j h hj => ?_⟩
          rcases Nat.lt_or_ge j k with h1 | h1
          · exact H0.out j h h1
          · obtain rfl : j = k := by omega
            exact HV.out
        case measure => simp [intOf]; omega
    · have HV := Lib.hid (sw_all (lo := lo) (hi := hi) (l := l) fun j hj => H0.out j hj (by omega))
      go_wp2_with fail
      go_ret
      exact ⟨ret_bool HV.out.symm, hsn.1⟩
set_option maxHeartbeats 1000000 in
theorem turned_c (A : Option Addr) (l : List (Int × Int)) (c : Nat) (w : World) (hl : l.length ≤ 1000) (hp : SpAt w A l) :
    Calls Try.prog 67 #[.slice A l.length c] w fun e w' => e = .returned (.bool (tn l)) ∧ Below w.heap.size w w' := by
  go_enter Try.func67, Try.ntmps67
  go_wp2
  go_loopw [4, 7] (fun _ i wr => ∃ k : Nat, k ≤ l.length ∧ i = .int .i64 k ∧ Since w wr ∧ Hid (∀ j (h : j < l.length), j < k → ¬ l[j].2 < l[j].1)) (fun _ i _ => l.length - (intOf i).toNat)
  case atStart => exact ⟨0, Nat.zero_le _, rfl, Since.refl _, fun j _ h => absurd h (by omega)⟩
  case round =>
    obtain ⟨k, hk, rfl, hsn, H0⟩ := hrel
    by_cases hlt : k < l.length
    · obtain ⟨ad, hA, c0, c1⟩ := hp.get hlt
      subst hA
      have c0' := keep_cell hsn.1 c0
      have c1' := keep_cell hsn.1 c1
      clear c0 c1
      have hsn2 := hsn.alloc (.cells #[.int .i64 l[k].1, .int .i64 l[k].2] 23)
      by_cases h1 : l[k].2 < l[k].1
      · have HV := Lib.hid (tn_at hlt h1)
        go_wp2_with fail
        go_ret
        exact ⟨ret_bool HV.out.symm, hsn2.1⟩
      · have HV := Lib.hid h1
        go_wp2_with fail
        go_roundw
        case rel =>
          refine ⟨k + 1, by omega, by go_num, hsn2, fun j h hj => ?_⟩
          rcases Nat.lt_or_ge j k with h1 | h1
          · exact H0.out j h h1
          · obtain rfl : j = k := by omega
            exact HV.out
        case measure => simp [intOf]; omega
    · have HV := Lib.hid (tn_none (l := l) fun j hj => H0.out j hj (by omega))
      go_wp2_with fail
      go_ret
      exact ⟨ret_bool HV.out.symm, hsn.1⟩
end Td
end Go.Proofs.Ytccacinnelmnpaa
