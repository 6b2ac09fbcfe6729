import Derived.Test.YtgkdidnmndmlhaaCore
import Derived.RangeFuncNested
import Derived.RangeFuncBound
import Derived.RangeFuncCalls
import Derived.RangeFuncLeaves
import Derived.Shelf.Abstract
import Derived.Shelf.RegionOpen
import Derived.OwnWalkIn
import Derived.TacticsInMore
import Derived.LoopNIn
import Derived.LoopIn
import Derived.Deep.Cut
/- Package limits: numbers and spans within a span. -/
namespace Go.Proofs.Ytgkdidnmndmlhaa
open Go.RowKit
namespace Td
set_option linter.unusedSimpArgs false
set_option linter.unusedVariables false
def InAt (w : World) (A : Option Addr) (l : List Int) : Prop :=
  l ≠ [] → ∃ a, A = some a ∧ ∀ i p, l[i]? = some p → w.cell? (a.add i) = some (.int .i64 p)
theorem InAt.keep {w w' : World} {A : Option Addr} {l : List Int} (h : InAt w A l) (hb : Below w.heap.size w w') : InAt w' A l := fun hx =>
  let ⟨a, ha, hc⟩ := h hx; ⟨a, ha, fun i p hp => keep_cell hb (hc i p hp)⟩
theorem InAt.get {w : World} {A : Option Addr} {l : List Int} (h : InAt w A l) {k : Nat} (hk : k < l.length) : ∃ a, A = some a ∧ w.cell? (a.add k) = some (.int .i64 l[k]) := by
  obtain ⟨a, ha, hc⟩ := h (fun e => by simp [e] at hk)
  exact ⟨a, ha, hc k _ (List.getElem?_eq_getElem hk)⟩
theorem InAt.one {w : World} {g : Nat} {ty : TypeId} {a : Int} (h : Blk w g ty #[.int .i64 a]) : InAt w (some ⟨g, 0, none⟩) [a] := fun _ => ⟨_, rfl, fun i q hq => by
  rw [add_new]
  match i, hq with
  | 0, hq => obtain rfl : a = q := by simpa using hq
             exact h.cell 0
  | i + 1, hq => simp at hq⟩
theorem InAt.pair {w : World} {g : Nat} {ty : TypeId} {a b : Int} (h : Blk w g ty #[.int .i64 a, .int .i64 b]) : InAt w (some ⟨g, 0, none⟩) [a, b] := fun _ => ⟨_, rfl, fun i q hq => by
  rw [add_new]
  match i, hq with
  | 0, hq => obtain rfl : a = q := by simpa using hq
             exact h.cell 0
  | 1, hq => obtain rfl : b = q := by simpa using hq
             exact h.cell 1
  | i + 2, hq => simp at hq⟩
theorem SpAt.one {w : World} {g : Nat} {t : TypeId} {p : Int × Int} (h : Blk w g t #[.int .i64 p.1, .int .i64 p.2]) : SpAt w (some ⟨g, 0, none⟩) [p] := fun _ => ⟨_, rfl, fun i q hq => by
  rw [add_new]
  match i, hq with
  | 0, hq =>
    obtain rfl : p = q := by simpa using hq
    exact ⟨h.cell 0, h.cell 1⟩
  | i + 1, hq => simp at hq⟩
theorem SpAt.two {w : World} {g : Nat} {t : TypeId} {p r : Int × Int} (h : Blk w g t #[.int .i64 p.1, .int .i64 p.2, .int .i64 r.1, .int .i64 r.2]) : SpAt w (some ⟨g, 0, none⟩) [p, r] := fun _ => ⟨_, rfl, fun i q hq => by
  rw [add_new]
  match i, hq with
  | 0, hq =>
    obtain rfl : p = q := by simpa using hq
    exact ⟨h.cell 0, h.cell 1⟩
  | 1, hq =>
    obtain rfl : r = q := by simpa using hq
    exact ⟨h.cell 2, h.cell 3⟩
  | i + 2, hq => simp at hq⟩
theorem SpAt.three {w : World} {g : Nat} {t : TypeId} {p r q : Int × Int} (h : Blk w g t #[.int .i64 p.1, .int .i64 p.2, .int .i64 r.1, .int .i64 r.2, .int .i64 q.1, .int .i64 q.2]) : SpAt w (some ⟨g, 0, none⟩) [p, r, q] := fun _ => ⟨_, rfl, fun i z hz => by
  rw [add_new]
  match i, hz with
  | 0, hz =>
    obtain rfl : p = z := by simpa using hz
    exact ⟨h.cell 0, h.cell 1⟩
  | 1, hz =>
    obtain rfl : r = z := by simpa using hz
    exact ⟨h.cell 2, h.cell 3⟩
  | 2, hz =>
    obtain rfl : q = z := by simpa using hz
    exact ⟨h.cell 4, h.cell 5⟩
  | i + 3, hz => simp at hz⟩
/-! ### numbers in a row -/
def wl (lo hi : Int) (l : List Int) : Bool := l.all (wi lo hi)
theorem wl_one (lo hi n : Int) : wl lo hi [n] = wi lo hi n := by simp [wl]
theorem wl_two (lo hi n m : Int) : wl lo hi [n, m] = (wi lo hi n && wi lo hi m) := by simp [wl]
theorem wl_at {lo hi : Int} {l : List Int} {k : Nat} (hk : k < l.length) (h : wi lo hi l[k] = false) : wl lo hi l = false := by
  unfold wl
  rw [Bool.eq_false_iff, Ne, List.all_eq_true]
  intro ha
  have := ha _ (List.getElem_mem hk)
  rw [h] at this; cases this
theorem wl_all {lo hi : Int} {l : List Int} (h : ∀ j (h : j < l.length), wi lo hi l[j] = true) : wl lo hi l = true := by
  unfold wl
  rw [List.all_eq_true]
  intro x hx
  obtain ⟨j, hj, rfl⟩ := List.mem_iff_getElem.1 hx
  exact h j hj
set_option maxHeartbeats 1000000 in
theorem withins_c (A : Option Addr) (l : List Int) (c : Nat) (lo hi : Int) (w : World) (hl : l.length ≤ 1000) (hp : InAt w A l) :
    Calls Try.prog 46 #[.int .i64 lo, .int .i64 hi, .slice A l.length c] w fun e w' => e = .returned (.bool (wl lo hi l)) ∧ w = w' := by
  go_enter Try.func46, Try.ntmps46
  go_wp2
  go_loop [8, 11] (fun _ i => ∃ k : Nat, k ≤ l.length ∧ i = .int .i64 k ∧ Hid (∀ j (h : j < l.length), j < k → wi lo hi l[j] = true)) (fun _ i => l.length - (intOf i).toNat)
  case atStart => exact ⟨0, Nat.zero_le _, rfl, fun j _ h => absurd h (by omega)⟩
  case round =>
    obtain ⟨k, hk, rfl, H0⟩ := hrel
    by_cases hlt : k < l.length
    · obtain ⟨ad, hA, c0⟩ := hp.get hlt
      subst hA
      by_cases h1 : l[k] < lo
      · have HV := Lib.hid (wl_at (lo := lo) (hi := hi) hlt (by simp [wi]; omega))
        go_wp2_with fail
        go_ret
        exact ⟨ret_bool HV.out.symm, rfl⟩
      · by_cases h2 : hi < l[k]
        · have HV := Lib.hid (wl_at (lo := lo) (hi := hi) hlt (by simp [wi]; omega))
          go_wp2_with fail
          go_ret
          exact ⟨ret_bool HV.out.symm, rfl⟩
        · have HV : Hid (wi lo hi l[k] = true) := by show _ = _; simp [wi]; omega
          go_wp2_with fail
          go_round
          case rel =>
            refine ⟨k + 1, by omega, by go_num, fun j h hj => ?_⟩
            rcases Nat.lt_or_ge j k with h1 | h1
            · exact H0.out j h h1
            · obtain rfl : j = k := by omega
              exact HV.out
          case measure => simp [intOf]; omega
    · have HV := Lib.hid (wl_all (lo := lo) (hi := hi) (l := l) fun j hj => H0.out j hj (by omega))
      go_wp2_with fail
      go_ret
      exact ⟨ret_bool HV.out.symm, rfl⟩
/-- of one number, two numbers, that lie in a block of their own. -/
theorem within_c (lo hi n : Int) (g : Nat) (ty : TypeId) (w : World) (h : Blk w g ty #[.int .i64 n]) :
    Calls Try.prog 46 #[.int .i64 lo, .int .i64 hi, .slice (some ⟨g, 0, none⟩) 1 1] w fun e w' => e = .returned (.bool (wi lo hi n)) ∧ Below w.heap.size w w' := by
  have := withins_c (some ⟨g, 0, none⟩) [n] 1 lo hi w (by simp) (InAt.one h)
  rw [wl_one] at this
  exact this.mono fun e w' h => ⟨h.1, h.2 ▸ Below.refl _ _⟩
theorem within2_c (lo hi n m : Int) (g : Nat) (ty : TypeId) (w : World) (h : Blk w g ty #[.int .i64 n, .int .i64 m]) :
    Calls Try.prog 46 #[.int .i64 lo, .int .i64 hi, .slice (some ⟨g, 0, none⟩) 2 2] w fun e w' => e = .returned (.bool (wi lo hi n && wi lo hi m)) ∧ w = w' := by
  have := withins_c (some ⟨g, 0, none⟩) [n, m] 2 lo hi w (by simp) (InAt.pair h)
  rwa [wl_two] at this
/-! ### spans in a row -/
theorem sw_at {lo hi : Int} {l : List (Int × Int)} {k : Nat} (hk : k < l.length) (h : (wi lo hi l[k].1 && wi lo hi l[k].2) = false) : sw lo hi l = false := by
  unfold sw
  rw [Bool.eq_false_iff, Ne, List.all_eq_true]
  intro ha
  have := ha _ (List.getElem_mem hk)
  rw [h] at this; cases this
theorem sw_all {lo hi : Int} {l : List (Int × Int)} (h : ∀ j (h : j < l.length), (wi lo hi l[j].1 && wi lo hi l[j].2) = true) : sw lo hi l = true := by
  unfold sw
  rw [List.all_eq_true]
  intro x hx
  obtain ⟨j, hj, rfl⟩ := List.mem_iff_getElem.1 hx
  exact h j hj
theorem tn_at {l : List (Int × Int)} {k : Nat} (hk : k < l.length) (h : l[k].2 < l[k].1) : tn l = true := by
  unfold tn
  rw [List.any_eq_true]
  exact ⟨_, List.getElem_mem hk, by simpa using h⟩
theorem tn_none {l : List (Int × Int)} (h : ∀ j (h : j < l.length), ¬ l[j].2 < l[j].1) : tn l = false := by
  unfold tn
  rw [Bool.eq_false_iff, Ne, List.any_eq_true]
  rintro ⟨x, hx, hy⟩
  obtain ⟨j, hj, rfl⟩ := List.mem_iff_getElem.1 hx
  exact h j hj (by simpa using hy)
set_option maxHeartbeats 1000000 in
theorem spansWithin_c (A : Option Addr) (l : List (Int × Int)) (c : Nat) (lo hi : Int) (w : World) (hl : l.length ≤ 1000) (hp : SpAt w A l) :
    Calls Try.prog 47 #[.int .i64 lo, .int .i64 hi, .slice A l.length c] w fun e w' => e = .returned (.bool (sw lo hi l)) ∧ Below w.heap.size w w' := by
  go_enter Try.func47, Try.ntmps47
  go_wp2
  go_loopw [8, 11] (fun _ i wr => ∃ k : Nat, k ≤ l.length ∧ i = .int .i64 k ∧ Since w wr ∧ Hid (∀ j (h : j < l.length), j < k → (wi lo hi l[j].1 && wi lo hi l[j].2) = true)) (fun _ i _ => l.length - (intOf i).toNat)
  case atStart => exact ⟨0, Nat.zero_le _, rfl, Since.refl _, fun j _ h => absurd h (by omega)⟩
  case round =>
    obtain ⟨k, hk, rfl, hsn, H0⟩ := hrel
    by_cases hlt : k < l.length
    · obtain ⟨ad, hA, c0, c1⟩ := hp.get hlt
      subst hA
      have c0' := keep_cell hsn.1 c0
      have c1' := keep_cell hsn.1 c1
      clear c0 c1
      have hsn2 := hsn.alloc (.cells #[.int .i64 l[k].1, .int .i64 l[k].2] 23)
      have hsn3 := hsn2.alloc (.cells #[.int .i64 l[k].1, .int .i64 l[k].2] 3)
      go_wp2_with fail
      refine (within2_c lo hi l[k].1 l[k].2 _ _ _ (Blk.new1 _ _ _ _)).mono ?_
      rintro e w' ⟨rfl, rfl⟩
      cases h1 : (wi lo hi l[k].1 && wi lo hi l[k].2)
      · have HV := Lib.hid (sw_at (lo := lo) (hi := hi) hlt h1)
        clear h1
        go_wp2_with fail
        go_ret
        exact ⟨ret_bool HV.out.symm, hsn3.1⟩
      · have HV := Lib.hid h1
        clear h1
        go_wp2_with fail
        go_roundw
        case rel =>
          refine ⟨k + 1, by omega, by go_num, hsn3, fun j h hj => ?_⟩
          rcases Nat.lt_or_ge j k with h1 | h1
          · exact H0.out j h h1
          · obtain rfl : j = k := by omega
            exact HV.out
        case measure => simp [intOf]; omega
    · have HV := Lib.hid (sw_all (lo := lo) (hi := hi) (l := l) fun j hj => H0.out j hj (by omega))
      go_wp2_with fail
      go_ret
      exact ⟨ret_bool HV.out.symm, hsn.1⟩
set_option maxHeartbeats 1000000 in
theorem turned_c (A : Option Addr) (l : List (Int × Int)) (c : Nat) (w : World) (hl : l.length ≤ 1000) (hp : SpAt w A l) :
    Calls Try.prog 48 #[.slice A l.length c] w fun e w' => e = .returned (.bool (tn l)) ∧ Below w.heap.size w w' := by
  go_enter Try.func48, Try.ntmps48
  go_wp2
  go_loopw [4, 7] (fun _ i wr => ∃ k : Nat, k ≤ l.length ∧ i = .int .i64 k ∧ Since w wr ∧ Hid (∀ j (h : j < l.length), j < k → ¬ l[j].2 < l[j].1)) (fun _ i _ => l.length - (intOf i).toNat)
  case atStart => exact ⟨0, Nat.zero_le _, rfl, Since.refl _, fun j _ h => absurd h (by omega)⟩
  case round =>
    obtain ⟨k, hk, rfl, hsn, H0⟩ := hrel
    by_cases hlt : k < l.length
    · obtain ⟨ad, hA, c0, c1⟩ := hp.get hlt
      subst hA
      have c0' := keep_cell hsn.1 c0
      have c1' := keep_cell hsn.1 c1
      clear c0 c1
      have hsn2 := hsn.alloc (.cells #[.int .i64 l[k].1, .int .i64 l[k].2] 23)
      by_cases h1 : l[k].2 < l[k].1
      · have HV := Lib.hid (tn_at hlt h1)
        go_wp2_with fail
        go_ret
        exact ⟨ret_bool HV.out.symm, hsn2.1⟩
      · have HV := Lib.hid h1
        go_wp2_with fail
        go_roundw
        case rel =>
          refine ⟨k + 1, by omega, by go_num, hsn2, fun j h hj => ?_⟩
          rcases Nat.lt_or_ge j k with h1 | h1
          · exact H0.out j h h1
          · obtain rfl : j = k := by omega
            exact HV.out
        case measure => simp [intOf]; omega
    · have HV := Lib.hid (tn_none (l := l) fun j hj => H0.out j hj (by omega))
      go_wp2_with fail
      go_ret
      exact ⟨ret_bool HV.out.symm, hsn.1⟩
end Td
end Go.Proofs.Ytgkdidnmndmlhaa
/- A range over a function whose iterator keeps state of its own in cells that it has laid since it was called: the caller's word has to abide a turn of any block that was laid since the loop began (not of a walk's object alone). -/
namespace Go.Proofs.Ytgkdidnmndmlhaa
open Go.RowKit
namespace Td
set_option linter.unusedSimpArgs false
set_option linter.unusedVariables false
/-- what abides a turn of whatever block lies at B or beyond. -/
def AllFrom {β : Type} (B : Nat) (I : β → World → Prop) : Prop := ∀ s W W' row, I s W → W.grownBy W' row → (∀ r, row = some r → B ≤ r) → I s W'
theorem AllFrom.and {β : Type} {B : Nat} {I I' : β → World → Prop} (h : AllFrom B I) (h' : AllFrom B I') : AllFrom B (fun s W => I s W ∧ I' s W) :=
  fun s W W' row hs hg hr => ⟨h s W W' row hs.1 hg hr, h' s W W' row hs.2 hg hr⟩
theorem AllFrom.pure {β : Type} (B : Nat) (p : β → Prop) : AllFrom B (fun s (_ : World) => p s) := fun _ _ _ _ hs _ _ => hs
theorem AllFrom.below {β : Type} {n₀ B : Nat} {w₀ : World} (hn : n₀ ≤ w₀.heap.size) (hB : n₀ ≤ B) : AllFrom B (fun (_ : β) W => Below n₀ w₀ W) :=
  fun _ _ _ _ hs hg hr => hs.grown hg (Nat.le_trans hn hs.size) (fun k e => Nat.le_trans hB (hr k e))
theorem Blk.grown {w w' : World} {g : Nat} {t : TypeId} {cs : Array Value} {row : Option Nat} (h : Blk w g t cs) (hg : w.grownBy w' row) (hne : some g ≠ row) : Blk w' g t cs := (hg.block g h.lt hne).trans h
theorem AllFrom.blk {β : Type} {B g : Nat} (hgB : g < B) (t : TypeId) (f : β → Array Value) : AllFrom B (fun s W => Blk W g t (f s)) :=
  fun s W W' row hs hg hr => hs.grown hg (fun e => by have := hr g e.symm; omega)
theorem AllFrom.putObj {β : Type} {B : Nat} {I : β → World → Prop} (h : AllFrom B I) {s : β} {W : World} {l : Nat} (o' : Obj) (hs : I s W) (hB : B ≤ l) : I s (W.putObj l o') :=
  h s W _ (some l) hs (grownBy_putObj' W l o') (fun r e => by cases e; exact hB)
theorem AllFrom.alloc {β : Type} {B : Nat} {I : β → World → Prop} (h : AllFrom B I) {s : β} {W : World} (o : Obj) (hs : I s W) : I s (W.alloc o) :=
  h s W _ none hs (World.grownBy_alloc W o none) (fun r e => by cases e)
theorem AllFrom.setCell {β : Type} {B : Nat} {I : β → World → Prop} (h : AllFrom B I) {s : β} {W : World} (g i : Nat) (v : Value) (hs : I s W) (hB : B ≤ g) : I s (W.setCell ⟨g, i, none⟩ v) :=
  h s W _ (some g) hs ⟨rfl, rfl, rfl, by simp, fun k hk hne => heap_setCell_other W ⟨g, i, none⟩ k v (fun e => hne (by rw [e]))⟩ (fun r e => by cases e; exact hB)
theorem keepsFrom_of_below {B : Nat} {W W' : World} (h : Below W.heap.size W W') : KeepsFrom B W W' := ⟨h.size, fun k o _ hk _ => (h.block k (Array.getElem?_eq_some_iff.1 hk).1).trans hk⟩

/-- an iterator's contract: as 'SeqStopsK', but the caller's word abides the iterator's own stores. -/
def SeqC {α : Type} (F : Fence) (n : Nat) (P : Program) (g : Nat) (lb : Array Value) (encs : α → Array Value) (Kp : World → World → Prop) (S Sp : List α → Prop) (R : List α → α → Prop) (w : World) : Prop :=
  ∀ (l : Nat) (J Jx : List α → World → Prop) (W : World), Below w.heap.size w W → AllFrom W.heap.size J → AllFrom W.heap.size Jx →
    (∀ pre x W1, J pre W1 → R pre x → YieldAt F (n - 1) P l (encs x) W1 fun e W' =>
      (e = .returned (.bool true) ∧ J (pre ++ [x]) W' ∧ Kp W1 W') ∨ (e = .returned (.bool false) ∧ Jx (pre ++ [x]) W')) →
    J [] W →
    CallsIn F n P g (#[.func (.yield l) #[] #[]] ++ lb) W fun e W' => (∃ v, e = .returned v) ∧ ((∃ xs, S xs ∧ J xs W') ∨ (∃ pre, Sp pre ∧ Jx pre W'))

variable {F : Fence} {n : Nat} {P : Program} {w : World}
theorem rangeFunc_c {α : Type} {g : Operand} {ps : Array Tmp} {assign body : Code} {Q : Exit → Act → World → Prop} {a : Act}
    (hro : F.round = none) (h1 : 1 ≤ n) {gf : Nat} {lb : Array Value} (hg : a.eval g = .func (.func gf) #[] lb) (hFg : F.fn gf) (eg : ∀ args w, (callFunc gf args).run P w = .ok (.enter gf args) w)
    {encs : α → Array Value} {Kp : World → World → Prop} {S Sp : List α → Prop} {R : List α → α → Prop} {w0 : World} (hseq : SeqC F (n - 1) P gf lb encs Kp S Sp R w0)
    (hKt : ∀ {A B C : World}, Kp A B → Kp B C → Kp A C) (hKb : ∀ (W : World) (l : Nat) (o o' : Obj), w.heap.size ≤ l → W.heap[l]? = some o → o.isCells = false → o.isWalk = false → Kp W (W.putObj l o')) (hb0 : Below w0.heap.size w0 w) (hps : ∀ x, (encs x).size = ps.size)
    (I : List α → World → Prop) (Ix : Code → List α → World → Prop) (hI : AllFrom w.heap.size I) (hIx : ∀ c, AllFrom w.heap.size (Ix c)) (h0 : I [] w) (Ax : α → Act → World → Prop) (hAx : ∀ x a', OwnFrom w.heap.size (fun (_ : Unit) W => Ax x a' W))
    (hassign : ∀ (l : Nat) (pre : List α) (x : α) (W : World) (K : Act → World → Prop), I pre W → (∀ a' W', KeepsFrom w.heap.size W W' → Kp W W' → I pre W' → Ax x a' W' → K a' W') →
      assign.wpIn (F.inRound l) (n - 1 - 1) P (Exit.then K (fun _ _ _ => False)) { tmps := (ps.zip (encs x)).foldl (fun t (p, v) => t.setIfInBounds p v) a.tmps, defers := [] } W)
    (hbody : ∀ (l : Nat) (pre : List α) (x : α) (a' : Act) (W : World), w.heap.size ≤ l → (∃ r, W.heap[l]? = some (.loop r)) → I pre W → Ax x a' W → R pre x → body.wpIn (F.inRound l) (n - 1 - 1) P (ownPostG w.heap.size Kp I Ix (pre ++ [x]) W) a' W)
    (hdone : ∀ (D : Nat) (xs : List α) (W : World), w.heap.size ≤ D → S xs → I xs W → W.heap[D]? = some (.deferred (some [])) → Q .normal { a with defers := { target := .collected D, args := #[] } :: a.defers } W)
    (hstop : ∀ (D : Nat) (c : Code) (pre : List α) (W : World), w.heap.size ≤ D → Sp pre → Ix c pre W → W.heap[D]? = some (.deferred (some [])) → c.wpIn F n P Q { a with defers := { target := .collected D, args := #[] } :: a.defers } W) :
    (Code.rangeFunc g ps assign body).wpIn F n P Q a w := by
  refine wpIn_rangeFunc fun fn hfn => ?_
  rw [hro]
  -- the loop's record, by its state and what is pending; its two blocks
  obtain ⟨rc, hrc⟩ : ∃ rc : LoopState → Option Code → Loop, rc = fun st pe => { state := st, pending := pe, fn, tmps := a.tmps, params := ps, assign, body, defers := w.heap.size } := ⟨_, rfl⟩
  obtain ⟨W1, hW1⟩ : ∃ W1, (w.alloc (.deferred (some []))).alloc (.loop (rc .ready none)) = W1 := ⟨_, rfl⟩
  have hz1 : W1.heap.size = w.heap.size + 1 + 1 := by rw [← hW1]; simp
  have hL1 : W1.heap[w.heap.size + 1]? = some (.loop (rc .ready none)) := by
    rw [← hW1]
    have := World.alloc_heap_new (w.alloc (.deferred (some []))) (.loop (rc .ready none))
    rwa [World.size_alloc] at this
  have hK1 : W1.heap[w.heap.size]? = some (.deferred (some [])) := by
    rw [← hW1]
    exact (Below.heap_alloc _ _ _ (by simp)).trans (World.alloc_heap_new w _)
  have hI1 : I [] W1 := by rw [← hW1]; exact hI.alloc _ (hI.alloc _ h0)
  have hb1 : Below w0.heap.size w0 W1 := by
    rw [← hW1]
    exact hb0.trans ((((Below.refl _ w).alloc (Nat.le_refl _) _).alloc (by simp) _).mono hb0.size)
  refine ⟨w.heap.size + 1, [{ target := .collected w.heap.size, args := #[] }], W1, { target := .fn (.func gf) lb, args := #[.func (.yield (w.heap.size + 1)) #[] #[]] }, W1, gf,
    #[.func (.yield (w.heap.size + 1)) #[] #[]] ++ lb, W1, ?_, ?_, ?_, ?_, fun _ => h1, ?_⟩
  · rw [← hW1, hrc]; exact run_enterLoop_outer _ _ _ _ _
  · simp only [resolve, hg]
    simp [go_sem]
  · intro f' hf'
    simp [Target.leads] at hf'
    subst hf'
    exact hFg
  · simp [invoke, go_sem, eg]
  have hfar : ∀ {X Y : World} {row : Option Nat} {k : Nat} {o : Obj}, X.grownBy Y row → (∀ r, row = some r → W1.heap.size ≤ r) → k < W1.heap.size → X.heap[k]? = some o → Y.heap[k]? = some o := fun hg' hr hk ho =>
    (hg'.block _ (Array.getElem?_eq_some_iff.1 ho).1 (fun e => by have := hr _ e.symm; omega)).trans ho
  refine (hseq (w.heap.size + 1)
    (fun pre W => I pre W ∧ W.heap[w.heap.size + 1]? = some (.loop (rc .ready none)) ∧ W.heap[w.heap.size]? = some (.deferred (some [])))
    (fun pre W => ∃ c, Ix c pre W ∧ W.heap[w.heap.size + 1]? = some (.loop (rc .done (some c))) ∧ W.heap[w.heap.size]? = some (.deferred (some [])))
    W1 hb1
    (fun s X Y row hs hg' hr => ⟨hI s X Y row hs.1 hg' (fun r e => by have := hr r e; omega), hfar hg' hr (by omega) hs.2.1, hfar hg' hr (by omega) hs.2.2⟩)
    (fun s X Y row hs hg' hr => by
      obtain ⟨c, hc, hl, hk⟩ := hs
      exact ⟨c, hIx c s X Y row hc hg' (fun r e => by have := hr r e; omega), hfar hg' hr (by omega) hl, hfar hg' hr (by omega) hk⟩)
    ?_ ⟨hI1, hL1, hK1⟩).mono ?_
  · rintro pre x W ⟨hi, hl, hk⟩ hlen
    have hlt : w.heap.size + 1 < W.heap.size := (Array.getElem?_eq_some_iff.1 hl).1
    have hy := run_yield (P := P) (args := encs x) hl (by rw [hrc]; exact hps x)
    rw [hrc] at hy
    refine ⟨fn, _, assign, body, hy, roundIn_of_wpIn hfn (hassign _ pre x W _ hi ?_)⟩
    clear hy
    intro a' V hkfa hkpa hia hax
    have hlV := hkfa.same _ _ (by omega) hl rfl
    have hkV := hkfa.same _ _ (Nat.le_refl _) hk rfl
    have hltV : w.heap.size + 1 < V.heap.size := (Array.getElem?_eq_some_iff.1 hlV).1
    refine ⟨_, run_beginRound hlV (by rw [hrc]), ?_⟩
    have hl2 : (V.putObj (w.heap.size + 1) (.loop { rc .ready none with state := .busy })).heap[w.heap.size + 1]? = some (.loop { rc .ready none with state := .busy }) := World.putObj_heap_same hltV
    have hk2 : (V.putObj (w.heap.size + 1) (.loop { rc .ready none with state := .busy })).heap[w.heap.size]? = some (.deferred (some [])) := (World.putObj_heap_other (by omega)).trans hkV
    have hw2 : Kp V (V.putObj (w.heap.size + 1) (.loop { rc .ready none with state := .busy })) := hKb _ _ _ _ (by omega) hlV rfl rfl
    refine wpIn_mono (hbody _ pre x a' _ (by omega) ⟨_, hl2⟩ (hI.putObj _ hia (by omega)) ((hAx x a').putObj (s := ()) _ hax (by omega) hlV rfl) hlen) ?_
    -- how a round ends: the record is ready again, or it is done and a jump is pending
    have fin : ∀ (jump : Option Code) (Z : World), KeepsFrom w.heap.size (V.putObj (w.heap.size + 1) (.loop { rc .ready none with state := .busy })) Z →
        (Instr.endRound (w.heap.size + 1) jump).run P Z = .ok (.bool jump.isNone) (Z.putObj (w.heap.size + 1) (.loop (rc (if jump.isNone then .ready else .done) jump))) ∧
        Z.heap[w.heap.size + 1]? = some (.loop { rc .ready none with state := .busy }) ∧
        (Z.putObj (w.heap.size + 1) (.loop (rc (if jump.isNone then .ready else .done) jump))).heap[w.heap.size + 1]? = some (.loop (rc (if jump.isNone then .ready else .done) jump)) ∧
        (Z.putObj (w.heap.size + 1) (.loop (rc (if jump.isNone then .ready else .done) jump))).heap[w.heap.size]? = some (.deferred (some [])) := fun jump Z hkz => by
      have hlz := hkz.same _ _ (by omega) hl2 rfl
      have he := run_endRound (P := P) jump hlz
      rw [hrc] at he ⊢
      exact ⟨he, by rw [hrc] at hlz; exact hlz, World.putObj_heap_same (Array.getElem?_eq_some_iff.1 hlz).1, (World.putObj_heap_other (by omega)).trans (hkz.same _ _ (Nat.le_refl _) hk2 rfl)⟩
    rintro e a3 Z hp
    have leave : ∀ c : Code, KeepsFrom w.heap.size (V.putObj (w.heap.size + 1) (.loop { rc .ready none with state := .busy })) Z → Ix c (pre ++ [x]) Z →
        ∃ v W', (Instr.endRound (w.heap.size + 1) (some c)).run P Z = .ok v W' ∧ v = .bool false ∧ ∃ c', Ix c' (pre ++ [x]) W' ∧ W'.heap[w.heap.size + 1]? = some (.loop (rc .done (some c'))) ∧ W'.heap[w.heap.size]? = some (.deferred (some [])) := fun c hkz hiz => by
      obtain ⟨hr, hlz, hl4, hk4⟩ := fin (some c) Z hkz
      exact ⟨_, _, hr, rfl, c, (hIx c).putObj _ hiz (by omega), hl4, hk4⟩
    cases e with
    | normal =>
      obtain ⟨hkz, hkp, hiz⟩ := hp
      obtain ⟨hr, hlz, hl4, hk4⟩ := fin none Z hkz
      exact ⟨_, _, hr, .inl ⟨rfl, ⟨hI.putObj _ hiz (by omega), hl4, hk4⟩, hKt hkpa (hKt (hKt hw2 hkp) (hKb _ _ _ _ (by omega) hlz rfl rfl))⟩⟩
    | ret => obtain ⟨v, W', h1, h2, h3⟩ := leave _ hp.1 hp.2; exact ⟨v, W', h1, .inr ⟨by rw [h2], h3⟩⟩
    | exit id => obtain ⟨v, W', h1, h2, h3⟩ := leave _ hp.1 hp.2; exact ⟨v, W', h1, .inr ⟨by rw [h2], h3⟩⟩
    | goto t => obtain ⟨v, W', h1, h2, h3⟩ := leave _ hp.1 hp.2; exact ⟨v, W', h1, .inr ⟨by rw [h2], h3⟩⟩
    | panic ch => exact hp.elim
    | outgrown => exact hp.elim
  · rintro e W2 ⟨⟨v, rfl⟩, (⟨xs, hS, hi, hl, hk⟩ | ⟨pre, hSp, c, hi, hl, hk⟩)⟩
    · have he := run_endLoop (P := P) hl (by rw [hrc]; simp)
      rw [hrc] at he
      exact ⟨none, _, he, hdone _ xs _ (Nat.le_refl _) hS (hI.putObj _ hi (by omega)) ((World.putObj_heap_other (by omega)).trans hk)⟩
    · have he := run_endLoop (P := P) hl (by rw [hrc]; simp)
      rw [hrc] at he
      exact ⟨some c, _, he, hstop _ c pre _ (Nat.le_refl _) hSp ((hIx c).putObj _ hi (by omega)) ((World.putObj_heap_other (by omega)).trans hk)⟩
end Td
end Go.Proofs.Ytgkdidnmndmlhaa
