import Derived.Test.YtmofbnadfgejiaaCore
import Derived.RangeFuncNested
import Derived.RangeFuncBound
import Derived.RangeFuncCalls
import Derived.RangeFuncLeaves
import Derived.Shelf.Abstract
import Derived.Shelf.RegionOpen
import Derived.OwnWalkIn
import Derived.TacticsInMore
import Derived.LoopNIn
import Derived.LoopIn
import Derived.Deep.Cut
/- Package limits: numbers and spans within a span. -/
namespace Go.Proofs.Ytmofbnadfgejiaa
open Go.RowKit
namespace Td
set_option linter.unusedSimpArgs false
set_option linter.unusedVariables false
def InAt (w : World) (A : Option Addr) (l : List Int) : Prop :=
  l ≠ [] → ∃ a, A = some a ∧ ∀ i p, l[i]? = some p → w.cell? (a.add i) = some (.int .i64 p)
theorem InAt.keep {w w' : World} {A : Option Addr} {l : List Int} (h : InAt w A l) (hb : Below w.heap.size w w') : InAt w' A l := fun hx =>
  let ⟨a, ha, hc⟩ := h hx; ⟨a, ha, fun i p hp => keep_cell hb (hc i p hp)⟩
theorem InAt.get {w : World} {A : Option Addr} {l : List Int} (h : InAt w A l) {k : Nat} (hk : k < l.length) : ∃ a, A = some a ∧ w.cell? (a.add k) = some (.int .i64 l[k]) := by
  obtain ⟨a, ha, hc⟩ := h (fun e => by simp [e] at hk)
  exact ⟨a, ha, hc k _ (List.getElem?_eq_getElem hk)⟩
theorem InAt.one {w : World} {g : Nat} {ty : TypeId} {a : Int} (h : Blk w g ty #[.int .i64 a]) : InAt w (some ⟨g, 0, none⟩) [a] := fun _ => ⟨_, rfl, fun i q hq => by
  rw [add_new]
  match i, hq with
  | 0, hq => obtain rfl : a = q := by simpa using hq
             exact h.cell 0
  | i + 1, hq => simp at hq⟩
theorem InAt.pair {w : World} {g : Nat} {ty : TypeId} {a b : Int} (h : Blk w g ty #[.int .i64 a, .int .i64 b]) : InAt w (some ⟨g, 0, none⟩) [a, b] := fun _ => ⟨_, rfl, fun i q hq => by
  rw [add_new]
  match i, hq with
  | 0, hq => obtain rfl : a = q := by simpa using hq
             exact h.cell 0
  | 1, hq => obtain rfl : b = q := by simpa using hq
             exact h.cell 1
  | i + 2, hq => simp at hq⟩
theorem SpAt.one {w : World} {g : Nat} {t : TypeId} {p : Int × Int} (h : Blk w g t #[.int .i64 p.1, .int .i64 p.2]) : SpAt w (some ⟨g, 0, none⟩) [p] := fun _ => ⟨_, rfl, fun i q hq => by
  rw [add_new]
  match i, hq with
  | 0, hq =>
    obtain rfl : p = q := by simpa using hq
    exact ⟨h.cell 0, h.cell 1⟩
  | i + 1, hq => simp at hq⟩
theorem SpAt.two {w : World} {g : Nat} {t : TypeId} {p r : Int × Int} (h : Blk w g t #[.int .i64 p.1, .int .i64 p.2, .int .i64 r.1, .int .i64 r.2]) : SpAt w (some ⟨g, 0, none⟩) [p, r] := fun _ => ⟨_, rfl, fun i q hq => by
  rw [add_new]
  match i, hq with
  | 0, hq =>
    obtain rfl : p = q := by simpa using hq
    exact ⟨h.cell 0, h.cell 1⟩
  | 1, hq =>
    obtain rfl : r = q := by simpa using hq
    exact ⟨h.cell 2, h.cell 3⟩
  | i + 2, hq => simp at hq⟩
theorem SpAt.three {w : World} {g : Nat} {t : TypeId} {p r q : Int × Int} (h : Blk w g t #[.int .i64 p.1, .int .i64 p.2, .int .i64 r.1, .int .i64 r.2, .int .i64 q.1, .int .i64 q.2]) : SpAt w (some ⟨g, 0, none⟩) [p, r, q] := fun _ => ⟨_, rfl, fun i z hz => by
  rw [add_new]
  match i, hz with
  | 0, hz =>
    obtain rfl : p = z := by simpa using hz
    exact ⟨h.cell 0, h.cell 1⟩
  | 1, hz =>
    obtain rfl : r = z := by simpa using hz
    exact ⟨h.cell 2, h.cell 3⟩
  | 2, hz =>
    obtain rfl : q = z := by simpa using hz
    exact ⟨h.cell 4, h.cell 5⟩
  | i + 3, hz => simp at hz⟩
/-! ### numbers in a row -/
def wl (lo hi : Int) (l : List Int) : Bool := l.all (wi lo hi)
theorem wl_one (lo hi n : Int) : wl lo hi [n] = wi lo hi n := by simp [wl]
theorem wl_two (lo hi n m : Int) : wl lo hi [n, m] = (wi lo hi n && wi lo hi m) := by simp [wl]
theorem wl_at {lo hi : Int} {l : List Int} {k : Nat} (hk : k < l.length) (h : wi lo hi l[k] = false) : wl lo hi l = false := by
  unfold wl
  rw [Bool.eq_false_iff, Ne, List.all_eq_true]
  intro ha
  have := ha _ (List.getElem_mem hk)
  rw [h] at this; cases this
theorem wl_all {lo hi : Int} {l : List Int} (h : ∀ j (h : j < l.length), wi lo hi l[j] = true) : wl lo hi l = true := by
  unfold wl
  rw [List.all_eq_true]
  intro x hx
  obtain ⟨j, hj, rfl⟩ := List.mem_iff_getElem.1 hx
  exact h j hj
set_option maxHeartbeats 1000000 in
theorem withins_c (A : Option Addr) (l : List Int) (c : Nat) (lo hi : Int) (w : World) (hl : l.length ≤ 1000) (hp : InAt w A l) :
    Calls Try.prog 63 #[.int .i64 lo, .int .i64 hi, .slice A l.length c] w fun e w' => e = .returned (.bool (wl lo hi l)) ∧ w = w' := by
  go_enter Try.func63, Try.ntmps63
  go_wp2
  go_loop [8, 11] (fun _ i => ∃ k : Nat, k ≤ l.length ∧ i = .int .i64 k ∧ Hid (∀ j (h : j < l.length), j < k → wi lo hi l[j] = true)) (fun _ i => l.length - (intOf i).toNat)
  case atStart => exact ⟨0, Nat.zero_le _, rfl, fun j _ h => absurd h (by omega)⟩
  case round =>
    obtain ⟨k, hk, rfl, H0⟩ := hrel
    by_cases hlt : k < l.length
    · obtain ⟨ad, hA, c0⟩ := hp.get hlt
      subst hA
      by_cases h1 : l[k] < lo
      · have HV := Lib.hid (wl_at (lo := lo) (hi := hi) hlt (by simp [wi]; omega))
        go_wp2_with fail
        go_ret
        exact ⟨ret_bool HV.out.symm, rfl⟩
      · by_cases h2 : hi < l[k]
        · have HV := Lib.hid (wl_at (lo := lo) (hi := hi) hlt (by simp [wi]; omega))
          go_wp2_with fail
          go_ret
          exact ⟨ret_bool HV.out.symm, rfl⟩
        · have HV : Hid (wi lo hi l[k] = true) := by show _ = _; simp [wi]; omega
          go_wp2_with fail
          go_round
          case rel =>
            refine ⟨k + 1, by omega, by go_num, fun j h hj => ?_⟩
            rcases Nat.lt_or_ge j k with h1 | h1
            · exact H0.out j h h1
            · obtain rfl : j = k := by omega
              exact HV.out
          case measure => simp [intOf]; omega
    · have HV := Lib.hid (wl_all (lo := lo) (hi := hi) (l := l) fun j hj => H0.out j hj (by omega))
      go_wp2_with fail
      go_ret
      exact ⟨ret_bool HV.out.symm, rfl⟩
/-- of one number, two numbers, that lie in a block of their own. -/
theorem within_c (lo hi n : Int) (g : Nat) (ty : TypeId) (w : World) (h : Blk w g ty #[.int .i64 n]) :
    Calls Try.prog 63 #[.int .i64 lo, .int .i64 hi, .slice (some ⟨g, 0, none⟩) 1 1] w fun e w' => e = .returned (.bool (wi lo hi n)) ∧ Below w.heap.size w w' := by
  have := withins_c (some ⟨g, 0, none⟩) [n] 1 lo hi w (by simp) (InAt.one h)
  rw [wl_one] at this
  exact this.mono fun e w' h => ⟨h.1, h.2 ▸ Below.refl _ _⟩
theorem within2_c (lo hi n m : Int) (g : Nat) (ty : TypeId) (w : World) (h : Blk w g ty #[.int .i64 n, .int .i64 m]) :
    Calls Try.prog 63 #[.int .i64 lo, .int .i64 hi, .slice (some ⟨g, 0, none⟩) 2 2] w fun e w' => e = .returned (.bool (wi lo hi n && wi lo hi m)) ∧ w = w' := by
  have := withins_c (some ⟨g, 0, none⟩) [n, m] 2 lo hi w (by simp) (InAt.pair h)
  rwa [wl_two] at this
/-! ### spans in a row -/
theorem sw_at {lo hi : Int} {l : List (Int × Int)} {k : Nat} (hk : k < l.length) (h : (wi lo hi l[k].1 && wi lo hi l[k].2) = false) : sw lo hi l = false := by
  unfold sw
  rw [Bool.eq_false_iff, Ne, List.all_eq_true]
  intro ha
  have := ha _ (List.getElem_mem hk)
  rw [h] at this; cases this
theorem sw_all {lo hi : Int} {l : List (Int × Int)} (h : ∀ j (h : j < l.length), (wi lo hi l[j].1 && wi lo hi l[j].2) = true) : sw lo hi l = true := by
  unfold sw
  rw [List.all_eq_true]
  intro x hx
  obtain ⟨j, hj, rfl⟩ := List.mem_iff_getElem.1 hx
  exact h j hj
theorem tn_at {l : List (Int × Int)} {k : Nat} (hk : k < l.length) (h : l[k].2 < l[k].1) : tn l = true := by
  unfold tn
  rw [List.any_eq_true]
  exact ⟨_, List.getElem_mem hk, by simpa using h⟩
theorem tn_none {l : List (Int × Int)} (h : ∀ j (h : j < l.length), ¬ l[j].2 < l[j].1) : tn l = false := by
  unfold tn
  rw [Bool.eq_false_iff, Ne, List.any_eq_true]
  rintro ⟨x, hx, hy⟩
  obtain ⟨j, hj, rfl⟩ := List.mem_iff_getElem.1 hx
  exact h j hj (by simpa using hy)
set_option maxHeartbeats 1000000 in
theorem spansWithin_c (A : Option Addr) (l : List (Int × Int)) (c : Nat) (lo hi : Int) (w : World) (hl : l.length ≤ 1000) (hp : SpAt w A l) :
    Calls Try.prog 66 #[.int .i64 lo, .int .i64 hi, .slice A l.length c] w fun e w' => e = .returned (.bool (sw lo hi l)) ∧ Below w.heap.size w w' := by
  go_enter Try.func66, Try.ntmps66
  go_wp2
  go_loopw [8, 11] (fun _ i wr => ∃ k : Nat, k ≤ l.length ∧ i = .int .i64 k ∧ Since w wr ∧ Hid (∀ j (h : j < l.length), j < k → (wi lo hi l[j].1 && wi lo hi l[j].2) = true)) (fun _ i _ => l.length - (intOf i).toNat)
  case atStart => exact ⟨0, Nat.zero_le _, rfl, Since.refl _, fun j _ h => absurd h (by omega)⟩
  case round =>
    obtain ⟨k, hk, rfl, hsn, H0⟩ := hrel
    by_cases hlt : k < l.length
    · obtain ⟨ad, hA, c0, c1⟩ := hp.get hlt
      subst hA
      have c0' := keep_cell hsn.1 c0
      have c1' := keep_cell hsn.1 c1
      clear c0 c1
      have hsn2 := hsn.alloc (.cells #[.int .i64 l[k].1, .int .i64 l[k].2] 23)
      have hsn3 := hsn2.alloc (.cells #[.int .i64 l[k].1, .int .i64 l[k].2] 3)
      go_wp2_with fail
      refine (within2_c lo hi l[k].1 l[k].2 _ _ _ (Blk.new1 _ _ _ _)).mono ?_
      rintro e w' ⟨rfl, rfl⟩
      cases h1 : (wi lo hi l[k].1 && wi lo hi l[k].2)
      · have HV := Lib.hid (sw_at (lo := lo) (hi := hi) hlt h1)
        clear h1
        go_wp2_with fail
        go_ret
        exact ⟨ret_bool HV.out.symm, hsn3.1⟩
      · have HV := Lib.hid h1
        clear h1
        go_wp2_with fail
        go_roundw
        case rel =>
          refine ⟨k + 1, by omega, by go_num, hsn3, fun j h hj => ?_⟩
          rcases Nat.lt_or_ge j k with h1 | h1
          · exact H0.out j h h1
          · obtain rfl : j = k := by omega
            exact HV.out
        case measure => simp [intOf]; omega
    · have HV := Lib.hid (sw_all (lo := lo) (hi := hi) (l := l) fun j hj => H0.out j hj (by omega))
      go_wp2_with fail
      go_ret
      exact ⟨ret_bool HV.out.symm, hsn.1⟩
set_option maxHeartbeats 1000000 in
theorem turned_c (A : Option Addr) (l : List (Int × Int)) (c : Nat) (w : World) (hl : l.length ≤ 1000) (hp : SpAt w A l) :
    Calls Try.prog 67 #[.slice A l.length c] w fun e w' => e = .returned (.bool (tn l)) ∧ Below w.heap.size w w' := by
  go_enter Try.func67, Try.ntmps67
  go_wp2
  go_loopw [4, 7] (fun _ i wr => ∃ k : Nat, k ≤ l.length ∧ i = .int .i64 k ∧ Since w wr ∧ Hid (∀ j (h : j < l.length), j < k → ¬ l[j].2 < l[j].1)) (fun _ i _ => l.length - (intOf i).toNat)
  case atStart => exact ⟨0, Nat.zero_le _, rfl, Since.refl _, fun j _ h => absurd h (by omega)⟩
  case round =>
    obtain ⟨k, hk, rfl, hsn, H0⟩ := hrel
    by_cases hlt : k < l.length
    · obtain ⟨ad, hA, c0, c1⟩ := hp.get hlt
      subst hA
      have c0' := keep_cell hsn.1 c0
      have c1' := keep_cell hsn.1 c1
      clear c0 c1
      have hsn2 := hsn.alloc (.cells #[.int .i64 l[k].1, .int .i64 l[k].2] 23)
      by_cases h1 : l[k].2 < l[k].1
      · have HV := Lib.hid (tn_at hlt h1)
        go_wp2_with fail
        go_ret
        exact ⟨ret_bool HV.out.symm, hsn2.1⟩
      · have HV := Lib.hid h1
        go_wp2_with fail
        go_roundw
        case rel =>
          refine ⟨k + 1, by omega, by go_num, hsn2, fun j h hj => ?_⟩
          rcases Nat.lt_or_ge j k with h1 | h1
          · exact H0.out j h h1
          · obtain rfl : j = k := by omega
            exact HV.out
        case measure => simp [intOf]; omega
    · have HV := Lib.hid (tn_none (l := l) fun j hj => H0.out j hj (by omega))
      go_wp2_with fail
      go_ret
      exact ⟨ret_bool HV.out.symm, hsn.1⟩
end Td
end Go.Proofs.Ytmofbnadfgejiaa
/- A range over a function whose iterator keeps state of its own in cells that it has laid since it was called: the caller's word has to abide a turn of any block that was laid since the loop began (not of a walk's object alone). -/
namespace Go.Proofs.Ytmofbnadfgejiaa
open Go.RowKit
namespace Td
set_option linter.unusedSimpArgs false
set_option linter.unusedVariables false
/-- what abides a turn of whatever block lies at B or beyond. -/
def AllFrom {β : Type} (B : Nat) (I : β → World → Prop) : Prop := ∀ s W W' row, I s W → W.grownBy W' row → (∀ r, row = some r → B ≤ r) → I s W'
theorem AllFrom.and {β : Type} {B : Nat} {I I' : β → World → Prop} (h : AllFrom B I) (h' : AllFrom B I') : AllFrom B (fun s W => I s W ∧ I' s W) :=
  fun s W W' row hs hg hr => ⟨h s W W' row hs.1 hg hr, h' s W W' row hs.2 hg hr⟩
theorem AllFrom.pure {β : Type} (B : Nat) (p : β → Prop) : AllFrom B (fun s (_ : World) => p s) := fun _ _ _ _ hs _ _ => hs
theorem AllFrom.below {β : Type} {n₀ B : Nat} {w₀ : World} (hn : n₀ ≤ w₀.heap.size) (hB : n₀ ≤ B) : AllFrom B (fun (_ : β) W => Below n₀ w₀ W) :=
  fun _ _ _ _ hs hg hr => hs.grown hg (Nat.le_trans hn hs.size) (fun k e => Nat.le_trans hB (hr k e))
theorem Blk.grown {w w' : World} {g : Nat} {t : TypeId} {cs : Array Value} {row : Option Nat} (h : Blk w g t cs) (hg : w.grownBy w' row) (hne : some g ≠ row) : Blk w' g t cs := (hg.block g h.lt hne).trans h
theorem AllFrom.blk {β : Type} {B g : Nat} (hgB : g < B) (t : TypeId) (f : β → Array Value) : AllFrom B (fun s W => Blk W g t (f s)) :=
  fun s W W' row hs hg hr => hs.grown hg (fun e => by have := hr g e.symm; omega)
theorem AllFrom.putObj {β : Type} {B : Nat} {I : β → World → Prop} (h : AllFrom B I) {s : β} {W : World} {l : Nat} (o' : Obj) (hs : I s W) (hB : B ≤ l) : I s (W.putObj l o') :=
  h s W _ (some l) hs (grownBy_putObj' W l o') (fun r e => by cases e; exact hB)
theorem AllFrom.alloc {β : Type} {B : Nat} {I : β → World → Prop} (h : AllFrom B I) {s : β} {W : World} (o : Obj) (hs : I s W) : I s (W.alloc o) :=
  h s W _ none hs (World.grownBy_alloc W o none) (fun r e => by cases e)
theorem AllFrom.setCell {β : Type} {B : Nat} {I : β → World → Prop} (h : AllFrom B I) {s : β} {W : World} (g i : Nat) (v : Value) (hs : I s W) (hB : B ≤ g) : I s (W.setCell ⟨g, i, none⟩ v) :=
  h s W _ (some g) hs ⟨rfl, rfl, rfl, by simp, fun k hk hne => heap_setCell_other W ⟨g, i, none⟩ k v (fun e => hne (by rw [e]))⟩ (fun r e => by cases e; exact hB)
theorem keepsFrom_of_below {B : Nat} {W W' : World} (h : Below W.heap.size W W') : KeepsFrom B W W' := ⟨h.size, fun k o _ hk _ => (h.block k (Array.getElem?_eq_some_iff.1 hk).1).trans hk⟩

/-- an iterator's contract: as 'SeqStopsK', but the caller's word abides the iterator's own stores. -/
def SeqC {α : Type} (F : Fence) (n : Nat) (P : Program) (g : Nat) (lb : Array Value) (encs : α → Array Value) (Kp : World → World → Prop) (S Sp : List α → Prop) (R : List α → α → Prop) (w : World) : Prop :=
  ∀ (l : Nat) (J Jx : List α → World → Prop) (W : World), Below w.heap.size w W → AllFrom W.heap.size J → AllFrom W.heap.size Jx →
    (∀ pre x W1, J pre W1 → R pre x → YieldAt F (n - 1) P l (encs x) W1 fun e W' =>
      (e = .returned (.bool true) ∧ J (pre ++ [x]) W' ∧ Kp W1 W') ∨ (e = .returned (.bool false) ∧ Jx (pre ++ [x]) W')) →
    J [] W →
    CallsIn F n P g (#[.func (.yield l) #[] #[]] ++ lb) W fun e W' => (∃ v, e = .returned v) ∧ ((∃ xs, S xs ∧ J xs W') ∨ (∃ pre, Sp pre ∧ Jx pre W'))

variable {F : Fence} {n : Nat} {P : Program} {w : World}
theorem rangeFunc_c {α : Type} {g : Operand} {ps : Array Tmp} {assign body : Code} {Q : Exit → Act → World → Prop} {a : Act}
    (hro : F.round = none) (h1 : 1 ≤ n) {gf : Nat} {lb : Array Value} (hg : a.eval g = .func (.func gf) #[] lb) (hFg : F.fn gf) (eg : ∀ args w, (callFunc gf args).run P w = .ok (.enter gf args) w)
    {encs : α → Array Value} {Kp : World → World → Prop} {S Sp : List α → Prop} {R : List α → α → Prop} {w0 : World} (hseq : SeqC F (n - 1) P gf lb encs Kp S Sp R w0)
    (hKt : ∀ {A B C : World}, Kp A B → Kp B C → Kp A C) (hKb : ∀ (W : World) (l : Nat) (o o' : Obj), w.heap.size ≤ l → W.heap[l]? = some o → o.isCells = false → o.isWalk = false → Kp W (W.putObj l o')) (hb0 : Below w0.heap.size w0 w) (hps : ∀ x, (encs x).size = ps.size)
    (I : List α → World → Prop) (Ix : Code → List α → World → Prop) (hI : AllFrom w.heap.size I) (hIx : ∀ c, AllFrom w.heap.size (Ix c)) (h0 : I [] w) (Ax : α → Act → World → Prop) (hAx : ∀ x a', OwnFrom w.heap.size (fun (_ : Unit) W => Ax x a' W))
    (hassign : ∀ (l : Nat) (pre : List α) (x : α) (W : World) (K : Act → World → Prop), I pre W → (∀ a' W', KeepsFrom w.heap.size W W' → Kp W W' → I pre W' → Ax x a' W' → K a' W') →
      assign.wpIn (F.inRound l) (n - 1 - 1) P (Exit.then K (fun _ _ _ => False)) { tmps := (ps.zip (encs x)).foldl (fun t (p, v) => t.setIfInBounds p v) a.tmps, defers := [] } W)
    (hbody : ∀ (l : Nat) (pre : List α) (x : α) (a' : Act) (W : World), w.heap.size ≤ l → (∃ r, W.heap[l]? = some (.loop r)) → I pre W → Ax x a' W → R pre x → body.wpIn (F.inRound l) (n - 1 - 1) P (ownPostG w.heap.size Kp I Ix (pre ++ [x]) W) a' W)
    (hdone : ∀ (D : Nat) (xs : List α) (W : World), w.heap.size ≤ D → S xs → I xs W → W.heap[D]? = some (.deferred (some [])) → Q .normal { a with defers := { target := .collected D, args := #[] } :: a.defers } W)
    (hstop : ∀ (D : Nat) (c : Code) (pre : List α) (W : World), w.heap.size ≤ D → Sp pre → Ix c pre W → W.heap[D]? = some (.deferred (some [])) → c.wpIn F n P Q { a with defers := { target := .collected D, args := #[] } :: a.defers } W) :
    (Code.rangeFunc g ps assign body).wpIn F n P Q a w := by
  refine wpIn_rangeFunc fun fn hfn => ?_
  rw [hro]
  -- the loop's record, by its state and what is pending; its two blocks
  obtain ⟨rc, hrc⟩ : ∃ rc : LoopState → Option Code → Loop, rc = fun st pe => { state := st, pending := pe, fn, tmps := a.tmps, params := ps, assign, body, defers := w.heap.size } := ⟨_, rfl⟩
  obtain ⟨W1, hW1⟩ : ∃ W1, (w.alloc (.deferred (some []))).alloc (.loop (rc .ready none)) = W1 := ⟨_, rfl⟩
  have hz1 : W1.heap.size = w.heap.size + 1 + 1 := by rw [← hW1]; simp
  have hL1 : W1.heap[w.heap.size + 1]? = some (.loop (rc .ready none)) := by
    rw [← hW1]
    have := World.alloc_heap_new (w.alloc (.deferred (some []))) (.loop (rc .ready none))
    rwa [World.size_alloc] at this
  have hK1 : W1.heap[w.heap.size]? = some (.deferred (some [])) := by
    rw [← hW1]
    exact (Below.heap_alloc _ _ _ (by simp)).trans (World.alloc_heap_new w _)
  have hI1 : I [] W1 := by rw [← hW1]; exact hI.alloc _ (hI.alloc _ h0)
  have hb1 : Below w0.heap.size w0 W1 := by
    rw [← hW1]
    exact hb0.trans ((((Below.refl _ w).alloc (Nat.le_refl _) _).alloc (by simp) _).mono hb0.size)
  refine ⟨w.heap.size + 1, [{ target := .collected w.heap.size, args := #[] }], W1, { target := .fn (.func gf) lb, args := #[.func (.yield (w.heap.size + 1)) #[] #[]] }, W1, gf,
    #[.func (.yield (w.heap.size + 1)) #[] #[]] ++ lb, W1, ?_, ?_, ?_, ?_, fun _ => h1, ?_⟩
  · rw [← hW1, hrc]; exact run_enterLoop_outer _ _ _ _ _
  · simp only [resolve, hg]
    simp [go_sem]
  · intro f' hf'
    simp [Target.leads] at hf'
    subst hf'
    exact hFg
  · simp [invoke, go_sem, eg]
  have hfar : ∀ {X Y : World} {row : Option Nat} {k : Nat} {o : Obj}, X.grownBy Y row → (∀ r, row = some r → W1.heap.size ≤ r) → k < W1.heap.size → X.heap[k]? = some o → Y.heap[k]? = some o := fun hg' hr hk ho =>
    (hg'.block _ (Array.getElem?_eq_some_iff.1 ho).1 (fun e => by have := hr _ e.symm; omega)).trans ho
  refine (hseq (w.heap.size + 1)
    (fun pre W => I pre W ∧ W.heap[w.heap.size + 1]? = some (.loop (rc .ready none)) ∧ W.heap[w.heap.size]? = some (.deferred (some [])))
    (fun pre W => ∃ c, Ix c pre W ∧ W.heap[w.heap.size + 1]? = some (.loop (rc .done (some c))) ∧ W.heap[w.heap.size]? = some (.deferred (some [])))
    W1 hb1
    (fun s X Y row hs hg' hr => ⟨hI s X Y row hs.1 hg' (fun r e => by have := hr r e; omega), hfar hg' hr (by omega) hs.2.1, hfar hg' hr (by omega) hs.2.2⟩)
    (fun s X Y row hs hg' hr => by
      obtain ⟨c, hc, hl, hk⟩ := hs
      exact ⟨c, hIx c s X Y row hc hg' (fun r e => by have := hr r e; omega), hfar hg' hr (by omega) hl, hfar hg' hr (by omega) hk⟩)
    ?_ ⟨hI1, hL1, hK1⟩).mono ?_
  · rintro pre x W ⟨hi, hl, hk⟩ hlen
    have hlt : w.heap.size + 1 < W.heap.size := (Array.getElem?_eq_some_iff.1 hl).1
    have hy := run_yield (P := P) (args := encs x) hl (by rw [hrc]; exact hps x)
    rw [hrc] at hy
    refine ⟨fn, _, assign, body, hy, roundIn_of_wpIn hfn (hassign _ pre x W _ hi ?_)⟩
    clear hy
    intro a' V hkfa hkpa hia hax
    have hlV := hkfa.same _ _ (by omega) hl rfl
    have hkV := hkfa.same _ _ (Nat.le_refl _) hk rfl
    have hltV : w.heap.size + 1 < V.heap.size := (Array.getElem?_eq_some_iff.1 hlV).1
    refine ⟨_, run_beginRound hlV (by rw [hrc]), ?_⟩
    have hl2 : (V.putObj (w.heap.size + 1) (.loop { rc .ready none with state := .busy })).heap[w.heap.size + 1]? = some (.loop { rc .ready none with state := .busy }) := World.putObj_heap_same hltV
    have hk2 : (V.putObj (w.heap.size + 1) (.loop { rc .ready none with state := .busy })).heap[w.heap.size]? = some (.deferred (some [])) := (World.putObj_heap_other (by omega)).trans hkV
    have hw2 : Kp V (V.putObj (w.heap.size + 1) (.loop { rc .ready none with state := .busy })) := hKb _ _ _ _ (by omega) hlV rfl rfl
    refine wpIn_mono (hbody _ pre x a' _ (by omega) ⟨_, hl2⟩ (hI.putObj _ hia (by omega)) ((hAx x a').putObj (s := ()) _ hax (by omega) hlV rfl) hlen) ?_
    -- how a round ends: the record is ready again, or it is done and a jump is pending
    have fin : ∀ (jump : Option Code) (Z : World), KeepsFrom w.heap.size (V.putObj (w.heap.size + 1) (.loop { rc .ready none with state := .busy })) Z →
        (Instr.endRound (w.heap.size + 1) jump).run P Z = .ok (.bool jump.isNone) (Z.putObj (w.heap.size + 1) (.loop (rc (if jump.isNone then .ready else .done) jump))) ∧
        Z.heap[w.heap.size + 1]? = some (.loop { rc .ready none with state := .busy }) ∧
        (Z.putObj (w.heap.size + 1) (.loop (rc (if jump.isNone then .ready else .done) jump))).heap[w.heap.size + 1]? = some (.loop (rc (if jump.isNone then .ready else .done) jump)) ∧
        (Z.putObj (w.heap.size + 1) (.loop (rc (if jump.isNone then .ready else .done) jump))).heap[w.heap.size]? = some (.deferred (some [])) := fun jump Z hkz => by
      have hlz := hkz.same _ _ (by omega) hl2 rfl
      have he := run_endRound (P := P) jump hlz
      rw [hrc] at he ⊢
      exact ⟨he, by rw [hrc] at hlz; exact hlz, World.putObj_heap_same (Array.getElem?_eq_some_iff.1 hlz).1, (World.putObj_heap_other (by omega)).trans (hkz.same _ _ (Nat.le_refl _) hk2 rfl)⟩
    rintro e a3 Z hp
    have leave : ∀ c : Code, KeepsFrom w.heap.size (V.putObj (w.heap.size + 1) (.loop { rc .ready none with state := .busy })) Z → Ix c (pre ++ [x]) Z →
        ∃ v W', (Instr.endRound (w.heap.size + 1) (some c)).run P Z = .ok v W' ∧ v = .bool false ∧ ∃ c', Ix c' (pre ++ [x]) W' ∧ W'.heap[w.heap.size + 1]? = some (.loop (rc .done (some c'))) ∧ W'.heap[w.heap.size]? = some (.deferred (some [])) := fun c hkz hiz => by
      obtain ⟨hr, hlz, hl4, hk4⟩ := fin (some c) Z hkz
      exact ⟨_, _, hr, rfl, c, (hIx c).putObj _ hiz (by omega), hl4, hk4⟩
    cases e with
    | normal =>
      obtain ⟨hkz, hkp, hiz⟩ := hp
      obtain ⟨hr, hlz, hl4, hk4⟩ := fin none Z hkz
      exact ⟨_, _, hr, .inl ⟨rfl, ⟨hI.putObj _ hiz (by omega), hl4, hk4⟩, hKt hkpa (hKt (hKt hw2 hkp) (hKb _ _ _ _ (by omega) hlz rfl rfl))⟩⟩
    | ret => obtain ⟨v, W', h1, h2, h3⟩ := leave _ hp.1 hp.2; exact ⟨v, W', h1, .inr ⟨by rw [h2], h3⟩⟩
    | exit id => obtain ⟨v, W', h1, h2, h3⟩ := leave _ hp.1 hp.2; exact ⟨v, W', h1, .inr ⟨by rw [h2], h3⟩⟩
    | goto t => obtain ⟨v, W', h1, h2, h3⟩ := leave _ hp.1 hp.2; exact ⟨v, W', h1, .inr ⟨by rw [h2], h3⟩⟩
    | panic ch => exact hp.elim
    | outgrown => exact hp.elim
  · rintro e W2 ⟨⟨v, rfl⟩, (⟨xs, hS, hi, hl, hk⟩ | ⟨pre, hSp, c, hi, hl, hk⟩)⟩
    · have he := run_endLoop (P := P) hl (by rw [hrc]; simp)
      rw [hrc] at he
      exact ⟨none, _, he, hdone _ xs _ (Nat.le_refl _) hS (hI.putObj _ hi (by omega)) ((World.putObj_heap_other (by omega)).trans hk)⟩
    · have he := run_endLoop (P := P) hl (by rw [hrc]; simp)
      rw [hrc] at he
      exact ⟨some c, _, he, hstop _ c pre _ (Nat.le_refl _) hSp ((hIx c).putObj _ hi (by omega)) ((World.putObj_heap_other (by omega)).trans hk)⟩
end Td
end Go.Proofs.Ytmofbnadfgejiaa
namespace Go.Proofs.Ytmofbnadfgejiaa
open Go.RowKit
namespace Td
set_option linter.unusedSimpArgs false
set_option linter.unusedVariables false
set_option maxHeartbeats 400000 in
theorem letter_c (a : Int) (w : World) :
    Calls Try.prog 87 #[.int .u8 a] w fun e w' => e = .returned (.bool (letterI a)) ∧ w = w' := by
  by_cases hc : 97 ≤ a
  · go_enter Try.func87, Try.ntmps87
    go_wp2
    go_ret
    exact ⟨ret_bool (by simp [letterI, hc]), rfl⟩
  · go_enter Try.func87, Try.ntmps87
    go_wp2
    go_ret
    exact ⟨ret_bool (by simp [letterI]; omega), rfl⟩
set_option maxHeartbeats 400000 in
theorem digit_c (a : Int) (w : World) :
    Calls Try.prog 88 #[.int .u8 a] w fun e w' => e = .returned (.bool (digitI a)) ∧ w = w' := by
  by_cases hc : 48 ≤ a
  · go_enter Try.func88, Try.ntmps88
    go_wp2
    go_ret
    exact ⟨ret_bool (by simp [digitI, hc]), rfl⟩
  · go_enter Try.func88, Try.ntmps88
    go_wp2
    go_ret
    exact ⟨ret_bool (by simp [digitI]; omega), rfl⟩
theorem isName_size0 {s : ByteArray} (h : s.size = 0) : isName s = false := by
  unfold isName
  have : s.data.toList = [] := by
    apply List.eq_nil_of_length_eq_zero; simpa using h
  rw [this]
theorem byte_at {s : ByteArray} {k : Nat} (h : k < s.size) : s[k] = s.data.toList[k]'(by simpa using h) := by
  simp only [Array.getElem_toList]; rfl
theorem get0 (l : List UInt8) (h : 0 < l.length) : l[0] = l.headD 0 := by
  cases l with
  | nil => simp at h
  | cons b r => rfl
theorem isName_eq {s : ByteArray} (h : 0 < s.size) : isName s = (decide (s.size ≤ 16) && letterI (s[0].toNat) && s.data.toList.all nameB) := by
  have hl : s.size = s.data.toList.length := by simp
  rw [byte_at h, hl]
  unfold isName
  have h' : 0 < s.data.toList.length := by rw [← hl]; exact h
  rw [get0 _ h']
  generalize s.data.toList = l at *
  cases l with
  | nil => simp at h'
  | cons b r => rfl
theorem all_at {s : ByteArray} (h : ∀ j (h : j < s.size), nameB s[j] = true) : s.data.toList.all nameB = true := by
  rw [List.all_eq_true]
  intro x hx
  obtain ⟨j, hj, rfl⟩ := List.mem_iff_getElem.1 hx
  have hj' : j < s.size := by simpa using hj
  rw [← byte_at hj']
  exact h j hj'
theorem all_not {s : ByteArray} {k : Nat} (hk : k < s.size) (h : nameB s[k] = false) : s.data.toList.all nameB = false := by
  rw [Bool.eq_false_iff]
  intro ha
  rw [List.all_eq_true] at ha
  have := ha (s[k]) (by rw [byte_at hk]; exact List.getElem_mem _)
  rw [h] at this
  cases this
set_option maxHeartbeats 1000000 in
theorem name_c (s : ByteArray) (w : World) (hs : s.size ≤ maxLen) :
    Calls Try.prog 72 #[.string s] w fun e w' => e = .returned (.bool (isName s)) ∧ w = w' := by
  unfold maxLen at hs
  by_cases h0 : s.size = 0
  · have HV := Lib.hid (isName_size0 h0)
    have hz : ((s.size : Int) == 0) = true := by simp [h0]
    clear h0
    go_enter Try.func72, Try.ntmps72
    go_wp2
    go_ret
    exact ⟨ret_bool HV.out.symm, rfl⟩
  · have hpos : 0 < s.size := by omega
    have hz : ((s.size : Int) == 0) = false := beq_eq_false_iff_ne.2 (by omega)
    have HE := Lib.hid (isName_eq hpos)
    clear h0
    by_cases h16 : s.size ≤ 16
    · have h16' : decide ((16 : Int) < (s.size : Int)) = false := decide_eq_false (by omega)
      have H16 := Lib.hid (decide_eq_true h16)
      by_cases hl : letterI s[0].toNat = true
      · have HL := Lib.hid hl
        clear hl
        go_enter Try.func72, Try.ntmps72
        go_wp2_with (go_at_call 87; refine (letter_c _ _).mono ?_; rintro e w' ⟨rfl, rfl⟩; rw [HL.out])
        go_loop [3, 20] (fun _ i => ∃ k : Nat, k ≤ s.size ∧ i = .int .i64 k ∧ Hid (∀ j (h : j < s.size), j < k → nameB s[j] = true)) (fun _ i => s.size - (intOf i).toNat)
        case atStart => exact ⟨0, Nat.zero_le _, rfl, fun j _ h => absurd h (by omega)⟩
        case round =>
          obtain ⟨k, hk, rfl, H0⟩ := hrel
          by_cases hlt : k < s.size
          · by_cases hb : nameB s[k] = true
            · have HB := Lib.hid hb
              by_cases h1 : letterI s[k].toNat = true
              · have H1 := Lib.hid h1
                clear hb h1
                go_wp2_with (go_at_call 87; refine (letter_c _ _).mono ?_; rintro e w' ⟨rfl, rfl⟩; rw [H1.out])
                go_round
                case rel =>
                  refine ⟨k + 1, by omega, by go_num, fun j h hj => ?_⟩
                  rcases Nat.lt_or_ge j k with h1 | h1
                  · exact H0.out j h h1
                  · obtain rfl : j = k := by omega
                    exact HB.out
                case measure => simp [intOf]; omega
              · have H1 := Lib.hid (Bool.eq_false_iff.2 h1)
                have H2 : Hid (digitI s[k].toNat = true) := by
                  have : (letterI s[k].toNat || digitI s[k].toNat) = true := hb
                  rw [H1.out, Bool.false_or] at this
                  exact this
                clear hb h1
                go_wp2_with (first | (go_at_call 87; refine (letter_c _ _).mono ?_; rintro e w' ⟨rfl, rfl⟩; rw [H1.out]) | (go_at_call 88; refine (digit_c _ _).mono ?_; rintro e w' ⟨rfl, rfl⟩; rw [H2.out]))
                go_round
                case rel =>
                  refine ⟨k + 1, by omega, by go_num, fun j h hj => ?_⟩
                  rcases Nat.lt_or_ge j k with h1 | h1
                  · exact H0.out j h h1
                  · obtain rfl : j = k := by omega
                    exact HB.out
                case measure => simp [intOf]; omega
            · have hb' := Bool.eq_false_iff.2 hb
              have HV : Hid (isName s = false) := by
                show isName s = false
                rw [HE.out, all_not hlt hb', Bool.and_false]
              have hor : (letterI s[k].toNat || digitI s[k].toNat) = false := hb'
              rw [Bool.or_eq_false_iff] at hor
              have H1 := Lib.hid hor.1
              have H2 := Lib.hid hor.2
              clear hb hb' hor
              go_wp2_with (first | (go_at_call 87; refine (letter_c _ _).mono ?_; rintro e w' ⟨rfl, rfl⟩; rw [H1.out]) | (go_at_call 88; refine (digit_c _ _).mono ?_; rintro e w' ⟨rfl, rfl⟩; rw [H2.out]))
              go_ret
              exact ⟨ret_bool HV.out.symm, rfl⟩
          · have HV : Hid (isName s = true) := by
              show isName s = true
              rw [HE.out, HL.out, H16.out, all_at (fun j h => H0.out j h (by omega))]
              rfl
            go_wp2
            go_ret
            exact ⟨ret_bool HV.out.symm, rfl⟩
      · have HL := Lib.hid (Bool.eq_false_iff.2 hl)
        have HV : Hid (isName s = false) := by
          show isName s = false
          rw [HE.out, HL.out, Bool.and_false, Bool.false_and]
        clear hl
        go_enter Try.func72, Try.ntmps72
        go_wp2_with (go_at_call 87; refine (letter_c _ _).mono ?_; rintro e w' ⟨rfl, rfl⟩; rw [HL.out])
        go_ret
        exact ⟨ret_bool HV.out.symm, rfl⟩
    · have h16' : decide ((16 : Int) < (s.size : Int)) = true := decide_eq_true (by omega)
      have HV : Hid (isName s = false) := by
        show isName s = false
        rw [HE.out, decide_eq_false h16, Bool.false_and, Bool.false_and]
      go_enter Try.func72, Try.ntmps72
      go_wp2
      go_ret
      exact ⟨ret_bool HV.out.symm, rfl⟩
end Td
end Go.Proofs.Ytmofbnadfgejiaa
/- Levels: held, between, after, common; where a space starts. -/
namespace Go.Proofs.Ytmofbnadfgejiaa
open Go.RowKit
namespace Td
set_option linter.unusedSimpArgs false
set_option linter.unusedVariables false
/-- the cells of some levels. -/
def lV (o : Option (Int × Int)) : Array Value := match o with
  | some x => #[.int .i64 x.1, .int .i64 x.2, .bool true]
  | none => #[.int .i64 0, .int .i64 0, .bool false]
theorem lV_size (o : Option (Int × Int)) : (lV o).size = 3 := by cases o <;> rfl
theorem held_c (n : Int) (w : World) : Calls Try.prog 84 #[.int .i64 n] w fun e w' => e = .returned (.int .i64 (hld n)) ∧ w = w' := by
  rcases (by omega : (n < 0 ∧ min n 200 = n ∧ max 0 n = 0) ∨ (¬ n < 0 ∧ n < 200 ∧ min n 200 = n ∧ max 0 n = n) ∨ (n = 200 ∧ min n 200 = 200 ∧ max 0 (200 : Int) = 200) ∨ (200 < n ∧ ¬ n < 200 ∧ min n 200 = 200 ∧ max 0 (200 : Int) = 200)) with ⟨h1, h2, h3⟩ | ⟨h0, h1, h2, h3⟩ | ⟨rfl, h2, h3⟩ | ⟨h1, h0, h2, h3⟩
  · have HV : Hid (0 = hld n) := by show _ = _; unfold hld; rw [h2, h3]
    clear h2 h3
    have h4 : n < 200 := by omega
    go_enter Try.func84, Try.ntmps84
    go_wp2
    go_ret
    exact ⟨ret_int HV.out, rfl⟩
  · have HV : Hid (n = hld n) := by show _ = _; unfold hld; rw [h2, h3]
    clear h2 h3
    by_cases h5 : 0 < n
    · go_enter Try.func84, Try.ntmps84
      go_wp2
      go_ret
      exact ⟨ret_int HV.out, rfl⟩
    · obtain rfl : n = 0 := by omega
      go_enter Try.func84, Try.ntmps84
      go_wp2
      go_ret
      exact ⟨ret_int HV.out, rfl⟩
  · go_enter Try.func84, Try.ntmps84
    go_wp2
    go_ret
    exact ⟨rfl, rfl⟩
  · have HV : Hid (200 = hld n) := by show _ = _; unfold hld; rw [h2, h3]
    clear h2 h3
    go_enter Try.func84, Try.ntmps84
    go_wp2
    go_ret
    exact ⟨ret_int HV.out, rfl⟩
theorem between_c (lo hi : Int) (w : World) : Calls Try.prog 85 #[.int .i64 lo, .int .i64 hi] w fun e w' => e = .returned (.agg (lV (btw lo hi))) ∧ Below w.heap.size w w' := by
  have HB := Lib.hid (Blk.new w 95 #[.int .i64 0, .int .i64 0, .bool false])
  by_cases h : hi < lo
  · have HV : Hid (lV (btw lo hi) = #[.int .i64 0, .int .i64 0, .bool false]) := by show _ = _; simp [btw, h, lV]
    go_enter Try.func85, Try.ntmps85
    go_wp2_with (refine wpList_store_row rfl 95 _ _ rfl (w.heap.size) _ rfl rfl 95 _ HB.out (by kernel_rfl) rfl (by simp [Value.oneCell']) ?_)
    rw [HV.out]
    (refine bodyPost_ret (v := .agg _) ?_ rfl ⟨rfl, ?_⟩; exact (results_cell_row Try.results85 _ _ (w.heap.size) 95 _ (0, 0) _ rfl (HB.out.row _) Try.underlying95 rfl (by kernel_rfl)))
    exact below_setRow ((Below.refl _ _).alloc (Nat.le_refl _) _) (by omega) _
  · have HV : Hid (lV (btw lo hi) = #[.int .i64 lo, .int .i64 hi, .bool true]) := by show _ = _; simp [btw, h, lV]
    go_enter Try.func85, Try.ntmps85
    go_wp2_with (refine wpList_store_row rfl 95 _ _ rfl (w.heap.size) _ rfl rfl 95 _ HB.out (by kernel_rfl) rfl (by simp [Value.oneCell']) ?_)
    rw [HV.out]
    (refine bodyPost_ret (v := .agg _) ?_ rfl ⟨rfl, ?_⟩; exact (results_cell_row Try.results85 _ _ (w.heap.size) 95 _ (0, 0) _ rfl (HB.out.row _) Try.underlying95 rfl (by kernel_rfl)))
    exact below_setRow ((Below.refl _ _).alloc (Nat.le_refl _) _) (by omega) _
end Td
end Go.Proofs.Ytmofbnadfgejiaa
/- Levels: after, common. -/
namespace Go.Proofs.Ytmofbnadfgejiaa
open Go.RowKit
namespace Td
set_option linter.unusedSimpArgs false
set_option linter.unusedVariables false
attribute [local go_sem] Oper.semAt_some
theorem eqSome (a b : Int) (w : World) : (Op.equalIn 10000 95 (.agg #[.int .i64 a, .int .i64 b, .bool true]) (.agg #[.int .i64 0, .int .i64 0, .bool false])).run Try.prog w = .ok false w := by
  by_cases h0 : a = 0
  · by_cases h1 : b = 0
    · subst h0; subst h1; go_simp
    · have h1' : (b == 0) = false := beq_eq_false_iff_ne.2 h1
      subst h0; go_simp
  · have h0' : (a == 0) = false := beq_eq_false_iff_ne.2 h0
    go_simp
theorem eqNone (w : World) : (Op.equalIn 10000 95 (.agg #[.int .i64 0, .int .i64 0, .bool false]) (.agg #[.int .i64 0, .int .i64 0, .bool false])).run Try.prog w = .ok true w := by go_simp
theorem lV_ex (o : Option (Int × Int)) : ∃ p q r, lV o = #[.int .i64 p, .int .i64 q, .bool r] := by cases o <;> exact ⟨_, _, _, rfl⟩
set_option maxRecDepth 100000 in
set_option maxHeartbeats 2000000 in
theorem after_c (x c : Int × Int) (w : World) (h0 : 0 ≤ x.1) (h1 : x.1 ≤ 200) (h2 : 0 ≤ x.2) (h3 : x.2 ≤ 200) (k0 : -20 ≤ c.1) (k1 : c.1 ≤ 20) (k2 : -20 ≤ c.2) (k3 : c.2 ≤ 20) :
    Calls Try.prog 95 #[.agg #[.int .i64 x.1, .int .i64 x.2, .bool true], .agg #[.int .i64 c.1, .int .i64 c.2]] w fun e w' => e = .returned (.agg (lV (aft x c))) ∧ Below w.heap.size w w' := by
  have hs0 := (((Since.refl w).alloc (.cells #[.int .i64 x.1, .int .i64 x.2, .bool true] 95)).alloc (.cells #[.int .i64 c.1, .int .i64 c.2] 23)).alloc (.cells #[.int .i64 0, .int .i64 0, .bool false] 95)
  have hL := Lib.hid (((Blk.new w 95 #[.int .i64 x.1, .int .i64 x.2, .bool true]).alloc (.cells #[.int .i64 c.1, .int .i64 c.2] 23)).alloc (.cells #[.int .i64 0, .int .i64 0, .bool false] 95))
  have hC := Lib.hid ((Blk.new1 w (.cells #[.int .i64 x.1, .int .i64 x.2, .bool true] 95) 23 #[.int .i64 c.1, .int .i64 c.2]).alloc (.cells #[.int .i64 0, .int .i64 0, .bool false] 95))
  have hR := Lib.hid (Blk.new2 w (.cells #[.int .i64 x.1, .int .i64 x.2, .bool true] 95) (.cells #[.int .i64 c.1, .int .i64 c.2] 23) 95 #[.int .i64 0, .int .i64 0, .bool false])
  obtain ⟨p, q, r, hv⟩ := lV_ex (aft x c)
  rw [hv]
  go_enter Try.func95, Try.ntmps95
  go_upto_region 1 with fail
  refine Vals6.regionAll (fun X => Blk X w.heap.size 95 #[.int .i64 x.1, .int .i64 x.2, .bool true] ∧ Blk X (w.heap.size + 1) 23 #[.int .i64 c.1, .int .i64 c.2] ∧ Blk X (w.heap.size + 1 + 1) 95 #[.int .i64 0, .int .i64 0, .bool false] ∧ Since w X) [some 5, some 6, some 7, some 8, some 9, some 10, some 11, some 12, some 13, some 14, some 15, some 16, some 17, some 18, some 19] [.is (.pointer (some ⟨w.heap.size, 0, none⟩)), .is (.pointer (some ⟨w.heap.size, 0, none⟩)), .is (.int .i64 x.1), .is (.pointer (some ⟨w.heap.size + 1, 0, none⟩)), .is (.int .i64 c.1), .is (.int .i64 (x.1 + c.1)), .is (.int .i64 (hld (x.1 + c.1))), .is (.pointer (some ⟨w.heap.size, 0, none⟩)), .is (.pointer (some ⟨w.heap.size, 1, none⟩)), .is (.int .i64 x.2), .is (.pointer (some ⟨w.heap.size + 1, 1, none⟩)), .is (.int .i64 c.2), .is (.int .i64 (x.2 + c.2)), .is (.int .i64 (hld (x.2 + c.2))), .is (.agg #[.int .i64 p, .int .i64 q, .bool r])] (by kernel_rfl) rfl rfl (by kernel_rfl) (by kernel_rfl) (by kernel_rfl) (by kernel_rfl) (by kernel_rfl) (by kernel_rfl) (by kernel_rfl) (⟨hL.out.drew, hC.out.drew, hR.out.drew, hs0.drew⟩) ?_ ?_
  · refine Vals5.Steps.run (by kernel_rfl) (Vals5.Stable.is _) ?_ ?_
    · intro a W hS pre old K hK
      have e2 : a.tmps.getD 2 undef = .pointer (some ⟨w.heap.size, 0, none⟩) := old 2 _ (by kernel_rfl) rfl
      clear pre old
      simp only [Array.getD_eq_getD_getElem?] at e2
      go_simp
      exact hK _ _ hS (Below.refl _ _) rfl
    refine Vals5.Steps.run (by kernel_rfl) (Vals5.Stable.is _) ?_ ?_
    · intro a W hS pre old K hK
      have e5 : a.tmps.getD 5 undef = .pointer (some ⟨w.heap.size, 0, none⟩) := pre 0 5 _ (by kernel_rfl) rfl rfl
      clear pre old
      simp only [Array.getD_eq_getD_getElem?] at e5
      go_simp
      exact hK _ _ hS (Below.refl _ _) rfl
    refine Vals5.Steps.run (by kernel_rfl) (Vals5.Stable.is _) ?_ ?_
    · intro a W hS pre old K hK
      have e6 : a.tmps.getD 6 undef = .pointer (some ⟨w.heap.size, 0, none⟩) := pre 1 6 _ (by kernel_rfl) rfl rfl
      clear pre old
      simp only [Array.getD_eq_getD_getElem?] at e6
      have hS9 := hS
      obtain ⟨l1, l2, _, _⟩ := hS9
      have c0 := l1.cell 0
      have c1 := l1.cell 1
      have d0 := l2.cell 0
      have d1 := l2.cell 1
      simp only [List.getElem?_toArray, List.getElem?_cons_zero, List.getElem?_cons_succ] at c0 c1 d0 d1
      go_simp
      exact hK _ _ hS (Below.refl _ _) rfl
    refine Vals5.Steps.run (by kernel_rfl) (Vals5.Stable.is _) ?_ ?_
    · intro a W hS pre old K hK
      have e3 : a.tmps.getD 3 undef = .pointer (some ⟨w.heap.size + 1, 0, none⟩) := old 3 _ (by kernel_rfl) rfl
      clear pre old
      simp only [Array.getD_eq_getD_getElem?] at e3
      go_simp
      exact hK _ _ hS (Below.refl _ _) rfl
    refine Vals5.Steps.run (by kernel_rfl) (Vals5.Stable.is _) ?_ ?_
    · intro a W hS pre old K hK
      have e8 : a.tmps.getD 8 undef = .pointer (some ⟨w.heap.size + 1, 0, none⟩) := pre 3 8 _ (by kernel_rfl) rfl rfl
      clear pre old
      simp only [Array.getD_eq_getD_getElem?] at e8
      have hS9 := hS
      obtain ⟨l1, l2, _, _⟩ := hS9
      have c0 := l1.cell 0
      have c1 := l1.cell 1
      have d0 := l2.cell 0
      have d1 := l2.cell 1
      simp only [List.getElem?_toArray, List.getElem?_cons_zero, List.getElem?_cons_succ] at c0 c1 d0 d1
      go_simp
      exact hK _ _ hS (Below.refl _ _) rfl
    refine Vals5.Steps.run (by kernel_rfl) (Vals5.Stable.is _) ?_ ?_
    · intro a W hS pre old K hK
      have e7 : a.tmps.getD 7 undef = .int .i64 x.1 := pre 2 7 _ (by kernel_rfl) rfl rfl
      have e9 : a.tmps.getD 9 undef = .int .i64 c.1 := pre 4 9 _ (by kernel_rfl) rfl rfl
      clear pre old
      simp only [Array.getD_eq_getD_getElem?] at e7 e9
      go_simp
      exact hK _ _ hS (Below.refl _ _) (by show Value.int _ _ = Value.int _ _; rw [IntWalk.i64_in _ (by omega)])
    refine Vals5.Steps.run (by kernel_rfl) (Vals5.Stable.is _) ?_ ?_
    · intro a W hS pre old K hK
      have e10 : a.tmps.getD 10 undef = .int .i64 (x.1 + c.1) := pre 5 10 _ (by kernel_rfl) rfl rfl
      clear pre old
      simp only [Array.getD_eq_getD_getElem?] at e10
      go_simp
      refine (held_c _ _).mono ?_
      rintro e w' ⟨rfl, rfl⟩
      exact hK _ _ hS (Below.refl _ _) rfl
    refine Vals5.Steps.run (by kernel_rfl) (Vals5.Stable.is _) ?_ ?_
    · intro a W hS pre old K hK
      have e2 : a.tmps.getD 2 undef = .pointer (some ⟨w.heap.size, 0, none⟩) := old 2 _ (by kernel_rfl) rfl
      clear pre old
      simp only [Array.getD_eq_getD_getElem?] at e2
      go_simp
      exact hK _ _ hS (Below.refl _ _) rfl
    refine Vals5.Steps.run (by kernel_rfl) (Vals5.Stable.is _) ?_ ?_
    · intro a W hS pre old K hK
      have e12 : a.tmps.getD 12 undef = .pointer (some ⟨w.heap.size, 0, none⟩) := pre 7 12 _ (by kernel_rfl) rfl rfl
      clear pre old
      simp only [Array.getD_eq_getD_getElem?] at e12
      go_simp
      exact hK _ _ hS (Below.refl _ _) rfl
    refine Vals5.Steps.run (by kernel_rfl) (Vals5.Stable.is _) ?_ ?_
    · intro a W hS pre old K hK
      have e13 : a.tmps.getD 13 undef = .pointer (some ⟨w.heap.size, 1, none⟩) := pre 8 13 _ (by kernel_rfl) rfl rfl
      clear pre old
      simp only [Array.getD_eq_getD_getElem?] at e13
      have hS9 := hS
      obtain ⟨l1, l2, _, _⟩ := hS9
      have c0 := l1.cell 0
      have c1 := l1.cell 1
      have d0 := l2.cell 0
      have d1 := l2.cell 1
      simp only [List.getElem?_toArray, List.getElem?_cons_zero, List.getElem?_cons_succ] at c0 c1 d0 d1
      go_simp
      exact hK _ _ hS (Below.refl _ _) rfl
    refine Vals5.Steps.run (by kernel_rfl) (Vals5.Stable.is _) ?_ ?_
    · intro a W hS pre old K hK
      have e3 : a.tmps.getD 3 undef = .pointer (some ⟨w.heap.size + 1, 0, none⟩) := old 3 _ (by kernel_rfl) rfl
      clear pre old
      simp only [Array.getD_eq_getD_getElem?] at e3
      go_simp
      exact hK _ _ hS (Below.refl _ _) rfl
    refine Vals5.Steps.run (by kernel_rfl) (Vals5.Stable.is _) ?_ ?_
    · intro a W hS pre old K hK
      have e15 : a.tmps.getD 15 undef = .pointer (some ⟨w.heap.size + 1, 1, none⟩) := pre 10 15 _ (by kernel_rfl) rfl rfl
      clear pre old
      simp only [Array.getD_eq_getD_getElem?] at e15
      have hS9 := hS
      obtain ⟨l1, l2, _, _⟩ := hS9
      have c0 := l1.cell 0
      have c1 := l1.cell 1
      have d0 := l2.cell 0
      have d1 := l2.cell 1
      simp only [List.getElem?_toArray, List.getElem?_cons_zero, List.getElem?_cons_succ] at c0 c1 d0 d1
      go_simp
      exact hK _ _ hS (Below.refl _ _) rfl
    refine Vals5.Steps.run (by kernel_rfl) (Vals5.Stable.is _) ?_ ?_
    · intro a W hS pre old K hK
      have e14 : a.tmps.getD 14 undef = .int .i64 x.2 := pre 9 14 _ (by kernel_rfl) rfl rfl
      have e16 : a.tmps.getD 16 undef = .int .i64 c.2 := pre 11 16 _ (by kernel_rfl) rfl rfl
      clear pre old
      simp only [Array.getD_eq_getD_getElem?] at e14 e16
      go_simp
      exact hK _ _ hS (Below.refl _ _) (by show Value.int _ _ = Value.int _ _; rw [IntWalk.i64_in _ (by omega)])
    refine Vals5.Steps.run (by kernel_rfl) (Vals5.Stable.is _) ?_ ?_
    · intro a W hS pre old K hK
      have e17 : a.tmps.getD 17 undef = .int .i64 (x.2 + c.2) := pre 12 17 _ (by kernel_rfl) rfl rfl
      clear pre old
      simp only [Array.getD_eq_getD_getElem?] at e17
      go_simp
      refine (held_c _ _).mono ?_
      rintro e w' ⟨rfl, rfl⟩
      exact hK _ _ hS (Below.refl _ _) rfl
    refine Vals5.Steps.run (by kernel_rfl) (Vals5.Stable.is _) ?_ ?_
    · intro a W hS pre old K hK
      have e11 : a.tmps.getD 11 undef = .int .i64 (hld (x.1 + c.1)) := pre 6 11 _ (by kernel_rfl) rfl rfl
      have e18 : a.tmps.getD 18 undef = .int .i64 (hld (x.2 + c.2)) := pre 13 18 _ (by kernel_rfl) rfl rfl
      clear pre old
      simp only [Array.getD_eq_getD_getElem?] at e11 e18
      go_simp
      refine (between_c _ _ _).mono ?_
      rintro e w' ⟨rfl, hb'⟩
      obtain ⟨h1, h2, h3, h4⟩ := hS
      exact hK _ _ ⟨h1.keep hb', h2.keep hb', h3.keep hb', h4.keep hb'⟩ hb' (by show Value.agg _ = Value.agg _; rw [← hv]; rfl)
    exact Vals5.Steps.nil
  rintro X ⟨hL2, hC2, hR2, hs2⟩
  simp only [Vals5.All, List.getLast_cons_cons, List.getLast_singleton]
  simp only [Vals.putAll, List.setIfInBounds_toArray, List.set_cons_zero, List.set_cons_succ]
  intro K hK
  refine wp_store_row 95 _ _ rfl (w.heap.size + 1 + 1) #[.int .i64 p, .int .i64 q, .bool r] rfl rfl 95 _ hR2 (by kernel_rfl) rfl (by simp [Value.oneCell']) ?_
  refine hK _ _ ?_
  clear hK K
  go_wp2_with fail
  (refine bodyPost_ret (v := .agg _) ?_ rfl ⟨rfl, ?_⟩; exact (results_cell_row Try.results95 _ _ (w.heap.size + 1 + 1) 95 _ (0, 0) _ rfl (hR2.row _) Try.underlying95 rfl (by kernel_rfl)))
  exact (hs2.row (by omega) _).1
set_option maxHeartbeats 2000000 in
theorem common_c (a b : Option (Int × Int)) (w : World) :
    Calls Try.prog 97 #[.agg (lV a), .agg (lV b)] w fun e w' => e = .returned (.agg (lV (com a b))) ∧ Below w.heap.size w w' := by
  have HR := Lib.hid (Blk.new2 w (.cells (lV a) 95) (.cells (lV b) 95) 95 #[.int .i64 0, .int .i64 0, .bool false])
  have hsn := (((Since.refl w).alloc (.cells (lV a) 95)).alloc (.cells (lV b) 95)).alloc (.cells #[.int .i64 0, .int .i64 0, .bool false] 95)
  have hN := fun w => eqNone w
  cases a with
  | none =>
    have HV : Hid (lV (com none b) = #[.int .i64 0, .int .i64 0, .bool false]) := by show _ = _; simp [com, lV]
    obtain ⟨p, q, r, hv⟩ := lV_ex b
    rw [hv] at HR hsn ⊢
    rw [HV.out]
    simp only [lV] at HR hsn ⊢
    go_enter Try.func97, Try.ntmps97
    go_wp2_with (refine wpList_store_row rfl 95 _ _ rfl (w.heap.size + 1 + 1) _ rfl rfl 95 _ HR.out (by kernel_rfl) rfl (by simp [Value.oneCell']) ?_)
    (refine bodyPost_ret (v := .agg _) ?_ rfl ⟨rfl, ?_⟩; exact (results_cell_row Try.results97 _ _ (w.heap.size + 1 + 1) 95 _ (0, 0) _ rfl (HR.out.row _) Try.underlying95 rfl (by kernel_rfl)))
    exact (hsn.row (by omega) _).1
  | some x =>
    have hX := fun w => eqSome x.1 x.2 w
    cases b with
    | none =>
      have HV : Hid (lV (com (some x) none) = #[.int .i64 0, .int .i64 0, .bool false]) := by show _ = _; simp [com, lV]
      rw [HV.out]
      simp only [lV] at HR hsn ⊢
      go_enter Try.func97, Try.ntmps97
      go_wp2_with (refine wpList_store_row rfl 95 _ _ rfl (w.heap.size + 1 + 1) _ rfl rfl 95 _ HR.out (by kernel_rfl) rfl (by simp [Value.oneCell']) ?_)
      (refine bodyPost_ret (v := .agg _) ?_ rfl ⟨rfl, ?_⟩; exact (results_cell_row Try.results97 _ _ (w.heap.size + 1 + 1) 95 _ (0, 0) _ rfl (HR.out.row _) Try.underlying95 rfl (by kernel_rfl)))
      exact (hsn.row (by omega) _).1
    | some y =>
      have hY := fun w => eqSome y.1 y.2 w
      obtain ⟨p, q, r, hv⟩ := lV_ex (com (some x) (some y))
      rw [hv]
      have HV : Hid (Value.agg (lV (btw (max x.1 y.1) (min x.2 y.2))) = .agg #[.int .i64 p, .int .i64 q, .bool r]) := by show _ = _; rw [← hv]; rfl
      clear hv
      simp only [lV] at HR hsn ⊢
      rcases (by omega : (x.1 < y.1 ∧ max x.1 y.1 = y.1) ∨ (¬ x.1 < y.1 ∧ max x.1 y.1 = x.1)) with ⟨h1, hx⟩ | ⟨h1, hx⟩ <;> rcases (by omega : (y.2 < x.2 ∧ min x.2 y.2 = y.2) ∨ (¬ y.2 < x.2 ∧ min x.2 y.2 = x.2)) with ⟨h2, hn⟩ | ⟨h2, hn⟩
      all_goals
        rw [hx, hn] at HV
        clear hx hn
        go_enter Try.func97, Try.ntmps97
        go_wp2_with fail
        refine (between_c _ _ _).mono ?_
        rintro e w' ⟨rfl, hb⟩
        rw [HV.out]
        have HR2 := Lib.hid (HR.out.keep hb)
        have hsn2 := hsn.keep hb
        go_wp2_with (refine wpList_store_row rfl 95 _ _ rfl (w.heap.size + 1 + 1) _ rfl rfl 95 _ HR2.out (by kernel_rfl) rfl (by simp [Value.oneCell']) ?_)
        (refine bodyPost_ret (v := .agg _) ?_ rfl ⟨rfl, ?_⟩; exact (results_cell_row Try.results97 _ _ (w.heap.size + 1 + 1) 95 _ (0, 0) _ rfl (HR2.out.row _) Try.underlying95 rfl (by kernel_rfl)))
        exact (hsn2.row (by omega) _).1
end Td
end Go.Proofs.Ytmofbnadfgejiaa
/- A space that is watched: where it starts, how its level changes, which levels agree. -/
namespace Go.Proofs.Ytmofbnadfgejiaa
open Go.RowKit
namespace Td
set_option linter.unusedSimpArgs false
set_option linter.unusedVariables false
attribute [local go_sem] Oper.semAt_some
/-- the cells of a space that is watched: its plan, and its map of readings. -/
abbrev wV (s : Spc) (m : Sl) (M : Option Nat) : Array Value := #[.int .i64 s.s0, .int .i64 s.s1, .int .i64 s.r0, .int .i64 s.r1, .int .i64 s.b0, .int .i64 s.b1, .int .i64 s.lim, .slice m.A s.blows.length m.c, .slice m.T s.tools.length m.d, .map M]
theorem Blk.watch {w : World} {g : Nat} {t : TypeId} {s : Spc} {m : Sl} {M : Option Nat} (h : Blk w g t (wV s m M)) :
    w.cell? ⟨g, 0, none⟩ = some (.int .i64 s.s0) ∧ w.cell? ⟨g, 1, none⟩ = some (.int .i64 s.s1) ∧ w.cell? ⟨g, 2, none⟩ = some (.int .i64 s.r0) ∧ w.cell? ⟨g, 3, none⟩ = some (.int .i64 s.r1) ∧ w.cell? ⟨g, 4, none⟩ = some (.int .i64 s.b0) ∧ w.cell? ⟨g, 5, none⟩ = some (.int .i64 s.b1) ∧ w.cell? ⟨g, 6, none⟩ = some (.int .i64 s.lim) ∧ w.cell? ⟨g, 7, none⟩ = some (.slice m.A s.blows.length m.c) ∧ w.cell? ⟨g, 8, none⟩ = some (.slice m.T s.tools.length m.d) ∧ w.cell? ⟨g, 9, none⟩ = some (.map M) :=
  ⟨h.cell 0, h.cell 1, h.cell 2, h.cell 3, h.cell 4, h.cell 5, h.cell 6, h.cell 7, h.cell 8, h.cell 9⟩
/-- what the map of readings gives for a minute. -/
def Mp (w : World) (M : Option Nat) (rs : List Rd) : Prop := ∀ m : Int, ∃ A c, (∀ W, Below w.heap.size w W → (Instr.lookup 91 (.map M) (.int .i64 m) false).run Try.prog W = .ok (.slice A (atM rs m).length c) W) ∧ RdAt w A (atM rs m)
theorem Blk.lev {w : World} {g : Nat} {t : TypeId} {p q : Int} {r : Bool} (h : Blk w g t #[.int .i64 p, .int .i64 q, .bool r]) : w.cell? ⟨g, 0, none⟩ = some (.int .i64 p) ∧ w.cell? ⟨g, 1, none⟩ = some (.int .i64 q) ∧ w.cell? ⟨g, 2, none⟩ = some (.bool r) := ⟨h.cell 0, h.cell 1, h.cell 2⟩
theorem Mp.keep {w w' : World} {M : Option Nat} {rs : List Rd} (h : Mp w M rs) (hb : Below w.heap.size w w') : Mp w' M rs := fun m => by
  obtain ⟨A, c, h1, h2⟩ := h m
  exact ⟨A, c, fun W hW => h1 W (hb.trans (hW.mono hb.size)), h2.keep hb⟩
theorem start_c (s : Spc) (m : Sl) (M : Option Nat) (w : World) :
    Calls Try.prog 80 #[.agg (wV s m M)] w fun e w' => e = .returned (.agg (lV (btw s.s0 s.s1))) ∧ Below w.heap.size w w' := by
  obtain ⟨p, q, r, hv⟩ := lV_ex (btw s.s0 s.s1)
  rw [hv]
  have HV := Lib.hid hv
  clear hv
  have HR := Lib.hid (Blk.new1 w (.cells (wV s m M) 93) 95 #[.int .i64 0, .int .i64 0, .bool false])
  have hsn := ((Since.refl w).alloc (.cells (wV s m M) 93)).alloc (.cells #[.int .i64 0, .int .i64 0, .bool false] 95)
  go_enter Try.func80, Try.ntmps80
  go_wp2_with fail
  refine (between_c _ _ _).mono ?_
  rintro e w' ⟨rfl, hb⟩
  rw [HV.out]
  have HR2 := Lib.hid (HR.out.keep hb)
  have hsn2 := hsn.keep hb
  go_wp2_with (refine wpList_store_row rfl 95 _ _ rfl (w.heap.size + 1) _ rfl rfl 95 _ HR2.out (by kernel_rfl) rfl (by simp [Value.oneCell']) ?_)
  (refine bodyPost_ret (v := .agg _) ?_ rfl ⟨rfl, ?_⟩; exact (results_cell_row Try.results80 _ _ (w.heap.size + 1) 95 _ (0, 0) _ rfl (HR2.out.row _) Try.underlying95 rfl (by kernel_rfl)))
  exact (hsn2.row (by omega) _).1
theorem chg_at {s : Spc} {m : Int} {k : Nat} (hk : k < s.blows.length) (h : wi s.blows[k].1 s.blows[k].2 m = true) : chg s m = (s.b0, s.b1) := by
  unfold chg
  rw [if_pos (List.any_eq_true.2 ⟨_, List.getElem_mem hk, h⟩)]
theorem chg_none {s : Spc} {m : Int} (h : ∀ j (h : j < s.blows.length), wi s.blows[j].1 s.blows[j].2 m = false) : chg s m = (s.r0, s.r1) := by
  unfold chg
  rw [if_neg]
  intro hx
  obtain ⟨x, hx, hy⟩ := List.any_eq_true.1 hx
  obtain ⟨j, hj, rfl⟩ := List.mem_iff_getElem.1 hx
  rw [h j hj] at hy
  cases hy
set_option maxRecDepth 100000 in
set_option maxHeartbeats 2000000 in
theorem change_c (s : Spc) (m : Sl) (M : Option Nat) (mi : Int) (w : World) (hl : s.blows.length ≤ 1000) (hp : SpAt w m.A s.blows) :
    Calls Try.prog 83 #[.agg (wV s m M), .int .i64 mi] w fun e w' => e = .returned (.agg #[.int .i64 (chg s mi).1, .int .i64 (chg s mi).2]) ∧ Below w.heap.size w w' := by
  obtain ⟨cc, hc⟩ : ∃ cc, chg s mi = cc := ⟨_, rfl⟩
  rw [hc]
  have HC := Lib.hid hc
  clear hc
  have HS0 := Lib.hid ((Blk.new w 93 (wV s m M)).alloc (.cells #[.int .i64 0, .int .i64 0] 23))
  have HR0 := Lib.hid (Blk.new1 w (.cells (wV s m M) 93) 23 #[.int .i64 0, .int .i64 0])
  have hsn0 := ((Since.refl w).alloc (.cells (wV s m M) 93)).alloc (.cells #[.int .i64 0, .int .i64 0] 23)
  go_enter Try.func83, Try.ntmps83
  go_wp2_with fail
  go_loopw [11] (fun i wr => ∃ k : Nat, k ≤ s.blows.length ∧ i = .int .i64 k ∧ Since w wr ∧ Hid (Blk wr w.heap.size 93 (wV s m M)) ∧ Hid (Blk wr (w.heap.size + 1) 23 #[.int .i64 0, .int .i64 0]) ∧ Hid (∀ j (h : j < s.blows.length), j < k → wi s.blows[j].1 s.blows[j].2 mi = false)) (fun i _ => s.blows.length - (intOf i).toNat)
  case atStart => exact ⟨0, Nat.zero_le _, rfl, hsn0, HS0, HR0, fun j _ h => absurd h (by omega)⟩
  case round =>
    obtain ⟨k, hk, rfl, hsn, HS, HR, H0⟩ := hrel
    by_cases hlt : k < s.blows.length
    · obtain ⟨ad, hA, c0, c1⟩ := hp.get hlt
      rw [hA]
      have c0' := keep_cell hsn.1 c0
      have c1' := keep_cell hsn.1 c1
      clear c0 c1
      have hsn2 := hsn.alloc (.cells #[.int .i64 s.blows[k].1, .int .i64 s.blows[k].2] 23)
      have HS2 := Lib.hid (HS.out.alloc (.cells #[.int .i64 s.blows[k].1, .int .i64 s.blows[k].2] 23))
      have HR2 := Lib.hid (HR.out.alloc (.cells #[.int .i64 s.blows[k].1, .int .i64 s.blows[k].2] 23))
      go_wp2_with fail
      refine (within_c _ _ _ _ _ _ (Blk.new1 _ _ _ _)).mono ?_
      rintro e w' ⟨rfl, hb⟩
      have hsn3 := (hsn2.alloc _).keep hb
      have HS3 := Lib.hid ((HS2.out.alloc _).keep hb)
      have HR3 := Lib.hid ((HR2.out.alloc _).keep hb)
      cases h1 : wi s.blows[k].1 s.blows[k].2 mi
      · have HV := Lib.hid h1
        clear h1
        go_wp2_with fail
        go_roundw
        case rel =>
          refine ⟨k + 1, by omega, by go_num, hsn3, HS3, HR3, fun j h hj => ?_⟩
          rcases Nat.lt_or_ge j k with h1 | h1
          · exact H0.out j h h1
          · obtain rfl : j = k := by omega
            exact HV.out
        case measure => simp [intOf]; omega
      · obtain rfl := HC.out.symm.trans (chg_at hlt h1)
        clear h1
        obtain ⟨d0, d1, d2, d3, d4, d5, _, _, _, _⟩ := HS3.out.watch
        go_wp2_with (refine wpList_store_row rfl 23 _ _ rfl (w.heap.size + 1) _ rfl rfl 23 _ HR3.out (by kernel_rfl) rfl (by simp [Value.oneCell']) ?_)
        (refine bodyPost_ret (v := .agg _) ?_ rfl ⟨rfl, ?_⟩; exact (results_cell_row Try.results83 _ _ (w.heap.size + 1) 23 _ (0, 0) _ rfl (HR3.out.row _) Try.underlying23 rfl (by kernel_rfl)))
        exact (hsn3.row (by omega) _).1
    · obtain rfl := HC.out.symm.trans (chg_none (s := s) (m := mi) fun j hj => H0.out j hj (by omega))
      obtain ⟨d0, d1, d2, d3, d4, d5, _, _, _, _⟩ := HS.out.watch
      go_wp2_with (refine wpList_store_row rfl 23 _ _ rfl (w.heap.size + 1) _ rfl rfl 23 _ HR.out (by kernel_rfl) rfl (by simp [Value.oneCell']) ?_)
      (refine bodyPost_ret (v := .agg _) ?_ rfl ⟨rfl, ?_⟩; exact (results_cell_row Try.results83 _ _ (w.heap.size + 1) 23 _ (0, 0) _ rfl (HR.out.row _) Try.underlying23 rfl (by kernel_rfl)))
      exact (hsn.row (by omega) _).1
theorem agr_succ (s : Spc) (rs : List Rd) (o : Option (Int × Int)) (k : Nat) (hk : k < rs.length) : agr s (rs.take (k + 1)) o = cut s rs[k] (agr s (rs.take k) o) := by
  unfold agr
  rw [List.take_add_one, List.getElem?_eq_getElem hk, List.foldl_append]
  rfl
set_option maxRecDepth 100000 in
set_option maxHeartbeats 4000000 in
theorem agreeing_c (s : Spc) (m : Sl) (M : Option Nat) (all : List Rd) (mi : Int) (o : Option (Int × Int)) (w : World) (hs : SOk s) (hsa : SAt w m s) (hm : Mp w M all) (hr : ∀ r ∈ all, ROk s r) (hal : all.length ≤ 1000) :
    Calls Try.prog 94 #[.agg (wV s m M), .int .i64 mi, .agg (lV o)] w fun e w' => e = .returned (.agg (lV (agr s (atM all mi) o))) ∧ Below w.heap.size w w' := by
  obtain ⟨A, c, hlk, hrd⟩ := hm mi
  obtain ⟨rs, hrs⟩ : ∃ rs, atM all mi = rs := ⟨_, rfl⟩
  have hrr : ∀ r ∈ rs, ROk s r := fun r h => hr r (by rw [← hrs] at h; exact (List.mem_filter.1 h).1)
  have hrl : rs.length ≤ 1000 := by rw [← hrs]; exact Nat.le_trans (List.length_filter_le _ _) hal
  rw [hrs] at hlk hrd ⊢
  obtain ⟨p0, q0, r0, hv0⟩ := lV_ex o
  have HV0 := Lib.hid hv0
  have HS0 := Lib.hid (((Blk.new w 93 (wV s m M)).alloc (.cells (lV o) 95)).alloc (.cells #[.int .i64 0, .int .i64 0, .bool false] 95))
  have HL0 := Lib.hid ((Blk.new1 w (.cells (wV s m M) 93) 95 (lV o)).alloc (.cells #[.int .i64 0, .int .i64 0, .bool false] 95))
  have HR0 := Lib.hid (Blk.new2 w (.cells (wV s m M) 93) (.cells (lV o) 95) 95 #[.int .i64 0, .int .i64 0, .bool false])
  have hsn0 := (((Since.refl w).alloc (.cells (wV s m M) 93)).alloc (.cells (lV o) 95)).alloc (.cells #[.int .i64 0, .int .i64 0, .bool false] 95)
  rw [hv0] at HS0 HR0 hsn0 ⊢
  have hlk1 := hlk _ hsn0.1
  clear hv0
  go_enter Try.func94, Try.ntmps94
  rw [HV0.out] at HL0
  go_wp2_with fail
  go_loopw [15] (fun i wr => ∃ k : Nat, k ≤ rs.length ∧ i = .int .i64 k ∧ Since w wr ∧ Hid (Blk wr w.heap.size 93 (wV s m M)) ∧ Hid (Blk wr (w.heap.size + 1) 95 (lV (agr s (rs.take k) o))) ∧ Hid (Blk wr (w.heap.size + 1 + 1) 95 #[.int .i64 0, .int .i64 0, .bool false])) (fun i _ => rs.length - (intOf i).toNat)
  case atStart => exact ⟨0, Nat.zero_le _, rfl, hsn0, HS0, Lib.hid (by show Blk _ _ _ (lV o); rw [HV0.out]; exact HL0.out), HR0⟩
  case round =>
    obtain ⟨k, hk, rfl, hsn, HS, HL, HR⟩ := hrel
    by_cases hlt : k < rs.length
    · obtain ⟨ad, hA, c0, c1, c2⟩ := hrd.get hlt
      have hro := hrr rs[k] (List.getElem_mem hlt)
      obtain ⟨t, ht⟩ : ∃ t : Nat, rs[k].tool = (t : Int) := ⟨rs[k].tool.toNat, by have := hro.t0; omega⟩
      have htl : t < s.tools.length := by have := hro.t1; omega
      obtain ⟨ae, hT, e0, e1⟩ := hsa.tl.get htl
      obtain ⟨er, her⟩ : ∃ er, s.tools[t].err = er := ⟨_, rfl⟩
      have her2 : errOf s rs[k] = er := by unfold errOf; rw [ht]; simp [List.getElem?_eq_getElem htl, her]
      have hsz := hs.t3
      have he1 := hs.er _ (List.getElem_mem htl)
      have hh0 := hro.h0
      have hh1 := hro.h1
      rw [her] at e1 he1
      have c0' := keep_cell hsn.1 c0
      have c1' := keep_cell hsn.1 c1
      have c2' := keep_cell hsn.1 c2
      rw [ht] at c1'
      have e1' := keep_cell (hsn.alloc (.cells #[.int .i64 rs[k].min, .int .i64 (t : Int), .int .i64 rs[k].shown] 61)).1 e1
      have HE := Lib.hid (agr_succ s rs o k hlt)
      unfold cut at HE
      rw [her2] at HE
      clear c0 c1 c2 e0 e1 her2 her
      subst hA
      have hsn2 := hsn.alloc (.cells #[.int .i64 rs[k].min, .int .i64 (t : Int), .int .i64 rs[k].shown] 61)
      have hqn2 := (Since.refl wr).alloc (.cells #[.int .i64 rs[k].min, .int .i64 (t : Int), .int .i64 rs[k].shown] 61)
      have HS2 := Lib.hid (HS.out.alloc (.cells #[.int .i64 rs[k].min, .int .i64 (t : Int), .int .i64 rs[k].shown] 61))
      have HR2 := Lib.hid (HR.out.alloc (.cells #[.int .i64 rs[k].min, .int .i64 (t : Int), .int .i64 rs[k].shown] 61))
      have HL2 := Lib.hid (HL.out.alloc (.cells #[.int .i64 rs[k].min, .int .i64 (t : Int), .int .i64 rs[k].shown] 61))
      have HD2 := Lib.hid (Blk.new wr 61 #[.int .i64 rs[k].min, .int .i64 (t : Int), .int .i64 rs[k].shown])
      obtain ⟨_, _, _, _, _, _, _, _, d8, _⟩ := HS2.out.watch
      rw [hT] at d8
      obtain ⟨ok, hok⟩ : ∃ ok, agr s (rs.take k) o = ok := ⟨_, rfl⟩
      rw [hok] at HL2 HE
      clear hok HL HS HR
      have hz := HL2.out.lt
      have hz2 := HS2.out.lt
      have hzw := hsn.2
      go_wp2_with fail
      clear c0' c1' c2' e1' d8
      obtain ⟨p, q, r, hv⟩ := lV_ex (com ok (btw (rs[k].shown - er) (rs[k].shown + er)))
      have HV := Lib.hid hv
      clear hv
      cases ok with
      | none =>
        simp only [lV] at HL2
        refine Vals6.regionAll (fun X => Blk X (w.heap.size + 1) 95 #[.int .i64 0, .int .i64 0, .bool false] ∧ Blk X wr.heap.size 61 #[.int .i64 rs[k].min, .int .i64 (t : Int), .int .i64 rs[k].shown] ∧ Blk X (w.heap.size + 1 + 1) 95 #[.int .i64 0, .int .i64 0, .bool false] ∧ Since w X ∧ Since (wr.alloc (.cells #[.int .i64 rs[k].min, .int .i64 (t : Int), .int .i64 rs[k].shown] 61)) X) [some 27, some 28, some 29, some 30, some 31, some 32, some 33, some 34, some 35, some 36, some 37] [.is (.agg #[.int .i64 0, .int .i64 0, .bool false]), .is (.pointer (some ⟨wr.heap.size, 2, none⟩)), .is (.int .i64 rs[k].shown), .is (.int .i64 er), .is (.int .i64 (rs[k].shown - er)), .is (.pointer (some ⟨wr.heap.size, 2, none⟩)), .is (.int .i64 rs[k].shown), .is (.int .i64 er), .is (.int .i64 (rs[k].shown + er)), .is (.agg (lV (btw (rs[k].shown - er) (rs[k].shown + er)))), .is (.agg #[.int .i64 p, .int .i64 q, .bool r])] (by kernel_rfl) rfl rfl (by kernel_rfl) (by kernel_rfl) (by kernel_rfl) (by kernel_rfl) (by kernel_rfl) (by kernel_rfl) (by kernel_rfl) (⟨HL2.out.drew, HD2.out.drew, HR2.out.drew, hsn2.drew, (Since.refl _).drew⟩) ?_ ?_
        · refine Vals5.Steps.run (by kernel_rfl) (Vals5.Stable.is _) ?_ ?_
          · intro a W hS pre old K hK
            have e5 : a.tmps.getD 5 undef = .pointer (some ⟨w.heap.size + 1, 0, none⟩) := old 5 _ (by kernel_rfl) rfl
            clear pre old
            simp only [Array.getD_eq_getD_getElem?] at e5
            have hS9 := hS
            obtain ⟨l1, l2, _, _, _⟩ := hS9
            have c0 := l1.cell 0
            have c1 := l1.cell 1
            have c2 := l1.cell 2
            have d2 := l2.cell 2
            simp only [List.getElem?_toArray, List.getElem?_cons_zero, List.getElem?_cons_succ] at c0 c1 c2 d2
            go_simp
            exact hK _ _ hS (Below.refl _ _) rfl
          refine Vals5.Steps.run (by kernel_rfl) (Vals5.Stable.is _) ?_ ?_
          · intro a W hS pre old K hK
            have e8 : a.tmps.getD 8 undef = .pointer (some ⟨wr.heap.size, 0, none⟩) := old 8 _ (by kernel_rfl) rfl
            clear pre old
            simp only [Array.getD_eq_getD_getElem?] at e8
            go_simp
            exact hK _ _ hS (Below.refl _ _) rfl
          refine Vals5.Steps.run (by kernel_rfl) (Vals5.Stable.is _) ?_ ?_
          · intro a W hS pre old K hK
            have e28 : a.tmps.getD 28 undef = .pointer (some ⟨wr.heap.size, 2, none⟩) := pre 1 28 _ (by kernel_rfl) rfl rfl
            clear pre old
            simp only [Array.getD_eq_getD_getElem?] at e28
            have hS9 := hS
            obtain ⟨l1, l2, _, _, _⟩ := hS9
            have c0 := l1.cell 0
            have c1 := l1.cell 1
            have c2 := l1.cell 2
            have d2 := l2.cell 2
            simp only [List.getElem?_toArray, List.getElem?_cons_zero, List.getElem?_cons_succ] at c0 c1 c2 d2
            go_simp
            exact hK _ _ hS (Below.refl _ _) rfl
          refine Vals5.Steps.run (by kernel_rfl) (Vals5.Stable.is _) ?_ ?_
          · intro a W hS pre old K hK
            have e9 : a.tmps.getD 9 undef = .int .i64 er := old 9 _ (by kernel_rfl) rfl
            clear pre old
            simp only [Array.getD_eq_getD_getElem?] at e9
            go_simp
            exact hK _ _ hS (Below.refl _ _) rfl
          refine Vals5.Steps.run (by kernel_rfl) (Vals5.Stable.is _) ?_ ?_
          · intro a W hS pre old K hK
            have e29 : a.tmps.getD 29 undef = .int .i64 rs[k].shown := pre 2 29 _ (by kernel_rfl) rfl rfl
            have e30 : a.tmps.getD 30 undef = .int .i64 er := pre 3 30 _ (by kernel_rfl) rfl rfl
            clear pre old
            simp only [Array.getD_eq_getD_getElem?] at e29 e30
            go_simp
            exact hK _ _ hS (Below.refl _ _) (by show Value.int _ _ = Value.int _ _; rw [IntWalk.i64_in _ (by omega)])
          refine Vals5.Steps.run (by kernel_rfl) (Vals5.Stable.is _) ?_ ?_
          · intro a W hS pre old K hK
            have e8 : a.tmps.getD 8 undef = .pointer (some ⟨wr.heap.size, 0, none⟩) := old 8 _ (by kernel_rfl) rfl
            clear pre old
            simp only [Array.getD_eq_getD_getElem?] at e8
            go_simp
            exact hK _ _ hS (Below.refl _ _) rfl
          refine Vals5.Steps.run (by kernel_rfl) (Vals5.Stable.is _) ?_ ?_
          · intro a W hS pre old K hK
            have e32 : a.tmps.getD 32 undef = .pointer (some ⟨wr.heap.size, 2, none⟩) := pre 5 32 _ (by kernel_rfl) rfl rfl
            clear pre old
            simp only [Array.getD_eq_getD_getElem?] at e32
            have hS9 := hS
            obtain ⟨l1, l2, _, _, _⟩ := hS9
            have c0 := l1.cell 0
            have c1 := l1.cell 1
            have c2 := l1.cell 2
            have d2 := l2.cell 2
            simp only [List.getElem?_toArray, List.getElem?_cons_zero, List.getElem?_cons_succ] at c0 c1 c2 d2
            go_simp
            exact hK _ _ hS (Below.refl _ _) rfl
          refine Vals5.Steps.run (by kernel_rfl) (Vals5.Stable.is _) ?_ ?_
          · intro a W hS pre old K hK
            have e9 : a.tmps.getD 9 undef = .int .i64 er := old 9 _ (by kernel_rfl) rfl
            clear pre old
            simp only [Array.getD_eq_getD_getElem?] at e9
            go_simp
            exact hK _ _ hS (Below.refl _ _) rfl
          refine Vals5.Steps.run (by kernel_rfl) (Vals5.Stable.is _) ?_ ?_
          · intro a W hS pre old K hK
            have e33 : a.tmps.getD 33 undef = .int .i64 rs[k].shown := pre 6 33 _ (by kernel_rfl) rfl rfl
            have e34 : a.tmps.getD 34 undef = .int .i64 er := pre 7 34 _ (by kernel_rfl) rfl rfl
            clear pre old
            simp only [Array.getD_eq_getD_getElem?] at e33 e34
            go_simp
            exact hK _ _ hS (Below.refl _ _) (by show Value.int _ _ = Value.int _ _; rw [IntWalk.i64_in _ (by omega)])
          refine Vals5.Steps.run (by kernel_rfl) (Vals5.Stable.is _) ?_ ?_
          · intro a W hS pre old K hK
            have e31 : a.tmps.getD 31 undef = .int .i64 (rs[k].shown - er) := pre 4 31 _ (by kernel_rfl) rfl rfl
            have e35 : a.tmps.getD 35 undef = .int .i64 (rs[k].shown + er) := pre 8 35 _ (by kernel_rfl) rfl rfl
            clear pre old
            simp only [Array.getD_eq_getD_getElem?] at e31 e35
            go_simp
            refine (between_c _ _ _).mono ?_
            rintro e w' ⟨rfl, hb'⟩
            obtain ⟨h1, h2, h3, h4, h5⟩ := hS
            exact hK _ _ ⟨h1.keep hb', h2.keep hb', h3.keep hb', h4.keep hb', h5.keep hb'⟩ hb' rfl
          refine Vals5.Steps.run (by kernel_rfl) (Vals5.Stable.is _) ?_ ?_
          · intro a W hS pre old K hK
            have e27 : a.tmps.getD 27 undef = .agg #[.int .i64 0, .int .i64 0, .bool false] := pre 0 27 _ (by kernel_rfl) rfl rfl
            have e36 : a.tmps.getD 36 undef = .agg (lV (btw (rs[k].shown - er) (rs[k].shown + er))) := pre 9 36 _ (by kernel_rfl) rfl rfl
            clear pre old
            simp only [Array.getD_eq_getD_getElem?] at e27 e36
            go_simp
            refine (common_c (none) (btw (rs[k].shown - er) (rs[k].shown + er)) _).mono ?_
            rintro e w' ⟨rfl, hb'⟩
            obtain ⟨h1, h2, h3, h4, h5⟩ := hS
            exact hK _ _ ⟨h1.keep hb', h2.keep hb', h3.keep hb', h4.keep hb', h5.keep hb'⟩ hb' (by show Value.agg _ = Value.agg _; rw [HV.out])
          exact Vals5.Steps.nil
        rintro X ⟨hL3, hR3, hO3, hs3, hq3⟩
        simp only [Vals5.All, List.getLast_cons_cons, List.getLast_singleton]
        simp only [Vals.putAll, List.setIfInBounds_toArray, List.set_cons_zero, List.set_cons_succ]
        intro K hK
        refine wp_store_row 95 _ _ rfl (w.heap.size + 1) #[.int .i64 p, .int .i64 q, .bool r] rfl rfl 95 _ hL3 (by kernel_rfl) rfl (by simp [Value.oneCell']) ?_
        refine hK _ _ ?_
        clear hK K
        have hs4 := hs3.row (g := w.heap.size + 1) (by omega) #[.int .i64 p, .int .i64 q, .bool r]
        have hS4 := (HS2.out.keep (w' := X) (hq3.1.mono (by omega))).rowFar (g' := w.heap.size + 1) (by omega) #[.int .i64 p, .int .i64 q, .bool r]
        have hO4 := hO3.rowFar (g' := w.heap.size + 1) (by omega) #[.int .i64 p, .int .i64 q, .bool r]
        have hL4 := hL3.row #[.int .i64 p, .int .i64 q, .bool r]
        go_wp2_with fail
        go_roundw
        case rel => exact ⟨k + 1, by omega, by go_num, hs4, hS4, Lib.hid (by rw [HE.out, HV.out]; exact hL4), hO4⟩
        case measure => simp [intOf]; omega
      | some x =>
        simp only [lV] at HL2
        refine Vals6.regionAll (fun X => Blk X (w.heap.size + 1) 95 #[.int .i64 x.1, .int .i64 x.2, .bool true] ∧ Blk X wr.heap.size 61 #[.int .i64 rs[k].min, .int .i64 (t : Int), .int .i64 rs[k].shown] ∧ Blk X (w.heap.size + 1 + 1) 95 #[.int .i64 0, .int .i64 0, .bool false] ∧ Since w X ∧ Since (wr.alloc (.cells #[.int .i64 rs[k].min, .int .i64 (t : Int), .int .i64 rs[k].shown] 61)) X) [some 27, some 28, some 29, some 30, some 31, some 32, some 33, some 34, some 35, some 36, some 37] [.is (.agg #[.int .i64 x.1, .int .i64 x.2, .bool true]), .is (.pointer (some ⟨wr.heap.size, 2, none⟩)), .is (.int .i64 rs[k].shown), .is (.int .i64 er), .is (.int .i64 (rs[k].shown - er)), .is (.pointer (some ⟨wr.heap.size, 2, none⟩)), .is (.int .i64 rs[k].shown), .is (.int .i64 er), .is (.int .i64 (rs[k].shown + er)), .is (.agg (lV (btw (rs[k].shown - er) (rs[k].shown + er)))), .is (.agg #[.int .i64 p, .int .i64 q, .bool r])] (by kernel_rfl) rfl rfl (by kernel_rfl) (by kernel_rfl) (by kernel_rfl) (by kernel_rfl) (by kernel_rfl) (by kernel_rfl) (by kernel_rfl) (⟨HL2.out.drew, HD2.out.drew, HR2.out.drew, hsn2.drew, (Since.refl _).drew⟩) ?_ ?_
        · refine Vals5.Steps.run (by kernel_rfl) (Vals5.Stable.is _) ?_ ?_
          · intro a W hS pre old K hK
            have e5 : a.tmps.getD 5 undef = .pointer (some ⟨w.heap.size + 1, 0, none⟩) := old 5 _ (by kernel_rfl) rfl
            clear pre old
            simp only [Array.getD_eq_getD_getElem?] at e5
            have hS9 := hS
            obtain ⟨l1, l2, _, _, _⟩ := hS9
            have c0 := l1.cell 0
            have c1 := l1.cell 1
            have c2 := l1.cell 2
            have d2 := l2.cell 2
            simp only [List.getElem?_toArray, List.getElem?_cons_zero, List.getElem?_cons_succ] at c0 c1 c2 d2
            go_simp
            exact hK _ _ hS (Below.refl _ _) rfl
          refine Vals5.Steps.run (by kernel_rfl) (Vals5.Stable.is _) ?_ ?_
          · intro a W hS pre old K hK
            have e8 : a.tmps.getD 8 undef = .pointer (some ⟨wr.heap.size, 0, none⟩) := old 8 _ (by kernel_rfl) rfl
            clear pre old
            simp only [Array.getD_eq_getD_getElem?] at e8
            go_simp
            exact hK _ _ hS (Below.refl _ _) rfl
          refine Vals5.Steps.run (by kernel_rfl) (Vals5.Stable.is _) ?_ ?_
          · intro a W hS pre old K hK
            have e28 : a.tmps.getD 28 undef = .pointer (some ⟨wr.heap.size, 2, none⟩) := pre 1 28 _ (by kernel_rfl) rfl rfl
            clear pre old
            simp only [Array.getD_eq_getD_getElem?] at e28
            have hS9 := hS
            obtain ⟨l1, l2, _, _, _⟩ := hS9
            have c0 := l1.cell 0
            have c1 := l1.cell 1
            have c2 := l1.cell 2
            have d2 := l2.cell 2
            simp only [List.getElem?_toArray, List.getElem?_cons_zero, List.getElem?_cons_succ] at c0 c1 c2 d2
            go_simp
            exact hK _ _ hS (Below.refl _ _) rfl
          refine Vals5.Steps.run (by kernel_rfl) (Vals5.Stable.is _) ?_ ?_
          · intro a W hS pre old K hK
            have e9 : a.tmps.getD 9 undef = .int .i64 er := old 9 _ (by kernel_rfl) rfl
            clear pre old
            simp only [Array.getD_eq_getD_getElem?] at e9
            go_simp
            exact hK _ _ hS (Below.refl _ _) rfl
          refine Vals5.Steps.run (by kernel_rfl) (Vals5.Stable.is _) ?_ ?_
          · intro a W hS pre old K hK
            have e29 : a.tmps.getD 29 undef = .int .i64 rs[k].shown := pre 2 29 _ (by kernel_rfl) rfl rfl
            have e30 : a.tmps.getD 30 undef = .int .i64 er := pre 3 30 _ (by kernel_rfl) rfl rfl
            clear pre old
            simp only [Array.getD_eq_getD_getElem?] at e29 e30
            go_simp
            exact hK _ _ hS (Below.refl _ _) (by show Value.int _ _ = Value.int _ _; rw [IntWalk.i64_in _ (by omega)])
          refine Vals5.Steps.run (by kernel_rfl) (Vals5.Stable.is _) ?_ ?_
          · intro a W hS pre old K hK
            have e8 : a.tmps.getD 8 undef = .pointer (some ⟨wr.heap.size, 0, none⟩) := old 8 _ (by kernel_rfl) rfl
            clear pre old
            simp only [Array.getD_eq_getD_getElem?] at e8
            go_simp
            exact hK _ _ hS (Below.refl _ _) rfl
          refine Vals5.Steps.run (by kernel_rfl) (Vals5.Stable.is _) ?_ ?_
          · intro a W hS pre old K hK
            have e32 : a.tmps.getD 32 undef = .pointer (some ⟨wr.heap.size, 2, none⟩) := pre 5 32 _ (by kernel_rfl) rfl rfl
            clear pre old
            simp only [Array.getD_eq_getD_getElem?] at e32
            have hS9 := hS
            obtain ⟨l1, l2, _, _, _⟩ := hS9
            have c0 := l1.cell 0
            have c1 := l1.cell 1
            have c2 := l1.cell 2
            have d2 := l2.cell 2
            simp only [List.getElem?_toArray, List.getElem?_cons_zero, List.getElem?_cons_succ] at c0 c1 c2 d2
            go_simp
            exact hK _ _ hS (Below.refl _ _) rfl
          refine Vals5.Steps.run (by kernel_rfl) (Vals5.Stable.is _) ?_ ?_
          · intro a W hS pre old K hK
            have e9 : a.tmps.getD 9 undef = .int .i64 er := old 9 _ (by kernel_rfl) rfl
            clear pre old
            simp only [Array.getD_eq_getD_getElem?] at e9
            go_simp
            exact hK _ _ hS (Below.refl _ _) rfl
          refine Vals5.Steps.run (by kernel_rfl) (Vals5.Stable.is _) ?_ ?_
          · intro a W hS pre old K hK
            have e33 : a.tmps.getD 33 undef = .int .i64 rs[k].shown := pre 6 33 _ (by kernel_rfl) rfl rfl
            have e34 : a.tmps.getD 34 undef = .int .i64 er := pre 7 34 _ (by kernel_rfl) rfl rfl
            clear pre old
            simp only [Array.getD_eq_getD_getElem?] at e33 e34
            go_simp
            exact hK _ _ hS (Below.refl _ _) (by show Value.int _ _ = Value.int _ _; rw [IntWalk.i64_in _ (by omega)])
          refine Vals5.Steps.run (by kernel_rfl) (Vals5.Stable.is _) ?_ ?_
          · intro a W hS pre old K hK
            have e31 : a.tmps.getD 31 undef = .int .i64 (rs[k].shown - er) := pre 4 31 _ (by kernel_rfl) rfl rfl
            have e35 : a.tmps.getD 35 undef = .int .i64 (rs[k].shown + er) := pre 8 35 _ (by kernel_rfl) rfl rfl
            clear pre old
            simp only [Array.getD_eq_getD_getElem?] at e31 e35
            go_simp
            refine (between_c _ _ _).mono ?_
            rintro e w' ⟨rfl, hb'⟩
            obtain ⟨h1, h2, h3, h4, h5⟩ := hS
            exact hK _ _ ⟨h1.keep hb', h2.keep hb', h3.keep hb', h4.keep hb', h5.keep hb'⟩ hb' rfl
          refine Vals5.Steps.run (by kernel_rfl) (Vals5.Stable.is _) ?_ ?_
          · intro a W hS pre old K hK
            have e27 : a.tmps.getD 27 undef = .agg #[.int .i64 x.1, .int .i64 x.2, .bool true] := pre 0 27 _ (by kernel_rfl) rfl rfl
            have e36 : a.tmps.getD 36 undef = .agg (lV (btw (rs[k].shown - er) (rs[k].shown + er))) := pre 9 36 _ (by kernel_rfl) rfl rfl
            clear pre old
            simp only [Array.getD_eq_getD_getElem?] at e27 e36
            go_simp
            refine (common_c (some x) (btw (rs[k].shown - er) (rs[k].shown + er)) _).mono ?_
            rintro e w' ⟨rfl, hb'⟩
            obtain ⟨h1, h2, h3, h4, h5⟩ := hS
            exact hK _ _ ⟨h1.keep hb', h2.keep hb', h3.keep hb', h4.keep hb', h5.keep hb'⟩ hb' (by show Value.agg _ = Value.agg _; rw [HV.out])
          exact Vals5.Steps.nil
        rintro X ⟨hL3, hR3, hO3, hs3, hq3⟩
        simp only [Vals5.All, List.getLast_cons_cons, List.getLast_singleton]
        simp only [Vals.putAll, List.setIfInBounds_toArray, List.set_cons_zero, List.set_cons_succ]
        intro K hK
        refine wp_store_row 95 _ _ rfl (w.heap.size + 1) #[.int .i64 p, .int .i64 q, .bool r] rfl rfl 95 _ hL3 (by kernel_rfl) rfl (by simp [Value.oneCell']) ?_
        refine hK _ _ ?_
        clear hK K
        have hs4 := hs3.row (g := w.heap.size + 1) (by omega) #[.int .i64 p, .int .i64 q, .bool r]
        have hS4 := (HS2.out.keep (w' := X) (hq3.1.mono (by omega))).rowFar (g' := w.heap.size + 1) (by omega) #[.int .i64 p, .int .i64 q, .bool r]
        have hO4 := hO3.rowFar (g' := w.heap.size + 1) (by omega) #[.int .i64 p, .int .i64 q, .bool r]
        have hL4 := hL3.row #[.int .i64 p, .int .i64 q, .bool r]
        go_wp2_with fail
        go_roundw
        case rel => exact ⟨k + 1, by omega, by go_num, hs4, hS4, Lib.hid (by rw [HE.out, HV.out]; exact hL4), hO4⟩
        case measure => simp [intOf]; omega
    · obtain rfl : k = rs.length := by omega
      rw [List.take_length] at HL
      obtain ⟨p, q, r, hv⟩ := lV_ex (agr s rs o)
      rw [hv] at HL
      have HV := Lib.hid hv
      clear hv
      obtain ⟨l0, l1, l2⟩ := HL.out.lev
      go_wp2_with (refine wpList_store_row rfl 95 _ _ rfl (w.heap.size + 1 + 1) _ rfl rfl 95 _ HR.out (by kernel_rfl) rfl (by simp [Value.oneCell']) ?_)
      refine bodyPost_ret (v := .agg #[.int .i64 p, .int .i64 q, .bool r]) ?_ rfl ⟨by rw [HV.out], (hsn.row (by omega) _).1⟩
      exact (results_cell_row Try.results94 _ _ (w.heap.size + 1 + 1) 95 _ (0, 0) _ rfl (HR.out.row _) Try.underlying95 rfl (by kernel_rfl))
end Td
end Go.Proofs.Ytmofbnadfgejiaa
