import Derived.Test.YtojpiliamecgkaaRows
import Derived.Test.YtojpiliamecgkaaPlain
import Derived.WalkKit
import Derived.WalkSpells
import Derived.WalkLawsBesides
import Derived.Lib.Hide
import Derived.Deep.Draws
import Derived.Deep.QuietTactic
import Derived.BigQuiet
import Derived.IntWalk
import Derived.Laws.Rows
import Derived.Laws.CopyOwn
namespace Go.Proofs.Ytojpiliamecgkaa
open Go.RowKit
namespace Td

theorem add_block (a : Addr) (n : Nat) : (a.add n).block = a.block := by unfold Addr.add; split <;> rfl
theorem cell_lt {w : World} {a : Addr} {v : Value} (h : w.cell? a = some v) : a.block < w.heap.size := by
  unfold World.cell? at h
  rcases Nat.lt_or_ge a.block w.heap.size with hlt | hge
  · exact hlt
  · rw [Array.getElem?_eq_none hge] at h; simp at h
theorem keep_cell {w w' : World} {a : Addr} {v : Value} (hb : Below w.heap.size w w') (h : w.cell? a = some v) : w'.cell? a = some v := (hb.cell (cell_lt h)).trans h

theorem bdrew {B : Nat} {a w : World} (h : Below B a w) (n : Nat) : Below B a (w.drewN n) := ⟨h.os, h.tape, h.output, h.size, h.block⟩
/-- the j-th address behind a. -/
abbrev at_ (a : Addr) (j : Nat) : Addr := { block := a.block, off := a.off + j }

theorem bjoin {B : Nat} {a w w' : World} (h : Below w.heap.size w w') (k : Below B a w) (hB : B ≤ w.heap.size) : Below B a w' := k.trans (h.mono hB)
theorem oldCell {W w1 : World} (hb : Below W.heap.size W w1) : (∀ b o, b < W.heap.size → w1.cell? ⟨b, o, none⟩ = W.cell? ⟨b, o, none⟩) ∧ (∀ b o, b < W.heap.size → w1.frozen? ⟨b, o, none⟩ = W.frozen? ⟨b, o, none⟩) ∧ W.heap.size ≤ w1.heap.size :=
  ⟨fun b o h => hb.cell (p := ⟨b, o, none⟩) h, fun b o h => hb.frozen (p := ⟨b, o, none⟩) h, hb.size⟩

/-- a block that is known whole, none of it frozen. -/
def Blk (w : World) (g : Nat) (t : TypeId) (cs : Array Value) : Prop := w.heap[g]? = some (.cells cs t (0, 0))
theorem Blk.lt {w : World} {g : Nat} {t : TypeId} {cs : Array Value} (h : Blk w g t cs) : g < w.heap.size := by
  rcases Nat.lt_or_ge g w.heap.size with hlt | hge
  · exact hlt
  · unfold Blk at h; rw [Array.getElem?_eq_none hge] at h; cases h
theorem Blk.cell {w : World} {g : Nat} {t : TypeId} {cs : Array Value} (h : Blk w g t cs) (i : Nat) : w.cell? ⟨g, i, none⟩ = cs[i]? := by
  unfold Blk at h
  simp [World.cell?, h]
theorem Blk.frozen {w : World} {g : Nat} {t : TypeId} {cs : Array Value} (h : Blk w g t cs) (i : Nat) : w.frozen? ⟨g, i, none⟩ = false := by
  unfold Blk at h
  simp [World.frozen?, h]
theorem Blk.new (w : World) (t : TypeId) (cs : Array Value) : Blk (w.alloc (.cells cs t)) w.heap.size t cs := heap_alloc_new w _
theorem Blk.alloc {w : World} {g : Nat} {t : TypeId} {cs : Array Value} (h : Blk w g t cs) (o : Obj) : Blk (w.alloc o) g t cs := (Below.heap_alloc w o g h.lt).trans h
theorem Blk.keep {w w' : World} {g : Nat} {t : TypeId} {cs : Array Value} (h : Blk w g t cs) (hb : Below w.heap.size w w') : Blk w' g t cs := (hb.block g h.lt).trans h
theorem Blk.drew {w : World} {g : Nat} {t : TypeId} {cs : Array Value} (h : Blk w g t cs) : Blk w.drew g t cs := h
theorem Blk.set {w : World} {g : Nat} {t : TypeId} {cs : Array Value} (h : Blk w g t cs) (i : Nat) (u : Value) : Blk (w.setCell ⟨g, i, none⟩ u) g t (cs.setIfInBounds i u) := by
  unfold Blk at h ⊢
  simp [World.setCell, Array.getElem?_modify, h]
theorem Blk.far {w : World} {g : Nat} {t : TypeId} {cs : Array Value} (h : Blk w g t cs) {g' : Nat} (hg : g' ≠ g) (i : Nat) (u : Value) : Blk (w.setCell ⟨g', i, none⟩ u) g t cs := by
  unfold Blk at h ⊢
  simp [World.setCell, Array.getElem?_modify, h, hg]

theorem Blk.row {w : World} {g : Nat} {t : TypeId} {old : Array Value} (h : Blk w g t old) (cs : Array Value) : Blk (w.setRow g cs) g t cs := setRow_heap w g old cs t (0, 0) h
theorem Blk.rowFar {w : World} {g : Nat} {t : TypeId} {cs : Array Value} (h : Blk w g t cs) {g' : Nat} (hg : g' ≠ g) (new : Array Value) : Blk (w.setRow g' new) g t cs := (setRow_other w g' g new (Ne.symm hg)).trans h
/-- a block that was laid behind another one, or two. -/
theorem Blk.new1 (w : World) (o : Obj) (t : TypeId) (cs : Array Value) : Blk ((w.alloc o).alloc (.cells cs t)) (w.heap.size + 1) t cs := by
  have h := Blk.new (w.alloc o) t cs
  rwa [World.size_alloc] at h
theorem Blk.new2 (w : World) (o o' : Obj) (t : TypeId) (cs : Array Value) : Blk (((w.alloc o).alloc o').alloc (.cells cs t)) (w.heap.size + 1 + 1) t cs := by
  have h := Blk.new ((w.alloc o).alloc o') t cs
  rwa [World.size_alloc, World.size_alloc] at h
theorem Blk.new3 (w : World) (o o' o'' : Obj) (t : TypeId) (cs : Array Value) : Blk ((((w.alloc o).alloc o').alloc o'').alloc (.cells cs t)) (w.heap.size + 1 + 1 + 1) t cs := by
  have h := Blk.new (((w.alloc o).alloc o').alloc o'') t cs
  rwa [World.size_alloc, World.size_alloc, World.size_alloc] at h

/-- w' is w as far as w went. -/
abbrev Since (w W : World) : Prop := Below w.heap.size w W ∧ w.heap.size ≤ W.heap.size
theorem Since.keep {w W W' : World} (h : Since w W) (hb : Below W.heap.size W W') : Since w W' := ⟨h.1.trans (hb.mono h.2), Nat.le_trans h.2 hb.size⟩
theorem Since.drew {w W : World} (h : Since w W) : Since w W.drew := ⟨h.1.drew, h.2⟩
theorem Since.of {w W : World} (h : Below w.heap.size w W) : Since w W := ⟨h, h.size⟩
theorem Since.refl (w : World) : Since w w := ⟨Below.refl _ _, Nat.le_refl _⟩
theorem Since.row {w W : World} (h : Since w W) {g : Nat} (hg : w.heap.size ≤ g) (cs : Array Value) : Since w (W.setRow g cs) := ⟨below_setRow h.1 hg cs, by rw [size_setRow]; exact h.2⟩
theorem Since.alloc {w W : World} (h : Since w W) (o : Obj) : Since w (W.alloc o) := ⟨h.1.alloc h.2 _, by have := h.2; simp; omega⟩

def I64 (x : Int) : Prop := -9223372036854775808 ≤ x ∧ x ≤ 9223372036854775807

/-! ### tides in memory -/
structure TidAt (w : World) (a : Addr) (t : Tid) : Prop where
  c0 : w.cell? a = some (.int .i64 t.day)
  c1 : w.cell? (at_ a 1) = some (.int .i64 t.hlo)
  c2 : w.cell? (at_ a 2) = some (.int .i64 t.hhi)
  c3 : w.cell? (at_ a 3) = some (.int .i64 t.wlo)
  c4 : w.cell? (at_ a 4) = some (.int .i64 t.whi)
theorem TidAt.keep {w w' : World} {a : Addr} {t : Tid} (h : TidAt w a t) (hb : Below w.heap.size w w') : TidAt w' a t :=
  ⟨keep_cell hb h.c0, keep_cell hb h.c1, keep_cell hb h.c2, keep_cell hb h.c3, keep_cell hb h.c4⟩
/-- a list of tides, in blocks that w has. -/
def TsAt (w : World) (A : Option Addr) (ts : List Tid) : Prop :=
  ts ≠ [] → ∃ a, A = some a ∧ ∀ i t, ts[i]? = some t → TidAt w (a.add (i * 5)) t
theorem TsAt.keep {w w' : World} {A : Option Addr} {ts : List Tid} (h : TsAt w A ts) (hb : Below w.heap.size w w') : TsAt w' A ts := fun hx =>
  let ⟨a, ha, hc⟩ := h hx; ⟨a, ha, fun i p hp => (hc i p hp).keep hb⟩
theorem TsAt.get {w : World} {A : Option Addr} {ts : List Tid} (h : TsAt w A ts) {k : Nat} (hk : k < ts.length) : ∃ a, A = some a ∧ TidAt w (a.add (k * 5)) ts[k] := by
  obtain ⟨a, ha, hc⟩ := h (fun e => by simp [e] at hk)
  exact ⟨a, ha, hc k _ (List.getElem?_eq_getElem hk)⟩
/-- spans in a row. -/
def SpAt (w : World) (A : Option Addr) (l : List (Int × Int)) : Prop :=
  l ≠ [] → ∃ a, A = some a ∧ ∀ i p, l[i]? = some p → w.cell? (a.add (i * 2)) = some (.int .i64 p.1) ∧ w.cell? (at_ (a.add (i * 2)) 1) = some (.int .i64 p.2)
theorem SpAt.keep {w w' : World} {A : Option Addr} {l : List (Int × Int)} (h : SpAt w A l) (hb : Below w.heap.size w w') : SpAt w' A l := fun hx =>
  let ⟨a, ha, hc⟩ := h hx; ⟨a, ha, fun i p hp => ⟨keep_cell hb (hc i p hp).1, keep_cell hb (hc i p hp).2⟩⟩
theorem SpAt.get {w : World} {A : Option Addr} {l : List (Int × Int)} (h : SpAt w A l) {k : Nat} (hk : k < l.length) : ∃ a, A = some a ∧ w.cell? (a.add (k * 2)) = some (.int .i64 l[k].1) ∧ w.cell? (at_ (a.add (k * 2)) 1) = some (.int .i64 l[k].2) := by
  obtain ⟨a, ha, hc⟩ := h (fun e => by simp [e] at hk)
  exact ⟨a, ha, hc k _ (List.getElem?_eq_getElem hk)⟩
/-- pulls in a row. -/
def PuAt (w : World) (A : Option Addr) (l : List Pul) : Prop :=
  l ≠ [] → ∃ a, A = some a ∧ ∀ i p, l[i]? = some p → w.cell? (a.add (i * 2)) = some (.int .i64 p.tide) ∧ w.cell? (at_ (a.add (i * 2)) 1) = some (.int .i64 p.bal)
theorem PuAt.keep {w w' : World} {A : Option Addr} {l : List Pul} (h : PuAt w A l) (hb : Below w.heap.size w w') : PuAt w' A l := fun hx =>
  let ⟨a, ha, hc⟩ := h hx; ⟨a, ha, fun i p hp => ⟨keep_cell hb (hc i p hp).1, keep_cell hb (hc i p hp).2⟩⟩
theorem PuAt.get {w : World} {A : Option Addr} {l : List Pul} (h : PuAt w A l) {k : Nat} (hk : k < l.length) : ∃ a, A = some a ∧ w.cell? (a.add (k * 2)) = some (.int .i64 l[k].tide) ∧ w.cell? (at_ (a.add (k * 2)) 1) = some (.int .i64 l[k].bal) := by
  obtain ⟨a, ha, hc⟩ := h (fun e => by simp [e] at hk)
  exact ⟨a, ha, hc k _ (List.getElem?_eq_getElem hk)⟩

theorem ret_int {k : IntKind} {a b : Int} (h : a = b) : Ending.returned (.int k a) = .returned (.int k b) := by rw [h]
theorem ret_bool {a b : Bool} (h : a = b) : Ending.returned (.bool a) = .returned (.bool b) := by rw [h]
end Td
end Go.Proofs.Ytojpiliamecgkaa
