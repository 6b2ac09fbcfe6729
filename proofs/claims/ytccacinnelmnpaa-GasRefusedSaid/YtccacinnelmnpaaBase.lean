import Derived.Test.YtccacinnelmnpaaRows
import Derived.Test.YtccacinnelmnpaaPlain
import Derived.WalkKit
import Derived.WalkSpells
import Derived.WalkLawsBesides
import Derived.Lib.Hide
import Derived.Deep.Draws
import Derived.Deep.QuietTactic
import Derived.BigQuiet
import Derived.IntWalk
import Derived.Laws.Rows
import Derived.Laws.CopyOwn
namespace Go.Proofs.Ytccacinnelmnpaa
open Go.RowKit
namespace Td

theorem add_block (a : Addr) (n : Nat) : (a.add n).block = a.block := by unfold Addr.add; split <;> rfl
theorem cell_lt {w : World} {a : Addr} {v : Value} (h : w.cell? a = some v) : a.block < w.heap.size := by
  unfold World.cell? at h
  rcases Nat.lt_or_ge a.block w.heap.size with hlt | hge
  · exact hlt
  · rw [Array.getElem?_eq_none hge] at h; simp at h
theorem keep_cell {w w' : World} {a : Addr} {v : Value} (hb : Below w.heap.size w w') (h : w.cell? a = some v) : w'.cell? a = some v := (hb.cell (cell_lt h)).trans h

theorem bdrew {B : Nat} {a w : World} (h : Below B a w) (n : Nat) : Below B a (w.drewN n) := ⟨h.os, h.tape, h.output, h.size, h.block⟩
/-- the j-th address behind a. -/
abbrev at_ (a : Addr) (j : Nat) : Addr := { block := a.block, off := a.off + j }

theorem bjoin {B : Nat} {a w w' : World} (h : Below w.heap.size w w') (k : Below B a w) (hB : B ≤ w.heap.size) : Below B a w' := k.trans (h.mono hB)
theorem oldCell {W w1 : World} (hb : Below W.heap.size W w1) : (∀ b o, b < W.heap.size → w1.cell? ⟨b, o, none⟩ = W.cell? ⟨b, o, none⟩) ∧ (∀ b o, b < W.heap.size → w1.frozen? ⟨b, o, none⟩ = W.frozen? ⟨b, o, none⟩) ∧ W.heap.size ≤ w1.heap.size :=
  ⟨fun b o h => hb.cell (p := ⟨b, o, none⟩) h, fun b o h => hb.frozen (p := ⟨b, o, none⟩) h, hb.size⟩

/-- a block that is known whole, none of it frozen. -/
def Blk (w : World) (g : Nat) (t : TypeId) (cs : Array Value) : Prop := w.heap[g]? = some (.cells cs t (0, 0))
theorem Blk.lt {w : World} {g : Nat} {t : TypeId} {cs : Array Value} (h : Blk w g t cs) : g < w.heap.size := by
  rcases Nat.lt_or_ge g w.heap.size with hlt | hge
  · exact hlt
  · unfold Blk at h; rw [Array.getElem?_eq_none hge] at h; cases h
theorem Blk.cell {w : World} {g : Nat} {t : TypeId} {cs : Array Value} (h : Blk w g t cs) (i : Nat) : w.cell? ⟨g, i, none⟩ = cs[i]? := by
  unfold Blk at h
  simp [World.cell?, h]
theorem Blk.frozen {w : World} {g : Nat} {t : TypeId} {cs : Array Value} (h : Blk w g t cs) (i : Nat) : w.frozen? ⟨g, i, none⟩ = false := by
  unfold Blk at h
  simp [World.frozen?, h]
theorem Blk.new (w : World) (t : TypeId) (cs : Array Value) : Blk (w.alloc (.cells cs t)) w.heap.size t cs := heap_alloc_new w _
theorem Blk.alloc {w : World} {g : Nat} {t : TypeId} {cs : Array Value} (h : Blk w g t cs) (o : Obj) : Blk (w.alloc o) g t cs := (Below.heap_alloc w o g h.lt).trans h
theorem Blk.keep {w w' : World} {g : Nat} {t : TypeId} {cs : Array Value} (h : Blk w g t cs) (hb : Below w.heap.size w w') : Blk w' g t cs := (hb.block g h.lt).trans h
theorem Blk.drew {w : World} {g : Nat} {t : TypeId} {cs : Array Value} (h : Blk w g t cs) : Blk w.drew g t cs := h
theorem Blk.set {w : World} {g : Nat} {t : TypeId} {cs : Array Value} (h : Blk w g t cs) (i : Nat) (u : Value) : Blk (w.setCell ⟨g, i, none⟩ u) g t (cs.setIfInBounds i u) := by
  unfold Blk at h ⊢
  simp [World.setCell, Array.getElem?_modify, h]
theorem Blk.far {w : World} {g : Nat} {t : TypeId} {cs : Array Value} (h : Blk w g t cs) {g' : Nat} (hg : g' ≠ g) (i : Nat) (u : Value) : Blk (w.setCell ⟨g', i, none⟩ u) g t cs := by
  unfold Blk at h ⊢
  simp [World.setCell, Array.getElem?_modify, h, hg]

theorem Blk.row {w : World} {g : Nat} {t : TypeId} {old : Array Value} (h : Blk w g t old) (cs : Array Value) : Blk (w.setRow g cs) g t cs := setRow_heap w g old cs t (0, 0) h
theorem Blk.rowFar {w : World} {g : Nat} {t : TypeId} {cs : Array Value} (h : Blk w g t cs) {g' : Nat} (hg : g' ≠ g) (new : Array Value) : Blk (w.setRow g' new) g t cs := (setRow_other w g' g new (Ne.symm hg)).trans h
/-- a block that was laid behind another one, or two. -/
theorem Blk.new1 (w : World) (o : Obj) (t : TypeId) (cs : Array Value) : Blk ((w.alloc o).alloc (.cells cs t)) (w.heap.size + 1) t cs := by
  have h := Blk.new (w.alloc o) t cs
  rwa [World.size_alloc] at h
theorem Blk.new2 (w : World) (o o' : Obj) (t : TypeId) (cs : Array Value) : Blk (((w.alloc o).alloc o').alloc (.cells cs t)) (w.heap.size + 1 + 1) t cs := by
  have h := Blk.new ((w.alloc o).alloc o') t cs
  rwa [World.size_alloc, World.size_alloc] at h
theorem Blk.new3 (w : World) (o o' o'' : Obj) (t : TypeId) (cs : Array Value) : Blk ((((w.alloc o).alloc o').alloc o'').alloc (.cells cs t)) (w.heap.size + 1 + 1 + 1) t cs := by
  have h := Blk.new (((w.alloc o).alloc o').alloc o'') t cs
  rwa [World.size_alloc, World.size_alloc, World.size_alloc] at h

/-- w' is w as far as w went. -/
abbrev Since (w W : World) : Prop := Below w.heap.size w W ∧ w.heap.size ≤ W.heap.size
theorem Since.keep {w W W' : World} (h : Since w W) (hb : Below W.heap.size W W') : Since w W' := ⟨h.1.trans (hb.mono h.2), Nat.le_trans h.2 hb.size⟩
theorem Since.drew {w W : World} (h : Since w W) : Since w W.drew := ⟨h.1.drew, h.2⟩
theorem Since.of {w W : World} (h : Below w.heap.size w W) : Since w W := ⟨h, h.size⟩
theorem Since.refl (w : World) : Since w w := ⟨Below.refl _ _, Nat.le_refl _⟩
theorem Since.row {w W : World} (h : Since w W) {g : Nat} (hg : w.heap.size ≤ g) (cs : Array Value) : Since w (W.setRow g cs) := ⟨below_setRow h.1 hg cs, by rw [size_setRow]; exact h.2⟩
theorem Since.alloc {w W : World} (h : Since w W) (o : Obj) : Since w (W.alloc o) := ⟨h.1.alloc h.2 _, by have := h.2; simp; omega⟩

def I64 (x : Int) : Prop := -9223372036854775808 ≤ x ∧ x ≤ 9223372036854775807

theorem add_new (g i : Nat) : (⟨g, 0, none⟩ : Addr).add i = ⟨g, i, none⟩ := by unfold Addr.add; split <;> simp_all
/-- spans in a row. -/
def SpAt (w : World) (A : Option Addr) (l : List (Int × Int)) : Prop :=
  l ≠ [] → ∃ a, A = some a ∧ ∀ i p, l[i]? = some p → w.cell? (a.add (i * 2)) = some (.int .i64 p.1) ∧ w.cell? (at_ (a.add (i * 2)) 1) = some (.int .i64 p.2)
theorem SpAt.keep {w w' : World} {A : Option Addr} {l : List (Int × Int)} (h : SpAt w A l) (hb : Below w.heap.size w w') : SpAt w' A l := fun hx =>
  let ⟨a, ha, hc⟩ := h hx; ⟨a, ha, fun i p hp => ⟨keep_cell hb (hc i p hp).1, keep_cell hb (hc i p hp).2⟩⟩
theorem SpAt.get {w : World} {A : Option Addr} {l : List (Int × Int)} (h : SpAt w A l) {k : Nat} (hk : k < l.length) : ∃ a, A = some a ∧ w.cell? (a.add (k * 2)) = some (.int .i64 l[k].1) ∧ w.cell? (at_ (a.add (k * 2)) 1) = some (.int .i64 l[k].2) := by
  obtain ⟨a, ha, hc⟩ := h (fun e => by simp [e] at hk)
  exact ⟨a, ha, hc k _ (List.getElem?_eq_getElem hk)⟩
theorem SpAt.take {w : World} {A : Option Addr} {l : List (Int × Int)} (h : SpAt w A l) (k : Nat) : SpAt w A (l.take k) := fun hx => by
  obtain ⟨a, ha, hc⟩ := h (fun e => hx (by rw [e]; exact List.take_nil))
  refine ⟨a, ha, fun i p hp => hc i p ?_⟩
  rw [List.getElem?_take] at hp
  by_cases hik : i < k
  · rw [if_pos hik] at hp; exact hp
  · rw [if_neg hik] at hp; cases hp
/-- instruments in a row. -/
def TlAt (w : World) (A : Option Addr) (l : List Tl) : Prop :=
  l ≠ [] → ∃ a, A = some a ∧ ∀ i p, l[i]? = some p → w.cell? (a.add (i * 2)) = some (.string p.name) ∧ w.cell? (at_ (a.add (i * 2)) 1) = some (.int .i64 p.err)
theorem TlAt.keep {w w' : World} {A : Option Addr} {l : List Tl} (h : TlAt w A l) (hb : Below w.heap.size w w') : TlAt w' A l := fun hx =>
  let ⟨a, ha, hc⟩ := h hx; ⟨a, ha, fun i p hp => ⟨keep_cell hb (hc i p hp).1, keep_cell hb (hc i p hp).2⟩⟩
theorem TlAt.get {w : World} {A : Option Addr} {l : List Tl} (h : TlAt w A l) {k : Nat} (hk : k < l.length) : ∃ a, A = some a ∧ w.cell? (a.add (k * 2)) = some (.string l[k].name) ∧ w.cell? (at_ (a.add (k * 2)) 1) = some (.int .i64 l[k].err) := by
  obtain ⟨a, ha, hc⟩ := h (fun e => by simp [e] at hk)
  exact ⟨a, ha, hc k _ (List.getElem?_eq_getElem hk)⟩
theorem TlAt.take {w : World} {A : Option Addr} {l : List Tl} (h : TlAt w A l) (k : Nat) : TlAt w A (l.take k) := fun hx => by
  obtain ⟨a, ha, hc⟩ := h (fun e => hx (by rw [e]; exact List.take_nil))
  refine ⟨a, ha, fun i p hp => hc i p ?_⟩
  rw [List.getElem?_take] at hp
  by_cases hik : i < k
  · rw [if_pos hik] at hp; exact hp
  · rw [if_neg hik] at hp; cases hp
/-- the cells of a reading. -/
abbrev rV (r : Rd) : Array Value := #[.int .i64 r.min, .int .i64 r.tool, .int .i64 r.shown]
/-- readings in a row. -/
def RdAt (w : World) (A : Option Addr) (l : List Rd) : Prop :=
  l ≠ [] → ∃ a, A = some a ∧ ∀ i p, l[i]? = some p → w.cell? (a.add (i * 3)) = some (.int .i64 p.min) ∧ w.cell? (at_ (a.add (i * 3)) 1) = some (.int .i64 p.tool) ∧ w.cell? (at_ (a.add (i * 3)) 2) = some (.int .i64 p.shown)
theorem RdAt.keep {w w' : World} {A : Option Addr} {l : List Rd} (h : RdAt w A l) (hb : Below w.heap.size w w') : RdAt w' A l := fun hx =>
  let ⟨a, ha, hc⟩ := h hx; ⟨a, ha, fun i p hp => ⟨keep_cell hb (hc i p hp).1, keep_cell hb (hc i p hp).2.1, keep_cell hb (hc i p hp).2.2⟩⟩
theorem RdAt.get {w : World} {A : Option Addr} {l : List Rd} (h : RdAt w A l) {k : Nat} (hk : k < l.length) : ∃ a, A = some a ∧ w.cell? (a.add (k * 3)) = some (.int .i64 l[k].min) ∧ w.cell? (at_ (a.add (k * 3)) 1) = some (.int .i64 l[k].tool) ∧ w.cell? (at_ (a.add (k * 3)) 2) = some (.int .i64 l[k].shown) := by
  obtain ⟨a, ha, hc⟩ := h (fun e => by simp [e] at hk)
  exact ⟨a, ha, hc k _ (List.getElem?_eq_getElem hk)⟩
/-- where a space's two lists lie. -/
structure Sl where
  A : Option Addr
  c : Nat
  T : Option Addr
  d : Nat
/-- the cells of a space. -/
abbrev sV (s : Spc) (m : Sl) : Array Value := #[.int .i64 s.s0, .int .i64 s.s1, .int .i64 s.r0, .int .i64 s.r1, .int .i64 s.b0, .int .i64 s.b1, .int .i64 s.lim, .slice m.A s.blows.length m.c, .slice m.T s.tools.length m.d]
/-- a space lies in memory. -/
structure SAt (w : World) (m : Sl) (s : Spc) : Prop where
  bl : SpAt w m.A s.blows
  tl : TlAt w m.T s.tools
  bc : s.blows.length ≤ m.c
  tc : s.tools.length ≤ m.d
  cM : m.c ≤ 9223372036854775807
  dM : m.d ≤ 9223372036854775807
  nm : ∀ t ∈ s.tools, t.name.size ≤ maxLen
theorem SAt.keep {w w' : World} {m : Sl} {s : Spc} (h : SAt w m s) (hb : Below w.heap.size w w') : SAt w' m s := ⟨h.bl.keep hb, h.tl.keep hb, h.bc, h.tc, h.cM, h.dM, h.nm⟩
theorem Blk.space {w : World} {g : Nat} {t : TypeId} {s : Spc} {m : Sl} (h : Blk w g t (sV s m)) :
    w.cell? ⟨g, 0, none⟩ = some (.int .i64 s.s0) ∧ w.cell? ⟨g, 1, none⟩ = some (.int .i64 s.s1) ∧ w.cell? ⟨g, 2, none⟩ = some (.int .i64 s.r0) ∧ w.cell? ⟨g, 3, none⟩ = some (.int .i64 s.r1) ∧ w.cell? ⟨g, 4, none⟩ = some (.int .i64 s.b0) ∧ w.cell? ⟨g, 5, none⟩ = some (.int .i64 s.b1) ∧ w.cell? ⟨g, 6, none⟩ = some (.int .i64 s.lim) ∧ w.cell? ⟨g, 7, none⟩ = some (.slice m.A s.blows.length m.c) ∧ w.cell? ⟨g, 8, none⟩ = some (.slice m.T s.tools.length m.d) :=
  ⟨h.cell 0, h.cell 1, h.cell 2, h.cell 3, h.cell 4, h.cell 5, h.cell 6, h.cell 7, h.cell 8⟩

theorem ret_int {k : IntKind} {a b : Int} (h : a = b) : Ending.returned (.int k a) = .returned (.int k b) := by rw [h]
theorem ret_bool {a b : Bool} (h : a = b) : Ending.returned (.bool a) = .returned (.bool b) := by rw [h]
end Td
end Go.Proofs.Ytccacinnelmnpaa
