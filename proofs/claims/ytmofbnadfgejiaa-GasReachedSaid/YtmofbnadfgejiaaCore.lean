import Derived.Test.YtmofbnadfgejiaaRows
import Derived.Test.YtmofbnadfgejiaaMath
import Derived.WalkKit
import Derived.WalkSpells
import Derived.WalkLawsBesides
import Derived.Lib.Hide
import Derived.Deep.Draws
import Derived.Deep.QuietTactic
import Derived.BigQuiet
import Derived.IntWalk
import Derived.Laws.Rows
import Derived.Laws.CopyOwn
import Derived.Orders
import Derived.RegionTactic
import Derived.KernelRfl
namespace Go.Proofs.Ytmofbnadfgejiaa
open Go.RowKit
namespace Td

theorem add_block (a : Addr) (n : Nat) : (a.add n).block = a.block := by unfold Addr.add; split <;> rfl
theorem cell_lt {w : World} {a : Addr} {v : Value} (h : w.cell? a = some v) : a.block < w.heap.size := by
  unfold World.cell? at h
  rcases Nat.lt_or_ge a.block w.heap.size with hlt | hge
  · exact hlt
  · rw [Array.getElem?_eq_none hge] at h; simp at h
theorem keep_cell {w w' : World} {a : Addr} {v : Value} (hb : Below w.heap.size w w') (h : w.cell? a = some v) : w'.cell? a = some v := (hb.cell (cell_lt h)).trans h

theorem bdrew {B : Nat} {a w : World} (h : Below B a w) (n : Nat) : Below B a (w.drewN n) := ⟨h.os, h.tape, h.output, h.size, h.block⟩
/-- the j-th address behind a. -/
abbrev at_ (a : Addr) (j : Nat) : Addr := { block := a.block, off := a.off + j }

theorem bjoin {B : Nat} {a w w' : World} (h : Below w.heap.size w w') (k : Below B a w) (hB : B ≤ w.heap.size) : Below B a w' := k.trans (h.mono hB)
theorem oldCell {W w1 : World} (hb : Below W.heap.size W w1) : (∀ b o, b < W.heap.size → w1.cell? ⟨b, o, none⟩ = W.cell? ⟨b, o, none⟩) ∧ (∀ b o, b < W.heap.size → w1.frozen? ⟨b, o, none⟩ = W.frozen? ⟨b, o, none⟩) ∧ W.heap.size ≤ w1.heap.size :=
  ⟨fun b o h => hb.cell (p := ⟨b, o, none⟩) h, fun b o h => hb.frozen (p := ⟨b, o, none⟩) h, hb.size⟩

/-- a block that is known whole, none of it frozen. -/
def Blk (w : World) (g : Nat) (t : TypeId) (cs : Array Value) : Prop := w.heap[g]? = some (.cells cs t (0, 0))
theorem Blk.lt {w : World} {g : Nat} {t : TypeId} {cs : Array Value} (h : Blk w g t cs) : g < w.heap.size := by
  rcases Nat.lt_or_ge g w.heap.size with hlt | hge
  · exact hlt
  · unfold Blk at h; rw [Array.getElem?_eq_none hge] at h; cases h
theorem Blk.cell {w : World} {g : Nat} {t : TypeId} {cs : Array Value} (h : Blk w g t cs) (i : Nat) : w.cell? ⟨g, i, none⟩ = cs[i]? := by
  unfold Blk at h
  simp [World.cell?, h]
theorem Blk.frozen {w : World} {g : Nat} {t : TypeId} {cs : Array Value} (h : Blk w g t cs) (i : Nat) : w.frozen? ⟨g, i, none⟩ = false := by
  unfold Blk at h
  simp [World.frozen?, h]
theorem Blk.new (w : World) (t : TypeId) (cs : Array Value) : Blk (w.alloc (.cells cs t)) w.heap.size t cs := heap_alloc_new w _
theorem Blk.alloc {w : World} {g : Nat} {t : TypeId} {cs : Array Value} (h : Blk w g t cs) (o : Obj) : Blk (w.alloc o) g t cs := (Below.heap_alloc w o g h.lt).trans h
theorem Blk.keep {w w' : World} {g : Nat} {t : TypeId} {cs : Array Value} (h : Blk w g t cs) (hb : Below w.heap.size w w') : Blk w' g t cs := (hb.block g h.lt).trans h
theorem Blk.drew {w : World} {g : Nat} {t : TypeId} {cs : Array Value} (h : Blk w g t cs) : Blk w.drew g t cs := h
theorem Blk.set {w : World} {g : Nat} {t : TypeId} {cs : Array Value} (h : Blk w g t cs) (i : Nat) (u : Value) : Blk (w.setCell ⟨g, i, none⟩ u) g t (cs.setIfInBounds i u) := by
  unfold Blk at h ⊢
  simp [World.setCell, Array.getElem?_modify, h]
theorem Blk.far {w : World} {g : Nat} {t : TypeId} {cs : Array Value} (h : Blk w g t cs) {g' : Nat} (hg : g' ≠ g) (i : Nat) (u : Value) : Blk (w.setCell ⟨g', i, none⟩ u) g t cs := by
  unfold Blk at h ⊢
  simp [World.setCell, Array.getElem?_modify, h, hg]

theorem Blk.row {w : World} {g : Nat} {t : TypeId} {old : Array Value} (h : Blk w g t old) (cs : Array Value) : Blk (w.setRow g cs) g t cs := setRow_heap w g old cs t (0, 0) h
theorem Blk.rowFar {w : World} {g : Nat} {t : TypeId} {cs : Array Value} (h : Blk w g t cs) {g' : Nat} (hg : g' ≠ g) (new : Array Value) : Blk (w.setRow g' new) g t cs := (setRow_other w g' g new (Ne.symm hg)).trans h
/-- a block that was laid behind another one, or two. -/
theorem Blk.new1 (w : World) (o : Obj) (t : TypeId) (cs : Array Value) : Blk ((w.alloc o).alloc (.cells cs t)) (w.heap.size + 1) t cs := by
  have h := Blk.new (w.alloc o) t cs
  rwa [World.size_alloc] at h
theorem Blk.new2 (w : World) (o o' : Obj) (t : TypeId) (cs : Array Value) : Blk (((w.alloc o).alloc o').alloc (.cells cs t)) (w.heap.size + 1 + 1) t cs := by
  have h := Blk.new ((w.alloc o).alloc o') t cs
  rwa [World.size_alloc, World.size_alloc] at h
theorem Blk.new3 (w : World) (o o' o'' : Obj) (t : TypeId) (cs : Array Value) : Blk ((((w.alloc o).alloc o').alloc o'').alloc (.cells cs t)) (w.heap.size + 1 + 1 + 1) t cs := by
  have h := Blk.new (((w.alloc o).alloc o').alloc o'') t cs
  rwa [World.size_alloc, World.size_alloc, World.size_alloc] at h

/-- w' is w as far as w went. -/
abbrev Since (w W : World) : Prop := Below w.heap.size w W ∧ w.heap.size ≤ W.heap.size
theorem Since.keep {w W W' : World} (h : Since w W) (hb : Below W.heap.size W W') : Since w W' := ⟨h.1.trans (hb.mono h.2), Nat.le_trans h.2 hb.size⟩
theorem Since.drew {w W : World} (h : Since w W) : Since w W.drew := ⟨h.1.drew, h.2⟩
theorem Since.of {w W : World} (h : Below w.heap.size w W) : Since w W := ⟨h, h.size⟩
theorem Since.refl (w : World) : Since w w := ⟨Below.refl _ _, Nat.le_refl _⟩
theorem Since.row {w W : World} (h : Since w W) {g : Nat} (hg : w.heap.size ≤ g) (cs : Array Value) : Since w (W.setRow g cs) := ⟨below_setRow h.1 hg cs, by rw [size_setRow]; exact h.2⟩
theorem Since.alloc {w W : World} (h : Since w W) (o : Obj) : Since w (W.alloc o) := ⟨h.1.alloc h.2 _, by have := h.2; simp; omega⟩

def I64 (x : Int) : Prop := -9223372036854775808 ≤ x ∧ x ≤ 9223372036854775807

theorem add_new (g i : Nat) : (⟨g, 0, none⟩ : Addr).add i = ⟨g, i, none⟩ := by unfold Addr.add; split <;> simp_all
/-- spans in a row. -/
def SpAt (w : World) (A : Option Addr) (l : List (Int × Int)) : Prop :=
  l ≠ [] → ∃ a, A = some a ∧ ∀ i p, l[i]? = some p → w.cell? (a.add (i * 2)) = some (.int .i64 p.1) ∧ w.cell? (at_ (a.add (i * 2)) 1) = some (.int .i64 p.2)
theorem SpAt.keep {w w' : World} {A : Option Addr} {l : List (Int × Int)} (h : SpAt w A l) (hb : Below w.heap.size w w') : SpAt w' A l := fun hx =>
  let ⟨a, ha, hc⟩ := h hx; ⟨a, ha, fun i p hp => ⟨keep_cell hb (hc i p hp).1, keep_cell hb (hc i p hp).2⟩⟩
theorem SpAt.get {w : World} {A : Option Addr} {l : List (Int × Int)} (h : SpAt w A l) {k : Nat} (hk : k < l.length) : ∃ a, A = some a ∧ w.cell? (a.add (k * 2)) = some (.int .i64 l[k].1) ∧ w.cell? (at_ (a.add (k * 2)) 1) = some (.int .i64 l[k].2) := by
  obtain ⟨a, ha, hc⟩ := h (fun e => by simp [e] at hk)
  exact ⟨a, ha, hc k _ (List.getElem?_eq_getElem hk)⟩
theorem SpAt.take {w : World} {A : Option Addr} {l : List (Int × Int)} (h : SpAt w A l) (k : Nat) : SpAt w A (l.take k) := fun hx => by
  obtain ⟨a, ha, hc⟩ := h (fun e => hx (by rw [e]; exact List.take_nil))
  refine ⟨a, ha, fun i p hp => hc i p ?_⟩
  rw [List.getElem?_take] at hp
  by_cases hik : i < k
  · rw [if_pos hik] at hp; exact hp
  · rw [if_neg hik] at hp; cases hp
/-- instruments in a row. -/
def TlAt (w : World) (A : Option Addr) (l : List Tl) : Prop :=
  l ≠ [] → ∃ a, A = some a ∧ ∀ i p, l[i]? = some p → w.cell? (a.add (i * 2)) = some (.string p.name) ∧ w.cell? (at_ (a.add (i * 2)) 1) = some (.int .i64 p.err)
theorem TlAt.keep {w w' : World} {A : Option Addr} {l : List Tl} (h : TlAt w A l) (hb : Below w.heap.size w w') : TlAt w' A l := fun hx =>
  let ⟨a, ha, hc⟩ := h hx; ⟨a, ha, fun i p hp => ⟨keep_cell hb (hc i p hp).1, keep_cell hb (hc i p hp).2⟩⟩
theorem TlAt.get {w : World} {A : Option Addr} {l : List Tl} (h : TlAt w A l) {k : Nat} (hk : k < l.length) : ∃ a, A = some a ∧ w.cell? (a.add (k * 2)) = some (.string l[k].name) ∧ w.cell? (at_ (a.add (k * 2)) 1) = some (.int .i64 l[k].err) := by
  obtain ⟨a, ha, hc⟩ := h (fun e => by simp [e] at hk)
  exact ⟨a, ha, hc k _ (List.getElem?_eq_getElem hk)⟩
theorem TlAt.take {w : World} {A : Option Addr} {l : List Tl} (h : TlAt w A l) (k : Nat) : TlAt w A (l.take k) := fun hx => by
  obtain ⟨a, ha, hc⟩ := h (fun e => hx (by rw [e]; exact List.take_nil))
  refine ⟨a, ha, fun i p hp => hc i p ?_⟩
  rw [List.getElem?_take] at hp
  by_cases hik : i < k
  · rw [if_pos hik] at hp; exact hp
  · rw [if_neg hik] at hp; cases hp
/-- the cells of a reading. -/
abbrev rV (r : Rd) : Array Value := #[.int .i64 r.min, .int .i64 r.tool, .int .i64 r.shown]
/-- readings in a row. -/
def RdAt (w : World) (A : Option Addr) (l : List Rd) : Prop :=
  l ≠ [] → ∃ a, A = some a ∧ ∀ i p, l[i]? = some p → w.cell? (a.add (i * 3)) = some (.int .i64 p.min) ∧ w.cell? (at_ (a.add (i * 3)) 1) = some (.int .i64 p.tool) ∧ w.cell? (at_ (a.add (i * 3)) 2) = some (.int .i64 p.shown)
theorem RdAt.keep {w w' : World} {A : Option Addr} {l : List Rd} (h : RdAt w A l) (hb : Below w.heap.size w w') : RdAt w' A l := fun hx =>
  let ⟨a, ha, hc⟩ := h hx; ⟨a, ha, fun i p hp => ⟨keep_cell hb (hc i p hp).1, keep_cell hb (hc i p hp).2.1, keep_cell hb (hc i p hp).2.2⟩⟩
theorem RdAt.get {w : World} {A : Option Addr} {l : List Rd} (h : RdAt w A l) {k : Nat} (hk : k < l.length) : ∃ a, A = some a ∧ w.cell? (a.add (k * 3)) = some (.int .i64 l[k].min) ∧ w.cell? (at_ (a.add (k * 3)) 1) = some (.int .i64 l[k].tool) ∧ w.cell? (at_ (a.add (k * 3)) 2) = some (.int .i64 l[k].shown) := by
  obtain ⟨a, ha, hc⟩ := h (fun e => by simp [e] at hk)
  exact ⟨a, ha, hc k _ (List.getElem?_eq_getElem hk)⟩
/-- where a space's two lists lie. -/
structure Sl where
  A : Option Addr
  c : Nat
  T : Option Addr
  d : Nat
/-- the cells of a space. -/
abbrev sV (s : Spc) (m : Sl) : Array Value := #[.int .i64 s.s0, .int .i64 s.s1, .int .i64 s.r0, .int .i64 s.r1, .int .i64 s.b0, .int .i64 s.b1, .int .i64 s.lim, .slice m.A s.blows.length m.c, .slice m.T s.tools.length m.d]
/-- a space lies in memory. -/
structure SAt (w : World) (m : Sl) (s : Spc) : Prop where
  bl : SpAt w m.A s.blows
  tl : TlAt w m.T s.tools
  bc : s.blows.length ≤ m.c
  tc : s.tools.length ≤ m.d
  cM : m.c ≤ 9223372036854775807
  dM : m.d ≤ 9223372036854775807
  nm : ∀ t ∈ s.tools, t.name.size ≤ maxLen
theorem SAt.keep {w w' : World} {m : Sl} {s : Spc} (h : SAt w m s) (hb : Below w.heap.size w w') : SAt w' m s := ⟨h.bl.keep hb, h.tl.keep hb, h.bc, h.tc, h.cM, h.dM, h.nm⟩
theorem Blk.space {w : World} {g : Nat} {t : TypeId} {s : Spc} {m : Sl} (h : Blk w g t (sV s m)) :
    w.cell? ⟨g, 0, none⟩ = some (.int .i64 s.s0) ∧ w.cell? ⟨g, 1, none⟩ = some (.int .i64 s.s1) ∧ w.cell? ⟨g, 2, none⟩ = some (.int .i64 s.r0) ∧ w.cell? ⟨g, 3, none⟩ = some (.int .i64 s.r1) ∧ w.cell? ⟨g, 4, none⟩ = some (.int .i64 s.b0) ∧ w.cell? ⟨g, 5, none⟩ = some (.int .i64 s.b1) ∧ w.cell? ⟨g, 6, none⟩ = some (.int .i64 s.lim) ∧ w.cell? ⟨g, 7, none⟩ = some (.slice m.A s.blows.length m.c) ∧ w.cell? ⟨g, 8, none⟩ = some (.slice m.T s.tools.length m.d) :=
  ⟨h.cell 0, h.cell 1, h.cell 2, h.cell 3, h.cell 4, h.cell 5, h.cell 6, h.cell 7, h.cell 8⟩

theorem ret_int {k : IntKind} {a b : Int} (h : a = b) : Ending.returned (.int k a) = .returned (.int k b) := by rw [h]
theorem ret_bool {a b : Bool} (h : a = b) : Ending.returned (.bool a) = .returned (.bool b) := by rw [h]
end Td
end Go.Proofs.Ytmofbnadfgejiaa
/- A region that draws its order of evaluation, by the values of its operations: if each operation, whenever what it waits for is done, comes to a value that is known ahead, and keeps S, then the region ends with all these values and S, whatever the order is. One goal an operation. -/
namespace Go.Proofs.Ytmofbnadfgejiaa
namespace Vals
/-- the values, put into the slots. -/
def putAll : List (Option Tmp) → List Value → Array Value → Array Value
  | some d :: ds, v :: vs, t => putAll ds vs (t.setIfInBounds d v)
  | none :: ds, _ :: vs, t => putAll ds vs t
  | [], _, t => t
  | _ :: _, [], t => t
theorem putAll_size : ∀ (ds : List (Option Tmp)) (vs : List Value) (t : Array Value), (putAll ds vs t).size = t.size
  | [], _, _ => by simp [putAll]
  | some d :: ds, v :: vs, t => by simp only [putAll]; rw [putAll_size ds vs]; simp
  | none :: ds, _ :: vs, t => by simp only [putAll]; exact putAll_size ds vs t
  | some _ :: _, [], t => by simp [putAll]
  | none :: _, [], t => by simp [putAll]
theorem putAll_out : ∀ (ds : List (Option Tmp)) (vs : List Value) (t : Array Value) (x : Tmp), (∀ i : Nat, ds[i]? ≠ some (some x)) → (putAll ds vs t)[x]? = t[x]?
  | [], _, _, _, _ => by simp [putAll]
  | some d :: ds, v :: vs, t, x, h => by
    simp only [putAll]
    rw [putAll_out ds vs _ x (fun i => by have := h (i + 1); simpa using this)]
    have hd : d ≠ x := by have := h 0; simpa using this
    rw [Array.getElem?_setIfInBounds_ne hd]
  | none :: ds, _ :: vs, t, x, h => by
    simp only [putAll]
    exact putAll_out ds vs t x (fun i => by have := h (i + 1); simpa using this)
  | some _ :: _, [], t, _, _ => by simp [putAll]
  | none :: _, [], t, _, _ => by simp [putAll]
theorem putAll_in : ∀ (ds : List (Option Tmp)) (vs : List Value) (t : Array Value) (x : Tmp) (i : Nat) (v : Value), (ds.filterMap id).Nodup → x < t.size → ds[i]? = some (some x) → vs[i]? = some v → (putAll ds vs t)[x]? = some v
  | [], _, _, _, i, _, _, _, h, _ => by simp at h
  | _ :: _, [], _, _, i, _, _, _, _, h => by simp at h
  | some d :: ds, u :: vs, t, x, 0, v, hn, hx, h, hv => by
    obtain rfl : d = x := by simpa using h
    obtain rfl : u = v := by simpa using hv
    simp only [putAll]
    have hnot : d ∉ ds.filterMap id := by simp only [List.filterMap_cons, id_eq, List.nodup_cons] at hn; exact hn.1
    rw [putAll_out ds vs _ d (fun i hi => hnot ((List.mem_filterMap (f := id)).2 ⟨some d, List.mem_of_getElem? hi, rfl⟩))]
    simp [hx]
  | some d :: ds, u :: vs, t, x, i + 1, v, hn, hx, h, hv => by
    simp only [putAll]
    refine putAll_in ds vs _ x i v (by simp only [List.filterMap_cons, id_eq, List.nodup_cons] at hn; exact hn.2) (by simpa using hx) (by simpa using h) (by simpa using hv)
  | none :: ds, u :: vs, t, x, 0, v, hn, hx, h, hv => by simp at h
  | none :: ds, u :: vs, t, x, i + 1, v, hn, hx, h, hv => by
    simp only [putAll]
    exact putAll_in ds vs t x i v (by simpa using hn) hx (by simpa using h) (by simpa using hv)
theorem slot_inj : ∀ {ds : List (Option Tmp)} {i j : Nat} {d : Tmp}, (ds.filterMap id).Nodup → ds[i]? = some (some d) → ds[j]? = some (some d) → i = j
  | [], _, _, _, _, h, _ => by simp at h
  | c :: ds, 0, 0, _, _, _, _ => rfl
  | c :: ds, 0, j + 1, d, hn, hi, hj => by
    obtain rfl : c = some d := by simpa using hi
    simp only [List.filterMap_cons, id_eq, List.nodup_cons] at hn
    exact absurd ((List.mem_filterMap (f := id)).2 ⟨some d, List.mem_of_getElem? (i := j) (by simpa using hj), rfl⟩) hn.1
  | c :: ds, i + 1, 0, d, hn, hi, hj => by
    obtain rfl : c = some d := by simpa using hj
    simp only [List.filterMap_cons, id_eq, List.nodup_cons] at hn
    exact absurd ((List.mem_filterMap (f := id)).2 ⟨some d, List.mem_of_getElem? (i := i) (by simpa using hi), rfl⟩) hn.1
  | c :: ds, i + 1, j + 1, d, hn, hi, hj => by
    have hn' : (ds.filterMap id).Nodup := by
      cases c with
      | none => simpa using hn
      | some u => simp only [List.filterMap_cons, id_eq, List.nodup_cons] at hn; exact hn.2
    have := slot_inj (i := i) (j := j) (d := d) hn' (by simpa using hi) (by simpa using hj)
    omega
/-- does the guard of an operation let it run, if the values are these? -/
def guardVal (vs : List Value) (o : Oper) : Bool :=
  match o.guard with
  | none => true
  | some (j, want) => match vs[j]? with | some (.bool b) => b == want | _ => false
/-- is j one of those that an operation waits for? -/
def waits (o : Oper) (j : Nat) : Bool := o.after.any fun e => Region.binds .any e && e.on == j
/-- whatever an operation waits for comes before it. -/
def acyc (ops : Array Oper) : Bool := (List.range ops.size).all fun i => match ops[i]? with
  | some o => o.after.all fun e => !Region.binds .any e || decide (e.on < i)
  | none => true
/-- an operation waits for its guard, which has a slot. -/
def guarded (ops : Array Oper) : Bool := ops.all fun o => match o.guard with
  | none => true
  | some (j, _) => waits o j && ((ops[j]?).bind (·.dst)).isSome
/-- each operation but the last one is waited for by a later one. -/
def lastly (ops : Array Oper) : Bool := (List.range (ops.size - 1)).all fun i => (List.range ops.size).any fun j => decide (i < j) && ((ops[j]?).map (waits · i)).getD false
section
variable {P : Program} {Q : Exit → Act → World → Prop} {S T : World → Prop} {ops : Array Oper} {ds : List (Option Tmp)} {vs : List Value} {a0 : Act}
/-- one operation comes to its value, and T holds behind it. -/
def Step (P : Program) (Q : Exit → Act → World → Prop) (S T : World → Prop) (ds : List (Option Tmp)) (vs : List Value) (a0 : Act) (o : Oper) (v : Value) : Prop :=
  ∀ (a : Act) (w : World), S w →
    (∀ j d u, waits o j = true → ds[j]? = some (some d) → vs[j]? = some u → a.tmps.getD d undef = u) →
    (∀ t u, ds.contains (some t) = false → a0.tmps.getD t undef = u → a.tmps.getD t undef = u) →
    ∀ K : Act → World → Prop, (∀ w', T w' → K (a.put o.dst v) w') → o.wp P a w K Q
/-- the operations, one after the other; T holds behind the last one. -/
inductive Steps (P : Program) (Q : Exit → Act → World → Prop) (S T : World → Prop) (ds : List (Option Tmp)) (vs : List Value) (a0 : Act) : List Oper → List Value → Prop
  | last {o : Oper} {v : Value} (hg : guardVal vs o = true) (h : Step P Q S T ds vs a0 o v) : Steps P Q S T ds vs a0 [o] [v]
  | run {o : Oper} {v : Value} {os : List Oper} {us : List Value} (hg : guardVal vs o = true) (h : Step P Q S S ds vs a0 o v) (r : Steps P Q S T ds vs a0 os us) : Steps P Q S T ds vs a0 (o :: os) (v :: us)
  | skip {o : Oper} {os : List Oper} {us : List Value} (hg : guardVal vs o = false) (r : Steps P Q S T ds vs a0 os us) : Steps P Q S T ds vs a0 (o :: os) (undef :: us)
theorem Steps.pos {os : List Oper} {us : List Value} (h : Steps P Q S T ds vs a0 os us) : 0 < os.length := by
  cases h <;> simp
/-- what is known of one of them. -/
def Known (P : Program) (Q : Exit → Act → World → Prop) (S T : World → Prop) (ds : List (Option Tmp)) (vs : List Value) (a0 : Act) (n i : Nat) (o : Oper) (v : Value) : Prop :=
  (guardVal vs o = true ∧ ((i + 1 = n ∧ Step P Q S T ds vs a0 o v) ∨ (i + 1 < n ∧ Step P Q S S ds vs a0 o v))) ∨ (guardVal vs o = false ∧ v = undef ∧ i + 1 < n)
theorem Steps.get {os : List Oper} {us : List Value} (h : Steps P Q S T ds vs a0 os us) : ∀ {i : Nat} {o : Oper}, os[i]? = some o → ∃ v, us[i]? = some v ∧ Known P Q S T ds vs a0 os.length i o v := by
  induction h with
  | @last o v hg h =>
    intro i o' hi
    match i with
    | 0 => obtain rfl : o = o' := by simpa using hi
           exact ⟨v, rfl, .inl ⟨hg, .inl ⟨rfl, h⟩⟩⟩
    | i + 1 => simp at hi
  | @run o v os us hg h r ih =>
    intro i o' hi
    match i with
    | 0 => obtain rfl : o = o' := by simpa using hi
           exact ⟨v, rfl, .inl ⟨hg, .inr ⟨by have := r.pos; simp; omega, h⟩⟩⟩
    | i + 1 =>
      obtain ⟨u, hu, hk⟩ := ih (i := i) (o := o') (by simpa using hi)
      refine ⟨u, by simpa using hu, ?_⟩
      rcases hk with ⟨h1, ⟨h2, h3⟩ | ⟨h2, h3⟩⟩ | ⟨h1, h2, h3⟩
      · exact .inl ⟨h1, .inl ⟨by simp; omega, h3⟩⟩
      · exact .inl ⟨h1, .inr ⟨by simp; omega, h3⟩⟩
      · exact .inr ⟨h1, h2, by simp; omega⟩
  | @skip o os us hg r ih =>
    intro i o' hi
    match i with
    | 0 => obtain rfl : o = o' := by simpa using hi
           exact ⟨undef, rfl, .inr ⟨hg, rfl, by have := r.pos; simp; omega⟩⟩
    | i + 1 =>
      obtain ⟨u, hu, hk⟩ := ih (i := i) (o := o') (by simpa using hi)
      refine ⟨u, by simpa using hu, ?_⟩
      rcases hk with ⟨h1, ⟨h2, h3⟩ | ⟨h2, h3⟩⟩ | ⟨h1, h2, h3⟩
      · exact .inl ⟨h1, .inl ⟨by simp; omega, h3⟩⟩
      · exact .inl ⟨h1, .inr ⟨by simp; omega, h3⟩⟩
      · exact .inr ⟨h1, h2, by simp; omega⟩
/-- in the middle of the region. -/
structure Mid (ops : Array Oper) (ds : List (Option Tmp)) (vs : List Value) (a0 : Act) (listed : Array Bool) (a : Act) : Prop where
  size : listed.size = ops.size
  defers : a.defers = a0.defers
  tsize : a.tmps.size = a0.tmps.size
  done : ∀ (i : Nat) (d : Tmp) (v : Value), listed[i]? = some true → ds[i]? = some (some d) → vs[i]? = some v → a.tmps[d]? = some v
  old : ∀ t : Tmp, (∀ i : Nat, listed[i]? = some true → ds[i]? ≠ some (some t)) → a.tmps[t]? = a0.tmps[t]?
  down : ∀ (i j : Nat) (o : Oper), listed[i]? = some true → ops[i]? = some o → waits o j = true → listed[j]? = some true
/-- S before the last operation, T behind it. -/
def At (S T : World → Prop) (ops : Array Oper) (listed : Array Bool) (w : World) : Prop := (listed[ops.size - 1]? = some true ∧ T w) ∨ (listed[ops.size - 1]? = some false ∧ S w)
theorem all_of_last {listed : Array Bool} {a : Act} (hW : lastly ops = true) (hM : Mid ops ds vs a0 listed a) (hl : listed[ops.size - 1]? = some true) : ∀ k i, i + k = ops.size - 1 → i < ops.size → listed[i]? = some true := by
  intro k
  induction k using Nat.strongRecOn with
  | _ k ih =>
    intro i hik hi
    rcases Nat.eq_zero_or_pos k with h0 | h0
    · rw [show i = ops.size - 1 by omega]; exact hl
    · unfold lastly at hW
      have h1 := List.all_eq_true.1 hW i (List.mem_range.2 (by omega))
      obtain ⟨j, hj, hw⟩ := List.any_eq_true.1 h1
      have hjs := List.mem_range.1 hj
      simp only [Bool.and_eq_true, decide_eq_true_eq] at hw
      obtain ⟨hij, hw⟩ := hw
      rw [Array.getElem?_eq_getElem hjs] at hw
      have hj' := ih (k - (j - i)) (by omega) j (by omega) hjs
      exact hM.down j i ops[j] hj' (Array.getElem?_eq_getElem hjs) (by simpa using hw)
theorem ready_spec {listed : Array Bool} {i : Nat} : i ∈ Region.ready .any ops listed ↔ i < ops.size ∧ listed.getD i true = false ∧ ∃ o, ops[i]? = some o ∧ ∀ e ∈ o.after, Region.binds .any e = true → listed.getD e.on false = true := by
  unfold Region.ready
  simp only [List.mem_filter, List.mem_range, Bool.and_eq_true, Bool.not_eq_true']
  constructor
  · rintro ⟨h1, h2, h3⟩
    refine ⟨h1, h2, ops[i], Array.getElem?_eq_getElem h1, fun e he hb => ?_⟩
    rw [Array.getElem?_eq_getElem h1] at h3
    simp only [Option.map_some, Option.getD_some, Array.all_eq_true_iff_forall_mem] at h3
    have := h3 e he
    rw [hb] at this
    simpa using this
  · rintro ⟨h1, h2, o, h3, h4⟩
    refine ⟨h1, h2, ?_⟩
    rw [h3]
    simp only [Option.map_some, Option.getD_some, Array.all_eq_true_iff_forall_mem]
    intro e he
    cases hb : Region.binds .any e
    · simp
    · simp [h4 e he hb]
theorem all_of_none {listed : Array Bool} (hA : acyc ops = true) (hsz : listed.size = ops.size) (h : Region.ready .any ops listed = []) : ∀ i, i < ops.size → listed[i]? = some true := by
  intro i
  induction i using Nat.strongRecOn with
  | _ i ih =>
    intro hi
    have hli : i < listed.size := by omega
    rw [Array.getElem?_eq_getElem hli]
    cases hv : listed[i]
    · exfalso
      have hmem : i ∈ Region.ready .any ops listed := by
        rw [ready_spec]
        refine ⟨hi, ?_, ops[i], Array.getElem?_eq_getElem hi, fun e he hb => ?_⟩
        · simp [Array.getD, hli, hv]
        · unfold acyc at hA
          have h1 := List.all_eq_true.1 hA i (List.mem_range.2 hi)
          rw [Array.getElem?_eq_getElem hi] at h1
          have h2 := Array.all_eq_true_iff_forall_mem.1 h1 e he
          rw [hb] at h2
          have hlt : e.on < i := by simpa using h2
          have h3 := ih e.on hlt (by omega)
          have hle : e.on < listed.size := by omega
          rw [Array.getElem?_eq_getElem hle] at h3
          simp [Array.getD, hle]
          simpa using h3
      rw [h] at hmem
      cases hmem
    · rfl
theorem getD_of {α : Type} {a : Array α} {i : Nat} {d u : α} (h : a[i]? = some u) : a.getD i d = u := by simp [Array.getD_eq_getD_getElem?, h]
theorem go (hds : ops.toList.map (·.dst) = ds) (hA : acyc ops = true) (hG : guarded ops = true) (hN : (ds.filterMap id).Nodup) (hL : ∀ d, some d ∈ ds → d < a0.tmps.size)
    (hW : lastly ops = true) (hst : Steps P Q S T ds vs a0 ops.toList vs) (hend : ∀ w, T w → Q .normal { a0 with tmps := putAll ds vs a0.tmps } w) :
    ∀ (fuel : Nat) (listed : Array Bool) (a : Act) (w : World), Mid ops ds vs a0 listed a → At S T ops listed w → listed.toList.countP (!·) ≤ fuel → wpAny P .any ops Q fuel listed a w := by
  have hat : ∀ {i : Nat} {o : Oper}, ops[i]? = some o → ds[i]? = some o.dst := fun {i o} h => by
    rw [← hds, List.getElem?_map]
    rw [show ops.toList[i]? = ops[i]? from by simp, h]; rfl
  have hfin : ∀ (listed : Array Bool) (a : Act) (w : World), Mid ops ds vs a0 listed a → At S T ops listed w → (∀ i, i < ops.size → listed[i]? = some true) → Q .normal a w := by
    intro listed a w hM hS hall
    have hdl : ds.length = ops.size := by rw [← hds]; simp
    have hev : ∀ i, i < ops.size → ∃ v, vs[i]? = some v := fun i hi => by
      obtain ⟨v, hv, _⟩ := hst.get (i := i) (o := ops[i]) (by simp [hi])
      exact ⟨v, hv⟩
    have he : a = { a0 with tmps := putAll ds vs a0.tmps } := by
      obtain ⟨tm, df⟩ := a
      have h1 : df = a0.defers := hM.defers
      have h2 : tm = putAll ds vs a0.tmps := by
        apply Array.ext_getElem?
        intro t
        by_cases hex : ∃ i : Nat, ds[i]? = some (some t)
        · obtain ⟨i, hi⟩ := hex
          have hil : i < ops.size := by rw [← hdl]; exact (List.getElem?_eq_some_iff.1 hi).1
          obtain ⟨v, hv⟩ := hev i hil
          rw [putAll_in ds vs a0.tmps t i v hN (hL t (List.mem_of_getElem? hi)) hi hv]
          exact hM.done i t v (hall i hil) hi hv
        · rw [putAll_out ds vs a0.tmps t (fun i hi => hex ⟨i, hi⟩)]
          exact hM.old t (fun i _ hi => hex ⟨i, hi⟩)
      rw [h1, h2]
    rw [he]
    have hpos : 0 < ops.size := by have := hst.pos; simpa using this
    rcases hS with ⟨_, h⟩ | ⟨h, _⟩
    · exact hend w h
    · rw [hall (ops.size - 1) (by omega)] at h
      cases h
  intro fuel
  induction fuel with
  | zero =>
    intro listed a w hM hS hc
    have hall : ∀ i, i < ops.size → listed[i]? = some true := fun i hi => by
      have hil : i < listed.size := by have := hM.size; omega
      rw [Array.getElem?_eq_getElem hil]
      cases hv : listed[i]
      · exfalso
        have := (List.countP_pos_iff (p := (!·)) (l := listed.toList)).2 ⟨listed[i], by simp, by simp [hv]⟩
        omega
      · rfl
    refine ⟨?_, hfin listed a w hM hS hall⟩
    rw [List.eq_nil_iff_forall_not_mem]
    intro i hi
    obtain ⟨h1, h2, _⟩ := ready_spec.1 hi
    rw [getD_of (hall i h1)] at h2
    cases h2
  | succ fuel ih =>
    intro listed a w hM hS hc
    refine ⟨fun h => hfin listed a w hM hS (all_of_none hA hM.size h), fun i hi => ?_⟩
    obtain ⟨hil, hun, o, ho, hpre⟩ := ready_spec.1 hi
    have hll : i < listed.size := by have := hM.size; omega
    have hun' : listed[i] = false := by simpa [Array.getD, hll] using hun
    obtain ⟨v, hv, hcase⟩ := hst.get (i := i) (o := o) (by simpa using ho)
    have hdo := hat ho
    rw [show ops.toList.length = ops.size from by simp] at hcase
    -- the last operation is not done yet
    have hS0 : S w := by
      rcases hS with ⟨h, _⟩ | ⟨_, h⟩
      · have := all_of_last hW hM h (ops.size - 1 - i) i (by omega) hil
        rw [Array.getElem?_eq_getElem hll, hun'] at this
        cases this
      · exact h
    have hl0 : listed[ops.size - 1]? = some false := by
      rcases hS with ⟨h, _⟩ | ⟨h, _⟩
      · have := all_of_last hW hM h (ops.size - 1 - i) i (by omega) hil
        rw [Array.getElem?_eq_getElem hll, hun'] at this
        cases this
      · exact h
    have hwait : ∀ j d u, waits o j = true → ds[j]? = some (some d) → vs[j]? = some u → a.tmps[d]? = some u := fun j d u hw hd hu => by
      unfold waits at hw
      obtain ⟨e, he, hb⟩ := Array.any_eq_true'.1 hw
      simp only [Bool.and_eq_true, beq_iff_eq] at hb
      obtain ⟨hb, rfl⟩ := hb
      have h1 := hpre e he hb
      have h2 : listed[e.on]? = some true := by
        unfold Array.getD at h1
        split at h1
        · rename_i hx
          rw [Array.getElem?_eq_getElem hx]
          exact congrArg some h1
        · cases h1
      exact hM.done e.on d u h2 hd hu
    -- the state behind the operation
    have hnext : ∀ w', At S T ops (listed.setIfInBounds i true) w' → wpAny P .any ops Q fuel (listed.setIfInBounds i true) (a.put o.dst v) w' := fun w' hS' => by
      refine ih _ _ _ ⟨by simp [hM.size], ?_, ?_, ?_, ?_, ?_⟩ hS' ?_
      · cases o.dst <;> exact hM.defers
      · cases o.dst <;> simp [Act.put, hM.tsize]
      · intro j d u hj hd hu
        by_cases hij : i = j
        · subst hij
          obtain rfl : v = u := by rw [hv] at hu; simpa using hu
          obtain hod : o.dst = some d := by rw [hdo] at hd; simpa using hd
          rw [hod]
          simp only [Act.put]
          have := hL d (List.mem_of_getElem? hd)
          rw [Array.getElem?_setIfInBounds_self_of_lt (by rw [hM.tsize]; exact this)]
        · have hj' : listed[j]? = some true := by rwa [Array.getElem?_setIfInBounds_ne hij] at hj
          have h0 := hM.done j d u hj' hd hu
          cases hod : o.dst with
          | none => exact h0
          | some d' =>
            simp only [Act.put]
            have hne : d' ≠ d := fun e => by
              subst e
              rw [hod] at hdo
              -- two operations with one slot
              have hinj : i = j := by
                have hi2 : i < ds.length := (List.getElem?_eq_some_iff.1 hdo).1
                have hj2 : j < ds.length := (List.getElem?_eq_some_iff.1 hd).1
                exact slot_inj hN hdo hd
              exact hij hinj
            rw [Array.getElem?_setIfInBounds_ne hne]
            exact h0
      · intro t ht
        have h0 := hM.old t (fun j hj => ht j (by
          by_cases hij : i = j
          · subst hij
            rw [Array.getElem?_eq_getElem hll, hun'] at hj
            cases hj
          · rw [Array.getElem?_setIfInBounds_ne hij]; exact hj))
        cases hod : o.dst with
        | none => exact h0
        | some d' =>
          simp only [Act.put]
          have hne : d' ≠ t := fun e => by
            subst e
            exact ht i (by rw [Array.getElem?_setIfInBounds_self_of_lt hll]) (by rw [hdo, hod])
          rw [Array.getElem?_setIfInBounds_ne hne]
          exact h0
      · intro j j' oj hj hoj hw
        by_cases hij : i = j
        · subst hij
          obtain rfl : o = oj := by rw [ho] at hoj; simpa using hoj
          unfold waits at hw
          obtain ⟨e, he, hb⟩ := Array.any_eq_true'.1 hw
          simp only [Bool.and_eq_true, beq_iff_eq] at hb
          obtain ⟨hb, rfl⟩ := hb
          have h1 := hpre e he hb
          have h2 : listed[e.on]? = some true := by
            unfold Array.getD at h1
            split at h1
            · rename_i hx
              rw [Array.getElem?_eq_getElem hx]
              exact congrArg some h1
            · cases h1
          by_cases hie : i = e.on
          · rw [← hie, Array.getElem?_setIfInBounds_self_of_lt hll]
          · rw [Array.getElem?_setIfInBounds_ne hie]; exact h2
        · have hj' : listed[j]? = some true := by rwa [Array.getElem?_setIfInBounds_ne hij] at hj
          have h2 := hM.down j j' oj hj' hoj hw
          by_cases hie : i = j'
          · rw [← hie, Array.getElem?_setIfInBounds_self_of_lt hll]
          · rw [Array.getElem?_setIfInBounds_ne hie]; exact h2
      · rw [Array.toList_setIfInBounds, List.countP_set (h := by simpa using hll)]
        have hp : 0 < listed.toList.countP (!·) := (List.countP_pos_iff (p := (!·)) (l := listed.toList)).2 ⟨listed[i], by simp, by simp [hun']⟩
        have e1 : listed.toList[i]'(by simpa using hll) = false := by simpa using hun'
        rw [e1]
        simp only [Bool.not_false, Bool.not_true, if_true, Bool.false_eq_true, if_false]
        omega
    have hgw : Region.wanted o (yielded ops a.tmps) = guardVal vs o := by
      unfold Region.wanted guardVal
      cases hgo : o.guard with
      | none => rfl
      | some p =>
        obtain ⟨j, want⟩ := p
        unfold guarded at hG
        have h1 := Array.all_eq_true_iff_forall_mem.1 hG o (Array.mem_of_getElem? ho)
        rw [hgo] at h1
        simp only [Bool.and_eq_true] at h1
        obtain ⟨hw, hs⟩ := h1
        obtain ⟨d, hd⟩ := Option.isSome_iff_exists.1 hs
        obtain ⟨oj, hoj, hdj⟩ := Option.bind_eq_some_iff.1 hd
        have hdsj := hat hoj
        rw [hdj] at hdsj
        obtain ⟨u, hu, _⟩ := hst.get (i := j) (o := oj) (by simpa using hoj)
        have ht := hwait j d u hw hdsj hu
        simp only [yielded, hd, Option.bind_some, ht, hu]
        cases u <;> simp
    refine wpOp_step ho (fun K' hK => ?_)
    rw [hgw]
    have hold : ∀ t u, ds.contains (some t) = false → a0.tmps.getD t undef = u → a.tmps.getD t undef = u := fun t u h1 h2 => by
      have h3 := hM.old t (fun j _ hd => by
        have := List.mem_of_getElem? hd
        rw [← List.contains_iff_mem] at this
        rw [h1] at this
        cases this)
      rw [← h2]
      simp [Array.getD_eq_getD_getElem?, h3]
    rcases hcase with ⟨hg, ⟨hi1, hstep⟩ | ⟨hi1, hstep⟩⟩ | ⟨hg, hun, hi1⟩
    · rw [hg, if_pos rfl]
      exact hstep a w hS0 (fun j d u h1 h2 h3 => getD_of (hwait j d u h1 h2 h3)) hold K' (fun w' hS' => hK _ _ (hnext w' (.inl ⟨by rw [show ops.size - 1 = i by omega, Array.getElem?_setIfInBounds_self_of_lt hll], hS'⟩)))
    · rw [hg, if_pos rfl]
      exact hstep a w hS0 (fun j d u h1 h2 h3 => getD_of (hwait j d u h1 h2 h3)) hold K' (fun w' hS' => hK _ _ (hnext w' (.inr ⟨by rw [Array.getElem?_setIfInBounds_ne (by omega)]; exact hl0, hS'⟩)))
    · rw [hg, if_neg (by decide)]
      subst hun
      exact hK _ _ (hnext w (.inr ⟨by rw [Array.getElem?_setIfInBounds_ne (by omega)]; exact hl0, hS0⟩))
theorem region {id : Nat} {w : World} (S T : World → Prop) (ds : List (Option Tmp)) (vs : List Value) (hm : P.follows .mixedOrders = true) (hds : ops.toList.map (·.dst) = ds) (hA : acyc ops = true) (hG : guarded ops = true) (hW : lastly ops = true) (hN : decide (ds.filterMap fun x => x).Nodup = true) (hL : (ds.all fun o => o.all fun d => decide (d < a0.tmps.size)) = true) (hS : S w.drew)
    (hst : Steps P Q S T ds vs a0 ops.toList vs) (hend : ∀ w, T w → Q .normal { a0 with tmps := putAll ds vs a0.tmps } w) : (Code.region id ops true).wp P Q a0 w := by
  have hpos : 0 < ops.size := by have := hst.pos; simpa using this
  have hL' : ∀ d, some d ∈ ds → d < a0.tmps.size := fun d hd => by
    have := List.all_eq_true.1 hL (some d) hd
    simpa using this
  refine wp_region_any hm (go hds hA hG (show (ds.filterMap _root_.id).Nodup from of_decide_eq_true hN) hL' hW hst hend ops.size _ a0 w.drew ⟨by simp, rfl, rfl, ?_, ?_, ?_⟩ (.inr ⟨?_, hS⟩) ?_)
  · intro i d v h
    rw [Array.getElem?_replicate] at h
    split at h <;> cases h
  · intro t _; rfl
  · intro i j o h
    rw [Array.getElem?_replicate] at h
    split at h <;> cases h
  · rw [Array.getElem?_replicate, if_pos (by omega)]
  · have := List.countP_le_length (p := (!·)) (l := (Array.replicate ops.size false).toList)
    simpa using this
end
end Vals
end Go.Proofs.Ytmofbnadfgejiaa
/- As Vals2; but memory turns twice, at the p-th operation and at the q-th (an allocation, and a store into what it made); an operation that waits for the p-th may take it that the p-th is done. -/
namespace Go.Proofs.Ytmofbnadfgejiaa
namespace Vals4
open Vals (putAll putAll_size putAll_out putAll_in guardVal waits acyc guarded slot_inj getD_of ready_spec all_of_none)
section
variable {P : Program} {Q : Exit → Act → World → Prop} {St : Bool → Bool → World → Prop} {p q : Nat} {ops : Array Oper} {ds : List (Option Tmp)} {vs : List Value} {a0 : Act}
/-- one operation comes to its value, and T holds behind it. -/
def Step (P : Program) (Q : Exit → Act → World → Prop) (S T : World → Prop) (ds : List (Option Tmp)) (vs : List Value) (a0 : Act) (o : Oper) (v : Value) : Prop :=
  ∀ (a : Act) (w : World), S w →
    (∀ j d u, waits o j = true → ds[j]? = some (some d) → vs[j]? = some u → a.tmps.getD d undef = u) →
    (∀ t u, ds.contains (some t) = false → a0.tmps.getD t undef = u → a.tmps.getD t undef = u) →
    ∀ K : Act → World → Prop, (∀ w', T w' → K (a.put o.dst v) w') → o.wp P a w K Q
/-- the operations from the k-th on. -/
inductive Steps (P : Program) (Q : Exit → Act → World → Prop) (St : Bool → Bool → World → Prop) (p q : Nat) (ds : List (Option Tmp)) (vs : List Value) (a0 : Act) : Nat → List Oper → List Value → Prop
  | nil {k : Nat} : Steps P Q St p q ds vs a0 k [] []
  | run {k : Nat} {o : Oper} {v : Value} {os : List Oper} {us : List Value} (hk : k ≠ p ∧ k ≠ q) (hg : guardVal vs o = true) (h : ∀ t u, (waits o p = true → t = true) → Step P Q (St t u) (St t u) ds vs a0 o v) (r : Steps P Q St p q ds vs a0 (k + 1) os us) : Steps P Q St p q ds vs a0 k (o :: os) (v :: us)
  | turn {o : Oper} {v : Value} {os : List Oper} {us : List Value} (hk : p ≠ q) (hg : guardVal vs o = true) (h : ∀ u, Step P Q (St false u) (St true u) ds vs a0 o v) (r : Steps P Q St p q ds vs a0 (p + 1) os us) : Steps P Q St p q ds vs a0 p (o :: os) (v :: us)
  | turn2 {o : Oper} {v : Value} {os : List Oper} {us : List Value} (hk : q ≠ p) (hg : guardVal vs o = true) (h : ∀ t, (waits o p = true → t = true) → Step P Q (St t false) (St t true) ds vs a0 o v) (r : Steps P Q St p q ds vs a0 (q + 1) os us) : Steps P Q St p q ds vs a0 q (o :: os) (v :: us)
  | skip {k : Nat} {o : Oper} {os : List Oper} {us : List Value} (hk : k ≠ p ∧ k ≠ q) (hg : guardVal vs o = false) (r : Steps P Q St p q ds vs a0 (k + 1) os us) : Steps P Q St p q ds vs a0 k (o :: os) (undef :: us)
/-- what is known of one of them. -/
def Known (P : Program) (Q : Exit → Act → World → Prop) (St : Bool → Bool → World → Prop) (p q : Nat) (ds : List (Option Tmp)) (vs : List Value) (a0 : Act) (i : Nat) (o : Oper) (v : Value) : Prop :=
  (guardVal vs o = true ∧ ((i = p ∧ p ≠ q ∧ ∀ u, Step P Q (St false u) (St true u) ds vs a0 o v) ∨ (i = q ∧ q ≠ p ∧ ∀ t, (waits o p = true → t = true) → Step P Q (St t false) (St t true) ds vs a0 o v) ∨ ((i ≠ p ∧ i ≠ q) ∧ ∀ t u, (waits o p = true → t = true) → Step P Q (St t u) (St t u) ds vs a0 o v))) ∨ (guardVal vs o = false ∧ v = undef ∧ i ≠ p ∧ i ≠ q)
theorem Steps.get {k : Nat} {os : List Oper} {us : List Value} (h : Steps P Q St p q ds vs a0 k os us) : ∀ {i : Nat} {o : Oper}, os[i]? = some o → ∃ v, us[i]? = some v ∧ Known P Q St p q ds vs a0 (k + i) o v := by
  induction h with
  | nil => intro i o h; simp at h
  | @run k o v os us hk hg h r ih =>
    intro i o' hi
    match i with
    | 0 => obtain rfl : o = o' := by simpa using hi
           exact ⟨v, rfl, .inl ⟨hg, .inr (.inr ⟨hk, h⟩)⟩⟩
    | i + 1 =>
      obtain ⟨u, hu, hk⟩ := ih (i := i) (o := o') (by simpa using hi)
      exact ⟨u, by simpa using hu, by rwa [show k + (i + 1) = k + 1 + i by omega]⟩
  | @turn o v os us hk hg h r ih =>
    intro i o' hi
    match i with
    | 0 => obtain rfl : o = o' := by simpa using hi
           exact ⟨v, rfl, .inl ⟨hg, .inl ⟨rfl, hk, h⟩⟩⟩
    | i + 1 =>
      obtain ⟨u, hu, hk'⟩ := ih (i := i) (o := o') (by simpa using hi)
      exact ⟨u, by simpa using hu, by rwa [show p + (i + 1) = p + 1 + i by omega]⟩
  | @turn2 o v os us hk hg h r ih =>
    intro i o' hi
    match i with
    | 0 => obtain rfl : o = o' := by simpa using hi
           exact ⟨v, rfl, .inl ⟨hg, .inr (.inl ⟨rfl, hk, h⟩)⟩⟩
    | i + 1 =>
      obtain ⟨u, hu, hk'⟩ := ih (i := i) (o := o') (by simpa using hi)
      exact ⟨u, by simpa using hu, by rwa [show q + (i + 1) = q + 1 + i by omega]⟩
  | @skip k o os us hk hg r ih =>
    intro i o' hi
    match i with
    | 0 => obtain rfl : o = o' := by simpa using hi
           exact ⟨undef, rfl, .inr ⟨hg, rfl, hk⟩⟩
    | i + 1 =>
      obtain ⟨u, hu, hk⟩ := ih (i := i) (o := o') (by simpa using hi)
      exact ⟨u, by simpa using hu, by rwa [show k + (i + 1) = k + 1 + i by omega]⟩
/-- in the middle of the region. -/
structure Mid (ops : Array Oper) (ds : List (Option Tmp)) (vs : List Value) (a0 : Act) (listed : Array Bool) (a : Act) : Prop where
  size : listed.size = ops.size
  defers : a.defers = a0.defers
  tsize : a.tmps.size = a0.tmps.size
  done : ∀ (i : Nat) (d : Tmp) (v : Value), listed[i]? = some true → ds[i]? = some (some d) → vs[i]? = some v → a.tmps[d]? = some v
  old : ∀ t : Tmp, (∀ i : Nat, listed[i]? = some true → ds[i]? ≠ some (some t)) → a.tmps[t]? = a0.tmps[t]?
/-- what holds of memory, by whether the p-th is done. -/
def At (St : Bool → Bool → World → Prop) (p q : Nat) (listed : Array Bool) (w : World) : Prop := ∃ t u, listed[p]? = some t ∧ listed[q]? = some u ∧ St t u w
theorem go (hds : ops.toList.map (·.dst) = ds) (hA : acyc ops = true) (hG : guarded ops = true) (hN : (ds.filterMap id).Nodup) (hL : ∀ d, some d ∈ ds → d < a0.tmps.size)
    (hp : p < ops.size) (hq : q < ops.size) (hst : Steps P Q St p q ds vs a0 0 ops.toList vs) (hend : ∀ w, St true true w → Q .normal { a0 with tmps := putAll ds vs a0.tmps } w) :
    ∀ (fuel : Nat) (listed : Array Bool) (a : Act) (w : World), Mid ops ds vs a0 listed a → At St p q listed w → listed.toList.countP (!·) ≤ fuel → wpAny P .any ops Q fuel listed a w := by
  have hat : ∀ {i : Nat} {o : Oper}, ops[i]? = some o → ds[i]? = some o.dst := fun {i o} h => by
    rw [← hds, List.getElem?_map]
    rw [show ops.toList[i]? = ops[i]? from by simp, h]; rfl
  have hfin : ∀ (listed : Array Bool) (a : Act) (w : World), Mid ops ds vs a0 listed a → At St p q listed w → (∀ i, i < ops.size → listed[i]? = some true) → Q .normal a w := by
    intro listed a w hM hS hall
    have hdl : ds.length = ops.size := by rw [← hds]; simp
    have hev : ∀ i, i < ops.size → ∃ v, vs[i]? = some v := fun i hi => by
      obtain ⟨v, hv, _⟩ := hst.get (i := i) (o := ops[i]) (by simp [hi])
      exact ⟨v, hv⟩
    have he : a = { a0 with tmps := putAll ds vs a0.tmps } := by
      obtain ⟨tm, df⟩ := a
      have h1 : df = a0.defers := hM.defers
      have h2 : tm = putAll ds vs a0.tmps := by
        apply Array.ext_getElem?
        intro t
        by_cases hex : ∃ i : Nat, ds[i]? = some (some t)
        · obtain ⟨i, hi⟩ := hex
          have hil : i < ops.size := by rw [← hdl]; exact (List.getElem?_eq_some_iff.1 hi).1
          obtain ⟨v, hv⟩ := hev i hil
          rw [putAll_in ds vs a0.tmps t i v hN (hL t (List.mem_of_getElem? hi)) hi hv]
          exact hM.done i t v (hall i hil) hi hv
        · rw [putAll_out ds vs a0.tmps t (fun i hi => hex ⟨i, hi⟩)]
          exact hM.old t (fun i _ hi => hex ⟨i, hi⟩)
      rw [h1, h2]
    rw [he]
    obtain ⟨t, u, ht, hu, h⟩ := hS
    rw [hall p hp] at ht
    rw [hall q hq] at hu
    obtain rfl : true = t := by simpa using ht
    obtain rfl : true = u := by simpa using hu
    exact hend w h
  intro fuel
  induction fuel with
  | zero =>
    intro listed a w hM hS hc
    have hall : ∀ i, i < ops.size → listed[i]? = some true := fun i hi => by
      have hil : i < listed.size := by have := hM.size; omega
      rw [Array.getElem?_eq_getElem hil]
      cases hv : listed[i]
      · exfalso
        have := (List.countP_pos_iff (p := (!·)) (l := listed.toList)).2 ⟨listed[i], by simp, by simp [hv]⟩
        omega
      · rfl
    refine ⟨?_, hfin listed a w hM hS hall⟩
    rw [List.eq_nil_iff_forall_not_mem]
    intro i hi
    obtain ⟨h1, h2, _⟩ := ready_spec.1 hi
    rw [getD_of (hall i h1)] at h2
    cases h2
  | succ fuel ih =>
    intro listed a w hM hS hc
    refine ⟨fun h => hfin listed a w hM hS (all_of_none hA hM.size h), fun i hi => ?_⟩
    obtain ⟨hil, hun, o, ho, hpre⟩ := ready_spec.1 hi
    have hll : i < listed.size := by have := hM.size; omega
    have hun' : listed[i] = false := by simpa [Array.getD, hll] using hun
    obtain ⟨v, hv, hcase⟩ := hst.get (i := i) (o := o) (by simpa using ho)
    have hdo := hat ho
    rw [Nat.zero_add] at hcase
    obtain ⟨tt, uu, htt, huu, hS0⟩ := hS
    have hwait : ∀ j d u, waits o j = true → ds[j]? = some (some d) → vs[j]? = some u → a.tmps[d]? = some u := fun j d u hw hd hu => by
      unfold waits at hw
      obtain ⟨e, he, hb⟩ := Array.any_eq_true'.1 hw
      simp only [Bool.and_eq_true, beq_iff_eq] at hb
      obtain ⟨hb, rfl⟩ := hb
      have h1 := hpre e he hb
      have h2 : listed[e.on]? = some true := by
        unfold Array.getD at h1
        split at h1
        · rename_i hx
          rw [Array.getElem?_eq_getElem hx]
          exact congrArg some h1
        · cases h1
      exact hM.done e.on d u h2 hd hu
    have hwt : waits o p = true → tt = true := fun hw => by
      unfold waits at hw
      obtain ⟨e, he, hb⟩ := Array.any_eq_true'.1 hw
      simp only [Bool.and_eq_true, beq_iff_eq] at hb
      obtain ⟨hb, hep⟩ := hb
      have h1 := hpre e he hb
      rw [hep] at h1
      have h2 : listed[p]? = some true := by
        unfold Array.getD at h1
        split at h1
        · rename_i hx
          rw [Array.getElem?_eq_getElem hx]
          exact congrArg some h1
        · cases h1
      rw [htt] at h2
      simpa using h2
    -- the state behind the operation
    have hnext : ∀ w', At St p q (listed.setIfInBounds i true) w' → wpAny P .any ops Q fuel (listed.setIfInBounds i true) (a.put o.dst v) w' := fun w' hS' => by
      refine ih _ _ _ ⟨by simp [hM.size], ?_, ?_, ?_, ?_⟩ hS' ?_
      · cases o.dst <;> exact hM.defers
      · cases o.dst <;> simp [Act.put, hM.tsize]
      · intro j d u hj hd hu
        by_cases hij : i = j
        · subst hij
          obtain rfl : v = u := by rw [hv] at hu; simpa using hu
          obtain hod : o.dst = some d := by rw [hdo] at hd; simpa using hd
          rw [hod]
          simp only [Act.put]
          have := hL d (List.mem_of_getElem? hd)
          rw [Array.getElem?_setIfInBounds_self_of_lt (by rw [hM.tsize]; exact this)]
        · have hj' : listed[j]? = some true := by rwa [Array.getElem?_setIfInBounds_ne hij] at hj
          have h0 := hM.done j d u hj' hd hu
          cases hod : o.dst with
          | none => exact h0
          | some d' =>
            simp only [Act.put]
            have hne : d' ≠ d := fun e => by
              subst e
              rw [hod] at hdo
              -- two operations with one slot
              have hinj : i = j := by
                have hi2 : i < ds.length := (List.getElem?_eq_some_iff.1 hdo).1
                have hj2 : j < ds.length := (List.getElem?_eq_some_iff.1 hd).1
                exact slot_inj hN hdo hd
              exact hij hinj
            rw [Array.getElem?_setIfInBounds_ne hne]
            exact h0
      · intro t ht
        have h0 := hM.old t (fun j hj => ht j (by
          by_cases hij : i = j
          · subst hij
            rw [Array.getElem?_eq_getElem hll, hun'] at hj
            cases hj
          · rw [Array.getElem?_setIfInBounds_ne hij]; exact hj))
        cases hod : o.dst with
        | none => exact h0
        | some d' =>
          simp only [Act.put]
          have hne : d' ≠ t := fun e => by
            subst e
            exact ht i (by rw [Array.getElem?_setIfInBounds_self_of_lt hll]) (by rw [hdo, hod])
          rw [Array.getElem?_setIfInBounds_ne hne]
          exact h0
      · rw [Array.toList_setIfInBounds, List.countP_set (h := by simpa using hll)]
        have hp : 0 < listed.toList.countP (!·) := (List.countP_pos_iff (p := (!·)) (l := listed.toList)).2 ⟨listed[i], by simp, by simp [hun']⟩
        have e1 : listed.toList[i]'(by simpa using hll) = false := by simpa using hun'
        rw [e1]
        simp only [Bool.not_false, Bool.not_true, if_true, Bool.false_eq_true, if_false]
        omega
    have hgw : Region.wanted o (yielded ops a.tmps) = guardVal vs o := by
      unfold Region.wanted guardVal
      cases hgo : o.guard with
      | none => rfl
      | some p =>
        obtain ⟨j, want⟩ := p
        unfold guarded at hG
        have h1 := Array.all_eq_true_iff_forall_mem.1 hG o (Array.mem_of_getElem? ho)
        rw [hgo] at h1
        simp only [Bool.and_eq_true] at h1
        obtain ⟨hw, hs⟩ := h1
        obtain ⟨d, hd⟩ := Option.isSome_iff_exists.1 hs
        obtain ⟨oj, hoj, hdj⟩ := Option.bind_eq_some_iff.1 hd
        have hdsj := hat hoj
        rw [hdj] at hdsj
        obtain ⟨u, hu, _⟩ := hst.get (i := j) (o := oj) (by simpa using hoj)
        have ht := hwait j d u hw hdsj hu
        simp only [yielded, hd, Option.bind_some, ht, hu]
        cases u <;> simp
    refine wpOp_step ho (fun K' hK => ?_)
    rw [hgw]
    have hold : ∀ t u, ds.contains (some t) = false → a0.tmps.getD t undef = u → a.tmps.getD t undef = u := fun t u h1 h2 => by
      have h3 := hM.old t (fun j _ hd => by
        have := List.mem_of_getElem? hd
        rw [← List.contains_iff_mem] at this
        rw [h1] at this
        cases this)
      rw [← h2]
      simp [Array.getD_eq_getD_getElem?, h3]
    have hrun := fun (S T : World → Prop) (hs : Step P Q S T ds vs a0 o v) (h0 : S w) (hT : ∀ w', T w' → At St p q (listed.setIfInBounds i true) w') =>
      hs a w h0 (fun j d u h1 h2 h3 => getD_of (hwait j d u h1 h2 h3)) hold K' (fun w' hS' => hK _ _ (hnext w' (hT w' hS')))
    rcases hcase with ⟨hg, ⟨hi1, hne, hstep⟩ | ⟨hi1, hne, hstep⟩ | ⟨⟨hi1, hi2⟩, hstep⟩⟩ | ⟨hg, hun, hi1, hi2⟩
    · subst hi1
      rw [Array.getElem?_eq_getElem hll, hun'] at htt
      obtain rfl : false = tt := by simpa using htt
      rw [hg, if_pos rfl]
      exact hrun _ _ (hstep uu) hS0 fun w' h => ⟨true, uu, by rw [Array.getElem?_setIfInBounds_self_of_lt hll], by rw [Array.getElem?_setIfInBounds_ne hne]; exact huu, h⟩
    · subst hi1
      rw [Array.getElem?_eq_getElem hll, hun'] at huu
      obtain rfl : false = uu := by simpa using huu
      rw [hg, if_pos rfl]
      exact hrun _ _ (hstep tt hwt) hS0 fun w' h => ⟨tt, true, by rw [Array.getElem?_setIfInBounds_ne hne]; exact htt, by rw [Array.getElem?_setIfInBounds_self_of_lt hll], h⟩
    · rw [hg, if_pos rfl]
      exact hrun _ _ (hstep tt uu hwt) hS0 fun w' h => ⟨tt, uu, by rw [Array.getElem?_setIfInBounds_ne hi1]; exact htt, by rw [Array.getElem?_setIfInBounds_ne hi2]; exact huu, h⟩
    · rw [hg, if_neg (by decide)]
      subst hun
      exact hK _ _ (hnext w ⟨tt, uu, by rw [Array.getElem?_setIfInBounds_ne hi1]; exact htt, by rw [Array.getElem?_setIfInBounds_ne hi2]; exact huu, hS0⟩)
theorem region {id : Nat} {w : World} (St : Bool → Bool → World → Prop) (p q : Nat) (ds : List (Option Tmp)) (vs : List Value) (hm : P.follows .mixedOrders = true) (hds : ops.toList.map (·.dst) = ds) (hA : acyc ops = true) (hG : guarded ops = true) (hp : decide (p < ops.size) = true) (hq : decide (q < ops.size) = true) (hN : decide (ds.filterMap fun x => x).Nodup = true) (hL : (ds.all fun o => o.all fun d => decide (d < a0.tmps.size)) = true) (hS : St false false w.drew)
    (hst : Steps P Q St p q ds vs a0 0 ops.toList vs) (hend : ∀ w, St true true w → Q .normal { a0 with tmps := putAll ds vs a0.tmps } w) : (Code.region id ops true).wp P Q a0 w := by
  have hp' := of_decide_eq_true hp
  have hq' := of_decide_eq_true hq
  have hL' : ∀ d, some d ∈ ds → d < a0.tmps.size := fun d hd => by
    have := List.all_eq_true.1 hL (some d) hd
    simpa using this
  refine wp_region_any hm (go hds hA hG (show (ds.filterMap _root_.id).Nodup from of_decide_eq_true hN) hL' hp' hq' hst hend ops.size _ a0 w.drew ⟨by simp, rfl, rfl, ?_, ?_⟩ ⟨false, false, ?_, ?_, hS⟩ ?_)
  · intro i d v h
    rw [Array.getElem?_replicate] at h
    split at h <;> cases h
  · intro t _; rfl
  · rw [Array.getElem?_replicate, if_pos hp']
  · rw [Array.getElem?_replicate, if_pos hq']
  · have := List.countP_le_length (p := (!·)) (l := (Array.replicate ops.size false).toList)
    simpa using this
end
end Vals4
end Go.Proofs.Ytmofbnadfgejiaa
/- As Vals; but a value may be known by a property alone (a pointer to a block with these cells, say), which lives on as memory grows. -/
namespace Go.Proofs.Ytmofbnadfgejiaa
open Go.RowKit
namespace Vals5
open Vals (putAll putAll_size putAll_out putAll_in waits acyc guarded slot_inj getD_of ready_spec all_of_none)
/-- what is known of a value: which it is, or a property of it in memory. -/
inductive Exp
  | is (v : Value)
  | has (R : Value → World → Prop)
def fits : Exp → Value → World → Prop
  | .is u, v, _ => v = u
  | .has R, v, w => R v w
def Stable (x : Exp) : Prop := ∀ v w w', fits x v w → Below w.heap.size w w' → fits x v w'
theorem Stable.is (u : Value) : Stable (.is u) := fun _ _ _ h _ => h
def guardVal (xs : List Exp) (o : Oper) : Bool :=
  match o.guard with
  | none => true
  | some (j, want) => match xs[j]? with | some (.is (.bool b)) => b == want | _ => false
/-- the guards are Booleans that are known. -/
def guardKnown (xs : List Exp) (o : Oper) : Bool :=
  match o.guard with
  | none => true
  | some (j, _) => match xs[j]? with | some (.is _) => true | _ => false
set_option linter.unusedVariables false
section
variable {P : Program} {Q : Exit → Act → World → Prop} {S : World → Prop} {ops : Array Oper} {ds : List (Option Tmp)} {xs : List Exp} {a0 : Act}
def Step (P : Program) (Q : Exit → Act → World → Prop) (S : World → Prop) (ds : List (Option Tmp)) (xs : List Exp) (a0 : Act) (o : Oper) (x : Exp) : Prop :=
  ∀ (a : Act) (w : World), S w →
    (∀ j d y, waits o j = true → ds[j]? = some (some d) → xs[j]? = some y → fits y (a.tmps.getD d undef) w) →
    (∀ t u, ds.contains (some t) = false → a0.tmps.getD t undef = u → a.tmps.getD t undef = u) →
    ∀ K : Act → World → Prop, (∀ v w', S w' → Below w.heap.size w w' → fits x v w' → K (a.put o.dst v) w') → o.wp P a w K Q
inductive Steps (P : Program) (Q : Exit → Act → World → Prop) (S : World → Prop) (ds : List (Option Tmp)) (xs : List Exp) (a0 : Act) : List Oper → List Exp → Prop
  | nil : Steps P Q S ds xs a0 [] []
  | run {o : Oper} {x : Exp} {os : List Oper} {ys : List Exp} (hg : guardVal xs o = true) (hx : Stable x) (h : Step P Q S ds xs a0 o x) (r : Steps P Q S ds xs a0 os ys) : Steps P Q S ds xs a0 (o :: os) (x :: ys)
  | skip {o : Oper} {os : List Oper} {ys : List Exp} (hg : guardVal xs o = false) (hk : guardKnown xs o = true) (r : Steps P Q S ds xs a0 os ys) : Steps P Q S ds xs a0 (o :: os) (.is undef :: ys)
def Known (P : Program) (Q : Exit → Act → World → Prop) (S : World → Prop) (ds : List (Option Tmp)) (xs : List Exp) (a0 : Act) (o : Oper) (x : Exp) : Prop :=
  Stable x ∧ ((guardVal xs o = true ∧ Step P Q S ds xs a0 o x) ∨ (guardVal xs o = false ∧ guardKnown xs o = true ∧ x = .is undef))
theorem Steps.get {os : List Oper} {ys : List Exp} (h : Steps P Q S ds xs a0 os ys) : ∀ {i : Nat} {o : Oper}, os[i]? = some o → ∃ x, ys[i]? = some x ∧ Known P Q S ds xs a0 o x := by
  induction h with
  | nil => intro i o h; simp at h
  | @run o x os ys hg hx h r ih =>
    intro i o' hi
    match i with
    | 0 => obtain rfl : o = o' := by simpa using hi
           exact ⟨x, rfl, hx, .inl ⟨hg, h⟩⟩
    | i + 1 =>
      obtain ⟨u, hu, hk⟩ := ih (i := i) (o := o') (by simpa using hi)
      exact ⟨u, by simpa using hu, hk⟩
  | @skip o os ys hg hk r ih =>
    intro i o' hi
    match i with
    | 0 => obtain rfl : o = o' := by simpa using hi
           exact ⟨.is undef, rfl, Stable.is _, .inr ⟨hg, hk, rfl⟩⟩
    | i + 1 =>
      obtain ⟨u, hu, hk⟩ := ih (i := i) (o := o') (by simpa using hi)
      exact ⟨u, by simpa using hu, hk⟩
structure Mid (ops : Array Oper) (ds : List (Option Tmp)) (xs : List Exp) (a0 : Act) (listed : Array Bool) (a : Act) (w : World) : Prop where
  size : listed.size = ops.size
  defers : a.defers = a0.defers
  tsize : a.tmps.size = a0.tmps.size
  done : ∀ (i : Nat) (d : Tmp) (x : Exp), listed[i]? = some true → ds[i]? = some (some d) → xs[i]? = some x → ∃ v, a.tmps[d]? = some v ∧ fits x v w
  old : ∀ t : Tmp, (∀ i : Nat, listed[i]? = some true → ds[i]? ≠ some (some t)) → a.tmps[t]? = a0.tmps[t]?
/-- the values fit, slot by slot. -/
def Fits : List (Option Tmp) → List Exp → List Value → World → Prop
  | some _ :: ds, x :: xs, v :: vs, w => fits x v w ∧ Fits ds xs vs w
  | none :: ds, _ :: xs, v :: vs, w => v = undef ∧ Fits ds xs vs w
  | [], [], [], _ => True
  | _, _, _, _ => False
/-- C of any values that fit. -/
def All : List (Option Tmp) → List Exp → World → (List Value → Prop) → Prop
  | some _ :: ds, .is u :: xs, w, C => All ds xs w fun us => C (u :: us)
  | some _ :: ds, .has R :: xs, w, C => ∀ v, R v w → All ds xs w fun us => C (v :: us)
  | none :: ds, _ :: xs, w, C => All ds xs w fun us => C (undef :: us)
  | [], [], _, C => C []
  | _, _, _, _ => True
theorem All.use : ∀ {ds : List (Option Tmp)} {xs : List Exp} {us : List Value} {w : World} {C : List Value → Prop}, All ds xs w C → Fits ds xs us w → C us
  | some _ :: ds, .is u :: xs, v :: us, w, C, h, hf => by
    obtain ⟨h1, h2⟩ := hf
    obtain rfl : v = u := h1
    exact All.use (ds := ds) (xs := xs) (us := us) (w := w) (C := fun us => C (v :: us)) h h2
  | some _ :: ds, .has R :: xs, v :: us, w, C, h, hf => by
    obtain ⟨h1, h2⟩ := hf
    exact All.use (ds := ds) (xs := xs) (us := us) (w := w) (C := fun us => C (v :: us)) (h v h1) h2
  | none :: ds, x :: xs, v :: us, w, C, h, hf => by
    obtain ⟨h1, h2⟩ := hf
    subst h1
    exact All.use (ds := ds) (xs := xs) (us := us) (w := w) (C := fun us => C (undef :: us)) h h2
  | [], [], [], _, _, h, _ => h
  | [], [], _ :: _, _, _, _, hf => hf.elim
  | [], _ :: _, [], _, _, _, hf => hf.elim
  | [], _ :: _, _ :: _, _, _, _, hf => hf.elim
  | some _ :: _, [], _, _, _, _, hf => by cases ‹List Value› <;> exact hf.elim
  | none :: _, [], _, _, _, _, hf => by cases ‹List Value› <;> exact hf.elim
  | some _ :: _, _ :: _, [], _, _, _, hf => hf.elim
  | none :: _, _ :: _, [], _, _, _, hf => hf.elim
theorem fits_of : ∀ {ds : List (Option Tmp)} {xs : List Exp} {tm : Array Value} {w : World}, xs.length = ds.length →
    (∀ (i : Nat) (d : Tmp) (x : Exp), ds[i]? = some (some d) → xs[i]? = some x → ∃ v, tm[d]? = some v ∧ fits x v w) →
    ∃ us : List Value, Fits ds xs us w ∧ ∀ (i : Nat) (d : Tmp), ds[i]? = some (some d) → ∃ v, us[i]? = some v ∧ tm[d]? = some v
  | [], [], _, _, _, _ => ⟨[], trivial, by simp⟩
  | [], _ :: _, _, _, h, _ => by simp at h
  | _ :: _, [], _, _, h, _ => by simp at h
  | some d :: ds, x :: xs, tm, w, hl, h => by
    obtain ⟨us, h1, h2⟩ := fits_of (ds := ds) (xs := xs) (tm := tm) (w := w) (by simpa using hl) (fun i d y hd hy => h (i + 1) d y (by simpa using hd) (by simpa using hy))
    obtain ⟨v, hv, hf⟩ := h 0 d x rfl rfl
    refine ⟨v :: us, ⟨hf, h1⟩, fun i e he => ?_⟩
    match i with
    | 0 => obtain rfl : d = e := by simpa using he
           exact ⟨v, rfl, hv⟩
    | i + 1 => simpa using h2 i e (by simpa using he)
  | none :: ds, x :: xs, tm, w, hl, h => by
    obtain ⟨us, h1, h2⟩ := fits_of (ds := ds) (xs := xs) (tm := tm) (w := w) (by simpa using hl) (fun i d y hd hy => h (i + 1) d y (by simpa using hd) (by simpa using hy))
    refine ⟨undef :: us, ⟨rfl, h1⟩, fun i e he => ?_⟩
    match i with
    | 0 => simp at he
    | i + 1 => simpa using h2 i e (by simpa using he)
theorem go (hds : ops.toList.map (·.dst) = ds) (hA : acyc ops = true) (hG : guarded ops = true) (hN : (ds.filterMap id).Nodup) (hL : ∀ d, some d ∈ ds → d < a0.tmps.size)
    (hxl : xs.length = ds.length) (hst : Steps P Q S ds xs a0 ops.toList xs) (hend : ∀ w us, S w → Fits ds xs us w → Q .normal { a0 with tmps := putAll ds us a0.tmps } w) :
    ∀ (fuel : Nat) (listed : Array Bool) (a : Act) (w : World), Mid ops ds xs a0 listed a w → S w → listed.toList.countP (!·) ≤ fuel → wpAny P .any ops Q fuel listed a w := by
  have hat : ∀ {i : Nat} {o : Oper}, ops[i]? = some o → ds[i]? = some o.dst := fun {i o} h => by
    rw [← hds, List.getElem?_map]
    rw [show ops.toList[i]? = ops[i]? from by simp, h]; rfl
  have hfin : ∀ (listed : Array Bool) (a : Act) (w : World), Mid ops ds xs a0 listed a w → S w → (∀ i, i < ops.size → listed[i]? = some true) → Q .normal a w := by
    intro listed a w hM hS hall
    have hdl : ds.length = ops.size := by rw [← hds]; simp
    obtain ⟨us, hF, hus⟩ := fits_of (ds := ds) (xs := xs) (tm := a.tmps) (w := w) hxl (fun i d x hd hx => hM.done i d x (hall i (by rw [← hdl]; exact (List.getElem?_eq_some_iff.1 hd).1)) hd hx)
    have he : a = { a0 with tmps := putAll ds us a0.tmps } := by
      obtain ⟨tm, df⟩ := a
      have h1 : df = a0.defers := hM.defers
      have h2 : tm = putAll ds us a0.tmps := by
        apply Array.ext_getElem?
        intro t
        by_cases hex : ∃ i : Nat, ds[i]? = some (some t)
        · obtain ⟨i, hi⟩ := hex
          obtain ⟨v, hv, hv2⟩ := hus i t hi
          rw [putAll_in ds us a0.tmps t i v hN (hL t (List.mem_of_getElem? hi)) hi hv]
          exact hv2
        · rw [putAll_out ds us a0.tmps t (fun i hi => hex ⟨i, hi⟩)]
          exact hM.old t (fun i _ hi => hex ⟨i, hi⟩)
      rw [h1, h2]
    rw [he]
    exact hend w us hS hF
  intro fuel
  induction fuel with
  | zero =>
    intro listed a w hM hS hc
    have hall : ∀ i, i < ops.size → listed[i]? = some true := fun i hi => by
      have hil : i < listed.size := by have := hM.size; omega
      rw [Array.getElem?_eq_getElem hil]
      cases hv : listed[i]
      · exfalso
        have := (List.countP_pos_iff (p := (!·)) (l := listed.toList)).2 ⟨listed[i], by simp, by simp [hv]⟩
        omega
      · rfl
    refine ⟨?_, hfin listed a w hM hS hall⟩
    rw [List.eq_nil_iff_forall_not_mem]
    intro i hi
    obtain ⟨h1, h2, _⟩ := ready_spec.1 hi
    rw [getD_of (hall i h1)] at h2
    cases h2
  | succ fuel ih =>
    intro listed a w hM hS hc
    refine ⟨fun h => hfin listed a w hM hS (all_of_none hA hM.size h), fun i hi => ?_⟩
    obtain ⟨hil, hun, o, ho, hpre⟩ := ready_spec.1 hi
    have hll : i < listed.size := by have := hM.size; omega
    have hun' : listed[i] = false := by simpa [Array.getD, hll] using hun
    obtain ⟨x, hx, hstab, hcase⟩ := hst.get (i := i) (o := o) (by simpa using ho)
    have hdo := hat ho
    have hwait : ∀ j d y, waits o j = true → ds[j]? = some (some d) → xs[j]? = some y → ∃ v, a.tmps[d]? = some v ∧ fits y v w := fun j d y hw hd hy => by
      unfold waits at hw
      obtain ⟨e, he, hb⟩ := Array.any_eq_true'.1 hw
      simp only [Bool.and_eq_true, beq_iff_eq] at hb
      obtain ⟨hb, rfl⟩ := hb
      have h1 := hpre e he hb
      have h2 : listed[e.on]? = some true := by
        unfold Array.getD at h1
        split at h1
        · rename_i hx
          rw [Array.getElem?_eq_getElem hx]
          exact congrArg some h1
        · cases h1
      exact hM.done e.on d y h2 hd hy
    have hwait' : ∀ j d y, waits o j = true → ds[j]? = some (some d) → xs[j]? = some y → fits y (a.tmps.getD d undef) w := fun j d y hw hd hy => by
      obtain ⟨v, hv, hf⟩ := hwait j d y hw hd hy
      rw [getD_of hv]; exact hf
    have hnext : ∀ v w', S w' → Below w.heap.size w w' → fits x v w' → wpAny P .any ops Q fuel (listed.setIfInBounds i true) (a.put o.dst v) w' := fun v w' hS' hb' hf' => by
      refine ih _ _ _ ⟨by simp [hM.size], ?_, ?_, ?_, ?_⟩ hS' ?_
      · cases o.dst <;> exact hM.defers
      · cases o.dst <;> simp [Act.put, hM.tsize]
      · intro j d y hj hd hy
        by_cases hij : i = j
        · subst hij
          obtain rfl : x = y := by rw [hx] at hy; simpa using hy
          obtain hod : o.dst = some d := by rw [hdo] at hd; simpa using hd
          rw [hod]
          simp only [Act.put]
          have := hL d (List.mem_of_getElem? hd)
          exact ⟨v, by rw [Array.getElem?_setIfInBounds_self_of_lt (by rw [hM.tsize]; exact this)], hf'⟩
        · have hj' : listed[j]? = some true := by rwa [Array.getElem?_setIfInBounds_ne hij] at hj
          obtain ⟨u, h0, hf0⟩ := hM.done j d y hj' hd hy
          have hjo : j < ops.size := by
            have := (Array.getElem?_eq_some_iff.1 hj').1
            have := hM.size
            omega
          obtain ⟨y', hy', hst', _⟩ := hst.get (i := j) (o := ops[j]) (by simp [hjo])
          obtain rfl : y = y' := by rw [hy] at hy'; simpa using hy'
          refine ⟨u, ?_, hst' u w w' hf0 hb'⟩
          cases hod : o.dst with
          | none => exact h0
          | some d' =>
            simp only [Act.put]
            have hne : d' ≠ d := fun e => by
              subst e
              rw [hod] at hdo
              exact hij (slot_inj hN hdo hd)
            rw [Array.getElem?_setIfInBounds_ne hne]
            exact h0
      · intro t ht
        have h0 := hM.old t (fun j hj => ht j (by
          by_cases hij : i = j
          · subst hij
            rw [Array.getElem?_eq_getElem hll, hun'] at hj
            cases hj
          · rw [Array.getElem?_setIfInBounds_ne hij]; exact hj))
        cases hod : o.dst with
        | none => exact h0
        | some d' =>
          simp only [Act.put]
          have hne : d' ≠ t := fun e => by
            subst e
            exact ht i (by rw [Array.getElem?_setIfInBounds_self_of_lt hll]) (by rw [hdo, hod])
          rw [Array.getElem?_setIfInBounds_ne hne]
          exact h0
      · rw [Array.toList_setIfInBounds, List.countP_set (h := by simpa using hll)]
        have hp : 0 < listed.toList.countP (!·) := (List.countP_pos_iff (p := (!·)) (l := listed.toList)).2 ⟨listed[i], by simp, by simp [hun']⟩
        have e1 : listed.toList[i]'(by simpa using hll) = false := by simpa using hun'
        rw [e1]
        simp only [Bool.not_false, Bool.not_true, if_true, Bool.false_eq_true, if_false]
        omega
    have hgw : (guardVal xs o = true ∨ guardKnown xs o = true) → Region.wanted o (yielded ops a.tmps) = guardVal xs o := fun hgk => by
      unfold Region.wanted
      cases hgo : o.guard with
      | none => unfold guardVal; rw [hgo]
      | some p =>
        obtain ⟨j, want⟩ := p
        unfold guarded at hG
        have h1 := Array.all_eq_true_iff_forall_mem.1 hG o (Array.mem_of_getElem? ho)
        rw [hgo] at h1
        simp only [Bool.and_eq_true] at h1
        obtain ⟨hw, hs⟩ := h1
        obtain ⟨d, hd⟩ := Option.isSome_iff_exists.1 hs
        obtain ⟨oj, hoj, hdj⟩ := Option.bind_eq_some_iff.1 hd
        have hdsj := hat hoj
        rw [hdj] at hdsj
        obtain ⟨y, hy, _⟩ := hst.get (i := j) (o := oj) (by simpa using hoj)
        obtain ⟨u, ht, hf⟩ := hwait j d y hw hdsj hy
        have hy2 : ∃ c, y = .is c := by
          cases y with
          | is c => exact ⟨c, rfl⟩
          | has R =>
            exfalso
            rcases hgk with h | h
            · unfold guardVal at h; rw [hgo] at h; simp [hy] at h
            · unfold guardKnown at h; rw [hgo] at h; simp [hy] at h
        obtain ⟨c, rfl⟩ := hy2
        obtain rfl : u = c := hf
        unfold guardVal
        rw [hgo]
        simp only [yielded, hd, Option.bind_some, ht, hy]
        cases u <;> simp
    refine wpOp_step ho (fun K' hK => ?_)
    have hold : ∀ t u, ds.contains (some t) = false → a0.tmps.getD t undef = u → a.tmps.getD t undef = u := fun t u h1 h2 => by
      have h3 := hM.old t (fun j _ hd => by
        have := List.mem_of_getElem? hd
        rw [← List.contains_iff_mem] at this
        rw [h1] at this
        cases this)
      rw [← h2]
      simp [Array.getD_eq_getD_getElem?, h3]
    rcases hcase with ⟨hg, hstep⟩ | ⟨hg, hgk, hun⟩
    · rw [hgw (.inl hg), hg, if_pos rfl]
      exact hstep a w hS hwait' hold K' (fun v w' h1 h2 h3 => hK _ _ (hnext v w' h1 h2 h3))
    · rw [hgw (.inr hgk), hg, if_neg (by decide)]
      subst hun
      exact hK _ _ (hnext undef w hS (Below.refl _ _) rfl)
theorem region {id : Nat} {w : World} (S : World → Prop) (ds : List (Option Tmp)) (xs : List Exp) (hm : P.follows .mixedOrders = true) (hds : ops.toList.map (·.dst) = ds) (hA : acyc ops = true) (hG : guarded ops = true) (hN : decide (ds.filterMap fun x => x).Nodup = true) (hL : (ds.all fun o => o.all fun d => decide (d < a0.tmps.size)) = true) (hxl : xs.length = ds.length) (hS : S w.drew)
    (hst : Steps P Q S ds xs a0 ops.toList xs) (hend : ∀ w us, S w → Fits ds xs us w → Q .normal { a0 with tmps := putAll ds us a0.tmps } w) : (Code.region id ops true).wp P Q a0 w := by
  have hL' : ∀ d, some d ∈ ds → d < a0.tmps.size := fun d hd => by
    have := List.all_eq_true.1 hL (some d) hd
    simpa using this
  refine wp_region_any hm (go hds hA hG (show (ds.filterMap _root_.id).Nodup from of_decide_eq_true hN) hL' hxl hst hend ops.size _ a0 w.drew ⟨by simp, rfl, rfl, ?_, ?_⟩ hS ?_)
  · intro i d v h
    rw [Array.getElem?_replicate] at h
    split at h <;> cases h
  · intro t _; rfl
  · have := List.countP_le_length (p := (!·)) (l := (Array.replicate ops.size false).toList)
    simpa using this
theorem regionAll {id : Nat} {w : World} (S : World → Prop) (ds : List (Option Tmp)) (xs : List Exp) (hm : P.follows .mixedOrders = true) (hds : ops.toList.map (·.dst) = ds) (hA : acyc ops = true) (hG : guarded ops = true) (hN : decide (ds.filterMap fun x => x).Nodup = true) (hL : (ds.all fun o => o.all fun d => decide (d < a0.tmps.size)) = true) (hxl : xs.length = ds.length) (hS : S w.drew)
    (hst : Steps P Q S ds xs a0 ops.toList xs) (hend : ∀ w, S w → All ds xs w fun us => Q .normal { a0 with tmps := putAll ds us a0.tmps } w) : (Code.region id ops true).wp P Q a0 w :=
  region S ds xs hm hds hA hG hN hL hxl hS hst fun w us h hF => All.use (hend w h) hF
end
end Vals5
end Go.Proofs.Ytmofbnadfgejiaa
/- As Vals5, but for the last operation, which waits for all others: it is walked at the end, at any values that fit. -/
namespace Go.Proofs.Ytmofbnadfgejiaa
open Go.RowKit
namespace Vals6
open Vals (putAll putAll_size putAll_out putAll_in waits acyc guarded lastly slot_inj getD_of ready_spec all_of_none)
open Vals5 (Exp fits Stable guardVal guardKnown Fits All fits_of)
set_option linter.unusedVariables false
section
variable {P : Program} {Q : Exit → Act → World → Prop} {S : World → Prop} {ops : Array Oper} {ds : List (Option Tmp)} {xs : List Exp} {a0 : Act}
structure Mid (ops : Array Oper) (ds : List (Option Tmp)) (xs : List Exp) (a0 : Act) (listed : Array Bool) (a : Act) (w : World) : Prop where
  size : listed.size = ops.size
  defers : a.defers = a0.defers
  tsize : a.tmps.size = a0.tmps.size
  done : ∀ (i : Nat) (d : Tmp) (x : Exp), listed[i]? = some true → ds[i]? = some (some d) → xs[i]? = some x → ∃ v, a.tmps[d]? = some v ∧ fits x v w
  old : ∀ t : Tmp, (∀ i : Nat, listed[i]? = some true → ds[i]? ≠ some (some t)) → a.tmps[t]? = a0.tmps[t]?
  down : ∀ (i j : Nat) (o : Oper), listed[i]? = some true → ops[i]? = some o → waits o j = true → listed[j]? = some true
  last : listed[ops.size - 1]? = some false
theorem all_of_last {listed : Array Bool} {a : Act} {w : World} (hW : lastly ops = true) (hM : Mid ops ds xs a0 listed a w) {l : Oper} (hl : ops[ops.size - 1]? = some l) (hpre : ∀ j, waits l j = true → listed[j]? = some true) : ∀ k i, i + k = ops.size - 1 → 0 < k → listed[i]? = some true := by
  intro k
  induction k using Nat.strongRecOn with
  | _ k ih =>
    intro i hik h0
    unfold lastly at hW
    have h1 := List.all_eq_true.1 hW i (List.mem_range.2 (by omega))
    obtain ⟨j, hj, hw⟩ := List.any_eq_true.1 h1
    have hjs := List.mem_range.1 hj
    simp only [Bool.and_eq_true, decide_eq_true_eq] at hw
    obtain ⟨hij, hw⟩ := hw
    rw [Array.getElem?_eq_getElem hjs] at hw
    have hw' : waits ops[j] i = true := by simpa using hw
    by_cases hje : j = ops.size - 1
    · have e : ops[j] = l := by
        subst hje
        rw [Array.getElem?_eq_getElem hjs] at hl
        exact Option.some.inj hl
      rw [e] at hw'
      exact hpre i hw'
    · exact hM.down j i ops[j] (ih (k - (j - i)) (by omega) j (by omega) (by omega)) (Array.getElem?_eq_getElem hjs) hw'
theorem go {l : Oper} (hz : 0 < ops.size) (hl : ops.toList.getLast? = some l) (hlg : l.guard = none) (hds : ops.toList.dropLast.map (·.dst) = ds) (hA : acyc ops = true) (hG : guarded ops = true) (hW : lastly ops = true) (hN : (ds.filterMap id).Nodup) (hL : ∀ d, some d ∈ ds → d < a0.tmps.size)
    (hxl : xs.length = ds.length) (hst : Vals5.Steps P Q S ds xs a0 ops.toList.dropLast xs) (hend : ∀ w us, S w → Fits ds xs us w → ∀ K : Act → World → Prop, (∀ a w, Q .normal a w → K a w) → l.wp P { a0 with tmps := putAll ds us a0.tmps } w K Q) :
    ∀ (fuel : Nat) (listed : Array Bool) (a : Act) (w : World), Mid ops ds xs a0 listed a w → S w → listed.toList.countP (!·) ≤ fuel → wpAny P .any ops Q fuel listed a w := by
  have hdl : ds.length = ops.size - 1 := by rw [← hds]; simp
  have hinit : ∀ {i : Nat} {o : Oper}, ops[i]? = some o → i < ops.size - 1 → ops.toList.dropLast[i]? = some o := fun {i o} h hi => by
    rw [List.getElem?_dropLast, if_pos (by simpa using hi)]
    simpa using h
  have hat : ∀ {i : Nat} {o : Oper}, ops[i]? = some o → i < ops.size - 1 → ds[i]? = some o.dst := fun {i o} h hi => by
    rw [← hds, List.getElem?_map, hinit h hi]; rfl
  have hl' : ops[ops.size - 1]? = some l := by
    rw [List.getLast?_eq_getElem?] at hl
    simpa using hl
  intro fuel
  induction fuel with
  | zero =>
    intro listed a w hM hS hc
    exfalso
    have hlast := hM.last
    have hil : ops.size - 1 < listed.size := by have := hM.size; omega
    rw [Array.getElem?_eq_getElem hil] at hlast
    have := (List.countP_pos_iff (p := (!·)) (l := listed.toList)).2 ⟨listed[ops.size - 1], by simp, by simpa using hlast⟩
    omega
  | succ fuel ih =>
    intro listed a w hM hS hc
    refine ⟨fun h => ?_, fun i hi => ?_⟩
    · have := all_of_none hA hM.size h (ops.size - 1) (by omega)
      rw [hM.last] at this
      cases this
    obtain ⟨hil, hun, o, ho, hpre⟩ := ready_spec.1 hi
    have hll : i < listed.size := by have := hM.size; omega
    have hun' : listed[i] = false := by simpa [Array.getD, hll] using hun
    have hpre' : ∀ j, waits o j = true → listed[j]? = some true := fun j hw => by
      unfold waits at hw
      obtain ⟨e, he, hb⟩ := Array.any_eq_true'.1 hw
      simp only [Bool.and_eq_true, beq_iff_eq] at hb
      obtain ⟨hb, rfl⟩ := hb
      have h1 := hpre e he hb
      unfold Array.getD at h1
      split at h1
      · rename_i hx
        rw [Array.getElem?_eq_getElem hx]
        exact congrArg some h1
      · cases h1
    by_cases hlast : i = ops.size - 1
    · -- the last one: all others are done
      subst hlast
      obtain rfl : o = l := by rw [ho] at hl'; exact Option.some.inj hl'
      have hall : ∀ j, j < ops.size - 1 → listed[j]? = some true := fun j hj => all_of_last hW hM ho hpre' (ops.size - 1 - j) j (by omega) (by omega)
      obtain ⟨us, hF, hus⟩ := fits_of (ds := ds) (xs := xs) (tm := a.tmps) (w := w) hxl (fun i d x hd hx => hM.done i d x (hall i (by rw [← hdl]; exact (List.getElem?_eq_some_iff.1 hd).1)) hd hx)
      have he : a = { a0 with tmps := putAll ds us a0.tmps } := by
        obtain ⟨tm, df⟩ := a
        have h1 : df = a0.defers := hM.defers
        have h2 : tm = putAll ds us a0.tmps := by
          apply Array.ext_getElem?
          intro t
          by_cases hex : ∃ i : Nat, ds[i]? = some (some t)
          · obtain ⟨i, hi⟩ := hex
            obtain ⟨v, hv, hv2⟩ := hus i t hi
            rw [putAll_in ds us a0.tmps t i v hN (hL t (List.mem_of_getElem? hi)) hi hv]
            exact hv2
          · rw [putAll_out ds us a0.tmps t (fun i hi => hex ⟨i, hi⟩)]
            exact hM.old t (fun i _ hi => hex ⟨i, hi⟩)
        rw [h1, h2]
      refine wpOp_step ho (fun K' hK => ?_)
      rw [show Region.wanted o (yielded ops a.tmps) = true from by unfold Region.wanted; rw [hlg], if_pos rfl, he]
      refine hend w us hS hF K' fun a' w' hQ => hK _ _ ?_
      have hready : Region.ready .any ops (listed.setIfInBounds (ops.size - 1) true) = [] := by
        rw [List.eq_nil_iff_forall_not_mem]
        intro j hj
        obtain ⟨h1, h2, _⟩ := ready_spec.1 hj
        have h3 : (listed.setIfInBounds (ops.size - 1) true)[j]? = some true := by
          by_cases hij : ops.size - 1 = j
          · rw [← hij, Array.getElem?_setIfInBounds_self_of_lt hll]
          · rw [Array.getElem?_setIfInBounds_ne hij]; exact hall j (by omega)
        rw [getD_of h3] at h2
        cases h2
      cases fuel with
      | zero => exact ⟨hready, hQ⟩
      | succ fuel => exact ⟨fun _ => hQ, fun j hj => by rw [hready] at hj; cases hj⟩
    have hilt : i < ops.size - 1 := by omega
    obtain ⟨x, hx, hstab, hcase⟩ := hst.get (i := i) (o := o) (hinit ho hilt)
    have hdo := hat ho hilt
    have hwait : ∀ j d y, waits o j = true → ds[j]? = some (some d) → xs[j]? = some y → ∃ v, a.tmps[d]? = some v ∧ fits y v w := fun j d y hw hd hy => by
      unfold waits at hw
      obtain ⟨e, he, hb⟩ := Array.any_eq_true'.1 hw
      simp only [Bool.and_eq_true, beq_iff_eq] at hb
      obtain ⟨hb, rfl⟩ := hb
      have h1 := hpre e he hb
      have h2 : listed[e.on]? = some true := by
        unfold Array.getD at h1
        split at h1
        · rename_i hx
          rw [Array.getElem?_eq_getElem hx]
          exact congrArg some h1
        · cases h1
      exact hM.done e.on d y h2 hd hy
    have hwait' : ∀ j d y, waits o j = true → ds[j]? = some (some d) → xs[j]? = some y → fits y (a.tmps.getD d undef) w := fun j d y hw hd hy => by
      obtain ⟨v, hv, hf⟩ := hwait j d y hw hd hy
      rw [getD_of hv]; exact hf
    have hnext : ∀ v w', S w' → Below w.heap.size w w' → fits x v w' → wpAny P .any ops Q fuel (listed.setIfInBounds i true) (a.put o.dst v) w' := fun v w' hS' hb' hf' => by
      refine ih _ _ _ ⟨by simp [hM.size], ?_, ?_, ?_, ?_, ?_, by rw [Array.getElem?_setIfInBounds_ne hlast]; exact hM.last⟩ hS' ?_
      · cases o.dst <;> exact hM.defers
      · cases o.dst <;> simp [Act.put, hM.tsize]
      · intro j d y hj hd hy
        by_cases hij : i = j
        · subst hij
          obtain rfl : x = y := by rw [hx] at hy; simpa using hy
          obtain hod : o.dst = some d := by rw [hdo] at hd; simpa using hd
          rw [hod]
          simp only [Act.put]
          have := hL d (List.mem_of_getElem? hd)
          exact ⟨v, by rw [Array.getElem?_setIfInBounds_self_of_lt (by rw [hM.tsize]; exact this)], hf'⟩
        · have hj' : listed[j]? = some true := by rwa [Array.getElem?_setIfInBounds_ne hij] at hj
          obtain ⟨u, h0, hf0⟩ := hM.done j d y hj' hd hy
          have hjd : j < ds.length := (List.getElem?_eq_some_iff.1 hd).1
          have hjo : j < ops.size := by omega
          obtain ⟨y', hy', hst', _⟩ := hst.get (i := j) (o := ops[j]) (hinit (Array.getElem?_eq_getElem hjo) (by omega))
          obtain rfl : y = y' := by rw [hy] at hy'; simpa using hy'
          refine ⟨u, ?_, hst' u w w' hf0 hb'⟩
          cases hod : o.dst with
          | none => exact h0
          | some d' =>
            simp only [Act.put]
            have hne : d' ≠ d := fun e => by
              subst e
              rw [hod] at hdo
              exact hij (slot_inj hN hdo hd)
            rw [Array.getElem?_setIfInBounds_ne hne]
            exact h0
      · intro t ht
        have h0 := hM.old t (fun j hj => ht j (by
          by_cases hij : i = j
          · subst hij
            rw [Array.getElem?_eq_getElem hll, hun'] at hj
            cases hj
          · rw [Array.getElem?_setIfInBounds_ne hij]; exact hj))
        cases hod : o.dst with
        | none => exact h0
        | some d' =>
          simp only [Act.put]
          have hne : d' ≠ t := fun e => by
            subst e
            exact ht i (by rw [Array.getElem?_setIfInBounds_self_of_lt hll]) (by rw [hdo, hod])
          rw [Array.getElem?_setIfInBounds_ne hne]
          exact h0
      · intro j j' oj hj hoj hw
        by_cases hij : i = j
        · subst hij
          obtain rfl : o = oj := by rw [ho] at hoj; simpa using hoj
          by_cases hie : i = j'
          · rw [← hie, Array.getElem?_setIfInBounds_self_of_lt hll]
          · rw [Array.getElem?_setIfInBounds_ne hie]; exact hpre' j' hw
        · have hj' : listed[j]? = some true := by rwa [Array.getElem?_setIfInBounds_ne hij] at hj
          have h2 := hM.down j j' oj hj' hoj hw
          by_cases hie : i = j'
          · rw [← hie, Array.getElem?_setIfInBounds_self_of_lt hll]
          · rw [Array.getElem?_setIfInBounds_ne hie]; exact h2
      · rw [Array.toList_setIfInBounds, List.countP_set (h := by simpa using hll)]
        have hp : 0 < listed.toList.countP (!·) := (List.countP_pos_iff (p := (!·)) (l := listed.toList)).2 ⟨listed[i], by simp, by simp [hun']⟩
        have e1 : listed.toList[i]'(by simpa using hll) = false := by simpa using hun'
        rw [e1]
        simp only [Bool.not_false, Bool.not_true, if_true, Bool.false_eq_true, if_false]
        omega
    have hgw : (guardVal xs o = true ∨ guardKnown xs o = true) → Region.wanted o (yielded ops a.tmps) = guardVal xs o := fun hgk => by
      unfold Region.wanted
      cases hgo : o.guard with
      | none => unfold guardVal; rw [hgo]
      | some p =>
        obtain ⟨j, want⟩ := p
        unfold guarded at hG
        have h1 := Array.all_eq_true_iff_forall_mem.1 hG o (Array.mem_of_getElem? ho)
        rw [hgo] at h1
        simp only [Bool.and_eq_true] at h1
        obtain ⟨hw, hs⟩ := h1
        obtain ⟨d, hd⟩ := Option.isSome_iff_exists.1 hs
        obtain ⟨oj, hoj, hdj⟩ := Option.bind_eq_some_iff.1 hd
        have hjlt : j < ops.size - 1 := by
          have hji : j < i := by
            unfold acyc at hA
            have h2 := List.all_eq_true.1 hA i (List.mem_range.2 hil)
            rw [ho] at h2
            unfold waits at hw
            obtain ⟨e, he, hb⟩ := Array.any_eq_true'.1 hw
            simp only [Bool.and_eq_true, beq_iff_eq] at hb
            have h3 := Array.all_eq_true_iff_forall_mem.1 h2 e he
            rw [hb.1, hb.2] at h3
            simpa using h3
          omega
        have hdsj := hat hoj hjlt
        rw [hdj] at hdsj
        obtain ⟨y, hy, _⟩ := hst.get (i := j) (o := oj) (hinit hoj hjlt)
        obtain ⟨u, ht, hf⟩ := hwait j d y hw hdsj hy
        have hy2 : ∃ c, y = .is c := by
          cases y with
          | is c => exact ⟨c, rfl⟩
          | has R =>
            exfalso
            rcases hgk with h | h
            · unfold guardVal at h; rw [hgo] at h; simp [hy] at h
            · unfold guardKnown at h; rw [hgo] at h; simp [hy] at h
        obtain ⟨c, rfl⟩ := hy2
        obtain rfl : u = c := hf
        unfold guardVal
        rw [hgo]
        simp only [yielded, hd, Option.bind_some, ht, hy]
        cases u <;> simp
    refine wpOp_step ho (fun K' hK => ?_)
    have hold : ∀ t u, ds.contains (some t) = false → a0.tmps.getD t undef = u → a.tmps.getD t undef = u := fun t u h1 h2 => by
      have h3 := hM.old t (fun j _ hd => by
        have := List.mem_of_getElem? hd
        rw [← List.contains_iff_mem] at this
        rw [h1] at this
        cases this)
      rw [← h2]
      simp [Array.getD_eq_getD_getElem?, h3]
    rcases hcase with ⟨hg, hstep⟩ | ⟨hg, hgk, hun⟩
    · rw [hgw (.inl hg), hg, if_pos rfl]
      exact hstep a w hS hwait' hold K' (fun v w' h1 h2 h3 => hK _ _ (hnext v w' h1 h2 h3))
    · rw [hgw (.inr hgk), hg, if_neg (by decide)]
      subst hun
      exact hK _ _ (hnext undef w hS (Below.refl _ _) rfl)
theorem regionAll {id : Nat} {w : World} {l : Oper} (S : World → Prop) (ds : List (Option Tmp)) (xs : List Exp) (hm : P.follows .mixedOrders = true) (hl : ops.toList.getLast? = some l) (hlg : l.guard = none) (hds : ops.toList.dropLast.map (·.dst) = ds) (hA : acyc ops = true) (hG : guarded ops = true) (hW : lastly ops = true) (hN : decide (ds.filterMap fun x => x).Nodup = true) (hL : (ds.all fun o => o.all fun d => decide (d < a0.tmps.size)) = true) (hxl : xs.length = ds.length) (hS : S w.drew)
    (hst : Vals5.Steps P Q S ds xs a0 ops.toList.dropLast xs) (hend : ∀ w, S w → All ds xs w fun us => ∀ K : Act → World → Prop, (∀ a w, Q .normal a w → K a w) → l.wp P { a0 with tmps := putAll ds us a0.tmps } w K Q) : (Code.region id ops true).wp P Q a0 w := by
  have hz : 0 < ops.size := by
    rw [List.getLast?_eq_getElem?] at hl
    have := (List.getElem?_eq_some_iff.1 hl).1
    simp at this; omega
  have hL' : ∀ d, some d ∈ ds → d < a0.tmps.size := fun d hd => by
    have := List.all_eq_true.1 hL (some d) hd
    simpa using this
  refine wp_region_any hm (go hz hl hlg hds hA hG hW (show (ds.filterMap _root_.id).Nodup from of_decide_eq_true hN) hL' hxl hst (fun w us h hF => All.use (hend w h) hF) ops.size _ a0 w.drew ⟨by simp, rfl, rfl, ?_, ?_, ?_, ?_⟩ hS ?_)
  · intro i d v h
    rw [Array.getElem?_replicate] at h
    split at h <;> cases h
  · intro t _; rfl
  · intro i j o h
    rw [Array.getElem?_replicate] at h
    split at h <;> cases h
  · rw [Array.getElem?_replicate, if_pos (by omega)]
  · have := List.countP_le_length (p := (!·)) (l := (Array.replicate ops.size false).toList)
    simpa using this
end
end Vals6
end Go.Proofs.Ytmofbnadfgejiaa
/- A region that draws its order, by an invariant: most operations come to values that are known ahead; some come to any value (an address that depends on the order), or turn memory: the invariant speaks of which of these are done, with which values. -/
namespace Go.Proofs.Ytmofbnadfgejiaa
namespace Vals9
open Vals (putAll putAll_size putAll_out putAll_in waits acyc guarded slot_inj getD_of ready_spec all_of_none)
/-- what is known of a value ahead: which it is; or nothing. -/
inductive Exp
  | is (v : Value)
  | any
abbrev Sig := Nat → Option Value
def upd (σ : Sig) (i : Nat) (v : Value) : Sig := fun j => if j = i then some v else σ j
theorem upd_same (σ : Sig) (i : Nat) (v : Value) : upd σ i v i = some v := by simp [upd]
theorem upd_other (σ : Sig) {i j : Nat} (v : Value) (h : j ≠ i) : upd σ i v j = σ j := by simp [upd, h]
def guardVal (xs : List Exp) (o : Oper) : Bool :=
  match o.guard with
  | none => true
  | some (j, want) => match xs[j]? with | some (.is (.bool b)) => b == want | _ => false
def guardKnown (xs : List Exp) (o : Oper) : Bool :=
  match o.guard with
  | none => true
  | some (j, _) => match xs[j]? with | some (.is _) => true | _ => false
set_option linter.unusedVariables false
section
variable {P : Program} {Q : Exit → Act → World → Prop} {J : Sig → World → Prop} {ops : Array Oper} {ds : List (Option Tmp)} {xs : List Exp} {a0 : Act}
/-- what holds of what an operation waits for. -/
def Pre (ds : List (Option Tmp)) (xs : List Exp) (a0 : Act) (o : Oper) (σ : Sig) (a : Act) : Prop :=
  (∀ j d u, waits o j = true → ds[j]? = some (some d) → xs[j]? = some (.is u) → a.tmps.getD d undef = u) ∧
  (∀ j, waits o j = true → xs[j]? = some .any → ∃ v, σ j = some v ∧ ∀ d, ds[j]? = some (some d) → a.tmps.getD d undef = v) ∧
  (∀ t u, ds.contains (some t) = false → a0.tmps.getD t undef = u → a.tmps.getD t undef = u)
def Step (P : Program) (Q : Exit → Act → World → Prop) (J : Sig → World → Prop) (ds : List (Option Tmp)) (xs : List Exp) (a0 : Act) (o : Oper) (u : Value) : Prop :=
  ∀ (a : Act) (w : World) (σ : Sig), J σ w → Pre ds xs a0 o σ a → ∀ K : Act → World → Prop, (∀ w', J σ w' → K (a.put o.dst u) w') → o.wp P a w K Q
def Mark (P : Program) (Q : Exit → Act → World → Prop) (J : Sig → World → Prop) (ds : List (Option Tmp)) (xs : List Exp) (a0 : Act) (i : Nat) (o : Oper) : Prop :=
  ∀ (a : Act) (w : World) (σ : Sig), J σ w → σ i = none → Pre ds xs a0 o σ a → ∀ K : Act → World → Prop, (∀ v w', J (upd σ i v) w' → K (a.put o.dst v) w') → o.wp P a w K Q
inductive Steps (P : Program) (Q : Exit → Act → World → Prop) (J : Sig → World → Prop) (ds : List (Option Tmp)) (xs : List Exp) (a0 : Act) : Nat → List Oper → List Exp → Prop
  | nil {k : Nat} : Steps P Q J ds xs a0 k [] []
  | run {k : Nat} {o : Oper} {u : Value} {os : List Oper} {ys : List Exp} (hg : guardVal xs o = true) (h : Step P Q J ds xs a0 o u) (r : Steps P Q J ds xs a0 (k + 1) os ys) : Steps P Q J ds xs a0 k (o :: os) (.is u :: ys)
  | mark {k : Nat} {o : Oper} {os : List Oper} {ys : List Exp} (hg : guardVal xs o = true) (h : Mark P Q J ds xs a0 k o) (r : Steps P Q J ds xs a0 (k + 1) os ys) : Steps P Q J ds xs a0 k (o :: os) (.any :: ys)
  | skip {k : Nat} {o : Oper} {os : List Oper} {ys : List Exp} (hg : guardVal xs o = false) (hk : guardKnown xs o = true) (r : Steps P Q J ds xs a0 (k + 1) os ys) : Steps P Q J ds xs a0 k (o :: os) (.is undef :: ys)
def Known (P : Program) (Q : Exit → Act → World → Prop) (J : Sig → World → Prop) (ds : List (Option Tmp)) (xs : List Exp) (a0 : Act) (i : Nat) (o : Oper) (x : Exp) : Prop :=
  (guardVal xs o = true ∧ ((∃ u, x = .is u ∧ Step P Q J ds xs a0 o u) ∨ (x = .any ∧ Mark P Q J ds xs a0 i o))) ∨ (guardVal xs o = false ∧ guardKnown xs o = true ∧ x = .is undef)
theorem Steps.get {k : Nat} {os : List Oper} {ys : List Exp} (h : Steps P Q J ds xs a0 k os ys) : ∀ {i : Nat} {o : Oper}, os[i]? = some o → ∃ x, ys[i]? = some x ∧ Known P Q J ds xs a0 (k + i) o x := by
  induction h with
  | nil => intro i o h; simp at h
  | @run k o u os ys hg h r ih =>
    intro i o' hi
    match i with
    | 0 => obtain rfl : o = o' := by simpa using hi
           exact ⟨.is u, rfl, .inl ⟨hg, .inl ⟨u, rfl, h⟩⟩⟩
    | i + 1 =>
      obtain ⟨u, hu, hk⟩ := ih (i := i) (o := o') (by simpa using hi)
      exact ⟨u, by simpa using hu, by rw [show k + (i + 1) = k + 1 + i by omega]; exact hk⟩
  | @mark k o os ys hg h r ih =>
    intro i o' hi
    match i with
    | 0 => obtain rfl : o = o' := by simpa using hi
           exact ⟨.any, rfl, .inl ⟨hg, .inr ⟨rfl, h⟩⟩⟩
    | i + 1 =>
      obtain ⟨u, hu, hk⟩ := ih (i := i) (o := o') (by simpa using hi)
      exact ⟨u, by simpa using hu, by rw [show k + (i + 1) = k + 1 + i by omega]; exact hk⟩
  | @skip k o os ys hg hk r ih =>
    intro i o' hi
    match i with
    | 0 => obtain rfl : o = o' := by simpa using hi
           exact ⟨.is undef, rfl, .inr ⟨hg, hk, rfl⟩⟩
    | i + 1 =>
      obtain ⟨u, hu, hk⟩ := ih (i := i) (o := o') (by simpa using hi)
      exact ⟨u, by simpa using hu, by rw [show k + (i + 1) = k + 1 + i by omega]; exact hk⟩
theorem Steps.len {k : Nat} {os : List Oper} {ys : List Exp} (h : Steps P Q J ds xs a0 k os ys) : ys.length = os.length := by
  induction h <;> simp_all
structure Mid (ops : Array Oper) (ds : List (Option Tmp)) (xs : List Exp) (a0 : Act) (listed : Array Bool) (σ : Sig) (a : Act) : Prop where
  size : listed.size = ops.size
  defers : a.defers = a0.defers
  tsize : a.tmps.size = a0.tmps.size
  done : ∀ (i : Nat) (d : Tmp) (u : Value), listed[i]? = some true → ds[i]? = some (some d) → xs[i]? = some (.is u) → a.tmps[d]? = some u
  some_ : ∀ (i : Nat), listed[i]? = some true → xs[i]? = some .any → ∃ v, σ i = some v ∧ ∀ d, ds[i]? = some (some d) → a.tmps[d]? = some v
  none_ : ∀ (i : Nat), listed[i]? = some false → σ i = none
  old : ∀ t : Tmp, (∀ i : Nat, listed[i]? = some true → ds[i]? ≠ some (some t)) → a.tmps[t]? = a0.tmps[t]?
/-- C of any values that the invariant allows. -/
def All (σ : Sig) : Nat → List Exp → (List Value → Prop) → Prop
  | k, .is u :: xs, C => All σ (k + 1) xs fun us => C (u :: us)
  | k, .any :: xs, C => ∀ v, σ k = some v → All σ (k + 1) xs fun us => C (v :: us)
  | _, [], C => C []
theorem All.use {σ : Sig} : ∀ {k : Nat} {xs : List Exp} {C : List Value → Prop}, All σ k xs C → (∀ i : Nat, xs[i]? = some Exp.any → ∃ v, σ (k + i) = some v) →
    ∃ us : List Value, C us ∧ us.length = xs.length ∧ (∀ (i : Nat) (u : Value), xs[i]? = some (Exp.is u) → us[i]? = some u) ∧ ∀ (i : Nat) (v : Value), xs[i]? = some Exp.any → σ (k + i) = some v → us[i]? = some v
  | k, [], C, h, _ => ⟨[], h, rfl, by simp, by simp⟩
  | k, .is u :: xs, C, h, hs => by
    obtain ⟨us, h1, h2, h3, h4⟩ := All.use (k := k + 1) (xs := xs) (C := fun us => C (u :: us)) h (fun i hi => by
      have := hs (i + 1) (by simpa using hi)
      rwa [show k + (i + 1) = k + 1 + i by omega] at this)
    refine ⟨u :: us, h1, by simp [h2], fun i x hi => ?_, fun i v hi hv => ?_⟩
    · match i with
      | 0 => simpa using hi
      | i + 1 => simpa using h3 i x (by simpa using hi)
    · match i with
      | 0 => simp at hi
      | i + 1 => simpa using h4 i v (by simpa using hi) (by rwa [show k + 1 + i = k + (i + 1) by omega])
  | k, .any :: xs, C, h, hs => by
    obtain ⟨v0, hv0⟩ := hs 0 rfl
    obtain ⟨us, h1, h2, h3, h4⟩ := All.use (k := k + 1) (xs := xs) (C := fun us => C (v0 :: us)) (h v0 (by simpa using hv0)) (fun i hi => by
      have := hs (i + 1) (by simpa using hi)
      rwa [show k + (i + 1) = k + 1 + i by omega] at this)
    refine ⟨v0 :: us, h1, by simp [h2], fun i x hi => ?_, fun i v hi hv => ?_⟩
    · match i with
      | 0 => simp at hi
      | i + 1 => simpa using h3 i x (by simpa using hi)
    · match i with
      | 0 =>
        have : σ k = some v := by simpa using hv
        rw [show k + 0 = k from rfl] at hv0
        rw [this] at hv0
        simpa using hv0.symm
      | i + 1 => simpa using h4 i v (by simpa using hi) (by rwa [show k + 1 + i = k + (i + 1) by omega])
theorem go (hds : ops.toList.map (·.dst) = ds) (hA : acyc ops = true) (hG : guarded ops = true) (hN : (ds.filterMap id).Nodup) (hL : ∀ d, some d ∈ ds → d < a0.tmps.size)
    (hst : Steps P Q J ds xs a0 0 ops.toList xs) (hend : ∀ w σ, J σ w → All σ 0 xs fun us => Q .normal { a0 with tmps := putAll ds us a0.tmps } w) :
    ∀ (fuel : Nat) (listed : Array Bool) (σ : Sig) (a : Act) (w : World), Mid ops ds xs a0 listed σ a → J σ w → listed.toList.countP (!·) ≤ fuel → wpAny P .any ops Q fuel listed a w := by
  have hxl : xs.length = ops.size := by rw [hst.len]; simp
  have hdl : ds.length = ops.size := by rw [← hds]; simp
  have hat : ∀ {i : Nat} {o : Oper}, ops[i]? = some o → ds[i]? = some o.dst := fun {i o} h => by
    rw [← hds, List.getElem?_map]
    rw [show ops.toList[i]? = ops[i]? from by simp, h]; rfl
  have hfin : ∀ (listed : Array Bool) (σ : Sig) (a : Act) (w : World), Mid ops ds xs a0 listed σ a → J σ w → (∀ i, i < ops.size → listed[i]? = some true) → Q .normal a w := by
    intro listed σ a w hM hJ hall
    have hlt : ∀ {i : Nat} {x : Exp}, xs[i]? = some x → i < ops.size := fun {i x} h => by rw [← hxl]; exact (List.getElem?_eq_some_iff.1 h).1
    obtain ⟨us, hC, hul, h3, h4⟩ := All.use (hend w σ hJ) (fun i hi => by
      obtain ⟨v, hv, _⟩ := hM.some_ i (hall i (hlt hi)) hi
      exact ⟨v, by rw [Nat.zero_add]; exact hv⟩)
    have he : a = { a0 with tmps := putAll ds us a0.tmps } := by
      obtain ⟨tm, df⟩ := a
      have h1 : df = a0.defers := hM.defers
      have h2 : tm = putAll ds us a0.tmps := by
        apply Array.ext_getElem?
        intro t
        by_cases hex : ∃ i : Nat, ds[i]? = some (some t)
        · obtain ⟨i, hi⟩ := hex
          have hil : i < ops.size := by rw [← hdl]; exact (List.getElem?_eq_some_iff.1 hi).1
          have hix : xs[i]? = some xs[i] := List.getElem?_eq_getElem (by omega)
          cases hx : xs[i] with
          | is u =>
            rw [hx] at hix
            rw [putAll_in ds us a0.tmps t i u hN (hL t (List.mem_of_getElem? hi)) hi (h3 i u hix)]
            exact hM.done i t u (hall i hil) hi hix
          | any =>
            rw [hx] at hix
            obtain ⟨v, hv, hd⟩ := hM.some_ i (hall i hil) hix
            rw [putAll_in ds us a0.tmps t i v hN (hL t (List.mem_of_getElem? hi)) hi (h4 i v hix (by rw [Nat.zero_add]; exact hv))]
            exact hd t hi
        · rw [putAll_out ds us a0.tmps t (fun i hi => hex ⟨i, hi⟩)]
          exact hM.old t (fun i _ hi => hex ⟨i, hi⟩)
      rw [h1, h2]
    rw [he]
    exact hC
  intro fuel
  induction fuel with
  | zero =>
    intro listed σ a w hM hJ hc
    have hall : ∀ i, i < ops.size → listed[i]? = some true := fun i hi => by
      have hil : i < listed.size := by have := hM.size; omega
      rw [Array.getElem?_eq_getElem hil]
      cases hv : listed[i]
      · exfalso
        have := (List.countP_pos_iff (p := (!·)) (l := listed.toList)).2 ⟨listed[i], by simp, by simp [hv]⟩
        omega
      · rfl
    refine ⟨?_, hfin listed σ a w hM hJ hall⟩
    rw [List.eq_nil_iff_forall_not_mem]
    intro i hi
    obtain ⟨h1, h2, _⟩ := ready_spec.1 hi
    rw [getD_of (hall i h1)] at h2
    cases h2
  | succ fuel ih =>
    intro listed σ a w hM hJ hc
    refine ⟨fun h => hfin listed σ a w hM hJ (all_of_none hA hM.size h), fun i hi => ?_⟩
    obtain ⟨hil, hun, o, ho, hpre⟩ := ready_spec.1 hi
    have hll : i < listed.size := by have := hM.size; omega
    have hun' : listed[i] = false := by simpa [Array.getD, hll] using hun
    have hunl : listed[i]? = some false := by rw [Array.getElem?_eq_getElem hll, hun']
    obtain ⟨x, hx, hcase⟩ := hst.get (i := i) (o := o) (by simpa using ho)
    rw [Nat.zero_add] at hcase
    have hdo := hat ho
    have hwl : ∀ j, waits o j = true → listed[j]? = some true := fun j hw => by
      unfold waits at hw
      obtain ⟨e, he, hb⟩ := Array.any_eq_true'.1 hw
      simp only [Bool.and_eq_true, beq_iff_eq] at hb
      obtain ⟨hb, rfl⟩ := hb
      have h1 := hpre e he hb
      unfold Array.getD at h1
      split at h1
      · rename_i hx
        rw [Array.getElem?_eq_getElem hx]
        exact congrArg some h1
      · cases h1
    have hPre : Pre ds xs a0 o σ a := by
      refine ⟨fun j d u hw hd hu => getD_of (hM.done j d u (hwl j hw) hd hu), fun j hw hj => ?_, fun t u h1 h2 => ?_⟩
      · obtain ⟨v, hv, h⟩ := hM.some_ j (hwl j hw) hj
        exact ⟨v, hv, fun d hd => getD_of (h d hd)⟩
      · have h3 := hM.old t (fun j _ hd => by
          have := List.mem_of_getElem? hd
          rw [← List.contains_iff_mem] at this
          rw [h1] at this
          cases this)
        rw [← h2]
        simp [Array.getD_eq_getD_getElem?, h3]
    -- the state behind the operation
    have hput : ∀ (v : Value) (d : Tmp) (j : Nat) (u : Value), j ≠ i → ds[j]? = some (some d) → a.tmps[d]? = some u → (a.put o.dst v).tmps[d]? = some u := fun v d j u hji hd hu => by
      cases hod : o.dst with
      | none => exact hu
      | some d' =>
        simp only [Act.put]
        have hne : d' ≠ d := fun e => by
          subst e
          rw [hod] at hdo
          exact hji (slot_inj hN hd hdo)
        rw [Array.getElem?_setIfInBounds_ne hne]
        exact hu
    have hself : ∀ (v : Value) (d : Tmp), ds[i]? = some (some d) → (a.put o.dst v).tmps[d]? = some v := fun v d hd => by
      obtain hod : o.dst = some d := by rw [hdo] at hd; simpa using hd
      rw [hod]
      simp only [Act.put]
      have := hL d (List.mem_of_getElem? hd)
      rw [Array.getElem?_setIfInBounds_self_of_lt (by rw [hM.tsize]; exact this)]
    have hnext : ∀ (v : Value) (σ' : Sig) (w' : World), (∀ u, x = .is u → v = u ∧ σ' = σ) → (x = .any → σ' = upd σ i v) → J σ' w' → wpAny P .any ops Q fuel (listed.setIfInBounds i true) (a.put o.dst v) w' := fun v σ' w' hI hY hJ' => by
      have hσ : ∀ j, j ≠ i → σ' j = σ j := fun j hj => by
        cases hxe : x with
        | is u => rw [(hI u hxe).2]
        | any => rw [hY hxe, upd_other _ _ hj]
      have hback : ∀ {j : Nat} {b : Bool}, j ≠ i → (listed.setIfInBounds i true)[j]? = some b → listed[j]? = some b := fun {j b} hj h => by
        rwa [Array.getElem?_setIfInBounds_ne (Ne.symm hj)] at h
      refine ih _ σ' _ _ ⟨by simp [hM.size], ?_, ?_, ?_, ?_, ?_, ?_⟩ hJ' ?_
      · cases o.dst <;> exact hM.defers
      · cases o.dst <;> simp [Act.put, hM.tsize]
      · intro j d u hj hd hu
        by_cases hij : j = i
        · subst hij
          have hxu : x = .is u := by rw [hx] at hu; simpa using hu
          rw [(hI u hxu).1]
          exact hself u d hd
        · exact hput v d j u hij hd (hM.done j d u (hback hij hj) hd hu)
      · intro j hj hjx
        by_cases hij : j = i
        · subst hij
          have hxu : x = .any := by rw [hx] at hjx; simpa using hjx
          exact ⟨v, by rw [hY hxu, upd_same], fun d hd => hself v d hd⟩
        · obtain ⟨u, hu, hd⟩ := hM.some_ j (hback hij hj) hjx
          exact ⟨u, by rw [hσ j hij]; exact hu, fun d hdj => hput v d j u hij hdj (hd d hdj)⟩
      · intro j hj
        by_cases hij : j = i
        · subst hij
          rw [Array.getElem?_setIfInBounds_self_of_lt hll] at hj
          cases hj
        · rw [hσ j hij]; exact hM.none_ j (hback hij hj)
      · intro t ht
        have h0 := hM.old t (fun j hj => ht j (by
          by_cases hij : j = i
          · subst hij; rw [hunl] at hj; cases hj
          · rw [Array.getElem?_setIfInBounds_ne (Ne.symm hij)]; exact hj))
        cases hod : o.dst with
        | none => exact h0
        | some d' =>
          simp only [Act.put]
          have hne : d' ≠ t := fun e => by
            subst e
            exact ht i (by rw [Array.getElem?_setIfInBounds_self_of_lt hll]) (by rw [hdo, hod])
          rw [Array.getElem?_setIfInBounds_ne hne]
          exact h0
      · rw [Array.toList_setIfInBounds, List.countP_set (h := by simpa using hll)]
        have hp : 0 < listed.toList.countP (!·) := (List.countP_pos_iff (p := (!·)) (l := listed.toList)).2 ⟨listed[i], by simp, by simp [hun']⟩
        have e1 : listed.toList[i]'(by simpa using hll) = false := by simpa using hun'
        rw [e1]
        simp only [Bool.not_false, Bool.not_true, if_true, Bool.false_eq_true, if_false]
        omega
    have hgw : (guardVal xs o = true ∨ guardKnown xs o = true) → Region.wanted o (yielded ops a.tmps) = guardVal xs o := fun hgk => by
      unfold Region.wanted
      cases hgo : o.guard with
      | none => unfold guardVal; rw [hgo]
      | some p =>
        obtain ⟨j, want⟩ := p
        unfold guarded at hG
        have h1 := Array.all_eq_true_iff_forall_mem.1 hG o (Array.mem_of_getElem? ho)
        rw [hgo] at h1
        simp only [Bool.and_eq_true] at h1
        obtain ⟨hw, hs⟩ := h1
        obtain ⟨d, hd⟩ := Option.isSome_iff_exists.1 hs
        obtain ⟨oj, hoj, hdj⟩ := Option.bind_eq_some_iff.1 hd
        have hdsj := hat hoj
        rw [hdj] at hdsj
        obtain ⟨y, hy, _⟩ := hst.get (i := j) (o := oj) (by simpa using hoj)
        have hy2 : ∃ c, y = .is c := by
          cases y with
          | is c => exact ⟨c, rfl⟩
          | any =>
            exfalso
            rcases hgk with h | h
            · unfold guardVal at h; rw [hgo] at h; simp [hy] at h
            · unfold guardKnown at h; rw [hgo] at h; simp [hy] at h
        obtain ⟨c, rfl⟩ := hy2
        have ht := hM.done j d c (hwl j hw) hdsj hy
        unfold guardVal
        rw [hgo]
        simp only [yielded, hd, Option.bind_some, ht, hy]
        cases c <;> simp
    refine wpOp_step ho (fun K' hK => ?_)
    rcases hcase with ⟨hg, ⟨u, rfl, hstep⟩ | ⟨rfl, hmark⟩⟩ | ⟨hg, hgk, rfl⟩
    · rw [hgw (.inl hg), hg, if_pos rfl]
      exact hstep a w σ hJ hPre K' (fun w' h1 => hK _ _ (hnext u σ w' (fun u' h => ⟨by cases h; rfl, rfl⟩) (fun h => by cases h) h1))
    · rw [hgw (.inl hg), hg, if_pos rfl]
      exact hmark a w σ hJ (hM.none_ i hunl) hPre K' (fun v w' h1 => hK _ _ (hnext v (upd σ i v) w' (fun u h => by cases h) (fun _ => rfl) h1))
    · rw [hgw (.inr hgk), hg, if_neg (by decide)]
      exact hK _ _ (hnext undef σ w (fun u' h => ⟨by cases h; rfl, rfl⟩) (fun h => by cases h) hJ)
theorem region {id : Nat} {w : World} (J : Sig → World → Prop) (ds : List (Option Tmp)) (xs : List Exp) (hm : P.follows .mixedOrders = true) (hds : ops.toList.map (·.dst) = ds) (hA : acyc ops = true) (hG : guarded ops = true) (hN : decide (ds.filterMap fun x => x).Nodup = true) (hL : (ds.all fun o => o.all fun d => decide (d < a0.tmps.size)) = true) (hJ : J (fun _ => none) w.drew)
    (hst : Steps P Q J ds xs a0 0 ops.toList xs) (hend : ∀ w σ, J σ w → All σ 0 xs fun us => Q .normal { a0 with tmps := putAll ds us a0.tmps } w) : (Code.region id ops true).wp P Q a0 w := by
  have hL' : ∀ d, some d ∈ ds → d < a0.tmps.size := fun d hd => by
    have := List.all_eq_true.1 hL (some d) hd
    simpa using this
  refine wp_region_any hm (go hds hA hG (show (ds.filterMap _root_.id).Nodup from of_decide_eq_true hN) hL' hst hend ops.size _ (fun _ => none) a0 w.drew ⟨by simp, rfl, rfl, ?_, ?_, ?_, ?_⟩ hJ ?_)
  · intro i d v h
    rw [Array.getElem?_replicate] at h
    split at h <;> cases h
  · intro i h
    rw [Array.getElem?_replicate] at h
    split at h <;> cases h
  · intro i h; rfl
  · intro t _; rfl
  · have := List.countP_le_length (p := (!·)) (l := (Array.replicate ops.size false).toList)
    simpa using this
end
end Vals9
end Go.Proofs.Ytmofbnadfgejiaa
