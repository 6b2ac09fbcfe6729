import Derived.Test.YthdcklonamgpiaaGreatShw
/- Two lists of a struct that are appended to in one drawn region. -/
namespace Go.Proofs.YthdcklonamgpiaaGreat
open Go.RowKit
namespace Td
set_option linter.unusedSimpArgs false
set_option linter.unusedVariables false
/-- a truth that is being built, between an append and its store: what the struct holds may be older than the lists. -/
structure Tq (w : World) (B gt : Nat) (cg cl vg vl : Value) (gs ls : List Int) (X : World) : Prop where
  sn : Since w X
  tb : Blk X gt 32 #[cg, cl]
  og : X.ownsRow B 3 1 vg gs.length (gs.map fun x => .int .i64 x)
  ol : X.ownsRow B 3 1 vl ls.length (ls.map fun x => .int .i64 x)
  ne : ∀ g, vg.ownBlock = some g → vl.ownBlock ≠ some g
  lt : gt < B
  sB : B ≤ X.heap.size
  wB : w.heap.size ≤ gt
/-- the blocks that stay as they are: the hull's and the result's. -/
structure Bq (gH gR : Nat) (cs : Array Value) (X : World) : Prop where
  hb : Blk X gH 24 cs
  rb : Blk X gR 32 #[.slice none 0 0, .slice none 0 0]
theorem Bq.alloc {gH gR : Nat} {cs : Array Value} {X : World} (h : Bq gH gR cs X) (o : Obj) : Bq gH gR cs (X.alloc o) := ⟨h.hb.alloc o, h.rb.alloc o⟩
section
variable {w : World} {B gt : Nat} {cg cl vg vl : Value} {gs ls : List Int} {X X' : World}
theorem Tq.keep (h : Tq w B gt cg cl vg vl gs ls X) (hb : Below X.heap.size X X') : Tq w B gt cg cl vg vl gs ls X' := ⟨h.sn.keep hb, h.tb.keep hb, own_keep h.og hb, own_keep h.ol hb, h.ne, h.lt, Nat.le_trans h.sB hb.size, h.wB⟩
theorem Tq.appG (h : Tq w B gt cg cl vg vl gs ls X) {v' : Value} {Y : World} {x : Int} (ho : Y.ownsRow B 3 1 v' (gs ++ [x]).length ((gs ++ [x]).map fun x => .int .i64 x)) (hg : X.grownBy Y vg.ownBlock) (hv : v'.ownBlock = vg.ownBlock ∨ v'.ownBlock = some X.heap.size) :
    Tq w B gt cg cl v' vl (gs ++ [x]) ls Y := by
  have hlt := h.lt
  have hwB := h.wB
  have hrow : ∀ r, vg.ownBlock = some r → B ≤ r := fun r hr => (h.og.lt r hr).1
  refine ⟨⟨h.sn.1.grown hg h.sn.2 (fun q e => by have := hrow q e; omega), by have := h.sn.2; have := hg.size; omega⟩, ?_, ho, h.ol.kept hg ?_, ?_, hlt, by have := h.sB; have := hg.size; omega, hwB⟩
  · exact h.tb.grown hg (fun e => by have := hrow gt e.symm; omega)
  · cases e : vl.ownBlock with
    | none => exact .inl rfl
    | some k => exact .inr (fun e2 => h.ne k e2.symm e)
  · intro g e1 e2
    rcases hv with e3 | e3
    · exact h.ne g (e3 ▸ e1) e2
    · rw [e3] at e1; cases e1
      have := (h.ol.lt _ e2).2; omega
theorem Tq.appL (h : Tq w B gt cg cl vg vl gs ls X) {v' : Value} {Y : World} {x : Int} (ho : Y.ownsRow B 3 1 v' (ls ++ [x]).length ((ls ++ [x]).map fun x => .int .i64 x)) (hg : X.grownBy Y vl.ownBlock) (hv : v'.ownBlock = vl.ownBlock ∨ v'.ownBlock = some X.heap.size) :
    Tq w B gt cg cl vg v' gs (ls ++ [x]) Y := by
  have hlt := h.lt
  have hwB := h.wB
  have hrow : ∀ r, vl.ownBlock = some r → B ≤ r := fun r hr => (h.ol.lt r hr).1
  refine ⟨⟨h.sn.1.grown hg h.sn.2 (fun q e => by have := hrow q e; omega), by have := h.sn.2; have := hg.size; omega⟩, ?_, h.og.kept hg ?_, ho, ?_, hlt, by have := h.sB; have := hg.size; omega, hwB⟩
  · exact h.tb.grown hg (fun e => by have := hrow gt e.symm; omega)
  · cases e : vg.ownBlock with
    | none => exact .inl rfl
    | some k => exact .inr (fun e2 => h.ne k e e2.symm)
  · intro g e1 e2
    rcases hv with e3 | e3
    · exact h.ne g e1 (e3 ▸ e2)
    · rw [e3] at e2; cases e2
      have := (h.og.lt _ e1).2; omega
theorem Tq.setG (h : Tq w B gt cg cl vg vl gs ls X) (c : Value) : Tq w B gt c cl vg vl gs ls (X.setCell ⟨gt, 0, none⟩ c) :=
  ⟨⟨h.sn.1.setCell (p := ⟨gt, 0, none⟩) h.wB _, by have := h.sn.2; simp; omega⟩, h.tb.set 0 c, own_far h.og gt 0 _ (fun k e => by have := (h.og.lt k e).1; have := h.lt; omega), own_far h.ol gt 0 _ (fun k e => by have := (h.ol.lt k e).1; have := h.lt; omega), h.ne, h.lt, by have := h.sB; simp; omega, h.wB⟩
theorem Tq.setL (h : Tq w B gt cg cl vg vl gs ls X) (c : Value) : Tq w B gt cg c vg vl gs ls (X.setCell ⟨gt, 1, none⟩ c) :=
  ⟨⟨h.sn.1.setCell (p := ⟨gt, 1, none⟩) h.wB _, by have := h.sn.2; simp; omega⟩, h.tb.set 1 c, own_far h.og gt 1 _ (fun k e => by have := (h.og.lt k e).1; have := h.lt; omega), own_far h.ol gt 1 _ (fun k e => by have := (h.ol.lt k e).1; have := h.lt; omega), h.ne, h.lt, by have := h.sB; simp; omega, h.wB⟩
theorem Tw.tq (h : Tw w B gt vg vl gs ls X) : Tq w B gt vg vl vg vl gs ls X := ⟨h.sn, h.tb, h.og, h.ol, h.ne, h.lt, h.sB, h.wB⟩
theorem Tq.tw (h : Tq w B gt vg vl vg vl gs ls X) : Tw w B gt vg vl gs ls X := ⟨h.sn, h.tb, h.og, h.ol, h.ne, h.lt, h.sB, h.wB⟩
end
/-- a block that is neither the struct nor one of the lists' rows. -/
structure Aside (gt g : Nat) (t : TypeId) (cs : Array Value) (vg vl : Value) (X : World) : Prop where
  b : Blk X g t cs
  n : gt ≠ g
  g1 : ∀ r, vg.ownBlock = some r → r ≠ g
  l1 : ∀ r, vl.ownBlock = some r → r ≠ g
section
variable {gt g : Nat} {t : TypeId} {cs : Array Value} {vg vl : Value} {X X' : World}
theorem Aside.keep (h : Aside gt g t cs vg vl X) (hb : Below X.heap.size X X') : Aside gt g t cs vg vl X' := ⟨h.b.keep hb, h.n, h.g1, h.l1⟩
theorem Aside.drew (h : Aside gt g t cs vg vl X) : Aside gt g t cs vg vl X.drew := ⟨h.b.drew, h.n, h.g1, h.l1⟩
theorem Aside.appG (h : Aside gt g t cs vg vl X) {v' : Value} {Y : World} (hg : X.grownBy Y vg.ownBlock) (hv : v'.ownBlock = vg.ownBlock ∨ v'.ownBlock = some X.heap.size) : Aside gt g t cs v' vl Y :=
  ⟨h.b.grown hg (fun e => h.g1 g e.symm rfl), h.n, fun r hr => by
    rcases hv with e | e
    · exact h.g1 r (e ▸ hr)
    · rw [e] at hr; cases hr; have := h.b.lt; omega, h.l1⟩
theorem Aside.appL (h : Aside gt g t cs vg vl X) {v' : Value} {Y : World} (hg : X.grownBy Y vl.ownBlock) (hv : v'.ownBlock = vl.ownBlock ∨ v'.ownBlock = some X.heap.size) : Aside gt g t cs vg v' Y :=
  ⟨h.b.grown hg (fun e => h.l1 g e.symm rfl), h.n, h.g1, fun r hr => by
    rcases hv with e | e
    · exact h.l1 r (e ▸ hr)
    · rw [e] at hr; cases hr; have := h.b.lt; omega⟩
theorem Aside.set (h : Aside gt g t cs vg vl X) (i : Nat) (u : Value) : Aside gt g t cs vg vl (X.setCell ⟨gt, i, none⟩ u) := ⟨h.b.far h.n i u, h.n, h.g1, h.l1⟩
end
theorem Tq.aside {w : World} {B gt : Nat} {cg cl vg vl : Value} {gs ls : List Int} {X : World} (h : Tq w B gt cg cl vg vl gs ls X) (t : TypeId) (cs : Array Value) : Aside gt X.heap.size t cs vg vl (X.alloc (.cells cs t)) :=
  ⟨Blk.new _ _ _, by have := h.tb.lt; omega, fun r hr => by have := (h.og.lt r hr).2; omega, fun r hr => by have := (h.ol.lt r hr).2; omega⟩
theorem Tw.aside {w : World} {B gt : Nat} {vg vl : Value} {gs ls : List Int} {X : World} (h : Tw w B gt vg vl gs ls X) {g : Nat} {t : TypeId} {cs : Array Value} (hb : Blk X g t cs) (hg : g < gt) : Aside gt g t cs vg vl X :=
  ⟨hb, by omega, fun r hr => by have := (h.og.lt r hr).1; have := h.lt; omega, fun r hr => by have := (h.ol.lt r hr).1; have := h.lt; omega⟩
/-- where one of the lists stands: before its append, between it and the store, behind the store. -/
def PhA (v0 : Value) (l0 : List Int) (x : Int) (oL oS oA oW : Option Value) (c v : Value) (l : List Int) : Prop :=
  (oA = none ∧ oW = none ∧ c = v0 ∧ v = v0 ∧ l = l0 ∧ ∀ u, oL = some u → u = v0) ∨
  (oL ≠ none ∧ oS ≠ none ∧ oW = none ∧ c = v0 ∧ l = l0 ++ [x] ∧ oA = some v ∧ ∃ A k, v = .slice A (l0 ++ [x]).length k) ∨
  (oL ≠ none ∧ oS ≠ none ∧ oA ≠ none ∧ oW ≠ none ∧ c = v ∧ l = l0 ++ [x] ∧ ∃ A k, v = .slice A (l0 ++ [x]).length k)
structure Ap (w : World) (B gt : Nat) (L : List (Nat × TypeId × Array Value)) (vg0 vl0 : Value) (gs0 ls0 : List Int) (x y : Int) (oL oS oA oW pL pS pA pW : Option Value) (X : World) : Prop where
  ex : ∃ cg vg gs cl vl ls, PhA vg0 gs0 x oL oS oA oW cg vg gs ∧ PhA vl0 ls0 y pL pS pA pW cl vl ls ∧ Tq w B gt cg cl vg vl gs ls X ∧ (∀ b ∈ L, Aside gt b.1 b.2.1 b.2.2 vg vl X) ∧
    (∀ u, oS = some u → ∃ g, u = .slice (some ⟨g, 0, none⟩) 1 1 ∧ Aside gt g 3 #[.int .i64 x] vg vl X) ∧ (∀ u, pS = some u → ∃ g, u = .slice (some ⟨g, 0, none⟩) 1 1 ∧ Aside gt g 3 #[.int .i64 y] vg vl X)
  hG : gs0.length ≤ 1000
  hL : ls0.length ≤ 1000
section
variable {w : World} {B gt : Nat} {L : List (Nat × TypeId × Array Value)} {vg0 vl0 : Value} {gs0 ls0 : List Int} {x y : Int} {oL oS oA oW pL pS pA pW : Option Value} {X X' : World}
theorem Ap.start (h : Tw w B gt vg0 vl0 gs0 ls0 X) (hL : ∀ b ∈ L, Aside gt b.1 b.2.1 b.2.2 vg0 vl0 X) (h1 : gs0.length ≤ 1000) (h2 : ls0.length ≤ 1000) : Ap w B gt L vg0 vl0 gs0 ls0 x y none none none none none none none none X :=
  ⟨⟨vg0, vg0, gs0, vl0, vl0, ls0, .inl ⟨rfl, rfl, rfl, rfl, rfl, fun u e => (by cases e)⟩, .inl ⟨rfl, rfl, rfl, rfl, rfl, fun u e => (by cases e)⟩, h.tq, hL, fun u e => (by cases e), fun u e => (by cases e)⟩, h1, h2⟩
theorem Ap.keep (h : Ap w B gt L vg0 vl0 gs0 ls0 x y oL oS oA oW pL pS pA pW X) (hb : Below X.heap.size X X') : Ap w B gt L vg0 vl0 gs0 ls0 x y oL oS oA oW pL pS pA pW X' := by
  obtain ⟨⟨cg, vg, gs, cl, vl, ls, a, b, c, d, e, f⟩, h1, h2⟩ := h
  exact ⟨⟨cg, vg, gs, cl, vl, ls, a, b, c.keep hb, fun q hq => (d q hq).keep hb, fun u hu => by obtain ⟨g, e1, e2⟩ := e u hu; exact ⟨g, e1, e2.keep hb⟩, fun u hu => by obtain ⟨g, e1, e2⟩ := f u hu; exact ⟨g, e1, e2.keep hb⟩⟩, h1, h2⟩
theorem Ap.since (h : Ap w B gt L vg0 vl0 gs0 ls0 x y oL oS oA oW pL pS pA pW X) : Since w X := by
  obtain ⟨⟨cg, vg, gs, cl, vl, ls, a, b, c, d, e, f⟩, h1, h2⟩ := h
  exact c.sn
theorem Ap.blk (h : Ap w B gt L vg0 vl0 gs0 ls0 x y oL oS oA oW pL pS pA pW X) {b : Nat × TypeId × Array Value} (hb : b ∈ L) : Blk X b.1 b.2.1 b.2.2 := by
  obtain ⟨⟨cg, vg, gs, cl, vl, ls, a, b', c, d, e, f⟩, h1, h2⟩ := h
  exact (d b hb).b
/-- the other list first. -/
theorem Ap.loadG (h : Ap w B gt L vg0 vl0 gs0 ls0 x y none oS oA oW pL pS pA pW X) : X.cell? ⟨gt, 0, none⟩ = some vg0 ∧ Ap w B gt L vg0 vl0 gs0 ls0 x y (some vg0) oS oA oW pL pS pA pW X := by
  obtain ⟨⟨cg, vg, gs, cl, vl, ls, a, b, c, d, e, f⟩, h1, h2⟩ := h
  rcases a with ⟨a1, a2, a3, a4, a5, a6⟩ | ⟨a1, _⟩ | ⟨a1, _⟩
  · subst a3
    exact ⟨c.tb.cell 0, ⟨_, vg, gs, cl, vl, ls, .inl ⟨a1, a2, rfl, a4, a5, fun u hu => (Option.some.inj hu).symm⟩, b, c, d, e, f⟩, h1, h2⟩
  · exact absurd rfl a1
  · exact absurd rfl a1
theorem Ap.loadL (h : Ap w B gt L vg0 vl0 gs0 ls0 x y oL oS oA oW none pS pA pW X) : X.cell? ⟨gt, 1, none⟩ = some vl0 ∧ Ap w B gt L vg0 vl0 gs0 ls0 x y oL oS oA oW (some vl0) pS pA pW X := by
  obtain ⟨⟨cg, vg, gs, cl, vl, ls, b, a, c, d, e, f⟩, h1, h2⟩ := h
  rcases a with ⟨a1, a2, a3, a4, a5, a6⟩ | ⟨a1, _⟩ | ⟨a1, _⟩
  · subst a3
    exact ⟨c.tb.cell 1, ⟨cg, vg, gs, _, vl, ls, b, .inl ⟨a1, a2, rfl, a4, a5, fun u hu => (Option.some.inj hu).symm⟩, c, d, e, f⟩, h1, h2⟩
  · exact absurd rfl a1
  · exact absurd rfl a1
theorem Ap.litG (h : Ap w B gt L vg0 vl0 gs0 ls0 x y oL none oA oW pL pS pA pW X) : Ap w B gt L vg0 vl0 gs0 ls0 x y oL (some (.slice (some ⟨X.heap.size, 0, none⟩) 1 1)) oA oW pL pS pA pW (X.alloc (.cells #[.int .i64 x] 3)) := by
  have hb : Below X.heap.size X (X.alloc (.cells #[.int .i64 x] 3)) := (Below.refl _ _).alloc (Nat.le_refl _) _
  obtain ⟨⟨cg, vg, gs, cl, vl, ls, a, b, c, d, e, f⟩, h1, h2⟩ := h
  rcases a with ⟨a1, a2, a3⟩ | ⟨_, a1, _⟩ | ⟨_, a1, _⟩
  · exact ⟨⟨cg, vg, gs, cl, vl, ls, .inl ⟨a1, a2, a3⟩, b, c.keep hb, fun q hq => (d q hq).keep hb, fun u hu => ⟨_, (Option.some.inj hu).symm, c.aside _ _⟩, fun u hu => by obtain ⟨g, e1, e2⟩ := f u hu; exact ⟨g, e1, e2.keep hb⟩⟩, h1, h2⟩
  · exact absurd rfl a1
  · exact absurd rfl a1
theorem Ap.litL (h : Ap w B gt L vg0 vl0 gs0 ls0 x y oL oS oA oW pL none pA pW X) : Ap w B gt L vg0 vl0 gs0 ls0 x y oL oS oA oW pL (some (.slice (some ⟨X.heap.size, 0, none⟩) 1 1)) pA pW (X.alloc (.cells #[.int .i64 y] 3)) := by
  have hb : Below X.heap.size X (X.alloc (.cells #[.int .i64 y] 3)) := (Below.refl _ _).alloc (Nat.le_refl _) _
  obtain ⟨⟨cg, vg, gs, cl, vl, ls, b, a, c, d, e, f⟩, h1, h2⟩ := h
  rcases a with ⟨a1, a2, a3⟩ | ⟨_, a1, _⟩ | ⟨_, a1, _⟩
  · exact ⟨⟨cg, vg, gs, cl, vl, ls, b, .inl ⟨a1, a2, a3⟩, c.keep hb, fun q hq => (d q hq).keep hb, fun u hu => by obtain ⟨g, e1, e2⟩ := e u hu; exact ⟨g, e1, e2.keep hb⟩, fun u hu => ⟨_, (Option.some.inj hu).symm, c.aside _ _⟩⟩, h1, h2⟩
  · exact absurd rfl a1
  · exact absurd rfl a1
theorem Ap.doG {u s : Value} (h : Ap w B gt L vg0 vl0 gs0 ls0 x y (some u) (some s) none oW pL pS pA pW X) (ty : TypeId) : ∃ A k w', (Builtin.append_ #[30, 30] ty #[u, s]).run Tryz.prog X = .ok (.slice A (gs0 ++ [x]).length k) w' ∧
    Ap w B gt L vg0 vl0 gs0 ls0 x y (some u) (some s) (some (.slice A (gs0 ++ [x]).length k)) oW pL pS pA pW w' := by
  obtain ⟨⟨cg, vg, gs, cl, vl, ls, a, b, c, d, e, f⟩, h1, h2⟩ := h
  rcases a with ⟨a1, a2, a3, a4, a5, a6⟩ | ⟨_, _, _, _, _, a1, _⟩ | ⟨_, _, a1, _⟩
  · obtain rfl := a6 u rfl
    subst a3 a4 a5
    obtain ⟨g, rfl, hg⟩ := e s rfl
    obtain ⟨v', w', hr, i2, i3, i5⟩ := append_int c.og hg.b h1 c.sB ty
    obtain ⟨A, k, hv, -⟩ := own_int i2
    subst hv
    exact ⟨A, k, w', hr, ⟨_, _, _, cl, vl, ls, .inr (.inl ⟨fun e => (by cases e), fun e => (by cases e), a2, rfl, rfl, rfl, A, k, rfl⟩), b, c.appG i2 i3 i5, fun q hq => (d q hq).appG i3 i5, fun u hu => by obtain ⟨g, e1, e2⟩ := e u hu; exact ⟨g, e1, e2.appG i3 i5⟩, fun u hu => by obtain ⟨g, e1, e2⟩ := f u hu; exact ⟨g, e1, e2.appG i3 i5⟩⟩, h1, h2⟩
  · cases a1
  · exact absurd rfl a1
theorem Ap.doL {u s : Value} (h : Ap w B gt L vg0 vl0 gs0 ls0 x y oL oS oA oW (some u) (some s) none pW X) (ty : TypeId) : ∃ A k w', (Builtin.append_ #[30, 30] ty #[u, s]).run Tryz.prog X = .ok (.slice A (ls0 ++ [y]).length k) w' ∧
    Ap w B gt L vg0 vl0 gs0 ls0 x y oL oS oA oW (some u) (some s) (some (.slice A (ls0 ++ [y]).length k)) pW w' := by
  obtain ⟨⟨cg, vg, gs, cl, vl, ls, b, a, c, d, e, f⟩, h1, h2⟩ := h
  rcases a with ⟨a1, a2, a3, a4, a5, a6⟩ | ⟨_, _, _, _, _, a1, _⟩ | ⟨_, _, a1, _⟩
  · obtain rfl := a6 u rfl
    subst a3 a4 a5
    obtain ⟨g, rfl, hg⟩ := f s rfl
    obtain ⟨v', w', hr, i2, i3, i5⟩ := append_int c.ol hg.b h2 c.sB ty
    obtain ⟨A, k, hv, -⟩ := own_int i2
    subst hv
    exact ⟨A, k, w', hr, ⟨cg, vg, gs, _, _, _, b, .inr (.inl ⟨fun e => (by cases e), fun e => (by cases e), a2, rfl, rfl, rfl, A, k, rfl⟩), c.appL i2 i3 i5, fun q hq => (d q hq).appL i3 i5, fun u hu => by obtain ⟨g, e1, e2⟩ := e u hu; exact ⟨g, e1, e2.appL i3 i5⟩, fun u hu => by obtain ⟨g, e1, e2⟩ := f u hu; exact ⟨g, e1, e2.appL i3 i5⟩⟩, h1, h2⟩
  · cases a1
  · exact absurd rfl a1
theorem Ap.putG {u : Value} (h : Ap w B gt L vg0 vl0 gs0 ls0 x y oL oS (some u) none pL pS pA pW X) (z : Value) : (∃ A k, u = .slice A (gs0 ++ [x]).length k) ∧ (∃ c, X.cell? ⟨gt, 0, none⟩ = some c) ∧ X.frozen? ⟨gt, 0, none⟩ = false ∧ Ap w B gt L vg0 vl0 gs0 ls0 x y oL oS (some u) (some z) pL pS pA pW (X.setCell ⟨gt, 0, none⟩ u) := by
  obtain ⟨⟨cg, vg, gs, cl, vl, ls, a, b, c, d, e, f⟩, h1, h2⟩ := h
  rcases a with ⟨a1, _⟩ | ⟨a1, a2, a3, a4, a5, a6, a7⟩ | ⟨_, _, _, a1, _⟩
  · cases a1
  · cases a6
    exact ⟨a7, ⟨_, c.tb.cell 0⟩, c.tb.frozen 0, ⟨_, u, gs, cl, vl, ls, .inr (.inr ⟨a1, a2, fun e => (by cases e), fun e => (by cases e), rfl, a5, a7⟩), b, c.setG u, fun q hq => (d q hq).set 0 u, fun s hs => by obtain ⟨g, e1, e2⟩ := e s hs; exact ⟨g, e1, e2.set 0 u⟩, fun s hs => by obtain ⟨g, e1, e2⟩ := f s hs; exact ⟨g, e1, e2.set 0 u⟩⟩, h1, h2⟩
  · exact absurd rfl a1
theorem Ap.putL {u : Value} (h : Ap w B gt L vg0 vl0 gs0 ls0 x y oL oS oA oW pL pS (some u) none X) (z : Value) : (∃ A k, u = .slice A (ls0 ++ [y]).length k) ∧ (∃ c, X.cell? ⟨gt, 1, none⟩ = some c) ∧ X.frozen? ⟨gt, 1, none⟩ = false ∧ Ap w B gt L vg0 vl0 gs0 ls0 x y oL oS oA oW pL pS (some u) (some z) (X.setCell ⟨gt, 1, none⟩ u) := by
  obtain ⟨⟨cg, vg, gs, cl, vl, ls, b, a, c, d, e, f⟩, h1, h2⟩ := h
  rcases a with ⟨a1, _⟩ | ⟨a1, a2, a3, a4, a5, a6, a7⟩ | ⟨_, _, _, a1, _⟩
  · cases a1
  · cases a6
    exact ⟨a7, ⟨_, c.tb.cell 1⟩, c.tb.frozen 1, ⟨cg, vg, gs, _, u, ls, b, .inr (.inr ⟨a1, a2, fun e => (by cases e), fun e => (by cases e), rfl, a5, a7⟩), c.setL u, fun q hq => (d q hq).set 1 u, fun s hs => by obtain ⟨g, e1, e2⟩ := e s hs; exact ⟨g, e1, e2.set 1 u⟩, fun s hs => by obtain ⟨g, e1, e2⟩ := f s hs; exact ⟨g, e1, e2.set 1 u⟩⟩, h1, h2⟩
  · exact absurd rfl a1
theorem Ap.done {s t : Value} (h : Ap w B gt L vg0 vl0 gs0 ls0 x y oL oS oA (some s) pL pS pA (some t) X) : ∃ A k A' k', Tw w B gt (.slice A (gs0 ++ [x]).length k) (.slice A' (ls0 ++ [y]).length k') (gs0 ++ [x]) (ls0 ++ [y]) X ∧ ∀ b ∈ L, Blk X b.1 b.2.1 b.2.2 := by
  obtain ⟨⟨cg, vg, gs, cl, vl, ls, a, b, c, d, e, f⟩, h1, h2⟩ := h
  rcases a with ⟨_, a1, _⟩ | ⟨_, _, a1, _⟩ | ⟨_, _, _, _, rfl, rfl, A, k, rfl⟩
  · cases a1
  · cases a1
  · rcases b with ⟨_, a1, _⟩ | ⟨_, _, a1, _⟩ | ⟨_, _, _, _, rfl, rfl, A', k', rfl⟩
    · cases a1
    · cases a1
    · exact ⟨A, k, A', k', c.tw, fun q hq => (d q hq).b⟩
end
end Td
end Go.Proofs.YthdcklonamgpiaaGreat
