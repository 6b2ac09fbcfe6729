import Derived.Test.YtojpiliamecgkaaNarrowF
import Derived.Test.YtojpiliamecgkaaMovedA
import Derived.Test.YtojpiliamecgkaaPulledA
/- What TideNarrow holds in memory while it builds the narrower beach. -/
namespace Go.Proofs.Ytojpiliamecgkaa
open Go.RowKit
namespace Td
set_option linter.unusedSimpArgs false
set_option linter.unusedVariables false
/-- an operation of a plain region that comes to a value by a builtin of two arguments. -/
theorem wpList_two {P : Program} {ops : Array Oper} {Q : Exit → Act → World → Prop} {o : Oper} {rest : List Oper} {a : Act} {w : World} (f : Builtin) (x y : Operand) (t : TypeId) (hop : o.op = .call { callee := .builtin f, args := #[x, y], argTypes := #[t, t] }) (v : Value) (hgd : o.guard = none)
    (hrun : ∀ K : Act → World → Prop, K (a.put o.dst v) w → o.wp P a w K Q) (h : wpList P ops Q rest (a.put o.dst v) w) : wpList P ops Q (o :: rest) a w :=
  wpList_plain hgd fun _ hK => hrun _ (hK _ _ h)
theorem trt_ok2 {b : Bch} {s : Shp} (hB : BchOk b) (hS : ShpOk s) (l : List Int) {i : Nat} (hi : i < b.ts.length) :
    ∃ he wn : Int, truthV (bx b s i) i l = ((trt b s l 0).1, (trt b s l 0).2.1, he, wn) ∧ (∀ k, nrI b s l k i = nrT b.ts[i] he wn k) ∧ 0 ≤ he ∧ he ≤ 1500 ∧ -200 ≤ wn ∧ wn ≤ 200 := by
  obtain ⟨_, _, ⟨q0, q1⟩, ⟨q2, q3⟩⟩ := trt_bd hB hS l hi
  have ht := hB.ts i hi
  rw [← tAt_eq hi] at ht
  obtain ⟨_, _, _, _, _, _, _, _⟩ := ht
  refine ⟨(trt b s l i).2.2.1, (trt b s l i).2.2.2, rfl, fun k => ?_, by omega, by omega, by omega, by omega⟩
  rw [← tAt_eq hi]
  rfl
/-- the values of the narrower tides. -/
abbrev nwV (t : Tid) (he wn k : Int) : Array Value := #[.int .i64 t.day, .int .i64 (max t.hlo (he - k)), .int .i64 (min t.hhi (he + k)), .int .i64 (max t.wlo (wn - k)), .int .i64 (min t.whi (wn + k))]
/-- the two stores of the slopes and drafts (13, 15): B, M, S by what is done. -/
structure N11 (X3 : World) (gM gS gT z : Nat) (M0 M1 S0 S1 : Array Value) (sl dr he wn : Int) (v : Value) (n : Nat) (vs : List Value) (σ : Vals9.Sig) (X : World) : Prop where
  sn : Since X3 X
  m : Blk X gM 26 (if (σ 13).isSome then M1 else M0)
  s : Blk X gS 28 (if (σ 15).isSome then S1 else S0)
  t : C4 gT sl dr he wn X
  sz : z ≤ X.heap.size
  o : X.ownsRow z 67 5 v n vs
section
variable {X3 : World} {gM gS gT z : Nat} {M0 M1 S0 S1 : Array Value} {sl dr he wn : Int} {v : Value} {n : Nat} {vs : List Value} {σ : Vals9.Sig} {X Y : World}
theorem N11.keep (h : N11 X3 gM gS gT z M0 M1 S0 S1 sl dr he wn v n vs σ X) (hb : Below X.heap.size X Y) : N11 X3 gM gS gT z M0 M1 S0 S1 sl dr he wn v n vs σ Y :=
  ⟨h.sn.keep hb, h.m.keep hb, h.s.keep hb, h.t.keep hb, Nat.le_trans h.sz hb.size, own_keep h.o hb⟩
end
theorem Since.setCell2 {w W : World} (h : Since w W) {g : Nat} (hg : w.heap.size ≤ g) (i j : Nat) (u v : Value) : Since w ((W.setCell ⟨g, i, none⟩ u).setCell ⟨g, j, none⟩ v) := ⟨(h.1.setCell hg _).setCell hg _, by simpa using h.2⟩
theorem C4.setCell {g : Nat} {a b c d : Int} {w : World} (h : C4 g a b c d w) {g' : Nat} (hne : g' ≠ g) (i : Nat) (u : Value) : C4 g a b c d (w.setCell ⟨g', i, none⟩ u) := by
  obtain ⟨h0, h1, h2, h3⟩ := h
  have e : ∀ j, (w.setCell ⟨g', i, none⟩ u).cell? ⟨g, j, none⟩ = w.cell? ⟨g, j, none⟩ := fun j => World.cell?_of_block (heap_setCell_other w ⟨g', i, none⟩ g u (by simpa using Ne.symm hne))
  exact ⟨(e 0).trans h0, (e 1).trans h1, (e 2).trans h2, (e 3).trans h3⟩
section
variable {X3 : World} {gM gS gT z : Nat} {M0 M1 S0 S1 : Array Value} {sl dr he wn : Int} {v : Value} {n : Nat} {vs : List Value} {σ : Vals9.Sig} {X Y : World}
theorem N11.st13 (h : N11 X3 gM gS gT z M0 M1 S0 S1 sl dr he wn v n vs σ X) (hn : σ 13 = none) (hgM : X3.heap.size ≤ gM) (hM : gM < z) (hMS : gM ≠ gS) (hMT : gM ≠ gT) (u0 u1 y : Value) (he1 : M1 = (M0.setIfInBounds 0 u0).setIfInBounds 1 u1) :
    N11 X3 gM gS gT z M0 M1 S0 S1 sl dr he wn v n vs (Vals9.upd σ 13 y) ((X.setCell ⟨gM, 0, none⟩ u0).setCell ⟨gM, 1, none⟩ u1) := by
  have hm := h.m
  rw [hn] at hm
  have e15 : Vals9.upd σ 13 y 15 = σ 15 := Vals9.upd_other _ _ (by decide)
  refine ⟨⟨(h.sn.1.setCell hgM _).setCell hgM _, by simpa using h.sn.2⟩, ?_, by rw [e15]; exact (h.s.far hMS _ _).far hMS _ _, (h.t.setCell hMT _ _).setCell hMT _ _, by simpa using h.sz, own_setCell (own_setCell h.o hM _ _) hM _ _⟩
  rw [Vals9.upd_same, he1]
  exact (hm.set 0 u0).set 1 u1
theorem N11.st15 (h : N11 X3 gM gS gT z M0 M1 S0 S1 sl dr he wn v n vs σ X) (hn : σ 15 = none) (hgS : X3.heap.size ≤ gS) (hS : gS < z) (hMS : gM ≠ gS) (hST : gS ≠ gT) (u0 u1 y : Value) (he1 : S1 = (S0.setIfInBounds 0 u0).setIfInBounds 1 u1) :
    N11 X3 gM gS gT z M0 M1 S0 S1 sl dr he wn v n vs (Vals9.upd σ 15 y) ((X.setCell ⟨gS, 0, none⟩ u0).setCell ⟨gS, 1, none⟩ u1) := by
  have hs := h.s
  rw [hn] at hs
  have e13 : Vals9.upd σ 15 y 13 = σ 13 := Vals9.upd_other _ _ (by decide)
  refine ⟨⟨(h.sn.1.setCell hgS _).setCell hgS _, by simpa using h.sn.2⟩, by rw [e13]; exact (h.m.far (Ne.symm hMS) _ _).far (Ne.symm hMS) _ _, ?_, (h.t.setCell hST _ _).setCell hST _ _, by simpa using h.sz, own_setCell (own_setCell h.o hS _ _) hS _ _⟩
  rw [Vals9.upd_same, he1]
  exact (hs.set 0 u0).set 1 u1
theorem N11.start (hsn : Since X3 X) (hm : Blk X gM 26 M0) (hs : Blk X gS 28 S0) (ht : C4 gT sl dr he wn X) (hz : z ≤ X.heap.size) (ho : X.ownsRow z 67 5 v n vs) : N11 X3 gM gS gT z M0 M1 S0 S1 sl dr he wn v n vs (fun _ => none) X.drew :=
  ⟨hsn.drew, hm, hs, ht, hz, own_keep ho ((Below.refl _ _).drew)⟩
end
/-- the append of one tide (29: its block, 30: the append, 32: the store of the slice). -/
structure N12 (X3 : World) (gM gS gT z : Nat) (M1 : Array Value) (S1 : Array Value) (sl dr he wn : Int) (v : Value) (n : Nat) (vs : List Value) (nv : Array Value) (σ : Vals9.Sig) (X : World) : Prop where
  sn : Since X3 X
  m : Blk X gM 26 (match σ 32, σ 30 with | some _, some u => M1.setIfInBounds 5 u | _, _ => M1)
  s : Blk X gS 28 S1
  t : C4 gT sl dr he wn X
  sz : z ≤ X.heap.size
  o : σ 30 = none → X.ownsRow z 67 5 v n vs
  b : ∀ u, σ 29 = some u → σ 30 = none → ∃ g, u = .slice (some ⟨g, 0, none⟩) 1 1 ∧ Blk X g 67 nv
  r : ∀ u, σ 30 = some u → ∃ g cap, u = .slice (some ⟨g, 0, none⟩) (n + 1) cap ∧ X.ownsRow z 67 5 u (n + 1) (vs ++ nv.toList)
  p : ∀ u, σ 32 = some u → ∃ u', σ 30 = some u'
  l : ∀ u, σ 1 = some u → u = v
  p1 : ∀ u, σ 30 = some u → ∃ u', σ 1 = some u'
section
variable {X3 : World} {gM gS gT z : Nat} {M1 S1 nv : Array Value} {sl dr he wn : Int} {v : Value} {n : Nat} {vs : List Value} {σ : Vals9.Sig} {X Y : World}
theorem N12.keep (h : N12 X3 gM gS gT z M1 S1 sl dr he wn v n vs nv σ X) (hb : Below X.heap.size X Y) : N12 X3 gM gS gT z M1 S1 sl dr he wn v n vs nv σ Y :=
  ⟨h.sn.keep hb, h.m.keep hb, h.s.keep hb, h.t.keep hb, Nat.le_trans h.sz hb.size, fun e => own_keep (h.o e) hb, fun u hu e => by
    obtain ⟨g, h1, h2⟩ := h.b u hu e
    exact ⟨g, h1, h2.keep hb⟩, fun u hu => by
    obtain ⟨g, cap, h1, h2⟩ := h.r u hu
    exact ⟨g, cap, h1, own_keep h2 hb⟩, h.p, h.l, h.p1⟩
theorem N12.build (h : N12 X3 gM gS gT z M1 S1 sl dr he wn v n vs nv σ X) : N12 X3 gM gS gT z M1 S1 sl dr he wn v n vs nv (Vals9.upd σ 29 (.slice (some ⟨X.heap.size, 0, none⟩) 1 1)) (X.alloc (.cells nv 67)) := by
  have hb : Below X.heap.size X (X.alloc (.cells nv 67)) := (Below.refl _ _).alloc (Nat.le_refl _) _
  have k := h.keep hb
  have e30 : Vals9.upd σ 29 (.slice (some ⟨X.heap.size, 0, none⟩) 1 1) 30 = σ 30 := Vals9.upd_other _ _ (by decide)
  have e1 : Vals9.upd σ 29 (.slice (some ⟨X.heap.size, 0, none⟩) 1 1) 1 = σ 1 := Vals9.upd_other _ _ (by decide)
  have e32 : Vals9.upd σ 29 (.slice (some ⟨X.heap.size, 0, none⟩) 1 1) 32 = σ 32 := Vals9.upd_other _ _ (by decide)
  refine ⟨k.sn, by rw [e30, e32]; exact k.m, k.s, k.t, k.sz, by rw [e30]; exact k.o, fun u hu _ => ?_, by rw [e30]; exact k.r, by rw [e30, e32]; exact k.p, by rw [e1]; exact k.l, by rw [e30, e1]; exact k.p1⟩
  rw [Vals9.upd_same] at hu
  obtain rfl := Option.some.inj hu
  exact ⟨_, rfl, Blk.new _ _ _⟩
theorem N12.append (h : N12 X3 gM gS gT z M1 S1 sl dr he wn v n vs nv σ X) {v1 : Value} (h1 : σ 1 = some v1) (h30 : σ 30 = none) (hz3 : X3.heap.size ≤ z) (hM : gM < z) (hS : gS < z) (hT : ∀ q, v.ownBlock = some q → q ≠ gT) {g cap : Nat} {Y : World}
    (hr : Y.ownsRow z 67 5 (.slice (some ⟨g, 0, none⟩) (n + 1) cap) (n + 1) (vs ++ nv.toList)) (hg : X.grownBy Y v.ownBlock) :
    N12 X3 gM gS gT z M1 S1 sl dr he wn v n vs nv (Vals9.upd σ 30 (.slice (some ⟨g, 0, none⟩) (n + 1) cap)) Y := by
  have hlt := (h.o h30).lt
  have e1 : Vals9.upd σ 30 (.slice (some ⟨g, 0, none⟩) (n + 1) cap) 1 = σ 1 := Vals9.upd_other _ _ (by decide)
  have e32 : Vals9.upd σ 30 (.slice (some ⟨g, 0, none⟩) (n + 1) cap) 32 = σ 32 := Vals9.upd_other _ _ (by decide)
  have hblk : ∀ {q : Nat} {t : TypeId} {cs : Array Value}, Blk X q t cs → (∀ k, v.ownBlock = some k → k ≠ q) → Blk Y q t cs := fun {q t cs} hB hne => (hg.block q hB.lt (fun e => hne q e.symm rfl)).trans hB
  have h32 : σ 32 = none := by
    cases e : σ 32 with
    | none => rfl
    | some u =>
      obtain ⟨u', hu⟩ := h.p u e
      rw [h30] at hu
      cases hu
  have hm := h.m
  rw [h32] at hm
  have hcell : ∀ j, Y.cell? ⟨gT, j, none⟩ = X.cell? ⟨gT, j, none⟩ ∨ X.cell? ⟨gT, j, none⟩ = none := fun j => by
    rcases Nat.lt_or_ge gT X.heap.size with hl | hl
    · exact .inl (World.cell?_of_block (hg.block gT hl (fun e => hT gT e.symm rfl)))
    · right
      unfold World.cell?
      rw [Array.getElem?_eq_none hl]
      try rfl
  have hc : ∀ j u, X.cell? ⟨gT, j, none⟩ = some u → Y.cell? ⟨gT, j, none⟩ = some u := fun j u hu => by
    rcases hcell j with e | e
    · rw [e]; exact hu
    · rw [e] at hu; cases hu
  refine ⟨since_grown h.sn hg (fun k hk => Nat.le_trans hz3 (hlt k hk).1), by rw [e32, h32]; exact hblk hm (fun k hk => by have := (hlt k hk).1; omega), hblk h.s (fun k hk => by have := (hlt k hk).1; omega), ⟨hc _ _ h.t.1, hc _ _ h.t.2.1, hc _ _ h.t.2.2.1, hc _ _ h.t.2.2.2⟩, Nat.le_trans h.sz hg.size, fun e => ?_, fun u hu e => ?_, fun u hu => ?_, fun u hu => ⟨_, Vals9.upd_same _ _ _⟩, by rw [e1]; exact h.l, fun u hu => ⟨v1, by rw [e1]; exact h1⟩⟩
  · rw [Vals9.upd_same] at e; cases e
  · rw [Vals9.upd_same] at e; cases e
  · rw [Vals9.upd_same] at hu
    obtain rfl := Option.some.inj hu
    exact ⟨g, cap, rfl, hr⟩
theorem N12.store (h : N12 X3 gM gS gT z M1 S1 sl dr he wn v n vs nv σ X) (hgM : X3.heap.size ≤ gM) (hM : gM < z) (hMS : gM ≠ gS) (hMT : gM ≠ gT) {u : Value} (h30 : σ 30 = some u) (h32 : σ 32 = none) (y : Value) :
    N12 X3 gM gS gT z M1 S1 sl dr he wn v n vs nv (Vals9.upd σ 32 y) (X.setCell ⟨gM, 5, none⟩ u) := by
  have e1 : Vals9.upd σ 32 y 1 = σ 1 := Vals9.upd_other _ _ (by decide)
  have e30 : Vals9.upd σ 32 y 30 = σ 30 := Vals9.upd_other _ _ (by decide)
  have hm := h.m
  rw [h32] at hm
  refine ⟨⟨h.sn.1.setCell hgM _, by simpa using h.sn.2⟩, by rw [e30, h30, Vals9.upd_same]; exact hm.set 5 u, h.s.far hMS _ _, h.t.setCell hMT _ _, by simpa using h.sz, fun e => ?_, fun u' hu e => ?_, fun u' hu => ?_, fun u' hu => ⟨u, by rw [e30]; exact h30⟩, by rw [e1]; exact h.l, by rw [e30, e1]; exact h.p1⟩
  · rw [e30, h30] at e; cases e
  · rw [e30, h30] at e; cases e
  · rw [e30] at hu
    obtain ⟨g, cap, h1, h2⟩ := h.r u' hu
    exact ⟨g, cap, h1, own_setCell h2 hM _ _⟩
/-- before the slice of tides is read nothing is appended. -/
theorem N12.early (h : N12 X3 gM gS gT z M1 S1 sl dr he wn v n vs nv σ X) (h1 : σ 1 = none) : Blk X gM 26 M1 := by
  have h30 : σ 30 = none := by
    cases e : σ 30 with
    | none => rfl
    | some u =>
      obtain ⟨u', hu⟩ := h.p1 u e
      rw [h1] at hu
      cases hu
  have hm := h.m
  rw [h30] at hm
  cases e : σ 32 with
  | none => rw [e] at hm; exact hm
  | some u => rw [e] at hm; exact hm
theorem N12.load (h : N12 X3 gM gS gT z M1 S1 sl dr he wn v n vs nv σ X) : N12 X3 gM gS gT z M1 S1 sl dr he wn v n vs nv (Vals9.upd σ 1 v) X := by
  have e29 : Vals9.upd σ 1 v 29 = σ 29 := Vals9.upd_other _ _ (by decide)
  have e30 : Vals9.upd σ 1 v 30 = σ 30 := Vals9.upd_other _ _ (by decide)
  have e32 : Vals9.upd σ 1 v 32 = σ 32 := Vals9.upd_other _ _ (by decide)
  refine ⟨h.sn, by rw [e30, e32]; exact h.m, h.s, h.t, h.sz, by rw [e30]; exact h.o, by rw [e29, e30]; exact h.b, by rw [e30]; exact h.r, by rw [e30, e32]; exact h.p, fun u hu => ?_, fun u hu => ⟨_, Vals9.upd_same _ _ _⟩⟩
  rw [Vals9.upd_same] at hu
  exact (Option.some.inj hu).symm
theorem N12.start (hsn : Since X3 X) (hm : Blk X gM 26 M1) (hs : Blk X gS 28 S1) (ht : C4 gT sl dr he wn X) (hz : z ≤ X.heap.size) (ho : X.ownsRow z 67 5 v n vs) : N12 X3 gM gS gT z M1 S1 sl dr he wn v n vs nv (fun _ => none) X.drew :=
  ⟨hsn.drew, hm, hs, ht, hz, fun _ => own_keep ho ((Below.refl _ _).drew), fun u h => (by cases h), fun u h => (by cases h), fun u h => (by cases h), fun u h => (by cases h), fun u h => (by cases h)⟩
end
end Td
end Go.Proofs.Ytojpiliamecgkaa
