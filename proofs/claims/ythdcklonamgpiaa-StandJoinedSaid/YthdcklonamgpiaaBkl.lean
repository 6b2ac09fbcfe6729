import Derived.Test.YthdcklonamgpiaaLod
/- A hull that is built in a loop: parts are appended one by one. -/
namespace Go.Proofs.Ythdcklonamgpiaa
open Go.RowKit
namespace Td
set_option linter.unusedSimpArgs false
set_option linter.unusedVariables false
attribute [local go_sem] Oper.semAt_some
theorem flat_app (l m : List Prt) : flat (l ++ m) = flat l ++ flat m := by simp [flat]
theorem flat_one (p : Prt) : flat [p] = (pV p).toList := by simp [flat]
set_option maxRecDepth 100000 in
/-- append of one part behind a slice that owns its row. -/
theorem append_part {W : World} {B g : Nat} {v : Value} {l : List Prt} {p : Prt} (hown : W.ownsRow B 74 7 v l.length (flat l)) (hg : Blk W g 74 (pV p)) (hl : l.length ≤ 1000) (hB : B ≤ W.heap.size) (ty : TypeId) :
    ∃ v' w', (Builtin.append_ #[22, 22] ty #[v, .slice (some ⟨g, 0, none⟩) 1 1]).run Try.prog W = .ok v' w' ∧ w'.ownsRow B 74 7 v' (l ++ [p]).length (flat (l ++ [p])) ∧ W.grownBy w' v.ownBlock ∧ (v'.ownBlock = v.ownBlock ∨ v'.ownBlock = some W.heap.size) := by
  obtain ⟨i0, hi0, hi1⟩ := Option.map_eq_some_iff.1 infoP
  simp only [Prod.mk.injEq] at hi1
  obtain ⟨hz0, hz1, hz2⟩ := hi1
  obtain ⟨v', w', h1, h2, h3, _, h5⟩ := run_append_own_at (P := Try.prog) W B 22 ty 74 i0 _ 7 64 Try.underlying22 hi0 hz0 hz1 hz2 rfl (by omega)
    v l.length (flat l) hown ⟨g, 0, none⟩ 1 1 (pV p).toList (by simp) (fun j u hj => by
      rw [add_new]
      have := hg.cell j
      rw [this]
      simpa using hj) (by
      intro u hu
      simp at hu
      rcases hu with rfl | rfl | rfl | rfl | rfl | rfl | rfl <;> rfl) (by simp only [maxLen]; omega) (by omega) hB
  refine ⟨v', w', h1, ?_, h3, h5⟩
  rw [flat_app, flat_one, List.length_append]
  exact h2
theorem wpList_append_part {W : World} {ops : Array Oper} {rest : List Oper} {o : Oper} {a : Act} {Q : Exit → Act → World → Prop} (hgd : o.guard = none) (x y : Operand) (ho : o.op = .call { callee := .builtin .append, args := #[x, y], argTypes := #[22, 22] })
    (B g : Nat) (v : Value) (l : List Prt) (p : Prt) (hx : a.eval x = v) (hy : a.eval y = .slice (some ⟨g, 0, none⟩) 1 1) (hown : W.ownsRow B 74 7 v l.length (flat l)) (hg : Blk W g 74 (pV p)) (hl : l.length ≤ 1000) (hB : B ≤ W.heap.size)
    (h : ∀ v' w', w'.ownsRow B 74 7 v' (l ++ [p]).length (flat (l ++ [p])) → W.grownBy w' v.ownBlock → (v'.ownBlock = v.ownBlock ∨ v'.ownBlock = some W.heap.size) → wpList Try.prog ops Q rest (a.put o.dst v') w') : wpList Try.prog ops Q (o :: rest) a W := by
  refine wpList_plain hgd fun _ hK => ?_
  obtain ⟨v', w', hr, h2, h3, h5⟩ := append_part hown hg hl hB o.type
  unfold Oper.wp execOp
  simp only [ho, resolve, invoke, builtin, Sem.run_bind, Sem.run_pure, Result.andThen_ok, List.map_toArray, List.map_cons, List.map_nil, hx, hy, hr]
  exact hK _ _ (h v' w' h2 h3 h5)
/-- a slice that owns parts, opened. -/
theorem own_parts {W : World} {B : Nat} {v : Value} {l : List Prt} (h : W.ownsRow B 74 7 v l.length (flat l)) : ∃ A c, v = .slice A l.length c ∧ PtAt W A l ∧ l.length ≤ c ∧ c ≤ 9223372036854775807 := by
  rcases h.2 with ⟨rfl, h0⟩ | ⟨g, cap, cur, rfl, hB, hg, h1, h2, h3, h4⟩
  · have : l = [] := List.eq_nil_of_length_eq_zero h0
    subst this
    exact ⟨none, 0, rfl, fun hx => absurd rfl hx, by simp, by simp⟩
  · have hC : PtC cur l := fun i cc p hp hc => by
      have hi : i < l.length := (List.getElem?_eq_some_iff.1 hp).1
      have := flat_get l i cc p hp hc
      rw [← h4, List.getElem?_take, if_pos (by omega)] at this
      simpa using this
    exact ⟨_, cap, rfl, PtC.at (show Blk W g 74 cur from hg) hC, h1, by simp only [maxLen] at h2; omega⟩
/-- a hull that is being built, since a world that lies behind the rest. -/
structure Bh (w : World) (B gb : Nat) (vg : Value) (a f : Int) (l : List Prt) (X : World) : Prop where
  sn : Since w X
  tb : Blk X gb 24 #[vg, .int .i64 a, .int .i64 f]
  og : X.ownsRow B 74 7 vg l.length (flat l)
  lt : gb < B
  sB : B ≤ X.heap.size
  wB : w.heap.size ≤ gb
section
variable {w : World} {B gb : Nat} {vg : Value} {a f : Int} {l : List Prt} {X X' : World}
theorem Bh.keep (h : Bh w B gb vg a f l X) (hb : Below X.heap.size X X') : Bh w B gb vg a f l X' := ⟨h.sn.keep hb, h.tb.keep hb, own_keep h.og hb, h.lt, Nat.le_trans h.sB hb.size, h.wB⟩
theorem Bh.alloc (h : Bh w B gb vg a f l X) (o : Obj) : Bh w B gb vg a f l (X.alloc o) := h.keep ((Below.refl _ _).alloc (Nat.le_refl _) _)
/-- a store into a block that is not the hull's nor its row. -/
theorem Bh.far (h : Bh w B gb vg a f l X) {g : Nat} (hg : gb < g) (hn : ∀ k, vg.ownBlock = some k → k ≠ g) (i : Nat) (u : Value) : Bh w B gb vg a f l (X.setCell ⟨g, i, none⟩ u) :=
  ⟨h.sn.set (g := g) (by have := h.wB; omega) i u, h.tb.far (by omega) i u, h.og.kept (row := some g) ⟨rfl, rfl, rfl, by simp, fun k hk hn' => heap_setCell_other X ⟨g, i, none⟩ k u (fun e => hn' (by rw [e]))⟩ (by
    cases hv : vg.ownBlock with
    | none => exact .inl rfl
    | some k => exact .inr (fun e => hn k hv (by cases e; rfl))), h.lt, by have := h.sB; simp; omega, h.wB⟩
theorem Bh.push (h : Bh w B gb vg a f l X) {v' : Value} {Y : World} {p : Prt} (ho : Y.ownsRow B 74 7 v' (l ++ [p]).length (flat (l ++ [p]))) (hg : X.grownBy Y vg.ownBlock) : Bh w B gb v' a f (l ++ [p]) (Y.setCell ⟨gb, 0, none⟩ v') := by
  have hlt := h.lt
  have hwB := h.wB
  have hrow : ∀ r, vg.ownBlock = some r → B ≤ r := fun r hr => (h.og.lt r hr).1
  refine ⟨⟨(h.sn.1.grown hg h.sn.2 (fun q e => by have := hrow q e; omega)).setCell (p := ⟨gb, 0, none⟩) hwB _, by have := h.sn.2; have := hg.size; simp; omega⟩, ?_, ?_, hlt, by have := h.sB; have := hg.size; simp; omega, hwB⟩
  · exact (h.tb.grown hg (fun e => by have := hrow gb e.symm; omega)).set 0 v'
  · exact ho.kept (row := some gb) ⟨rfl, rfl, rfl, by simp, fun k hk hn => heap_setCell_other Y ⟨gb, 0, none⟩ k _ (fun e => hn (by rw [e]))⟩ (by
      cases hv : v'.ownBlock with
      | none => exact .inl rfl
      | some k => exact .inr (fun e => by cases e; have := (ho.lt _ hv).1; omega))
end
end Td
end Go.Proofs.Ythdcklonamgpiaa
