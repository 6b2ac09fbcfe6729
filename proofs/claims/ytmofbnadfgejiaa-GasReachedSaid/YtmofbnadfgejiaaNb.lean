import Derived.Test.YtmofbnadfgejiaaLrd
import Derived.Test.YtmofbnadfgejiaaCov
/- A box of its own that a drawn region lays and fills, whatever else it reads. -/
namespace Go.Proofs.Ytmofbnadfgejiaa
open Go.RowKit
namespace Td
set_option linter.unusedVariables false
theorem sdN {w W : World} (h : Since w W) (n : Nat) : Since w (W.drewN n) := ⟨bdrew h.1 _, h.2⟩
set_option linter.unusedSimpArgs false
theorem append_oneB {W : World} {B g : Nat} {v : Value} {l : List Int} {x : Int} (hown : W.ownsRow B 3 1 v l.length (l.map fun x => .int .i64 x)) (hg : Blk W g 3 #[.int .i64 x]) (hl : l.length ≤ 1048576) (hB : B ≤ W.heap.size) (ty : TypeId) :
    ∃ v' w', (Builtin.append_ #[38, 38] ty #[v, .slice (some ⟨g, 0, none⟩) 1 1]).run Try.prog W = .ok v' w' ∧ w'.ownsRow B 3 1 v' (l ++ [x]).length ((l ++ [x]).map fun x => .int .i64 x) ∧ W.grownBy w' v.ownBlock := by
  obtain ⟨i0, hi0, hi1⟩ := Option.map_eq_some_iff.1 info3
  simp only [Prod.mk.injEq] at hi1
  obtain ⟨hz0, hz1, hz2⟩ := hi1
  obtain ⟨v', w', h1, h2, h3, _, h5⟩ := run_append_own_at (P := Try.prog) W B 38 ty 3 i0 _ 1 8 Try.underlying38 hi0 hz0 hz1 hz2 rfl (by omega)
    v l.length (l.map fun x => .int .i64 x) hown ⟨g, 0, none⟩ 1 1 [.int .i64 x] (by simp) (fun j u hj => by
      rw [add_new]
      have := hg.cell j
      rw [this]
      simpa using hj) (by intro u hu; simp at hu; subst hu; rfl) (by simp only [maxLen]; omega) (by omega) hB
  refine ⟨v', w', h1, ?_, h3⟩
  rw [List.map_append, List.length_append]
  exact h2
theorem wpList_append_oneB {W : World} {ops : Array Oper} {rest : List Oper} {o : Oper} {a : Act} {Q : Exit → Act → World → Prop} (hgd : o.guard = none) (x y : Operand) (ho : o.op = .call { callee := .builtin .append, args := #[x, y], argTypes := #[38, 38] })
    (B g : Nat) (v : Value) (l : List Int) (n : Int) (hx : a.eval x = v) (hy : a.eval y = .slice (some ⟨g, 0, none⟩) 1 1) (hown : W.ownsRow B 3 1 v l.length (l.map fun x => .int .i64 x)) (hg : Blk W g 3 #[.int .i64 n]) (hl : l.length ≤ 1048576) (hB : B ≤ W.heap.size)
    (h : ∀ v' w', w'.ownsRow B 3 1 v' (l ++ [n]).length ((l ++ [n]).map fun x => .int .i64 x) → W.grownBy w' v.ownBlock → wpList Try.prog ops Q rest (a.put o.dst v') w') : wpList Try.prog ops Q (o :: rest) a W := by
  refine wpList_plain hgd fun _ hK => ?_
  obtain ⟨v', w', hr, h2, h3⟩ := append_oneB hown hg hl hB o.type
  unfold Oper.wp execOp
  simp only [ho, resolve, invoke, builtin, Sem.run_bind, Sem.run_pure, Result.andThen_ok, List.map_toArray, List.map_cons, List.map_nil, hx, hy, hr]
  exact hK _ _ (h v' w' h2 h3)
structure Nb (p q : Nat) (wr : World) (ty : TypeId) (n : Nat) (rv : Array Value) (σ : Vals9.Sig) (X : World) : Prop where
  sn : Since wr X
  a : ∀ v, σ p = some v → ∃ (g : Nat) (cs : Array Value), v = .pointer (some ⟨g, 0, none⟩) ∧ wr.heap.size ≤ g ∧ cs.size = n ∧ Blk X g ty cs ∧ ∀ y, σ q = some y → cs = rv
  s : ∀ y, σ q = some y → ∃ v, σ p = some v
section
variable {p q : Nat} {wr X : World} {ty : TypeId} {n : Nat} {rv : Array Value} {σ : Vals9.Sig}
theorem Nb.start (h : Since wr X) : Nb p q wr ty n rv (fun _ => none) X := ⟨h, fun v h => (by cases h), fun v h => (by cases h)⟩
theorem Nb.keep {X' : World} (h : Nb p q wr ty n rv σ X) (hb : Below X.heap.size X X') : Nb p q wr ty n rv σ X' :=
  ⟨h.sn.keep hb, fun v hv => by obtain ⟨g, cs, h1, h2, h3, h4, h5⟩ := h.a v hv; exact ⟨g, cs, h1, h2, h3, h4.keep hb, h5⟩, h.s⟩
theorem Nb.new (h : Nb p q wr ty n rv σ X) (hn : σ p = none) {cs : Array Value} (hc : cs.size = n := by rfl) (hpq : q ≠ p := by decide) : Nb p q wr ty n rv (Vals9.upd σ p (.pointer (some ⟨X.heap.size, 0, none⟩))) (X.alloc (.cells cs ty)) := by
  refine ⟨h.sn.alloc _, fun v hv => ?_, fun y hy => ⟨_, Vals9.upd_same _ _ _⟩⟩
  rw [Vals9.upd_same] at hv
  obtain rfl := Option.some.inj hv
  refine ⟨_, _, rfl, h.sn.2, hc, Blk.new _ _ _, fun y hy => ?_⟩
  rw [Vals9.upd_other _ _ hpq] at hy
  obtain ⟨v, hv⟩ := h.s y hy
  rw [hn] at hv
  cases hv
theorem Nb.store (h : Nb p q wr ty n rv σ X) {g : Nat} (h4 : σ p = some (.pointer (some ⟨g, 0, none⟩))) (hrv : rv.size = n) (hpq : p ≠ q := by decide) : Nb p q wr ty n rv (Vals9.upd σ q undef) (X.setRow g rv) := by
  obtain ⟨g4, cs, e1, e2, e3, e4, _⟩ := h.a _ h4
  have hgg : g = g4 := by simpa using e1
  subst hgg
  refine ⟨h.sn.row e2 _, fun v hv => ?_, fun y hy => ⟨_, by rw [Vals9.upd_other _ _ hpq]; exact h4⟩⟩
  rw [Vals9.upd_other _ _ hpq, h4] at hv
  obtain rfl := Option.some.inj hv
  exact ⟨g, rv, rfl, e2, hrv, e4.row _, fun _ _ => rfl⟩
end
theorem grown_cell {w w' : World} {a : Addr} {v : Value} {row : Option Nat} (h : w.cell? a = some v) (hg : w.grownBy w' row) (hne : ∀ q, row = some q → q ≠ a.block) : w'.cell? a = some v := by
  have hb := hg.block a.block (cell_lt h) (fun e => hne _ e.symm rfl)
  have he : w'.cell? a = w.cell? a := by unfold World.cell?; simp only [hb]
  exact he.trans h
theorem InAt.lt {w : World} {A : Option Addr} {l : List Int} (h : InAt w A l) (hx : l ≠ []) (a : Addr) (ha : A = some a) : a.block < w.heap.size := by
  obtain ⟨b, hb, hc⟩ := h hx
  obtain rfl : b = a := by rw [ha] at hb; exact (Option.some.inj hb).symm
  cases l with
  | nil => exact absurd rfl hx
  | cons x l => exact cell_lt (hc 0 x rfl)
theorem InAt.grown {w w' : World} {A : Option Addr} {l : List Int} {row : Option Nat} (h : InAt w A l) (hg : w.grownBy w' row) (hne : ∀ q, row = some q → l ≠ [] → ∀ a, A = some a → q ≠ a.block) : InAt w' A l := fun hx =>
  let ⟨a, ha, hc⟩ := h hx; ⟨a, ha, fun i p hp => grown_cell (hc i p hp) hg (fun q hq => by have h9 := hne q hq hx a ha; have h8 : (a.add i).block = a.block := (by unfold Addr.add; split <;> rfl); rw [h8]; exact h9)⟩
end Td
end Go.Proofs.Ytmofbnadfgejiaa
