import Derived.Test.YtojpiliamecgkaaPullsA
/- What the walk of the reference's Lies wants, gathered: the same laws as in PlanF, MoreF, MoreA, NarrowA and PulledA (a claim has at most 60 files). -/
namespace Go.Proofs.Ytojpiliamecgkaa
open Go.RowKit
namespace Td
set_option linter.unusedSimpArgs false
set_option linter.unusedVariables false
theorem runE_ok {n : Nat} {t bal : Int} (h0 : 0 ≤ t) (h1 : t < n) (b0 : 0 ≤ bal) (b1 : bal ≤ 40) : runE n t bal = 0 := runE_zero.2 ⟨⟨h0, h1⟩, b0, b1⟩
theorem q_mono {sl a c : Int} (h : 1 ≤ sl) (hac : a ≤ c) : q sl a ≤ q sl c := pl_mono (sl := sl) h hac
abbrev ptrOf (g : Nat) : Value := .pointer (some ⟨g, 0, none⟩)
theorem ptr_ne {g g' : Nat} (h : g' ≠ g) : ptrOf g' ≠ ptrOf g := fun e => h (congrArg (fun v : Value => match v with | .pointer (some a) => a.block | _ => 0) e)
/-- an operation of a plain region that comes to a value by a builtin of two arguments. -/
theorem wpList_two {P : Program} {ops : Array Oper} {Q : Exit → Act → World → Prop} {o : Oper} {rest : List Oper} {a : Act} {w : World} (f : Builtin) (x y : Operand) (t : TypeId) (hop : o.op = .call { callee := .builtin f, args := #[x, y], argTypes := #[t, t] }) (v : Value) (hgd : o.guard = none)
    (hrun : ∀ K : Act → World → Prop, K (a.put o.dst v) w → o.wp P a w K Q) (h : wpList P ops Q rest (a.put o.dst v) w) : wpList P ops Q (o :: rest) a w :=
  wpList_plain hgd fun _ hK => hrun _ (hK _ _ h)
theorem Since.setCell2 {w W : World} (h : Since w W) {g : Nat} (hg : w.heap.size ≤ g) (i j : Nat) (u v : Value) : Since w ((W.setCell ⟨g, i, none⟩ u).setCell ⟨g, j, none⟩ v) := ⟨(h.1.setCell hg _).setCell hg _, by simpa using h.2⟩
/-- a new block (operation p), filled by one store (operation q). -/
structure Fill (X0 : World) (t : TypeId) (cv : Array Value) (p q : Nat) (σ : Vals9.Sig) (w : World) : Prop where
  sn : Since X0 w
  a : ∀ v, σ p = some v → ∃ (g : Nat) (ds : Array Value), v = ptrOf g ∧ X0.heap.size ≤ g ∧ ds.size = cv.size ∧ Blk w g t ds ∧ ∀ y, σ q = some y → ds = cv
  s : ∀ y, σ q = some y → ∃ v, σ p = some v
section
variable {X0 w : World} {t : TypeId} {cv : Array Value} {p q : Nat} {σ : Vals9.Sig}
theorem Fill.start (X0 : World) (t : TypeId) (cv : Array Value) (p q : Nat) : Fill X0 t cv p q (fun _ => none) X0.drew :=
  ⟨(Since.refl X0).drew, fun v h => (by cases h), fun v h => (by cases h)⟩
theorem Fill.keep (h : Fill X0 t cv p q σ w) {w' : World} (hb : Below w.heap.size w w') : Fill X0 t cv p q σ w' :=
  ⟨h.sn.keep hb, fun v hv => by
    obtain ⟨g, ds, h1, h2, h3, h4, h5⟩ := h.a v hv
    exact ⟨g, ds, h1, h2, h3, h4.keep hb, h5⟩, h.s⟩
theorem Fill.new (h : Fill X0 t cv p q σ w) (hpq : q ≠ p) (hn : σ p = none) (zs : Array Value) (hz : zs.size = cv.size) : Fill X0 t cv p q (Vals9.upd σ p (ptrOf w.heap.size)) (w.alloc (.cells zs t)) := by
  refine ⟨h.sn.alloc _, fun v hv => ?_, fun y hy => ⟨_, Vals9.upd_same _ _ _⟩⟩
  rw [Vals9.upd_same] at hv
  obtain rfl := Option.some.inj hv
  refine ⟨_, _, rfl, h.sn.2, hz, Blk.new _ _ _, fun y hy => ?_⟩
  rw [Vals9.upd_other _ _ hpq] at hy
  obtain ⟨v, hv⟩ := h.s y hy
  rw [hn] at hv
  cases hv
theorem Fill.store (h : Fill X0 t cv p q σ w) (hpq : p ≠ q) {g : Nat} (hp : σ p = some (ptrOf g)) : Fill X0 t cv p q (Vals9.upd σ q undef) (w.setRow g cv) := by
  obtain ⟨g', ds, k1, k2, k3, k4, _⟩ := h.a _ hp
  have hgg : g = g' := by simpa using k1
  subst hgg
  refine ⟨h.sn.row k2 _, fun v hv => ?_, fun y hy => ⟨_, by rw [Vals9.upd_other _ _ hpq]; exact hp⟩⟩
  rw [Vals9.upd_other _ _ hpq, hp] at hv
  obtain rfl := Option.some.inj hv
  exact ⟨g, cv, rfl, k2, rfl, k4.row _, fun _ _ => rfl⟩
end
end Td
end Go.Proofs.Ytojpiliamecgkaa
