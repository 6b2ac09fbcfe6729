import Derived.Test.YtgkdidnmndmlhaaLst
import Derived.Test.YtgkdidnmndmlhaaShr
import Derived.Test.YtgkdidnmndmlhaaPas
/- A slice that owns its row, and one append to it, in a drawn region. -/
namespace Go.Proofs.Ytgkdidnmndmlhaa
open Go.RowKit
namespace Td
set_option linter.unusedSimpArgs false
set_option linter.unusedVariables false
attribute [local go_sem] Oper.semAt_some
/-- s: the literal, t: the slice behind the append. -/
structure Aq (et : TypeId) (sz n : Nat) (xs ys : List Value) (cs : Array Value) (w0 : World) (B : Nat) (v : Value) (I : Unit → World → Prop) (s t : Option Value) (X : World) : Prop where
  sn : Since w0 X
  inv : I () X
  sB : B ≤ X.heap.size
  ls : (t = none ∧ X.ownsRow B et sz v n xs) ∨ (∃ v', t = some v' ∧ X.ownsRow B et sz v' (n + 1) ys)
  nw : ∀ u, s = some u → ∃ g, u = .slice (some ⟨g, 0, none⟩) 1 1 ∧ (t = none → Blk X g et cs)
section
variable {et : TypeId} {sz n : Nat} {xs ys : List Value} {cs : Array Value} {w0 : World} {B : Nat} {v : Value} {I : Unit → World → Prop} {s t : Option Value} {X Y : World}
theorem Aq.start (hs : Since w0 X) (hI : I () X) (hB : B ≤ X.heap.size) (ho : X.ownsRow B et sz v n xs) : Aq et sz n xs ys cs w0 B v I none none X := ⟨hs, hI, hB, .inl ⟨rfl, ho⟩, fun u hu => by cases hu⟩
theorem Aq.keep (hA : AllFrom B I) (h : Aq et sz n xs ys cs w0 B v I s t X) (hb : Below X.heap.size X Y) : Aq et sz n xs ys cs w0 B v I s t Y :=
  ⟨h.sn.keep hb, hA.keep h.inv hb, Nat.le_trans h.sB hb.size, by
    rcases h.ls with ⟨a, k⟩ | ⟨v', a, k⟩
    · exact .inl ⟨a, own_keep k hb⟩
    · exact .inr ⟨v', a, own_keep k hb⟩, fun u hu => by
    obtain ⟨g, e, k⟩ := h.nw u hu
    exact ⟨g, e, fun ht => (k ht).keep hb⟩⟩
theorem Aq.lit (hA : AllFrom B I) (h : Aq et sz n xs ys cs w0 B v I none t X) : Aq et sz n xs ys cs w0 B v I (some (.slice (some ⟨X.heap.size, 0, none⟩) 1 1)) t (X.alloc (.cells cs et)) := by
  have hb : Below X.heap.size X (X.alloc (.cells cs et)) := (Below.refl _ _).alloc (Nat.le_refl _) _
  have h2 := h.keep hA hb
  exact ⟨h2.sn, h2.inv, h2.sB, h2.ls, fun u hu => ⟨_, (Option.some.inj hu).symm, fun _ => Blk.new _ _ _⟩⟩
theorem Aq.app (hw : w0.heap.size ≤ B) (hA : AllFrom B I) (h : Aq et sz n xs ys cs w0 B v I s none X) {v' : Value} (ho : Y.ownsRow B et sz v' (n + 1) ys) (hg : X.grownBy Y v.ownBlock) : Aq et sz n xs ys cs w0 B v I s (some v') Y := by
  rcases h.ls with ⟨-, k⟩ | ⟨_, a, _⟩
  · exact ⟨⟨h.sn.1.grown hg h.sn.2 (fun q e => by have := (k.lt q e).1; omega), Nat.le_trans h.sn.2 hg.size⟩, hA () X Y _ h.inv hg (fun r hr => (k.lt r hr).1), Nat.le_trans h.sB hg.size, .inr ⟨_, rfl, ho⟩, fun u hu => by
      obtain ⟨g, e, -⟩ := h.nw u hu
      exact ⟨g, e, fun ht => by cases ht⟩⟩
  · cases a
end
theorem append_int {W : World} {B g : Nat} {v : Value} {l : List Int} {x : Int} (hown : W.ownsRow B 3 1 v l.length (l.map fun x => .int .i64 x)) (hg : Blk W g 3 #[.int .i64 x]) (hl : l.length ≤ 1000) (hB : B ≤ W.heap.size) (ty : TypeId) :
    ∃ v' w', (Builtin.append_ #[51, 51] ty #[v, .slice (some ⟨g, 0, none⟩) 1 1]).run Try.prog W = .ok v' w' ∧ w'.ownsRow B 3 1 v' (l ++ [x]).length ((l ++ [x]).map fun x => .int .i64 x) ∧ W.grownBy w' v.ownBlock ∧ (v'.ownBlock = v.ownBlock ∨ v'.ownBlock = some W.heap.size) := by
  have hT : (Try.prog.info? 3).map (fun i => (i.zero, i.size, i.bytes)) = some (some (.int .i64 0), 1, 8) := by kernel_rfl
  obtain ⟨i0, hi0, hi1⟩ := Option.map_eq_some_iff.1 hT
  simp only [Prod.mk.injEq] at hi1
  obtain ⟨hz0, hz1, hz2⟩ := hi1
  obtain ⟨v', w', h1, h2, h3, _, h5⟩ := run_append_own_at (P := Try.prog) W B 51 ty 3 i0 _ 1 8 Try.underlying51 hi0 hz0 hz1 hz2 rfl (by omega)
    v l.length (l.map fun x => .int .i64 x) hown ⟨g, 0, none⟩ 1 1 [.int .i64 x] (by simp) (fun j u hj => by
      rw [add_new]
      have := hg.cell j
      rw [this]
      simpa using hj) (by intro u hu; simp at hu; subst hu; rfl) (by simp only [maxLen]; omega) (by omega) hB
  refine ⟨v', w', h1, ?_, h3, h5⟩
  rw [List.map_append, List.length_append]
  exact h2
theorem wpList_append_int {W : World} {ops : Array Oper} {rest : List Oper} {o : Oper} {a : Act} {Q : Exit → Act → World → Prop} (hgd : o.guard = none) (x y : Operand) (ho : o.op = .call { callee := .builtin .append, args := #[x, y], argTypes := #[51, 51] })
    (B g : Nat) (v : Value) (l : List Int) (n : Int) (hx : a.eval x = v) (hy : a.eval y = .slice (some ⟨g, 0, none⟩) 1 1) (hown : W.ownsRow B 3 1 v l.length (l.map fun x => .int .i64 x)) (hg : Blk W g 3 #[.int .i64 n]) (hl : l.length ≤ 1000) (hB : B ≤ W.heap.size)
    (h : ∀ v' w', w'.ownsRow B 3 1 v' (l ++ [n]).length ((l ++ [n]).map fun x => .int .i64 x) → W.grownBy w' v.ownBlock → (v'.ownBlock = v.ownBlock ∨ v'.ownBlock = some W.heap.size) → wpList Try.prog ops Q rest (a.put o.dst v') w') : wpList Try.prog ops Q (o :: rest) a W := by
  refine wpList_plain hgd fun _ hK => ?_
  obtain ⟨v', w', hr, h2, h3, h5⟩ := append_int hown hg hl hB o.type
  unfold Oper.wp execOp
  simp only [ho, resolve, invoke, builtin, Sem.run_bind, Sem.run_pure, Result.andThen_ok, List.map_toArray, List.map_cons, List.map_nil, hx, hy, hr]
  exact hK _ _ (h v' w' h2 h3 h5)
/-- a slice that owns a list, opened. -/
theorem own_int {W : World} {B : Nat} {v : Value} {l : List Int} (h : W.ownsRow B 3 1 v l.length (l.map fun x => .int .i64 x)) : ∃ A c, v = .slice A l.length c ∧ InAt W A l ∧ (l.length ≤ c ∧ c ≤ 9223372036854775807) ∧ ∀ a, A = some a → B ≤ a.block := by
  rcases h.2 with ⟨rfl, h0⟩ | ⟨g, cap, cur, rfl, hB, hg, hn, hm, hs, ht⟩
  · have : l = [] := List.eq_nil_of_length_eq_zero h0
    subst this
    exact ⟨none, 0, rfl, fun hx => absurd rfl hx, by simp, fun a e => by cases e⟩
  · refine ⟨_, cap, rfl, fun hx => ⟨_, rfl, fun i p hp => ?_⟩, ⟨hn, by simp only [maxLen] at hm; omega⟩, fun a e => by cases e; exact hB⟩
    have hil : i < l.length := (List.getElem?_eq_some_iff.1 hp).1
    rw [add_new]
    have h1 : (l.map fun x => Value.int .i64 x)[i]? = some (.int .i64 p) := by rw [List.getElem?_map, hp]; rfl
    rw [← ht, List.getElem?_take, if_pos (by omega)] at h1
    simp [World.cell?, hg]
    simpa using h1
/-- the append of a number. -/
theorem Aq.doInt {l : List Int} {x : Int} {w0 : World} {B : Nat} {v : Value} {I : Unit → World → Prop} {X : World} {u : Value} (hw : w0.heap.size ≤ B) (hA : AllFrom B I) (hl : l.length ≤ 1000)
    (h : Aq 3 1 l.length (l.map fun x => .int .i64 x) ((l ++ [x]).map fun x => .int .i64 x) #[.int .i64 x] w0 B v I (some u) none X) (ty : TypeId) :
    ∃ v' Y, (Builtin.append_ #[51, 51] ty #[v, u]).run Try.prog X = .ok v' Y ∧ Aq 3 1 l.length (l.map fun x => .int .i64 x) ((l ++ [x]).map fun x => .int .i64 x) #[.int .i64 x] w0 B v I (some u) (some v') Y := by
  obtain ⟨g, rfl, hg⟩ := h.nw u rfl
  rcases h.ls with ⟨-, k⟩ | ⟨_, a, _⟩
  · obtain ⟨v', w', hr, h2, h3, h5⟩ := append_int k (hg rfl) hl h.sB ty
    rw [List.length_append] at h2
    exact ⟨v', w', hr, h.app hw hA h2 h3⟩
  · cases a
/-- the append of a share. -/
theorem Aq.doShr {st et : TypeId} (hT : Sty st et) {l : List (Nat × Nat)} {x : Nat × Nat} {w0 : World} {B : Nat} {v : Value} {I : Unit → World → Prop} {X : World} {u : Value} (hw : w0.heap.size ≤ B) (hA : AllFrom B I) (hl : l.length ≤ 1000)
    (h : Aq et 2 l.length (flS l) (flS (l ++ [x])) (fV (ip x)) w0 B v I (some u) none X) (ty : TypeId) :
    ∃ v' Y, (Builtin.append_ #[st, st] ty #[v, u]).run Try.prog X = .ok v' Y ∧ Aq et 2 l.length (flS l) (flS (l ++ [x])) (fV (ip x)) w0 B v I (some u) (some v') Y := by
  obtain ⟨g, rfl, hg⟩ := h.nw u rfl
  rcases h.ls with ⟨-, k⟩ | ⟨_, a, _⟩
  · obtain ⟨v', w', hr, h2, h3, h5⟩ := append_shr hT k (hg rfl) hl h.sB ty
    rw [List.length_append] at h2
    exact ⟨v', w', hr, h.app hw hA h2 h3⟩
  · cases a
end Td
end Go.Proofs.Ytgkdidnmndmlhaa
