import Derived.Test.YtgkdidnmndmlhaaApq
/- Two slices that own their rows, and one append to each, in a drawn region. -/
namespace Go.Proofs.Ytgkdidnmndmlhaa
open Go.RowKit
namespace Td
set_option linter.unusedSimpArgs false
set_option linter.unusedVariables false
attribute [local go_sem] Oper.semAt_some
/-- s1, s2: the literals, t1, t2: the slices behind the appends. -/
structure A2 (w0 : World) (B : Nat) (v1 : Value) (l1 : List Int) (x1 : Int) (v2 : Value) (l2 : List Int) (x2 : Int) (s1 t1 s2 t2 : Option Value) (X : World) : Prop where
  sn : Since w0 X
  sB : B ≤ X.heap.size
  ex : ∃ c1 m1 c2 m2, X.ownsRow B 3 1 c1 (List.length m1) (List.map (fun x : Int => Value.int .i64 x) m1) ∧ X.ownsRow B 3 1 c2 (List.length m2) (List.map (fun x : Int => Value.int .i64 x) m2) ∧
    (∀ g, c1.ownBlock = some g → c2.ownBlock ≠ some g) ∧
    ((t1 = none ∧ c1 = v1 ∧ m1 = l1) ∨ (t1 = some c1 ∧ m1 = l1 ++ [x1])) ∧ ((t2 = none ∧ c2 = v2 ∧ m2 = l2) ∨ (t2 = some c2 ∧ m2 = l2 ++ [x2])) ∧
    (∀ u, s1 = some u → ∃ g, u = .slice (some ⟨g, 0, none⟩) 1 1 ∧ Blk X g 3 #[.int .i64 x1] ∧ c1.ownBlock ≠ some g ∧ c2.ownBlock ≠ some g) ∧
    (∀ u, s2 = some u → ∃ g, u = .slice (some ⟨g, 0, none⟩) 1 1 ∧ Blk X g 3 #[.int .i64 x2] ∧ c1.ownBlock ≠ some g ∧ c2.ownBlock ≠ some g)
section
variable {w0 : World} {B : Nat} {v1 : Value} {l1 : List Int} {x1 : Int} {v2 : Value} {l2 : List Int} {x2 : Int} {s1 t1 s2 t2 : Option Value} {X Y : World}
theorem A2.start (hs : Since w0 X) (hB : B ≤ X.heap.size) (h1 : X.ownsRow B 3 1 v1 l1.length (l1.map fun x => .int .i64 x)) (h2 : X.ownsRow B 3 1 v2 l2.length (l2.map fun x => .int .i64 x)) (hn : ∀ g, v1.ownBlock = some g → v2.ownBlock ≠ some g) : A2 w0 B v1 l1 x1 v2 l2 x2 none none none none X :=
  ⟨hs, hB, v1, l1, v2, l2, h1, h2, hn, .inl ⟨rfl, rfl, rfl⟩, .inl ⟨rfl, rfl, rfl⟩, (fun u hu => by cases hu), (fun u hu => by cases hu)⟩
theorem A2.keep (h : A2 w0 B v1 l1 x1 v2 l2 x2 s1 t1 s2 t2 X) (hb : Below X.heap.size X Y) : A2 w0 B v1 l1 x1 v2 l2 x2 s1 t1 s2 t2 Y := by
  obtain ⟨hs, hB, c1, m1, c2, m2, a, b, c, d, e, f, g⟩ := h
  exact ⟨hs.keep hb, Nat.le_trans hB hb.size, c1, m1, c2, m2, own_keep a hb, own_keep b hb, c, d, e, fun u hu => by
    obtain ⟨k, q1, q2, q3⟩ := f u hu
    exact ⟨k, q1, q2.keep hb, q3⟩, fun u hu => by
    obtain ⟨k, q1, q2, q3⟩ := g u hu
    exact ⟨k, q1, q2.keep hb, q3⟩⟩
theorem A2.lit1 (h : A2 w0 B v1 l1 x1 v2 l2 x2 none t1 s2 t2 X) : A2 w0 B v1 l1 x1 v2 l2 x2 (some (.slice (some ⟨X.heap.size, 0, none⟩) 1 1)) t1 s2 t2 (X.alloc (.cells #[.int .i64 x1] 3)) := by
  have hb : Below X.heap.size X (X.alloc (.cells #[.int .i64 x1] 3)) := (Below.refl _ _).alloc (Nat.le_refl _) _
  obtain ⟨-, -, c1', m1', c2', m2', a0, b0, -⟩ := id h
  obtain ⟨hs, hB, c1, m1, c2, m2, a, b, c, d, e, f, g⟩ := h
  exact ⟨hs.keep hb, Nat.le_trans hB hb.size, c1, m1, c2, m2, own_keep a hb, own_keep b hb, c, d, e, fun u hu => ⟨_, (Option.some.inj hu).symm, Blk.new _ _ _, fun q => by have := (a.lt _ q).2; omega, fun q => by have := (b.lt _ q).2; omega⟩, fun u hu => by
    obtain ⟨k, q1, q2, q3⟩ := g u hu
    exact ⟨k, q1, q2.keep hb, q3⟩⟩
theorem A2.lit2 (h : A2 w0 B v1 l1 x1 v2 l2 x2 s1 t1 none t2 X) : A2 w0 B v1 l1 x1 v2 l2 x2 s1 t1 (some (.slice (some ⟨X.heap.size, 0, none⟩) 1 1)) t2 (X.alloc (.cells #[.int .i64 x2] 3)) := by
  have hb : Below X.heap.size X (X.alloc (.cells #[.int .i64 x2] 3)) := (Below.refl _ _).alloc (Nat.le_refl _) _
  obtain ⟨hs, hB, c1, m1, c2, m2, a, b, c, d, e, f, g⟩ := h
  exact ⟨hs.keep hb, Nat.le_trans hB hb.size, c1, m1, c2, m2, own_keep a hb, own_keep b hb, c, d, e, fun u hu => by
    obtain ⟨k, q1, q2, q3⟩ := f u hu
    exact ⟨k, q1, q2.keep hb, q3⟩, fun u hu => ⟨_, (Option.some.inj hu).symm, Blk.new _ _ _, fun q => by have := (a.lt _ q).2; omega, fun q => by have := (b.lt _ q).2; omega⟩⟩
theorem A2.do1 {u : Value} (hw : w0.heap.size ≤ B) (hl : l1.length ≤ 1000) (h : A2 w0 B v1 l1 x1 v2 l2 x2 (some u) none s2 t2 X) (ty : TypeId) :
    ∃ v' Y, (Builtin.append_ #[51, 51] ty #[v1, u]).run Try.prog X = .ok v' Y ∧ A2 w0 B v1 l1 x1 v2 l2 x2 (some u) (some v') s2 t2 Y := by
  obtain ⟨hs, hB, c1, m1, c2, m2, a, b, c, d, e, f, g⟩ := h
  rcases d with ⟨-, rfl, rfl⟩ | ⟨q, -⟩
  · obtain ⟨k, rfl, hk, n1, n2⟩ := f u rfl
    obtain ⟨v', w', hr, i2, i3, i5⟩ := append_int a hk hl hB ty
    refine ⟨v', w', hr, ⟨hs.1.grown i3 hs.2 (fun q e => by have := (a.lt q e).1; omega), Nat.le_trans hs.2 i3.size⟩, Nat.le_trans hB i3.size, v', _, c2, m2, i2, b.kept i3 ?_, ?_, .inr ⟨rfl, rfl⟩, e, ?_, ?_⟩
    · cases q : c2.ownBlock with
      | none => exact .inl rfl
      | some j => exact .inr (fun q2 => c j q2.symm q)
    · intro j q1 q2
      rcases i5 with q3 | q3
      · exact c j (q3 ▸ q1) q2
      · rw [q3] at q1; cases q1
        have := (b.lt _ q2).2; omega
    · intro u' hu
      cases hu
      exact ⟨k, rfl, hk.grown i3 (fun q => n1 q.symm), fun q => by
        rcases i5 with q3 | q3
        · exact n1 (q3 ▸ q)
        · rw [q3] at q; cases q
          have := hk.lt; omega, n2⟩
    · intro u' hu
      obtain ⟨k', q1, q2, q3, q4⟩ := g u' hu
      exact ⟨k', q1, q2.grown i3 (fun q => q3 q.symm), fun q => by
        rcases i5 with q5 | q5
        · exact q3 (q5 ▸ q)
        · rw [q5] at q; cases q
          have := q2.lt; omega, q4⟩
  · cases q
theorem A2.do2 {u : Value} (hw : w0.heap.size ≤ B) (hl : l2.length ≤ 1000) (h : A2 w0 B v1 l1 x1 v2 l2 x2 s1 t1 (some u) none X) (ty : TypeId) :
    ∃ v' Y, (Builtin.append_ #[51, 51] ty #[v2, u]).run Try.prog X = .ok v' Y ∧ A2 w0 B v1 l1 x1 v2 l2 x2 s1 t1 (some u) (some v') Y := by
  obtain ⟨hs, hB, c1, m1, c2, m2, a, b, c, d, e, f, g⟩ := h
  rcases e with ⟨-, rfl, rfl⟩ | ⟨q, -⟩
  · obtain ⟨k, rfl, hk, n1, n2⟩ := g u rfl
    obtain ⟨v', w', hr, i2, i3, i5⟩ := append_int b hk hl hB ty
    refine ⟨v', w', hr, ⟨hs.1.grown i3 hs.2 (fun q e => by have := (b.lt q e).1; omega), Nat.le_trans hs.2 i3.size⟩, Nat.le_trans hB i3.size, c1, m1, v', _, a.kept i3 ?_, i2, ?_, d, .inr ⟨rfl, rfl⟩, ?_, ?_⟩
    · cases q : c1.ownBlock with
      | none => exact .inl rfl
      | some j => exact .inr (fun q2 => c j q q2.symm)
    · intro j q1 q2
      rcases i5 with q3 | q3
      · exact c j q1 (q3 ▸ q2)
      · rw [q3] at q2; cases q2
        have := (a.lt _ q1).2; omega
    · intro u' hu
      obtain ⟨k', q1, q2, q3, q4⟩ := f u' hu
      exact ⟨k', q1, q2.grown i3 (fun q => q4 q.symm), q3, fun q => by
        rcases i5 with q5 | q5
        · exact q4 (q5 ▸ q)
        · rw [q5] at q; cases q
          have := q2.lt; omega⟩
    · intro u' hu
      cases hu
      exact ⟨k, rfl, hk.grown i3 (fun q => n2 q.symm), n1, fun q => by
        rcases i5 with q3 | q3
        · exact n2 (q3 ▸ q)
        · rw [q3] at q; cases q
          have := hk.lt; omega⟩
  · cases q
end
end Td
end Go.Proofs.Ytgkdidnmndmlhaa
