import Derived.Test.YtmofbnadfgejiaaWidA
import Derived.Test.YtmofbnadfgejiaaMathT
/- Instruments are copied: a list of them behind one that is owned. -/
namespace Go.Proofs.Ytmofbnadfgejiaa
open Go.RowKit
namespace Td
set_option linter.unusedSimpArgs false
set_option linter.unusedVariables false
attribute [local go_sem] Oper.semAt_some
theorem Sp2.cell2 {w W : World} {s : Spc} {m : Sl} {t : TypeId} {xs : Array Value} (h : Sp2 w s m t xs W) {g : Nat} (hg : w.heap.size + 1 < g) (j : Nat) (v : Value) : Sp2 w s m t xs (W.setCell ⟨g, j, none⟩ v) :=
  ⟨⟨⟨h.sp.sn.1.setCell (p := ⟨g, j, none⟩) (by simp; omega) _, by simpa using h.sp.sn.2⟩, h.sp.bk.far (by omega) _ _⟩, h.bx.far (by omega) _ _⟩
theorem tls_news {W : World} {a : Addr} {l : List Tl} (h : ∀ i p, l[i]? = some p → W.cell? (a.add (i * 2)) = some (.string p.name) ∧ W.cell? (at_ (a.add (i * 2)) 1) = some (.int .i64 p.err)) :
    ∀ j u, (tlC l)[j]? = some u → W.cell? (a.add j) = some u := by
  intro j u hj
  have hlt : j < l.length * 2 := by
    rw [← tlC_len]
    exact (List.getElem?_eq_some_iff.1 hj).1
  have hi : j / 2 < l.length := by omega
  obtain ⟨e0, e1⟩ := tlC_at l (j / 2) _ (List.getElem?_eq_getElem hi)
  obtain ⟨h0, h1⟩ := h _ _ (List.getElem?_eq_getElem hi)
  rw [at_add _ _ _ (by omega)] at h1
  rcases (by omega : j = j / 2 * 2 ∨ j = j / 2 * 2 + 1) with hh | hh
  · rw [hh] at hj ⊢
    rw [e0] at hj
    obtain rfl := Option.some.inj hj
    exact h0
  · rw [hh] at hj ⊢
    rw [e1] at hj
    obtain rfl := Option.some.inj hj
    exact h1
theorem tlC_one (l : List Tl) : ∀ u ∈ tlC l, u.oneCell' = true := by
  intro u hu
  unfold tlC at hu
  obtain ⟨p, _, hp⟩ := List.mem_flatMap.1 hu
  simp at hp
  rcases hp with rfl | rfl <;> rfl
theorem tlC_app (l k : List Tl) : tlC (l ++ k) = tlC l ++ tlC k := by simp [tlC]
theorem own_nil {W : World} {B : Nat} (hB : B ≤ W.heap.size) : OwT (W.alloc (.cells #[] 65)) B (.slice (some ⟨W.heap.size, 0, none⟩) 0 0) [] :=
  ⟨rfl, .inr ⟨_, _, _, rfl, hB, heap_alloc_new W _, Nat.le_refl _, by simp only [maxLen]; omega, rfl, rfl⟩⟩
set_option maxRecDepth 100000 in
theorem append_tls {W : World} {B : Nat} {v : Value} {l k : List Tl} {A : Option Addr} {c : Nat} (hown : OwT W B v l) (hp : TlAt W A k) (hl : l.length + k.length ≤ 4000000) (hB : B ≤ W.heap.size) (ty : TypeId) :
    ∃ v' w', (Builtin.append_ #[25, 25] ty #[v, .slice A k.length c]).run Try.prog W = .ok v' w' ∧ OwT w' B v' (l ++ k) ∧ W.grownBy w' v.ownBlock ∧ (v'.ownBlock = v.ownBlock ∨ v'.ownBlock = some W.heap.size) := by
  obtain ⟨i0, hi0, hi1⟩ := Option.map_eq_some_iff.1 info65
  simp only [Prod.mk.injEq] at hi1
  obtain ⟨hz0, hz1, hz2⟩ := hi1
  by_cases h0 : k = []
  · subst h0
    refine ⟨v, W, ?_, by rw [List.append_nil]; exact hown, ⟨rfl, rfl, rfl, Nat.le_refl _, fun k _ _ => rfl⟩, .inl rfl⟩
    rcases hown.2 with ⟨rfl, hn0⟩ | ⟨g, cap, cur, rfl, hb, hg, hn, hm, hs, ht⟩
    · cases A with
      | none => simp [Builtin.append_, go_sem, Try.underlying25, Builtin.firstCells, Builtin.lenOf, hi0, hz1]
      | some ad => simp [Builtin.append_, go_sem, Try.underlying25, Builtin.firstCells, Builtin.lenOf, hi0, hz1]
    · cases A with
      | none => simp [Builtin.append_, go_sem, Try.underlying25, Builtin.firstCells, Builtin.lenOf, hi0, hz1, hn]
      | some ad => simp [Builtin.append_, go_sem, Try.underlying25, Builtin.firstCells, Builtin.lenOf, hi0, hz1, hn]
  · obtain ⟨ad, rfl, hc⟩ := hp h0
    obtain ⟨v', w', h1, h2, h3, _, h5⟩ := run_append_own_at (P := Try.prog) W B 25 ty 65 i0 _ 2 24 Try.underlying25 hi0 hz0 hz1 hz2 rfl (by omega)
      v l.length (tlC l) hown ad k.length c (tlC k) (tlC_len k) (tls_news hc) (tlC_one k) (by simp only [maxLen]; omega) (by omega) hB
    refine ⟨v', w', h1, ?_, h3, h5⟩
    unfold OwT
    rw [tlC_app, List.length_append]
    exact h2
set_option maxRecDepth 100000 in
theorem wpList_append_tls {W : World} {ops : Array Oper} {rest : List Oper} {o : Oper} {a : Act} {Q : Exit → Act → World → Prop} (hgd : o.guard = none) (s x : Operand) (ho : o.op = .call { callee := .builtin .append, args := #[s, x], argTypes := #[25, 25] })
    {B : Nat} {v : Value} {l k : List Tl} {A : Option Addr} {c : Nat} (hs : a.eval s = v) (hx : a.eval x = .slice A k.length c) (hown : OwT W B v l) (hp : TlAt W A k) (hl : l.length + k.length ≤ 4000000) (hB : B ≤ W.heap.size)
    (h : ∀ v' w', OwT w' B v' (l ++ k) → W.grownBy w' v.ownBlock → (v'.ownBlock = v.ownBlock ∨ v'.ownBlock = some W.heap.size) → wpList Try.prog ops Q rest (a.put o.dst v') w') : wpList Try.prog ops Q (o :: rest) a W := by
  refine wpList_plain hgd fun _ hK => ?_
  obtain ⟨v', w', hr, h2, h3, h4⟩ := append_tls hown hp hl hB o.type
  unfold Oper.wp execOp
  simp only [ho, resolve, invoke, builtin, Sem.run_bind, Sem.run_pure, Result.andThen_ok, List.map_toArray, List.map_cons, List.map_nil, hs, hx]
  rw [hr]
  exact hK _ _ (h v' w' h2 h3 h4)
theorem wpList_append_tl {W : World} {ops : Array Oper} {rest : List Oper} {o : Oper} {a : Act} {Q : Exit → Act → World → Prop} (hgd : o.guard = none) (s x : Operand) (ho : o.op = .call { callee := .builtin .append, args := #[s, x], argTypes := #[25, 25] })
    {B g : Nat} {v : Value} {l : List Tl} {t : Tl} (hs : a.eval s = v) (hx : a.eval x = .slice (some ⟨g, 0, none⟩) 1 1) (hown : OwT W B v l) (hg : Blk W g 65 #[.string t.name, .int .i64 t.err]) (hl : l.length ≤ 1000) (hB : B ≤ W.heap.size)
    (h : ∀ v' w', OwT w' B v' (l ++ [t]) → W.grownBy w' v.ownBlock → (v'.ownBlock = v.ownBlock ∨ v'.ownBlock = some W.heap.size) → wpList Try.prog ops Q rest (a.put o.dst v') w') : wpList Try.prog ops Q (o :: rest) a W :=
  wpList_plain hgd fun _ hK => wp_append_tl s x ho hs hx hown hg hl hB fun v' w' h1 h2 h3 => hK _ _ (h v' w' h1 h2 h3)
end Td
end Go.Proofs.Ytmofbnadfgejiaa
