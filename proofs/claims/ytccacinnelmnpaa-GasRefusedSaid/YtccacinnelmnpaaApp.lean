import Derived.Test.YtccacinnelmnpaaSho
/- append of a list behind one number. -/
namespace Go.Proofs.Ytccacinnelmnpaa
open Go.RowKit
namespace Td
set_option linter.unusedSimpArgs false
set_option linter.unusedVariables false
attribute [local go_sem] Oper.semAt_some
theorem lv_own {W : World} {B n : Nat} {v : Value} {l : List Int} (hn : n = l.length) (h : W.ownsRow B 3 1 v n (l.map fun x => .int .i64 x)) : Lv W v l := by
  subst hn
  rcases h.2 with ⟨rfl, h0⟩ | ⟨g, cap, cur, rfl, hB, hg, hn, hm, hs, ht⟩
  · have : l = [] := List.eq_nil_of_length_eq_zero h0
    subst this
    exact Lv.nil _
  · refine ⟨_, cap, rfl, fun hx => ⟨_, rfl, fun i p hp => ?_⟩⟩
    have hil : i < l.length := (List.getElem?_eq_some_iff.1 hp).1
    rw [add_new]
    have h1 : (l.map fun x => Value.int .i64 x)[i]? = some (.int .i64 p) := by rw [List.getElem?_map, hp]; rfl
    rw [← ht, List.getElem?_take, if_pos (by omega)] at h1
    simp [World.cell?, hg]
    simpa using h1
theorem append_ints {W : World} {B g : Nat} {v : Value} {one : Int} {l : List Int} (hg : Blk W g 3 #[.int .i64 one]) (hv : Lv W v l) (hl : l.length ≤ 1000) (hB : B ≤ g) (ty : TypeId) :
    ∃ v' w', (Builtin.append_ #[38, 38] ty #[.slice (some ⟨g, 0, none⟩) 1 1, v]).run Try.prog W = .ok v' w' ∧ Lv w' v' (one :: l) ∧ W.grownBy w' (some g) := by
  obtain ⟨A, c, rfl, hin⟩ := hv
  have hgl := hg.lt
  cases A with
  | none =>
    have hl0 : l = [] := Classical.byContradiction fun h => by obtain ⟨a, ha, _⟩ := hin h; cases ha
    subst hl0
    refine ⟨.slice (some ⟨g, 0, none⟩) 1 1, W, ?_, ?_, ⟨rfl, rfl, rfl, Nat.le_refl _, fun _ _ _ => rfl⟩⟩
    · simp [Builtin.append_, go_sem, run_underlying Try.underlying38, Sem.run_bind]
    · exact ⟨_, 1, rfl, InAt.one hg⟩
  | some a =>
    obtain ⟨i0, hi0, hi1⟩ := Option.map_eq_some_iff.1 info3
    simp only [Prod.mk.injEq] at hi1
    obtain ⟨hz0, hz1, hz2⟩ := hi1
    have hown : W.ownsRow B 3 1 (.slice (some ⟨g, 0, none⟩) 1 1) 1 [.int .i64 one] := ⟨rfl, .inr ⟨g, 1, _, rfl, hB, hg, Nat.le_refl _, by decide, rfl, rfl⟩⟩
    obtain ⟨v', w', h1, h2, h3, _, h5⟩ := run_append_own_at (P := Try.prog) W B 38 ty 3 i0 _ 1 8 Try.underlying38 hi0 hz0 hz1 hz2 rfl (by omega)
      (.slice (some ⟨g, 0, none⟩) 1 1) 1 [.int .i64 one] hown a l.length c (l.map fun x => .int .i64 x) (by simp) (fun j u hj => by
        have hjl : j < l.length := by
          have := (List.getElem?_eq_some_iff.1 hj).1
          simpa using this
        obtain ⟨a', ha', hc⟩ := hin (fun e => by rw [e] at hjl; simp at hjl)
        cases ha'
        rw [List.getElem?_map, List.getElem?_eq_getElem hjl] at hj
        rw [hc j l[j] (List.getElem?_eq_getElem hjl)]
        exact hj) (by intro u hu; obtain ⟨x, _, rfl⟩ := List.mem_map.1 hu; rfl) (by simp only [maxLen]; omega) (by omega) (by omega)
    exact ⟨v', w', h1, lv_own (by simp; omega) h2, h3⟩
theorem wpList_append_ints {W : World} {ops : Array Oper} {rest : List Oper} {o : Oper} {a : Act} {Q : Exit → Act → World → Prop} (hgd : o.guard = none) (s x : Operand) (ho : o.op = .call { callee := .builtin .append, args := #[s, x], argTypes := #[38, 38] })
    (B g : Nat) (v : Value) (one : Int) (l : List Int) (hs : a.eval s = .slice (some ⟨g, 0, none⟩) 1 1) (hx : a.eval x = v) (hg : Blk W g 3 #[.int .i64 one]) (hv : Lv W v l) (hl : l.length ≤ 1000) (hB : B ≤ g)
    (h : ∀ v' w', Lv w' v' (one :: l) → W.grownBy w' (some g) → wpList Try.prog ops Q rest (a.put o.dst v') w') : wpList Try.prog ops Q (o :: rest) a W := by
  refine wpList_plain hgd fun _ hK => ?_
  obtain ⟨v', w', hr, h2, h3⟩ := append_ints hg hv hl hB o.type
  unfold Oper.wp execOp
  simp only [ho, resolve, invoke, builtin, Sem.run_bind, Sem.run_pure, Result.andThen_ok, List.map_toArray, List.map_cons, List.map_nil, hs, hx, hr]
  exact hK _ _ (h v' w' h2 h3)
end Td
end Go.Proofs.Ytccacinnelmnpaa
