import Derived.Test.YtccacinnelmnpaaRefD
/- The reference: Check. -/
namespace Go.Proofs.Ytccacinnelmnpaa
open Go.RowKit
namespace Td
set_option linter.unusedSimpArgs false
set_option linter.unusedVariables false
attribute [local go_sem] Oper.semAt_some
theorem blow_bad {l : List (Int × Int)} {k : Nat} (hk : k < l.length) (h : spr 0 60 [l[k]] ≠ 0) : blowAt l k = spr 0 60 [l[k]] := by
  simp only [blowAt, List.getElem?_eq_getElem hk, blowE]
  rcases spr_cases 0 60 [l[k]] with ⟨a, b⟩ | ⟨a, b, c⟩ | ⟨a, b, c⟩
  · rw [b, a]; rfl
  · rw [b, c, a]; rfl
  · exact absurd a h
theorem blow_first {l : List (Int × Int)} (hk : 0 < l.length) (h : spr 0 60 [l[0]] = 0) : blowAt l 0 = 0 := by
  simp only [blowAt, List.getElem?_eq_getElem hk, blowE]
  rcases spr_cases 0 60 [l[0]] with ⟨a, b⟩ | ⟨a, b, c⟩ | ⟨a, b, c⟩
  · rw [h] at a; cases a
  · rw [h] at a; cases a
  · rw [b, c]; rfl
theorem blow_next {l : List (Int × Int)} {j : Nat} (hk : j + 1 < l.length) (h : spr 0 60 [l[j + 1]] = 0) : blowAt l (j + 1) = if l[j + 1].1 ≤ l[j].2 then 2 else 0 := by
  simp only [blowAt, List.getElem?_eq_getElem hk, blowE]
  rcases spr_cases 0 60 [l[j + 1]] with ⟨a, b⟩ | ⟨a, b, c⟩ | ⟨a, b, c⟩
  · rw [h] at a; cases a
  · rw [h] at a; cases a
  · rw [b, c, last_take (by omega) rfl]; rfl
theorem chk_blow {s : Spc} {k : Nat} (h1 : levE s = 0) (h4 : s.blows.length ≤ 4) (hk : k < s.blows.length) (h0 : ∀ j, j < k → blowAt s.blows j = 0) (h : blowAt s.blows k ≠ 0) : chk s = (2, (k : Int), blowAt s.blows k) := by
  have hb : blowsE s.blows = ((k : Int), blowAt s.blows k) := by unfold blowsE; rw [if_neg (by omega), ff_at hk h0 h]
  simp [chk, h1, hb, h]
theorem chk_tool {s : Spc} {k : Nat} (h1 : levE s = 0) (h2 : (blowsE s.blows).2 = 0) (h3 : wi 1 3 s.tools.length = true) (hk : k < s.tools.length) (h0 : ∀ j, j < k → toolAt s.tools j = 0) (h : toolAt s.tools k ≠ 0) : chk s = (3, (k : Int), toolAt s.tools k) := by
  have hb : toolsE s.tools = ((k : Int), toolAt s.tools k) := by unfold toolsE; rw [if_pos h3, ff_at hk h0 h]
  simp [chk, h1, h2, hb, h]
theorem tool_fresh {l : List Tl} {k : Nat} (hk : k < l.length) (h : freshE l[k].name ((l.take k).map Tl.name) ≠ 0) : toolAt l k = freshE l[k].name ((l.take k).map Tl.name) := by
  simp only [toolAt, List.getElem?_eq_getElem hk, toolE, freshE, List.any_map] at h ⊢
  split at h
  · rename_i h1
    split at h
    · rename_i h2
      rw [if_pos h1, if_pos h1, if_pos h2, if_pos (by simpa [Function.comp_def] using h2)]
    · exact absurd rfl h
  · rename_i h1
    rw [if_neg h1, if_neg h1]
theorem tool_err {l : List Tl} {k : Nat} (hk : k < l.length) (h : freshE l[k].name ((l.take k).map Tl.name) = 0) : toolAt l k = if wi 0 50 l[k].err then 0 else 7 := by
  simp only [toolAt, List.getElem?_eq_getElem hk, toolE, freshE, List.any_map] at h ⊢
  split at h
  · rename_i h1
    split at h
    · cases h
    · rename_i h2
      rw [if_pos h1, if_neg (by simpa [Function.comp_def] using h2)]
  · cases h
theorem info9 : (Try.prog.info? 9).map (fun i => (i.zero, i.size, i.bytes)) = some (some (.string ByteArray.empty), 1, 16) := by kernel_rfl
/-- append of one string behind a slice that owns its row. -/
theorem append_str {W : World} {B g : Nat} {v : Value} {l : List ByteArray} {s : ByteArray} (hown : W.ownsRow B 9 1 v l.length (l.map Value.string)) (hg : Blk W g 9 #[.string s]) (hl : l.length ≤ 1000) (hB : B ≤ W.heap.size) (ty : TypeId) :
    ∃ v' w', (Builtin.append_ #[89, 89] ty #[v, .slice (some ⟨g, 0, none⟩) 1 1]).run Try.prog W = .ok v' w' ∧ w'.ownsRow B 9 1 v' (l ++ [s]).length ((l ++ [s]).map Value.string) ∧ W.grownBy w' v.ownBlock := by
  obtain ⟨i0, hi0, hi1⟩ := Option.map_eq_some_iff.1 info9
  simp only [Prod.mk.injEq] at hi1
  obtain ⟨hz0, hz1, hz2⟩ := hi1
  obtain ⟨v', w', h1, h2, h3, _, h5⟩ := run_append_own_at (P := Try.prog) W B 89 ty 9 i0 _ 1 16 Try.underlying89 hi0 hz0 hz1 hz2 rfl (by omega)
    v l.length (l.map Value.string) hown ⟨g, 0, none⟩ 1 1 [.string s] (by simp) (fun j u hj => by
      rw [add_new]
      have := hg.cell j
      rw [this]
      simpa using hj) (by intro u hu; simp at hu; subst hu; rfl) (by simp only [maxLen]; omega) (by omega) hB
  refine ⟨v', w', h1, ?_, h3⟩
  rw [List.map_append, List.length_append]
  exact h2
theorem wpList_append_str {W : World} {ops : Array Oper} {rest : List Oper} {o : Oper} {a : Act} {Q : Exit → Act → World → Prop} (hgd : o.guard = none) (x y : Operand) (ho : o.op = .call { callee := .builtin .append, args := #[x, y], argTypes := #[89, 89] })
    (B g : Nat) (v : Value) (l : List ByteArray) (s : ByteArray) (hx : a.eval x = v) (hy : a.eval y = .slice (some ⟨g, 0, none⟩) 1 1) (hown : W.ownsRow B 9 1 v l.length (l.map Value.string)) (hg : Blk W g 9 #[.string s]) (hl : l.length ≤ 1000) (hB : B ≤ W.heap.size)
    (h : ∀ v' w', w'.ownsRow B 9 1 v' (l ++ [s]).length ((l ++ [s]).map Value.string) → W.grownBy w' v.ownBlock → wpList Try.prog ops Q rest (a.put o.dst v') w') : wpList Try.prog ops Q (o :: rest) a W := by
  refine wpList_plain hgd fun _ hK => ?_
  obtain ⟨v', w', hr, h2, h3⟩ := append_str hown hg hl hB o.type
  unfold Oper.wp execOp
  simp only [ho, resolve, invoke, builtin, Sem.run_bind, Sem.run_pure, Result.andThen_ok, List.map_toArray, List.map_cons, List.map_nil, hx, hy, hr]
  exact hK _ _ (h v' w' h2 h3)
theorem own_st {W : World} {B : Nat} {v : Value} {l : List ByteArray} (h : W.ownsRow B 9 1 v l.length (l.map Value.string)) : ∃ A c, v = .slice A l.length c ∧ StAt W A l := by
  rcases h.2 with ⟨rfl, h0⟩ | ⟨g, cap, cur, rfl, hB, hg, hn, hm, hs, ht⟩
  · have : l = [] := List.eq_nil_of_length_eq_zero h0
    subst this
    exact ⟨none, 0, rfl, fun hx => absurd rfl hx⟩
  · refine ⟨_, cap, rfl, fun hx => ⟨_, rfl, fun i p hp => ?_⟩⟩
    have hil : i < l.length := (List.getElem?_eq_some_iff.1 hp).1
    rw [add_new]
    have h1 : (l.map Value.string)[i]? = some (.string p) := by rw [List.getElem?_map, hp]; rfl
    rw [← ht, List.getElem?_take, if_pos (by omega)] at h1
    simp [World.cell?, hg]
    simpa using h1
end Td
end Go.Proofs.Ytccacinnelmnpaa
