import Derived.Test.YtccacinnelmnpaaHol
import Derived.Test.YtccacinnelmnpaaVals9
import Derived.Maps.AppendAt
/- A map of readings by minutes, as it is built. -/
namespace Go.Proofs.Ytccacinnelmnpaa
open Go.RowKit
namespace Td
set_option linter.unusedSimpArgs false
set_option linter.unusedVariables false
/-- the entries are these pairs. -/
def kvL (es : Array MapEntry) (L : List (Int × Value)) : Prop := es.toList.map (fun e => (e.key, e.val)) = L.map (fun p => (Value.int .i64 p.1, p.2))
def fL (m : Int) : List (Int × Value) → Nat → Option (Nat × Value)
  | [], _ => none
  | p :: L, i => if m = p.1 then some (i, p.2) else fL m L (i + 1)
def lkv (L : List (Int × Value)) (m : Int) : Value := match fL m L 0 with | some p => p.2 | none => .slice none 0 0
def upL (m : Int) (v : Value) : List (Int × Value) → List (Int × Value)
  | [] => [(m, v)]
  | p :: L => if m = p.1 then (m, v) :: L else p :: upL m v L
theorem findNow_fL (m : Int) : ∀ (L : List (Int × Value)) (l : List MapEntry) (i : Nat), l.map (fun e => (e.key, e.val)) = L.map (fun p => (Value.int .i64 p.1, p.2)) → Instr.findNow (.int .i64) (.int .i64 m) l i = some (fL m L i) := by
  intro L
  induction L with
  | nil =>
    intro l i h
    cases l with
    | nil => rfl
    | cons e l => simp at h
  | cons p L ih =>
    intro l i h
    cases l with
    | nil => simp at h
    | cons e l =>
      simp only [List.map_cons, List.cons.injEq, Prod.mk.injEq] at h
      obtain ⟨⟨h1, h2⟩, h3⟩ := h
      unfold Instr.findNow fL
      rw [h1]
      by_cases hm : m = p.1
      · simp [Instr.sameNow, hm, h2]
      · have : (m == p.1) = false := beq_eq_false_iff_ne.2 hm
        simp [Instr.sameNow, hm, this, ih l (i + 1) h3]
theorem fL_up (m : Int) (v : Value) : ∀ (L : List (Int × Value)) (i : Nat), (∀ j u, fL m L i = some (j, u) → i ≤ j ∧ ∃ p, L[j - i]? = some p ∧ p.1 = m ∧ upL m v L = L.set (j - i) (m, v)) ∧ (fL m L i = none → upL m v L = L ++ [(m, v)]) := by
  intro L
  induction L with
  | nil => intro i; exact ⟨fun j u h => by simp [fL] at h, fun _ => rfl⟩
  | cons p L ih =>
    intro i
    by_cases hm : m = p.1
    · refine ⟨fun j u h => ?_, fun h => by simp [fL, hm] at h⟩
      simp [fL, hm] at h
      obtain ⟨rfl, rfl⟩ := h
      exact ⟨Nat.le_refl _, p, by simp, hm.symm, by simp [upL, hm]⟩
    · refine ⟨fun j u h => ?_, fun h => ?_⟩
      · simp only [fL, hm, if_false] at h
        obtain ⟨h1, q, h2, h3, h4⟩ := (ih (i + 1)).1 j u h
        have e : j - i = (j - (i + 1)) + 1 := by omega
        refine ⟨by omega, q, by rw [e]; simpa using h2, h3, ?_⟩
        rw [e, List.set_cons_succ]
        simp [upL, hm, h4]
      · simp only [fL, hm, if_false] at h
        simp [upL, hm, (ih (i + 1)).2 h]
theorem fL_val (m m' : Int) (v : Value) : ∀ (L : List (Int × Value)) (i : Nat), (fL m' (upL m v L) i).map Prod.snd = if m' = m then some v else (fL m' L i).map Prod.snd := by
  intro L
  induction L with
  | nil => intro i; by_cases h : m' = m <;> simp [upL, fL, h]
  | cons p L ih =>
    intro i
    by_cases hm : m = p.1
    · by_cases h : m' = m
      · simp [upL, fL, hm, h]
      · have h2 : ¬ m' = p.1 := fun e => h (by rw [e, hm])
        simp [upL, fL, hm, h2]
    · by_cases h : m' = p.1
      · have h2 : ¬ p.1 = m := fun e => hm e.symm
        subst h
        simp [upL, fL, hm, h2]
      · simp [upL, fL, hm, h, ih (i + 1)]
theorem lkv_eq (L : List (Int × Value)) (m : Int) : lkv L m = ((fL m L 0).map Prod.snd).getD (.slice none 0 0) := by
  unfold lkv
  cases fL m L 0 <;> rfl
theorem lkv_up (L : List (Int × Value)) (m m' : Int) (v : Value) : lkv (upL m v L) m' = if m' = m then v else lkv L m' := by
  rw [lkv_eq, lkv_eq, fL_val]
  split <;> rfl
theorem run_look {W : World} {gm : Nat} {es : Array MapEntry} {clock : Nat} {L : List (Int × Value)} (hg : W.heap[gm]? = some (.map es clock)) (hL : kvL es L) (m : Int) :
    (Instr.lookup 91 (.map (some gm)) (.int .i64 m) false).run Try.prog W = .ok (lkv L m) W := by
  have hz : ∀ W, (zeroValue 28).run Try.prog W = .ok (.slice none 0 0) W := fun W => by kernel_rfl
  have hf := findNow_fL m L es.toList 0 hL
  unfold lkv
  cases h : fL m L 0 with
  | none =>
    rw [h] at hf
    simp [Instr.lookup, run_underlying Try.underlying91, run_underlying Try.underlying3, Sem.run_bind, MapKept.run_getObj_map hg, MapKept.run_checkKey Try.underlying3 (isKeyI _) _ 9999, Instr.findKey, hf, hz]
  | some p =>
    rw [h] at hf
    simp [Instr.lookup, run_underlying Try.underlying91, run_underlying Try.underlying3, Sem.run_bind, MapKept.run_getObj_map hg, MapKept.run_checkKey Try.underlying3 (isKeyI _) _ 9999, Instr.findKey, hf]
theorem run_turn {W : World} {gm : Nat} {es : Array MapEntry} {clock : Nat} {L : List (Int × Value)} (hg : W.heap[gm]? = some (.map es clock)) (hL : kvL es L) (m : Int) (v : Value) :
    ∃ es' clock', (Instr.mapUpdate 91 (.map (some gm)) (.int .i64 m) v).run Try.prog W = .ok () (W.putObj gm (.map es' clock')) ∧ kvL es' (upL m v L) := by
  have hf := findNow_fL m L es.toList 0 hL
  have hset : ∀ o, ({ W with heap := W.heap.setIfInBounds gm o } : World) = W.putObj gm o := fun o => rfl
  cases h : fL m L 0 with
  | none =>
    rw [h] at hf
    refine ⟨es.push { key := .int .i64 m, val := v, born := clock }, clock + 1, ?_, ?_⟩
    · unfold Instr.mapUpdate
      simp only [Sem.run_bind, run_underlying Try.underlying91, Result.andThen_ok, MapKept.run_getObj_map hg, MapKept.run_checkKey Try.underlying3 (isKeyI _) false 9999, Instr.findKey, run_underlying Try.underlying3, hf, Sem.run_pure, MapKept.run_setObj_map _ hg, hset]
    · unfold kvL at hL ⊢
      rw [(fL_up m v L 0).2 h]
      simp [hL]
  | some p =>
    obtain ⟨j, u⟩ := p
    rw [h] at hf
    obtain ⟨_, q, hq, hq1, hu⟩ := (fL_up m v L 0).1 j u h
    rw [Nat.sub_zero] at hq hu
    have hej : ∃ e, es[j]? = some e ∧ e.key = .int .i64 m := by
      have := congrArg (fun l => l[j]?) hL
      simp only [List.getElem?_map, hq, Option.map_some, Array.getElem?_toList] at this
      cases he : es[j]? with
      | none => rw [he] at this; cases this
      | some e =>
        rw [he] at this
        simp only [Option.map_some, Option.some.injEq, Prod.mk.injEq] at this
        exact ⟨e, rfl, by rw [this.1, hq1]⟩
    obtain ⟨e, he, hek⟩ := hej
    refine ⟨es.modify j fun e => { e with key := .int .i64 m, val := v }, clock, ?_, ?_⟩
    · unfold Instr.mapUpdate
      have hs : Instr.sameBits 10000 (.int .i64 m) (.int .i64 m) = true := by simp [Instr.sameBits]
      simp only [Sem.run_bind, run_underlying Try.underlying91, Result.andThen_ok, MapKept.run_getObj_map hg, MapKept.run_checkKey Try.underlying3 (isKeyI _) false 9999, Instr.findKey, run_underlying Try.underlying3, hf, Sem.run_pure, he, Option.map_some, Option.getD_some, hek, Instr.keyThatStays, hs, if_true, MapKept.run_setObj_map _ hg, hset]
    · unfold kvL at hL ⊢
      rw [hu]
      apply List.ext_getElem?
      intro i
      have hi := congrArg (fun l => l[i]?) hL
      simp only [List.getElem?_map, Array.getElem?_toList] at hi
      simp only [List.getElem?_map, Array.getElem?_toList, Array.getElem?_modify, List.getElem?_set]
      by_cases hij : j = i
      · subst hij
        have hlt : j < L.length := (List.getElem?_eq_some_iff.1 hq).1
        simp [he, hlt]
      · simp only [hij, if_false]
        exact hi
/-- the cells of readings, one after the other. -/
def rowsC (l : List Rd) : List Value := l.flatMap fun r => [.int .i64 r.min, .int .i64 r.tool, .int .i64 r.shown]
theorem rowsC_len (l : List Rd) : (rowsC l).length = l.length * 3 := by
  induction l with
  | nil => rfl
  | cons r l ih => simp [rowsC] at ih ⊢; omega
theorem rowsC_snoc (l : List Rd) (r : Rd) : rowsC (l ++ [r]) = rowsC l ++ [.int .i64 r.min, .int .i64 r.tool, .int .i64 r.shown] := by simp [rowsC]
theorem rowsC_at : ∀ (l : List Rd) (i : Nat) (r : Rd), l[i]? = some r → (rowsC l)[i * 3]? = some (.int .i64 r.min) ∧ (rowsC l)[i * 3 + 1]? = some (.int .i64 r.tool) ∧ (rowsC l)[i * 3 + 2]? = some (.int .i64 r.shown) := by
  intro l
  induction l with
  | nil => intro i r h; simp at h
  | cons q l ih =>
    intro i r h
    have e : rowsC (q :: l) = .int .i64 q.min :: .int .i64 q.tool :: .int .i64 q.shown :: rowsC l := rfl
    cases i with
    | zero =>
      simp at h
      subst h
      rw [e]
      exact ⟨rfl, rfl, rfl⟩
    | succ i =>
      rw [List.getElem?_cons_succ] at h
      obtain ⟨h1, h2, h3⟩ := ih i r h
      rw [e]
      refine ⟨?_, ?_, ?_⟩
      · rw [show (i + 1) * 3 = i * 3 + 1 + 1 + 1 by omega]; simpa using h1
      · rw [show (i + 1) * 3 + 1 = i * 3 + 1 + 1 + 1 + 1 by omega]; simpa using h2
      · rw [show (i + 1) * 3 + 2 = i * 3 + 2 + 1 + 1 + 1 by omega]; simpa using h3
/-- the map's slices own their rows, each its own. -/
def Own (W : World) (B : Nat) (rs : List Rd) (V : Int → Value) : Prop :=
  (∀ m, W.ownsRow B 61 3 (V m) (atM rs m).length (rowsC (atM rs m))) ∧ ∀ m m', m ≠ m' → (V m).ownBlock = none ∨ (V m).ownBlock ≠ (V m').ownBlock
/-- the map of readings. -/
def MI (W : World) (B gm : Nat) (rs : List Rd) : Prop := ∃ es clock L, W.heap[gm]? = some (.map es clock) ∧ kvL es L ∧ Own W B rs (lkv L)
theorem Own.lt {W : World} {B : Nat} {rs : List Rd} {V : Int → Value} (h : Own W B rs V) (m : Int) : ∀ k, (V m).ownBlock = some k → B ≤ k ∧ k < W.heap.size := (h.1 m).lt
theorem Own.keep {W W' : World} {B : Nat} {rs : List Rd} {V : Int → Value} (h : Own W B rs V) (hb : Below W.heap.size W W') : Own W' B rs V :=
  ⟨fun m => (h.1 m).kept (row := none) ⟨hb.os, hb.tape, hb.output, hb.size, fun k hk _ => hb.block k hk⟩ (by cases hv : (V m).ownBlock <;> simp), h.2⟩
theorem own_rd {W : World} {B : Nat} {v : Value} {l : List Rd} (h : W.ownsRow B 61 3 v l.length (rowsC l)) : ∃ A c, v = .slice A l.length c ∧ RdAt W A l := by
  rcases h.2 with ⟨rfl, h0⟩ | ⟨g, cap, cur, rfl, hB, hg, hn, hm, hs, ht⟩
  · have : l = [] := List.eq_nil_of_length_eq_zero h0
    subst this
    exact ⟨none, 0, rfl, fun hx => absurd rfl hx⟩
  · refine ⟨_, cap, rfl, fun hx => ⟨_, rfl, fun i p hp => ?_⟩⟩
    have hil : i < l.length := (List.getElem?_eq_some_iff.1 hp).1
    obtain ⟨h1, h2, h3⟩ := rowsC_at l i p hp
    have hc : ∀ (k : Nat) u, k < l.length * 3 → (rowsC l)[k]? = some u → W.cell? ⟨g, k, none⟩ = some u := fun k u hk hu => by
      rw [← ht] at hu
      rw [List.getElem?_take, if_pos hk] at hu
      simp [World.cell?, hg]
      simpa using hu
    have e : ∀ k, (⟨g, 0, none⟩ : Addr).add k = ⟨g, k, none⟩ := add_new g
    rw [e]
    exact ⟨hc (i * 3) _ (by omega) h1, hc (i * 3 + 1) _ (by omega) h2, hc (i * 3 + 2) _ (by omega) h3⟩
theorem MI.mp {W : World} {B gm : Nat} {rs : List Rd} (h : MI W B gm rs) : Mp W (some gm) rs := fun m => by
  obtain ⟨es, clock, L, hg, hL, hO⟩ := h
  obtain ⟨A, c, hv, hr⟩ := own_rd (hO.1 m)
  refine ⟨A, c, fun X hX => ?_, hr⟩
  rw [← hv]
  exact run_look ((hX.block gm (Array.getElem?_eq_some_iff.1 hg).1).trans hg) hL m
end Td
end Go.Proofs.Ytccacinnelmnpaa
