import Derived.Test.YtmofbnadfgejiaaChk
import Derived.Test.YtmofbnadfgejiaaCore
import Derived.Maps.AppendAt
import Derived.OrdersIn
import Derived.TacticsIn
/- A map of readings by minutes, as it is built. -/
namespace Go.Proofs.Ytmofbnadfgejiaa
open Go.RowKit
namespace Td
set_option linter.unusedSimpArgs false
set_option linter.unusedVariables false
/-- the entries are these pairs. -/
def kvL (es : Array MapEntry) (L : List (Int × Value)) : Prop := es.toList.map (fun e => (e.key, e.val)) = L.map (fun p => (Value.int .i64 p.1, p.2))
def fL (m : Int) : List (Int × Value) → Nat → Option (Nat × Value)
  | [], _ => none
  | p :: L, i => if m = p.1 then some (i, p.2) else fL m L (i + 1)
def lkv (L : List (Int × Value)) (m : Int) : Value := match fL m L 0 with | some p => p.2 | none => .slice none 0 0
def upL (m : Int) (v : Value) : List (Int × Value) → List (Int × Value)
  | [] => [(m, v)]
  | p :: L => if m = p.1 then (m, v) :: L else p :: upL m v L
theorem findNow_fL (m : Int) : ∀ (L : List (Int × Value)) (l : List MapEntry) (i : Nat), l.map (fun e => (e.key, e.val)) = L.map (fun p => (Value.int .i64 p.1, p.2)) → Instr.findNow (.int .i64) (.int .i64 m) l i = some (fL m L i) := by
  intro L
  induction L with
  | nil =>
    intro l i h
    cases l with
    | nil => rfl
    | cons e l => simp at h
  | cons p L ih =>
    intro l i h
    cases l with
    | nil => simp at h
    | cons e l =>
      simp only [List.map_cons, List.cons.injEq, Prod.mk.injEq] at h
      obtain ⟨⟨h1, h2⟩, h3⟩ := h
      unfold Instr.findNow fL
      rw [h1]
      by_cases hm : m = p.1
      · simp [Instr.sameNow, hm, h2]
      · have : (m == p.1) = false := beq_eq_false_iff_ne.2 hm
        simp [Instr.sameNow, hm, this, ih l (i + 1) h3]
theorem fL_up (m : Int) (v : Value) : ∀ (L : List (Int × Value)) (i : Nat), (∀ j u, fL m L i = some (j, u) → i ≤ j ∧ ∃ p, L[j - i]? = some p ∧ p.1 = m ∧ upL m v L = L.set (j - i) (m, v)) ∧ (fL m L i = none → upL m v L = L ++ [(m, v)]) := by
  intro L
  induction L with
  | nil => intro i; exact ⟨fun j u h => by simp [fL] at h, fun _ => rfl⟩
  | cons p L ih =>
    intro i
    by_cases hm : m = p.1
    · refine ⟨fun j u h => ?_, fun h => by simp [fL, hm] at h⟩
      simp [fL, hm] at h
      obtain ⟨rfl, rfl⟩ := h
      exact ⟨Nat.le_refl _, p, by simp, hm.symm, by simp [upL, hm]⟩
    · refine ⟨fun j u h => ?_, fun h => ?_⟩
      · simp only [fL, hm, if_false] at h
        obtain ⟨h1, q, h2, h3, h4⟩ := (ih (i + 1)).1 j u h
        have e : j - i = (j - (i + 1)) + 1 := by omega
        refine ⟨by omega, q, by rw [e]; simpa using h2, h3, ?_⟩
        rw [e, List.set_cons_succ]
        simp [upL, hm, h4]
      · simp only [fL, hm, if_false] at h
        simp [upL, hm, (ih (i + 1)).2 h]
theorem fL_val (m m' : Int) (v : Value) : ∀ (L : List (Int × Value)) (i : Nat), (fL m' (upL m v L) i).map Prod.snd = if m' = m then some v else (fL m' L i).map Prod.snd := by
  intro L
  induction L with
  | nil => intro i; by_cases h : m' = m <;> simp [upL, fL, h]
  | cons p L ih =>
    intro i
    by_cases hm : m = p.1
    · by_cases h : m' = m
      · simp [upL, fL, hm, h]
      · have h2 : ¬ m' = p.1 := fun e => h (by rw [e, hm])
        simp [upL, fL, hm, h2]
    · by_cases h : m' = p.1
      · have h2 : ¬ p.1 = m := fun e => hm e.symm
        subst h
        simp [upL, fL, hm, h2]
      · simp [upL, fL, hm, h, ih (i + 1)]
theorem lkv_eq (L : List (Int × Value)) (m : Int) : lkv L m = ((fL m L 0).map Prod.snd).getD (.slice none 0 0) := by
  unfold lkv
  cases fL m L 0 <;> rfl
theorem lkv_up (L : List (Int × Value)) (m m' : Int) (v : Value) : lkv (upL m v L) m' = if m' = m then v else lkv L m' := by
  rw [lkv_eq, lkv_eq, fL_val]
  split <;> rfl
theorem run_look {W : World} {gm : Nat} {es : Array MapEntry} {clock : Nat} {L : List (Int × Value)} (hg : W.heap[gm]? = some (.map es clock)) (hL : kvL es L) (m : Int) :
    (Instr.lookup 91 (.map (some gm)) (.int .i64 m) false).run Try.prog W = .ok (lkv L m) W := by
  have hz : ∀ W, (zeroValue 28).run Try.prog W = .ok (.slice none 0 0) W := fun W => by kernel_rfl
  have hf := findNow_fL m L es.toList 0 hL
  unfold lkv
  cases h : fL m L 0 with
  | none =>
    rw [h] at hf
    simp [Instr.lookup, run_underlying Try.underlying91, run_underlying Try.underlying3, Sem.run_bind, MapKept.run_getObj_map hg, MapKept.run_checkKey Try.underlying3 (isKeyI _) _ 9999, Instr.findKey, hf, hz]
  | some p =>
    rw [h] at hf
    simp [Instr.lookup, run_underlying Try.underlying91, run_underlying Try.underlying3, Sem.run_bind, MapKept.run_getObj_map hg, MapKept.run_checkKey Try.underlying3 (isKeyI _) _ 9999, Instr.findKey, hf]
theorem run_turn {W : World} {gm : Nat} {es : Array MapEntry} {clock : Nat} {L : List (Int × Value)} (hg : W.heap[gm]? = some (.map es clock)) (hL : kvL es L) (m : Int) (v : Value) :
    ∃ es' clock', (Instr.mapUpdate 91 (.map (some gm)) (.int .i64 m) v).run Try.prog W = .ok () (W.putObj gm (.map es' clock')) ∧ kvL es' (upL m v L) := by
  have hf := findNow_fL m L es.toList 0 hL
  have hset : ∀ o, ({ W with heap := W.heap.setIfInBounds gm o } : World) = W.putObj gm o := fun o => rfl
  cases h : fL m L 0 with
  | none =>
    rw [h] at hf
    refine ⟨es.push { key := .int .i64 m, val := v, born := clock }, clock + 1, ?_, ?_⟩
    · unfold Instr.mapUpdate
      simp only [Sem.run_bind, run_underlying Try.underlying91, Result.andThen_ok, MapKept.run_getObj_map hg, MapKept.run_checkKey Try.underlying3 (isKeyI _) false 9999, Instr.findKey, run_underlying Try.underlying3, hf, Sem.run_pure, MapKept.run_setObj_map _ hg, hset]
    · unfold kvL at hL ⊢
      rw [(fL_up m v L 0).2 h]
      simp [hL]
  | some p =>
    obtain ⟨j, u⟩ := p
    rw [h] at hf
    obtain ⟨_, q, hq, hq1, hu⟩ := (fL_up m v L 0).1 j u h
    rw [Nat.sub_zero] at hq hu
    have hej : ∃ e, es[j]? = some e ∧ e.key = .int .i64 m := by
      have := congrArg (fun l => l[j]?) hL
      simp only [List.getElem?_map, hq, Option.map_some, Array.getElem?_toList] at this
      cases he : es[j]? with
      | none => rw [he] at this; cases this
      | some e =>
        rw [he] at this
        simp only [Option.map_some, Option.some.injEq, Prod.mk.injEq] at this
        exact ⟨e, rfl, by rw [this.1, hq1]⟩
    obtain ⟨e, he, hek⟩ := hej
    refine ⟨es.modify j fun e => { e with key := .int .i64 m, val := v }, clock, ?_, ?_⟩
    · unfold Instr.mapUpdate
      have hs : Instr.sameBits 10000 (.int .i64 m) (.int .i64 m) = true := by simp [Instr.sameBits]
      simp only [Sem.run_bind, run_underlying Try.underlying91, Result.andThen_ok, MapKept.run_getObj_map hg, MapKept.run_checkKey Try.underlying3 (isKeyI _) false 9999, Instr.findKey, run_underlying Try.underlying3, hf, Sem.run_pure, he, Option.map_some, Option.getD_some, hek, Instr.keyThatStays, hs, if_true, MapKept.run_setObj_map _ hg, hset]
    · unfold kvL at hL ⊢
      rw [hu]
      apply List.ext_getElem?
      intro i
      have hi := congrArg (fun l => l[i]?) hL
      simp only [List.getElem?_map, Array.getElem?_toList] at hi
      simp only [List.getElem?_map, Array.getElem?_toList, Array.getElem?_modify, List.getElem?_set]
      by_cases hij : j = i
      · subst hij
        have hlt : j < L.length := (List.getElem?_eq_some_iff.1 hq).1
        simp [he, hlt]
      · simp only [hij, if_false]
        exact hi
/-- the cells of readings, one after the other. -/
def rowsC (l : List Rd) : List Value := l.flatMap fun r => [.int .i64 r.min, .int .i64 r.tool, .int .i64 r.shown]
theorem rowsC_len (l : List Rd) : (rowsC l).length = l.length * 3 := by
  induction l with
  | nil => rfl
  | cons r l ih => simp [rowsC] at ih ⊢; omega
theorem rowsC_snoc (l : List Rd) (r : Rd) : rowsC (l ++ [r]) = rowsC l ++ [.int .i64 r.min, .int .i64 r.tool, .int .i64 r.shown] := by simp [rowsC]
theorem rowsC_at : ∀ (l : List Rd) (i : Nat) (r : Rd), l[i]? = some r → (rowsC l)[i * 3]? = some (.int .i64 r.min) ∧ (rowsC l)[i * 3 + 1]? = some (.int .i64 r.tool) ∧ (rowsC l)[i * 3 + 2]? = some (.int .i64 r.shown) := by
  intro l
  induction l with
  | nil => intro i r h; simp at h
  | cons q l ih =>
    intro i r h
    have e : rowsC (q :: l) = .int .i64 q.min :: .int .i64 q.tool :: .int .i64 q.shown :: rowsC l := rfl
    cases i with
    | zero =>
      simp at h
      subst h
      rw [e]
      exact ⟨rfl, rfl, rfl⟩
    | succ i =>
      rw [List.getElem?_cons_succ] at h
      obtain ⟨h1, h2, h3⟩ := ih i r h
      rw [e]
      refine ⟨?_, ?_, ?_⟩
      · rw [show (i + 1) * 3 = i * 3 + 1 + 1 + 1 by omega]; simpa using h1
      · rw [show (i + 1) * 3 + 1 = i * 3 + 1 + 1 + 1 + 1 by omega]; simpa using h2
      · rw [show (i + 1) * 3 + 2 = i * 3 + 2 + 1 + 1 + 1 by omega]; simpa using h3
/-- the map's slices own their rows, each its own. -/
def Own (W : World) (B : Nat) (rs : List Rd) (V : Int → Value) : Prop :=
  (∀ m, W.ownsRow B 61 3 (V m) (atM rs m).length (rowsC (atM rs m))) ∧ ∀ m m', m ≠ m' → (V m).ownBlock = none ∨ (V m).ownBlock ≠ (V m').ownBlock
/-- the map of readings. -/
def MI (W : World) (B gm : Nat) (rs : List Rd) : Prop := ∃ es clock L, W.heap[gm]? = some (.map es clock) ∧ kvL es L ∧ Own W B rs (lkv L)
theorem Own.lt {W : World} {B : Nat} {rs : List Rd} {V : Int → Value} (h : Own W B rs V) (m : Int) : ∀ k, (V m).ownBlock = some k → B ≤ k ∧ k < W.heap.size := (h.1 m).lt
theorem Own.keep {W W' : World} {B : Nat} {rs : List Rd} {V : Int → Value} (h : Own W B rs V) (hb : Below W.heap.size W W') : Own W' B rs V :=
  ⟨fun m => (h.1 m).kept (row := none) ⟨hb.os, hb.tape, hb.output, hb.size, fun k hk _ => hb.block k hk⟩ (by cases hv : (V m).ownBlock <;> simp), h.2⟩
theorem own_rd {W : World} {B : Nat} {v : Value} {l : List Rd} (h : W.ownsRow B 61 3 v l.length (rowsC l)) : ∃ A c, v = .slice A l.length c ∧ RdAt W A l := by
  rcases h.2 with ⟨rfl, h0⟩ | ⟨g, cap, cur, rfl, hB, hg, hn, hm, hs, ht⟩
  · have : l = [] := List.eq_nil_of_length_eq_zero h0
    subst this
    exact ⟨none, 0, rfl, fun hx => absurd rfl hx⟩
  · refine ⟨_, cap, rfl, fun hx => ⟨_, rfl, fun i p hp => ?_⟩⟩
    have hil : i < l.length := (List.getElem?_eq_some_iff.1 hp).1
    obtain ⟨h1, h2, h3⟩ := rowsC_at l i p hp
    have hc : ∀ (k : Nat) u, k < l.length * 3 → (rowsC l)[k]? = some u → W.cell? ⟨g, k, none⟩ = some u := fun k u hk hu => by
      rw [← ht] at hu
      rw [List.getElem?_take, if_pos hk] at hu
      simp [World.cell?, hg]
      simpa using hu
    have e : ∀ k, (⟨g, 0, none⟩ : Addr).add k = ⟨g, k, none⟩ := add_new g
    rw [e]
    exact ⟨hc (i * 3) _ (by omega) h1, hc (i * 3 + 1) _ (by omega) h2, hc (i * 3 + 2) _ (by omega) h3⟩
theorem MI.mp {W : World} {B gm : Nat} {rs : List Rd} (h : MI W B gm rs) : Mp W (some gm) rs := fun m => by
  obtain ⟨es, clock, L, hg, hL, hO⟩ := h
  obtain ⟨A, c, hv, hr⟩ := own_rd (hO.1 m)
  refine ⟨A, c, fun X hX => ?_, hr⟩
  rw [← hv]
  exact run_look ((hX.block gm (Array.getElem?_eq_some_iff.1 hg).1).trans hg) hL m
end Td
end Go.Proofs.Ytmofbnadfgejiaa
/- One more reading in the map: the lookup, the append and the update, in any order that Go allows. -/
namespace Go.Proofs.Ytmofbnadfgejiaa
open Go.RowKit
namespace Td
set_option linter.unusedSimpArgs false
set_option linter.unusedVariables false
attribute [local go_sem] Oper.semAt_some
theorem info61 : (Try.prog.info? 61).map (fun i => (i.zero, i.size, i.bytes)) = some (some (.agg #[.int .i64 0, .int .i64 0, .int .i64 0]), 3, 24) := by kernel_rfl
theorem Kp.grown {a b c : Nat} {A W W' : World} {row : Option Nat} (h : Kp a b c A W) (hg : W.grownBy W' row) (hr : ∀ g, row = some g → A.heap.size ≤ g) : Kp a b c A W' :=
  ⟨hg.os.trans h.os, hg.tape.trans h.tape, hg.output.trans h.output, Nat.le_trans h.size hg.size, fun k o hk hn hc =>
    (hg.block k (Nat.lt_of_lt_of_le (Array.getElem?_eq_some_iff.1 hk).1 h.size) (fun e => by have := hr k e.symm; have := (Array.getElem?_eq_some_iff.1 hk).1; omega)).trans (h.kept k o hk hn hc)⟩
theorem Kp.puts {a b c : Nat} {A W : World} (h : Kp a b c A W) (g : Nat) (o : Obj) (ha : a ≤ g) (hb : g < b) : Kp a b c A (W.putObj g o) :=
  ⟨h.os, h.tape, h.output, by simpa [World.putObj] using h.size, fun k u hk hn hc => (World.putObj_heap_other (fun e => hn (by subst e; exact ⟨ha, hb⟩))).trans (h.kept k u hk hn hc)⟩
theorem atM_snoc (rs : List Rd) (r : Rd) (m : Int) : atM (rs ++ [r]) m = if m = r.min then atM rs m ++ [r] else atM rs m := by
  unfold atM
  rw [List.filter_append]
  by_cases h : m = r.min
  · simp [h]
  · have h2 : ¬ r.min = m := fun e => h e.symm
    simp [h, h2]
theorem rV_one (r : Rd) : ∀ u ∈ (rV r).toList, u.oneCell' = true := by
  intro u hu
  simp [rV] at hu
  rcases hu with rfl | rfl | rfl <;> rfl
/-- append of one reading behind a slice that owns its row. -/
theorem append_read {W : World} {B g : Nat} {v : Value} {l : List Rd} {r : Rd} (hown : W.ownsRow B 61 3 v l.length (rowsC l)) (hg : Blk W g 61 (rV r)) (hl : l.length ≤ 1000) (hB : B ≤ W.heap.size) (ty : TypeId) :
    ∃ v' w', (Builtin.append_ #[28, 28] ty #[v, .slice (some ⟨g, 0, none⟩) 1 1]).run Try.prog W = .ok v' w' ∧ w'.ownsRow B 61 3 v' (l ++ [r]).length (rowsC (l ++ [r])) ∧ W.grownBy w' v.ownBlock ∧ (v'.ownBlock = v.ownBlock ∨ v'.ownBlock = some W.heap.size) := by
  obtain ⟨i0, hi0, hi1⟩ := Option.map_eq_some_iff.1 info61
  simp only [Prod.mk.injEq] at hi1
  obtain ⟨hz0, hz1, hz2⟩ := hi1
  obtain ⟨v', w', h1, h2, h3, _, h5⟩ := run_append_own_at (P := Try.prog) W B 28 ty 61 i0 _ 3 24 Try.underlying28 hi0 hz0 hz1 hz2 rfl (by omega)
    v l.length (rowsC l) hown ⟨g, 0, none⟩ 1 1 (rV r).toList (by simp) (fun j u hj => by
      rw [add_new]
      have := hg.cell j
      rw [this]
      simpa using hj) (rV_one r) (by simp only [maxLen]; omega) (by omega) hB
  refine ⟨v', w', h1, ?_, h3, h5⟩
  rw [rowsC_snoc, List.length_append]
  exact h2
structure Gw (w X0 : World) (gm gr B : Nat) (rs : List Rd) (r : Rd) (es : Array MapEntry) (clock : Nat) (L : List (Int × Value)) (σ : Vals9.Sig) (X : World) : Prop where
  sn : Since w X
  kp : Kp gm (gm + 1) X0.heap.size X0 X
  br : Blk X gr 61 (rV r)
  sz : B ≤ X.heap.size
  mp : σ 12 = none → X.heap[gm]? = some (.map es clock)
  ow : σ 11 = none → Own X B rs (lkv L)
  bs : ∀ u, σ 10 = some u → σ 11 = none → ∃ g, u = .slice (some ⟨g, 0, none⟩) 1 1 ∧ Blk X g 61 (rV r)
  lk : ∀ u, σ 8 = some u → u = lkv L r.min
  ap : ∀ u, σ 11 = some u → Own X B (rs ++ [r]) (fun m => if m = r.min then u else lkv L m)
  q : ∀ u, σ 11 = some u → ∃ v, σ 8 = some v
  q2 : ∀ u, σ 11 = some u → ∃ v, σ 10 = some v
  p : ∀ u, σ 12 = some u → ∃ v, σ 11 = some v
  fin : ∀ u, σ 12 = some u → MI X B gm (rs ++ [r])
section
variable {w X0 : World} {gm gr B : Nat} {rs : List Rd} {r : Rd} {es : Array MapEntry} {clock : Nat} {L : List (Int × Value)} {σ : Vals9.Sig} {X : World}
theorem Gw.start (hsn : Since w X) (hk : Kp gm (gm + 1) X0.heap.size X0 X) (hr : Blk X gr 61 (rV r)) (hB : B ≤ X.heap.size) (hm : X.heap[gm]? = some (.map es clock)) (ho : Own X B rs (lkv L)) : Gw w X0 gm gr B rs r es clock L (fun _ => none) X.drew :=
  ⟨hsn.drew, hk.then (Below.refl _ _).drew, hr.drew, hB, fun _ => hm, fun _ => ho.keep (Below.refl _ _).drew, fun _ h _ => (by cases h), fun _ h => (by cases h), fun _ h => (by cases h), fun _ h => (by cases h), fun _ h => (by cases h), fun _ h => (by cases h), fun _ h => (by cases h)⟩
theorem Gw.late (h : Gw w X0 gm gr B rs r es clock L σ X) (hn : σ 8 = none) : σ 11 = none ∧ σ 12 = none := by
  have h1 : σ 11 = none := by
    cases e : σ 11 with
    | none => rfl
    | some u => obtain ⟨v, hv⟩ := h.q u e; rw [hn] at hv; cases hv
  refine ⟨h1, ?_⟩
  cases e : σ 12 with
  | none => rfl
  | some u => obtain ⟨v, hv⟩ := h.p u e; rw [h1] at hv; cases hv
theorem Gw.late2 (h : Gw w X0 gm gr B rs r es clock L σ X) (hn : σ 11 = none) : σ 12 = none := by
  cases e : σ 12 with
  | none => rfl
  | some u => obtain ⟨v, hv⟩ := h.p u e; rw [hn] at hv; cases hv
theorem upd_ne {σ : Vals9.Sig} {i j : Nat} {u : Value} (h : j ≠ i) : Vals9.upd σ i u j = σ j := Vals9.upd_other _ _ h
theorem Gw.look (h : Gw w X0 gm gr B rs r es clock L σ X) (hn : σ 8 = none) : Gw w X0 gm gr B rs r es clock L (Vals9.upd σ 8 (lkv L r.min)) X := by
  obtain ⟨h1, h2⟩ := h.late hn
  refine ⟨h.sn, h.kp, h.br, h.sz, fun _ => h.mp h2, fun _ => h.ow h1, fun u hu => h.bs u (by rwa [upd_ne (by decide)] at hu), fun u hu => ?_, fun u hu => ?_, fun u hu => ?_, fun u hu => ?_, fun u hu => ?_, fun u hu => ?_⟩
  · rw [Vals9.upd_same] at hu; exact (Option.some.inj hu).symm
  · rw [upd_ne (by decide), h1] at hu; cases hu
  · rw [upd_ne (by decide), h1] at hu; cases hu
  · rw [upd_ne (by decide), h1] at hu; cases hu
  · rw [upd_ne (by decide), h2] at hu; cases hu
  · rw [upd_ne (by decide), h2] at hu; cases hu
theorem Gw.build (h : Gw w X0 gm gr B rs r es clock L σ X) (hn : σ 10 = none) : Gw w X0 gm gr B rs r es clock L (Vals9.upd σ 10 (.slice (some ⟨X.heap.size, 0, none⟩) 1 1)) (X.alloc (.cells (rV r) 61)) := by
  have h1 : σ 11 = none := by
    cases e : σ 11 with
    | none => rfl
    | some u => obtain ⟨v, hv⟩ := h.q2 u e; rw [hn] at hv; cases hv
  have h2 := h.late2 h1
  have hb : Below X.heap.size X (X.alloc (.cells (rV r) 61)) := (Below.refl _ _).alloc (Nat.le_refl _) _
  refine ⟨h.sn.keep hb, h.kp.then hb, h.br.keep hb, by have := h.sz; simp; omega, fun _ => ?_, fun _ => (h.ow h1).keep hb, fun u hu _ => ?_, fun u hu => h.lk u (by rwa [upd_ne (by decide)] at hu), fun u hu => ?_, fun u hu => ?_, fun u hu => ?_, fun u hu => ?_, fun u hu => ?_⟩
  · have hg := h.mp h2
    exact (hb.block gm (Array.getElem?_eq_some_iff.1 hg).1).trans hg
  · rw [Vals9.upd_same] at hu
    exact ⟨_, (Option.some.inj hu).symm, Blk.new _ _ _⟩
  · rw [upd_ne (by decide), h1] at hu; cases hu
  · rw [upd_ne (by decide), h1] at hu; cases hu
  · rw [upd_ne (by decide), h1] at hu; cases hu
  · rw [upd_ne (by decide), h2] at hu; cases hu
  · rw [upd_ne (by decide), h2] at hu; cases hu
theorem Own.grow {W W' : World} {V : Int → Value} {u : Value} (h : Own W B rs V) (hg : W.grownBy W' (V r.min).ownBlock) (hu : W'.ownsRow B 61 3 u (atM rs r.min ++ [r]).length (rowsC (atM rs r.min ++ [r]))) (hb : u.ownBlock = (V r.min).ownBlock ∨ u.ownBlock = some W.heap.size) :
    Own W' B (rs ++ [r]) (fun m => if m = r.min then u else V m) := by
  have hcl : ∀ m, m ≠ r.min → (V m).ownBlock = none ∨ (V m).ownBlock ≠ u.ownBlock := fun m hm => by
    rcases hb with hb | hb
    · rw [hb]; exact h.2 m r.min hm
    · rw [hb]
      cases e : (V m).ownBlock with
      | none => exact .inl rfl
      | some k =>
        right
        have := (h.lt m k e).2
        intro e'; cases e'; omega
  refine ⟨fun m => ?_, fun m m' hm => ?_⟩
  · rw [atM_snoc]
    by_cases hmr : m = r.min
    · simp only [hmr, if_true]; exact hu
    · simp only [hmr, if_false]
      exact (h.1 m).kept hg (h.2 m r.min hmr)
  · by_cases h1 : m = r.min
    · have h2 : ¬ m' = r.min := fun e => hm (by rw [h1, e])
      simp only [h1, if_true, h2, if_false]
      rcases hcl m' h2 with e | e
      · cases hu' : u.ownBlock with
        | none => exact .inl rfl
        | some k => right; rw [e]; simp
      · exact .inr (fun e' => e e'.symm)
    · by_cases h2 : m' = r.min
      · simp only [h1, if_false, h2, if_true]
        exact hcl m h1
      · simp only [h1, if_false, h2]
        exact h.2 m m' hm
theorem Gw.append {X' : World} {u : Value} (h : Gw w X0 gm gr B rs r es clock L σ X) (hn : σ 11 = none) (s8 : ∃ v, σ 8 = some v) (s10 : ∃ v, σ 10 = some v) (hX0 : X0.heap.size ≤ B) (hw : w.heap.size ≤ B) (hgm : gm < B) (hgr : ∀ k, (lkv L r.min).ownBlock = some k → k < gr)
    (hg : X.grownBy X' (lkv L r.min).ownBlock) (hu : X'.ownsRow B 61 3 u (atM rs r.min ++ [r]).length (rowsC (atM rs r.min ++ [r]))) (hb : u.ownBlock = (lkv L r.min).ownBlock ∨ u.ownBlock = some X.heap.size) :
    Gw w X0 gm gr B rs r es clock L (Vals9.upd σ 11 u) X' := by
  have h2 := h.late2 hn
  have ho := h.ow hn
  have hlt := fun k e => (ho.lt r.min k e).1
  refine ⟨⟨h.sn.1.grown hg h.sn.2 (fun k e => Nat.le_trans hw (hlt k e)), Nat.le_trans h.sn.2 hg.size⟩, h.kp.grown hg (fun k e => Nat.le_trans hX0 (hlt k e)), h.br.grown hg (fun e => by have := hgr gr e.symm; omega), Nat.le_trans h.sz hg.size, fun _ => ?_, fun e => (by rw [Vals9.upd_same] at e; cases e), fun u' hu' e => (by rw [Vals9.upd_same] at e; cases e), fun u' hu' => h.lk u' (by rwa [upd_ne (by decide)] at hu'), fun u' hu' => ?_, fun u' hu' => ?_, fun u' hu' => ?_, fun u' hu' => ?_, fun u' hu' => ?_⟩
  · have hgg := h.mp h2
    exact (hg.block gm (Array.getElem?_eq_some_iff.1 hgg).1 (fun e => by have := hlt gm e.symm; omega)).trans hgg
  · rw [Vals9.upd_same] at hu'
    obtain rfl := Option.some.inj hu'
    exact ho.grow hg hu hb
  · rw [upd_ne (by decide)]; exact s8
  · rw [upd_ne (by decide)]; exact s10
  · rw [upd_ne (by decide), h2] at hu'; cases hu'
  · rw [upd_ne (by decide), h2] at hu'; cases hu'
theorem Own.put {W : World} {V : Int → Value} {o o' : Obj} (h : Own W B rs V) (hg : W.heap[gm]? = some o) (hgm : gm < B) : Own (W.putObj gm o') B rs V := by
  have hgr : W.grownBy (W.putObj gm o') (some gm) := grownBy_putObj' W gm o'
  refine ⟨fun m => (h.1 m).kept hgr ?_, h.2⟩
  cases e : (V m).ownBlock with
  | none => exact .inl rfl
  | some k =>
    right
    have := (h.lt m k e).1
    intro e'; cases e'; omega
theorem Gw.turn {u : Value} (h : Gw w X0 gm gr B rs r es clock L σ X) (hn : σ 12 = none) (s11 : σ 11 = some u) (hw : w.heap.size ≤ gm) (hgm : gm < B) (hgr : gm ≠ gr) {es' : Array MapEntry} {clock' : Nat} (hL : kvL es' (upL r.min u L)) :
    Gw w X0 gm gr B rs r es clock L (Vals9.upd σ 12 undef) (X.putObj gm (.map es' clock')) := by
  have hgg := h.mp hn
  have hX : gm < X.heap.size := (Array.getElem?_eq_some_iff.1 hgg).1
  have hgrow : X.grownBy (X.putObj gm (.map es' clock')) (some gm) := grownBy_putObj' X gm _
  have hO := (h.ap u s11).put (o' := .map es' clock') hgg hgm
  refine ⟨⟨h.sn.1.grown hgrow h.sn.2 (fun k e => by cases e; exact hw), Nat.le_trans h.sn.2 hgrow.size⟩, h.kp.puts gm _ (Nat.le_refl _) (by omega), h.br.grown hgrow (fun e => hgr (by cases e; rfl)), Nat.le_trans h.sz hgrow.size, fun e => (by rw [Vals9.upd_same] at e; cases e), fun e => (by rw [upd_ne (by decide), s11] at e; cases e), fun u' hu' e => (by rw [upd_ne (by decide), s11] at e; cases e), fun u' hu' => h.lk u' (by rwa [upd_ne (by decide)] at hu'), fun u' hu' => ?_, fun u' hu' => ?_, fun u' hu' => ?_, fun u' _ => ?_, fun u' _ => ?_⟩
  · rw [upd_ne (by decide), s11] at hu'
    obtain rfl := Option.some.inj hu'
    exact hO
  · rw [upd_ne (by decide)]
    exact h.q u' (by rwa [upd_ne (by decide)] at hu')
  · rw [upd_ne (by decide)]
    exact h.q2 u' (by rwa [upd_ne (by decide)] at hu')
  · exact ⟨u, by rw [upd_ne (by decide)]; exact s11⟩
  · refine ⟨es', clock', upL r.min u L, World.putObj_heap_same hX, hL, ?_⟩
    rw [show lkv (upL r.min u L) = fun m => if m = r.min then u else lkv L m from by funext m; exact lkv_up L r.min m u]
    exact hO
end
theorem wp_append_read {W : World} {o : Oper} {a : Act} {K : Act → World → Prop} {Q' : Exit → Act → World → Prop} (s x : Operand) (ho : o.op = .call { callee := .builtin .append, args := #[s, x], argTypes := #[28, 28] })
    {B g : Nat} {v : Value} {l : List Rd} {r : Rd} (hs : a.eval s = v) (hx : a.eval x = .slice (some ⟨g, 0, none⟩) 1 1) (hown : W.ownsRow B 61 3 v l.length (rowsC l)) (hg : Blk W g 61 (rV r)) (hl : l.length ≤ 1000) (hB : B ≤ W.heap.size)
    (h : ∀ v' w', w'.ownsRow B 61 3 v' (l ++ [r]).length (rowsC (l ++ [r])) → W.grownBy w' v.ownBlock → (v'.ownBlock = v.ownBlock ∨ v'.ownBlock = some W.heap.size) → K (a.put o.dst v') w') : o.wp Try.prog a W K Q' := by
  obtain ⟨v', w', hr, h2, h3, h4⟩ := append_read hown hg hl hB o.type
  unfold Oper.wp execOp
  simp only [ho, resolve, invoke, builtin, Sem.run_bind, Sem.run_pure, Result.andThen_ok, List.map_toArray, List.map_cons, List.map_nil, hs, hx, hr]
  exact h v' w' h2 h3 h4
end Td
end Go.Proofs.Ytmofbnadfgejiaa
/- A drawn region of loads and stores alone, inside a fence: as Vals9. -/
namespace Go.Proofs.Ytmofbnadfgejiaa
open Go.RowKit
namespace Vals9
open Vals (putAll putAll_size putAll_out putAll_in waits acyc guarded lastly slot_inj getD_of ready_spec all_of_none)
set_option linter.unusedVariables false
def calm (o : Oper) : Bool := match o.op with
  | .load .. | .store .. => true
  | _ => false
variable {P : Program} {Q : Exit → Act → World → Prop} {ops : Array Oper} {F : Fence} {n : Nat}
theorem calm_wp {o : Oper} (hc : calm o = true) {a : Act} {w : World} {K : Act → World → Prop} (h : o.wp P a w K Q) : o.wpIn F n P a w K Q := by
  unfold calm at hc
  split at hc
  · rename_i t x ho
    refine ⟨fun f hf => by simp [Oper.about, ho] at hf, ?_⟩
    rw [Oper.semAt_eq _ _ _ (by intro c e; rw [ho] at e; cases e)]
    unfold Oper.wp at h
    have e : execOp a.eval o = (do pure (Next.value (← Instr.loadAt t (a.eval x)))) := by unfold execOp; simp only [ho]
    rw [e, Sem.run_bind] at h ⊢
    cases hr : (Instr.loadAt t (a.eval x)).run P w with
    | ok v w' => rw [hr] at h; simpa [Result.andThen, Oper.upon, Oper.uponIn] using h
    | halt hh w' =>
      rw [hr] at h
      simp only [Result.andThen] at h ⊢
      cases hh <;> first | exact h | exact h.elim
  · rename_i t x y ho
    refine ⟨fun f hf => by simp [Oper.about, ho] at hf, ?_⟩
    rw [Oper.semAt_eq _ _ _ (by intro c e; rw [ho] at e; cases e)]
    unfold Oper.wp at h
    have e : execOp a.eval o = (do Instr.storeAt t (a.eval x) (a.eval y); pure Next.skip) := by unfold execOp; simp only [ho]
    rw [e, Sem.run_bind] at h ⊢
    cases hr : (Instr.storeAt t (a.eval x) (a.eval y)).run P w with
    | ok v w' => rw [hr] at h; simpa [Result.andThen, Oper.upon, Oper.uponIn] using h
    | halt hh w' =>
      rw [hr] at h
      simp only [Result.andThen] at h ⊢
      cases hh <;> first | exact h | exact h.elim
  · cases hc
theorem calm_none {o : Oper} (hc : calm o = true) {a : Act} {w : World} (f : FuncId) (h : o.about P w a.eval = some f) : F.fn f := by
  unfold calm at hc
  split at hc
  · rename_i ho; simp [Oper.about, ho] at h
  · rename_i ho; simp [Oper.about, ho] at h
  · cases hc
theorem calm_any {md : Region.Mode} (hc : ∀ o ∈ ops, calm o = true) (hno : ¬ LetsOut Q) : ∀ (fuel : Nat) (listed : Array Bool) (a : Act) (w : World), wpAny P md ops Q fuel listed a w → wpAnyIn F n P md ops Q fuel listed a w := by
  intro fuel
  induction fuel with
  | zero => exact fun _ _ _ h => h
  | succ fuel ih =>
    intro listed a w h
    refine ⟨h.1, fun i hi => ?_⟩
    have h2 := h.2 i hi
    unfold wpOp at h2
    unfold wpOpIn
    cases ho : ops[i]? with
    | none => rw [ho] at h2; exact ih _ _ _ h2
    | some o =>
      rw [ho] at h2
      have hco := hc o (Array.mem_of_getElem? ho)
      simp only at h2 ⊢
      split
      · rename_i hw
        rw [if_pos hw] at h2
        rcases h2 with h2 | ⟨_, h2⟩
        · exact Oper.wpIn_mono (fun a w h => ih _ _ _ h) (calm_wp hco h2)
        · exact absurd h2 hno
      · rename_i hw
        rw [if_neg hw] at h2
        exact ⟨fun f hf => calm_none hco f hf, ih _ _ _ h2⟩
theorem regionIn {id : Nat} {w : World} {a0 : Act} (J : Sig → World → Prop) (ds : List (Option Tmp)) (xs : List Exp) (hm : P.follows .mixedOrders = true) (hcalm : ops.toList.all calm = true) (hno : ¬ LetsOut Q) (hds : ops.toList.map (·.dst) = ds) (hA : acyc ops = true) (hG : guarded ops = true) (hN : decide (ds.filterMap fun x => x).Nodup = true) (hL : (ds.all fun o => o.all fun d => decide (d < a0.tmps.size)) = true) (hJ : J (fun _ => none) w.drew)
    (hst : Steps P Q J ds xs a0 0 ops.toList xs) (hend : ∀ w σ, J σ w → All σ 0 xs fun us => Q .normal { a0 with tmps := putAll ds us a0.tmps } w) : (Code.region id ops true).wpIn F n P Q a0 w := by
  have hL' : ∀ d, some d ∈ ds → d < a0.tmps.size := fun d hd => by
    have := List.all_eq_true.1 hL (some d) hd
    simpa using this
  refine wpIn_region_any hm (calm_any (fun o ho => List.all_eq_true.1 hcalm o (by simpa using ho)) hno _ _ _ _ (go hds hA hG (show (ds.filterMap _root_.id).Nodup from of_decide_eq_true hN) hL' hst hend ops.size _ (fun _ => none) a0 w.drew ⟨by simp, rfl, rfl, ?_, ?_, ?_, ?_⟩ hJ ?_))
  · intro i d v h
    rw [Array.getElem?_replicate] at h
    split at h <;> cases h
  · intro i h
    rw [Array.getElem?_replicate] at h
    split at h <;> cases h
  · intro i h; rfl
  · intro t _; rfl
  · have := List.countP_le_length (p := (!·)) (l := (Array.replicate ops.size false).toList)
    simpa using this
end Vals9
end Go.Proofs.Ytmofbnadfgejiaa
/- Watching a space: the map of what was read, the levels at a minute. -/
namespace Go.Proofs.Ytmofbnadfgejiaa
open Go.RowKit
namespace Td
set_option linter.unusedSimpArgs false
set_option linter.unusedVariables false
attribute [local go_sem] Oper.semAt_some
theorem results_cells3 {P : Program} {fn : Func} {p q r : Tmp} {t1 t2 t3 : TypeId} (h : fn.results = #[.cell p t1, .cell q t2, .cell r t3]) (tmps : Array Value) (w : World) (a1 a2 a3 : Addr) (v1 v2 v3 : Value)
    (hp : tmps.getD p undef = .pointer (some a1)) (hq : tmps.getD q undef = .pointer (some a2)) (hr : tmps.getD r undef = .pointer (some a3))
    (h1 : (loadVar t1 a1).run P w = .ok v1 w) (h2 : (loadVar t2 a2).run P w = .ok v2 w) (h3 : (loadVar t3 a3).run P w = .ok v3 w) :
    (results fn tmps).run P w = .ok (.tuple #[v1, v2, v3]) w := by
  have hp' : tmps[p]?.getD undef = .pointer (some a1) := by simpa using hp
  have hq' : tmps[q]?.getD undef = .pointer (some a2) := by simpa using hq
  have hr' : tmps[r]?.getD undef = .pointer (some a3) := by simpa using hr
  simp [results, h, hp', hq', hr', asAddr, h1, h2, h3]
theorem load29 {w : World} {g : Nat} {ty : TypeId} {e : Int} (h : Blk w g ty #[.int .i64 e]) : (loadVar 29 ⟨g, 0, none⟩).run Try.prog w = .ok (.int .i64 e) w := by
  have c0 := h.cell 0
  simp only [List.getElem?_toArray, List.getElem?_cons_zero] at c0
  simp [loadVar, isAgg, run_underlying Try.underlying29, Sem.run_bind, go_sem, c0]
/-- a space without anything. -/
abbrev w0V : Array Value := #[.int .i64 0, .int .i64 0, .int .i64 0, .int .i64 0, .int .i64 0, .int .i64 0, .int .i64 0, .slice none 0 0, .slice none 0 0, .map none]
theorem watch_results {fn : Func} (hfn : fn.results = #[.cell 6 93, .cell 7 95, .cell 8 29]) (w : World) (tmps : Array Value) (b : Nat) (s l : Array Value) (e : Int) (h6 : tmps.getD 6 undef = .pointer (some ⟨b, 0, none⟩)) (h7 : tmps.getD 7 undef = .pointer (some ⟨b + 1, 0, none⟩)) (h8 : tmps.getD 8 undef = .pointer (some ⟨b + 1 + 1, 0, none⟩))
    (hs : Blk w b 93 s) (hl : Blk w (b + 1) 95 l) (he : Blk w (b + 1 + 1) 29 #[.int .i64 e]) (z1 : s.size = 10) (z2 : l.size = 3) :
    (results fn tmps).run Try.prog w = .ok (.tuple #[.agg s, .agg l, .int .i64 e]) w :=
  results_cells3 hfn _ _ _ _ _ _ _ _ h6 h7 h8 (run_loadVar_row w b _ _ s (0, 0) _ hs Try.underlying93 rfl (by rw [z1]; kernel_rfl)) (run_loadVar_row w (b + 1) _ _ l (0, 0) _ hl Try.underlying95 rfl (by rw [z2]; kernel_rfl)) (load29 he)
end Td
end Go.Proofs.Ytmofbnadfgejiaa
/- Watching a space. -/
namespace Go.Proofs.Ytmofbnadfgejiaa
open Go.RowKit
namespace Td
set_option linter.unusedSimpArgs false
set_option linter.unusedVariables false
attribute [local go_sem] Oper.semAt_some
theorem kno_snoc (l : List Rd) (mi : Int) (k : Nat) (hk : k < l.length) : kno (l.take (k + 1)) mi = if l[k].min ≤ mi then kno (l.take k) mi ++ [l[k]] else kno (l.take k) mi := by
  unfold kno
  rw [List.take_add_one, List.getElem?_eq_getElem hk, List.filter_append]
  by_cases h : l[k].min ≤ mi <;> simp [h]
theorem Own.kp {a b c : Nat} {W W' : World} {B : Nat} {rs : List Rd} {V : Int → Value} (h : Own W B rs V) (k : Kp a b c W W') (hb : b ≤ B) : Own W' B rs V := by
  refine ⟨fun m => ⟨(h.1 m).1, ?_⟩, h.2⟩
  rcases (h.1 m).2 with hx | ⟨g, cap, cur, h1, h2, h3, h4⟩
  · exact .inl hx
  · exact .inr ⟨g, cap, cur, h1, h2, k.kept g _ h3 (by omega) (.inl rfl), h4⟩
theorem MI.kp {a b c : Nat} {W W' : World} {B gm : Nat} {rs : List Rd} (h : MI W B gm rs) (k : Kp a b c W W') (hb : b ≤ B) (hg : ¬ (a ≤ gm ∧ gm < b)) (hc : gm < c) : MI W' B gm rs := by
  obtain ⟨es, clock, L, h1, h2, h3⟩ := h
  exact ⟨es, clock, L, k.kept gm _ h1 hg (.inr hc), h2, h3.kp k hb⟩
theorem agr_none (s : Spc) (l : List Rd) : agr s l none = none := by
  unfold agr
  induction l with
  | nil => rfl
  | cons r l ih => simpa [List.foldl_cons, cut, com] using ih
theorem lv_none {s : Spc} {l : List Rd} {m : Int} {o : Option (Int × Int)} {k n : Nat} (h : lv s l m o k = none) (hn : k ≤ n) : lv s l m o n = none := by
  induction n with
  | zero => rw [show k = 0 by omega] at h; exact h
  | succ n ih =>
    by_cases e : k = n + 1
    · rw [← e]; exact h
    · rw [lv, ih (by omega)]
      exact agr_none _ _
/-- no levels. -/
abbrev n0V : Array Value := #[.int .i64 0, .int .i64 0, .bool false]
/-- what watching answers. -/
def watV (s : Spc) (m : Sl) (M : Option Nat) (E : Int) (o : Option (Int × Int)) : Value := if E = 0 then .tuple #[.agg (wV s m M), .agg (lV o), .int .i64 0] else .tuple #[.agg w0V, .agg n0V, .int .i64 E]
theorem MI.keep {W W' : World} {B gm : Nat} {rs : List Rd} (h : MI W B gm rs) (hb : Below W.heap.size W W') : MI W' B gm rs := by
  obtain ⟨es, clock, L, h1, h2, h3⟩ := h
  exact ⟨es, clock, L, (hb.block gm (Array.getElem?_eq_some_iff.1 h1).1).trans h1, h2, h3.keep hb⟩
theorem Kp.weak {a b c d : Nat} {W X : World} (h : Kp a b c W X) (hd : d ≤ c) : Kp a b d W X :=
  ⟨h.os, h.tape, h.output, h.size, fun k o hk hn hc => h.kept k o hk hn (hc.imp id (fun h => Nat.lt_of_lt_of_le h hd))⟩
/-- while the three results are stored. -/
structure Sx (w W : World) (a b c g h : Nat) (s : Spc) (m : Sl) (M : Option Nat) (y : Array Value) (σ : Vals9.Sig) (X : World) : Prop where
  kp : Kp a b c W X
  sn : Below w.heap.size w X
  sp : Blk X g 93 (wV s m M)
  le : Blk X h 95 y
  ra : ∃ o : Array Value, o.size = 10 ∧ Blk X a 93 o
  rb : ∃ o : Array Value, o.size = 3 ∧ Blk X (a + 1) 95 o
  rc : Blk X (a + 1 + 1) 29 #[.int .i64 0]
  fa : ∀ u, σ 2 = some u → Blk X a 93 (wV s m M)
  fb : ∀ u, σ 3 = some u → Blk X (a + 1) 95 y
section
variable {w W X : World} {a b c g h : Nat} {s : Spc} {m : Sl} {M : Option Nat} {y : Array Value} {σ : Vals9.Sig}
theorem Sx.sa (H : Sx w W a b c g h s m M y σ X) (hb : a + 1 + 1 < b) (hw : w.heap.size ≤ a) (hg : a + 1 + 1 < g) (hh : a + 1 + 1 < h) : Sx w W a b c g h s m M y (Vals9.upd σ 2 undef) (X.setRow a (wV s m M)) := by
  obtain ⟨o, _, ho⟩ := H.ra
  obtain ⟨q, hq, hq2⟩ := H.rb
  exact ⟨H.kp.row _ _ (Nat.le_refl _) (by omega), below_setRow H.sn hw _, H.sp.rowFar (by omega) _, H.le.rowFar (by omega) _, ⟨_, rfl, ho.row _⟩, ⟨q, hq, hq2.rowFar (by omega) _⟩, H.rc.rowFar (by omega) _, fun _ _ => ho.row _, fun u hu => (H.fb u (by rwa [upd_ne (by decide)] at hu)).rowFar (by omega) _⟩
theorem Sx.sb (H : Sx w W a b c g h s m M y σ X) (hy : y.size = 3) (hb : a + 1 + 1 < b) (hw : w.heap.size ≤ a) (hg : a + 1 + 1 < g) (hh : a + 1 + 1 < h) : Sx w W a b c g h s m M y (Vals9.upd σ 3 undef) (X.setRow (a + 1) y) := by
  obtain ⟨o, ho1, ho⟩ := H.ra
  obtain ⟨q, hq, hq2⟩ := H.rb
  exact ⟨H.kp.row _ _ (by omega) (by omega), below_setRow H.sn (by omega) _, H.sp.rowFar (by omega) _, H.le.rowFar (by omega) _, ⟨o, ho1, ho.rowFar (by omega) _⟩, ⟨y, hy, hq2.row _⟩, H.rc.rowFar (by omega) _, fun u hu => (H.fa u (by rwa [upd_ne (by decide)] at hu)).rowFar (by omega) _, fun _ _ => hq2.row _⟩
theorem Sx.sc (H : Sx w W a b c g h s m M y σ X) (hb : a + 1 + 1 < b) (hw : w.heap.size ≤ a) (hg : a + 1 + 1 < g) (hh : a + 1 + 1 < h) : Sx w W a b c g h s m M y (Vals9.upd σ 4 undef) (X.setCell ⟨a + 1 + 1, 0, none⟩ (.int .i64 0)) := by
  obtain ⟨o, ho1, ho⟩ := H.ra
  obtain ⟨q, hq, hq2⟩ := H.rb
  exact ⟨H.kp.setCell _ _ _ (by omega) (by omega), H.sn.setCell (p := ⟨a + 1 + 1, 0, none⟩) (by simp; omega) _, H.sp.far (by omega) _ _, H.le.far (by omega) _ _, ⟨o, ho1, ho.far (by omega) _ _⟩, ⟨q, hq, hq2.far (by omega) _ _⟩, by simpa using H.rc.set 0 (.int .i64 0), fun u hu => (H.fa u (by rwa [upd_ne (by decide)] at hu)).far (by omega) _ _, fun u hu => (H.fb u (by rwa [upd_ne (by decide)] at hu)).far (by omega) _ _⟩
end
set_option maxRecDepth 100000 in
set_option maxHeartbeats 4000000 in
theorem watch_c (s : Spc) (m : Sl) (A : Option Addr) (l : List Rd) (c : Nat) (mi : Int) (w : World) (hsa : SAt w m s) (hc : l.length ≤ c) (hcM : c ≤ 9223372036854775807) (hp : RdAt w A l) :
    Calls Try.prog 48 #[.agg (sV s m), .slice A l.length c, .int .i64 mi] w fun e w' =>
      (∃ M, e = .returned (watV s m M (watE s l mi) (now s l mi)) ∧ (watE s l mi = 0 → Mp w' M (kno l mi))) ∧ Below w.heap.size w w' := by
  obtain ⟨E, hE⟩ : ∃ E, watE s l mi = E := ⟨_, rfl⟩
  rw [hE]
  unfold watE at hE
  have hwatNo : ∀ (E : Int) (o : Option (Int × Int)), E ≠ 0 → watV s m none E o = .tuple #[.agg w0V, .agg n0V, .int .i64 E] := fun E o h => by simp [watV, h]
  have HWN := Lib.hid hwatNo
  clear hwatNo
  refine (callsIn_wide (n := 6)).1 ?_
  refine callsIn_of_wp_marks Try.func48 rfl trivial ?_ rfl
  simp only [Try.ntmps48, List.size_toArray, List.length_cons, List.length_nil, Nat.reduceAdd, Nat.reduceSub, Array.replicate_succ, Array.replicate_zero, List.push_toArray, List.append_toArray, List.nil_append, List.cons_append]
  refine wpIn_wide.2 ?_
  obtain ⟨w1, hw1⟩ : ∃ w1, ((((w.alloc (.cells (sV s m) 27)).alloc (.cells #[.int .i64 mi] 3)).alloc (.cells w0V 93)).alloc (.cells n0V 95)).alloc (.cells #[.int .i64 0] 29) = w1 := ⟨_, rfl⟩
  have hsn1 : Since w w1 := by rw [← hw1]; exact (((((Since.refl w).alloc _).alloc _).alloc _).alloc _).alloc _
  have bS1 : Blk w1 w.heap.size 27 (sV s m) := by rw [← hw1]; exact ((((Blk.new w _ _).alloc _).alloc _).alloc _).alloc _
  have bM1 : Blk w1 (w.heap.size + 1) 3 #[.int .i64 mi] := by rw [← hw1]; exact (((Blk.new1 w _ _ _).alloc _).alloc _).alloc _
  have bA1 : Blk w1 (w.heap.size + 1 + 1) 93 w0V := by rw [← hw1]; exact ((Blk.new2 w _ _ _ _).alloc _).alloc _
  have bB1 : Blk w1 (w.heap.size + 1 + 1 + 1) 95 n0V := by rw [← hw1]; exact (Blk.new3 w _ _ _ _ _).alloc _
  have bC1 : Blk w1 (w.heap.size + 1 + 1 + 1 + 1) 29 #[.int .i64 0] := by
    rw [← hw1]
    have := Blk.new ((((w.alloc (.cells (sV s m) 27)).alloc (.cells #[.int .i64 mi] 3)).alloc (.cells w0V 93)).alloc (.cells n0V 95)) 29 #[.int .i64 0]
    simp only [World.size_alloc] at this
    exact this
  go_upto_region 1 with fail
  dsimp only [w0V, n0V, sV] at hw1 ⊢
  try rw [hw1]
  clear hw1
  obtain ⟨c0, c1, c2, c3, c4, c5, c6, c7, c8⟩ := bS1.space
  go_wp2_with fail
  refine (check_c s m _ (hsa.keep hsn1.1)).mono ?_
  rintro e w2 ⟨rfl, hb2⟩
  have hsn2 := hsn1.keep hb2
  have HS2 := Lib.hid (bS1.keep hb2)
  have HM2 := Lib.hid (bM1.keep hb2)
  have HA2 := Lib.hid (bA1.keep hb2)
  have HB2 := Lib.hid (bB1.keep hb2)
  have HC2 := Lib.hid (bC1.keep hb2)
  clear c0 c1 c2 c3 c4 c5 c6 c7 c8 bS1 bM1 bA1 bB1 bC1 hsn1 hb2
  rcases Bool.eq_false_or_eq_true ((chk s).2.2 != 0) with h1 | h1
  · rw [if_pos h1] at hE
    have h1' : (chk s).2.2 ≠ 0 := by simpa using h1
    have HE : Hid ((chk s).2.2 = E ∧ E ≠ 0) := ⟨hE, by rw [← hE]; exact h1'⟩
    clear h1' hE
    have HA9 := Lib.hid (HA2.out)
    have HB9 := Lib.hid (HB2.out.rowFar (g' := w.heap.size + 1 + 1) (by omega) w0V)
    have HC9 := Lib.hid ((HC2.out.rowFar (g' := w.heap.size + 1 + 1) (by omega) w0V).rowFar (g' := w.heap.size + 1 + 1 + 1) (by omega) n0V)
    have HR9 := Lib.hid ((HC9.out.set 0 (.int .i64 ((chk s).2.2))))
    simp only [List.setIfInBounds_toArray, List.set_cons_zero] at HR9
    have hsn9 : Hid (Since w (((w2.setRow (w.heap.size + 1 + 1) w0V).setRow (w.heap.size + 1 + 1 + 1) n0V).setCell ⟨w.heap.size + 1 + 1 + 1 + 1, 0, none⟩ (.int .i64 ((chk s).2.2)))) := ⟨((hsn2.row (by omega) _).row (by omega) _).1.setCell (p := ⟨w.heap.size + 1 + 1 + 1 + 1, 0, none⟩) (by simp; omega) _, by simpa using ((hsn2.row (g := w.heap.size + 1 + 1) (by omega) w0V).row (g := w.heap.size + 1 + 1 + 1) (by omega) n0V).2⟩
    have k9 := HC9.out.cell 0
    have f9 := HC9.out.frozen 0
    simp only [List.getElem?_toArray, List.getElem?_cons_zero] at k9
    go_wp2_with first | (refine wpList_store_row rfl 93 _ _ rfl (w.heap.size + 1 + 1) _ rfl rfl 93 _ HA9.out (by kernel_rfl) rfl (by simp [Value.oneCell']) ?_) | (refine wpList_store_row rfl 95 _ _ rfl (w.heap.size + 1 + 1 + 1) _ rfl rfl 95 _ HB9.out (by kernel_rfl) rfl (by simp [Value.oneCell']) ?_)
    refine ⟨_, watch_results Try.results48 _ _ (w.heap.size + 1 + 1) w0V n0V ((chk s).2.2) rfl rfl rfl (((HA9.out.row w0V).rowFar (by omega) _).far (by omega) _ _) ((HB9.out.row n0V).far (by omega) _ _) HR9.out rfl rfl, ⟨none, ?_, fun h => absurd h HE.out.2⟩, hsn9.out.1⟩
    rw [HWN.out _ _ HE.out.2, HE.out.1]
  · rw [if_neg (by rw [h1]; decide)] at hE
    have h1' : (chk s).2.2 = 0 := by simpa using h1
    have hs := chk_ok h1'
    clear h1 
    rw [h1']
    obtain ⟨c0, c1, c2, c3, c4, c5, c6, c7, c8⟩ := HS2.out.space
    go_wp2_with fail
    refine (readingsFault_c s m A l c _ (by have := hs.t3; omega) hc hcM (hp.keep hsn2.1)).mono ?_
    rintro e w3 ⟨rfl, hb3⟩
    have hsn3 := hsn2.keep hb3
    have HS3 := Lib.hid (HS2.out.keep hb3)
    have HM3 := Lib.hid (HM2.out.keep hb3)
    have HA3 := Lib.hid (HA2.out.keep hb3)
    have HB3 := Lib.hid (HB2.out.keep hb3)
    have HC3 := Lib.hid (HC2.out.keep hb3)
    clear c0 c1 c2 c3 c4 c5 c6 c7 c8 HS2 HM2 HA2 HB2 HC2 hsn2 hb3 h1'
    rcases Bool.eq_false_or_eq_true (rdsE s.tools.length l != 0) with h1 | h1
    · rw [if_pos h1] at hE
      have h1' : rdsE s.tools.length l ≠ 0 := by simpa using h1
      have HE : Hid (rdsE s.tools.length l = E ∧ E ≠ 0) := ⟨hE, by rw [← hE]; exact h1'⟩
      clear h1' hE
      have HA9 := Lib.hid (HA3.out)
      have HB9 := Lib.hid (HB3.out.rowFar (g' := w.heap.size + 1 + 1) (by omega) w0V)
      have HC9 := Lib.hid ((HC3.out.rowFar (g' := w.heap.size + 1 + 1) (by omega) w0V).rowFar (g' := w.heap.size + 1 + 1 + 1) (by omega) n0V)
      have HR9 := Lib.hid ((HC9.out.set 0 (.int .i64 (rdsE s.tools.length l))))
      simp only [List.setIfInBounds_toArray, List.set_cons_zero] at HR9
      have hsn9 : Hid (Since w (((w3.setRow (w.heap.size + 1 + 1) w0V).setRow (w.heap.size + 1 + 1 + 1) n0V).setCell ⟨w.heap.size + 1 + 1 + 1 + 1, 0, none⟩ (.int .i64 (rdsE s.tools.length l)))) := ⟨((hsn3.row (by omega) _).row (by omega) _).1.setCell (p := ⟨w.heap.size + 1 + 1 + 1 + 1, 0, none⟩) (by simp; omega) _, by simpa using ((hsn3.row (g := w.heap.size + 1 + 1) (by omega) w0V).row (g := w.heap.size + 1 + 1 + 1) (by omega) n0V).2⟩
      have k9 := HC9.out.cell 0
      have f9 := HC9.out.frozen 0
      simp only [List.getElem?_toArray, List.getElem?_cons_zero] at k9
      go_wp2_with first | (refine wpList_store_row rfl 93 _ _ rfl (w.heap.size + 1 + 1) _ rfl rfl 93 _ HA9.out (by kernel_rfl) rfl (by simp [Value.oneCell']) ?_) | (refine wpList_store_row rfl 95 _ _ rfl (w.heap.size + 1 + 1 + 1) _ rfl rfl 95 _ HB9.out (by kernel_rfl) rfl (by simp [Value.oneCell']) ?_)
      refine ⟨_, watch_results Try.results48 _ _ (w.heap.size + 1 + 1) w0V n0V (rdsE s.tools.length l) rfl rfl rfl (((HA9.out.row w0V).rowFar (by omega) _).far (by omega) _ _) ((HB9.out.row n0V).far (by omega) _ _) HR9.out rfl rfl, ⟨none, ?_, fun h => absurd h HE.out.2⟩, hsn9.out.1⟩
      rw [HWN.out _ _ HE.out.2, HE.out.1]
    · rw [if_neg (by rw [h1]; decide)] at hE
      have h1' : rdsE s.tools.length l = 0 := by simpa using h1
      obtain ⟨hl12, hro⟩ := rdsE_ok.1 h1'
      clear h1
      rw [h1']
      have m0 := HM3.out.cell 0
      simp only [List.getElem?_toArray, List.getElem?_cons_zero] at m0
      go_wp2_with fail
      refine (within_c _ _ _ _ _ _ (Blk.new _ _ _)).mono ?_
      rintro e w4 ⟨rfl, hb4⟩
      have hsn4 := (hsn3.alloc _).keep hb4
      have HS4 := Lib.hid ((HS3.out.alloc _).keep hb4)
      have HM4 := Lib.hid ((HM3.out.alloc _).keep hb4)
      have HA4 := Lib.hid ((HA3.out.alloc _).keep hb4)
      have HB4 := Lib.hid ((HB3.out.alloc _).keep hb4)
      have HC4 := Lib.hid ((HC3.out.alloc _).keep hb4)
      clear m0 HS3 HM3 HA3 HB3 HC3 hsn3 hb4 h1'
      rcases Bool.eq_false_or_eq_true (wi 0 60 mi) with h1 | h1
      · rw [if_pos h1] at hE
        rw [h1]
        obtain ⟨hmi0, hmi1⟩ := wi_iff.1 h1
        clear h1
        obtain ⟨c0, c1, c2, c3, c4, c5, c6, c7, c8⟩ := HS4.out.space
        have hmm := @run_makeMap Try.prog
        go_wp2_with fail
        obtain ⟨W5, hW5⟩ : ∃ W5, (w4.alloc (.map #[] 0)).alloc (.cells (wV s m (some w4.heap.size)) 93) = W5 := ⟨_, rfl⟩
        have hsn5 : Since w W5 := by rw [← hW5]; exact (hsn4.alloc _).alloc _
        have HM5 : Hid (Blk W5 (w.heap.size + 1) 3 #[.int .i64 mi]) := by rw [← hW5]; exact (HM4.out.alloc _).alloc _
        have HA5 : Hid (Blk W5 (w.heap.size + 1 + 1) 93 w0V) := by rw [← hW5]; exact (HA4.out.alloc _).alloc _
        have HB5 : Hid (Blk W5 (w.heap.size + 1 + 1 + 1) 95 n0V) := by rw [← hW5]; exact (HB4.out.alloc _).alloc _
        have HC5 : Hid (Blk W5 (w.heap.size + 1 + 1 + 1 + 1) 29 #[.int .i64 0]) := by rw [← hW5]; exact (HC4.out.alloc _).alloc _
        have HP5 : Hid (Blk W5 (w4.heap.size + 1) 93 (wV s m (some w4.heap.size))) := by rw [← hW5]; exact Blk.new1 _ _ _ _
        have hI5 : MI W5 (w4.heap.size + 1 + 1) w4.heap.size [] := by
          refine ⟨#[], 0, [], by rw [← hW5]; exact (Below.heap_alloc _ _ _ (by simp)).trans (World.alloc_heap_new w4 _), rfl, fun m => ?_, fun m m' _ => .inl rfl⟩
          exact ⟨rfl, .inl ⟨rfl, rfl⟩⟩
        have hz4 := hsn4.2
        have hz5 : W5.heap.size = w4.heap.size + 1 + 1 := by rw [← hW5]; simp
        have hzC := HC4.out.lt
        dsimp only [wV] at hW5
        rw [hW5]
        clear hW5 c0 c1 c2 c3 c4 c5 c6 c7 c8 hmm HS4 HM4 HA4 HB4 HC4
        go_loopw [15, 48] (fun _ i wr => ∃ k : Nat, k ≤ l.length ∧ i = .int .i64 k ∧ Since w wr ∧ Hid (MI wr (w4.heap.size + 1 + 1) w4.heap.size (kno (l.take k) mi)) ∧ Hid (Kp w4.heap.size (w4.heap.size + 1) W5.heap.size W5 wr)) (fun _ i _ => l.length - (intOf i).toNat)
        case atStart => exact ⟨0, Nat.zero_le _, rfl, hsn5, Lib.hid (by simpa [kno] using hI5), Kp.refl _ _ _ _⟩
        case round =>
          obtain ⟨k, hk, rfl, hsn, HI, HK⟩ := hrel
          by_cases hlt : k < l.length
          · obtain ⟨ad, hA, c0, c1, c2⟩ := hp.get hlt
            subst hA
            have k0 := keep_cell hsn.1 c0
            have k1 := keep_cell hsn.1 c1
            have k2 := keep_cell hsn.1 c2
            obtain ⟨X0, hX0⟩ : ∃ X0, wr.alloc (.cells (rV l[k]) 61) = X0 := ⟨_, rfl⟩
            have hz6 := HK.out.size
            have hM6 := HM5.out.kp HK.out (by omega)
            have m0 := (hM6.alloc (.cells (rV l[k]) 61)).cell 0
            simp only [List.getElem?_toArray, List.getElem?_cons_zero] at m0
            have HR0 : Hid (Blk X0 wr.heap.size 61 (rV l[k])) := by rw [← hX0]; exact Blk.new _ _ _
            have hbX : Below wr.heap.size wr X0 := by rw [← hX0]; exact (Below.refl _ _).alloc (Nat.le_refl _) _
            have hsn7 := hsn.keep hbX
            have HK7 := Lib.hid (HK.out.then hbX)
            have HP7 := Lib.hid (HP5.out.kp HK7.out (by omega))
            have hz7 : X0.heap.size = wr.heap.size + 1 := by rw [← hX0]; simp
            obtain ⟨es, clock, L, hg, hL, hO⟩ := HI.out
            have HL := Lib.hid hL
            have hg7 := (hbX.block _ (Array.getElem?_eq_some_iff.1 hg).1).trans hg
            have hO7 := hO.keep hbX
            have HO7 := Lib.hid hO7
            have HG7 := Lib.hid hg7
            have HS := Lib.hid (kno_snoc l mi k hlt)
            have hlen : (kno (l.take k) mi).length ≤ 12 := Nat.le_trans (List.length_filter_le _ _) (by rw [List.length_take]; omega)
            have HO := Lib.hid hO
            clear c0 c1 c2 hL hg hO hg7 hO7 hM6 HI
            by_cases hle : l[k].min ≤ mi
            · rw [if_pos hle] at HS
              dsimp only [rV] at hX0 m0
              have HX0 := Lib.hid hX0
              clear hX0
              go_wp2_with fail
              rw [HX0.out]
              clear HX0 m0 k0 k1 k2
              refine Vals9.region (Gw w W5 w4.heap.size wr.heap.size (w4.heap.size + 1 + 1) (kno (l.take k) mi) l[k] es clock L) [some 56, some 57, some 58, some 59, some 60, some 61, some 62, some 63, some 64, some 65, some 66, some 67, none] [.is (.pointer (some ⟨w4.heap.size + 1, 9, none⟩)), .is (.map (some w4.heap.size)), .is (.pointer (some ⟨wr.heap.size, 0, none⟩)), .is (.int .i64 l[k].min), .is (.pointer (some ⟨w4.heap.size + 1, 9, none⟩)), .is (.map (some w4.heap.size)), .is (.pointer (some ⟨wr.heap.size, 0, none⟩)), .is (.int .i64 l[k].min), .any, .is (.agg (rV l[k])), .any, .any, .any] (by kernel_rfl) (by kernel_rfl) (by kernel_rfl) (by kernel_rfl) (by kernel_rfl) (by kernel_rfl) (Gw.start hsn7 HK7.out HR0.out (by omega) HG7.out HO7.out) ?_ ?_
              · refine Vals9.Steps.run (by kernel_rfl) ?_ ?_
                · intro a W σ hJ pre K hK
                  have e13 : a.tmps.getD 13 undef = .pointer (some ⟨w4.heap.size + 1, 0, none⟩) := pre.2.2 13 _ (by kernel_rfl) rfl
                  clear pre
                  simp only [Array.getD_eq_getD_getElem?] at e13
                  go_simp
                  exact hK _ hJ
                refine Vals9.Steps.run (by kernel_rfl) ?_ ?_
                · intro a W σ hJ pre K hK
                  have e56 : a.tmps.getD 56 undef = .pointer (some ⟨w4.heap.size + 1, 9, none⟩) := pre.1 0 56 _ (by kernel_rfl) rfl rfl
                  clear pre
                  simp only [Array.getD_eq_getD_getElem?] at e56
                  have hS9 := hJ
                  have l1 := HP5.out.kp hJ.kp (by omega)
                  obtain ⟨d0, d1, d2, d3, d4, d5, d6, d7, d8, d9⟩ := l1.watch
                  have c0 := hJ.br.cell 0
                  have c1 := hJ.br.cell 1
                  have c2 := hJ.br.cell 2
                  simp only [List.getElem?_toArray, List.getElem?_cons_zero, List.getElem?_cons_succ] at c0 c1 c2
                  go_simp
                  exact hK _ hJ
                refine Vals9.Steps.run (by kernel_rfl) ?_ ?_
                · intro a W σ hJ pre K hK
                  have e15 : a.tmps.getD 15 undef = .pointer (some ⟨wr.heap.size, 0, none⟩) := pre.2.2 15 _ (by kernel_rfl) rfl
                  clear pre
                  simp only [Array.getD_eq_getD_getElem?] at e15
                  go_simp
                  exact hK _ hJ
                refine Vals9.Steps.run (by kernel_rfl) ?_ ?_
                · intro a W σ hJ pre K hK
                  have e58 : a.tmps.getD 58 undef = .pointer (some ⟨wr.heap.size, 0, none⟩) := pre.1 2 58 _ (by kernel_rfl) rfl rfl
                  clear pre
                  simp only [Array.getD_eq_getD_getElem?] at e58
                  have hS9 := hJ
                  have l1 := HP5.out.kp hJ.kp (by omega)
                  obtain ⟨d0, d1, d2, d3, d4, d5, d6, d7, d8, d9⟩ := l1.watch
                  have c0 := hJ.br.cell 0
                  have c1 := hJ.br.cell 1
                  have c2 := hJ.br.cell 2
                  simp only [List.getElem?_toArray, List.getElem?_cons_zero, List.getElem?_cons_succ] at c0 c1 c2
                  go_simp
                  exact hK _ hJ
                refine Vals9.Steps.run (by kernel_rfl) ?_ ?_
                · intro a W σ hJ pre K hK
                  have e13 : a.tmps.getD 13 undef = .pointer (some ⟨w4.heap.size + 1, 0, none⟩) := pre.2.2 13 _ (by kernel_rfl) rfl
                  clear pre
                  simp only [Array.getD_eq_getD_getElem?] at e13
                  go_simp
                  exact hK _ hJ
                refine Vals9.Steps.run (by kernel_rfl) ?_ ?_
                · intro a W σ hJ pre K hK
                  have e60 : a.tmps.getD 60 undef = .pointer (some ⟨w4.heap.size + 1, 9, none⟩) := pre.1 4 60 _ (by kernel_rfl) rfl rfl
                  clear pre
                  simp only [Array.getD_eq_getD_getElem?] at e60
                  have hS9 := hJ
                  have l1 := HP5.out.kp hJ.kp (by omega)
                  obtain ⟨d0, d1, d2, d3, d4, d5, d6, d7, d8, d9⟩ := l1.watch
                  have c0 := hJ.br.cell 0
                  have c1 := hJ.br.cell 1
                  have c2 := hJ.br.cell 2
                  simp only [List.getElem?_toArray, List.getElem?_cons_zero, List.getElem?_cons_succ] at c0 c1 c2
                  go_simp
                  exact hK _ hJ
                refine Vals9.Steps.run (by kernel_rfl) ?_ ?_
                · intro a W σ hJ pre K hK
                  have e15 : a.tmps.getD 15 undef = .pointer (some ⟨wr.heap.size, 0, none⟩) := pre.2.2 15 _ (by kernel_rfl) rfl
                  clear pre
                  simp only [Array.getD_eq_getD_getElem?] at e15
                  go_simp
                  exact hK _ hJ
                refine Vals9.Steps.run (by kernel_rfl) ?_ ?_
                · intro a W σ hJ pre K hK
                  have e62 : a.tmps.getD 62 undef = .pointer (some ⟨wr.heap.size, 0, none⟩) := pre.1 6 62 _ (by kernel_rfl) rfl rfl
                  clear pre
                  simp only [Array.getD_eq_getD_getElem?] at e62
                  have hS9 := hJ
                  have l1 := HP5.out.kp hJ.kp (by omega)
                  obtain ⟨d0, d1, d2, d3, d4, d5, d6, d7, d8, d9⟩ := l1.watch
                  have c0 := hJ.br.cell 0
                  have c1 := hJ.br.cell 1
                  have c2 := hJ.br.cell 2
                  simp only [List.getElem?_toArray, List.getElem?_cons_zero, List.getElem?_cons_succ] at c0 c1 c2
                  go_simp
                  exact hK _ hJ
                refine Vals9.Steps.mark (by kernel_rfl) ?_ ?_
                · intro a W σ hJ hn pre K hK
                  have e61 : a.tmps.getD 61 undef = .map (some w4.heap.size) := pre.1 5 61 _ (by kernel_rfl) rfl rfl
                  have e63 : a.tmps.getD 63 undef = .int .i64 l[k].min := pre.1 7 63 _ (by kernel_rfl) rfl rfl
                  simp only [Array.getD_eq_getD_getElem?] at e61 e63
                  have hlk := run_look (hJ.mp (hJ.late hn).2) HL.out l[k].min
                  go_simp
                  exact hK _ _ (hJ.look hn)
                refine Vals9.Steps.run (by kernel_rfl) ?_ ?_
                · intro a W σ hJ pre K hK
                  have e15 : a.tmps.getD 15 undef = .pointer (some ⟨wr.heap.size, 0, none⟩) := pre.2.2 15 _ (by kernel_rfl) rfl
                  clear pre
                  simp only [Array.getD_eq_getD_getElem?] at e15
                  have hS9 := hJ
                  have l1 := HP5.out.kp hJ.kp (by omega)
                  obtain ⟨d0, d1, d2, d3, d4, d5, d6, d7, d8, d9⟩ := l1.watch
                  have c0 := hJ.br.cell 0
                  have c1 := hJ.br.cell 1
                  have c2 := hJ.br.cell 2
                  simp only [List.getElem?_toArray, List.getElem?_cons_zero, List.getElem?_cons_succ] at c0 c1 c2
                  go_simp
                  exact hK _ hJ
                refine Vals9.Steps.mark (by kernel_rfl) ?_ ?_
                · intro a W σ hJ hn pre K hK
                  have e65 : a.tmps.getD 65 undef = .agg (rV l[k]) := pre.1 9 65 _ (by kernel_rfl) rfl rfl
                  simp only [Array.getD_eq_getD_getElem?] at e65
                  go_simp
                  exact hK _ _ (hJ.build hn)
                refine Vals9.Steps.mark (by kernel_rfl) ?_ ?_
                · intro a W σ hJ hn pre K hK
                  obtain ⟨v64, s64, e64⟩ := pre.2.1 8 (by kernel_rfl) rfl
                  replace e64 : a.tmps.getD 64 undef = v64 := e64 64 rfl
                  obtain ⟨v66, s66, e66⟩ := pre.2.1 10 (by kernel_rfl) rfl
                  replace e66 : a.tmps.getD 66 undef = v66 := e66 66 rfl
                  simp only [Array.getD_eq_getD_getElem?] at e64 e66
                  obtain rfl := hJ.lk _ s64
                  obtain ⟨g, rfl, hg⟩ := hJ.bs _ s66 hn
                  have hOw := (hJ.ow hn).1 l[k].min
                  have hln : (atM (kno (l.take k) mi) l[k].min).length ≤ 1000 := Nat.le_trans (List.length_filter_le _ _) (by omega)
                  refine wp_append_read (.tmp 64) (.tmp 66) rfl (by go_simp) (by go_simp) hOw hg hln hJ.sz (fun v9 w9 h1 h2 h3 => hK _ _ (hJ.append hn ⟨_, s64⟩ ⟨_, s66⟩ (by omega) (by omega) (by omega) (fun q e => by have := (HO.out.lt l[k].min q e).2; omega) h2 h1 h3))
                refine Vals9.Steps.mark (by kernel_rfl) ?_ ?_
                · intro a W σ hJ hn pre K hK
                  have e57 : a.tmps.getD 57 undef = .map (some w4.heap.size) := pre.1 1 57 _ (by kernel_rfl) rfl rfl
                  have e59 : a.tmps.getD 59 undef = .int .i64 l[k].min := pre.1 3 59 _ (by kernel_rfl) rfl rfl
                  obtain ⟨v67, s67, e67⟩ := pre.2.1 11 (by kernel_rfl) rfl
                  replace e67 : a.tmps.getD 67 undef = v67 := e67 67 rfl
                  simp only [Array.getD_eq_getD_getElem?] at e57 e59 e67
                  obtain ⟨es2, clock2, hr2, hL2⟩ := run_turn (hJ.mp hn) HL.out l[k].min v67
                  go_simp
                  exact hK undef _ (hJ.turn hn s67 (by omega) (by omega) (by omega) hL2)
                exact Vals9.Steps.nil
              · intro X1 σ hJ
                simp only [Vals9.All]
                intro v8 h8 v10 h10 v11 h11 v12 h12
                simp only [Vals.putAll, List.setIfInBounds_toArray, List.set_cons_zero, List.set_cons_succ]
                have HI9 := Lib.hid (hJ.fin v12 h12)
                have hsn9 := hJ.sn
                have HK9 := Lib.hid hJ.kp
                clear hJ h8 h10 h11 h12
                go_wp2_with fail
                go_roundw
                case rel => exact ⟨k + 1, by omega, by go_num, hsn9, by rw [HS.out]; exact HI9, HK9⟩
                case measure => simp [intOf]; omega
            · rw [if_neg hle] at HS
              dsimp only [rV] at hX0 m0
              have HX0 := Lib.hid hX0
              clear hX0
              go_wp2_with fail
              rw [HX0.out]
              clear HX0 m0 k0 k1 k2
              go_roundw
              case rel => exact ⟨k + 1, by omega, by go_num, hsn7, by rw [HS.out]; exact ⟨es, clock, L, HG7.out, HL.out, HO7.out⟩, HK7⟩
              case measure => simp [intOf]; omega
          · obtain rfl : k = l.length := by omega
            rw [List.take_length] at HI
            obtain ⟨n, hn⟩ : ∃ n : Nat, mi = (n : Int) := ⟨mi.toNat, by omega⟩
            subst hn
            have hrr : ∀ r ∈ kno l (n : Int), ROk s r := fun r h => hro r (List.mem_filter.1 h).1
            have hrl : (kno l (n : Int)).length ≤ 1000 := Nat.le_trans (List.length_filter_le _ _) (by omega)
            have hnow : now s l (n : Int) = lv s (kno l (n : Int)) 0 (btw s.s0 s.s1) n := by simp [now]
            obtain ⟨rs, hrs⟩ : ∃ rs, kno l (n : Int) = rs := ⟨_, rfl⟩
            obtain ⟨o, ho⟩ : ∃ o, btw s.s0 s.s1 = o := ⟨_, rfl⟩
            have hvd : Vd o := by rw [← ho]; exact vd_start hs
            rw [hrs, ho] at hnow
            have HNOW := Lib.hid hnow
            have HRS := Lib.hid hrs
            rw [hnow] at hE
            rw [hrs] at HI hrr hrl
            obtain ⟨p0, q0, r0, hv0⟩ := lV_ex o
            have HV0 : Hid (lV (btw s.s0 s.s1) = #[.int .i64 p0, .int .i64 q0, .bool r0]) := by show _ = _; rw [ho, hv0]
            have HVO := Lib.hid hv0
            have HE0 := Lib.hid hE
            have hMr := HM5.out.kp HK.out (by omega)
            have hAr := HA5.out.kp HK.out (by omega)
            have hBr := HB5.out.kp HK.out (by omega)
            have hCr := HC5.out.kp HK.out (by omega)
            have hPr := HP5.out.kp HK.out (by omega)
            have hzr := HK.out.size
            clear hE hv0 ho hrs hnow HM5 HA5 HB5 HC5 HP5 hI5 HK
            go_wp2_with fail
            refine Vals6.regionAll (fun X => Blk X (w4.heap.size + 1) 93 (wV s m (some w4.heap.size)) ∧ Since wr X) [some 69, some 70, some 71] [.is (.agg (wV s m (some w4.heap.size))), .is (.agg (wV s m (some w4.heap.size))), .is (.agg #[.int .i64 p0, .int .i64 q0, .bool r0])] (by kernel_rfl) rfl rfl (by kernel_rfl) (by kernel_rfl) (by kernel_rfl) (by kernel_rfl) (by kernel_rfl) (by kernel_rfl) (by kernel_rfl) (⟨hPr.drew, (Since.refl wr).drew⟩) ?_ ?_
            · refine Vals5.Steps.run (by kernel_rfl) (Vals5.Stable.is _) ?_ ?_
              · intro a W hS pre old K hK
                have e13 : a.tmps.getD 13 undef = .pointer (some ⟨w4.heap.size + 1, 0, none⟩) := old 13 _ (by kernel_rfl) rfl
                clear pre old
                simp only [Array.getD_eq_getD_getElem?] at e13
                have hS9 := hS
                obtain ⟨l1, _⟩ := hS9
                obtain ⟨d0, d1, d2, d3, d4, d5, d6, d7, d8, d9⟩ := l1.watch
                go_simp
                exact hK _ _ hS (Below.refl _ _) rfl
              refine Vals5.Steps.run (by kernel_rfl) (Vals5.Stable.is _) ?_ ?_
              · intro a W hS pre old K hK
                have e13 : a.tmps.getD 13 undef = .pointer (some ⟨w4.heap.size + 1, 0, none⟩) := old 13 _ (by kernel_rfl) rfl
                clear pre old
                simp only [Array.getD_eq_getD_getElem?] at e13
                have hS9 := hS
                obtain ⟨l1, _⟩ := hS9
                obtain ⟨d0, d1, d2, d3, d4, d5, d6, d7, d8, d9⟩ := l1.watch
                go_simp
                exact hK _ _ hS (Below.refl _ _) rfl
              refine Vals5.Steps.run (by kernel_rfl) (Vals5.Stable.is _) ?_ ?_
              · intro a W hS pre old K hK
                have e70 : a.tmps.getD 70 undef = .agg (wV s m (some w4.heap.size)) := pre 1 70 _ (by kernel_rfl) rfl rfl
                clear pre old
                simp only [Array.getD_eq_getD_getElem?] at e70
                go_simp
                refine (start_c s m (some w4.heap.size) _).mono ?_
                rintro e w' ⟨rfl, hb'⟩
                obtain ⟨h1, h2⟩ := hS
                exact hK _ _ ⟨h1.keep hb', h2.keep hb'⟩ hb' (by show Value.agg _ = Value.agg _; rw [HV0.out])
              exact Vals5.Steps.nil
            rintro X2 ⟨bP2, hsn2⟩
            simp only [Vals5.All, List.getLast_cons_cons, List.getLast_singleton]
            simp only [Vals.putAll, List.setIfInBounds_toArray, List.set_cons_zero, List.set_cons_succ]
            intro K hK
            go_simp
            have hF := follow_c s m (some w4.heap.size) 0 o X2
            rw [HVO.out] at hF
            refine hF.mono ?_
            clear hF
            rintro e w0 ⟨rfl, hw0⟩
            refine hK _ _ ?_
            clear hK K
            have hz2 := hsn2.2
            have hz0 : w0.heap.size = X2.heap.size + 3 := by rw [← hw0]; simp
            have hsnB : Since wr w0 := by rw [← hw0]; exact ((hsn2.alloc _).alloc _).alloc _
            have hsnA : Since w w0 := hsn.keep hsnB.1
            have hM3 := hMr.keep hsnB.1
            have hA3 := hAr.keep hsnB.1
            have hB3 := hBr.keep hsnB.1
            have hC3 := hCr.keep hsnB.1
            have hP3 := hPr.keep hsnB.1
            have HI3 := Lib.hid (HI.out.keep hsnB.1)
            have C : Cx (w.heap.size + 1 + 1) (w.heap.size + 1 + 1 + 1 + 1 + 1) w0.heap.size w0 X2.heap.size (X2.heap.size + 1) (X2.heap.size + 1 + 1) s m (some w4.heap.size) rs 0 o := by
              refine ⟨?_, ?_, ?_, by omega, by omega, by omega, ?_, ?_, hs, hvd, hrr, hrl, by omega, by omega⟩
              · rw [← hw0]; exact ((Blk.new X2 _ _).alloc _).alloc _
              · rw [← hw0]; exact (Blk.new1 X2 _ _ _).alloc _
              · rw [← hw0, HVO.out]; exact Blk.new2 X2 _ _ _ _
              · intro W hW
                exact hsa.keep (below_kp hsnA.1 hW (by omega))
              · intro W hW
                exact (HI3.out.kp hW (by omega) (by omega) (by omega)).mp
            clear hw0 bP2 hMr hAr hBr hCr hPr
            go_wp2_with fail
            refine (wpIn_wide (n := 6)).1 ?_
            refine rangeFunc_c (w := w0) rfl (by omega) (gf := 93) (lb := #[.pointer (some ⟨X2.heap.size + 1 + 1, 0, none⟩), .pointer (some ⟨X2.heap.size + 1, 0, none⟩), .pointer (some ⟨X2.heap.size, 0, none⟩)]) rfl trivial (enters_of Try.func93 (by kernel_rfl) rfl)
              (follow_seq _ (by omega) C (by omega)) Kp.trans (fun W l o o' hl hg hc _ => Kp.put W l o o' (by omega) hg hc) (Below.refl _ _) (fun _ => rfl)
              (fun pre W => ((Blk W (w.heap.size + 1 + 1) 93 w0V ∧ Blk W (w.heap.size + 1 + 1 + 1) 95 n0V) ∧ (Blk W (w.heap.size + 1 + 1 + 1 + 1) 29 #[.int .i64 0] ∧ Blk W (w.heap.size + 1) 3 #[.int .i64 (n : Int)])) ∧ ((pre.length ≤ n ∧ Kp (w.heap.size + 1 + 1) (w.heap.size + 1 + 1 + 1 + 1 + 1) w0.heap.size w0 W) ∧ (Blk W (w4.heap.size + 1) 93 (wV s m (some w4.heap.size)) ∧ Below w.heap.size w W)))
              (fun c _ W => ((Blk W (w.heap.size + 1 + 1) 93 (wV s m (some w4.heap.size)) ∧ Blk W (w.heap.size + 1 + 1 + 1) 95 (lV (lv s rs 0 o n))) ∧ Blk W (w.heap.size + 1 + 1 + 1 + 1) 29 #[.int .i64 0]) ∧ (((c = .ret ∧ (lv s rs 0 o n).isSome = true) ∧ Kp (w.heap.size + 1 + 1) (w.heap.size + 1 + 1 + 1 + 1 + 1) w0.heap.size w0 W) ∧ Below w.heap.size w W))
              ((((AllFrom.blk (by omega) _ _).and (AllFrom.blk (by omega) _ _)).and ((AllFrom.blk (by omega) _ _).and (AllFrom.blk (by omega) _ _))).and (((AllFrom.pure _ _).and (AllFrom.kp (Nat.le_refl _))).and ((AllFrom.blk (by omega) _ _).and (AllFrom.below (Nat.le_refl _) (by omega)))))
              (fun _ => ((((AllFrom.blk (by omega) _ _).and (AllFrom.blk (by omega) _ _)).and (AllFrom.blk (by omega) _ _)).and (((AllFrom.pure _ _).and (AllFrom.kp (Nat.le_refl _))).and (AllFrom.below (Nat.le_refl _) (by omega)))))
              ⟨⟨⟨hA3, hB3⟩, hC3, hM3⟩, ⟨by simp, Kp.refl _ _ _ _⟩, hP3, hsnA.1⟩
              (fun x a' W => ∃ Bx, w4.heap.size + 1 < Bx ∧ Blk W Bx 95 (lV (lv s rs 0 o x)) ∧ a' = { tmps := #[.agg (sV s m), .slice A l.length c, .int .i64 (n : Int), .pointer (some ⟨w.heap.size, 0, none⟩), undef, .pointer (some ⟨w.heap.size + 1, 0, none⟩), .pointer (some ⟨w.heap.size + 1 + 1, 0, none⟩), .pointer (some ⟨w.heap.size + 1 + 1 + 1, 0, none⟩), .pointer (some ⟨w.heap.size + 1 + 1 + 1 + 1, 0, none⟩), .int .i64 (chk s).1, .int .i64 (chk s).2.1, .int .i64 0, .int .i64 0, .pointer (some ⟨w4.heap.size + 1, 0, none⟩), undef, u15, .int .i64 (x : Int), .pointer (some ⟨Bx, 0, none⟩), .tuple #[.int .i64 (chk s).1, .int .i64 (chk s).2.1, .int .i64 0], .agg (sV s m), .tuple #[.int .i64 (chk s).1, .int .i64 (chk s).2.1, .int .i64 0], .int .i64 (chk s).1, .int .i64 (chk s).2.1, .int .i64 0, .int .i64 0, .bool false, undef, undef, undef, .agg (sV s m), .slice A l.length c, .int .i64 0, .int .i64 0, .bool false, undef, undef, undef, .int .i64 (n : Int), .slice (some ⟨w3.heap.size, 0, none⟩) 1 1, .bool true, .bool false, undef, undef, .agg (sV s m), .map (some w4.heap.size), .agg (wV s m (some w4.heap.size)), .slice A l.length c, .int .i64 (l.length : Int), .int .i64 (l.length : Int), .bool false, u50, u51, u52, u53, u54, u55, u56, u57, u58, u59, u60, u61, u62, u63, u64, u65, u66, u67, u68, .agg (wV s m (some w4.heap.size)), .agg (wV s m (some w4.heap.size)), .agg #[.int .i64 p0, .int .i64 q0, .bool r0], .func (.func 93) #[] #[.pointer (some ⟨X2.heap.size + 1 + 1, 0, none⟩), .pointer (some ⟨X2.heap.size + 1, 0, none⟩), .pointer (some ⟨X2.heap.size, 0, none⟩)], .int .i64 (x : Int), .agg (lV (lv s rs 0 o x)), undef, undef, undef, undef, undef, undef, undef], defers := [] })
              (fun x a' _ X Y row hs hg hr => by
                obtain ⟨Bx, h1, h2, h3⟩ := hs
                exact ⟨Bx, h1, h2.grown hg (fun e => by obtain ⟨_, o, ho, hc⟩ := hr Bx e.symm; rw [show X.heap[Bx]? = _ from h2] at ho; cases ho; cases hc), h3⟩)
              ?assign ?body ?done ?stop
            case assign =>
              rintro lp pre x W K ⟨⟨⟨i1, i2⟩, i3, i4⟩, ⟨i5, i6⟩, i7, i8⟩ hK
              obtain ⟨p1, q1, r1, hv1⟩ := lV_ex (lv s rs 0 o x)
              dsimp only [encF]
              rw [Int.zero_add]
              rw [hv1] at hK ⊢
              have hzi := i7.lt
              gi_wp2
              exact hK _ _ ((KeepsOthers.alloc _ _).from _) (.of ((Below.refl _ W).alloc (Nat.le_refl _) _)) ⟨⟨⟨i1.alloc _, i2.alloc _⟩, i3.alloc _, i4.alloc _⟩, ⟨i5, i6.then ((Below.refl _ W).alloc (Nat.le_refl _) _)⟩, i7.alloc _, i8.alloc i8.size _⟩ ⟨W.heap.size, hzi, Blk.new W _ _, rfl⟩
            case body =>
              rintro lp pre x a' W hl ⟨r, hr⟩ ⟨⟨⟨i1, i2⟩, i3, i4⟩, ⟨i5, i6⟩, i7, i8⟩ ⟨Bx, hBx, bX, rfl⟩ ⟨rfl, hSx⟩
              have hxl : (List.range x).length = x := List.length_range
              have m0 := i4.cell 0
              simp only [List.getElem?_toArray, List.getElem?_cons_zero] at m0
              rw [hxl] at i5
              by_cases hxn : x = n
              · subst hxn
                have hsom := (hSx x (by omega)).1
                obtain ⟨p2, q2, r2, hv2⟩ := lV_ex (lv s rs 0 o x)
                have HV2 := Lib.hid hv2
                rw [hv2] at bX ⊢
                clear hv2
                gi_wp2
                refine Vals9.regionIn (Sx w W (w.heap.size + 1 + 1) (w.heap.size + 1 + 1 + 1 + 1 + 1) W.heap.size (w4.heap.size + 1) Bx s m (some w4.heap.size) #[.int .i64 p2, .int .i64 q2, .bool r2]) [some 78, some 79, none, none, none] [.is (.agg (wV s m (some w4.heap.size))), .is (.agg #[.int .i64 p2, .int .i64 q2, .bool r2]), .any, .any, .any] (by kernel_rfl) (by kernel_rfl) (fun ⟨_, _, h⟩ => h) (by kernel_rfl) (by kernel_rfl) (by kernel_rfl) (by kernel_rfl) (by kernel_rfl) (⟨Kp.of (Below.refl _ _).drew, i8.drew, i7.drew, bX.drew, ⟨_, rfl, i1.drew⟩, ⟨_, rfl, i2.drew⟩, i3.drew, fun _ h => (by cases h), fun _ h => (by cases h)⟩) ?_ ?_
                · refine Vals9.Steps.run (by kernel_rfl) ?_ ?_
                  · intro a W σ hJ pre K hK
                    have e13 : a.tmps.getD 13 undef = .pointer (some ⟨w4.heap.size + 1, 0, none⟩) := pre.2.2 13 _ (by kernel_rfl) rfl
                    clear pre
                    simp only [Array.getD_eq_getD_getElem?] at e13
                    have hS9 := hJ
                    obtain ⟨d0, d1, d2, d3, d4, d5, d6, d7, d8, d9⟩ := hJ.sp.watch
                    obtain ⟨e0, e1, e2⟩ := hJ.le.lev
                    go_simp
                    exact hK _ hJ
                  refine Vals9.Steps.run (by kernel_rfl) ?_ ?_
                  · intro a W σ hJ pre K hK
                    have e17 : a.tmps.getD 17 undef = .pointer (some ⟨Bx, 0, none⟩) := pre.2.2 17 _ (by kernel_rfl) rfl
                    clear pre
                    simp only [Array.getD_eq_getD_getElem?] at e17
                    have hS9 := hJ
                    obtain ⟨d0, d1, d2, d3, d4, d5, d6, d7, d8, d9⟩ := hJ.sp.watch
                    obtain ⟨e0, e1, e2⟩ := hJ.le.lev
                    go_simp
                    exact hK _ hJ
                  refine Vals9.Steps.mark (by kernel_rfl) ?_ ?_
                  · intro a W σ hJ hn pre K hK
                    have e6 : a.tmps.getD 6 undef = .pointer (some ⟨w.heap.size + 1 + 1, 0, none⟩) := pre.2.2 6 _ (by kernel_rfl) rfl
                    have e78 : a.tmps.getD 78 undef = .agg (wV s m (some w4.heap.size)) := pre.1 0 78 _ (by kernel_rfl) rfl rfl
                    simp only [Array.getD_eq_getD_getElem?] at e6 e78
                    obtain ⟨o9, ho9, hb9⟩ := hJ.ra
                    refine wp_store_row 93 _ _ rfl (w.heap.size + 1 + 1) (wV s m (some w4.heap.size)) (by go_simp) (by go_simp) 93 o9 hb9 (by kernel_rfl) ho9 (by simp [Value.oneCell']) ?_
                    exact hK _ _ (hJ.sa (by omega) (by omega) (by omega) (by omega))
                  refine Vals9.Steps.mark (by kernel_rfl) ?_ ?_
                  · intro a W σ hJ hn pre K hK
                    have e7 : a.tmps.getD 7 undef = .pointer (some ⟨w.heap.size + 1 + 1 + 1, 0, none⟩) := pre.2.2 7 _ (by kernel_rfl) rfl
                    have e79 : a.tmps.getD 79 undef = .agg #[.int .i64 p2, .int .i64 q2, .bool r2] := pre.1 1 79 _ (by kernel_rfl) rfl rfl
                    simp only [Array.getD_eq_getD_getElem?] at e7 e79
                    obtain ⟨o9, ho9, hb9⟩ := hJ.rb
                    refine wp_store_row 95 _ _ rfl (w.heap.size + 1 + 1 + 1) #[.int .i64 p2, .int .i64 q2, .bool r2] (by go_simp) (by go_simp) 95 o9 hb9 (by kernel_rfl) ho9 (by simp [Value.oneCell']) ?_
                    exact hK _ _ (hJ.sb rfl (by omega) (by omega) (by omega) (by omega))
                  refine Vals9.Steps.mark (by kernel_rfl) ?_ ?_
                  · intro a W σ hJ hn pre K hK
                    have e8 : a.tmps.getD 8 undef = .pointer (some ⟨w.heap.size + 1 + 1 + 1 + 1, 0, none⟩) := pre.2.2 8 _ (by kernel_rfl) rfl
                    simp only [Array.getD_eq_getD_getElem?] at e8
                    have k9 := hJ.rc.cell 0
                    have f9 := hJ.rc.frozen 0
                    simp only [List.getElem?_toArray, List.getElem?_cons_zero] at k9
                    go_simp
                    exact hK undef _ (hJ.sc (by omega) (by omega) (by omega) (by omega))
                  exact Vals9.Steps.nil
                · intro X5 σ hJ
                  simp only [Vals9.All]
                  intro v2 h2 v3 h3 v4 h4
                  have fa := hJ.fa _ h2
                  have fb := hJ.fb _ h3
                  have fc := hJ.rc
                  have fk := hJ.kp
                  have fs := hJ.sn
                  clear hJ h2 h3 h4
                  simp only [Vals.putAll, List.setIfInBounds_toArray, List.set_cons_zero, List.set_cons_succ]
                  gi_wp2
                  have hzW := i6.size
                  exact ⟨⟨fk.size, fun k o hk h _ => fk.kept k o h (by omega) (.inr (Array.getElem?_eq_some_iff.1 h).1)⟩, ⟨⟨fa, fb⟩, fc⟩, ⟨⟨rfl, hsom⟩, i6.trans (fk.weak hzW)⟩, fs⟩
              · have hxn' : ((x : Int) == (n : Int)) = false := beq_eq_false_iff_ne.2 (by omega)
                have HXN := Lib.hid (show (List.range x ++ [x]).length ≤ n by rw [List.length_append, hxl, List.length_singleton]; omega)
                clear hxn bX
                gi_wp2
                exact ⟨⟨Nat.le_refl _, fun _ _ _ h _ => h⟩, Kp.refl _ _ _ _, ⟨⟨i1, i2⟩, i3, i4⟩, ⟨HXN.out, i6⟩, i7, i8⟩
            case done =>
              rintro D xs W hD ⟨k, rfl, hE⟩ ⟨⟨⟨i1, i2⟩, i3, i4⟩, ⟨i5, i6⟩, i7, i8⟩ hK
              rw [List.length_range] at i5
              have hnn : lv s rs 0 o n = none := by
                rcases hE.2 with h | h
                · exact lv_none h i5
                · omega
              have HE : Hid ((9 : Int) = E ∧ E ≠ 0) := by
                have := HE0.out
                rw [hnn] at this
                simp at this
                exact ⟨this, by rw [← this]; decide⟩
              have hzD := (Array.getElem?_eq_some_iff.1 hK).1
              have HA9 := Lib.hid i1
              have HB9 := Lib.hid (i2.rowFar (g' := w.heap.size + 1 + 1) (by omega) w0V)
              have HC9 := Lib.hid ((i3.rowFar (g' := w.heap.size + 1 + 1) (by omega) w0V).rowFar (g' := w.heap.size + 1 + 1 + 1) (by omega) n0V)
              have HR9 := Lib.hid ((HC9.out.set 0 (.int .i64 9)))
              simp only [List.setIfInBounds_toArray, List.set_cons_zero] at HR9
              have hsn9 : Hid (Since w (((W.setRow (w.heap.size + 1 + 1) w0V).setRow (w.heap.size + 1 + 1 + 1) n0V).setCell ⟨w.heap.size + 1 + 1 + 1 + 1, 0, none⟩ (.int .i64 9))) := ⟨(below_setRow (below_setRow i8 (by omega) _) (by omega) _).setCell (p := ⟨w.heap.size + 1 + 1 + 1 + 1, 0, none⟩) (by simp; omega) _, by simpa using i8.size⟩
              have HD9 : Hid ((((W.setRow (w.heap.size + 1 + 1) w0V).setRow (w.heap.size + 1 + 1 + 1) n0V).setCell ⟨w.heap.size + 1 + 1 + 1 + 1, 0, none⟩ (.int .i64 9)).heap[D]? = some (.deferred (some []))) := (heap_setCell_other _ ⟨w.heap.size + 1 + 1 + 1 + 1, 0, none⟩ D _ (by simp; omega)).trans ((setRow_other _ _ D _ (by omega)).trans ((setRow_other _ _ D _ (by omega)).trans hK))
              have k9 := HC9.out.cell 0
              have f9 := HC9.out.frozen 0
              simp only [List.getElem?_toArray, List.getElem?_cons_zero] at k9
              clear i1 i2 i3 i4 i7 hK
              go_wp2_with first | (refine wpList_store_row rfl 93 _ _ rfl (w.heap.size + 1 + 1) _ rfl rfl 93 _ HA9.out (by kernel_rfl) rfl (by simp [Value.oneCell']) ?_) | (refine wpList_store_row rfl 95 _ _ rfl (w.heap.size + 1 + 1 + 1) _ rfl rfl 95 _ HB9.out (by kernel_rfl) rfl (by simp [Value.oneCell']) ?_)
              refine ⟨by simp, .inl ⟨_, _, rfl, run_takeDeferred HD9.out, ?_⟩⟩
              refine ⟨_, watch_results Try.results48 _ _ (w.heap.size + 1 + 1) w0V n0V 9 rfl rfl rfl ((((HA9.out.row w0V).rowFar (by omega) _).far (by omega) _ _).grown (grownBy_putObj' _ D (.deferred none)) (fun e => by cases e; omega)) (((HB9.out.row n0V).far (by omega) _ _).grown (grownBy_putObj' _ D (.deferred none)) (fun e => by cases e; omega)) (HR9.out.grown (grownBy_putObj' _ D (.deferred none)) (fun e => by cases e; omega)) rfl rfl, ⟨none, ?_, fun h => absurd h HE.out.2⟩, hsn9.out.1.trans (belowK_b (w := w) (Nat.le_refl _) _ D _ _ (by omega) HD9.out rfl rfl)⟩
              rw [HWN.out _ _ HE.out.2, HE.out.1]
            case stop =>
              rintro D c pre W hD ⟨k, rfl, hE⟩ ⟨⟨⟨i1, i2⟩, i3⟩, ⟨⟨rfl, hsom⟩, i6⟩, i8⟩ hK
              have hE1 : 0 = E := by
                have := HE0.out
                rwa [hsom] at this
              have hzD := (Array.getElem?_eq_some_iff.1 hK).1
              gi_wp2
              refine ⟨by simp, .inl ⟨_, _, rfl, run_takeDeferred hK, ?_⟩⟩
              refine ⟨_, watch_results Try.results48 _ _ (w.heap.size + 1 + 1) (wV s m (some w4.heap.size)) (lV (lv s rs 0 o n)) 0 rfl rfl rfl (i1.grown (grownBy_putObj' _ D (.deferred none)) (fun e => by cases e; omega)) (i2.grown (grownBy_putObj' _ D (.deferred none)) (fun e => by cases e; omega)) (i3.grown (grownBy_putObj' _ D (.deferred none)) (fun e => by cases e; omega)) rfl (lV_size _), ⟨some w4.heap.size, ?_, fun _ => ?_⟩, i8.trans (belowK_b (w := w) (Nat.le_refl _) _ D _ _ (by omega) hK rfl rfl)⟩
              · rw [← hE1, HNOW.out]
                simp [watV]
              · rw [HRS.out]
                exact (HI3.out.kp (i6.trans (Kp.put W D _ _ hD hK rfl)) (by omega) (by omega) (by omega)).mp
      · rw [if_neg (by rw [h1]; decide)] at hE
        rw [h1]
        clear h1
        have HE : Hid ((7 : Int) = E ∧ E ≠ 0) := ⟨hE, by rw [← hE]; decide⟩
        clear hE
        have HA9 := Lib.hid (HA4.out)
        have HB9 := Lib.hid (HB4.out.rowFar (g' := w.heap.size + 1 + 1) (by omega) w0V)
        have HC9 := Lib.hid ((HC4.out.rowFar (g' := w.heap.size + 1 + 1) (by omega) w0V).rowFar (g' := w.heap.size + 1 + 1 + 1) (by omega) n0V)
        have HR9 := Lib.hid ((HC9.out.set 0 (.int .i64 (7))))
        simp only [List.setIfInBounds_toArray, List.set_cons_zero] at HR9
        have hsn9 : Hid (Since w (((w4.setRow (w.heap.size + 1 + 1) w0V).setRow (w.heap.size + 1 + 1 + 1) n0V).setCell ⟨w.heap.size + 1 + 1 + 1 + 1, 0, none⟩ (.int .i64 (7)))) := ⟨((hsn4.row (by omega) _).row (by omega) _).1.setCell (p := ⟨w.heap.size + 1 + 1 + 1 + 1, 0, none⟩) (by simp; omega) _, by simpa using ((hsn4.row (g := w.heap.size + 1 + 1) (by omega) w0V).row (g := w.heap.size + 1 + 1 + 1) (by omega) n0V).2⟩
        have k9 := HC9.out.cell 0
        have f9 := HC9.out.frozen 0
        simp only [List.getElem?_toArray, List.getElem?_cons_zero] at k9
        go_wp2_with first | (refine wpList_store_row rfl 93 _ _ rfl (w.heap.size + 1 + 1) _ rfl rfl 93 _ HA9.out (by kernel_rfl) rfl (by simp [Value.oneCell']) ?_) | (refine wpList_store_row rfl 95 _ _ rfl (w.heap.size + 1 + 1 + 1) _ rfl rfl 95 _ HB9.out (by kernel_rfl) rfl (by simp [Value.oneCell']) ?_)
        refine ⟨_, watch_results Try.results48 _ _ (w.heap.size + 1 + 1) w0V n0V (7) rfl rfl rfl (((HA9.out.row w0V).rowFar (by omega) _).far (by omega) _ _) ((HB9.out.row n0V).far (by omega) _ _) HR9.out rfl rfl, ⟨none, ?_, fun h => absurd h HE.out.2⟩, hsn9.out.1⟩
        rw [HWN.out _ _ HE.out.2, HE.out.1]
end Td
end Go.Proofs.Ytmofbnadfgejiaa
