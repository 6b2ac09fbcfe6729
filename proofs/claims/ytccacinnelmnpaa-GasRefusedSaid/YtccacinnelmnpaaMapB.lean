import Derived.Test.YtccacinnelmnpaaMapA
/- One more reading in the map: the lookup, the append and the update, in any order that Go allows. -/
namespace Go.Proofs.Ytccacinnelmnpaa
open Go.RowKit
namespace Td
set_option linter.unusedSimpArgs false
set_option linter.unusedVariables false
attribute [local go_sem] Oper.semAt_some
theorem info61 : (Try.prog.info? 61).map (fun i => (i.zero, i.size, i.bytes)) = some (some (.agg #[.int .i64 0, .int .i64 0, .int .i64 0]), 3, 24) := by kernel_rfl
theorem Kp.grown {a b c : Nat} {A W W' : World} {row : Option Nat} (h : Kp a b c A W) (hg : W.grownBy W' row) (hr : ∀ g, row = some g → A.heap.size ≤ g) : Kp a b c A W' :=
  ⟨hg.os.trans h.os, hg.tape.trans h.tape, hg.output.trans h.output, Nat.le_trans h.size hg.size, fun k o hk hn hc =>
    (hg.block k (Nat.lt_of_lt_of_le (Array.getElem?_eq_some_iff.1 hk).1 h.size) (fun e => by have := hr k e.symm; have := (Array.getElem?_eq_some_iff.1 hk).1; omega)).trans (h.kept k o hk hn hc)⟩
theorem Kp.puts {a b c : Nat} {A W : World} (h : Kp a b c A W) (g : Nat) (o : Obj) (ha : a ≤ g) (hb : g < b) : Kp a b c A (W.putObj g o) :=
  ⟨h.os, h.tape, h.output, by simpa [World.putObj] using h.size, fun k u hk hn hc => (World.putObj_heap_other (fun e => hn (by subst e; exact ⟨ha, hb⟩))).trans (h.kept k u hk hn hc)⟩
theorem atM_snoc (rs : List Rd) (r : Rd) (m : Int) : atM (rs ++ [r]) m = if m = r.min then atM rs m ++ [r] else atM rs m := by
  unfold atM
  rw [List.filter_append]
  by_cases h : m = r.min
  · simp [h]
  · have h2 : ¬ r.min = m := fun e => h e.symm
    simp [h, h2]
theorem rV_one (r : Rd) : ∀ u ∈ (rV r).toList, u.oneCell' = true := by
  intro u hu
  simp [rV] at hu
  rcases hu with rfl | rfl | rfl <;> rfl
/-- append of one reading behind a slice that owns its row. -/
theorem append_read {W : World} {B g : Nat} {v : Value} {l : List Rd} {r : Rd} (hown : W.ownsRow B 61 3 v l.length (rowsC l)) (hg : Blk W g 61 (rV r)) (hl : l.length ≤ 1000) (hB : B ≤ W.heap.size) (ty : TypeId) :
    ∃ v' w', (Builtin.append_ #[28, 28] ty #[v, .slice (some ⟨g, 0, none⟩) 1 1]).run Try.prog W = .ok v' w' ∧ w'.ownsRow B 61 3 v' (l ++ [r]).length (rowsC (l ++ [r])) ∧ W.grownBy w' v.ownBlock ∧ (v'.ownBlock = v.ownBlock ∨ v'.ownBlock = some W.heap.size) := by
  obtain ⟨i0, hi0, hi1⟩ := Option.map_eq_some_iff.1 info61
  simp only [Prod.mk.injEq] at hi1
  obtain ⟨hz0, hz1, hz2⟩ := hi1
  obtain ⟨v', w', h1, h2, h3, _, h5⟩ := run_append_own_at (P := Try.prog) W B 28 ty 61 i0 _ 3 24 Try.underlying28 hi0 hz0 hz1 hz2 rfl (by omega)
    v l.length (rowsC l) hown ⟨g, 0, none⟩ 1 1 (rV r).toList (by simp) (fun j u hj => by
      rw [add_new]
      have := hg.cell j
      rw [this]
      simpa using hj) (rV_one r) (by simp only [maxLen]; omega) (by omega) hB
  refine ⟨v', w', h1, ?_, h3, h5⟩
  rw [rowsC_snoc, List.length_append]
  exact h2
structure Gw (w X0 : World) (gm gr B : Nat) (rs : List Rd) (r : Rd) (es : Array MapEntry) (clock : Nat) (L : List (Int × Value)) (σ : Vals9.Sig) (X : World) : Prop where
  sn : Since w X
  kp : Kp gm (gm + 1) X0.heap.size X0 X
  br : Blk X gr 61 (rV r)
  sz : B ≤ X.heap.size
  mp : σ 12 = none → X.heap[gm]? = some (.map es clock)
  ow : σ 11 = none → Own X B rs (lkv L)
  bs : ∀ u, σ 10 = some u → σ 11 = none → ∃ g, u = .slice (some ⟨g, 0, none⟩) 1 1 ∧ Blk X g 61 (rV r)
  lk : ∀ u, σ 8 = some u → u = lkv L r.min
  ap : ∀ u, σ 11 = some u → Own X B (rs ++ [r]) (fun m => if m = r.min then u else lkv L m)
  q : ∀ u, σ 11 = some u → ∃ v, σ 8 = some v
  q2 : ∀ u, σ 11 = some u → ∃ v, σ 10 = some v
  p : ∀ u, σ 12 = some u → ∃ v, σ 11 = some v
  fin : ∀ u, σ 12 = some u → MI X B gm (rs ++ [r])
section
variable {w X0 : World} {gm gr B : Nat} {rs : List Rd} {r : Rd} {es : Array MapEntry} {clock : Nat} {L : List (Int × Value)} {σ : Vals9.Sig} {X : World}
theorem Gw.start (hsn : Since w X) (hk : Kp gm (gm + 1) X0.heap.size X0 X) (hr : Blk X gr 61 (rV r)) (hB : B ≤ X.heap.size) (hm : X.heap[gm]? = some (.map es clock)) (ho : Own X B rs (lkv L)) : Gw w X0 gm gr B rs r es clock L (fun _ => none) X.drew :=
  ⟨hsn.drew, hk.then (Below.refl _ _).drew, hr.drew, hB, fun _ => hm, fun _ => ho.keep (Below.refl _ _).drew, fun _ h _ => (by cases h), fun _ h => (by cases h), fun _ h => (by cases h), fun _ h => (by cases h), fun _ h => (by cases h), fun _ h => (by cases h), fun _ h => (by cases h)⟩
theorem Gw.late (h : Gw w X0 gm gr B rs r es clock L σ X) (hn : σ 8 = none) : σ 11 = none ∧ σ 12 = none := by
  have h1 : σ 11 = none := by
    cases e : σ 11 with
    | none => rfl
    | some u => obtain ⟨v, hv⟩ := h.q u e; rw [hn] at hv; cases hv
  refine ⟨h1, ?_⟩
  cases e : σ 12 with
  | none => rfl
  | some u => obtain ⟨v, hv⟩ := h.p u e; rw [h1] at hv; cases hv
theorem Gw.late2 (h : Gw w X0 gm gr B rs r es clock L σ X) (hn : σ 11 = none) : σ 12 = none := by
  cases e : σ 12 with
  | none => rfl
  | some u => obtain ⟨v, hv⟩ := h.p u e; rw [hn] at hv; cases hv
theorem upd_ne {σ : Vals9.Sig} {i j : Nat} {u : Value} (h : j ≠ i) : Vals9.upd σ i u j = σ j := Vals9.upd_other _ _ h
theorem Gw.look (h : Gw w X0 gm gr B rs r es clock L σ X) (hn : σ 8 = none) : Gw w X0 gm gr B rs r es clock L (Vals9.upd σ 8 (lkv L r.min)) X := by
  obtain ⟨h1, h2⟩ := h.late hn
  refine ⟨h.sn, h.kp, h.br, h.sz, fun _ => h.mp h2, fun _ => h.ow h1, fun u hu => h.bs u (by rwa [upd_ne (by decide)] at hu), fun u hu => ?_, fun u hu => ?_, fun u hu => ?_, fun u hu => ?_, fun u hu => ?_, fun u hu => ?_⟩
  · rw [Vals9.upd_same] at hu; exact (Option.some.inj hu).symm
  · rw [upd_ne (by decide), h1] at hu; cases hu
  · rw [upd_ne (by decide), h1] at hu; cases hu
  · rw [upd_ne (by decide), h1] at hu; cases hu
  · rw [upd_ne (by decide), h2] at hu; cases hu
  · rw [upd_ne (by decide), h2] at hu; cases hu
theorem Gw.build (h : Gw w X0 gm gr B rs r es clock L σ X) (hn : σ 10 = none) : Gw w X0 gm gr B rs r es clock L (Vals9.upd σ 10 (.slice (some ⟨X.heap.size, 0, none⟩) 1 1)) (X.alloc (.cells (rV r) 61)) := by
  have h1 : σ 11 = none := by
    cases e : σ 11 with
    | none => rfl
    | some u => obtain ⟨v, hv⟩ := h.q2 u e; rw [hn] at hv; cases hv
  have h2 := h.late2 h1
  have hb : Below X.heap.size X (X.alloc (.cells (rV r) 61)) := (Below.refl _ _).alloc (Nat.le_refl _) _
  refine ⟨h.sn.keep hb, h.kp.then hb, h.br.keep hb, by have := h.sz; simp; omega, fun _ => ?_, fun _ => (h.ow h1).keep hb, fun u hu _ => ?_, fun u hu => h.lk u (by rwa [upd_ne (by decide)] at hu), fun u hu => ?_, fun u hu => ?_, fun u hu => ?_, fun u hu => ?_, fun u hu => ?_⟩
  · have hg := h.mp h2
    exact (hb.block gm (Array.getElem?_eq_some_iff.1 hg).1).trans hg
  · rw [Vals9.upd_same] at hu
    exact ⟨_, (Option.some.inj hu).symm, Blk.new _ _ _⟩
  · rw [upd_ne (by decide), h1] at hu; cases hu
  · rw [upd_ne (by decide), h1] at hu; cases hu
  · rw [upd_ne (by decide), h1] at hu; cases hu
  · rw [upd_ne (by decide), h2] at hu; cases hu
  · rw [upd_ne (by decide), h2] at hu; cases hu
theorem Own.grow {W W' : World} {V : Int → Value} {u : Value} (h : Own W B rs V) (hg : W.grownBy W' (V r.min).ownBlock) (hu : W'.ownsRow B 61 3 u (atM rs r.min ++ [r]).length (rowsC (atM rs r.min ++ [r]))) (hb : u.ownBlock = (V r.min).ownBlock ∨ u.ownBlock = some W.heap.size) :
    Own W' B (rs ++ [r]) (fun m => if m = r.min then u else V m) := by
  have hcl : ∀ m, m ≠ r.min → (V m).ownBlock = none ∨ (V m).ownBlock ≠ u.ownBlock := fun m hm => by
    rcases hb with hb | hb
    · rw [hb]; exact h.2 m r.min hm
    · rw [hb]
      cases e : (V m).ownBlock with
      | none => exact .inl rfl
      | some k =>
        right
        have := (h.lt m k e).2
        intro e'; cases e'; omega
  refine ⟨fun m => ?_, fun m m' hm => ?_⟩
  · rw [atM_snoc]
    by_cases hmr : m = r.min
    · simp only [hmr, if_true]; exact hu
    · simp only [hmr, if_false]
      exact (h.1 m).kept hg (h.2 m r.min hmr)
  · by_cases h1 : m = r.min
    · have h2 : ¬ m' = r.min := fun e => hm (by rw [h1, e])
      simp only [h1, if_true, h2, if_false]
      rcases hcl m' h2 with e | e
      · cases hu' : u.ownBlock with
        | none => exact .inl rfl
        | some k => right; rw [e]; simp
      · exact .inr (fun e' => e e'.symm)
    · by_cases h2 : m' = r.min
      · simp only [h1, if_false, h2, if_true]
        exact hcl m h1
      · simp only [h1, if_false, h2]
        exact h.2 m m' hm
theorem Gw.append {X' : World} {u : Value} (h : Gw w X0 gm gr B rs r es clock L σ X) (hn : σ 11 = none) (s8 : ∃ v, σ 8 = some v) (s10 : ∃ v, σ 10 = some v) (hX0 : X0.heap.size ≤ B) (hw : w.heap.size ≤ B) (hgm : gm < B) (hgr : ∀ k, (lkv L r.min).ownBlock = some k → k < gr)
    (hg : X.grownBy X' (lkv L r.min).ownBlock) (hu : X'.ownsRow B 61 3 u (atM rs r.min ++ [r]).length (rowsC (atM rs r.min ++ [r]))) (hb : u.ownBlock = (lkv L r.min).ownBlock ∨ u.ownBlock = some X.heap.size) :
    Gw w X0 gm gr B rs r es clock L (Vals9.upd σ 11 u) X' := by
  have h2 := h.late2 hn
  have ho := h.ow hn
  have hlt := fun k e => (ho.lt r.min k e).1
  refine ⟨⟨h.sn.1.grown hg h.sn.2 (fun k e => Nat.le_trans hw (hlt k e)), Nat.le_trans h.sn.2 hg.size⟩, h.kp.grown hg (fun k e => Nat.le_trans hX0 (hlt k e)), h.br.grown hg (fun e => by have := hgr gr e.symm; omega), Nat.le_trans h.sz hg.size, fun _ => ?_, fun e => (by rw [Vals9.upd_same] at e; cases e), fun u' hu' e => (by rw [Vals9.upd_same] at e; cases e), fun u' hu' => h.lk u' (by rwa [upd_ne (by decide)] at hu'), fun u' hu' => ?_, fun u' hu' => ?_, fun u' hu' => ?_, fun u' hu' => ?_, fun u' hu' => ?_⟩
  · have hgg := h.mp h2
    exact (hg.block gm (Array.getElem?_eq_some_iff.1 hgg).1 (fun e => by have := hlt gm e.symm; omega)).trans hgg
  · rw [Vals9.upd_same] at hu'
    obtain rfl := Option.some.inj hu'
    exact ho.grow hg hu hb
  · rw [upd_ne (by decide)]; exact s8
  · rw [upd_ne (by decide)]; exact s10
  · rw [upd_ne (by decide), h2] at hu'; cases hu'
  · rw [upd_ne (by decide), h2] at hu'; cases hu'
theorem Own.put {W : World} {V : Int → Value} {o o' : Obj} (h : Own W B rs V) (hg : W.heap[gm]? = some o) (hgm : gm < B) : Own (W.putObj gm o') B rs V := by
  have hgr : W.grownBy (W.putObj gm o') (some gm) := grownBy_putObj' W gm o'
  refine ⟨fun m => (h.1 m).kept hgr ?_, h.2⟩
  cases e : (V m).ownBlock with
  | none => exact .inl rfl
  | some k =>
    right
    have := (h.lt m k e).1
    intro e'; cases e'; omega
theorem Gw.turn {u : Value} (h : Gw w X0 gm gr B rs r es clock L σ X) (hn : σ 12 = none) (s11 : σ 11 = some u) (hw : w.heap.size ≤ gm) (hgm : gm < B) (hgr : gm ≠ gr) {es' : Array MapEntry} {clock' : Nat} (hL : kvL es' (upL r.min u L)) :
    Gw w X0 gm gr B rs r es clock L (Vals9.upd σ 12 undef) (X.putObj gm (.map es' clock')) := by
  have hgg := h.mp hn
  have hX : gm < X.heap.size := (Array.getElem?_eq_some_iff.1 hgg).1
  have hgrow : X.grownBy (X.putObj gm (.map es' clock')) (some gm) := grownBy_putObj' X gm _
  have hO := (h.ap u s11).put (o' := .map es' clock') hgg hgm
  refine ⟨⟨h.sn.1.grown hgrow h.sn.2 (fun k e => by cases e; exact hw), Nat.le_trans h.sn.2 hgrow.size⟩, h.kp.puts gm _ (Nat.le_refl _) (by omega), h.br.grown hgrow (fun e => hgr (by cases e; rfl)), Nat.le_trans h.sz hgrow.size, fun e => (by rw [Vals9.upd_same] at e; cases e), fun e => (by rw [upd_ne (by decide), s11] at e; cases e), fun u' hu' e => (by rw [upd_ne (by decide), s11] at e; cases e), fun u' hu' => h.lk u' (by rwa [upd_ne (by decide)] at hu'), fun u' hu' => ?_, fun u' hu' => ?_, fun u' hu' => ?_, fun u' _ => ?_, fun u' _ => ?_⟩
  · rw [upd_ne (by decide), s11] at hu'
    obtain rfl := Option.some.inj hu'
    exact hO
  · rw [upd_ne (by decide)]
    exact h.q u' (by rwa [upd_ne (by decide)] at hu')
  · rw [upd_ne (by decide)]
    exact h.q2 u' (by rwa [upd_ne (by decide)] at hu')
  · exact ⟨u, by rw [upd_ne (by decide)]; exact s11⟩
  · refine ⟨es', clock', upL r.min u L, World.putObj_heap_same hX, hL, ?_⟩
    rw [show lkv (upL r.min u L) = fun m => if m = r.min then u else lkv L m from by funext m; exact lkv_up L r.min m u]
    exact hO
end
theorem wp_append_read {W : World} {o : Oper} {a : Act} {K : Act → World → Prop} {Q' : Exit → Act → World → Prop} (s x : Operand) (ho : o.op = .call { callee := .builtin .append, args := #[s, x], argTypes := #[28, 28] })
    {B g : Nat} {v : Value} {l : List Rd} {r : Rd} (hs : a.eval s = v) (hx : a.eval x = .slice (some ⟨g, 0, none⟩) 1 1) (hown : W.ownsRow B 61 3 v l.length (rowsC l)) (hg : Blk W g 61 (rV r)) (hl : l.length ≤ 1000) (hB : B ≤ W.heap.size)
    (h : ∀ v' w', w'.ownsRow B 61 3 v' (l ++ [r]).length (rowsC (l ++ [r])) → W.grownBy w' v.ownBlock → (v'.ownBlock = v.ownBlock ∨ v'.ownBlock = some W.heap.size) → K (a.put o.dst v') w') : o.wp Try.prog a W K Q' := by
  obtain ⟨v', w', hr, h2, h3, h4⟩ := append_read hown hg hl hB o.type
  unfold Oper.wp execOp
  simp only [ho, resolve, invoke, builtin, Sem.run_bind, Sem.run_pure, Result.andThen_ok, List.map_toArray, List.map_cons, List.map_nil, hs, hx, hr]
  exact h v' w' h2 h3 h4
end Td
end Go.Proofs.Ytccacinnelmnpaa
