import Derived.Test.YtmofbnadfgejiaaLins
import Derived.Test.YtmofbnadfgejiaaWidM
import Derived.Test.YtmofbnadfgejiaaLrd
/- Instruments that are appended; the wider space's list of them, by what is done. -/
namespace Go.Proofs.Ytmofbnadfgejiaa
open Go.RowKit
namespace Td
set_option linter.unusedSimpArgs false
set_option linter.unusedVariables false
attribute [local go_sem] Oper.semAt_some
/-- the cells of instruments, one after the other. -/
def tlC (l : List Tl) : List Value := l.flatMap fun t => [.string t.name, .int .i64 t.err]
theorem tlC_len (l : List Tl) : (tlC l).length = l.length * 2 := by
  induction l with
  | nil => rfl
  | cons r l ih => simp [tlC] at ih ⊢; omega
theorem tlC_snoc (l : List Tl) (t : Tl) : tlC (l ++ [t]) = tlC l ++ [.string t.name, .int .i64 t.err] := by simp [tlC]
theorem tlC_at : ∀ (l : List Tl) (i : Nat) (r : Tl), l[i]? = some r → (tlC l)[i * 2]? = some (.string r.name) ∧ (tlC l)[i * 2 + 1]? = some (.int .i64 r.err) := by
  intro l
  induction l with
  | nil => intro i r h; simp at h
  | cons q l ih =>
    intro i r h
    have e : tlC (q :: l) = .string q.name :: .int .i64 q.err :: tlC l := rfl
    cases i with
    | zero =>
      simp at h
      subst h
      rw [e]
      exact ⟨rfl, rfl⟩
    | succ i =>
      rw [List.getElem?_cons_succ] at h
      obtain ⟨h1, h2⟩ := ih i r h
      rw [e]
      refine ⟨?_, ?_⟩
      · rw [show (i + 1) * 2 = i * 2 + 1 + 1 by omega]; simpa using h1
      · rw [show (i + 1) * 2 + 1 = i * 2 + 1 + 1 + 1 by omega]; simpa using h2
/-- a slice that owns its row of instruments. -/
def OwT (W : World) (B : Nat) (v : Value) (l : List Tl) : Prop := W.ownsRow B 65 2 v l.length (tlC l)
theorem info65 : (Try.prog.info? 65).map (fun i => (i.zero, i.size, i.bytes)) = some (some (.agg #[.string ByteArray.empty, .int .i64 0]), 2, 24) := by kernel_rfl
theorem append_tl {W : World} {B g : Nat} {v : Value} {l : List Tl} {t : Tl} (hown : OwT W B v l) (hg : Blk W g 65 #[.string t.name, .int .i64 t.err]) (hl : l.length ≤ 1000) (hB : B ≤ W.heap.size) (ty : TypeId) :
    ∃ v' w', (Builtin.append_ #[25, 25] ty #[v, .slice (some ⟨g, 0, none⟩) 1 1]).run Try.prog W = .ok v' w' ∧ OwT w' B v' (l ++ [t]) ∧ W.grownBy w' v.ownBlock ∧ (v'.ownBlock = v.ownBlock ∨ v'.ownBlock = some W.heap.size) := by
  obtain ⟨i0, hi0, hi1⟩ := Option.map_eq_some_iff.1 info65
  simp only [Prod.mk.injEq] at hi1
  obtain ⟨hz0, hz1, hz2⟩ := hi1
  obtain ⟨v', w', h1, h2, h3, _, h5⟩ := run_append_own_at (P := Try.prog) W B 25 ty 65 i0 _ 2 24 Try.underlying25 hi0 hz0 hz1 hz2 rfl (by omega)
    v l.length (tlC l) hown ⟨g, 0, none⟩ 1 1 [.string t.name, .int .i64 t.err] (by simp) (fun j u hj => by
      rw [add_new]
      have := hg.cell j
      rw [this]
      simpa using hj) (by simp [Value.oneCell']) (by simp only [maxLen]; omega) (by omega) hB
  refine ⟨v', w', h1, ?_, h3, h5⟩
  unfold OwT
  rw [tlC_snoc, List.length_append]
  exact h2
set_option maxRecDepth 100000 in
theorem wp_append_tl {W : World} {o : Oper} {a : Act} {K : Act → World → Prop} {Q' : Exit → Act → World → Prop} (s x : Operand) (ho : o.op = .call { callee := .builtin .append, args := #[s, x], argTypes := #[25, 25] })
    {B g : Nat} {v : Value} {l : List Tl} {t : Tl} (hs : a.eval s = v) (hx : a.eval x = .slice (some ⟨g, 0, none⟩) 1 1) (hown : OwT W B v l) (hg : Blk W g 65 #[.string t.name, .int .i64 t.err]) (hl : l.length ≤ 1000) (hB : B ≤ W.heap.size)
    (h : ∀ v' w', OwT w' B v' (l ++ [t]) → W.grownBy w' v.ownBlock → (v'.ownBlock = v.ownBlock ∨ v'.ownBlock = some W.heap.size) → K (a.put o.dst v') w') : o.wp Try.prog a W K Q' := by
  obtain ⟨v', w', hr, h2, h3, h4⟩ := append_tl hown hg hl hB o.type
  unfold Oper.wp execOp
  simp only [ho, resolve, invoke, builtin, Sem.run_bind, Sem.run_pure, Result.andThen_ok, List.map_toArray, List.map_cons, List.map_nil, hs, hx]
  rw [hr]
  exact h v' w' h2 h3 h4
theorem own_tl {W : World} {B : Nat} {v : Value} {l : List Tl} (h : OwT W B v l) : ∃ A c, v = .slice A l.length c ∧ TlAt W A l ∧ l.length ≤ c ∧ c ≤ 9223372036854775807 := by
  rcases h.2 with ⟨rfl, h0⟩ | ⟨g, cap, cur, rfl, hB, hg, hn, hm, hs, ht⟩
  · have : l = [] := List.eq_nil_of_length_eq_zero h0
    subst this
    exact ⟨none, 0, rfl, fun hx => absurd rfl hx, by simp, by omega⟩
  · refine ⟨_, cap, rfl, fun hx => ⟨_, rfl, fun i p hp => ?_⟩, hn, by simp only [maxLen] at hm; omega⟩
    have hil : i < l.length := (List.getElem?_eq_some_iff.1 hp).1
    obtain ⟨h1, h2⟩ := tlC_at l i p hp
    have hc : ∀ (k : Nat) u, k < l.length * 2 → (tlC l)[k]? = some u → W.cell? ⟨g, k, none⟩ = some u := fun k u hk hu => by
      rw [← ht] at hu
      rw [List.getElem?_take, if_pos hk] at hu
      simp [World.cell?, hg]
      simpa using hu
    rw [add_new]
    exact ⟨hc (i * 2) _ (by omega) h1, hc (i * 2 + 1) _ (by omega) h2⟩
/-- one instrument more in the wider space's list: look (1), build (20), append (21), store (23). -/
structure Tw (w : World) (s : Spc) (m : Sl) (xt : TypeId) (xs : Array Value) (gW : Nat) (wc : Value → Array Value) (v9 : Value) (L : List Tl) (t : Tl) (σ : Vals9.Sig) (Z : World) : Prop where
  h2 : Sp2 w s m xt xs Z
  gw : w.heap.size + 1 < gW
  lt : gW < Z.heap.size
  wb : σ 23 = none → Blk Z gW 27 (wc v9)
  wn : ∀ u x, σ 23 = some u → σ 21 = some x → Blk Z gW 27 (wc x)
  ow : σ 21 = none → OwT Z (gW + 1) v9 L
  bs : ∀ u, σ 20 = some u → σ 21 = none → ∃ g, u = .slice (some ⟨g, 0, none⟩) 1 1 ∧ Blk Z g 65 #[.string t.name, .int .i64 t.err]
  lk : ∀ u, σ 1 = some u → u = v9
  ap : ∀ u, σ 21 = some u → OwT Z (gW + 1) u (L ++ [t])
  q1 : ∀ u, σ 21 = some u → ∃ v, σ 1 = some v
  q2 : ∀ u, σ 21 = some u → ∃ v, σ 20 = some v
  p : ∀ u, σ 23 = some u → ∃ v, σ 21 = some v
section
variable {w Z Z' : World} {s : Spc} {m : Sl} {xt : TypeId} {xs : Array Value} {gW : Nat} {wc : Value → Array Value} {v9 : Value} {L : List Tl} {t : Tl} {σ : Vals9.Sig}
theorem Tw.no23 (h : Tw w s m xt xs gW wc v9 L t σ Z) (hn : σ 21 = none) : σ 23 = none := by
  cases e : σ 23 with
  | none => rfl
  | some u => obtain ⟨v, hv⟩ := h.p u e; rw [hn] at hv; cases hv
theorem Tw.no21a (h : Tw w s m xt xs gW wc v9 L t σ Z) (hn : σ 1 = none) : σ 21 = none := by
  cases e : σ 21 with
  | none => rfl
  | some u => obtain ⟨v, hv⟩ := h.q1 u e; rw [hn] at hv; cases hv
theorem Tw.no21b (h : Tw w s m xt xs gW wc v9 L t σ Z) (hn : σ 20 = none) : σ 21 = none := by
  cases e : σ 21 with
  | none => rfl
  | some u => obtain ⟨v, hv⟩ := h.q2 u e; rw [hn] at hv; cases hv
theorem Tw.start (h2 : Sp2 w s m xt xs Z) (gw : w.heap.size + 1 < gW) (hb : Blk Z gW 27 (wc v9)) (ho : OwT Z (gW + 1) v9 L) : Tw w s m xt xs gW wc v9 L t (fun _ => none) Z.drew :=
  ⟨h2.drew, gw, hb.lt, fun _ => hb.drew, fun _ _ h => (by cases h), fun _ => own_keep ho (Below.refl _ _).drew, fun _ h => (by cases h), fun _ h => (by cases h), fun _ h => (by cases h), fun _ h => (by cases h), fun _ h => (by cases h), fun _ h => (by cases h)⟩
theorem Tw.look (h : Tw w s m xt xs gW wc v9 L t σ Z) (hn : σ 1 = none) : Tw w s m xt xs gW wc v9 L t (Vals9.upd σ 1 v9) Z := by
  have h21 := h.no21a hn
  have h23 := h.no23 h21
  refine ⟨h.h2, h.gw, h.lt, fun _ => h.wb h23, fun u x e => ?_, fun _ => h.ow h21, fun u e e2 => h.bs u (by rwa [upd_ne (by decide)] at e) h21, fun u e => ?_, fun u e => ?_, fun u e => ?_, fun u e => ?_, fun u e => ?_⟩
  · rw [upd_ne (by decide), h23] at e; cases e
  · rw [Vals9.upd_same] at e; exact (Option.some.inj e).symm
  · rw [upd_ne (by decide), h21] at e; cases e
  · exact ⟨_, Vals9.upd_same _ _ _⟩
  · rw [upd_ne (by decide), h21] at e; cases e
  · rw [upd_ne (by decide), h23] at e; cases e
theorem Tw.build (h : Tw w s m xt xs gW wc v9 L t σ Z) (hn : σ 20 = none) : Tw w s m xt xs gW wc v9 L t (Vals9.upd σ 20 (.slice (some ⟨Z.heap.size, 0, none⟩) 1 1)) (Z.alloc (.cells #[.string t.name, .int .i64 t.err] 65)) := by
  have h21 := h.no21b hn
  have h23 := h.no23 h21
  have hb : Below Z.heap.size Z (Z.alloc (.cells #[.string t.name, .int .i64 t.err] 65)) := (Below.refl _ _).alloc (Nat.le_refl _) _
  refine ⟨h.h2.keep hb, h.gw, by have := h.lt; simp; omega, fun _ => (h.wb h23).keep hb, fun u x e => ?_, fun _ => own_keep (h.ow h21) hb, fun u e _ => ?_, fun u e => h.lk u (by rwa [upd_ne (by decide)] at e), fun u e => ?_, fun u e => ?_, fun u e => ?_, fun u e => ?_⟩
  · rw [upd_ne (by decide), h23] at e; cases e
  · rw [Vals9.upd_same] at e
    exact ⟨_, (Option.some.inj e).symm, Blk.new _ _ _⟩
  · rw [upd_ne (by decide), h21] at e; cases e
  · rw [upd_ne (by decide), h21] at e; cases e
  · exact ⟨_, Vals9.upd_same _ _ _⟩
  · rw [upd_ne (by decide), h23] at e; cases e
theorem Tw.append {u' : Value} (h : Tw w s m xt xs gW wc v9 L t σ Z) (hn : σ 21 = none) (s1 : ∃ v, σ 1 = some v) (s20 : ∃ v, σ 20 = some v) (hg : Z.grownBy Z' v9.ownBlock) (hu : OwT Z' (gW + 1) u' (L ++ [t])) : Tw w s m xt xs gW wc v9 L t (Vals9.upd σ 21 u') Z' := by
  have h23 := h.no23 hn
  have hlt := (h.ow hn).lt
  have hgw := h.gw
  refine ⟨h.h2.grown hg (fun k e => by have := (hlt k e).1; omega), h.gw, Nat.lt_of_lt_of_le h.lt hg.size, fun _ => (h.wb h23).grown hg (fun e => by have := (hlt _ e.symm).1; omega), fun u x e => ?_, fun e => ?_, fun u e e2 => ?_, fun u e => h.lk u (by rwa [upd_ne (by decide)] at e), fun u e => ?_, fun u e => ?_, fun u e => ?_, fun u e => ?_⟩
  · rw [upd_ne (by decide), h23] at e; cases e
  · rw [Vals9.upd_same] at e; cases e
  · rw [Vals9.upd_same] at e2; cases e2
  · rw [Vals9.upd_same] at e; obtain rfl := Option.some.inj e; exact hu
  · rw [upd_ne (by decide)]; exact s1
  · rw [upd_ne (by decide)]; exact s20
  · rw [upd_ne (by decide), h23] at e; cases e
theorem Tw.turn {u : Value} (h : Tw w s m xt xs gW wc v9 L t σ Z) (hn : σ 23 = none) (s21 : σ 21 = some u) (hset : ∀ a b, (wc a).setIfInBounds 8 b = wc b) : Tw w s m xt xs gW wc v9 L t (Vals9.upd σ 23 undef) (Z.setCell ⟨gW, 8, none⟩ u) := by
  have ho := h.ap u s21
  have hlt := ho.lt
  have hgw := h.gw
  refine ⟨⟨⟨⟨h.h2.sp.sn.1.setCell (p := ⟨gW, 8, none⟩) (by simp; omega) _, by simpa using h.h2.sp.sn.2⟩, h.h2.sp.bk.far (by omega) _ _⟩, h.h2.bx.far (by omega) _ _⟩, h.gw, by have := h.lt; simpa using this, fun e => ?_, fun v x e e2 => ?_, fun e => ?_, fun v e e2 => ?_, fun v e => h.lk v (by rwa [upd_ne (by decide)] at e), fun v e => ?_, fun v e => ?_, fun v e => ?_, fun v e => ⟨u, by rw [upd_ne (by decide)]; exact s21⟩⟩
  · rw [Vals9.upd_same] at e; cases e
  · rw [upd_ne (by decide), s21] at e2
    obtain rfl := Option.some.inj e2
    have := (h.wb hn).set 8 u
    rwa [hset] at this
  · rw [upd_ne (by decide), s21] at e; cases e
  · rw [upd_ne (by decide), s21] at e2; cases e2
  · rw [upd_ne (by decide), s21] at e
    obtain rfl := Option.some.inj e
    exact own_far ho gW 8 u (fun q e => by have := (hlt q e).1; omega)
  · exact h.q1 u s21
  · exact h.q2 u s21
end
end Td
end Go.Proofs.Ytmofbnadfgejiaa
