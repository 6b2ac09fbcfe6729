import Derived.Test.YtojpiliamecgkaaMovedF
import Derived.Test.YtojpiliamecgkaaMoreA
/- A list of tides that is built, and a beach and a ship that are copied. -/
namespace Go.Proofs.Ytojpiliamecgkaa
open Go.RowKit
namespace Td
set_option linter.unusedSimpArgs false
set_option linter.unusedVariables false
def tidVals (ts : List Tid) : List Value := ts.flatMap fun t => [.int .i64 t.day, .int .i64 t.hlo, .int .i64 t.hhi, .int .i64 t.wlo, .int .i64 t.whi]
theorem tidVals_len (ts : List Tid) : (tidVals ts).length = ts.length * 5 := by
  induction ts with
  | nil => rfl
  | cons p ts ih => simp only [tidVals, List.flatMap_cons, List.length_append, List.length_cons, List.length_nil] at ih ⊢; omega
theorem tidVals_get : ∀ {ts : List Tid} {i : Nat} {t : Tid}, ts[i]? = some t → ∀ j, j < 5 → (tidVals ts)[i * 5 + j]? = [Value.int .i64 t.day, .int .i64 t.hlo, .int .i64 t.hhi, .int .i64 t.wlo, .int .i64 t.whi][j]?
  | [], _, _, h => by simp at h
  | p :: ts, 0, t, h => fun j hj => by
    obtain rfl : p = t := by simpa using h
    simp only [tidVals, List.flatMap_cons, Nat.zero_mul, Nat.zero_add]
    rw [List.getElem?_append_left (by simpa using hj)]
  | p :: ts, i + 1, t, h => fun j hj => by
    have := tidVals_get (ts := ts) (i := i) (t := t) (by simpa using h) j hj
    rw [← this]
    simp only [tidVals, List.flatMap_cons]
    rw [List.getElem?_append_right (by simp; omega)]
    congr 1
    simp
    omega
theorem tidVals_snoc (ts : List Tid) (t : Tid) : tidVals (ts ++ [t]) = tidVals ts ++ [.int .i64 t.day, .int .i64 t.hlo, .int .i64 t.hhi, .int .i64 t.wlo, .int .i64 t.whi] := by simp [tidVals]
theorem tsAt_of_own {w : World} {B g n cap : Nat} {ts : List Tid} (h : w.ownsRow B 67 5 (.slice (some ⟨g, 0, none⟩) n cap) n (tidVals ts)) : TsAt w (some ⟨g, 0, none⟩) ts := fun _ => ⟨_, rfl, fun i t ht => by
  rcases h.2 with ⟨h1, _⟩ | ⟨g', cap', cur, h1, h2, h3, h4, h5, h6, h7⟩
  · cases h1
  · simp only [Value.slice.injEq, Option.some.injEq, Addr.mk.injEq, and_true, true_and] at h1
    obtain ⟨rfl, rfl⟩ := h1
    have hb : Blk w g 67 cur := h3
    have hc : ∀ j, j < 5 → w.cell? ⟨g, i * 5 + j, none⟩ = [Value.int .i64 t.day, .int .i64 t.hlo, .int .i64 t.hhi, .int .i64 t.wlo, .int .i64 t.whi][j]? := fun j hj => by
      have e := tidVals_get ht j hj
      rw [hb.cell, ← e, ← h7, List.getElem?_take]
      have hil : i < ts.length := (List.getElem?_eq_some_iff.1 ht).1
      have hn : ts.length * 5 = n * 5 := by rw [← tidVals_len]; exact h.1
      rw [if_pos (by omega)]
      simp
    rw [add_new]
    exact ⟨hc 0 (by omega), hc 1 (by omega), hc 2 (by omega), hc 3 (by omega), hc 4 (by omega)⟩⟩
/-- a store into another block leaves the row. -/
theorem own_setCell {w : World} {B : Nat} {e : TypeId} {size n : Nat} {v : Value} {xs : List Value} (h : w.ownsRow B e size v n xs) {g : Nat} (hg : g < B) (i : Nat) (u : Value) : (w.setCell ⟨g, i, none⟩ u).ownsRow B e size v n xs := by
  obtain ⟨h1, h2⟩ := h
  refine ⟨h1, ?_⟩
  rcases h2 with h2 | ⟨g', cap, cur, k1, k2, k3, k4⟩
  · exact .inl h2
  · exact .inr ⟨g', cap, cur, k1, k2, (heap_setCell_other w ⟨g, i, none⟩ g' u (by simp; omega)).trans k3, k4⟩
theorem own_setCell_ne {w : World} {B : Nat} {e : TypeId} {size n : Nat} {v : Value} {xs : List Value} (h : w.ownsRow B e size v n xs) {g : Nat} (hg : ∀ q, v.ownBlock = some q → q ≠ g) (i : Nat) (u : Value) : (w.setCell ⟨g, i, none⟩ u).ownsRow B e size v n xs := by
  obtain ⟨h1, h2⟩ := h
  refine ⟨h1, ?_⟩
  rcases h2 with h2 | ⟨g', cap, cur, k1, k2, k3, k4⟩
  · exact .inl h2
  · exact .inr ⟨g', cap, cur, k1, k2, (heap_setCell_other w ⟨g, i, none⟩ g' u (hg g' (by rw [k1]; rfl))).trans k3, k4⟩
/-- a beach and a ship that are copied, by what is done: the new beach (2), the new ship (3), their stores (4, 5). -/
structure Cp2 (X0 : World) (cb cs : Array Value) (σ : Vals9.Sig) (w : World) : Prop where
  sn : Since X0 w
  m : ∀ v, σ 2 = some v → ∃ (g : Nat) (ds : Array Value), v = ptrOf g ∧ X0.heap.size ≤ g ∧ ds.size = 6 ∧ Blk w g 26 ds ∧ (∀ y, σ 4 = some y → ds = cb) ∧ ∀ u, σ 3 = some u → u ≠ ptrOf g
  s : ∀ v, σ 3 = some v → ∃ (g : Nat) (ds : Array Value), v = ptrOf g ∧ X0.heap.size ≤ g ∧ ds.size = 3 ∧ Blk w g 28 ds ∧ ∀ y, σ 5 = some y → ds = cs
  p4 : ∀ y, σ 4 = some y → ∃ v, σ 2 = some v
  p5 : ∀ y, σ 5 = some y → ∃ v, σ 3 = some v
section
variable {X0 w : World} {cb cs : Array Value} {σ : Vals9.Sig}
theorem Cp2.start (X0 : World) (cb cs : Array Value) : Cp2 X0 cb cs (fun _ => none) X0.drew :=
  ⟨(Since.refl X0).drew, fun v h => (by cases h), fun v h => (by cases h), fun v h => (by cases h), fun v h => (by cases h)⟩
theorem Cp2.newB (h : Cp2 X0 cb cs σ w) (h2 : σ 2 = none) (zs : Array Value) (hz : zs.size = 6) : Cp2 X0 cb cs (Vals9.upd σ 2 (ptrOf w.heap.size)) (w.alloc (.cells zs 26)) := by
  have hb : Below w.heap.size w (w.alloc (.cells zs 26)) := (Below.refl _ _).alloc (Nat.le_refl _) _
  refine ⟨h.sn.alloc _, fun v hv => ?_, fun v hv => ?_, fun y hy => ⟨_, Vals9.upd_same _ _ _⟩, fun y hy => ?_⟩
  · rw [Vals9.upd_same] at hv
    obtain rfl := Option.some.inj hv
    refine ⟨_, _, rfl, h.sn.2, hz, Blk.new _ _ _, fun y hy => ?_, fun u hu => ?_⟩
    · rw [Vals9.upd_other _ _ (by decide)] at hy
      obtain ⟨v, hv⟩ := h.p4 y hy
      rw [h2] at hv
      cases hv
    · rw [Vals9.upd_other _ _ (by decide)] at hu
      obtain ⟨g, ds, rfl, _, _, hB, _⟩ := h.s u hu
      exact ptr_ne (by have := hB.lt; omega)
  · rw [Vals9.upd_other _ _ (by decide)] at hv
    obtain ⟨g, ds, k1, k2, k3, k4, k5⟩ := h.s v hv
    exact ⟨g, ds, k1, k2, k3, k4.keep hb, fun y hy => k5 y (by rwa [Vals9.upd_other _ _ (by decide)] at hy)⟩
  · rw [Vals9.upd_other _ _ (by decide)] at hy ⊢
    exact h.p5 y hy
theorem Cp2.newS (h : Cp2 X0 cb cs σ w) (h3 : σ 3 = none) (zs : Array Value) (hz : zs.size = 3) : Cp2 X0 cb cs (Vals9.upd σ 3 (ptrOf w.heap.size)) (w.alloc (.cells zs 28)) := by
  have hb : Below w.heap.size w (w.alloc (.cells zs 28)) := (Below.refl _ _).alloc (Nat.le_refl _) _
  refine ⟨h.sn.alloc _, fun v hv => ?_, fun v hv => ?_, fun y hy => ?_, fun y hy => ⟨_, Vals9.upd_same _ _ _⟩⟩
  · rw [Vals9.upd_other _ _ (by decide)] at hv
    obtain ⟨g, ds, k1, k2, k3, k4, k5, k6⟩ := h.m v hv
    refine ⟨g, ds, k1, k2, k3, k4.keep hb, fun y hy => k5 y (by rwa [Vals9.upd_other _ _ (by decide)] at hy), fun u hu => ?_⟩
    rw [Vals9.upd_same] at hu
    obtain rfl := Option.some.inj hu
    exact ptr_ne (by have := k4.lt; omega)
  · rw [Vals9.upd_same] at hv
    obtain rfl := Option.some.inj hv
    refine ⟨_, _, rfl, h.sn.2, hz, Blk.new _ _ _, fun y hy => ?_⟩
    rw [Vals9.upd_other _ _ (by decide)] at hy
    obtain ⟨v, hv⟩ := h.p5 y hy
    rw [h3] at hv
    cases hv
  · rw [Vals9.upd_other _ _ (by decide)] at hy ⊢
    exact h.p4 y hy
theorem Cp2.stB (h : Cp2 X0 cb cs σ w) (hcb : cb.size = 6) {g : Nat} (h2 : σ 2 = some (ptrOf g)) : Cp2 X0 cb cs (Vals9.upd σ 4 undef) (w.setRow g cb) := by
  obtain ⟨g', ds, k1, k2, k3, k4, k5, k6⟩ := h.m _ h2
  have hgg : g = g' := by simpa using k1
  subst hgg
  refine ⟨h.sn.row k2 _, fun v hv => ?_, fun v hv => ?_, fun y hy => ⟨_, by rw [Vals9.upd_other _ _ (by decide)]; exact h2⟩, fun y hy => ?_⟩
  · rw [Vals9.upd_other _ _ (by decide), h2] at hv
    obtain rfl := Option.some.inj hv
    exact ⟨g, cb, rfl, k2, hcb, k4.row _, fun _ _ => rfl, fun u hu => k6 u (by rwa [Vals9.upd_other _ _ (by decide)] at hu)⟩
  · rw [Vals9.upd_other _ _ (by decide)] at hv
    obtain ⟨g3, ds3, q1, q2, q3, q4, q5⟩ := h.s v hv
    have hne : g ≠ g3 := fun e => k6 v hv (by rw [q1, e])
    exact ⟨g3, ds3, q1, q2, q3, q4.rowFar hne _, fun y hy => q5 y (by rwa [Vals9.upd_other _ _ (by decide)] at hy)⟩
  · rw [Vals9.upd_other _ _ (by decide)] at hy ⊢
    exact h.p5 y hy
theorem Cp2.stS (h : Cp2 X0 cb cs σ w) (hcs : cs.size = 3) {g : Nat} (h3 : σ 3 = some (ptrOf g)) : Cp2 X0 cb cs (Vals9.upd σ 5 undef) (w.setRow g cs) := by
  obtain ⟨g', ds, k1, k2, k3, k4, k5⟩ := h.s _ h3
  have hgg : g = g' := by simpa using k1
  subst hgg
  refine ⟨h.sn.row k2 _, fun v hv => ?_, fun v hv => ?_, fun y hy => ?_, fun y hy => ⟨_, by rw [Vals9.upd_other _ _ (by decide)]; exact h3⟩⟩
  · rw [Vals9.upd_other _ _ (by decide)] at hv
    obtain ⟨g2, ds2, q1, q2, q3, q4, q5, q6⟩ := h.m v hv
    have hne : g ≠ g2 := fun e => q6 _ h3 (by rw [e])
    exact ⟨g2, ds2, q1, q2, q3, q4.rowFar hne _, fun y hy => q5 y (by rwa [Vals9.upd_other _ _ (by decide)] at hy), fun u hu => q6 u (by rwa [Vals9.upd_other _ _ (by decide)] at hu)⟩
  · rw [Vals9.upd_other _ _ (by decide), h3] at hv
    obtain rfl := Option.some.inj hv
    exact ⟨g, cs, rfl, k2, hcs, k4.row _, fun _ _ => rfl⟩
  · rw [Vals9.upd_other _ _ (by decide)] at hy ⊢
    exact h.p4 y hy
end
end Td
end Go.Proofs.Ytojpiliamecgkaa
