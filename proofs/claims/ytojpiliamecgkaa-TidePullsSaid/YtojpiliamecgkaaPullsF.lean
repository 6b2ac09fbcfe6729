import Derived.Test.YtojpiliamecgkaaKit9
/- The reference's Lies: corner by corner; the arithmetic, and what it holds. -/
namespace Go.Proofs.Ytojpiliamecgkaa
open Go.RowKit
namespace Td
set_option linter.unusedSimpArgs false
set_option linter.unusedVariables false
/-- the slope and the draft of the j-th corner. -/
def cSl (b : Bch) (j : Nat) : Int := if j % 2 = 0 then b.slo else b.shi
def cDr (s : Shp) (j : Nat) : Int := if j / 2 = 0 then s.dlo else s.dhi
/-- the range of the j-th corner. -/
def cLo (b : Bch) (s : Shp) (run : Pul) (ps : List Pul) (j : Nat) : Int := q (cSl b j) (ovl b s run ps - cDr s j)
def cHi (b : Bch) (s : Shp) (run : Pul) (ps : List Pul) (j : Nat) : Int := q (cSl b j) (ovh b s run ps - cDr s j)
/-- the box of a corner on a tide. -/
def cBox (b : Bch) (s : Shp) (j i : Nat) : Box := ⟨cSl b j, cSl b j, cDr s j, cDr s j, (tAt b i).hlo, (tAt b i).hhi, (tAt b i).wlo, (tAt b i).whi⟩
theorem cBox_ok {b : Bch} {s : Shp} (hB : BchOk b) (hS : ShpOk s) (j : Nat) {i : Nat} (hi : i < b.ts.length) : BoxOk (cBox b s j i) := by
  obtain ⟨_, _, _, _, _, _, _, _, _, _, _, _⟩ := bx_ok hB hS hi
  simp only [bx] at *
  unfold cBox cSl cDr
  refine ⟨?_, ?_, ?_, ?_, ?_, ?_, ?_, ?_, ?_, ?_, ?_, ?_⟩ <;> simp only <;> (repeat' split) <;> omega
theorem cBox_r (b : Bch) (s : Shp) (j i : Nat) (lift : Int) : rlo (cBox b s j i) lift = q (cSl b j) ((tAt b i).hlo + (tAt b i).wlo + lift - cDr s j) ∧ rhi (cBox b s j i) lift = q (cSl b j) ((tAt b i).hhi + (tAt b i).whi + lift - cDr s j) := by
  unfold rlo rhi cBox pl q
  simp only
  rw [show (tAt b i).hlo + (tAt b i).wlo - cDr s j + lift = (tAt b i).hlo + (tAt b i).wlo + lift - cDr s j by omega, show (tAt b i).hhi + (tAt b i).whi - cDr s j + lift = (tAt b i).hhi + (tAt b i).whi + lift - cDr s j by omega]
  omega
theorem c_nil (b : Bch) (s : Shp) (run : Pul) (j : Nat) : cLo b s run [] j = rlo (cBox b s j run.tide.toNat) (-s.sink * run.bal + 0) ∧ cHi b s run [] j = rhi (cBox b s j run.tide.toNat) (-s.sink * run.bal + 0) := by
  rw [(cBox_r b s j _ _).1, (cBox_r b s j _ _).2, Int.add_zero]
  exact ⟨rfl, rfl⟩
theorem c_snoc {b : Bch} (hB : BchOk b) (s : Shp) (run : Pul) (ps : List Pul) (p : Pul) (j : Nat) : cLo b s run (ps ++ [p]) j = max (cLo b s run ps j) (rlo (cBox b s j p.tide.toNat) (lf b s p)) ∧ cHi b s run (ps ++ [p]) j = max (cHi b s run ps j) (rhi (cBox b s j p.tide.toNat) (lf b s p)) := by
  have h0 := hB.s0
  have h1 := hB.s1
  have hs : 1 ≤ cSl b j := by unfold cSl; split <;> omega
  rw [(cBox_r b s j _ _).1, (cBox_r b s j _ _).2]
  unfold cLo cHi
  rw [ovl_snoc, ovh_snoc, q_max hs, q_max hs]
  constructor
  · congr 1; omega
  · congr 1; omega
/-- the range over the first j corners. -/
def accE (b : Bch) (s : Shp) (run : Pul) (ps : List Pul) : Nat → Int × Int
  | 0 => (0, 0)
  | 1 => (cLo b s run ps 0, cHi b s run ps 0)
  | j + 2 => (min (accE b s run ps (j + 1)).1 (cLo b s run ps (j + 1)), max (accE b s run ps (j + 1)).2 (cHi b s run ps (j + 1)))
theorem accE_four {b : Bch} {s : Shp} (hB : BchOk b) (hS : ShpOk s) (run : Pul) (ps : List Pul) : accE b s run ps 4 = (lieLo b s run ps, lieHi b s run ps) := by
  have h0 := hB.s0
  have h1 := hB.s1
  have hd := hS.d1
  have e0 := q_mono (sl := b.slo) h0 (show ovl b s run ps - s.dhi ≤ ovl b s run ps - s.dlo by omega)
  have e1 := q_mono (sl := b.shi) (by omega) (show ovl b s run ps - s.dhi ≤ ovl b s run ps - s.dlo by omega)
  have e2 := q_mono (sl := b.slo) h0 (show ovh b s run ps - s.dhi ≤ ovh b s run ps - s.dlo by omega)
  have e3 := q_mono (sl := b.shi) (by omega) (show ovh b s run ps - s.dhi ≤ ovh b s run ps - s.dlo by omega)
  simp only [accE, cLo, cHi, cSl, cDr, lieLo, lieHi]
  simp only [show (0 % 2 = 0) = True from by simp, show ((0 + 1) % 2 = 0) = False from by simp, show ((0 + 1 + 1) % 2 = 0) = True from by simp, show ((0 + 1 + 1 + 1) % 2 = 0) = False from by simp, show (0 / 2 = 0) = True from by simp, show ((0 + 1) / 2 = 0) = True from by simp, show ((0 + 1 + 1) / 2 = 0) = False from by simp, show ((0 + 1 + 1 + 1) / 2 = 0) = False from by simp, show (2 % 2 = 0) = True from by simp, show (3 % 2 = 0) = False from by simp, show (1 % 2 = 0) = False from by simp, show (1 / 2 = 0) = True from by simp, show (2 / 2 = 0) = False from by simp, show (3 / 2 = 0) = False from by simp, if_true, if_false]
  refine Prod.ext ?_ ?_ <;> simp only <;> omega
/-- two lists of two numbers, made and given: their blocks (6, 13), the variables (14, 15). -/
structure Sl2 (X0 : World) (c1 c2 : Array Value) (σ : Vals9.Sig) (w : World) : Prop where
  sn : Since X0 w
  a : ∀ v, σ 6 = some v → ∃ g : Nat, v = .slice (some ⟨g, 0, none⟩) 2 2 ∧ X0.heap.size ≤ g ∧ Blk w g 3 c1
  b : ∀ v, σ 13 = some v → ∃ g : Nat, v = .slice (some ⟨g, 0, none⟩) 2 2 ∧ X0.heap.size ≤ g ∧ Blk w g 3 c2
  y : ∀ v, σ 14 = some v → σ 6 = some v
  z : ∀ v, σ 15 = some v → σ 13 = some v
section
variable {X0 w : World} {c1 c2 : Array Value} {σ : Vals9.Sig}
theorem Sl2.start (X0 : World) (c1 c2 : Array Value) : Sl2 X0 c1 c2 (fun _ => none) X0.drew :=
  ⟨(Since.refl X0).drew, fun v h => (by cases h), fun v h => (by cases h), fun v h => (by cases h), fun v h => (by cases h)⟩
theorem Sl2.mk1 (h : Sl2 X0 c1 c2 σ w) (hn : σ 6 = none) : Sl2 X0 c1 c2 (Vals9.upd σ 6 (.slice (some ⟨w.heap.size, 0, none⟩) 2 2)) (w.alloc (.cells c1 3)) := by
  have hb : Below w.heap.size w (w.alloc (.cells c1 3)) := (Below.refl _ _).alloc (Nat.le_refl _) _
  refine ⟨h.sn.alloc _, fun v hv => ?_, fun v hv => ?_, fun v hv => ?_, fun v hv => ?_⟩
  · rw [Vals9.upd_same] at hv
    obtain rfl := Option.some.inj hv
    exact ⟨_, rfl, h.sn.2, Blk.new _ _ _⟩
  · rw [Vals9.upd_other _ _ (by decide)] at hv
    obtain ⟨g, k1, k2, k3⟩ := h.b v hv
    exact ⟨g, k1, k2, k3.keep hb⟩
  · rw [Vals9.upd_other _ _ (by decide)] at hv
    have := h.y v hv
    rw [hn] at this
    cases this
  · rw [Vals9.upd_other _ _ (by decide)] at hv ⊢
    exact h.z v hv
theorem Sl2.mk2 (h : Sl2 X0 c1 c2 σ w) (hn : σ 13 = none) : Sl2 X0 c1 c2 (Vals9.upd σ 13 (.slice (some ⟨w.heap.size, 0, none⟩) 2 2)) (w.alloc (.cells c2 3)) := by
  have hb : Below w.heap.size w (w.alloc (.cells c2 3)) := (Below.refl _ _).alloc (Nat.le_refl _) _
  refine ⟨h.sn.alloc _, fun v hv => ?_, fun v hv => ?_, fun v hv => ?_, fun v hv => ?_⟩
  · rw [Vals9.upd_other _ _ (by decide)] at hv
    obtain ⟨g, k1, k2, k3⟩ := h.a v hv
    exact ⟨g, k1, k2, k3.keep hb⟩
  · rw [Vals9.upd_same] at hv
    obtain rfl := Option.some.inj hv
    exact ⟨_, rfl, h.sn.2, Blk.new _ _ _⟩
  · rw [Vals9.upd_other _ _ (by decide)] at hv ⊢
    exact h.y v hv
  · rw [Vals9.upd_other _ _ (by decide)] at hv
    have := h.z v hv
    rw [hn] at this
    cases this
theorem Sl2.give1 (h : Sl2 X0 c1 c2 σ w) {v : Value} (hv : σ 6 = some v) : Sl2 X0 c1 c2 (Vals9.upd σ 14 v) w :=
  ⟨h.sn, by rw [Vals9.upd_other _ _ (by decide)]; exact h.a, by rw [Vals9.upd_other _ _ (by decide)]; exact h.b, fun u hu => by
    rw [Vals9.upd_same] at hu
    rw [Vals9.upd_other _ _ (by decide), hv, hu], by rw [Vals9.upd_other _ _ (by decide), Vals9.upd_other _ _ (by decide)]; exact h.z⟩
theorem Sl2.give2 (h : Sl2 X0 c1 c2 σ w) {v : Value} (hv : σ 13 = some v) : Sl2 X0 c1 c2 (Vals9.upd σ 15 v) w :=
  ⟨h.sn, by rw [Vals9.upd_other _ _ (by decide)]; exact h.a, by rw [Vals9.upd_other _ _ (by decide)]; exact h.b, by rw [Vals9.upd_other _ _ (by decide), Vals9.upd_other _ _ (by decide)]; exact h.y, fun u hu => by
    rw [Vals9.upd_same] at hu
    rw [Vals9.upd_other _ _ (by decide), hv, hu]⟩
end
/-- two new spans, filled: their blocks (12, 13), the stores (14, 15). -/
structure Sp2 (X0 : World) (c1 c2 : Array Value) (σ : Vals9.Sig) (w : World) : Prop where
  a : Fill X0 23 c1 12 14 σ w
  b : Fill X0 23 c2 13 15 σ w
  d : ∀ u v, σ 12 = some u → σ 13 = some v → u ≠ v
section
variable {X0 w : World} {c1 c2 : Array Value} {σ : Vals9.Sig} {t : TypeId} {cv : Array Value} {p q : Nat}
theorem Fill.upd (h : Fill X0 t cv p q σ w) {i : Nat} (hp : p ≠ i) (hq : q ≠ i) (v : Value) : Fill X0 t cv p q (Vals9.upd σ i v) w := by
  have e1 : Vals9.upd σ i v p = σ p := Vals9.upd_other _ _ hp
  have e2 : Vals9.upd σ i v q = σ q := Vals9.upd_other _ _ hq
  exact ⟨h.sn, by rw [e1, e2]; exact h.a, by rw [e1, e2]; exact h.s⟩
theorem Fill.far (h : Fill X0 t cv p q σ w) {g : Nat} (hg : X0.heap.size ≤ g) (hd : ∀ v, σ p = some v → v ≠ ptrOf g) (cs : Array Value) : Fill X0 t cv p q σ (w.setRow g cs) :=
  ⟨h.sn.row hg _, fun v hv => by
    obtain ⟨g', ds, h1, h2, h3, h4, h5⟩ := h.a v hv
    have hne : g ≠ g' := fun e => hd v hv (by rw [h1, e])
    exact ⟨g', ds, h1, h2, h3, h4.rowFar hne _, h5⟩, h.s⟩
theorem Sp2.start (X0 : World) (c1 c2 : Array Value) : Sp2 X0 c1 c2 (fun _ => none) X0.drew := ⟨Fill.start _ _ _ _ _, Fill.start _ _ _ _ _, fun u v h => (by cases h)⟩
theorem Sp2.keep (h : Sp2 X0 c1 c2 σ w) {w' : World} (hb : Below w.heap.size w w') : Sp2 X0 c1 c2 σ w' := ⟨h.a.keep hb, h.b.keep hb, h.d⟩
theorem Sp2.new1 (h : Sp2 X0 c1 c2 σ w) (hn : σ 12 = none) (zs : Array Value) (hz : zs.size = c1.size) : Sp2 X0 c1 c2 (Vals9.upd σ 12 (ptrOf w.heap.size)) (w.alloc (.cells zs 23)) := by
  refine ⟨h.a.new (by decide) hn zs hz, (h.b.keep ((Below.refl _ _).alloc (Nat.le_refl _) _)).upd (by decide) (by decide) _, fun u v hu hv => ?_⟩
  rw [Vals9.upd_same] at hu
  obtain rfl := Option.some.inj hu
  rw [Vals9.upd_other _ _ (by decide)] at hv
  obtain ⟨g, ds, rfl, _, _, hB, _⟩ := h.b.a v hv
  exact ptr_ne (by have := hB.lt; omega)
theorem Sp2.new2 (h : Sp2 X0 c1 c2 σ w) (hn : σ 13 = none) (zs : Array Value) (hz : zs.size = c2.size) : Sp2 X0 c1 c2 (Vals9.upd σ 13 (ptrOf w.heap.size)) (w.alloc (.cells zs 23)) := by
  refine ⟨(h.a.keep ((Below.refl _ _).alloc (Nat.le_refl _) _)).upd (by decide) (by decide) _, h.b.new (by decide) hn zs hz, fun u v hu hv => ?_⟩
  rw [Vals9.upd_same] at hv
  obtain rfl := Option.some.inj hv
  rw [Vals9.upd_other _ _ (by decide)] at hu
  obtain ⟨g, ds, rfl, _, _, hB, _⟩ := h.a.a u hu
  exact ptr_ne (by have := hB.lt; omega)
theorem Sp2.st1 (h : Sp2 X0 c1 c2 σ w) {g : Nat} (hp : σ 12 = some (ptrOf g)) : Sp2 X0 c1 c2 (Vals9.upd σ 14 undef) (w.setRow g c1) := by
  obtain ⟨g', ds, k1, k2, _⟩ := h.a.a _ hp
  have hgg : g = g' := by simpa using k1
  subst hgg
  exact ⟨h.a.store (by decide) hp, (h.b.far k2 (fun v hv e => h.d _ v hp hv e.symm) _).upd (by decide) (by decide) _, by rw [Vals9.upd_other _ _ (by decide), Vals9.upd_other _ _ (by decide)]; exact h.d⟩
theorem Sp2.st2 (h : Sp2 X0 c1 c2 σ w) {g : Nat} (hp : σ 13 = some (ptrOf g)) : Sp2 X0 c1 c2 (Vals9.upd σ 15 undef) (w.setRow g c2) := by
  obtain ⟨g', ds, k1, k2, _⟩ := h.b.a _ hp
  have hgg : g = g' := by simpa using k1
  subst hgg
  exact ⟨(h.a.far k2 (fun v hv e => h.d v _ hv hp e) _).upd (by decide) (by decide) _, h.b.store (by decide) hp, by rw [Vals9.upd_other _ _ (by decide), Vals9.upd_other _ _ (by decide)]; exact h.d⟩
end
/-- a new zero span is known by a pointer to it. -/
def NewP (B : Nat) (v : Value) (X : World) : Prop := ∃ g : Nat, v = ptrOf g ∧ B ≤ g ∧ Blk X g 23 #[.int .i64 0, .int .i64 0]
theorem NewP.stable (B : Nat) : Vals5.Stable (.has (NewP B)) := by
  rintro v X X' ⟨g, h1, h2, h3⟩ hb
  exact ⟨g, h1, h2, h3.keep hb⟩
end Td
end Go.Proofs.Ytojpiliamecgkaa
