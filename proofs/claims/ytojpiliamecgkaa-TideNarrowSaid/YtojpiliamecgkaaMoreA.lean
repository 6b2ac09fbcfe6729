import Derived.Test.YtojpiliamecgkaaMoreF
import Derived.Test.YtojpiliamecgkaaVals9
import Derived.Deep.AppendLies
/- A list of pulls that is copied into memory of its own. -/
namespace Go.Proofs.Ytojpiliamecgkaa
open Go.RowKit
namespace Td
set_option linter.unusedSimpArgs false
set_option linter.unusedVariables false
theorem at_add (a : Addr) (i : Nat) : at_ (a.add i) 1 = a.add (i + 1) := by
  unfold at_
  by_cases h : i = 0
  · subst h
    rw [show a.add 0 = a from by simp [Addr.add]]
    simp [Addr.add]
  · simp [Addr.add, h]
    omega
theorem pulls_news {w : World} {a : Addr} {ps : List Pul} (h : ∀ i p, ps[i]? = some p → w.cell? (a.add (i * 2)) = some (.int .i64 p.tide) ∧ w.cell? (at_ (a.add (i * 2)) 1) = some (.int .i64 p.bal)) :
    ∀ j u, (pulVals ps)[j]? = some u → w.cell? (a.add j) = some u := by
  intro j u hj
  have hlt : j < ps.length * 2 := by
    rw [← pulVals_len]
    exact (List.getElem?_eq_some_iff.1 hj).1
  have hi : j / 2 < ps.length := by omega
  obtain ⟨e1, e2⟩ := pulVals_two (ps := ps) (i := j / 2) (List.getElem?_eq_getElem hi)
  obtain ⟨h1, h2⟩ := h _ _ (List.getElem?_eq_getElem hi)
  rcases (by omega : j = j / 2 * 2 ∨ j = j / 2 * 2 + 1) with hh | hh
  · rw [hh] at hj ⊢
    rw [e1] at hj
    obtain rfl := Option.some.inj hj
    exact h1
  · have hat : at_ (a.add (j / 2 * 2)) 1 = a.add (j / 2 * 2 + 1) := at_add a _
    rw [hat] at h2
    rw [hh] at hj ⊢
    rw [e2] at hj
    obtain rfl := Option.some.inj hj
    exact h2
theorem pulVals_one (ps : List Pul) : ∀ u ∈ pulVals ps, u.oneCell' = true := by
  intro u hu
  unfold pulVals at hu
  obtain ⟨p, _, hp⟩ := List.mem_flatMap.1 hu
  simp at hp
  rcases hp with rfl | rfl <;> rfl
/-- append of pulls behind an empty slice of its own. -/
theorem run_copy_puls (W : World) (B g : Nat) (Q : Option Addr) (ps : List Pul) (qc : Nat) (ty : TypeId) (hB : B ≤ g) (hg : Blk W g 49 #[]) (hq : PuAt W Q ps) (h12 : ps.length ≤ 12) :
    ∃ g' cap w', (Builtin.append_ #[50, 50] ty #[.slice (some ⟨g, 0, none⟩) 0 0, .slice Q ps.length qc]).run Try.prog W = .ok (.slice (some ⟨g', 0, none⟩) ps.length cap) w' ∧
      w'.ownsRow B 49 2 (.slice (some ⟨g', 0, none⟩) ps.length cap) ps.length (pulVals ps) ∧ W.grownBy w' (some g) ∧ (g' = g ∨ g' = W.heap.size) := by
  have hown : W.ownsRow B 49 2 (.slice (some ⟨g, 0, none⟩) 0 0) 0 [] := ⟨by simp, .inr ⟨g, 0, #[], rfl, hB, hg, Nat.le_refl _, by simp [maxLen], rfl, by simp⟩⟩
  have hgl := hg.lt
  obtain ⟨i0, hi0, hi1⟩ := Option.map_eq_some_iff.1 Try.infoPull
  simp only [Prod.mk.injEq] at hi1
  obtain ⟨hz0, hz1, hz2⟩ := hi1
  by_cases h0 : ps = []
  · subst h0
    refine ⟨g, 0, W, ?_, hown, ⟨rfl, rfl, rfl, Nat.le_refl _, fun k _ _ => rfl⟩, .inl rfl⟩
    cases Q with
    | none => simp [Builtin.append_, go_sem, Try.underlying50, Builtin.firstCells, Builtin.lenOf, hi0, hz1]
    | some ad => simp [Builtin.append_, go_sem, Try.underlying50, Builtin.firstCells, Builtin.lenOf, hi0, hz1]
  · obtain ⟨ad, rfl, hc⟩ := hq h0
    have hn : 0 < ps.length := List.length_pos_iff.2 h0
    obtain ⟨g', cap, w', h1, h2, h3, h4, h5⟩ := run_append_lies (P := Try.prog) W 50 ty B 49 i0 _ 2 16 Try.underlying50 hi0 hz0 hz1 hz2 rfl (by omega)
      (.slice (some ⟨g, 0, none⟩) 0 0) 0 [] hown ad ps.length qc (pulVals ps) (pulVals_len ps) (pulls_news hc) (pulVals_one ps) hn (by simp only [maxLen]; omega) (by omega) (by omega) W.heap.size rfl
    rw [Nat.zero_add] at h1 h2
    rw [List.nil_append] at h2
    refine ⟨g', cap, w', h1, h2, h3, ?_⟩
    rcases h4 with h4 | h4
    · left; simpa [Value.ownBlock] using h4.symm
    · exact .inr h4
theorem wp_copy_puls {W : World} {o : Oper} {a : Act} {K : Act → World → Prop} {Q' : Exit → Act → World → Prop} (s x : Operand) (ho : o.op = .call { callee := .builtin .append, args := #[s, x], argTypes := #[50, 50] })
    (B g : Nat) (Q : Option Addr) (ps : List Pul) (qc : Nat) (hs : a.eval s = .slice (some ⟨g, 0, none⟩) 0 0) (hx : a.eval x = .slice Q ps.length qc) (hB : B ≤ g) (hg : Blk W g 49 #[]) (hq : PuAt W Q ps) (h12 : ps.length ≤ 12)
    (h : ∀ g' cap w', w'.ownsRow B 49 2 (.slice (some ⟨g', 0, none⟩) ps.length cap) ps.length (pulVals ps) → W.grownBy w' (some g) → (g' = g ∨ g' = W.heap.size) → K (a.put o.dst (.slice (some ⟨g', 0, none⟩) ps.length cap)) w') : o.wp Try.prog a W K Q' := by
  obtain ⟨g', cap, w', hr, h2, h3, h4⟩ := run_copy_puls W B g Q ps qc o.type hB hg hq h12
  unfold Oper.wp execOp
  simp only [ho, resolve, invoke, builtin, Sem.run_bind, Sem.run_pure, Result.andThen_ok, List.map_toArray, List.map_cons, List.map_nil, hs, hx, hr]
  exact h g' cap w' h2 h3 h4
/-- a row of pulls in a block. -/
def Row (w : World) (g : Nat) (ps : List Pul) : Prop := ∃ cs : Array Value, Blk w g 49 cs ∧ ∀ (j : Nat) (u : Value), (pulVals ps)[j]? = some u → cs[j]? = some u
theorem Row.lt {w : World} {g : Nat} {ps : List Pul} (h : Row w g ps) : g < w.heap.size := by
  obtain ⟨cs, h, _⟩ := h
  exact h.lt
theorem Row.at {w : World} {g : Nat} {ps : List Pul} (h : Row w g ps) : PuAt w (some ⟨g, 0, none⟩) ps := fun _ => ⟨_, rfl, fun i p hp => by
  obtain ⟨cs, h, hc⟩ := h
  obtain ⟨e1, e2⟩ := pulVals_two hp
  rw [at_add, add_new, add_new]
  exact ⟨(h.cell _).trans (hc _ _ e1), (h.cell _).trans (hc _ _ e2)⟩⟩
theorem Row.keep {w w' : World} {g : Nat} {ps : List Pul} (h : Row w g ps) (hb : Below w.heap.size w w') : Row w' g ps := by
  obtain ⟨cs, h, hc⟩ := h
  exact ⟨cs, h.keep hb, hc⟩
theorem Row.far {w : World} {g : Nat} {ps : List Pul} (h : Row w g ps) {g' : Nat} (hne : g' ≠ g) (new : Array Value) : Row (w.setRow g' new) g ps := by
  obtain ⟨cs, h, hc⟩ := h
  exact ⟨cs, h.rowFar hne new, hc⟩
theorem row_of_own {w : World} {B g n cap : Nat} {ps : List Pul} (h : w.ownsRow B 49 2 (.slice (some ⟨g, 0, none⟩) n cap) n (pulVals ps)) : Row w g ps ∧ B ≤ g := by
  rcases h.2 with ⟨h1, _⟩ | ⟨g', cap', cur, h1, h2, h3, h4, h5, h6, h7⟩
  · cases h1
  · simp only [Value.slice.injEq, Option.some.injEq, Addr.mk.injEq, and_true, true_and] at h1
    obtain ⟨rfl, rfl⟩ := h1
    refine ⟨⟨cur, h3, fun j u hj => ?_⟩, h2⟩
    rw [← h7, List.getElem?_take] at hj
    split at hj
    · simpa using hj
    · cases hj
/-- one pull of the row gets more ballast. -/
theorem Row.more {w : World} {g : Nat} {ps : List Pul} (h : Row w g ps) {j : Nat} (hj : j < ps.length) (by_ : Int) : Row (w.setCell ⟨g, j * 2 + 1, none⟩ (.int .i64 (moreP ps[j] by_).bal)) g (moreAt ps j by_) := by
  obtain ⟨cs, h, hc⟩ := h
  refine ⟨_, h.set (j * 2 + 1) _, fun i u hi => ?_⟩
  obtain ⟨_, e2⟩ := pulVals_two (List.getElem?_eq_getElem hj)
  have hjs : j * 2 + 1 < cs.size := by
    have := hc _ _ e2
    exact (Array.getElem?_eq_some_iff.1 this).1
  have hlt : i < ps.length * 2 := by
    have := (List.getElem?_eq_some_iff.1 hi).1
    rw [pulVals_len] at this
    simpa [moreAt] using this
  have hi2 : i / 2 < ps.length := by omega
  have hi2' : i / 2 < (moreAt ps j by_).length := by simp [moreAt]; exact hi2
  obtain ⟨f1, f2⟩ := pulVals_two (List.getElem?_eq_getElem hi2')
  obtain ⟨g1, g2⟩ := pulVals_two (List.getElem?_eq_getElem hi2)
  rw [moreAt_get hi2 hi2'] at f1 f2
  rcases (by omega : i = i / 2 * 2 ∨ i = i / 2 * 2 + 1) with hh | hh
  · rw [hh] at hi ⊢
    rw [f1] at hi
    rw [Array.getElem?_setIfInBounds_ne (by omega)]
    refine (hc _ _ g1).trans ?_
    rw [← hi]
    split <;> rfl
  · rw [hh] at hi ⊢
    rw [f2] at hi
    by_cases hji : j = i / 2
    · subst hji
      rw [if_pos rfl] at hi
      rw [Array.getElem?_setIfInBounds_self_of_lt hjs]
      exact hi
    · rw [if_neg hji] at hi
      rw [Array.getElem?_setIfInBounds_ne (by omega)]
      exact (hc _ _ g2).trans hi
abbrev ptrOf (g : Nat) : Value := .pointer (some ⟨g, 0, none⟩)
/-- the copying of a run and its pulls, by what is done: the empty slice (1), the append (3), the new run (4), its store (5). -/
structure Cp (X0 : World) (run : Pul) (ps : List Pul) (σ : Vals9.Sig) (w : World) : Prop where
  sn : Since X0 w
  e : ∀ v, σ 1 = some v → σ 3 = none → ∃ g, v = .slice (some ⟨g, 0, none⟩) 0 0 ∧ X0.heap.size ≤ g ∧ Blk w g 49 #[] ∧ ∀ u, σ 4 = some u → u ≠ ptrOf g
  r : ∀ v, σ 3 = some v → ∃ g cap, v = .slice (some ⟨g, 0, none⟩) ps.length cap ∧ X0.heap.size ≤ g ∧ Row w g ps ∧ ∀ u, σ 4 = some u → u ≠ ptrOf g
  a : ∀ v, σ 4 = some v → ∃ (g : Nat) (cs : Array Value), v = ptrOf g ∧ X0.heap.size ≤ g ∧ cs.size = 2 ∧ Blk w g 49 cs ∧ ∀ y, σ 5 = some y → cs = puV run
  s : ∀ y, σ 5 = some y → ∃ v, σ 4 = some v
  z : ∀ v, σ 6 = some v → σ 3 = some v
section
variable {X0 w : World} {run : Pul} {ps : List Pul} {σ : Vals9.Sig}
theorem ptr_ne {g g' : Nat} (h : g' ≠ g) : ptrOf g' ≠ ptrOf g := fun e => h (congrArg (fun v : Value => match v with | .pointer (some a) => a.block | _ => 0) e)
theorem Cp.start (X0 : World) (run : Pul) (ps : List Pul) : Cp X0 run ps (fun _ => none) X0.drew :=
  ⟨(Since.refl X0).drew, fun v h => (by cases h), fun v h => (by cases h), fun v h => (by cases h), fun v h => (by cases h), fun v h => (by cases h)⟩
theorem Cp.build (h : Cp X0 run ps σ w) : Cp X0 run ps (Vals9.upd σ 1 (.slice (some ⟨w.heap.size, 0, none⟩) 0 0)) (w.alloc (.cells #[] 49)) := by
  have hb : Below w.heap.size w (w.alloc (.cells #[] 49)) := (Below.refl _ _).alloc (Nat.le_refl _) _
  refine ⟨h.sn.alloc _, fun v hv h3 => ?_, fun v hv => ?_, fun v hv => ?_, fun y hy => ?_, fun v hv => ?_⟩
  rotate_right 2
  · rw [Vals9.upd_other _ _ (by decide)] at hy ⊢; exact h.s y hy
  · rw [Vals9.upd_other _ _ (by decide)] at hv ⊢; exact h.z v hv
  · rw [Vals9.upd_same] at hv
    obtain rfl := Option.some.inj hv
    refine ⟨_, rfl, h.sn.2, Blk.new _ _ _, fun u hu => ?_⟩
    rw [Vals9.upd_other _ _ (by decide)] at hu
    obtain ⟨g, cs, rfl, _, _, hB, _⟩ := h.a u hu
    exact ptr_ne (by have := hB.lt; omega)
  · rw [Vals9.upd_other _ _ (by decide)] at hv
    obtain ⟨g, cap, h1, h2, h3, h4⟩ := h.r v hv
    exact ⟨g, cap, h1, h2, h3.keep hb, fun u hu => h4 u (by rwa [Vals9.upd_other _ _ (by decide)] at hu)⟩
  · rw [Vals9.upd_other _ _ (by decide)] at hv
    obtain ⟨g, cs, h1, h2, h3, h4, h5⟩ := h.a v hv
    exact ⟨g, cs, h1, h2, h3, h4.keep hb, fun y hy => h5 y (by rwa [Vals9.upd_other _ _ (by decide)] at hy)⟩
theorem Cp.append (h : Cp X0 run ps σ w) {v1 : Value} (h1 : σ 1 = some v1) (h3 : σ 3 = none) {g g' cap : Nat} (hv : v1 = .slice (some ⟨g, 0, none⟩) 0 0) {w' : World}
    (hr : w'.ownsRow X0.heap.size 49 2 (.slice (some ⟨g', 0, none⟩) ps.length cap) ps.length (pulVals ps)) (hg : w.grownBy w' (some g)) (hn : g' = g ∨ g' = w.heap.size) :
    Cp X0 run ps (Vals9.upd σ 3 (.slice (some ⟨g', 0, none⟩) ps.length cap)) w' := by
  obtain ⟨gg, e1, e2, e3, e4⟩ := h.e v1 h1 h3
  have hgg : gg = g := by
    rw [e1] at hv
    simpa using hv
  subst hgg
  obtain ⟨hrow, hge⟩ := row_of_own hr
  refine ⟨since_grown h.sn hg (fun k hk => by cases hk; exact e2), fun v hv h3' => ?_, fun v hv => ?_, fun v hv => ?_, fun y hy => ?_, fun v hv => ?_⟩
  rotate_right 2
  · rw [Vals9.upd_other _ _ (by decide)] at hy ⊢; exact h.s y hy
  · rw [Vals9.upd_other _ _ (by decide)] at hv
    have := h.z v hv
    rw [h3] at this
    cases this
  · rw [Vals9.upd_same] at h3'
    cases h3'
  · rw [Vals9.upd_same] at hv
    obtain rfl := Option.some.inj hv
    refine ⟨g', cap, rfl, hge, hrow, fun u hu => ?_⟩
    rw [Vals9.upd_other _ _ (by decide)] at hu
    rcases hn with rfl | rfl
    · exact e4 u hu
    · obtain ⟨g, cs, rfl, _, _, hB, _⟩ := h.a u hu
      exact ptr_ne (by have := hB.lt; omega)
  · rw [Vals9.upd_other _ _ (by decide)] at hv
    obtain ⟨g, cs, h1, h2, h3, h4, h5⟩ := h.a v hv
    have hne : g ≠ gg := fun e => e4 v hv (by rw [h1, e])
    exact ⟨g, cs, h1, h2, h3, (hg.block g h4.lt (fun e => hne (Option.some.inj e))).trans h4, fun y hy => h5 y (by rwa [Vals9.upd_other _ _ (by decide)] at hy)⟩
theorem Cp.new (h : Cp X0 run ps σ w) (h5 : σ 5 = none) : Cp X0 run ps (Vals9.upd σ 4 (ptrOf w.heap.size)) (w.alloc (.cells #[.int .i64 0, .int .i64 0] 49)) := by
  have hb : Below w.heap.size w (w.alloc (.cells #[.int .i64 0, .int .i64 0] 49)) := (Below.refl _ _).alloc (Nat.le_refl _) _
  refine ⟨h.sn.alloc _, fun v hv h3 => ?_, fun v hv => ?_, fun v hv => ?_, fun y hy => ⟨_, Vals9.upd_same _ _ _⟩, fun v hv => ?_⟩
  rotate_right
  · rw [Vals9.upd_other _ _ (by decide)] at hv ⊢; exact h.z v hv
  · rw [Vals9.upd_other _ _ (by decide)] at hv h3
    obtain ⟨g, e1, e2, e3, e4⟩ := h.e v hv h3
    refine ⟨g, e1, e2, e3.keep hb, fun u hu => ?_⟩
    rw [Vals9.upd_same] at hu
    obtain rfl := Option.some.inj hu
    exact ptr_ne (by have := e3.lt; omega)
  · rw [Vals9.upd_other _ _ (by decide)] at hv
    obtain ⟨g, cap, h1, h2, h3, h4⟩ := h.r v hv
    refine ⟨g, cap, h1, h2, h3.keep hb, fun u hu => ?_⟩
    rw [Vals9.upd_same] at hu
    obtain rfl := Option.some.inj hu
    exact ptr_ne (by have := h3.lt; omega)
  · rw [Vals9.upd_same] at hv
    obtain rfl := Option.some.inj hv
    refine ⟨_, _, rfl, h.sn.2, rfl, Blk.new _ _ _, fun y hy => ?_⟩
    rw [Vals9.upd_other _ _ (by decide), h5] at hy
    cases hy
theorem Cp.store (h : Cp X0 run ps σ w) (h3 : ∃ v, σ 3 = some v) {g : Nat} (h4 : σ 4 = some (ptrOf g)) : Cp X0 run ps (Vals9.upd σ 5 undef) (w.setRow g (puV run)) ∧ ∃ cs : Array Value, cs.size = 2 ∧ Blk w g 49 cs := by
  obtain ⟨g4, cs, e1, e2, e3, e4, _⟩ := h.a _ h4
  have hgg : g = g4 := by simpa using e1
  subst hgg
  refine ⟨⟨h.sn.row e2 _, fun v hv h3' => ?_, fun v hv => ?_, fun v hv => ?_, fun y hy => ⟨_, by rw [Vals9.upd_other _ _ (by decide)]; exact h4⟩, fun v hv => ?_⟩, cs, e3, e4⟩
  rotate_right
  · rw [Vals9.upd_other _ _ (by decide)] at hv ⊢; exact h.z v hv
  · obtain ⟨v3, h3⟩ := h3
    rw [Vals9.upd_other _ _ (by decide), h3] at h3'
    cases h3'
  · rw [Vals9.upd_other _ _ (by decide)] at hv
    obtain ⟨g3, cap, k1, k2, k3, k4⟩ := h.r v hv
    have hne : g ≠ g3 := fun e => k4 _ h4 (by rw [e])
    exact ⟨g3, cap, k1, k2, k3.far hne _, fun u hu => k4 u (by rwa [Vals9.upd_other _ _ (by decide)] at hu)⟩
  · rw [Vals9.upd_other _ _ (by decide), h4] at hv
    obtain rfl := Option.some.inj hv
    exact ⟨g, puV run, rfl, e2, rfl, e4.row _, fun _ _ => rfl⟩
theorem Cp.give (h : Cp X0 run ps σ w) (h6 : σ 6 = none) {v : Value} (h3 : σ 3 = some v) : Cp X0 run ps (Vals9.upd σ 6 v) w :=
  ⟨h.sn, fun v hv h3' => by
      rw [Vals9.upd_other _ _ (by decide)] at hv h3'
      obtain ⟨g, e1, e2, e3, e4⟩ := h.e v hv h3'
      exact ⟨g, e1, e2, e3, fun u hu => e4 u (by rwa [Vals9.upd_other _ _ (by decide)] at hu)⟩,
    fun v hv => by
      rw [Vals9.upd_other _ _ (by decide)] at hv
      obtain ⟨g, cap, h1, h2, h3, h4⟩ := h.r v hv
      exact ⟨g, cap, h1, h2, h3, fun u hu => h4 u (by rwa [Vals9.upd_other _ _ (by decide)] at hu)⟩,
    fun v hv => by
      rw [Vals9.upd_other _ _ (by decide)] at hv
      obtain ⟨g, cs, h1, h2, h3, h4, h5⟩ := h.a v hv
      exact ⟨g, cs, h1, h2, h3, h4, fun y hy => h5 y (by rwa [Vals9.upd_other _ _ (by decide)] at hy)⟩,
    fun y hy => by rw [Vals9.upd_other _ _ (by decide)] at hy ⊢; exact h.s y hy,
    fun u hu => by
      rw [Vals9.upd_same] at hu
      rw [Vals9.upd_other _ _ (by decide), h3, hu]⟩
end
end Td
end Go.Proofs.Ytojpiliamecgkaa
