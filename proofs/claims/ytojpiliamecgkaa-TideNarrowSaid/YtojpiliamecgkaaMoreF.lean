import Derived.Test.YtojpiliamecgkaaPlanF
/- With more ballast she stops, and is pulled, no farther: the arithmetic. -/
namespace Go.Proofs.Ytojpiliamecgkaa
namespace Td
set_option linter.unusedSimpArgs false
set_option linter.unusedVariables false
/-- a pull with more ballast. -/
def moreP (p : Pul) (by_ : Int) : Pul := ⟨p.tide, min 40 (p.bal + by_)⟩
theorem moreP_ok {n : Nat} {p : Pul} {by_ : Int} (h : PuOk n p) (hb : 0 ≤ by_) : PuOk n (moreP p by_) := by
  obtain ⟨a, b, c, d⟩ := h
  exact ⟨a, b, by simp only [moreP]; omega, by simp only [moreP]; omega⟩
/-- the j-th pull has more ballast. -/
def moreAt (ps : List Pul) (j : Nat) (by_ : Int) : List Pul := ps.modify j (moreP · by_)
theorem moreAt_get {ps : List Pul} {j : Nat} {by_ : Int} {i : Nat} (h : i < ps.length) (h' : i < (moreAt ps j by_).length) : (moreAt ps j by_)[i] = if j = i then moreP ps[i] by_ else ps[i] := by
  simp only [moreAt, List.getElem_modify]
theorem pullsFrom_more {n : Nat} {by_ : Int} (hb : 0 ≤ by_) : ∀ {ps : List Pul} {prev : Int} {j : Nat}, (∀ p ∈ ps, PuOk n p) → pullsFrom n prev ps = 0 → pullsFrom n prev (moreAt ps j by_) = 0
  | [], _, _, _, _ => by simp [moreAt, pullsFrom]
  | p :: ps, prev, j, hok, h => by
    have hp := hok p (by simp)
    have hm := moreP_ok (by_ := by_) hp hb
    have e1 : runE n p.tide p.bal = 0 := runE_ok hp.t0 hp.t1 hp.b0 hp.b1
    have e2 : runE n (moreP p by_).tide (moreP p by_).bal = 0 := runE_ok hm.t0 hm.t1 hm.b0 hm.b1
    have ha : pullAtE n prev p = pullAtE n prev (moreP p by_) := by
      unfold pullAtE
      rw [e1, e2]
      rfl
    unfold pullsFrom at h
    by_cases h0 : pullAtE n prev p = 0
    · rw [if_neg (by simpa using h0)] at h
      cases j with
      | zero =>
        show (if _ then _ else _) = _
        rw [← ha, if_neg (by simpa using h0)]
        exact h
      | succ j =>
        show (if _ then _ else _) = _
        rw [if_neg (by simpa using h0)]
        exact pullsFrom_more hb (fun q hq => hok q (by simp [hq])) h
    · rw [if_pos h0] at h
      exact absurd h h0
theorem fold_more {g : Pul → Int} : ∀ {ps ps' : List Pul} {a a' : Int}, a' ≤ a → ps'.length = ps.length → (∀ i (h : i < ps.length) (h' : i < ps'.length), g ps'[i] ≤ g ps[i]) → ps'.foldl (fun a p => max a (g p)) a' ≤ ps.foldl (fun a p => max a (g p)) a
  | [], [], a, a', h, _, _ => h
  | [], _ :: _, _, _, _, h, _ => by simp at h
  | _ :: _, [], _, _, _, h, _ => by simp at h
  | p :: ps, p' :: ps', a, a', h, hl, hg => by
    simp only [List.foldl_cons]
    refine fold_more ?_ (by simpa using hl) (fun i h1 h2 => hg (i + 1) (by simpa using h1) (by simpa using h2))
    have := hg 0 (by simp) (by simp)
    simp only [List.getElem_cons_zero] at this
    omega
theorem q_mono {sl a c : Int} (h : 1 ≤ sl) (hac : a ≤ c) : q sl a ≤ q sl c := pl_mono (sl := sl) h hac
/-- a run and pulls with at least as much ballast, on the same tides. -/
structure Lad (run run' : Pul) (ps ps' : List Pul) : Prop where
  t : run'.tide = run.tide
  b : run.bal ≤ run'.bal
  len : ps'.length = ps.length
  ts : ∀ i (h : i < ps.length) (h' : i < ps'.length), ps'[i].tide = ps[i].tide ∧ ps[i].bal ≤ ps'[i].bal
theorem sink_more {k m n : Int} (h : 0 ≤ k) (hmn : m ≤ n) : -k * n ≤ -k * m := by
  have := Int.mul_le_mul_of_nonneg_left hmn h
  rw [Int.neg_mul, Int.neg_mul]; omega
theorem lie_more {b : Bch} {s : Shp} {run run' : Pul} {ps ps' : List Pul} (hB : BchOk b) (hS : ShpOk s) (h : Lad run run' ps ps') : lieLo b s run' ps' ≤ lieLo b s run ps ∧ lieHi b s run' ps' ≤ lieHi b s run ps := by
  obtain ⟨h1, h2, h3, h4⟩ := h
  have hs0 := hB.s0
  have hs1 := hB.s1
  have hl : ovl b s run' ps' ≤ ovl b s run ps := by
    unfold ovl
    refine fold_more (g := fun p => (tAt b p.tide.toNat).hlo + (tAt b p.tide.toNat).wlo + lf b s p) ?_ h3 (fun i a a' => ?_)
    · rw [h1]
      have := sink_more hS.k0 h2
      omega
    · obtain ⟨e, hb⟩ := h4 i a a'
      simp only [lf]
      rw [e]
      have := sink_more hS.k0 hb
      omega
  have hh : ovh b s run' ps' ≤ ovh b s run ps := by
    unfold ovh
    refine fold_more (g := fun p => (tAt b p.tide.toNat).hhi + (tAt b p.tide.toNat).whi + lf b s p) ?_ h3 (fun i a a' => ?_)
    · rw [h1]
      have := sink_more hS.k0 h2
      omega
    · obtain ⟨e, hb⟩ := h4 i a a'
      simp only [lf]
      rw [e]
      have := sink_more hS.k0 hb
      omega
  have a1 := q_mono (sl := b.slo) hs0 (show ovl b s run' ps' - s.dhi ≤ ovl b s run ps - s.dhi by omega)
  have a2 := q_mono (sl := b.shi) (by omega) (show ovl b s run' ps' - s.dhi ≤ ovl b s run ps - s.dhi by omega)
  have a3 := q_mono (sl := b.slo) hs0 (show ovh b s run' ps' - s.dlo ≤ ovh b s run ps - s.dlo by omega)
  have a4 := q_mono (sl := b.shi) (by omega) (show ovh b s run' ps' - s.dlo ≤ ovh b s run ps - s.dlo by omega)
  unfold lieLo lieHi
  omega
theorem stop_more {b : Bch} {s : Shp} (hB : BchOk b) (hS : ShpOk s) (i : Nat) {m n : Int} (h : m ≤ n) : rlo (bx b s i) (-s.sink * n) ≤ rlo (bx b s i) (-s.sink * m) ∧ rhi (bx b s i) (-s.sink * n) ≤ rhi (bx b s i) (-s.sink * m) := by
  have hs0 := hB.s0
  have hs1 := hB.s1
  have hk := sink_more hS.k0 h
  rw [rlo_q, rlo_q, rhi_q, rhi_q]
  have a1 := q_mono (sl := b.slo) hs0 (show (tAt b i).hlo + (tAt b i).wlo + -s.sink * n - s.dhi ≤ (tAt b i).hlo + (tAt b i).wlo + -s.sink * m - s.dhi by omega)
  have a2 := q_mono (sl := b.shi) (by omega) (show (tAt b i).hlo + (tAt b i).wlo + -s.sink * n - s.dhi ≤ (tAt b i).hlo + (tAt b i).wlo + -s.sink * m - s.dhi by omega)
  have a3 := q_mono (sl := b.slo) hs0 (show (tAt b i).hhi + (tAt b i).whi + -s.sink * n - s.dlo ≤ (tAt b i).hhi + (tAt b i).whi + -s.sink * m - s.dlo by omega)
  have a4 := q_mono (sl := b.shi) (by omega) (show (tAt b i).hhi + (tAt b i).whi + -s.sink * n - s.dlo ≤ (tAt b i).hhi + (tAt b i).whi + -s.sink * m - s.dlo by omega)
  omega
def light (s : Shp) : Shp := ⟨s.dlo, s.dhi, 0⟩
theorem light_ok {s : Shp} (h : ShpOk s) : ShpOk (light s) := ⟨h.d0, h.d1, h.d2, by simp [light], by simp [light]⟩
theorem chk_light {b : Bch} {s : Shp} (h : (chk b s).2.2 = 0) : (chk b (light s)).2.2 = 0 := by
  rw [chk_ok] at h ⊢
  exact ⟨h.1, light_ok h.2⟩
/-- what Stops comes to with ballast that does not sink her. -/
theorem light_lift (s : Shp) (n : Int) : -(light s).sink * n = 0 := by simp [light]
theorem stopsV_ok {b : Bch} {s : Shp} {tide bal : Int} (hk : (chk b s).2.2 = 0) (h0 : 0 ≤ tide) (h1 : tide < b.ts.length) (b0 : 0 ≤ bal) (b1 : bal ≤ 40) :
    stopsV b s tide bal = .tuple #[.agg #[.int .i64 (rlo (bx b s tide.toNat) (-s.sink * bal)), .int .i64 (rhi (bx b s tide.toNat) (-s.sink * bal))], .int .i64 0] := by
  unfold stopsV
  rw [if_pos (by rw [stepE_run hk]; exact runE_ok h0 h1 b0 b1)]
theorem liesV_ok {b : Bch} {s : Shp} {run : Pul} {ps : List Pul} (hk : (chk b s).2.2 = 0) (hr : PuOk b.ts.length run) (hp : pullsE b.ts.length run ps = 0) :
    liesV b s run ps = .tuple #[.agg #[.int .i64 (lieLo b s run ps), .int .i64 (lieHi b s run ps)], .int .i64 0] := by
  unfold liesV
  rw [if_pos (by rw [stepE_run hk]; exact runE_ok hr.t0 hr.t1 hr.b0 hr.b1), if_pos hp]
theorem pullsE_more {n : Nat} {by_ : Int} (hb : 0 ≤ by_) {run : Pul} {ps : List Pul} {j : Nat} (h : pullsE n run ps = 0) : pullsE n run (moreAt ps j by_) = 0 := by
  obtain ⟨h6, hok⟩ := pullsE_zero h
  have hl : (moreAt ps j by_).length ≤ 6 := by simp [moreAt]; omega
  unfold pullsE at h ⊢
  rw [if_neg (by omega)] at h
  rw [if_neg (by omega)]
  refine pullsFrom_more hb (fun p hp => ?_) h
  obtain ⟨i, hi, rfl⟩ := List.mem_iff_getElem.1 hp
  exact hok i hi
theorem lad_run {n : Nat} {run : Pul} {ps : List Pul} {by_ : Int} (hb : 0 ≤ by_) (h : run.bal ≤ 40) : Lad run (moreP run by_) ps ps :=
  ⟨rfl, by simp only [moreP]; omega, rfl, fun i h h' => ⟨rfl, Int.le_refl _⟩⟩
theorem lad_at {n : Nat} {run : Pul} {ps : List Pul} {j : Nat} {by_ : Int} (hb : 0 ≤ by_) (h : ∀ p ∈ ps, PuOk n p) : Lad run run ps (moreAt ps j by_) := by
  refine ⟨rfl, Int.le_refl _, by simp [moreAt], fun i h1 h2 => ?_⟩
  have := (h _ (List.getElem_mem h1)).b1
  rw [moreAt_get h1 h2]
  split
  · exact ⟨rfl, by simp only [moreP]; omega⟩
  · exact ⟨rfl, Int.le_refl _⟩
/-- what all calls of TideMore come to. -/
theorem more_vals {b : Bch} {s : Shp} (hk : (chk b s).2.2 = 0) {run more : Pul} {ps ps' : List Pul} (hr : PuOk b.ts.length run) (hm : PuOk b.ts.length more) (hp : pullsE b.ts.length run ps = 0) (hp' : pullsE b.ts.length more ps' = 0) (hL : Lad run more ps ps') :
    ∃ a0 a1 e0 e1 u0 u1 v0 v1 y0 y1 : Int, liesV b s run ps = .tuple #[.agg #[.int .i64 a0, .int .i64 a1], .int .i64 0] ∧ liesV b s more ps' = .tuple #[.agg #[.int .i64 e0, .int .i64 e1], .int .i64 0] ∧
      stopsV b (light s) run.tide run.bal = .tuple #[.agg #[.int .i64 u0, .int .i64 u1], .int .i64 0] ∧ stopsV b (light s) run.tide more.bal = .tuple #[.agg #[.int .i64 u0, .int .i64 u1], .int .i64 0] ∧
      stopsV b s run.tide run.bal = .tuple #[.agg #[.int .i64 v0, .int .i64 v1], .int .i64 0] ∧ stopsV b s run.tide more.bal = .tuple #[.agg #[.int .i64 y0, .int .i64 y1], .int .i64 0] ∧
      e0 ≤ a0 ∧ e1 ≤ a1 ∧ y0 ≤ v0 ∧ y1 ≤ v1 := by
  obtain ⟨hB, hS⟩ := chk_ok.1 hk
  obtain ⟨l1, l2⟩ := lie_more hB hS hL
  obtain ⟨k1, k2⟩ := stop_more hB hS run.tide.toNat hL.b
  refine ⟨_, _, _, _, _, _, _, _, _, _, liesV_ok hk hr hp, liesV_ok hk hm hp', stopsV_ok (chk_light hk) hr.t0 hr.t1 hr.b0 hr.b1, ?_, stopsV_ok hk hr.t0 hr.t1 hr.b0 hr.b1, stopsV_ok hk hr.t0 hr.t1 hm.b0 hm.b1, l1, l2, k1, k2⟩
  rw [stopsV_ok (chk_light hk) hr.t0 hr.t1 hm.b0 hm.b1, light_lift, light_lift]
end Td
end Go.Proofs.Ytojpiliamecgkaa
