import Derived.Test.YtojpiliamecgkaaMoreF
/- All heights and drafts more by the same number: the arithmetic. -/
namespace Go.Proofs.Ytojpiliamecgkaa
namespace Td
set_option linter.unusedSimpArgs false
set_option linter.unusedVariables false
def mvT (k : Int) (t : Tid) : Tid := ⟨t.day, t.hlo + k, t.hhi + k, t.wlo, t.whi⟩
def mvB (k : Int) (b : Bch) : Bch := ⟨b.slo, b.shi, b.mlo, b.mhi, b.bite, b.ts.map (mvT k)⟩
def mvS (k : Int) (s : Shp) : Shp := ⟨s.dlo + k, s.dhi + k, s.sink⟩
theorem mvB_len (k : Int) (b : Bch) : (mvB k b).ts.length = b.ts.length := by simp [mvB]
theorem mvB_at {k : Int} {b : Bch} {i : Nat} (h : i < b.ts.length) : tAt (mvB k b) i = mvT k (tAt b i) := by
  rw [tAt_eq h, tAt_eq (by rw [mvB_len]; exact h)]
  simp [mvB]
theorem prevDay_mv {k : Int} {b : Bch} {i : Nat} (h : i < b.ts.length) : prevDay (mvB k b).ts i = prevDay b.ts i := by
  match i, h with
  | 0, h => rfl
  | j + 1, h =>
    simp only [prevDay, mvB]
    rw [List.getElem?_eq_getElem (show j < (b.ts.map (mvT k)).length by simp; omega), List.getElem?_eq_getElem (show j < b.ts.length by omega)]
    simp [mvT]
theorem tidE_mv {k p : Int} {t : Tid} (h : TidOk t) (hp : p ≤ t.day) : tidE p (mvT k t) = 0 ∨ tidE p (mvT k t) = 7 := by
  obtain ⟨d0, d1, h0, h1, h2, w0, w1, w2⟩ := h
  unfold tidE
  split
  · left
    have : (tn [((mvT k t).hlo, (mvT k t).hhi), ((mvT k t).wlo, (mvT k t).whi)] || decide ((mvT k t).day < p)) = false := by
      simp only [tn, List.any_cons, List.any_nil, Bool.or_false, Bool.or_eq_false_iff, decide_eq_false_iff_not, mvT]
      exact ⟨by omega, decide_eq_false (by omega)⟩
    rw [this]
    rfl
  · exact .inr rfl
theorem tides_two {ts : List Tid} (hw : wi 1 12 ts.length = true) (h : ∀ j, j < ts.length → tidAtE ts j = 0 ∨ tidAtE ts j = 7) : (tidesE ts).2 = 0 ∨ (tidesE ts).2 = 7 := by
  unfold tidesE
  rw [if_pos hw]
  cases hf : (List.range ts.length).find? (fun i => tidAtE ts i != 0) with
  | none => exact .inl rfl
  | some i => exact h i (List.mem_range.1 (List.mem_of_find?_eq_some hf))
theorem mv_err {b : Bch} {s : Shp} (h : (chk b s).2.2 = 0) {k : Int} : (chk (mvB k b) (mvS k s)).2.2 = 0 ∨ (chk (mvB k b) (mvS k s)).2.2 = 7 := by
  obtain ⟨hB, hS⟩ := chk_ok.1 h
  obtain ⟨h1, h2, h3⟩ := chk_e.1 h
  have e1 : beachE (mvB k b) = 0 := h1
  have e2 : (tidesE (mvB k b).ts).2 = 0 ∨ (tidesE (mvB k b).ts).2 = 7 := by
    refine tides_two (by rw [mvB_len, wi_iff]; have := hB.n0; have := hB.n1; omega) fun j hj => ?_
    have hj' : j < b.ts.length := by rwa [mvB_len] at hj
    rw [tidAtE_eq hj, prevDay_mv hj']
    have e : (mvB k b).ts[j] = mvT k b.ts[j] := by simp [mvB]
    rw [e]
    refine tidE_mv (hB.ts j hj') ?_
    match j, hj' with
    | 0, hj' => simp only [prevDay]; exact (hB.ts 0 hj').d0
    | j + 1, hj' =>
      simp only [prevDay]
      rw [List.getElem?_eq_getElem (show j < b.ts.length by omega)]
      exact hB.days j hj'
  have e3 : shipE (mvS k s) = 0 ∨ shipE (mvS k s) = 7 := by
    unfold shipE
    split
    · left
      have : tn [((mvS k s).dlo, (mvS k s).dhi)] = false := by
        have := hS.d1
        simp only [tn, List.any_cons, List.any_nil, Bool.or_false, decide_eq_false_iff_not, mvS]
        omega
      rw [this]; rfl
    · exact .inr rfl
  unfold chk
  rw [e1]
  rcases e2 with e2 | e2 <;> rcases e3 with e3 | e3 <;> simp [e2, e3]
theorem pl_mv (k sl dr he wn lift : Int) : pl sl (dr + k) (he + k) wn lift = pl sl dr he wn lift := by
  unfold pl
  rw [show he + k + wn - (dr + k) + lift = he + wn - dr + lift by omega]
theorem bx_mv {b : Bch} {s : Shp} {k : Int} {i : Nat} (h : i < b.ts.length) (lift : Int) : rlo (bx (mvB k b) (mvS k s) i) lift = rlo (bx b s i) lift ∧ rhi (bx (mvB k b) (mvS k s) i) lift = rhi (bx b s i) lift := by
  unfold rlo rhi bx
  rw [mvB_at h]
  simp only [mvB, mvS, mvT, pl_mv, and_self]
theorem does_mv {b : Bch} {s : Shp} {k : Int} {i : Nat} (h : i < b.ts.length) (n : Nat) : doesB (mvB k b) (mvS k s) i n = doesB b s i n := by
  obtain ⟨e1, e2⟩ := bx_mv (s := s) (k := k) h (-s.sink * (n : Int))
  unfold doesB sur
  rw [show (mvS k s).sink = s.sink from rfl, e1, e2]
  rfl
theorem ash_mv {b : Bch} {s : Shp} {k : Int} (n : Nat) : ashL (mvB k b) (mvS k s) n (mvB k b).ts.length = ashL b s n b.ts.length := by
  rw [mvB_len]
  unfold ashL
  congr 1
  apply List.filter_congr
  intro i hi
  exact does_mv (List.mem_range.1 hi) n
theorem fold_shift {g g' : Pul → Int} {k : Int} : ∀ {ps : List Pul} {a : Int}, (∀ p ∈ ps, g' p = g p + k) → ps.foldl (fun a p => max a (g' p)) (a + k) = ps.foldl (fun a p => max a (g p)) a + k
  | [], a, _ => rfl
  | p :: ps, a, h => by
    simp only [List.foldl_cons]
    rw [h p (by simp), show max (a + k) (g p + k) = max a (g p) + k by omega]
    exact fold_shift fun q hq => h q (by simp [hq])
theorem lie_mv {b : Bch} {s : Shp} {k : Int} {run : Pul} {ps : List Pul} (hr : PuOk b.ts.length run) (hp : ∀ p ∈ ps, PuOk b.ts.length p) : lieLo (mvB k b) (mvS k s) run ps = lieLo b s run ps ∧ lieHi (mvB k b) (mvS k s) run ps = lieHi b s run ps := by
  have hi : ∀ {p : Pul}, PuOk b.ts.length p → p.tide.toNat < b.ts.length := fun {p} h => by have := h.t0; have := h.t1; omega
  have el : ovl (mvB k b) (mvS k s) run ps = ovl b s run ps + k := by
    unfold ovl
    rw [mvB_at (hi hr), show (mvT k (tAt b run.tide.toNat)).hlo + (mvT k (tAt b run.tide.toNat)).wlo + -(mvS k s).sink * run.bal = (tAt b run.tide.toNat).hlo + (tAt b run.tide.toNat).wlo + -s.sink * run.bal + k by simp only [mvT, mvS]; omega]
    refine fold_shift fun p hq => ?_
    rw [mvB_at (hi (hp p hq))]
    simp only [mvT, lf, mvS, mvB]; omega
  have eh : ovh (mvB k b) (mvS k s) run ps = ovh b s run ps + k := by
    unfold ovh
    rw [mvB_at (hi hr), show (mvT k (tAt b run.tide.toNat)).hhi + (mvT k (tAt b run.tide.toNat)).whi + -(mvS k s).sink * run.bal = (tAt b run.tide.toNat).hhi + (tAt b run.tide.toNat).whi + -s.sink * run.bal + k by simp only [mvT, mvS]; omega]
    refine fold_shift fun p hq => ?_
    rw [mvB_at (hi (hp p hq))]
    simp only [mvT, lf, mvS, mvB]; omega
  unfold lieLo lieHi
  rw [el, eh]
  simp only [mvS, mvB]
  rw [show ovl b s run ps + k - (s.dhi + k) = ovl b s run ps - s.dhi by omega, show ovh b s run ps + k - (s.dlo + k) = ovh b s run ps - s.dlo by omega]
  exact ⟨rfl, rfl⟩
theorem liesV_bad {b : Bch} {s : Shp} {run : Pul} {ps : List Pul} (hk : (chk b s).2.2 ≠ 0) : liesV b s run ps = .tuple #[.agg #[.int .i64 0, .int .i64 0], .int .i64 (chk b s).2.2] := by
  have h0 : stepE b s run.tide run.bal ≠ 0 := by rw [stepE_chk hk]; exact hk
  unfold liesV
  rw [if_neg h0, stepE_chk hk]
/-- what all calls of TideMoved come to, of what is valid. -/
theorem moved_vals {b : Bch} {s : Shp} (hk : (chk b s).2.2 = 0) {k : Int} (hk2 : (chk (mvB k b) (mvS k s)).2.2 = 0) {run : Pul} {ps : List Pul} (hr : PuOk b.ts.length run) (hpp : ∀ p ∈ ps, PuOk b.ts.length p) (hp : pullsE b.ts.length run ps = 0) :
    ∃ a0 a1 : Int, liesV b s run ps = .tuple #[.agg #[.int .i64 a0, .int .i64 a1], .int .i64 0] ∧ liesV (mvB k b) (mvS k s) run ps = .tuple #[.agg #[.int .i64 a0, .int .i64 a1], .int .i64 0] := by
  obtain ⟨e1, e2⟩ := lie_mv (s := s) (k := k) hr hpp
  refine ⟨_, _, liesV_ok hk hr hp, ?_⟩
  rw [liesV_ok hk2 (by rw [mvB_len]; exact hr) (by rw [mvB_len]; exact hp), e1, e2]
end Td
end Go.Proofs.Ytojpiliamecgkaa
