import Derived.Test.YtojpiliamecgkaaMovedF
import Derived.Test.YtojpiliamecgkaaPulledF
/- Narrower ranges: the arithmetic. -/
namespace Go.Proofs.Ytojpiliamecgkaa
namespace Td
set_option linter.unusedSimpArgs false
set_option linter.unusedVariables false
/-- a tide, narrower around a height and a wind. -/
def nrT (t : Tid) (he wn k : Int) : Tid := ⟨t.day, max t.hlo (he - k), min t.hhi (he + k), max t.wlo (wn - k), min t.whi (wn + k)⟩
/-- the tide i, narrower around the truth. -/
def nrI (b : Bch) (s : Shp) (l : List Int) (k : Int) (i : Nat) : Tid := nrT (tAt b i) (trt b s l i).2.2.1 (trt b s l i).2.2.2 k
def nrTs (b : Bch) (s : Shp) (l : List Int) (k : Int) : List Tid := (List.range b.ts.length).map (nrI b s l k)
def nrB (b : Bch) (s : Shp) (l : List Int) (k : Int) : Bch := ⟨max b.slo ((trt b s l 0).1 - k), min b.shi ((trt b s l 0).1 + k), max (-2000000) (b.mlo - k), min 2000000 (b.mhi + k), b.bite, nrTs b s l k⟩
def nrS (b : Bch) (s : Shp) (l : List Int) (k : Int) : Shp := ⟨max s.dlo ((trt b s l 0).2.1 - k), min s.dhi ((trt b s l 0).2.1 + k), s.sink⟩
theorem trt_same (b : Bch) (s : Shp) (l : List Int) (i : Nat) : (trt b s l i).1 = (trt b s l 0).1 ∧ (trt b s l i).2.1 = (trt b s l 0).2.1 := ⟨rfl, rfl⟩
theorem nrTs_len (b : Bch) (s : Shp) (l : List Int) (k : Int) : (nrTs b s l k).length = b.ts.length := by simp [nrTs]
theorem nrTs_take {b : Bch} {s : Shp} {l : List Int} {k : Int} {n : Nat} (h : n < b.ts.length) : (nrTs b s l k).take (n + 1) = (nrTs b s l k).take n ++ [nrI b s l k n] := by
  rw [List.take_succ_eq_append_getElem (by rw [nrTs_len]; exact h)]
  simp [nrTs]
theorem nr_at {b : Bch} {s : Shp} {l : List Int} {k : Int} {i : Nat} (h : i < b.ts.length) : tAt (nrB b s l k) i = nrI b s l k i := by
  rw [tAt_eq (show i < (nrB b s l k).ts.length by simp only [nrB]; rw [nrTs_len]; exact h)]
  simp [nrB, nrTs]
theorem trt_bd {b : Bch} {s : Shp} (hB : BchOk b) (hS : ShpOk s) (l : List Int) {i : Nat} (hi : i < b.ts.length) :
    (b.slo ≤ (trt b s l i).1 ∧ (trt b s l i).1 ≤ b.shi) ∧ (s.dlo ≤ (trt b s l i).2.1 ∧ (trt b s l i).2.1 ≤ s.dhi) ∧ ((tAt b i).hlo ≤ (trt b s l i).2.2.1 ∧ (trt b s l i).2.2.1 ≤ (tAt b i).hhi) ∧ ((tAt b i).wlo ≤ (trt b s l i).2.2.2 ∧ (trt b s l i).2.2.2 ≤ (tAt b i).whi) := by
  obtain ⟨h0, h1, h2, h3, h4, h5, h6, h7⟩ := truthV_in (bx_ok hB hS hi) i l
  exact ⟨⟨h0, h1⟩, ⟨h2, h3⟩, ⟨h4, h5⟩, ⟨h6, h7⟩⟩
theorem nr_ok {b : Bch} {s : Shp} (hk : (chk b s).2.2 = 0) (l : List Int) {k : Int} (h0 : 0 ≤ k) : (chk (nrB b s l k) (nrS b s l k)).2.2 = 0 := by
  obtain ⟨hB, hS⟩ := chk_ok.1 hk
  rw [chk_ok]
  have hn0 := hB.n0
  have hn1 := hB.n1
  obtain ⟨⟨a0, a1⟩, ⟨a2, a3⟩, _, _⟩ := trt_bd hB hS l (i := 0) (by omega)
  have := hB.s0
  have := hB.s1
  have := hB.s2
  have := hB.m0
  have := hB.m1
  have := hB.m2
  have := hB.b0
  have := hB.b1
  have := hS.d0
  have := hS.d1
  have := hS.d2
  have hel : ∀ (i : Nat) (h : i < (nrB b s l k).ts.length), (nrB b s l k).ts[i] = nrI b s l k i := fun i h => by simp [nrB, nrTs]
  have hlt : ∀ (i : Nat), i < (nrB b s l k).ts.length → i < b.ts.length := fun i h => by simp only [nrB] at h; rwa [nrTs_len] at h
  refine ⟨⟨by simp only [nrB]; omega, by simp only [nrB]; omega, by simp only [nrB]; omega, by simp only [nrB]; omega, by simp only [nrB]; omega, by simp only [nrB]; omega, by simp only [nrB]; omega, by simp only [nrB]; omega, by simp only [nrB]; rw [nrTs_len]; omega, by simp only [nrB]; rw [nrTs_len]; omega, fun i h => ?_, fun i h => ?_⟩, ⟨by simp only [nrS]; omega, by simp only [nrS]; omega, by simp only [nrS]; omega, hS.k0, hS.k1⟩⟩
  · rw [hel i h]
    have hi := hlt i h
    have ht := hB.ts i hi
    rw [← tAt_eq hi] at ht
    obtain ⟨_, _, ⟨q0, q1⟩, ⟨q2, q3⟩⟩ := trt_bd hB hS l hi
    obtain ⟨_, _, _, _, _, _, _, _⟩ := ht
    exact ⟨by simp only [nrI, nrT]; omega, by simp only [nrI, nrT]; omega, by simp only [nrI, nrT]; omega, by simp only [nrI, nrT]; omega, by simp only [nrI, nrT]; omega, by simp only [nrI, nrT]; omega, by simp only [nrI, nrT]; omega, by simp only [nrI, nrT]; omega⟩
  · rw [hel i (by omega), hel (i + 1) h]
    have hi := hlt (i + 1) h
    have hd := hB.days i hi
    simp only [nrI, nrT]
    rw [tAt_eq hi, tAt_eq (show i < b.ts.length by omega)]
    exact hd
/-- a box in a box. -/
structure Sub (y x : Box) : Prop where
  s0 : x.slo ≤ y.slo
  s1 : y.shi ≤ x.shi
  d0 : x.dlo ≤ y.dlo
  d1 : y.dhi ≤ x.dhi
  h0 : x.hlo ≤ y.hlo
  h1 : y.hhi ≤ x.hhi
  w0 : x.wlo ≤ y.wlo
  w1 : y.whi ≤ x.whi
theorem sub_r {x y : Box} (hx : BoxOk x) (hy : BoxOk y) (h : Sub y x) (lift : Int) : rlo x lift ≤ rlo y lift ∧ rhi y lift ≤ rhi x lift := by
  obtain ⟨a0, a1, a2, a3, a4, a5, a6, a7⟩ := h
  have y1 := hy.s1
  have y2 := hy.d1
  have y3 := hy.h1
  have y4 := hy.w1
  have e1 := pl_in lift hx (sl := y.slo) (dr := y.dhi) (he := y.hlo) (wn := y.wlo) ⟨by omega, by omega, by omega, by omega, by omega, by omega, by omega, by omega⟩
  have e2 := pl_in lift hx (sl := y.shi) (dr := y.dhi) (he := y.hlo) (wn := y.wlo) ⟨by omega, by omega, by omega, by omega, by omega, by omega, by omega, by omega⟩
  have e3 := pl_in lift hx (sl := y.slo) (dr := y.dlo) (he := y.hhi) (wn := y.whi) ⟨by omega, by omega, by omega, by omega, by omega, by omega, by omega, by omega⟩
  have e4 := pl_in lift hx (sl := y.shi) (dr := y.dlo) (he := y.hhi) (wn := y.whi) ⟨by omega, by omega, by omega, by omega, by omega, by omega, by omega, by omega⟩
  have hl : rlo y lift = min (pl y.slo y.dhi y.hlo y.wlo lift) (pl y.shi y.dhi y.hlo y.wlo lift) := rfl
  have hr : rhi y lift = max (pl y.slo y.dlo y.hhi y.whi lift) (pl y.shi y.dlo y.hhi y.whi lift) := rfl
  omega
theorem nr_sub {b : Bch} {s : Shp} (l : List Int) {k : Int} {i : Nat} (h : i < b.ts.length) : Sub (bx (nrB b s l k) (nrS b s l k) i) (bx b s i) := by
  unfold bx
  rw [nr_at h]
  exact ⟨by simp only [nrB]; omega, by simp only [nrB]; omega, by simp only [nrS]; omega, by simp only [nrS]; omega, by simp only [nrI, nrT]; omega, by simp only [nrI, nrT]; omega, by simp only [nrI, nrT]; omega, by simp only [nrI, nrT]; omega⟩
theorem nr_r {b : Bch} {s : Shp} (hk : (chk b s).2.2 = 0) (l : List Int) {k : Int} (h0 : 0 ≤ k) {i : Nat} (h : i < b.ts.length) (lift : Int) :
    rlo (bx b s i) lift ≤ rlo (bx (nrB b s l k) (nrS b s l k) i) lift ∧ rhi (bx (nrB b s l k) (nrS b s l k) i) lift ≤ rhi (bx b s i) lift := by
  obtain ⟨hB, hS⟩ := chk_ok.1 hk
  obtain ⟨hB', hS'⟩ := chk_ok.1 (nr_ok hk l h0)
  exact sub_r (bx_ok hB hS h) (bx_ok hB' hS' (by simp only [nrB]; rw [nrTs_len]; exact h)) (nr_sub l h) lift
theorem nr_lie {b : Bch} {s : Shp} (hk : (chk b s).2.2 = 0) (l : List Int) {k : Int} (h0 : 0 ≤ k) {run : Pul} (hr : PuOk b.ts.length run) : ∀ (n : Nat) (ps : List Pul), ps.length = n → (∀ p ∈ ps, PuOk b.ts.length p) →
    lieLo b s run ps ≤ lieLo (nrB b s l k) (nrS b s l k) run ps ∧ lieHi (nrB b s l k) (nrS b s l k) run ps ≤ lieHi b s run ps
  | 0, ps, hn, _ => by
    obtain rfl : ps = [] := List.length_eq_zero_iff.1 hn
    rw [(lie0 b s run).1, (lie0 b s run).2, (lie0 _ _ run).1, (lie0 _ _ run).2]
    exact nr_r hk l h0 (toNat_lt hr) _
  | n + 1, ps, hn, hp => by
    have hne : ps ≠ [] := fun e => by simp [e] at hn
    obtain ⟨hB, hS⟩ := chk_ok.1 hk
    obtain ⟨hB', hS'⟩ := chk_ok.1 (nr_ok hk l h0)
    have hs0 := hB.s0
    have hs1 := hB.s1
    have hs0' := hB'.s0
    have hs1' := hB'.s1
    have hi := nr_lie hk l h0 hr n ps.dropLast (by simp [hn]) (fun p hq => hp p (List.dropLast_subset _ hq))
    have hl := nr_r hk l h0 (toNat_lt (hp _ (List.getLast_mem hne))) (lf b s (ps.getLast hne))
    have hlf : lf (nrB b s l k) (nrS b s l k) (ps.getLast hne) = lf b s (ps.getLast hne) := rfl
    rw [← List.dropLast_concat_getLast hne, lieLo_snoc hs0 (by omega), lieHi_snoc hs0 (by omega), lieLo_snoc hs0' (by omega), lieHi_snoc hs0' (by omega), hlf]
    omega
theorem nr_does {b : Bch} {s : Shp} (hk : (chk b s).2.2 = 0) (l : List Int) {k : Int} (h0 : 0 ≤ k) {i : Nat} (h : i < b.ts.length) {n : Nat} (hd : doesB b s i n = true) : doesB (nrB b s l k) (nrS b s l k) i n = true := by
  obtain ⟨hB, hS⟩ := chk_ok.1 hk
  have hm0 := hB.m0
  have hm2 := hB.m2
  unfold doesB at hd ⊢
  rw [sur_iff] at hd ⊢
  have := nr_r hk l h0 h (-s.sink * (n : Int))
  rw [show (nrS b s l k).sink = s.sink from rfl]
  simp only [nrB] at this ⊢
  omega
theorem nr_ash {b : Bch} {s : Shp} (hk : (chk b s).2.2 = 0) (l : List Int) {k : Int} (h0 : 0 ≤ k) {n : Nat} : ∀ x ∈ ashL b s n b.ts.length, x ∈ ashL (nrB b s l k) (nrS b s l k) n (nrB b s l k).ts.length := by
  intro x hx
  have hlen : (nrB b s l k).ts.length = b.ts.length := by simp only [nrB]; rw [nrTs_len]
  rw [hlen]
  unfold ashL at hx ⊢
  simp only [List.mem_map, List.mem_filter, List.mem_range] at hx ⊢
  obtain ⟨i, ⟨h1, h2⟩, h3⟩ := hx
  exact ⟨i, ⟨h1, nr_does hk l h0 h1 h2⟩, h3⟩
/-- what all calls of TideNarrow come to. -/
theorem narrow_vals {b : Bch} {s : Shp} (hk : (chk b s).2.2 = 0) (l : List Int) {k : Int} (h0 : 0 ≤ k) {i0 : Nat} {rb : Int} {ps : List Pul} (hr : PuOk b.ts.length ⟨(i0 : Int), rb⟩) (hpp : ∀ p ∈ ps, PuOk b.ts.length p) (hp : pullsE b.ts.length ⟨(i0 : Int), rb⟩ ps = 0) (n : Nat) :
    ∃ (a0 a1 b0 b1 u0 u1 v0 v1 : Int) (L M : List Int), liesV b s ⟨(i0 : Int), rb⟩ ps = .tuple #[.agg #[.int .i64 a0, .int .i64 a1], .int .i64 0] ∧ liesV (nrB b s l k) (nrS b s l k) ⟨(i0 : Int), rb⟩ ps = .tuple #[.agg #[.int .i64 b0, .int .i64 b1], .int .i64 0] ∧
      stopsV b s (i0 : Int) rb = .tuple #[.agg #[.int .i64 u0, .int .i64 u1], .int .i64 0] ∧ stopsV (nrB b s l k) (nrS b s l k) (i0 : Int) rb = .tuple #[.agg #[.int .i64 v0, .int .i64 v1], .int .i64 0] ∧
      ashL b s n b.ts.length = L ∧ ashL (nrB b s l k) (nrS b s l k) n (nrB b s l k).ts.length = M ∧ (a0 ≤ b0 ∧ b1 ≤ a1) ∧ (u0 ≤ v0 ∧ v1 ≤ u1) ∧ (∀ x ∈ L, x ∈ M) ∧ L.length ≤ b.ts.length ∧ M.length ≤ b.ts.length := by
  have hk2 := nr_ok hk l h0
  have hlen : (nrB b s l k).ts.length = b.ts.length := by simp only [nrB]; rw [nrTs_len]
  have hi0 : i0 < b.ts.length := by have := hr.t1; simp only at this; omega
  have e1 := nr_lie hk l h0 hr ps.length ps rfl hpp
  have e2 := nr_r hk l h0 hi0 (-s.sink * rb)
  exact ⟨_, _, _, _, _, _, _, _, _, _, liesV_ok hk hr hp, liesV_ok hk2 (by rw [hlen]; exact hr) (by rw [hlen]; exact hp), stopsV_ok hk hr.t0 hr.t1 hr.b0 hr.b1, stopsV_ok hk2 hr.t0 (by rw [hlen]; exact hr.t1) hr.b0 hr.b1, rfl, rfl, e1, e2, nr_ash hk l h0, ashL_len b s n b.ts.length, by have := ashL_len (nrB b s l k) (nrS b s l k) n (nrB b s l k).ts.length; rw [hlen] at this; rw [hlen]; exact this⟩
end Td
end Go.Proofs.Ytojpiliamecgkaa
