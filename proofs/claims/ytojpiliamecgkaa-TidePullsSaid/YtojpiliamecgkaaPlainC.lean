import Derived.Test.YtojpiliamecgkaaPlainB
/- The plain mathematics of layer 2, third part: where she can lie, the first truth beyond the marks, the tides that do. -/
namespace Go.Proofs.Ytojpiliamecgkaa
namespace Td
/-! ### the first number that does not -/
def fst (p : Int → Bool) (lo : Int) : Nat → Int
  | 0 => lo
  | k + 1 => if p lo then fst p (lo + 1) k else lo
theorem fst_eq {p : Int → Bool} : ∀ {k : Nat} {lo n : Int}, lo ≤ n → n ≤ lo + k → p n = false → (∀ j, lo ≤ j → j < n → p j = true) → fst p lo k = n
  | 0, lo, n, h1, h2, _, _ => by simp only [fst]; omega
  | k + 1, lo, n, h1, h2, h3, h4 => by
    rcases Int.lt_or_le lo n with h | h
    · simp only [fst, h4 lo (by omega) h, if_true]
      exact fst_eq (by omega) (by omega) h3 (fun j a b => h4 j (by omega) b)
    · obtain rfl : lo = n := by omega
      simp [fst, h3]
theorem fst_spec {p : Int → Bool} : ∀ {k : Nat} {lo : Int}, (∃ n, lo ≤ n ∧ n ≤ lo + k ∧ p n = false) → lo ≤ fst p lo k ∧ fst p lo k ≤ lo + k ∧ p (fst p lo k) = false ∧ ∀ j, lo ≤ j → j < fst p lo k → p j = true
  | 0, lo, ⟨n, h1, h2, h3⟩ => by
    obtain rfl : lo = n := by omega
    simp only [fst]
    exact ⟨by omega, by omega, h3, fun j a b => by omega⟩
  | k + 1, lo, ⟨n, h1, h2, h3⟩ => by
    cases h : p lo with
    | false =>
      simp only [fst, h, Bool.false_eq_true, if_false]
      exact ⟨by omega, by omega, trivial, fun j a b => by omega⟩
    | true =>
      simp only [fst, h, if_true]
      have hne : lo ≠ n := fun e => by rw [e, h3] at h; cases h
      obtain ⟨a, b, c, d⟩ := fst_spec (p := p) (k := k) (lo := lo + 1) ⟨n, by omega, by omega, h3⟩
      refine ⟨by omega, by omega, c, fun j h5 h6 => ?_⟩
      rcases Int.lt_or_le lo j with h7 | h7
      · exact d j (by omega) h6
      · obtain rfl : lo = j := by omega
        exact h
/-- a box with one of its four numbers known. -/
def x0 (x : Box) (n : Int) : Box := { x with slo := n, shi := n }
def x1 (x : Box) (n : Int) : Box := { x with dlo := n, dhi := n }
def x2 (x : Box) (n : Int) : Box := { x with hlo := n, hhi := n }
def x3 (x : Box) (n : Int) : Box := { x with wlo := n, whi := n }
theorem x0_ok {x : Box} (h : BoxOk x) {n : Int} (a : x.slo ≤ n) (b : n ≤ x.shi) : BoxOk (x0 x n) := by
  obtain ⟨_, _, _, _, _, _, _, _, _, _, _, _⟩ := h
  exact ⟨by simp only [x0]; omega, by simp only [x0]; omega, by simp only [x0]; omega, by assumption, by assumption, by assumption, by assumption, by assumption, by assumption, by assumption, by assumption, by assumption⟩
theorem x1_ok {x : Box} (h : BoxOk x) {n : Int} (a : x.dlo ≤ n) (b : n ≤ x.dhi) : BoxOk (x1 x n) := by
  obtain ⟨_, _, _, _, _, _, _, _, _, _, _, _⟩ := h
  exact ⟨by assumption, by assumption, by assumption, by simp only [x1]; omega, by simp only [x1]; omega, by simp only [x1]; omega, by assumption, by assumption, by assumption, by assumption, by assumption, by assumption⟩
theorem x2_ok {x : Box} (h : BoxOk x) {n : Int} (a : x.hlo ≤ n) (b : n ≤ x.hhi) : BoxOk (x2 x n) := by
  obtain ⟨_, _, _, _, _, _, _, _, _, _, _, _⟩ := h
  exact ⟨by assumption, by assumption, by assumption, by assumption, by assumption, by assumption, by simp only [x2]; omega, by simp only [x2]; omega, by simp only [x2]; omega, by assumption, by assumption, by assumption⟩
theorem x3_ok {x : Box} (h : BoxOk x) {n : Int} (a : x.wlo ≤ n) (b : n ≤ x.whi) : BoxOk (x3 x n) := by
  obtain ⟨_, _, _, _, _, _, _, _, _, _, _, _⟩ := h
  exact ⟨by assumption, by assumption, by assumption, by assumption, by assumption, by assumption, by assumption, by assumption, by assumption, by simp only [x3]; omega, by simp only [x3]; omega, by simp only [x3]; omega⟩
theorem sur_no {mlo mhi : Int} {x : Box} {lift : Int} : sur mlo mhi x lift = false ↔ rlo x lift < mlo ∨ mhi < rhi x lift := by
  rw [Bool.eq_false_iff, Ne, sur_iff]; omega
theorem miss0 {mlo mhi : Int} {x : Box} {lift : Int} (hx : BoxOk x) (h : sur mlo mhi x lift = false) : ∃ n, x.slo ≤ n ∧ n ≤ x.slo + (x.shi - x.slo).toNat ∧ sur mlo mhi (x0 x n) lift = false := by
  have hs := hx.s1
  have e1 : sur mlo mhi (x0 x x.slo) lift = false ∨ sur mlo mhi (x0 x x.shi) lift = false := by
    rw [sur_no, sur_no]; rw [sur_no] at h
    simp only [rlo, rhi, x0] at h ⊢
    omega
  rcases e1 with e | e
  · exact ⟨x.slo, by omega, by omega, e⟩
  · exact ⟨x.shi, by omega, by omega, e⟩
theorem miss1 {mlo mhi : Int} {x : Box} {lift : Int} (hx : BoxOk x) (h : sur mlo mhi x lift = false) : ∃ n, x.dlo ≤ n ∧ n ≤ x.dlo + (x.dhi - x.dlo).toNat ∧ sur mlo mhi (x1 x n) lift = false := by
  have hs := hx.d1
  have e1 : sur mlo mhi (x1 x x.dlo) lift = false ∨ sur mlo mhi (x1 x x.dhi) lift = false := by
    rw [sur_no, sur_no]; rw [sur_no] at h
    simp only [rlo, rhi, x1] at h ⊢
    omega
  rcases e1 with e | e
  · exact ⟨x.dlo, by omega, by omega, e⟩
  · exact ⟨x.dhi, by omega, by omega, e⟩
theorem miss2 {mlo mhi : Int} {x : Box} {lift : Int} (hx : BoxOk x) (h : sur mlo mhi x lift = false) : ∃ n, x.hlo ≤ n ∧ n ≤ x.hlo + (x.hhi - x.hlo).toNat ∧ sur mlo mhi (x2 x n) lift = false := by
  have hs := hx.h1
  have e1 : sur mlo mhi (x2 x x.hlo) lift = false ∨ sur mlo mhi (x2 x x.hhi) lift = false := by
    rw [sur_no, sur_no]; rw [sur_no] at h
    simp only [rlo, rhi, x2] at h ⊢
    omega
  rcases e1 with e | e
  · exact ⟨x.hlo, by omega, by omega, e⟩
  · exact ⟨x.hhi, by omega, by omega, e⟩
theorem miss3 {mlo mhi : Int} {x : Box} {lift : Int} (hx : BoxOk x) (h : sur mlo mhi x lift = false) : ∃ n, x.wlo ≤ n ∧ n ≤ x.wlo + (x.whi - x.wlo).toNat ∧ sur mlo mhi (x3 x n) lift = false := by
  have hs := hx.w1
  have e1 : sur mlo mhi (x3 x x.wlo) lift = false ∨ sur mlo mhi (x3 x x.whi) lift = false := by
    rw [sur_no, sur_no]; rw [sur_no] at h
    simp only [rlo, rhi, x3] at h ⊢
    omega
  rcases e1 with e | e
  · exact ⟨x.wlo, by omega, by omega, e⟩
  · exact ⟨x.whi, by omega, by omega, e⟩
/-- the four numbers of the first truth beyond the marks, one after the other. -/
def m0 (mlo mhi : Int) (x : Box) (lift : Int) : Int := fst (fun n => sur mlo mhi (x0 x n) lift) x.slo (x.shi - x.slo).toNat
def y1 (mlo mhi : Int) (x : Box) (lift : Int) : Box := x0 x (m0 mlo mhi x lift)
def m1 (mlo mhi : Int) (x : Box) (lift : Int) : Int := fst (fun n => sur mlo mhi (x1 (y1 mlo mhi x lift) n) lift) x.dlo (x.dhi - x.dlo).toNat
def y2 (mlo mhi : Int) (x : Box) (lift : Int) : Box := x1 (y1 mlo mhi x lift) (m1 mlo mhi x lift)
def m2 (mlo mhi : Int) (x : Box) (lift : Int) : Int := fst (fun n => sur mlo mhi (x2 (y2 mlo mhi x lift) n) lift) x.hlo (x.hhi - x.hlo).toNat
def y3 (mlo mhi : Int) (x : Box) (lift : Int) : Box := x2 (y2 mlo mhi x lift) (m2 mlo mhi x lift)
def m3 (mlo mhi : Int) (x : Box) (lift : Int) : Int := fst (fun n => sur mlo mhi (x3 (y3 mlo mhi x lift) n) lift) x.wlo (x.whi - x.wlo).toNat
/-- what is known of them. -/
structure Mis (mlo mhi : Int) (x : Box) (lift : Int) : Prop where
  a0 : x.slo ≤ m0 mlo mhi x lift
  a1 : m0 mlo mhi x lift ≤ x.shi
  a2 : BoxOk (y1 mlo mhi x lift)
  a3 : sur mlo mhi (y1 mlo mhi x lift) lift = false
  a4 : ∀ j, x.slo ≤ j → j < m0 mlo mhi x lift → sur mlo mhi (x0 x j) lift = true
  b0 : x.dlo ≤ m1 mlo mhi x lift
  b1 : m1 mlo mhi x lift ≤ x.dhi
  b2 : BoxOk (y2 mlo mhi x lift)
  b3 : sur mlo mhi (y2 mlo mhi x lift) lift = false
  b4 : ∀ j, x.dlo ≤ j → j < m1 mlo mhi x lift → sur mlo mhi (x1 (y1 mlo mhi x lift) j) lift = true
  c0 : x.hlo ≤ m2 mlo mhi x lift
  c1 : m2 mlo mhi x lift ≤ x.hhi
  c2 : BoxOk (y3 mlo mhi x lift)
  c3 : sur mlo mhi (y3 mlo mhi x lift) lift = false
  c4 : ∀ j, x.hlo ≤ j → j < m2 mlo mhi x lift → sur mlo mhi (x2 (y2 mlo mhi x lift) j) lift = true
  d0 : x.wlo ≤ m3 mlo mhi x lift
  d1 : m3 mlo mhi x lift ≤ x.whi
  d2 : BoxOk (x3 (y3 mlo mhi x lift) (m3 mlo mhi x lift))
  d3 : sur mlo mhi (x3 (y3 mlo mhi x lift) (m3 mlo mhi x lift)) lift = false
  d4 : ∀ j, x.wlo ≤ j → j < m3 mlo mhi x lift → sur mlo mhi (x3 (y3 mlo mhi x lift) j) lift = true
theorem mis_spec {mlo mhi : Int} {x : Box} {lift : Int} (hx : BoxOk x) (h : sur mlo mhi x lift = false) : Mis mlo mhi x lift := by
  have i0 := hx.s1
  have i1 := hx.d1
  have i2 := hx.h1
  have i3 := hx.w1
  obtain ⟨a0, a1, a2, a3⟩ := fst_spec (miss0 hx h)
  have o1 : BoxOk (y1 mlo mhi x lift) := x0_ok hx a0 (by simp only [m0]; omega)
  obtain ⟨b0, b1, b2, b3⟩ := fst_spec (miss1 o1 a2)
  have o2 : BoxOk (y2 mlo mhi x lift) := x1_ok o1 b0 (by simp only [m1]; simp only [y1, x0] at b1 ⊢; omega)
  obtain ⟨c0, c1, c2, c3⟩ := fst_spec (miss2 o2 b2)
  have o3 : BoxOk (y3 mlo mhi x lift) := x2_ok o2 c0 (by simp only [m2]; simp only [y2, y1, x1, x0] at c1 ⊢; omega)
  obtain ⟨d0, d1, d2, d3⟩ := fst_spec (miss3 o3 c2)
  have o4 : BoxOk (x3 (y3 mlo mhi x lift) (m3 mlo mhi x lift)) := x3_ok o3 d0 (by simp only [m3]; simp only [y3, y2, y1, x2, x1, x0] at d1 ⊢; omega)
  exact ⟨a0, by simp only [m0]; omega, o1, a2, a3, b0, by simp only [m1]; simp only [y1, x0] at b1 ⊢; omega, o2, b2, b3, c0, by simp only [m2]; simp only [y2, y1, x1, x0] at c1 ⊢; omega, o3, c2, c3, d0, by simp only [m3]; simp only [y3, y2, y1, x2, x1, x0] at d1 ⊢; omega, o4, d2, d3⟩
/-- the place of a box of one truth. -/
theorem point_place {mlo mhi : Int} {x : Box} {lift : Int} (h : sur mlo mhi x lift = false) (hs : x.slo = x.shi) (hd : x.dlo = x.dhi) (hh : x.hlo = x.hhi) (hw : x.wlo = x.whi) : ¬ (mlo ≤ pl x.slo x.dlo x.hlo x.wlo lift ∧ pl x.slo x.dlo x.hlo x.wlo lift ≤ mhi) := by
  rw [sur_no] at h
  simp only [rlo, rhi, ← hs, ← hd, ← hh, ← hw] at h
  omega
/-! ### where she can lie -/
def q (sl n : Int) : Int := 1000 * n / sl
theorem q_max {sl a c : Int} (h : 1 ≤ sl) : max (q sl a) (q sl c) = q sl (max a c) := by
  unfold q
  rcases Int.le_total a c with h1 | h1
  · have := pl_mono (sl := sl) h h1
    rw [show max a c = c by omega]; omega
  · have := pl_mono (sl := sl) h h1
    rw [show max a c = a by omega]; omega
/-- by how much she is above the ground's datum, but for her draft, on the tide of a pull: at least, at most. -/
def lf (b : Bch) (s : Shp) (p : Pul) : Int := -s.sink * p.bal + b.bite
def ovl (b : Bch) (s : Shp) (run : Pul) (ps : List Pul) : Int := ps.foldl (fun a p => max a ((tAt b p.tide.toNat).hlo + (tAt b p.tide.toNat).wlo + lf b s p)) ((tAt b run.tide.toNat).hlo + (tAt b run.tide.toNat).wlo + -s.sink * run.bal)
def ovh (b : Bch) (s : Shp) (run : Pul) (ps : List Pul) : Int := ps.foldl (fun a p => max a ((tAt b p.tide.toNat).hhi + (tAt b p.tide.toNat).whi + lf b s p)) ((tAt b run.tide.toNat).hhi + (tAt b run.tide.toNat).whi + -s.sink * run.bal)
theorem ovl_snoc (b : Bch) (s : Shp) (run : Pul) (ps : List Pul) (p : Pul) : ovl b s run (ps ++ [p]) = max (ovl b s run ps) ((tAt b p.tide.toNat).hlo + (tAt b p.tide.toNat).wlo + lf b s p) := by simp [ovl]
theorem ovh_snoc (b : Bch) (s : Shp) (run : Pul) (ps : List Pul) (p : Pul) : ovh b s run (ps ++ [p]) = max (ovh b s run ps) ((tAt b p.tide.toNat).hhi + (tAt b p.tide.toNat).whi + lf b s p) := by simp [ovh]
def lieLo (b : Bch) (s : Shp) (run : Pul) (ps : List Pul) : Int := min (q b.slo (ovl b s run ps - s.dhi)) (q b.shi (ovl b s run ps - s.dhi))
def lieHi (b : Bch) (s : Shp) (run : Pul) (ps : List Pul) : Int := max (q b.slo (ovh b s run ps - s.dlo)) (q b.shi (ovh b s run ps - s.dlo))
theorem rlo_q (b : Bch) (s : Shp) (i : Nat) (lift : Int) : rlo (bx b s i) lift = min (q b.slo ((tAt b i).hlo + (tAt b i).wlo + lift - s.dhi)) (q b.shi ((tAt b i).hlo + (tAt b i).wlo + lift - s.dhi)) := by
  unfold rlo bx pl q
  simp only
  rw [show (tAt b i).hlo + (tAt b i).wlo + lift - s.dhi = (tAt b i).hlo + (tAt b i).wlo - s.dhi + lift by omega]
theorem rhi_q (b : Bch) (s : Shp) (i : Nat) (lift : Int) : rhi (bx b s i) lift = max (q b.slo ((tAt b i).hhi + (tAt b i).whi + lift - s.dlo)) (q b.shi ((tAt b i).hhi + (tAt b i).whi + lift - s.dlo)) := by
  unfold rhi bx pl q
  simp only
  rw [show (tAt b i).hhi + (tAt b i).whi + lift - s.dlo = (tAt b i).hhi + (tAt b i).whi - s.dlo + lift by omega]
theorem lie0 (b : Bch) (s : Shp) (run : Pul) : lieLo b s run [] = rlo (bx b s run.tide.toNat) (-s.sink * run.bal) ∧ lieHi b s run [] = rhi (bx b s run.tide.toNat) (-s.sink * run.bal) := by
  rw [rlo_q, rhi_q]
  exact ⟨rfl, rfl⟩
theorem lieLo_snoc {b : Bch} (h1 : 1 ≤ b.slo) (h2 : 1 ≤ b.shi) (s : Shp) (run : Pul) (ps : List Pul) (p : Pul) : lieLo b s run (ps ++ [p]) = max (lieLo b s run ps) (rlo (bx b s p.tide.toNat) (lf b s p)) := by
  rw [rlo_q]
  unfold lieLo
  rw [ovl_snoc]
  generalize ovl b s run ps = N
  generalize (tAt b p.tide.toNat).hlo + (tAt b p.tide.toNat).wlo + lf b s p = n
  rw [show max N n - s.dhi = max (N - s.dhi) (n - s.dhi) by omega]
  have e1 := q_max (a := N - s.dhi) (c := n - s.dhi) h1
  have e2 := q_max (a := N - s.dhi) (c := n - s.dhi) h2
  rcases Int.le_total N n with h | h
  · have i1 := pl_mono (sl := b.slo) h1 (show N - s.dhi ≤ n - s.dhi by omega)
    have i2 := pl_mono (sl := b.shi) h2 (show N - s.dhi ≤ n - s.dhi by omega)
    rw [show max (N - s.dhi) (n - s.dhi) = n - s.dhi by omega]
    unfold q
    omega
  · have i1 := pl_mono (sl := b.slo) h1 (show n - s.dhi ≤ N - s.dhi by omega)
    have i2 := pl_mono (sl := b.shi) h2 (show n - s.dhi ≤ N - s.dhi by omega)
    rw [show max (N - s.dhi) (n - s.dhi) = N - s.dhi by omega]
    unfold q
    omega
theorem lieHi_snoc {b : Bch} (h1 : 1 ≤ b.slo) (h2 : 1 ≤ b.shi) (s : Shp) (run : Pul) (ps : List Pul) (p : Pul) : lieHi b s run (ps ++ [p]) = max (lieHi b s run ps) (rhi (bx b s p.tide.toNat) (lf b s p)) := by
  rw [rhi_q]
  unfold lieHi
  rw [ovh_snoc]
  generalize ovh b s run ps = N
  generalize (tAt b p.tide.toNat).hhi + (tAt b p.tide.toNat).whi + lf b s p = n
  rcases Int.le_total N n with h | h
  · have i1 := pl_mono (sl := b.slo) h1 (show N - s.dlo ≤ n - s.dlo by omega)
    have i2 := pl_mono (sl := b.shi) h2 (show N - s.dlo ≤ n - s.dlo by omega)
    rw [show max N n - s.dlo = n - s.dlo by omega]
    unfold q
    omega
  · have i1 := pl_mono (sl := b.slo) h1 (show n - s.dlo ≤ N - s.dlo by omega)
    have i2 := pl_mono (sl := b.shi) h2 (show n - s.dlo ≤ N - s.dlo by omega)
    rw [show max N n - s.dlo = N - s.dlo by omega]
    unfold q
    omega
/-! ### the errors of pulls -/
def pullAtE (n : Nat) (prev : Int) (p : Pul) : Int := if runE n p.tide p.bal ≠ 0 then runE n p.tide p.bal else if p.tide ≤ prev then 2 else 0
def pullsFrom (n : Nat) : Int → List Pul → Int
  | _, [] => 0
  | prev, p :: ps => if pullAtE n prev p ≠ 0 then pullAtE n prev p else pullsFrom n p.tide ps
def pullsE (n : Nat) (run : Pul) (ps : List Pul) : Int := if 6 < ps.length then 3 else pullsFrom n run.tide ps
/-! ### the tides that do -/
def ashL (b : Bch) (s : Shp) (bal : Nat) (k : Nat) : List Int := ((List.range k).filter fun i => doesB b s i bal).map fun i : Nat => (i : Int)
theorem ashL_succ (b : Bch) (s : Shp) (bal k : Nat) : ashL b s bal (k + 1) = if doesB b s k bal then ashL b s bal k ++ [(k : Int)] else ashL b s bal k := by
  unfold ashL
  rw [List.range_succ, List.filter_append, List.map_append]
  cases h : doesB b s k bal <;> simp [h]
theorem ashL_len (b : Bch) (s : Shp) (bal k : Nat) : (ashL b s bal k).length ≤ k := by
  unfold ashL
  rw [List.length_map]
  exact Nat.le_trans (List.length_filter_le _ _) (by simp)
/-! ### the first later tide -/
def later (b : Bch) (s : Shp) (run : Pul) (target : Int) : Nat → Nat → Int × Int
  | _, 0 => (0, 9)
  | i, k + 1 => if target ≤ lieLo b s run [⟨i, 0⟩] then (i, 0) else later b s run target (i + 1) k
end Td
end Go.Proofs.Ytojpiliamecgkaa
