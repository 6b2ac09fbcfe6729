/- The plain mathematics of layer 2 (tide): what is valid, where a ship stops, what the least ballast is. It imports nothing of the program. -/
namespace Go.Proofs.Ytojpiliamecgkaa
namespace Td
set_option linter.unusedVariables false

structure Tid where
  day : Int
  hlo : Int
  hhi : Int
  wlo : Int
  whi : Int
structure Bch where
  slo : Int
  shi : Int
  mlo : Int
  mhi : Int
  bite : Int
  ts : List Tid
structure Shp where
  dlo : Int
  dhi : Int
  sink : Int
structure Pul where
  tide : Int
  bal : Int

def tid0 : Tid := ⟨0, 0, 0, 0, 0⟩

/-- a number is from lo to hi. -/
def wi (lo hi n : Int) : Bool := decide (lo ≤ n) && decide (n ≤ hi)
theorem wi_iff {lo hi n : Int} : wi lo hi n = true ↔ lo ≤ n ∧ n ≤ hi := by simp [wi]
theorem wi_no {lo hi n : Int} : wi lo hi n = false ↔ n < lo ∨ hi < n := by
  rw [Bool.eq_false_iff, Ne, wi_iff]; omega
/-- both ends of all spans are from lo to hi. -/
def sw (lo hi : Int) (l : List (Int × Int)) : Bool := l.all fun s => wi lo hi s.1 && wi lo hi s.2
/-- some span is turned. -/
def tn (l : List (Int × Int)) : Bool := l.any fun s => decide (s.2 < s.1)

def beachE (b : Bch) : Int :=
  if sw 1 200 [(b.slo, b.shi)] && sw (-2000000) 2000000 [(b.mlo, b.mhi)] && wi 0 200 b.bite then
    if tn [(b.slo, b.shi), (b.mlo, b.mhi)] then 2 else 0
  else 7
def tidE (prev : Int) (t : Tid) : Int :=
  if wi 0 40000 t.day && sw 0 1500 [(t.hlo, t.hhi)] && sw (-200) 200 [(t.wlo, t.whi)] then
    if tn [(t.hlo, t.hhi), (t.wlo, t.whi)] || decide (t.day < prev) then 2 else 0
  else 7
def prevDay (ts : List Tid) (i : Nat) : Int := match i with | 0 => 0 | j + 1 => (ts[j]?.getD tid0).day
def tidAtE (ts : List Tid) (i : Nat) : Int := match ts[i]? with | some t => tidE (prevDay ts i) t | none => 0
def tidesE (ts : List Tid) : Int × Int :=
  if wi 1 12 ts.length then match (List.range ts.length).find? (fun i => tidAtE ts i != 0) with
    | some i => (i, tidAtE ts i)
    | none => (0, 0)
  else (0, 3)
def shipE (s : Shp) : Int :=
  if sw 0 1500 [(s.dlo, s.dhi)] && wi 0 50 s.sink then
    if tn [(s.dlo, s.dhi)] then 2 else 0
  else 7
def chk (b : Bch) (s : Shp) : Int × Int × Int :=
  if beachE b != 0 then (1, 0, beachE b) else if (tidesE b.ts).2 != 0 then (2, (tidesE b.ts).1, (tidesE b.ts).2) else if shipE s != 0 then (3, 0, shipE s) else (0, 0, 0)
def runE (n : Nat) (tide bal : Int) : Int := if wi 0 ((n : Int) - 1) tide then if wi 0 40 bal then 0 else 7 else 4
def stepE (b : Bch) (s : Shp) (tide bal : Int) : Int :=
  if (chk b s).2.2 != 0 then (chk b s).2.2 else runE b.ts.length tide bal

theorem tidesE_at {ts : List Tid} {k : Nat} (h : wi 1 12 ts.length = true) (hk : k < ts.length) (h0 : ∀ j, j < k → tidAtE ts j = 0) (h1 : tidAtE ts k ≠ 0) : tidesE ts = ((k : Int), tidAtE ts k) := by
  have : (List.range ts.length).find? (fun i => tidAtE ts i != 0) = some k := by
    rw [List.find?_range_eq_some]
    refine ⟨by simpa using h1, by simpa using hk, fun j hj => by simp [h0 j hj]⟩
  simp [tidesE, this, h]
theorem tidesE_ok {ts : List Tid} (h : wi 1 12 ts.length = true) (h0 : ∀ j, j < ts.length → tidAtE ts j = 0) : tidesE ts = (0, 0) := by
  have : (List.range ts.length).find? (fun i => tidAtE ts i != 0) = none := by
    rw [List.find?_range_eq_none]
    intro j hj
    simp [h0 j hj]
  simp [tidesE, this, h]
theorem tidesE_long {ts : List Tid} (h : wi 1 12 ts.length = false) : tidesE ts = (0, 3) := by simp [tidesE, h]
theorem tidAtE_eq {ts : List Tid} {k : Nat} (hk : k < ts.length) : tidAtE ts k = tidE (prevDay ts k) ts[k] := by
  simp [tidAtE, List.getElem?_eq_getElem hk]

/-! ### what a valid beach and ship are -/
structure TidOk (t : Tid) : Prop where
  d0 : 0 ≤ t.day
  d1 : t.day ≤ 40000
  h0 : 0 ≤ t.hlo
  h1 : t.hlo ≤ t.hhi
  h2 : t.hhi ≤ 1500
  w0 : -200 ≤ t.wlo
  w1 : t.wlo ≤ t.whi
  w2 : t.whi ≤ 200
structure BchOk (b : Bch) : Prop where
  s0 : 1 ≤ b.slo
  s1 : b.slo ≤ b.shi
  s2 : b.shi ≤ 200
  m0 : -2000000 ≤ b.mlo
  m1 : b.mlo ≤ b.mhi
  m2 : b.mhi ≤ 2000000
  b0 : 0 ≤ b.bite
  b1 : b.bite ≤ 200
  n0 : 1 ≤ b.ts.length
  n1 : b.ts.length ≤ 12
  ts : ∀ i (h : i < b.ts.length), TidOk b.ts[i]
  days : ∀ i (h : i + 1 < b.ts.length), b.ts[i].day ≤ b.ts[i + 1].day
structure ShpOk (s : Shp) : Prop where
  d0 : 0 ≤ s.dlo
  d1 : s.dlo ≤ s.dhi
  d2 : s.dhi ≤ 1500
  k0 : 0 ≤ s.sink
  k1 : s.sink ≤ 50

theorem beachE_ok {b : Bch} : beachE b = 0 ↔ (1 ≤ b.slo ∧ b.slo ≤ b.shi ∧ b.shi ≤ 200) ∧ (-2000000 ≤ b.mlo ∧ b.mlo ≤ b.mhi ∧ b.mhi ≤ 2000000) ∧ 0 ≤ b.bite ∧ b.bite ≤ 200 := by
  have hA : (sw 1 200 [(b.slo, b.shi)] && sw (-2000000) 2000000 [(b.mlo, b.mhi)] && wi 0 200 b.bite) = decide ((1 ≤ b.slo ∧ b.slo ≤ 200) ∧ (1 ≤ b.shi ∧ b.shi ≤ 200) ∧ (-2000000 ≤ b.mlo ∧ b.mlo ≤ 2000000) ∧ (-2000000 ≤ b.mhi ∧ b.mhi ≤ 2000000) ∧ 0 ≤ b.bite ∧ b.bite ≤ 200) := by
    rw [Bool.eq_iff_iff]; simp [sw, wi]; omega
  have hB : tn [(b.slo, b.shi), (b.mlo, b.mhi)] = decide (b.shi < b.slo ∨ b.mhi < b.mlo) := by
    rw [Bool.eq_iff_iff]; simp [tn]
  unfold beachE
  rw [hA, hB]
  by_cases h1 : (1 ≤ b.slo ∧ b.slo ≤ 200) ∧ (1 ≤ b.shi ∧ b.shi ≤ 200) ∧ (-2000000 ≤ b.mlo ∧ b.mlo ≤ 2000000) ∧ (-2000000 ≤ b.mhi ∧ b.mhi ≤ 2000000) ∧ 0 ≤ b.bite ∧ b.bite ≤ 200
  · rw [decide_eq_true h1, if_pos rfl]
    by_cases h2 : b.shi < b.slo ∨ b.mhi < b.mlo
    · rw [decide_eq_true h2, if_pos rfl]; omega
    · rw [decide_eq_false h2, if_neg (by decide)]; omega
  · rw [decide_eq_false h1, if_neg (by decide)]; omega
theorem tidE_ok {p : Int} {t : Tid} : tidE p t = 0 ↔ TidOk t ∧ p ≤ t.day := by
  have hT : TidOk t ↔ (0 ≤ t.day ∧ t.day ≤ 40000) ∧ (0 ≤ t.hlo ∧ t.hlo ≤ t.hhi ∧ t.hhi ≤ 1500) ∧ (-200 ≤ t.wlo ∧ t.wlo ≤ t.whi ∧ t.whi ≤ 200) :=
    ⟨fun h => ⟨⟨h.d0, h.d1⟩, ⟨h.h0, h.h1, h.h2⟩, h.w0, h.w1, h.w2⟩, fun h => ⟨h.1.1, h.1.2, h.2.1.1, h.2.1.2.1, h.2.1.2.2, h.2.2.1, h.2.2.2.1, h.2.2.2.2⟩⟩
  rw [hT]
  have hA : (wi 0 40000 t.day && sw 0 1500 [(t.hlo, t.hhi)] && sw (-200) 200 [(t.wlo, t.whi)]) = decide ((0 ≤ t.day ∧ t.day ≤ 40000) ∧ (0 ≤ t.hlo ∧ t.hlo ≤ 1500) ∧ (0 ≤ t.hhi ∧ t.hhi ≤ 1500) ∧ (-200 ≤ t.wlo ∧ t.wlo ≤ 200) ∧ (-200 ≤ t.whi ∧ t.whi ≤ 200)) := by
    rw [Bool.eq_iff_iff]; simp [sw, wi]; omega
  have hB : (tn [(t.hlo, t.hhi), (t.wlo, t.whi)] || decide (t.day < p)) = decide (t.hhi < t.hlo ∨ t.whi < t.wlo ∨ t.day < p) := by
    rw [Bool.eq_iff_iff]; simp [tn]; omega
  unfold tidE
  rw [hA, hB]
  by_cases h1 : (0 ≤ t.day ∧ t.day ≤ 40000) ∧ (0 ≤ t.hlo ∧ t.hlo ≤ 1500) ∧ (0 ≤ t.hhi ∧ t.hhi ≤ 1500) ∧ (-200 ≤ t.wlo ∧ t.wlo ≤ 200) ∧ (-200 ≤ t.whi ∧ t.whi ≤ 200)
  · rw [decide_eq_true h1, if_pos rfl]
    by_cases h2 : t.hhi < t.hlo ∨ t.whi < t.wlo ∨ t.day < p
    · rw [decide_eq_true h2, if_pos rfl]; omega
    · rw [decide_eq_false h2, if_neg (by decide)]; omega
  · rw [decide_eq_false h1, if_neg (by decide)]; omega
theorem shipE_ok {s : Shp} : shipE s = 0 ↔ ShpOk s := by
  have hT : ShpOk s ↔ (0 ≤ s.dlo ∧ s.dlo ≤ s.dhi ∧ s.dhi ≤ 1500) ∧ 0 ≤ s.sink ∧ s.sink ≤ 50 :=
    ⟨fun h => ⟨⟨h.d0, h.d1, h.d2⟩, h.k0, h.k1⟩, fun h => ⟨h.1.1, h.1.2.1, h.1.2.2, h.2.1, h.2.2⟩⟩
  rw [hT]
  have hA : (sw 0 1500 [(s.dlo, s.dhi)] && wi 0 50 s.sink) = decide ((0 ≤ s.dlo ∧ s.dlo ≤ 1500) ∧ (0 ≤ s.dhi ∧ s.dhi ≤ 1500) ∧ 0 ≤ s.sink ∧ s.sink ≤ 50) := by
    rw [Bool.eq_iff_iff]; simp [sw, wi]; omega
  have hB : tn [(s.dlo, s.dhi)] = decide (s.dhi < s.dlo) := by
    rw [Bool.eq_iff_iff]; simp [tn]
  unfold shipE
  rw [hA, hB]
  by_cases h1 : (0 ≤ s.dlo ∧ s.dlo ≤ 1500) ∧ (0 ≤ s.dhi ∧ s.dhi ≤ 1500) ∧ 0 ≤ s.sink ∧ s.sink ≤ 50
  · rw [decide_eq_true h1, if_pos rfl]
    by_cases h2 : s.dhi < s.dlo
    · rw [decide_eq_true h2, if_pos rfl]; omega
    · rw [decide_eq_false h2, if_neg (by decide)]; omega
  · rw [decide_eq_false h1, if_neg (by decide)]; omega
theorem tidesE_zero {ts : List Tid} : (tidesE ts).2 = 0 ↔ wi 1 12 ts.length = true ∧ ∀ j, j < ts.length → tidAtE ts j = 0 := by
  constructor
  · intro h
    cases hw : wi 1 12 ts.length with
    | false => rw [tidesE_long hw] at h; simp at h
    | true =>
      refine ⟨rfl, fun j hj => Classical.byContradiction fun hne => ?_⟩
      have hex : ∃ k, k < ts.length ∧ (∀ j, j < k → tidAtE ts j = 0) ∧ tidAtE ts k ≠ 0 := by
        clear h
        induction j using Nat.strongRecOn with
        | _ j ih =>
          by_cases hall : ∀ i, i < j → tidAtE ts i = 0
          · exact ⟨j, hj, hall, hne⟩
          · obtain ⟨i, hi⟩ := Classical.not_forall.1 hall
            obtain ⟨hij, hi⟩ := Classical.not_imp.1 hi
            exact ih i hij (by omega) hi
      obtain ⟨k, hk, h0, h1⟩ := hex
      rw [tidesE_at hw hk h0 h1] at h
      exact h1 h
  · rintro ⟨hw, h0⟩
    rw [tidesE_ok hw h0]
theorem chk_e {b : Bch} {s : Shp} : (chk b s).2.2 = 0 ↔ beachE b = 0 ∧ (tidesE b.ts).2 = 0 ∧ shipE s = 0 := by
  unfold chk
  by_cases h1 : beachE b = 0
  · by_cases h2 : (tidesE b.ts).2 = 0
    · by_cases h3 : shipE s = 0 <;> simp [h1, h2, h3]
    · simp [h1, h2]
  · simp [h1]
theorem chk_ok {b : Bch} {s : Shp} : (chk b s).2.2 = 0 ↔ BchOk b ∧ ShpOk s := by
  rw [chk_e, beachE_ok, tidesE_zero, shipE_ok, wi_iff]
  constructor
  · rintro ⟨⟨⟨a1, a2, a3⟩, ⟨a4, a5, a6⟩, a7, a8⟩, ⟨⟨c1, c2⟩, c3⟩, hs⟩
    have ht : ∀ i (h : i < b.ts.length), TidOk b.ts[i] ∧ prevDay b.ts i ≤ b.ts[i].day := fun i h => by
      have := c3 i h; rw [tidAtE_eq h, tidE_ok] at this; exact this
    refine ⟨⟨a1, a2, a3, a4, a5, a6, a7, a8, by omega, by omega, fun i h => (ht i h).1, fun i h => ?_⟩, hs⟩
    have := (ht (i + 1) h).2
    simp [prevDay, List.getElem?_eq_getElem (show i < b.ts.length by omega)] at this
    exact this
  · rintro ⟨h, hs⟩
    refine ⟨⟨⟨h.s0, h.s1, h.s2⟩, ⟨h.m0, h.m1, h.m2⟩, h.b0, h.b1⟩, ⟨⟨by have := h.n0; omega, by have := h.n1; omega⟩, fun j hj => ?_⟩, hs⟩
    rw [tidAtE_eq hj, tidE_ok]
    refine ⟨h.ts j hj, ?_⟩
    match j, hj with
    | 0, hj => simp [prevDay]; exact (h.ts 0 hj).d0
    | j + 1, hj =>
      simp [prevDay, List.getElem?_eq_getElem (show j < b.ts.length by omega)]
      exact h.days j hj

/-! ### where a ship stops -/
/-- 1000 times the height over the slope, rounded down. -/
def pl (sl dr he wn lift : Int) : Int := 1000 * (he + wn - dr + lift) / sl
structure Box where
  slo : Int
  shi : Int
  dlo : Int
  dhi : Int
  hlo : Int
  hhi : Int
  wlo : Int
  whi : Int
structure BoxOk (x : Box) : Prop where
  s0 : 1 ≤ x.slo
  s1 : x.slo ≤ x.shi
  s2 : x.shi ≤ 200
  d0 : 0 ≤ x.dlo
  d1 : x.dlo ≤ x.dhi
  d2 : x.dhi ≤ 1500
  h0 : 0 ≤ x.hlo
  h1 : x.hlo ≤ x.hhi
  h2 : x.hhi ≤ 1500
  w0 : -200 ≤ x.wlo
  w1 : x.wlo ≤ x.whi
  w2 : x.whi ≤ 200
def rlo (x : Box) (lift : Int) : Int := min (pl x.slo x.dhi x.hlo x.wlo lift) (pl x.shi x.dhi x.hlo x.wlo lift)
def rhi (x : Box) (lift : Int) : Int := max (pl x.slo x.dlo x.hhi x.whi lift) (pl x.shi x.dlo x.hhi x.whi lift)
/-- all of the box is within the marks. -/
def sur (mlo mhi : Int) (x : Box) (lift : Int) : Bool := decide (mlo ≤ rlo x lift) && decide (rhi x lift ≤ mhi)
theorem sur_iff {mlo mhi : Int} {x : Box} {lift : Int} : sur mlo mhi x lift = true ↔ mlo ≤ rlo x lift ∧ rhi x lift ≤ mhi := by simp [sur]

def tAt (b : Bch) (i : Nat) : Tid := b.ts[i]?.getD tid0
def bx (b : Bch) (s : Shp) (i : Nat) : Box := ⟨b.slo, b.shi, s.dlo, s.dhi, (tAt b i).hlo, (tAt b i).hhi, (tAt b i).wlo, (tAt b i).whi⟩
theorem tAt_eq {b : Bch} {i : Nat} (h : i < b.ts.length) : tAt b i = b.ts[i] := by simp [tAt, List.getElem?_eq_getElem h]
theorem bx_ok {b : Bch} {s : Shp} (hb : BchOk b) (hs : ShpOk s) {i : Nat} (h : i < b.ts.length) : BoxOk (bx b s i) := by
  have t := hb.ts i h
  rw [← tAt_eq h] at t
  exact ⟨hb.s0, hb.s1, hb.s2, hs.d0, hs.d1, hs.d2, t.h0, t.h1, t.h2, t.w0, t.w1, t.w2⟩

theorem pl_mono {sl n m : Int} (h : 1 ≤ sl) (hn : n ≤ m) : 1000 * n / sl ≤ 1000 * m / sl := Int.ediv_le_ediv (by omega) (by omega)
/-- the quotient of a number lies between those at a smaller and a greater divisor. -/
theorem div_anti {n a c : Int} (ha : 1 ≤ a) (hac : a ≤ c) (hn : 0 ≤ n) : n / c ≤ n / a := by
  rw [Int.le_ediv_iff_mul_le (by omega)]
  have h1 : n / c * c ≤ n := Int.ediv_mul_le n (by omega)
  have h0 : 0 ≤ n / c := Int.ediv_nonneg hn (by omega)
  have h2 : n / c * a ≤ n / c * c := Int.mul_le_mul_of_nonneg_left hac h0
  omega
theorem div_up {n a c : Int} (ha : 1 ≤ a) (hac : a ≤ c) (hn : n ≤ 0) : n / a ≤ n / c := by
  rw [Int.le_ediv_iff_mul_le (by omega)]
  have h1 : n / a * a ≤ n := Int.ediv_mul_le n (by omega)
  have h0 : n / a ≤ 0 := by
    have := Int.ediv_le_ediv (c := a) (by omega) hn
    simpa using this
  have h2 : n / a * c ≤ n / a * a := by
    have := Int.mul_le_mul_of_nonneg_left hac (show (0 : Int) ≤ -(n / a) by omega)
    rw [Int.neg_mul, Int.neg_mul] at this
    omega
  omega
theorem div_between {n a c s : Int} (ha : 1 ≤ a) (h1 : a ≤ s) (h2 : s ≤ c) : min (n / a) (n / c) ≤ n / s ∧ n / s ≤ max (n / a) (n / c) := by
  rcases Int.le_total 0 n with hn | hn
  · have := div_anti ha h1 hn
    have := div_anti (by omega) h2 hn
    omega
  · have := div_up ha h1 hn
    have := div_up (by omega) h2 hn
    omega
/-- a truth is in a box. -/
structure Inn (x : Box) (sl dr he wn : Int) : Prop where
  s0 : x.slo ≤ sl
  s1 : sl ≤ x.shi
  d0 : x.dlo ≤ dr
  d1 : dr ≤ x.dhi
  h0 : x.hlo ≤ he
  h1 : he ≤ x.hhi
  w0 : x.wlo ≤ wn
  w1 : wn ≤ x.whi
theorem pl_in {x : Box} {sl dr he wn : Int} (lift : Int) (hx : BoxOk x) (h : Inn x sl dr he wn) : rlo x lift ≤ pl sl dr he wn lift ∧ pl sl dr he wn lift ≤ rhi x lift := by
  obtain ⟨s0, s1, d0, d1, h0, h1, w0, w1⟩ := h
  have hs := hx.s0
  have a := pl_mono (sl := sl) (n := x.hlo + x.wlo - x.dhi + lift) (m := he + wn - dr + lift) (by omega) (by omega)
  have c := pl_mono (sl := sl) (n := he + wn - dr + lift) (m := x.hhi + x.whi - x.dlo + lift) (by omega) (by omega)
  have e := div_between (n := 1000 * (x.hlo + x.wlo - x.dhi + lift)) hs s0 s1
  have f := div_between (n := 1000 * (x.hhi + x.whi - x.dlo + lift)) hs s0 s1
  unfold rlo rhi pl
  omega

/-- the k-th corner, of 16: slope, draft, height and wind by the bits of k. -/
def corner (x : Box) (k : Nat) : Int × Int × Int × Int :=
  (if k.testBit 0 then x.shi else x.slo, if k.testBit 1 then x.dhi else x.dlo, if k.testBit 2 then x.hhi else x.hlo, if k.testBit 3 then x.whi else x.wlo)
def plc (lift : Int) (t : Int × Int × Int × Int) : Int := pl t.1 t.2.1 t.2.2.1 t.2.2.2 lift
/-- the least and the greatest of some numbers, and of what was before. -/
def mins (l : List Int) (a : Int) : Int := l.foldl min a
def maxs (l : List Int) (a : Int) : Int := l.foldl max a
theorem mins_snoc (l : List Int) (n a : Int) : mins (l ++ [n]) a = min (mins l a) n := by simp [mins]
theorem maxs_snoc (l : List Int) (n a : Int) : maxs (l ++ [n]) a = max (maxs l a) n := by simp [maxs]
def corners (x : Box) (k : Nat) : List (Int × Int × Int × Int) := (List.range k).map (corner x)
theorem corners_succ (x : Box) (k : Nat) : corners x (k + 1) = corners x k ++ [corner x k] := by simp [corners, List.range_succ]
theorem corners_length (x : Box) (k : Nat) : (corners x k).length = k := by simp [corners]
theorem le_mins {l : List Int} : ∀ {a m : Int}, m ≤ mins l a ↔ m ≤ a ∧ ∀ y ∈ l, m ≤ y := by
  induction l with
  | nil => intro a m; simp [mins]
  | cons z l ih => intro a m; simp only [mins, List.foldl_cons] at *; rw [ih]; simp only [List.mem_cons, forall_eq_or_imp, Int.le_min]; exact and_assoc
theorem maxs_le {l : List Int} : ∀ {a m : Int}, maxs l a ≤ m ↔ a ≤ m ∧ ∀ y ∈ l, y ≤ m := by
  induction l with
  | nil => intro a m; simp [maxs]
  | cons z l ih => intro a m; simp only [maxs, List.foldl_cons] at *; rw [ih]; simp only [List.mem_cons, forall_eq_or_imp, Int.max_le]; exact and_assoc
theorem corner_in {x : Box} (hx : BoxOk x) (k : Nat) : Inn x (corner x k).1 (corner x k).2.1 (corner x k).2.2.1 (corner x k).2.2.2 := by
  obtain ⟨_, _, _, _, _, _, _, _, _, _, _, _⟩ := hx
  unfold corner
  refine ⟨?_, ?_, ?_, ?_, ?_, ?_, ?_, ?_⟩ <;> simp only <;> split <;> omega
theorem pl_big {sl dr he wn lift : Int} (h1 : 1 ≤ sl) (h0 : -1000000 ≤ he + wn - dr + lift) (h2 : he + wn - dr + lift ≤ 1000000) : -1000000000 ≤ pl sl dr he wn lift ∧ pl sl dr he wn lift ≤ 1000000000 := by
  unfold pl
  constructor
  · rw [Int.le_ediv_iff_mul_le (by omega)]
    have := Int.mul_le_mul_of_nonneg_left h1 (show (0 : Int) ≤ 1000000000 by omega)
    rw [Int.neg_mul]; omega
  · rcases Int.le_total 0 (he + wn - dr + lift) with hn | hn
    · have := div_anti (n := 1000 * (he + wn - dr + lift)) (a := 1) (c := sl) (by omega) h1 (by omega)
      rw [Int.ediv_one] at this; omega
    · have := Int.ediv_le_ediv (a := 1000 * (he + wn - dr + lift)) (b := 0) (c := sl) (by omega) (by omega)
      rw [Int.zero_ediv] at this; omega
theorem mins_corners {x : Box} {lift : Int} (hx : BoxOk x) (h0 : -10000 ≤ lift) (h2 : lift ≤ 10000) : mins ((corners x 16).map (plc lift)) 9223372036854775807 = rlo x lift := by
  apply Int.le_antisymm
  · have h : ∀ y ∈ (corners x 16).map (plc lift), mins ((corners x 16).map (plc lift)) 9223372036854775807 ≤ y := (le_mins.1 (Int.le_refl _)).2
    have a := h (plc lift (corner x 2)) (List.mem_map_of_mem (List.mem_map_of_mem (List.mem_range.2 (by omega))))
    have c := h (plc lift (corner x 3)) (List.mem_map_of_mem (List.mem_map_of_mem (List.mem_range.2 (by omega))))
    simp only [plc, corner, show Nat.testBit 2 0 = false from rfl, show Nat.testBit 2 1 = true from rfl, show Nat.testBit 2 2 = false from rfl, show Nat.testBit 2 3 = false from rfl, show Nat.testBit 3 0 = true from rfl, show Nat.testBit 3 1 = true from rfl, show Nat.testBit 3 2 = false from rfl, show Nat.testBit 3 3 = false from rfl, Bool.false_eq_true, if_false, if_true] at a c
    unfold rlo
    omega
  · rw [le_mins]
    obtain ⟨_, _, _, _, _, _, _, _, _, _, _, _⟩ := hx
    refine ⟨?_, ?_⟩
    · have := (pl_big (sl := x.slo) (dr := x.dhi) (he := x.hlo) (wn := x.wlo) (lift := lift) (by omega) (by omega) (by omega)).2
      unfold rlo
      omega
    · intro y hy
      obtain ⟨t, ht, rfl⟩ := List.mem_map.1 hy
      obtain ⟨k, _, rfl⟩ := List.mem_map.1 ht
      exact (pl_in lift ⟨by assumption, by assumption, by assumption, by assumption, by assumption, by assumption, by assumption, by assumption, by assumption, by assumption, by assumption, by assumption⟩ (corner_in ⟨by assumption, by assumption, by assumption, by assumption, by assumption, by assumption, by assumption, by assumption, by assumption, by assumption, by assumption, by assumption⟩ k)).1
theorem maxs_corners {x : Box} {lift : Int} (hx : BoxOk x) (h0 : -10000 ≤ lift) (h2 : lift ≤ 10000) : maxs ((corners x 16).map (plc lift)) (-9223372036854775808) = rhi x lift := by
  apply Int.le_antisymm
  · rw [maxs_le]
    refine ⟨?_, ?_⟩
    · obtain ⟨_, _, _, _, _, _, _, _, _, _, _, _⟩ := hx
      have := (pl_big (sl := x.slo) (dr := x.dlo) (he := x.hhi) (wn := x.whi) (lift := lift) (by omega) (by omega) (by omega)).1
      unfold rhi
      omega
    · intro y hy
      obtain ⟨t, ht, rfl⟩ := List.mem_map.1 hy
      obtain ⟨k, _, rfl⟩ := List.mem_map.1 ht
      exact (pl_in lift hx (corner_in hx k)).2
  · have h : ∀ y ∈ (corners x 16).map (plc lift), y ≤ maxs ((corners x 16).map (plc lift)) (-9223372036854775808) := (maxs_le.1 (Int.le_refl _)).2
    have a := h (plc lift (corner x 12)) (List.mem_map_of_mem (List.mem_map_of_mem (List.mem_range.2 (by omega))))
    have c := h (plc lift (corner x 13)) (List.mem_map_of_mem (List.mem_map_of_mem (List.mem_range.2 (by omega))))
    simp only [plc, corner, show Nat.testBit 12 0 = false from rfl, show Nat.testBit 12 1 = false from rfl, show Nat.testBit 12 2 = true from rfl, show Nat.testBit 12 3 = true from rfl, show Nat.testBit 13 0 = true from rfl, show Nat.testBit 13 1 = false from rfl, show Nat.testBit 13 2 = true from rfl, show Nat.testBit 13 3 = true from rfl, Bool.false_eq_true, if_false, if_true] at a c
    unfold rhi
    omega
/-! ### Go's division -/
theorem tdiv_neg {n d : Int} (hd : 1 ≤ d) (h : n.tmod d < 0) : n.tdiv d - 1 = n / d := by
  rcases Int.le_total 0 n with hn | hn
  · have := Int.tmod_nonneg d hn; omega
  · obtain ⟨m, rfl⟩ : ∃ m, n = -m := ⟨-n, by omega⟩
    rw [Int.neg_tmod, Int.tmod_eq_emod_of_nonneg (by omega)] at h
    rw [Int.neg_tdiv, Int.tdiv_eq_ediv_of_nonneg (by omega)]
    have h1 := Int.mul_ediv_add_emod m d
    have h2 := Int.emod_lt_of_pos m (show 0 < d by omega)
    symm
    rw [Int.ediv_eq_iff_of_pos (by omega)]
    generalize m / d = q at *
    generalize m % d = r at *
    have e : (-q - 1) * d = -(d * q) - d := by rw [Int.sub_mul, Int.neg_mul, Int.mul_comm]; omega
    constructor
    · omega
    · have : (-q - 1 + 1) * d = -(d * q) := by rw [Int.sub_add_cancel, Int.neg_mul, Int.mul_comm]
      omega
theorem tdiv_pos {n d : Int} (hd : 1 ≤ d) (h : 0 ≤ n.tmod d) : n.tdiv d = n / d := by
  rcases Int.le_total 0 n with hn | hn
  · exact Int.tdiv_eq_ediv_of_nonneg hn
  · obtain ⟨m, rfl⟩ : ∃ m, n = -m := ⟨-n, by omega⟩
    rw [Int.neg_tmod, Int.tmod_eq_emod_of_nonneg (by omega)] at h
    rw [Int.neg_tdiv, Int.tdiv_eq_ediv_of_nonneg (by omega)]
    have h1 := Int.mul_ediv_add_emod m d
    have h2 := Int.emod_nonneg m (show d ≠ 0 by omega)
    symm
    rw [Int.ediv_eq_iff_of_pos (by omega)]
    generalize m / d = q at *
    generalize m % d = r at *
    have e : (-q) * d = -(d * q) := by rw [Int.neg_mul, Int.mul_comm]
    have e2 : (-q + 1) * d = -(d * q) + d := by rw [Int.add_mul, Int.neg_mul, Int.mul_comm]; omega
    constructor <;> omega
theorem tdiv_bd {n d : Int} (hd : 1 ≤ d) (b : Int) (hb : 0 ≤ b) (h1 : -b ≤ n) (h2 : n ≤ b) : -b ≤ n.tdiv d ∧ n.tdiv d ≤ b := by
  have h := Int.natAbs_tdiv_le_natAbs n d
  omega
theorem tdiv_mul {n d : Int} : n.tdiv d * d = n - n.tmod d := by
  have := Int.tmod_add_mul_tdiv n d
  rw [Int.mul_comm] at this; omega
end Td
end Go.Proofs.Ytojpiliamecgkaa
