import Derived.Test.YtojpiliamecgkaaMoreF
/- Where she lies in a truth, and that it is in the range: the arithmetic. -/
namespace Go.Proofs.Ytojpiliamecgkaa
namespace Td
set_option linter.unusedSimpArgs false
set_option linter.unusedVariables false
/-- the truth of the tide i. -/
abbrev trt (b : Bch) (s : Shp) (l : List Int) (i : Nat) : Int × Int × Int × Int := truthV (bx b s i) i l
/-- where she lies after a run, after a pull alone. -/
def plR (b : Bch) (s : Shp) (l : List Int) (run : Pul) : Int := pl (trt b s l run.tide.toNat).1 (trt b s l run.tide.toNat).2.1 (trt b s l run.tide.toNat).2.2.1 (trt b s l run.tide.toNat).2.2.2 (-s.sink * run.bal)
def plP (b : Bch) (s : Shp) (l : List Int) (p : Pul) : Int := pl (trt b s l p.tide.toNat).1 (trt b s l p.tide.toNat).2.1 ((trt b s l p.tide.toNat).2.2.1 + b.bite) (trt b s l p.tide.toNat).2.2.2 (-s.sink * p.bal)
theorem plP_lf (b : Bch) (s : Shp) (l : List Int) (p : Pul) : plP b s l p = pl (trt b s l p.tide.toNat).1 (trt b s l p.tide.toNat).2.1 (trt b s l p.tide.toNat).2.2.1 (trt b s l p.tide.toNat).2.2.2 (lf b s p) := by
  unfold plP pl lf
  rw [show (trt b s l p.tide.toNat).2.2.1 + b.bite + (trt b s l p.tide.toNat).2.2.2 - (trt b s l p.tide.toNat).2.1 + -s.sink * p.bal = (trt b s l p.tide.toNat).2.2.1 + (trt b s l p.tide.toNat).2.2.2 - (trt b s l p.tide.toNat).2.1 + (-s.sink * p.bal + b.bite) by omega]
def liesK (b : Bch) (s : Shp) (l : List Int) (run : Pul) (ps : List Pul) : Int := ps.foldl (fun a p => max a (plP b s l p)) (plR b s l run)
theorem liesK_snoc (b : Bch) (s : Shp) (l : List Int) (run : Pul) (ps : List Pul) (p : Pul) : liesK b s l run (ps ++ [p]) = max (liesK b s l run ps) (plP b s l p) := by simp [liesK]
theorem toNat_lt {n : Nat} {p : Pul} (h : PuOk n p) : p.tide.toNat < n := by
  have := h.t0
  have := h.t1
  omega
theorem plR_in {b : Bch} {s : Shp} (hB : BchOk b) (hS : ShpOk s) (l : List Int) {run : Pul} (hr : PuOk b.ts.length run) : rlo (bx b s run.tide.toNat) (-s.sink * run.bal) ≤ plR b s l run ∧ plR b s l run ≤ rhi (bx b s run.tide.toNat) (-s.sink * run.bal) :=
  pl_in _ (bx_ok hB hS (toNat_lt hr)) (truthV_in (bx_ok hB hS (toNat_lt hr)) _ _)
theorem plP_in {b : Bch} {s : Shp} (hB : BchOk b) (hS : ShpOk s) (l : List Int) {p : Pul} (hr : PuOk b.ts.length p) : rlo (bx b s p.tide.toNat) (lf b s p) ≤ plP b s l p ∧ plP b s l p ≤ rhi (bx b s p.tide.toNat) (lf b s p) := by
  rw [plP_lf]
  exact pl_in _ (bx_ok hB hS (toNat_lt hr)) (truthV_in (bx_ok hB hS (toNat_lt hr)) _ _)
theorem liesK_in {b : Bch} {s : Shp} (hB : BchOk b) (hS : ShpOk s) (l : List Int) {run : Pul} (hr : PuOk b.ts.length run) : ∀ (n : Nat) (ps : List Pul), ps.length = n → (∀ p ∈ ps, PuOk b.ts.length p) → lieLo b s run ps ≤ liesK b s l run ps ∧ liesK b s l run ps ≤ lieHi b s run ps
  | 0, ps, hn, _ => by
    obtain rfl : ps = [] := List.length_eq_zero_iff.1 hn
    rw [(lie0 b s run).1, (lie0 b s run).2]
    exact plR_in hB hS l hr
  | n + 1, ps, hn, hp => by
    have hne : ps ≠ [] := fun e => by simp [e] at hn
    have hs0 := hB.s0
    have hs1 := hB.s1
    have hi := liesK_in hB hS l hr n ps.dropLast (by simp [hn]) (fun p hq => hp p (List.dropLast_subset _ hq))
    have hl := plP_in hB hS l (hp _ (List.getLast_mem hne))
    rw [← List.dropLast_concat_getLast hne, liesK_snoc, lieLo_snoc hs0 (by omega), lieHi_snoc hs0 (by omega)]
    omega
theorem pullsFrom_init {n : Nat} : ∀ {ps : List Pul} {prev : Int}, pullsFrom n prev ps = 0 → pullsFrom n prev ps.dropLast = 0
  | [], _, _ => rfl
  | [p], prev, _ => rfl
  | p :: q :: ps, prev, h => by
    simp only [List.dropLast_cons_cons]
    unfold pullsFrom at h ⊢
    split at h
    · rw [if_pos (by assumption)]; exact h
    · rw [if_neg (by assumption)]
      exact pullsFrom_init h
theorem pullsE_init {n : Nat} {run : Pul} {ps : List Pul} (h : pullsE n run ps = 0) : pullsE n run ps.dropLast = 0 := by
  obtain ⟨h6, _⟩ := pullsE_zero h
  unfold pullsE at h ⊢
  rw [if_neg (by omega)] at h
  rw [if_neg (by simp; omega)]
  exact pullsFrom_init h
theorem lie_init {b : Bch} {s : Shp} (hB : BchOk b) {run : Pul} {ps : List Pul} (hne : ps ≠ []) : lieLo b s run ps.dropLast ≤ lieLo b s run ps ∧ lieHi b s run ps.dropLast ≤ lieHi b s run ps := by
  have hs0 := hB.s0
  have hs1 := hB.s1
  have e1 := lieLo_snoc hs0 (show 1 ≤ b.shi by omega) s run ps.dropLast (ps.getLast hne)
  have e2 := lieHi_snoc hs0 (show 1 ≤ b.shi by omega) s run ps.dropLast (ps.getLast hne)
  rw [List.dropLast_concat_getLast hne] at e1 e2
  omega
theorem later_spec {b : Bch} {s : Shp} {run : Pul} {target : Int} : ∀ (k i : Nat), later b s run target i k = (0, 9) ∨ ∃ m : Nat, i ≤ m ∧ m < i + k ∧ later b s run target i k = ((m : Int), 0) ∧ target ≤ lieLo b s run [⟨m, 0⟩]
  | 0, i => .inl rfl
  | k + 1, i => by
    by_cases h : target ≤ lieLo b s run [⟨i, 0⟩]
    · exact .inr ⟨i, Nat.le_refl _, by omega, later_hit h, h⟩
    · rw [later_step h]
      rcases later_spec (b := b) (s := s) (run := run) (target := target) k (i + 1) with h1 | ⟨m, h1, h2, h3, h4⟩
      · exact .inl h1
      · exact .inr ⟨m, by omega, by omega, h3, h4⟩
theorem laterV_two {b : Bch} {s : Shp} (hk : (chk b s).2.2 = 0) {run : Pul} (hr : PuOk b.ts.length run) (target : Int) :
    laterV b s run target = .tuple #[.int .i64 0, .int .i64 9] ∨ ∃ m : Nat, run.tide < m ∧ m < b.ts.length ∧ laterV b s run target = .tuple #[.int .i64 (m : Int), .int .i64 0] ∧ target ≤ lieLo b s run [⟨m, 0⟩] := by
  have h0 : stepE b s run.tide run.bal = 0 := by rw [stepE_run hk]; exact runE_ok hr.t0 hr.t1 hr.b0 hr.b1
  have ht := hr.t0
  have ht1 := hr.t1
  unfold laterV
  rw [if_pos h0]
  rcases later_spec (b := b) (s := s) (run := run) (target := target) (b.ts.length - (run.tide.toNat + 1)) (run.tide.toNat + 1) with h | ⟨m, h1, h2, h3, h4⟩
  · left; rw [h]
  · right; exact ⟨m, by omega, by omega, by rw [h3], h4⟩
theorem later_end {b : Bch} {s : Shp} (hB : BchOk b) (hS : ShpOk s) (l : List Int) {run : Pul} (hr : PuOk b.ts.length run) {target : Int} {m : Nat} (hm : m < b.ts.length) (h : target ≤ lieLo b s run [⟨m, 0⟩]) : target ≤ max (plR b s l run) (plP b s l ⟨m, 0⟩) := by
  have := (liesK_in hB hS l hr 1 [⟨m, 0⟩] rfl (fun p hp => by
    obtain rfl : p = ⟨(m : Int), 0⟩ := by simpa using hp
    exact ⟨by simp, by simp; omega, by simp, by simp⟩)).1
  exact Int.le_trans h this
theorem trt_ok {b : Bch} {s : Shp} (hB : BchOk b) (hS : ShpOk s) (l : List Int) {i : Nat} (hi : i < b.ts.length) :
    ∃ sl dr he wn : Int, truthV (bx b s i) i l = (sl, dr, he, wn) ∧ TrOk sl dr he wn ∧ TrOk sl dr (he + b.bite) wn ∧ 0 ≤ he ∧ he ≤ 1500 ∧ 0 ≤ b.bite ∧ b.bite ≤ 200 := by
  have hx := bx_ok hB hS hi
  obtain ⟨_, _, _, _, _, _, _, _⟩ := truthV_in hx i l
  obtain ⟨_, _, _, _, _, _, _, _, _, _, _, _⟩ := hx
  have := hB.b0
  have := hB.b1
  exact ⟨(truthV (bx b s i) i l).1, (truthV (bx b s i) i l).2.1, (truthV (bx b s i) i l).2.2.1, (truthV (bx b s i) i l).2.2.2, rfl, ⟨by omega, by omega, by omega, by omega, by omega, by omega, by omega, by omega⟩, ⟨by omega, by omega, by omega, by omega, by omega, by omega, by omega, by omega⟩, by omega, by omega, by omega, by omega⟩
theorem plR_of {b : Bch} {s : Shp} {l : List Int} {i : Nat} {n sl dr he wn : Int} (h : truthV (bx b s i) i l = (sl, dr, he, wn)) : plR b s l ⟨i, n⟩ = pl sl dr he wn (-s.sink * n) := by
  unfold plR trt
  simp only [Int.toNat_natCast]
  rw [h]
theorem plP_of {b : Bch} {s : Shp} {l : List Int} {i : Nat} {p : Pul} (hp : p.tide = (i : Int)) {sl dr he wn : Int} (h : truthV (bx b s i) i l = (sl, dr, he, wn)) : plP b s l p = pl sl dr (he + b.bite) wn (-s.sink * p.bal) := by
  unfold plP trt
  rw [hp]
  simp only [Int.toNat_natCast]
  rw [h]
end Td
end Go.Proofs.Ytojpiliamecgkaa
