import Derived.Test.YthdcklonamgpiaaMathB
/- The plain mathematics of layer 5, on: forces of the ground; what is answered. -/
namespace Go.Proofs.Ythdcklonamgpiaa
namespace Td
set_option linter.unusedVariables false
/-! ### forces -/
/-- the i-th force: where, and how much. -/
def fo (l : List (Int × Int)) (i : Nat) : Int × Int := (l[i]?).getD (0, 0)
theorem fo_at {l : List (Int × Int)} {i : Nat} (h : i < l.length) : fo l i = l[i] := by simp [fo, h]
def okF (a f all : Int) (x : Int × Int) : Bool := wi a f x.1 && wi 0 all x.2
def fsum (l : List (Int × Int)) (n : Nat) : Int := sm (fun i => (fo l i).2) n
def fturn (a : Int) (l : List (Int × Int)) (n : Nat) : Int := sm (fun i => (fo l i).2 * ((fo l i).1 - a)) n
/-- forces bear a hull with this Down and Aft. -/
def brs (h : Hul) (d a : Int) (l : List (Int × Int)) : Bool :=
  l.all (okF h.aft h.fore (d * (h.fore - h.aft))) && decide (0 < d) && decide (fsum l l.length = d * (h.fore - h.aft)) && decide (fturn h.aft l l.length = a * (h.fore - h.aft))
theorem bal_sum (h : Hul) (gs ls : List Int) (w : Int) : bal h gs ls 1 w + bal h gs ls 2 w = bal h gs ls 0 w * (h.fore - h.aft) := by
  unfold bal
  rw [← sm_add, ← sm_mul]
  refine sm_congr fun i _ => ?_
  simp only [term, adds]
  rw [← Int.mul_add]
  congr 1
  omega
theorem mul_pos_left {a b : Int} (hb : 0 < b) (h : 0 ≤ a * b) : 0 ≤ a := by
  rcases Int.lt_or_le a 0 with ha | ha
  · have := Int.mul_neg_of_neg_of_pos ha hb; omega
  · exact ha
theorem brs_two {h : Hul} {d a f : Int} (hl : h.aft < h.fore) (hs : a + f = d * (h.fore - h.aft)) (hd : 0 < d) (ha : 0 ≤ a) (hf : 0 ≤ f) : brs h d a [(h.aft, f), (h.fore, a)] = true := by
  unfold brs
  simp only [List.all_cons, List.all_nil, okF, wi, Bool.and_true, Bool.and_eq_true, decide_eq_true_eq, List.length_cons, List.length_nil, fsum, fturn, sm, fo]
  refine ⟨⟨⟨?_, hd⟩, ?_⟩, ?_⟩
  · omega
  · simp; omega
  · simp
theorem brs_good {h : Hul} {d a f : Int} (hl : h.aft < h.fore) (hs : a + f = d * (h.fore - h.aft)) {l : List (Int × Int)} (hb : brs h d a l = true) : 0 < d ∧ 0 ≤ a ∧ 0 ≤ f := by
  unfold brs at hb
  simp only [Bool.and_eq_true, decide_eq_true_eq, List.all_eq_true] at hb
  obtain ⟨⟨⟨h1, h2⟩, h3⟩, h4⟩ := hb
  have h5 : ∀ i, i < l.length → h.aft ≤ (fo l i).1 ∧ (fo l i).1 ≤ h.fore ∧ 0 ≤ (fo l i).2 := fun i hi => by
    rw [fo_at hi]
    have := h1 _ (List.getElem_mem hi)
    simp only [okF, wi, Bool.and_eq_true, decide_eq_true_eq] at this
    omega
  have z : sm (fun _ => 0) l.length = 0 := by
    have := sm_mul (fun _ => 0) 0 l.length
    simpa using this
  have a1 : 0 ≤ fturn h.aft l l.length := by
    rw [← z]
    refine sm_le fun i hi => ?_
    have := h5 i hi
    exact Int.mul_nonneg (by omega) (by omega)
  have a2 : 0 ≤ fsum l l.length * (h.fore - h.aft) - fturn h.aft l l.length := by
    have e : fsum l l.length * (h.fore - h.aft) = sm (fun i => (fo l i).2 * (h.fore - h.aft)) l.length := (sm_mul _ _ _).symm
    have : fturn h.aft l l.length ≤ sm (fun i => (fo l i).2 * (h.fore - h.aft)) l.length := sm_le fun i hi => by
      have := h5 i hi
      exact Int.mul_le_mul_of_nonneg_left (by omega) (by omega)
    omega
  have hlen : 0 < h.fore - h.aft := by omega
  refine ⟨h2, mul_pos_left hlen (by omega), mul_pos_left hlen ?_⟩
  rw [h3, h4] at a2
  have : f = d * (h.fore - h.aft) - a := by omega
  rw [this, Int.sub_mul]
  exact a2
/-! ### what is answered -/
/-- the error of a truth. -/
def truthE (h : Hul) (gs ls : List Int) : Int :=
  if gs.length ≠ h.parts.length ∨ ls.length ≠ h.parts.length then 3
  else if (List.range h.parts.length).all (fun i => wi (pa h.parts i).w0 (pa h.parts i).w1 (gs[i]?.getD 0)) && (List.range h.parts.length).all (fun i => wi (pa h.parts i).l0 (pa h.parts i).l1 (ls[i]?.getD 0)) then 0 else 7
theorem truthE_ok {h : Hul} {gs ls : List Int} : truthE h gs ls = 0 ↔ TOk h gs ls := by
  unfold truthE
  constructor
  · intro e
    split at e
    · cases e
    · rename_i h1
      split at e
      · rename_i h2
        simp only [Bool.and_eq_true, List.all_eq_true, List.mem_range, wi_iff] at h2
        exact ⟨by omega, by omega, h2.1, h2.2⟩
      · cases e
  · intro ht
    rw [if_neg (by have := ht.ng; have := ht.nl; omega), if_pos]
    simp only [Bool.and_eq_true, List.all_eq_true, List.mem_range, wi_iff]
    exact ⟨ht.gb, ht.lb⟩
def waterE (w : Int) : Int := if wi 0 1000 w then 0 else 7
/-- the error of a hull, a truth and a height. -/
def balE (h : Hul) (gs ls : List Int) (w : Int) : Int := if (chk h).2.2 ≠ 0 then (chk h).2.2 else if truthE h gs ls ≠ 0 then truthE h gs ls else waterE w
def balanceA (h : Hul) (gs ls : List Int) (w : Int) : (Int × Int × Int) × Int := if balE h gs ls w ≠ 0 then ((0, 0, 0), balE h gs ls w) else ((bal h gs ls 0 w, bal h gs ls 1 w, bal h gs ls 2 w), 0)
/-- the error of a hull and a tide. -/
def lookE (h : Hul) (lo hi : Int) : Int := if (chk h).2.2 ≠ 0 then (chk h).2.2 else tideE lo hi
def leastA (h : Hul) (w : Int) : (Int × Int × Int) × Int := if lookE h w w ≠ 0 then ((0, 0, 0), lookE h w w) else ((lst h 0 w, lst h 1 w, lst h 2 w), 0)
def whyA (h : Hul) (lo hi : Int) : Int × Int × Int := if lookE h lo hi ≠ 0 then (0, 0, lookE h lo hi) else ((fall h lo hi).2, (fall h lo hi).1, 0)
/-- which sum shows a reason. -/
def shK (why : Int) : Nat := (max why 1 - 1).toNat
def showA (h : Hul) (w : Int) : (List Int × List Int) × Int × Int := if lookE h w w ≠ 0 then (([], []), 0, lookE h w w) else ((shG h (shK (whyH h w)), shL h (shK (whyH h w))), whyH h w, 0)
def forcesA (h : Hul) (gs ls : List Int) (w : Int) : List (Int × Int) × Int :=
  if balE h gs ls w ≠ 0 then ([], balE h gs ls w) else if whyB (bal h gs ls 0 w) (bal h gs ls 1 w) (bal h gs ls 2 w) ≠ 0 then ([], 9) else ([(h.aft, bal h gs ls 2 w), (h.fore, bal h gs ls 1 w)], 0)
def bearsA (h : Hul) (gs ls : List Int) (w : Int) (l : List (Int × Int)) : Bool × Int :=
  if balE h gs ls w ≠ 0 then (false, balE h gs ls w) else if 10 < l.length then (false, 3) else (brs h (bal h gs ls 0 w) (bal h gs ls 1 w) l, 0)
def tideA (h : Hul) : Int × Int :=
  if (chk h).2.2 ≠ 0 then (0, (chk h).2.2) else if (fall h 0 1000).2 = 0 then (1000, 0) else if (fall h 0 1000).1 = 0 then (0, 9) else ((fall h 0 1000).1 - 1, 0)
/-- the least of n numbers at which f is true; n if it is at none. -/
def frst (f : Nat → Bool) (n : Nat) : Nat := ((List.range n).find? f).getD n
theorem frst_at {f : Nat → Bool} {n k : Nat} (hk : k < n) (h0 : ∀ j, j < k → f j = false) (h : f k = true) : frst f n = k := by
  have : (List.range n).find? f = some k := by
    rw [List.find?_range_eq_some]
    exact ⟨h, by simpa using hk, fun j hj => by simp [h0 j hj]⟩
  simp [frst, this]
theorem frst_none {f : Nat → Bool} {n : Nat} (h0 : ∀ j, j < n → f j = false) : frst f n = n := by
  have : (List.range n).find? f = none := by
    rw [List.find?_range_eq_none]
    intro i hi
    simp [h0 i hi]
  simp [frst, this]
/-- of a function that stays true. -/
theorem frst_cut {f : Nat → Bool} {n k : Nat} (hk : k ≤ n) (h0 : ∀ j, j < k → f j = false) (h : k < n → f k = true) : frst f n = k := by
  rcases Nat.lt_or_ge k n with h1 | h1
  · exact frst_at h1 h0 (h h1)
  · obtain rfl : k = n := by omega
    exact frst_none h0
theorem frst_spec (f : Nat → Bool) (n : Nat) : frst f n ≤ n ∧ (∀ j, j < frst f n → f j = false) ∧ (frst f n < n → f (frst f n) = true) := by
  have key : ∀ m, (∀ j, j < m → f j = false) ∨ ∃ k, k < m ∧ (∀ j, j < k → f j = false) ∧ f k = true := by
    intro m
    induction m with
    | zero => exact .inl fun j hj => absurd hj (by omega)
    | succ m ih =>
      rcases ih with h1 | ⟨k, h1, h2⟩
      · cases hz : f m
        · exact .inl fun j hj => by
            by_cases e : j = m
            · rw [e]; exact hz
            · exact h1 j (by omega)
        · exact .inr ⟨m, by omega, h1, hz⟩
      · exact .inr ⟨k, by omega, h2⟩
  rcases key n with h1 | ⟨k, h1, h2, h3⟩
  · rw [frst_none h1]; exact ⟨Nat.le_refl _, h1, fun h => absurd h (by omega)⟩
  · rw [frst_at h1 h2 h3]; exact ⟨by omega, h2, fun _ => h3⟩
/-- with so much ballast on a part a hull surely stands through a tide. -/
def does (h : Hul) (p : Nat) (lo hi : Int) (n : Nat) : Bool := thru (ldH h p n) lo hi
def blst (h : Hul) (p : Nat) (lo hi : Int) : Nat := frst (does h p lo hi) 1000001
def ballE (h : Hul) (p lo hi : Int) : Int :=
  if (chk h).2.2 ≠ 0 then (chk h).2.2 else if wi 0 ((h.parts.length : Int) - 1) p = false then 4 else if wi h.aft h.fore (pa h.parts p.toNat).pt = false then 2 else tideE lo hi
def ballastA (h : Hul) (p lo hi : Int) : Int × Int :=
  if ballE h p lo hi ≠ 0 then (0, ballE h p lo hi) else if 1000000 < blst h p.toNat lo hi then (0, 9) else ((blst h p.toNat lo hi : Int), 0)
theorem does_mono {h : Hul} {p : Nat} (hp : p < h.parts.length) (ha : h.aft ≤ (pa h.parts p).pt) (hf : (pa h.parts p).pt ≤ h.fore) {lo hi : Int} {n m : Nat} (hnm : n ≤ m) (ht : does h p lo hi n = true) : does h p lo hi m = true :=
  thru_ld hp ha hf (by omega) ht
theorem tideE_ok {lo hi : Int} : tideE lo hi = 0 ↔ 0 ≤ lo ∧ lo ≤ hi ∧ hi ≤ 1000 := by
  unfold tideE
  constructor
  · intro h
    split at h
    · rename_i h1
      simp [wi] at h1
      split at h
      · cases h
      · omega
    · cases h
  · intro h
    rw [if_pos (by simp [wi]; omega), if_neg (by omega)]
theorem lookE_ok {h : Hul} {lo hi : Int} : lookE h lo hi = 0 ↔ (chk h).2.2 = 0 ∧ 0 ≤ lo ∧ lo ≤ hi ∧ hi ≤ 1000 := by
  unfold lookE
  split
  · rename_i h1; constructor
    · intro h2; exact absurd h2 h1
    · intro h2; exact absurd h2.1 h1
  · rename_i h1
    rw [tideE_ok]
    constructor
    · intro h2; exact ⟨by simpa using h1, h2⟩
    · intro h2; exact h2.2
theorem waterE_ok {w : Int} : waterE w = 0 ↔ 0 ≤ w ∧ w ≤ 1000 := by
  unfold waterE
  constructor
  · intro h; split at h
    · rename_i h1; exact wi_iff.1 h1
    · cases h
  · intro h; rw [if_pos (wi_iff.2 h)]
theorem tideE_one (w : Int) : tideE w w = waterE w := by
  unfold tideE waterE
  cases h : wi 0 1000 w <;> simp
theorem balE_ok {h : Hul} {gs ls : List Int} {w : Int} : balE h gs ls w = 0 ↔ (chk h).2.2 = 0 ∧ TOk h gs ls ∧ 0 ≤ w ∧ w ≤ 1000 := by
  unfold balE
  rw [← truthE_ok, ← waterE_ok]
  by_cases h1 : (chk h).2.2 = 0 <;> by_cases h2 : truthE h gs ls = 0 <;> simp [h1, h2]
end Td
end Go.Proofs.Ythdcklonamgpiaa
