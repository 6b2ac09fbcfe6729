
/- The plain mathematics of layer 5 (stand): what is valid, the sums of a balance, through which tides a hull surely stands. It imports nothing of the program. -/
namespace Go.Proofs.Ythdcklonamgpiaa
namespace Td
set_option linter.unusedVariables false

/-- a part of a hull. -/
structure Prt where
  name : ByteArray
  pt : Int
  w0 : Int
  w1 : Int
  kl : Int
  l0 : Int
  l1 : Int
structure Hul where
  parts : List Prt
  aft : Int
  fore : Int

/-- a number is from lo to hi. -/
def wi (lo hi n : Int) : Bool := decide (lo ≤ n) && decide (n ≤ hi)
theorem wi_iff {lo hi n : Int} : wi lo hi n = true ↔ lo ≤ n ∧ n ≤ hi := by simp [wi]
theorem wi_no {lo hi n : Int} : wi lo hi n = false ↔ n < lo ∨ hi < n := by
  rw [Bool.eq_false_iff, Ne, wi_iff]; omega
/-- both ends of all spans are from lo to hi. -/
def sw (lo hi : Int) (l : List (Int × Int)) : Bool := l.all fun s => wi lo hi s.1 && wi lo hi s.2
/-- some span is turned. -/
def tn (l : List (Int × Int)) : Bool := l.any fun s => decide (s.2 < s.1)

/-! ### names -/
/-- two strings hold the same bytes. -/
def eqS (a b : ByteArray) : Bool := a.toList == b.toList
def letterI (a : Int) : Bool := decide (97 ≤ a) && decide (a ≤ 122)
def digitI (a : Int) : Bool := decide (48 ≤ a) && decide (a ≤ 57)
/-- a letter or a digit. -/
def nameB (b : UInt8) : Bool := letterI b.toNat || digitI b.toNat
/-- a name. -/
def isName (s : ByteArray) : Bool := match s.data.toList with
  | [] => false
  | b :: r => decide ((b :: r).length ≤ 16) && letterI b.toNat && (b :: r).all nameB

/-! ### errors -/
/-- the first index of n at which f is an error, and this error. -/
def ff (f : Nat → Int) (n : Nat) : Int × Int := match (List.range n).find? (fun i => f i != 0) with
  | some i => (i, f i)
  | none => (0, 0)
theorem ff_at {f : Nat → Int} {n k : Nat} (hk : k < n) (h0 : ∀ j, j < k → f j = 0) (h : f k ≠ 0) : ff f n = ((k : Int), f k) := by
  have : (List.range n).find? (fun i => f i != 0) = some k := by
    rw [List.find?_range_eq_some]
    exact ⟨by simpa using h, by simpa using hk, fun j hj => by simp [h0 j hj]⟩
  simp [ff, this]
theorem ff_ok {f : Nat → Int} {n : Nat} (h0 : ∀ j, j < n → f j = 0) : ff f n = (0, 0) := by
  have : (List.range n).find? (fun i => f i != 0) = none := by
    rw [List.find?_range_eq_none]
    intro i hi
    simp [h0 i hi]
  simp [ff, this]
theorem ff_zero {f : Nat → Int} {n : Nat} : (ff f n).2 = 0 ↔ ∀ j, j < n → f j = 0 := by
  constructor
  · intro h j
    induction j using Nat.strongRecOn with
    | _ j ih =>
      intro hj
      by_cases hf : f j = 0
      · exact hf
      · have := ff_at hj (fun i hi => ih i hi (by omega)) hf
        rw [this] at h
        exact absurd h hf
  · intro h
    rw [ff_ok h]


/-- all numbers of a part are in their ranges. -/
def okNum (x : Prt) : Bool := wi 0 5000 x.pt && sw 0 1000000 [(x.w0, x.w1)] && wi 0 1000 x.kl && sw 0 5000 [(x.l0, x.l1)]
/-- the error of a part behind those before it. -/
def partE (x : Prt) (before : List Prt) : Int :=
  if isName x.name then
    if before.any (fun u => eqS u.name x.name) then 5 else if okNum x then (if tn [(x.w0, x.w1), (x.l0, x.l1)] then 2 else 0) else 7
  else 6
def partAt (l : List Prt) (i : Nat) : Int := match l[i]? with | some x => partE x (l.take i) | none => 0
/-- the error of a hull, but for its parts. -/
def groundE (h : Hul) : Int := if wi 1 10 h.parts.length then (if wi 0 5000 h.aft && wi 0 5000 h.fore then (if h.fore ≤ h.aft then 2 else 0) else 7) else 3
def chk (h : Hul) : Int × Int × Int :=
  if groundE h != 0 then (1, 0, groundE h) else if (ff (partAt h.parts) h.parts.length).2 != 0 then (2, (ff (partAt h.parts) h.parts.length).1, (ff (partAt h.parts) h.parts.length).2) else (0, 0, 0)
/-- the error of a tide. -/
def tideE (lo hi : Int) : Int := if wi 0 1000 lo && wi 0 1000 hi then (if hi < lo then 2 else 0) else 7

/-- a part is as the document says. -/
structure POk (x : Prt) : Prop where
  p0 : 0 ≤ x.pt
  p1 : x.pt ≤ 5000
  w0 : 0 ≤ x.w0
  w01 : x.w0 ≤ x.w1
  w1 : x.w1 ≤ 1000000
  k0 : 0 ≤ x.kl
  k1 : x.kl ≤ 1000
  l0 : 0 ≤ x.l0
  l01 : x.l0 ≤ x.l1
  l1 : x.l1 ≤ 5000
/-- a part on which there may be ballast of up to a bound. -/
structure PBk (x : Prt) : Prop where
  p0 : 0 ≤ x.pt
  p1 : x.pt ≤ 5000
  w0 : 0 ≤ x.w0
  w01 : x.w0 ≤ x.w1
  w1 : x.w1 ≤ 3000000
  k0 : 0 ≤ x.kl
  k1 : x.kl ≤ 1000
  l0 : 0 ≤ x.l0
  l01 : x.l0 ≤ x.l1
  l1 : x.l1 ≤ 5000
theorem POk.bk {x : Prt} (h : POk x) : PBk x := ⟨h.p0, h.p1, h.w0, h.w01, by have := h.w1; omega, h.k0, h.k1, h.l0, h.l01, h.l1⟩
structure HOk (h : Hul) : Prop where
  n1 : 1 ≤ h.parts.length
  n10 : h.parts.length ≤ 10
  a0 : 0 ≤ h.aft
  af : h.aft < h.fore
  f1 : h.fore ≤ 5000
  ps : ∀ x ∈ h.parts, POk x
/-- a hull, of which parts may have ballast. -/
structure HBk (h : Hul) : Prop where
  n1 : 1 ≤ h.parts.length
  n10 : h.parts.length ≤ 10
  a0 : 0 ≤ h.aft
  af : h.aft < h.fore
  f1 : h.fore ≤ 5000
  ps : ∀ x ∈ h.parts, PBk x
theorem HOk.bk {h : Hul} (k : HOk h) : HBk h := ⟨k.n1, k.n10, k.a0, k.af, k.f1, fun x hx => (k.ps x hx).bk⟩
theorem wi_true {lo hi n : Int} (h : wi lo hi n = true) : lo ≤ n ∧ n ≤ hi := wi_iff.1 h
theorem partE_ok {x : Prt} {before : List Prt} (h : partE x before = 0) : POk x := by
  unfold partE at h
  split at h
  · split at h
    · cases h
    · split at h
      · rename_i hn
        split at h
        · cases h
        · rename_i ht
          simp [okNum, sw, tn, wi] at hn ht
          constructor <;> omega
      · cases h
  · cases h
theorem chk_ok {h : Hul} (hc : (chk h).2.2 = 0) : HOk h := by
  unfold chk at hc
  split at hc
  · rename_i hg; simp at hg; exact absurd hc hg
  · rename_i hg
    split at hc
    · rename_i hf; simp at hf; exact absurd hc hf
    · rename_i hf
      have hf' : (ff (partAt h.parts) h.parts.length).2 = 0 := by simpa using hf
      have hg' : groundE h = 0 := by simpa using hg
      rw [ff_zero] at hf'
      have hp : ∀ x ∈ h.parts, POk x := fun x hx => by
        obtain ⟨j, hj, rfl⟩ := List.mem_iff_getElem.1 hx
        have := hf' j hj
        unfold partAt at this
        rw [List.getElem?_eq_getElem hj] at this
        exact partE_ok this
      unfold groundE at hg'
      split at hg'
      · rename_i h1
        split at hg'
        · rename_i h2
          split at hg'
          · cases hg'
          · simp [wi] at h1 h2
            exact ⟨by omega, by omega, by omega, by omega, by omega, hp⟩
        · cases hg'
      · cases hg'
/-! ### sums -/
/-- the sum of the first n. -/
def sm (f : Nat → Int) : Nat → Int
  | 0 => 0
  | n + 1 => sm f n + f n
theorem sm_congr {f g : Nat → Int} : ∀ {n : Nat}, (∀ i, i < n → f i = g i) → sm f n = sm g n
  | 0, _ => rfl
  | n + 1, h => by simp only [sm]; rw [sm_congr fun i hi => h i (by omega), h n (by omega)]
theorem sm_le {f g : Nat → Int} : ∀ {n : Nat}, (∀ i, i < n → f i ≤ g i) → sm f n ≤ sm g n
  | 0, _ => Int.le_refl _
  | n + 1, h => by
    simp only [sm]
    have := sm_le (n := n) fun i hi => h i (by omega)
    have := h n (by omega)
    omega
theorem sm_add (f g : Nat → Int) : ∀ n, sm (fun i => f i + g i) n = sm f n + sm g n
  | 0 => rfl
  | n + 1 => by simp only [sm]; rw [sm_add f g n]; omega
theorem sm_mul (f : Nat → Int) (c : Int) : ∀ n, sm (fun i => f i * c) n = sm f n * c
  | 0 => by simp [sm]
  | n + 1 => by simp only [sm]; rw [sm_mul f c n, Int.add_mul]
theorem sm_bd {f : Nat → Int} {B : Int} : ∀ {n : Nat}, (∀ i, i < n → -B ≤ f i ∧ f i ≤ B) → -(B * n) ≤ sm f n ∧ sm f n ≤ B * n
  | 0, _ => by simp [sm]
  | n + 1, h => by
    simp only [sm]
    have h1 := sm_bd (n := n) fun i hi => h i (by omega)
    have h2 := h n (by omega)
    have h3 : B * ((n + 1 : Nat) : Int) = B * n + B := by push_cast; rw [Int.mul_add, Int.mul_one]
    rw [h3]
    omega
/-! ### presses and balances -/
def zp : Prt := ⟨ByteArray.empty, 0, 0, 0, 0, 0, 0⟩
/-- the i-th part. -/
def pa (l : List Prt) (i : Nat) : Prt := (l[i]?).getD zp
theorem pa_at {l : List Prt} {i : Nat} (h : i < l.length) : pa l i = l[i] := by simp [pa, h]
/-- the height of water above a keel. -/
def abv (x : Prt) (w : Int) : Int := max 0 (w - x.kl)
/-- the press of a part. -/
def prs (x : Prt) (g l w : Int) : Int := g - l * abv x w
/-- what a press adds to the k-th sum. -/
def adds (a f : Int) (k : Nat) (x : Prt) (p : Int) : Int := match k with
  | 0 => p
  | 1 => p * (x.pt - a)
  | _ => p * (f - x.pt)
/-- the k-th sum is least where the part is heaviest. -/
def hvy (a f : Int) (k : Nat) (x : Prt) : Bool := match k with
  | 0 => false
  | 1 => decide (x.pt < a)
  | _ => decide (f < x.pt)
def sdW (a f : Int) (k : Nat) (x : Prt) : Int := if hvy a f k x then x.w1 else x.w0
def sdL (a f : Int) (k : Nat) (x : Prt) : Int := if hvy a f k x then x.l0 else x.l1
/-- what the i-th part adds to the k-th sum of a truth. -/
def term (h : Hul) (gs ls : List Int) (k : Nat) (w : Int) (i : Nat) : Int := adds h.aft h.fore k (pa h.parts i) (prs (pa h.parts i) (gs[i]?.getD 0) (ls[i]?.getD 0) w)
def bal (h : Hul) (gs ls : List Int) (k : Nat) (w : Int) : Int := sm (term h gs ls k w) h.parts.length
/-- what it adds at least. -/
def ltm (h : Hul) (k : Nat) (w : Int) (i : Nat) : Int := adds h.aft h.fore k (pa h.parts i) (prs (pa h.parts i) (sdW h.aft h.fore k (pa h.parts i)) (sdL h.aft h.fore k (pa h.parts i)) w)
def lst (h : Hul) (k : Nat) (w : Int) : Int := sm (ltm h k w) h.parts.length
def whyB (d a f : Int) : Int := if d < 1 then 1 else if a < 0 then 2 else if f < 0 then 3 else 0
def whyH (h : Hul) (w : Int) : Int := whyB (lst h 0 w) (lst h 1 w) (lst h 2 w)
theorem whyB_zero {d a f : Int} : whyB d a f = 0 ↔ 1 ≤ d ∧ 0 ≤ a ∧ 0 ≤ f := by
  unfold whyB; constructor
  · intro h
    by_cases h1 : d < 1
    · rw [if_pos h1] at h; cases h
    · rw [if_neg h1] at h
      by_cases h2 : a < 0
      · rw [if_pos h2] at h; cases h
      · rw [if_neg h2] at h
        by_cases h3 : f < 0
        · rw [if_pos h3] at h; cases h
        · omega
  · rintro ⟨h1, h2, h3⟩; rw [if_neg (by omega), if_neg (by omega), if_neg (by omega)]
theorem whyB_range (d a f : Int) : 0 ≤ whyB d a f ∧ whyB d a f ≤ 3 := by
  unfold whyB
  by_cases h1 : d < 1
  · rw [if_pos h1]; omega
  · rw [if_neg h1]
    by_cases h2 : a < 0
    · rw [if_pos h2]; omega
    · rw [if_neg h2]
      by_cases h3 : f < 0
      · rw [if_pos h3]; omega
      · rw [if_neg h3]; omega
theorem abv_bd {x : Prt} (hx : PBk x) {w : Int} (h0 : 0 ≤ w) (h1 : w ≤ 1000) : 0 ≤ abv x w ∧ abv x w ≤ 1000 := by
  unfold abv; have := hx.k0; omega
theorem mul_bd {a b A B : Int} (h0 : 0 ≤ a) (h1 : a ≤ A) (k0 : 0 ≤ b) (k1 : b ≤ B) : 0 ≤ a * b ∧ a * b ≤ A * B :=
  ⟨Int.mul_nonneg h0 k0, Int.mul_le_mul h1 k1 k0 (by omega)⟩
theorem mul_bd2 {a b A B : Int} (h0 : -A ≤ a) (h1 : a ≤ A) (k0 : -B ≤ b) (k1 : b ≤ B) : -(A * B) ≤ a * b ∧ a * b ≤ A * B := by
  have hA : 0 ≤ A := by omega
  have hB : 0 ≤ B := by omega
  rcases Int.le_total 0 a with ha | ha <;> rcases Int.le_total 0 b with hb | hb
  · have := mul_bd ha h1 hb k1
    have := Int.mul_nonneg hA hB
    omega
  · have h := mul_bd ha h1 (b := -b) (B := B) (by omega) (by omega)
    rw [Int.mul_neg] at h
    have := Int.mul_nonneg hA hB
    omega
  · have h := mul_bd (a := -a) (A := A) (by omega) (by omega) hb k1
    rw [Int.neg_mul] at h
    have := Int.mul_nonneg hA hB
    omega
  · have h := mul_bd (a := -a) (A := A) (b := -b) (B := B) (by omega) (by omega) (by omega) (by omega)
    rw [Int.neg_mul_neg] at h
    have := Int.mul_nonneg hA hB
    omega
/-- a press of numbers of a part is within bounds. -/
theorem prs_bd {x : Prt} {g l w : Int} (hg : 0 ≤ g) (hg1 : g ≤ 3000000) (hl : 0 ≤ l) (hl1 : l ≤ 5000) (hx : PBk x) (h0 : 0 ≤ w) (h1 : w ≤ 1000) : -5000000 ≤ prs x g l w ∧ prs x g l w ≤ 5000000 := by
  obtain ⟨a0, a1⟩ := abv_bd hx h0 h1
  have := mul_bd hl hl1 a0 a1
  unfold prs
  omega
theorem adds_bd {x : Prt} {a f p : Int} (k : Nat) (hx : PBk x) (ha : 0 ≤ a) (ha1 : a ≤ 5000) (hf : 0 ≤ f) (hf1 : f ≤ 5000) (h0 : -5000000 ≤ p) (h1 : p ≤ 5000000) : -25000000000 ≤ adds a f k x p ∧ adds a f k x p ≤ 25000000000 := by
  have p0 := hx.p0
  have p1 := hx.p1
  unfold adds
  split
  · omega
  · have := mul_bd2 h0 h1 (b := x.pt - a) (B := 5000) (by omega) (by omega); omega
  · have := mul_bd2 h0 h1 (b := f - x.pt) (B := 5000) (by omega) (by omega); omega
theorem sd_bd {x : Prt} (a f : Int) (k : Nat) (hx : PBk x) : (0 ≤ sdW a f k x ∧ sdW a f k x ≤ 3000000) ∧ (0 ≤ sdL a f k x ∧ sdL a f k x ≤ 5000) := by
  have := hx.w0; have := hx.w01; have := hx.w1; have := hx.l0; have := hx.l01; have := hx.l1
  unfold sdW sdL; split <;> omega
theorem pa_mem {l : List Prt} {i : Nat} (h : i < l.length) : pa l i ∈ l := by rw [pa_at h]; exact List.getElem_mem h
theorem ltm_bd {h : Hul} (hh : HBk h) (k : Nat) {w : Int} (h0 : 0 ≤ w) (h1 : w ≤ 1000) {i : Nat} (hi : i < h.parts.length) : -25000000000 ≤ ltm h k w i ∧ ltm h k w i ≤ 25000000000 := by
  have hx := hh.ps _ (pa_mem hi)
  have := hh.a0; have := hh.af; have := hh.f1
  obtain ⟨⟨g0, g1⟩, l0, l1⟩ := sd_bd h.aft h.fore k hx
  obtain ⟨p0, p1⟩ := prs_bd g0 g1 l0 l1 hx h0 h1
  exact adds_bd k hx (by omega) (by omega) (by omega) (by omega) p0 p1
theorem lsm_bd {h : Hul} (hh : HBk h) (k : Nat) {w : Int} (h0 : 0 ≤ w) (h1 : w ≤ 1000) {n : Nat} (hn : n ≤ h.parts.length) : -250000000000 ≤ sm (ltm h k w) n ∧ sm (ltm h k w) n ≤ 250000000000 := by
  have h2 := sm_bd (f := ltm h k w) (B := 25000000000) (n := n) fun i hi => ltm_bd hh k h0 h1 (Nat.lt_of_lt_of_le hi hn)
  have := hh.n10
  omega
/-- a truth of a hull. -/
structure TOk (h : Hul) (gs ls : List Int) : Prop where
  ng : gs.length = h.parts.length
  nl : ls.length = h.parts.length
  gb : ∀ i, i < h.parts.length → (pa h.parts i).w0 ≤ gs[i]?.getD 0 ∧ gs[i]?.getD 0 ≤ (pa h.parts i).w1
  lb : ∀ i, i < h.parts.length → (pa h.parts i).l0 ≤ ls[i]?.getD 0 ∧ ls[i]?.getD 0 ≤ (pa h.parts i).l1
theorem term_bd {h : Hul} (hh : HBk h) {gs ls : List Int} (ht : TOk h gs ls) (k : Nat) {w : Int} (h0 : 0 ≤ w) (h1 : w ≤ 1000) {i : Nat} (hi : i < h.parts.length) : -25000000000 ≤ term h gs ls k w i ∧ term h gs ls k w i ≤ 25000000000 := by
  have hx := hh.ps _ (pa_mem hi)
  have := hh.a0; have := hh.af; have := hh.f1
  have := hx.w0; have := hx.w01; have := hx.w1; have := hx.l0; have := hx.l01; have := hx.l1
  obtain ⟨g0, g1⟩ := ht.gb i hi
  obtain ⟨l0, l1⟩ := ht.lb i hi
  obtain ⟨p0, p1⟩ := prs_bd (g := gs[i]?.getD 0) (l := ls[i]?.getD 0) (by omega) (by omega) (by omega) (by omega) hx h0 h1
  exact adds_bd k hx (by omega) (by omega) (by omega) (by omega) p0 p1
theorem tsm_bd {h : Hul} (hh : HBk h) {gs ls : List Int} (ht : TOk h gs ls) (k : Nat) {w : Int} (h0 : 0 ≤ w) (h1 : w ≤ 1000) {n : Nat} (hn : n ≤ h.parts.length) : -250000000000 ≤ sm (term h gs ls k w) n ∧ sm (term h gs ls k w) n ≤ 250000000000 := by
  have h2 := sm_bd (f := term h gs ls k w) (B := 25000000000) (n := n) fun i hi => term_bd hh ht k h0 h1 (Nat.lt_of_lt_of_le hi hn)
  have := hh.n10
  omega
end Td
end Go.Proofs.Ythdcklonamgpiaa
