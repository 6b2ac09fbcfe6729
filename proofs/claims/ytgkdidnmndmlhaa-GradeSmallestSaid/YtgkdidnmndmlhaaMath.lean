/- The plain mathematics of layer 8 (grade): ways to choose, sums, fractions. It imports nothing of the program. -/
namespace Go.Proofs.Ytgkdidnmndmlhaa
namespace Td
set_option linter.unusedVariables false

/-! ### numbers and spans within bounds -/
def wi (lo hi n : Int) : Bool := decide (lo ≤ n) && decide (n ≤ hi)
theorem wi_iff {lo hi n : Int} : wi lo hi n = true ↔ lo ≤ n ∧ n ≤ hi := by simp [wi]
theorem wi_no {lo hi n : Int} : wi lo hi n = false ↔ n < lo ∨ hi < n := by
  rw [Bool.eq_false_iff, Ne, wi_iff]; omega
def sw (lo hi : Int) (l : List (Int × Int)) : Bool := l.all fun s => wi lo hi s.1 && wi lo hi s.2
def tn (l : List (Int × Int)) : Bool := l.any fun s => decide (s.2 < s.1)
theorem sw_one (lo hi : Int) (p : Int × Int) : sw lo hi [p] = (wi lo hi p.1 && wi lo hi p.2) := by simp [sw]
theorem tn_one (p : Int × Int) : tn [p] = decide (p.2 < p.1) := by simp [tn]

/-! ### heaps and plans -/
/-- the error of a heap. -/
def chkE (P lo hi : Int) : Int := if wi 1 20 P = true ∧ wi 0 P lo = true ∧ wi 0 P hi = true then (if hi < lo then 2 else 0) else 7
/-- are all numbers of a plan in their ranges? -/
def fits (P fi pa fa se to : Int) : Bool := wi 1 P fi && wi 0 fi pa && wi (pa + 1) (fi + 1) fa && wi 0 (P - fi) se && wi 0 P to
/-- the error of a plan for a heap without an error. -/
def planE (P fi pa fa se to : Int) : Int :=
  if fits P fi pa fa se to = true then
    (if (se = 0 ∧ (fa ≠ pa + 1 ∨ to ≠ 0)) ∨ (se ≠ 0 ∧ (fa = pa + 1 ∨ to < pa)) then 2 else 0)
  else 7
def chkP (P lo hi fi pa fa se to : Int) : Int := if chkE P lo hi = 0 then planE P fi pa fa se to else chkE P lo hi
def shrE (s : Int × Int) : Bool := wi 1 1000000 s.2 && wi 0 s.2 s.1
theorem chkE_ok {P lo hi : Int} : chkE P lo hi = 0 ↔ 1 ≤ P ∧ P ≤ 20 ∧ 0 ≤ lo ∧ lo ≤ hi ∧ hi ≤ P := by
  unfold chkE
  simp only [wi_iff]
  split
  · split <;> omega
  · omega
theorem planE_ok {P fi pa fa se to : Int} (h : planE P fi pa fa se to = 0) : 1 ≤ fi ∧ fi ≤ P ∧ 0 ≤ pa ∧ pa ≤ fi ∧ pa + 1 ≤ fa ∧ fa ≤ fi + 1 ∧ 0 ≤ se ∧ se ≤ P - fi ∧ 0 ≤ to ∧ to ≤ P ∧ (se = 0 → fa = pa + 1 ∧ to = 0) ∧ (se ≠ 0 → fa ≠ pa + 1 ∧ pa ≤ to) := by
  unfold planE fits at h
  simp only [Bool.and_eq_true, wi_iff] at h
  split at h
  · split at h <;> omega
  · omega

/-! ### ways to choose -/
def bn : Nat → Nat → Nat
  | _, 0 => 1
  | 0, _ + 1 => 0
  | n + 1, k + 1 => bn n k + bn n (k + 1)
theorem bn_zero (n : Nat) : bn n 0 = 1 := by cases n <;> rfl
theorem bn_none (k : Nat) : bn 0 (k + 1) = 0 := rfl
theorem bn_succ (n k : Nat) : bn (n + 1) (k + 1) = bn n k + bn n (k + 1) := rfl
theorem bn_gt : ∀ {n k : Nat}, n < k → bn n k = 0
  | 0, k + 1, _ => rfl
  | n + 1, k + 1, h => by rw [bn_succ, bn_gt (by omega : n < k), bn_gt (by omega : n < k + 1)]
theorem bn_self : ∀ n : Nat, bn n n = 1
  | 0 => rfl
  | n + 1 => by rw [bn_succ, bn_self n, bn_gt (by omega)]
theorem bn_pos : ∀ {n k : Nat}, k ≤ n → 0 < bn n k
  | n, 0, _ => by rw [bn_zero]; omega
  | n + 1, k + 1, h => by rw [bn_succ]; have := bn_pos (n := n) (k := k) (by omega); omega
/-- k times the ways to choose k of n. -/
theorem bn_abs : ∀ n k : Nat, (k + 1) * bn (n + 1) (k + 1) = (n + 1) * bn n k
  | 0, 0 => rfl
  | 0, k + 1 => by rw [bn_succ, bn_none, bn_none]; simp
  | n + 1, 0 => by
    have := bn_abs n 0
    simp only [bn_succ, bn_zero, Nat.zero_add, Nat.one_mul, Nat.mul_one] at this ⊢
    have e : bn n 1 = bn n (0 + 1) := rfl
    have e2 : bn (n + 1) 1 = bn n 0 + bn n 1 := bn_succ n 0
    rw [bn_zero] at e2
    omega
  | n + 1, k + 1 => by
    have h1 := bn_abs n k
    have h2 := bn_abs n (k + 1)
    rw [bn_succ (n + 1) (k + 1), Nat.mul_add, show k + 1 + 1 = (k + 1) + 1 from rfl]
    rw [show (k + 1 + 1) * bn (n + 1) (k + 1) = (k + 1) * bn (n + 1) (k + 1) + bn (n + 1) (k + 1) from by rw [Nat.add_mul]; omega, h1, h2]
    rw [bn_succ n k]
    rw [show (n + 1 + 1) * (bn n k + bn n (k + 1)) = (n + 1) * bn n k + (n + 1) * bn n (k + 1) + (bn n k + bn n (k + 1)) from by rw [Nat.add_mul (n + 1) 1, Nat.mul_add]; omega]
    omega
/-- the rest of n, without k. -/
theorem bn_rest (n k : Nat) : (k + 1) * bn n (k + 1) = (n - k) * bn n k := by
  rcases Nat.lt_or_ge n k with h | h
  · rw [bn_gt (by omega : n < k + 1), bn_gt h]; simp
  · have h1 := bn_abs n k
    rw [bn_succ, Nat.mul_add] at h1
    have h2 : (n + 1) * bn n k = (n - k) * bn n k + (k + 1) * bn n k := by rw [← Nat.add_mul]; congr 1; omega
    omega
theorem bn_sym : ∀ {n k : Nat}, k ≤ n → bn n (n - k) = bn n k
  | n, 0, _ => by rw [Nat.sub_zero, bn_self, bn_zero]
  | n + 1, k + 1, h => by
    rcases Nat.lt_or_ge k n with h1 | h1
    · rw [show n + 1 - (k + 1) = (n - (k + 1)) + 1 from by omega, bn_succ, bn_succ, bn_sym (n := n) (k := k + 1) (by omega)]
      rw [show n - (k + 1) + 1 = n - k from by omega, bn_sym (n := n) (k := k) (by omega)]
      omega
    · obtain rfl : k = n := by omega
      rw [Nat.sub_self, bn_zero, bn_self]

/-! ### sums -/
def sumN : Nat → (Nat → Nat) → Nat
  | 0, _ => 0
  | n + 1, f => sumN n f + f n
theorem sumN_succ (n : Nat) (f : Nat → Nat) : sumN (n + 1) f = sumN n f + f n := rfl
theorem sumN_congr : ∀ {n : Nat} {f g : Nat → Nat}, (∀ i, i < n → f i = g i) → sumN n f = sumN n g
  | 0, _, _, _ => rfl
  | n + 1, f, g, h => by rw [sumN_succ, sumN_succ, sumN_congr (fun i hi => h i (by omega)), h n (by omega)]
theorem sumN_zero {n : Nat} {f : Nat → Nat} (h : ∀ i, i < n → f i = 0) : sumN n f = 0 := by
  induction n with
  | zero => rfl
  | succ n ih => rw [sumN_succ, ih (fun i hi => h i (by omega)), h n (by omega)]
theorem sumN_add (n : Nat) (f g : Nat → Nat) : sumN n (fun i => f i + g i) = sumN n f + sumN n g := by
  induction n with
  | zero => rfl
  | succ n ih => rw [sumN_succ, sumN_succ, sumN_succ, ih]; omega
theorem sumN_mul (n c : Nat) (f : Nat → Nat) : sumN n (fun i => c * f i) = c * sumN n f := by
  induction n with
  | zero => rfl
  | succ n ih => rw [sumN_succ, sumN_succ, ih, Nat.mul_add]
theorem sumN_le {n : Nat} {f g : Nat → Nat} (h : ∀ i, i < n → f i ≤ g i) : sumN n f ≤ sumN n g := by
  induction n with
  | zero => exact Nat.le_refl _
  | succ n ih => rw [sumN_succ, sumN_succ]; have := ih (fun i hi => h i (by omega)); have := h n (by omega); omega
theorem sumN_first (n : Nat) (f : Nat → Nat) : sumN (n + 1) f = f 0 + sumN n (fun i => f (i + 1)) := by
  induction n with
  | zero => simp [sumN]
  | succ n ih => rw [sumN_succ, ih, sumN_succ]; omega
theorem sumN_split (m n : Nat) (f : Nat → Nat) : sumN (m + n) f = sumN m f + sumN n (fun i => f (m + i)) := by
  induction n with
  | zero => rfl
  | succ n ih => rw [← Nat.add_assoc, sumN_succ, ih, sumN_succ]; omega
/-- beyond m nothing is added. -/
theorem sumN_short {m n : Nat} {f : Nat → Nat} (hm : m ≤ n) (h : ∀ i, m ≤ i → i < n → f i = 0) : sumN n f = sumN m f := by
  obtain ⟨d, rfl⟩ := Nat.exists_eq_add_of_le hm
  rw [sumN_split, sumN_zero (n := d) (fun i hi => h (m + i) (by omega) (by omega))]
  rfl
theorem sumN_le_of {m n : Nat} {f : Nat → Nat} (hm : m ≤ n) : sumN m f ≤ sumN n f := by
  obtain ⟨d, rfl⟩ := Nat.exists_eq_add_of_le hm
  rw [sumN_split]
  omega
theorem sumN_get {n k : Nat} (f : Nat → Nat) (h : k < n) : f k ≤ sumN n f := by
  induction n with
  | zero => omega
  | succ n ih =>
    rw [sumN_succ]
    by_cases e : k = n
    · subst e; omega
    · have := ih (by omega); omega
/-- a sum over part of the numbers: nothing ahead of lo. -/
theorem sumN_from {lo n : Nat} {f : Nat → Nat} (hl : lo ≤ n) (h : ∀ i, i < lo → f i = 0) : sumN n f = sumN (n - lo) (fun i => f (lo + i)) := by
  obtain ⟨d, rfl⟩ := Nat.exists_eq_add_of_le hl
  rw [sumN_split, sumN_zero h, Nat.zero_add, show lo + d - lo = d from by omega]
/-- turned round. -/
theorem sumN_rev (n : Nat) (f : Nat → Nat) : sumN n (fun i => f (n - 1 - i)) = sumN n f := by
  induction n with
  | zero => rfl
  | succ n ih =>
    rw [sumN_first, sumN_succ]
    rw [show n + 1 - 1 - 0 = n from by omega]
    rw [sumN_congr (g := fun i => f (n - 1 - i)) (fun i hi => by show f _ = f _; congr 1; omega), ih]
    omega

/-! ### what samples show -/
/-- in how many samples of n pieces out of P, of which b are bad, i are bad. -/
def sh (P b n i : Nat) : Nat := bn b i * bn (P - b) (n - i)
/-- all ways to choose n of b and g. -/
theorem vander : ∀ b g n : Nat, sumN (n + 1) (fun i => bn b i * bn g (n - i)) = bn (b + g) n
  | 0, g, n => by
    rw [sumN_first, sumN_zero (fun i hi => by rw [bn_none, Nat.zero_mul])]
    simp [bn_zero]
  | b + 1, g, 0 => by simp [sumN, bn_zero]
  | b + 1, g, n + 1 => by
    have h1 := vander b g (n + 1)
    have h2 := vander b g n
    rw [sumN_first] at h1 ⊢
    rw [show b + 1 + g = (b + g) + 1 from by omega, bn_succ, ← h1, ← h2]
    rw [bn_zero, bn_zero]
    rw [sumN_congr (g := fun i => bn b i * bn g (n - i) + bn b (i + 1) * bn g (n + 1 - (i + 1))) (fun i hi => by
      show bn (b + 1) (i + 1) * _ = _
      rw [bn_succ, Nat.add_mul]
      congr 2
      congr 1
      omega)]
    rw [sumN_add]
    omega
theorem sh_sum {P b n : Nat} (hb : b ≤ P) : sumN (n + 1) (sh P b n) = bn P n := by
  have := vander b (P - b) n
  rwa [show b + (P - b) = P from by omega] at this
theorem sh_le {P b n i : Nat} (hb : b ≤ P) (hi : i ≤ n) : sh P b n i ≤ bn P n := by
  rw [← sh_sum hb]
  exact sumN_get (sh P b n) (by omega)
theorem sh_pos {P b n i : Nat} (h1 : i ≤ b) (h2 : n - i ≤ P - b) : 0 < sh P b n i := Nat.mul_pos (bn_pos h1) (bn_pos h2)
theorem sh_none {P b n i : Nat} (h : b < i ∨ P - b < n - i) : sh P b n i = 0 := by
  unfold sh
  rcases h with h | h
  · rw [bn_gt h, Nat.zero_mul]
  · rw [bn_gt h, Nat.mul_zero]

/-! ### what samples can show, one after the other -/
/-- the least and the greatest number of bad pieces that a sample can show. -/
def loS (P b n : Nat) : Nat := n - (P - b)
def hiS (b n : Nat) : Nat := min n b
def showsL (P b n : Nat) : List (Nat × Nat) := (List.range (hiS b n + 1 - loS P b n)).map fun k => (loS P b n + k, sh P b n (loS P b n + k))
theorem showsL_len (P b n : Nat) : (showsL P b n).length = hiS b n + 1 - loS P b n := by simp [showsL]
theorem showsL_get {P b n k : Nat} (h : k < (showsL P b n).length) : (showsL P b n)[k] = (loS P b n + k, sh P b n (loS P b n + k)) := by simp [showsL]
theorem loS_le {P b n : Nat} (hb : b ≤ P) (hn : n ≤ P) : loS P b n ≤ hiS b n := by unfold loS hiS; omega
theorem showsL_mem {P b n : Nat} {x : Nat × Nat} (h : x ∈ showsL P b n) : loS P b n ≤ x.1 ∧ x.1 ≤ hiS b n ∧ x.2 = sh P b n x.1 := by
  simp only [showsL, List.mem_map, List.mem_range] at h
  obtain ⟨k, hk, rfl⟩ := h
  exact ⟨by simp, by simp; omega, rfl⟩

/-! ### fractions -/
/-- a fraction in lowest terms. -/
def shr (a b : Nat) : Nat × Nat := (a / Nat.gcd a b, b / Nat.gcd a b)
theorem shr_spec (a : Nat) {b : Nat} (hb : 0 < b) : ∃ g, 0 < g ∧ a = g * (shr a b).1 ∧ b = g * (shr a b).2 ∧ Nat.gcd (shr a b).1 (shr a b).2 = 1 := by
  have hg : 0 < Nat.gcd a b := Nat.gcd_pos_of_pos_right _ hb
  refine ⟨Nat.gcd a b, hg, ?_, ?_, ?_⟩
  · exact (Nat.mul_div_cancel' (Nat.gcd_dvd_left a b)).symm
  · exact (Nat.mul_div_cancel' (Nat.gcd_dvd_right a b)).symm
  · exact Nat.gcd_div_gcd_div_gcd_of_pos_right hb
theorem shr_pos (a : Nat) {b : Nat} (hb : 0 < b) : 0 < (shr a b).2 := by
  obtain ⟨g, hg, -, h2, -⟩ := shr_spec a hb
  exact Nat.pos_of_ne_zero fun e => by rw [e, Nat.mul_zero] at h2; omega
theorem shr_le (a b : Nat) : (shr a b).1 ≤ a ∧ (shr a b).2 ≤ b := ⟨Nat.div_le_self _ _, Nat.div_le_self _ _⟩
theorem shr_mul (a : Nat) {b : Nat} (hb : 0 < b) : (shr a b).1 * b = a * (shr a b).2 := by
  obtain ⟨g, hg, h1, h2, -⟩ := shr_spec a hb
  calc (shr a b).1 * b = (shr a b).1 * (g * (shr a b).2) := by rw [← h2]
    _ = (g * (shr a b).1) * (shr a b).2 := by rw [← Nat.mul_assoc, Nat.mul_comm (shr a b).1 g]
    _ = a * (shr a b).2 := by rw [← h1]
theorem shr_zero {b : Nat} (hb : 0 < b) : shr 0 b = (0, 1) := by
  unfold shr
  rw [Nat.gcd_zero_left]
  simp [Nat.div_self hb]
/-- the order of fractions. -/
def lt' (s t : Nat × Nat) : Bool := decide (s.1 * t.2 < t.1 * s.2)
theorem cross {g s t h u v : Nat} : (g * s) * (h * v) = (g * h) * (s * v) := by
  simp only [Nat.mul_assoc, Nat.mul_left_comm]
theorem lt_shr {a b c d : Nat} (hb : 0 < b) (hd : 0 < d) : lt' (shr a b) (shr c d) = decide (a * d < c * b) := by
  obtain ⟨g, hg, h1, h2, -⟩ := shr_spec a hb
  obtain ⟨h, hh, h3, h4, -⟩ := shr_spec c hd
  unfold lt'
  congr 1
  have e1 : a * d = (g * h) * ((shr a b).1 * (shr c d).2) := by
    calc a * d = (g * (shr a b).1) * (h * (shr c d).2) := by rw [← h1, ← h4]
      _ = _ := by simp only [Nat.mul_assoc, Nat.mul_left_comm]
  have e2 : c * b = (g * h) * ((shr c d).1 * (shr a b).2) := by
    calc c * b = (h * (shr c d).1) * (g * (shr a b).2) := by rw [← h3, ← h2]
      _ = _ := by simp only [Nat.mul_assoc, Nat.mul_left_comm]
  rw [e1, e2]
  exact propext (Nat.mul_lt_mul_left (Nat.mul_pos hg hh)).symm
theorem shr_eq {a b c d : Nat} (hb : 0 < b) (hd : 0 < d) : shr a b = shr c d ↔ a * d = c * b := by
  obtain ⟨g, hg, h1, h2, h5⟩ := shr_spec a hb
  obtain ⟨h, hh, h3, h4, h6⟩ := shr_spec c hd
  have e1 : a * d = (g * h) * ((shr a b).1 * (shr c d).2) := by
    calc a * d = (g * (shr a b).1) * (h * (shr c d).2) := by rw [← h1, ← h4]
      _ = _ := by simp only [Nat.mul_assoc, Nat.mul_left_comm]
  have e2 : c * b = (g * h) * ((shr c d).1 * (shr a b).2) := by
    calc c * b = (h * (shr c d).1) * (g * (shr a b).2) := by rw [← h3, ← h2]
      _ = _ := by simp only [Nat.mul_assoc, Nat.mul_left_comm]
  constructor
  · intro e
    rw [e1, e2, e, Nat.mul_comm (shr c d).1]
  · intro e
    have e3 : (shr a b).1 * (shr c d).2 = (shr c d).1 * (shr a b).2 := Nat.eq_of_mul_eq_mul_left (Nat.mul_pos hg hh) (by rw [← e1, ← e2, e])
    have d1 : (shr a b).2 ∣ (shr c d).2 := by
      have : (shr a b).2 ∣ (shr a b).1 * (shr c d).2 := ⟨(shr c d).1, by rw [e3, Nat.mul_comm]⟩
      exact (Nat.Coprime.dvd_of_dvd_mul_left (Nat.Coprime.symm h5) this)
    have d2 : (shr c d).2 ∣ (shr a b).2 := by
      have : (shr c d).2 ∣ (shr c d).1 * (shr a b).2 := ⟨(shr a b).1, by rw [← e3, Nat.mul_comm]⟩
      exact (Nat.Coprime.dvd_of_dvd_mul_left (Nat.Coprime.symm h6) this)
    have e4 := Nat.dvd_antisymm d1 d2
    rw [e4] at e3
    exact Prod.ext (Nat.eq_of_mul_eq_mul_right (shr_pos c hd) e3) e4
theorem shr_low {a b : Nat} (hb : 0 < b) (h : Nat.gcd a b = 1) : shr a b = (a, b) := by simp [shr, h]
theorem shr_one {b : Nat} (hb : 0 < b) : shr b b = (1, 1) := by simp [shr, Nat.div_self hb]
end Td
end Go.Proofs.Ytgkdidnmndmlhaa
