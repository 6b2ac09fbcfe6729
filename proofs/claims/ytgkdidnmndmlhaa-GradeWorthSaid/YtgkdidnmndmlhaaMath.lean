import Derived.KernelRfl
/- The plain mathematics of layer 8 (grade): ways to choose, sums, fractions. It imports nothing of the program. -/
namespace Go.Proofs.Ytgkdidnmndmlhaa
namespace Td
set_option linter.unusedVariables false

/-! ### numbers and spans within bounds -/
def wi (lo hi n : Int) : Bool := decide (lo ≤ n) && decide (n ≤ hi)
theorem wi_iff {lo hi n : Int} : wi lo hi n = true ↔ lo ≤ n ∧ n ≤ hi := by simp [wi]
theorem wi_no {lo hi n : Int} : wi lo hi n = false ↔ n < lo ∨ hi < n := by
  rw [Bool.eq_false_iff, Ne, wi_iff]; omega
def sw (lo hi : Int) (l : List (Int × Int)) : Bool := l.all fun s => wi lo hi s.1 && wi lo hi s.2
def tn (l : List (Int × Int)) : Bool := l.any fun s => decide (s.2 < s.1)
theorem sw_one (lo hi : Int) (p : Int × Int) : sw lo hi [p] = (wi lo hi p.1 && wi lo hi p.2) := by simp [sw]
theorem tn_one (p : Int × Int) : tn [p] = decide (p.2 < p.1) := by simp [tn]

/-! ### heaps and plans -/
/-- the error of a heap. -/
def chkE (P lo hi : Int) : Int := if wi 1 20 P = true ∧ wi 0 P lo = true ∧ wi 0 P hi = true then (if hi < lo then 2 else 0) else 7
/-- are all numbers of a plan in their ranges? -/
def fits (P fi pa fa se to : Int) : Bool := wi 1 P fi && wi 0 fi pa && wi (pa + 1) (fi + 1) fa && wi 0 (P - fi) se && wi 0 P to
/-- the error of a plan for a heap without an error. -/
def planE (P fi pa fa se to : Int) : Int :=
  if fits P fi pa fa se to = true then
    (if (se = 0 ∧ (fa ≠ pa + 1 ∨ to ≠ 0)) ∨ (se ≠ 0 ∧ (fa = pa + 1 ∨ to < pa)) then 2 else 0)
  else 7
def chkP (P lo hi fi pa fa se to : Int) : Int := if chkE P lo hi = 0 then planE P fi pa fa se to else chkE P lo hi
def shrE (s : Int × Int) : Bool := wi 1 1000000 s.2 && wi 0 s.2 s.1
theorem chkE_ok {P lo hi : Int} : chkE P lo hi = 0 ↔ 1 ≤ P ∧ P ≤ 20 ∧ 0 ≤ lo ∧ lo ≤ hi ∧ hi ≤ P := by
  unfold chkE
  simp only [wi_iff]
  split
  · split <;> omega
  · omega
theorem planE_ok {P fi pa fa se to : Int} (h : planE P fi pa fa se to = 0) : 1 ≤ fi ∧ fi ≤ P ∧ 0 ≤ pa ∧ pa ≤ fi ∧ pa + 1 ≤ fa ∧ fa ≤ fi + 1 ∧ 0 ≤ se ∧ se ≤ P - fi ∧ 0 ≤ to ∧ to ≤ P ∧ (se = 0 → fa = pa + 1 ∧ to = 0) ∧ (se ≠ 0 → fa ≠ pa + 1 ∧ pa ≤ to) := by
  unfold planE fits at h
  simp only [Bool.and_eq_true, wi_iff] at h
  split at h
  · split at h <;> omega
  · omega

/-! ### ways to choose -/
def bn : Nat → Nat → Nat
  | _, 0 => 1
  | 0, _ + 1 => 0
  | n + 1, k + 1 => bn n k + bn n (k + 1)
theorem bn_zero (n : Nat) : bn n 0 = 1 := by cases n <;> rfl
theorem bn_none (k : Nat) : bn 0 (k + 1) = 0 := rfl
theorem bn_succ (n k : Nat) : bn (n + 1) (k + 1) = bn n k + bn n (k + 1) := rfl
theorem bn_gt : ∀ {n k : Nat}, n < k → bn n k = 0
  | 0, k + 1, _ => rfl
  | n + 1, k + 1, h => by rw [bn_succ, bn_gt (by omega : n < k), bn_gt (by omega : n < k + 1)]
theorem bn_self : ∀ n : Nat, bn n n = 1
  | 0 => rfl
  | n + 1 => by rw [bn_succ, bn_self n, bn_gt (by omega)]
theorem bn_pos : ∀ {n k : Nat}, k ≤ n → 0 < bn n k
  | n, 0, _ => by rw [bn_zero]; omega
  | n + 1, k + 1, h => by rw [bn_succ]; have := bn_pos (n := n) (k := k) (by omega); omega
/-- k times the ways to choose k of n. -/
theorem bn_abs : ∀ n k : Nat, (k + 1) * bn (n + 1) (k + 1) = (n + 1) * bn n k
  | 0, 0 => rfl
  | 0, k + 1 => by rw [bn_succ, bn_none, bn_none]; simp
  | n + 1, 0 => by
    have := bn_abs n 0
    simp only [bn_succ, bn_zero, Nat.zero_add, Nat.one_mul, Nat.mul_one] at this ⊢
    have e : bn n 1 = bn n (0 + 1) := rfl
    have e2 : bn (n + 1) 1 = bn n 0 + bn n 1 := bn_succ n 0
    rw [bn_zero] at e2
    omega
  | n + 1, k + 1 => by
    have h1 := bn_abs n k
    have h2 := bn_abs n (k + 1)
    rw [bn_succ (n + 1) (k + 1), Nat.mul_add, show k + 1 + 1 = (k + 1) + 1 from rfl]
    rw [show (k + 1 + 1) * bn (n + 1) (k + 1) = (k + 1) * bn (n + 1) (k + 1) + bn (n + 1) (k + 1) from by rw [Nat.add_mul]; omega, h1, h2]
    rw [bn_succ n k]
    rw [show (n + 1 + 1) * (bn n k + bn n (k + 1)) = (n + 1) * bn n k + (n + 1) * bn n (k + 1) + (bn n k + bn n (k + 1)) from by rw [Nat.add_mul (n + 1) 1, Nat.mul_add]; omega]
    omega
/-- the rest of n, without k. -/
theorem bn_rest (n k : Nat) : (k + 1) * bn n (k + 1) = (n - k) * bn n k := by
  rcases Nat.lt_or_ge n k with h | h
  · rw [bn_gt (by omega : n < k + 1), bn_gt h]; simp
  · have h1 := bn_abs n k
    rw [bn_succ, Nat.mul_add] at h1
    have h2 : (n + 1) * bn n k = (n - k) * bn n k + (k + 1) * bn n k := by rw [← Nat.add_mul]; congr 1; omega
    omega
theorem bn_sym : ∀ {n k : Nat}, k ≤ n → bn n (n - k) = bn n k
  | n, 0, _ => by rw [Nat.sub_zero, bn_self, bn_zero]
  | n + 1, k + 1, h => by
    rcases Nat.lt_or_ge k n with h1 | h1
    · rw [show n + 1 - (k + 1) = (n - (k + 1)) + 1 from by omega, bn_succ, bn_succ, bn_sym (n := n) (k := k + 1) (by omega)]
      rw [show n - (k + 1) + 1 = n - k from by omega, bn_sym (n := n) (k := k) (by omega)]
      omega
    · obtain rfl : k = n := by omega
      rw [Nat.sub_self, bn_zero, bn_self]

/-! ### sums -/
def sumN : Nat → (Nat → Nat) → Nat
  | 0, _ => 0
  | n + 1, f => sumN n f + f n
theorem sumN_succ (n : Nat) (f : Nat → Nat) : sumN (n + 1) f = sumN n f + f n := rfl
theorem sumN_congr : ∀ {n : Nat} {f g : Nat → Nat}, (∀ i, i < n → f i = g i) → sumN n f = sumN n g
  | 0, _, _, _ => rfl
  | n + 1, f, g, h => by rw [sumN_succ, sumN_succ, sumN_congr (fun i hi => h i (by omega)), h n (by omega)]
theorem sumN_zero {n : Nat} {f : Nat → Nat} (h : ∀ i, i < n → f i = 0) : sumN n f = 0 := by
  induction n with
  | zero => rfl
  | succ n ih => rw [sumN_succ, ih (fun i hi => h i (by omega)), h n (by omega)]
theorem sumN_add (n : Nat) (f g : Nat → Nat) : sumN n (fun i => f i + g i) = sumN n f + sumN n g := by
  induction n with
  | zero => rfl
  | succ n ih => rw [sumN_succ, sumN_succ, sumN_succ, ih]; omega
theorem sumN_mul (n c : Nat) (f : Nat → Nat) : sumN n (fun i => c * f i) = c * sumN n f := by
  induction n with
  | zero => rfl
  | succ n ih => rw [sumN_succ, sumN_succ, ih, Nat.mul_add]
theorem sumN_le {n : Nat} {f g : Nat → Nat} (h : ∀ i, i < n → f i ≤ g i) : sumN n f ≤ sumN n g := by
  induction n with
  | zero => exact Nat.le_refl _
  | succ n ih => rw [sumN_succ, sumN_succ]; have := ih (fun i hi => h i (by omega)); have := h n (by omega); omega
theorem sumN_first (n : Nat) (f : Nat → Nat) : sumN (n + 1) f = f 0 + sumN n (fun i => f (i + 1)) := by
  induction n with
  | zero => simp [sumN]
  | succ n ih => rw [sumN_succ, ih, sumN_succ]; omega
theorem sumN_split (m n : Nat) (f : Nat → Nat) : sumN (m + n) f = sumN m f + sumN n (fun i => f (m + i)) := by
  induction n with
  | zero => rfl
  | succ n ih => rw [← Nat.add_assoc, sumN_succ, ih, sumN_succ]; omega
/-- beyond m nothing is added. -/
theorem sumN_short {m n : Nat} {f : Nat → Nat} (hm : m ≤ n) (h : ∀ i, m ≤ i → i < n → f i = 0) : sumN n f = sumN m f := by
  obtain ⟨d, rfl⟩ := Nat.exists_eq_add_of_le hm
  rw [sumN_split, sumN_zero (n := d) (fun i hi => h (m + i) (by omega) (by omega))]
  rfl
theorem sumN_le_of {m n : Nat} {f : Nat → Nat} (hm : m ≤ n) : sumN m f ≤ sumN n f := by
  obtain ⟨d, rfl⟩ := Nat.exists_eq_add_of_le hm
  rw [sumN_split]
  omega
theorem sumN_get {n k : Nat} (f : Nat → Nat) (h : k < n) : f k ≤ sumN n f := by
  induction n with
  | zero => omega
  | succ n ih =>
    rw [sumN_succ]
    by_cases e : k = n
    · subst e; omega
    · have := ih (by omega); omega
/-- a sum over part of the numbers: nothing ahead of lo. -/
theorem sumN_from {lo n : Nat} {f : Nat → Nat} (hl : lo ≤ n) (h : ∀ i, i < lo → f i = 0) : sumN n f = sumN (n - lo) (fun i => f (lo + i)) := by
  obtain ⟨d, rfl⟩ := Nat.exists_eq_add_of_le hl
  rw [sumN_split, sumN_zero h, Nat.zero_add, show lo + d - lo = d from by omega]
/-- turned round. -/
theorem sumN_rev (n : Nat) (f : Nat → Nat) : sumN n (fun i => f (n - 1 - i)) = sumN n f := by
  induction n with
  | zero => rfl
  | succ n ih =>
    rw [sumN_first, sumN_succ]
    rw [show n + 1 - 1 - 0 = n from by omega]
    rw [sumN_congr (g := fun i => f (n - 1 - i)) (fun i hi => by show f _ = f _; congr 1; omega), ih]
    omega

/-! ### what samples show -/
/-- in how many samples of n pieces out of P, of which b are bad, i are bad. -/
def sh (P b n i : Nat) : Nat := bn b i * bn (P - b) (n - i)
/-- all ways to choose n of b and g. -/
theorem vander : ∀ b g n : Nat, sumN (n + 1) (fun i => bn b i * bn g (n - i)) = bn (b + g) n
  | 0, g, n => by
    rw [sumN_first, sumN_zero (fun i hi => by rw [bn_none, Nat.zero_mul])]
    simp [bn_zero]
  | b + 1, g, 0 => by simp [sumN, bn_zero]
  | b + 1, g, n + 1 => by
    have h1 := vander b g (n + 1)
    have h2 := vander b g n
    rw [sumN_first] at h1 ⊢
    rw [show b + 1 + g = (b + g) + 1 from by omega, bn_succ, ← h1, ← h2]
    rw [bn_zero, bn_zero]
    rw [sumN_congr (g := fun i => bn b i * bn g (n - i) + bn b (i + 1) * bn g (n + 1 - (i + 1))) (fun i hi => by
      show bn (b + 1) (i + 1) * _ = _
      rw [bn_succ, Nat.add_mul]
      congr 2
      congr 1
      omega)]
    rw [sumN_add]
    omega
theorem sh_sum {P b n : Nat} (hb : b ≤ P) : sumN (n + 1) (sh P b n) = bn P n := by
  have := vander b (P - b) n
  rwa [show b + (P - b) = P from by omega] at this
theorem sh_le {P b n i : Nat} (hb : b ≤ P) (hi : i ≤ n) : sh P b n i ≤ bn P n := by
  rw [← sh_sum hb]
  exact sumN_get (sh P b n) (by omega)
theorem sh_pos {P b n i : Nat} (h1 : i ≤ b) (h2 : n - i ≤ P - b) : 0 < sh P b n i := Nat.mul_pos (bn_pos h1) (bn_pos h2)
theorem sh_none {P b n i : Nat} (h : b < i ∨ P - b < n - i) : sh P b n i = 0 := by
  unfold sh
  rcases h with h | h
  · rw [bn_gt h, Nat.zero_mul]
  · rw [bn_gt h, Nat.mul_zero]

/-! ### what samples can show, one after the other -/
/-- the least and the greatest number of bad pieces that a sample can show. -/
def loS (P b n : Nat) : Nat := n - (P - b)
def hiS (b n : Nat) : Nat := min n b
def showsL (P b n : Nat) : List (Nat × Nat) := (List.range (hiS b n + 1 - loS P b n)).map fun k => (loS P b n + k, sh P b n (loS P b n + k))
theorem showsL_len (P b n : Nat) : (showsL P b n).length = hiS b n + 1 - loS P b n := by simp [showsL]
theorem showsL_get {P b n k : Nat} (h : k < (showsL P b n).length) : (showsL P b n)[k] = (loS P b n + k, sh P b n (loS P b n + k)) := by simp [showsL]
theorem loS_le {P b n : Nat} (hb : b ≤ P) (hn : n ≤ P) : loS P b n ≤ hiS b n := by unfold loS hiS; omega
theorem showsL_mem {P b n : Nat} {x : Nat × Nat} (h : x ∈ showsL P b n) : loS P b n ≤ x.1 ∧ x.1 ≤ hiS b n ∧ x.2 = sh P b n x.1 := by
  simp only [showsL, List.mem_map, List.mem_range] at h
  obtain ⟨k, hk, rfl⟩ := h
  exact ⟨by simp, by simp; omega, rfl⟩

/-! ### fractions -/
/-- a fraction in lowest terms. -/
def shr (a b : Nat) : Nat × Nat := (a / Nat.gcd a b, b / Nat.gcd a b)
theorem shr_spec (a : Nat) {b : Nat} (hb : 0 < b) : ∃ g, 0 < g ∧ a = g * (shr a b).1 ∧ b = g * (shr a b).2 ∧ Nat.gcd (shr a b).1 (shr a b).2 = 1 := by
  have hg : 0 < Nat.gcd a b := Nat.gcd_pos_of_pos_right _ hb
  refine ⟨Nat.gcd a b, hg, ?_, ?_, ?_⟩
  · exact (Nat.mul_div_cancel' (Nat.gcd_dvd_left a b)).symm
  · exact (Nat.mul_div_cancel' (Nat.gcd_dvd_right a b)).symm
  · exact Nat.gcd_div_gcd_div_gcd_of_pos_right hb
theorem shr_pos (a : Nat) {b : Nat} (hb : 0 < b) : 0 < (shr a b).2 := by
  obtain ⟨g, hg, -, h2, -⟩ := shr_spec a hb
  exact Nat.pos_of_ne_zero fun e => by rw [e, Nat.mul_zero] at h2; omega
theorem shr_le (a b : Nat) : (shr a b).1 ≤ a ∧ (shr a b).2 ≤ b := ⟨Nat.div_le_self _ _, Nat.div_le_self _ _⟩
theorem shr_mul (a : Nat) {b : Nat} (hb : 0 < b) : (shr a b).1 * b = a * (shr a b).2 := by
  obtain ⟨g, hg, h1, h2, -⟩ := shr_spec a hb
  calc (shr a b).1 * b = (shr a b).1 * (g * (shr a b).2) := by rw [← h2]
    _ = (g * (shr a b).1) * (shr a b).2 := by rw [← Nat.mul_assoc, Nat.mul_comm (shr a b).1 g]
    _ = a * (shr a b).2 := by rw [← h1]
theorem shr_zero {b : Nat} (hb : 0 < b) : shr 0 b = (0, 1) := by
  unfold shr
  rw [Nat.gcd_zero_left]
  simp [Nat.div_self hb]
/-- the order of fractions. -/
def lt' (s t : Nat × Nat) : Bool := decide (s.1 * t.2 < t.1 * s.2)
theorem cross {g s t h u v : Nat} : (g * s) * (h * v) = (g * h) * (s * v) := by
  simp only [Nat.mul_assoc, Nat.mul_left_comm]
theorem lt_shr {a b c d : Nat} (hb : 0 < b) (hd : 0 < d) : lt' (shr a b) (shr c d) = decide (a * d < c * b) := by
  obtain ⟨g, hg, h1, h2, -⟩ := shr_spec a hb
  obtain ⟨h, hh, h3, h4, -⟩ := shr_spec c hd
  unfold lt'
  congr 1
  have e1 : a * d = (g * h) * ((shr a b).1 * (shr c d).2) := by
    calc a * d = (g * (shr a b).1) * (h * (shr c d).2) := by rw [← h1, ← h4]
      _ = _ := by simp only [Nat.mul_assoc, Nat.mul_left_comm]
  have e2 : c * b = (g * h) * ((shr c d).1 * (shr a b).2) := by
    calc c * b = (h * (shr c d).1) * (g * (shr a b).2) := by rw [← h3, ← h2]
      _ = _ := by simp only [Nat.mul_assoc, Nat.mul_left_comm]
  rw [e1, e2]
  exact propext (Nat.mul_lt_mul_left (Nat.mul_pos hg hh)).symm
theorem shr_eq {a b c d : Nat} (hb : 0 < b) (hd : 0 < d) : shr a b = shr c d ↔ a * d = c * b := by
  obtain ⟨g, hg, h1, h2, h5⟩ := shr_spec a hb
  obtain ⟨h, hh, h3, h4, h6⟩ := shr_spec c hd
  have e1 : a * d = (g * h) * ((shr a b).1 * (shr c d).2) := by
    calc a * d = (g * (shr a b).1) * (h * (shr c d).2) := by rw [← h1, ← h4]
      _ = _ := by simp only [Nat.mul_assoc, Nat.mul_left_comm]
  have e2 : c * b = (g * h) * ((shr c d).1 * (shr a b).2) := by
    calc c * b = (h * (shr c d).1) * (g * (shr a b).2) := by rw [← h3, ← h2]
      _ = _ := by simp only [Nat.mul_assoc, Nat.mul_left_comm]
  constructor
  · intro e
    rw [e1, e2, e, Nat.mul_comm (shr c d).1]
  · intro e
    have e3 : (shr a b).1 * (shr c d).2 = (shr c d).1 * (shr a b).2 := Nat.eq_of_mul_eq_mul_left (Nat.mul_pos hg hh) (by rw [← e1, ← e2, e])
    have d1 : (shr a b).2 ∣ (shr c d).2 := by
      have : (shr a b).2 ∣ (shr a b).1 * (shr c d).2 := ⟨(shr c d).1, by rw [e3, Nat.mul_comm]⟩
      exact (Nat.Coprime.dvd_of_dvd_mul_left (Nat.Coprime.symm h5) this)
    have d2 : (shr c d).2 ∣ (shr a b).2 := by
      have : (shr c d).2 ∣ (shr c d).1 * (shr a b).2 := ⟨(shr a b).1, by rw [← e3, Nat.mul_comm]⟩
      exact (Nat.Coprime.dvd_of_dvd_mul_left (Nat.Coprime.symm h6) this)
    have e4 := Nat.dvd_antisymm d1 d2
    rw [e4] at e3
    exact Prod.ext (Nat.eq_of_mul_eq_mul_right (shr_pos c hd) e3) e4
theorem shr_low {a b : Nat} (hb : 0 < b) (h : Nat.gcd a b = 1) : shr a b = (a, b) := by simp [shr, h]
theorem shr_one {b : Nat} (hb : 0 < b) : shr b b = (1, 1) := by simp [shr, Nat.div_self hb]
end Td
end Go.Proofs.Ytgkdidnmndmlhaa
/- Sums over what samples show; what is paid, what passes, what stays. It imports nothing of the program. -/
namespace Go.Proofs.Ytgkdidnmndmlhaa
namespace Td
set_option linter.unusedVariables false
/-- the sum of f over a list. -/
def lsum {α : Type} (f : α → Nat) : List α → Nat
  | [] => 0
  | x :: r => f x + lsum f r
theorem lsum_app {α : Type} (f : α → Nat) : ∀ (l r : List α), lsum f (l ++ r) = lsum f l + lsum f r
  | [], r => by simp [lsum]
  | x :: l, r => by rw [List.cons_append, lsum, lsum, lsum_app f l r]; omega
theorem lsum_snoc {α : Type} (f : α → Nat) (l : List α) (x : α) : lsum f (l ++ [x]) = lsum f l + f x := by rw [lsum_app]; simp [lsum]
theorem lsum_le_of {α : Type} (f : α → Nat) {l pre r : List α} (h : l = pre ++ r) : lsum f pre ≤ lsum f l := by rw [h, lsum_app]; omega
theorem lsum_range {α : Type} (f : α → Nat) (h : Nat → α) (n : Nat) : lsum f ((List.range n).map h) = sumN n (fun k => f (h k)) := by
  induction n with
  | zero => rfl
  | succ n ih => rw [List.range_succ, List.map_append, lsum_app, ih, sumN_succ]; simp [lsum]
theorem lsum_congr {α : Type} {f g : α → Nat} : ∀ {l : List α}, (∀ x ∈ l, f x = g x) → lsum f l = lsum g l
  | [], _ => rfl
  | x :: r, h => by rw [lsum, lsum, h x (by simp), lsum_congr (fun y hy => h y (by simp [hy]))]
/-- all that samples can show: the others are shown by none. -/
theorem lsum_shows (P b n : Nat) (hb : b ≤ P) (hn : n ≤ P) (f : Nat → Nat) : lsum (fun x => x.2 * f x.1) (showsL P b n) = sumN (n + 1) (fun i => sh P b n i * f i) := by
  have hle := loS_le hb hn
  unfold showsL
  rw [lsum_range]
  have h1 : sumN (n + 1) (fun i => sh P b n i * f i) = sumN (hiS b n + 1) (fun i => sh P b n i * f i) := sumN_short (by unfold hiS; omega) (fun i h1 h2 => by
    rw [sh_none (.inl (by unfold hiS at h1; omega)), Nat.zero_mul])
  rw [h1, sumN_from (lo := loS P b n) (n := hiS b n + 1) (f := fun i => sh P b n i * f i) (by omega) (fun i hi => by rw [sh_none (.inr (by unfold loS at hi; omega)), Nat.zero_mul])]
/-- what is paid in all samples together. -/
def prcS (P b n : Nat) (pay : Nat → Nat) : Nat := sumN (n + 1) (fun i => sh P b n i * pay i)
theorem prcS_le {P b n : Nat} {pay : Nat → Nat} (hb : b ≤ P) {m : Nat} (h : ∀ i, i ≤ n → pay i ≤ m) : prcS P b n pay ≤ bn P n * m := by
  unfold prcS
  rw [← sh_sum hb, Nat.mul_comm, ← sumN_mul]
  exact sumN_le fun i hi => by rw [Nat.mul_comm]; exact Nat.mul_le_mul_right _ (h i (by omega))
/-- both samples of a plan: in how many cases a heap passes with i bad ones in the first one, j in the second one, and how many count. -/
def case2 (P F S b i j : Nat) : Nat := sh P b F i * sh (P - F) (b - i) S j
/-- does a heap pass that shows these? -/
def pas2 (pa fa to i j : Nat) : Bool := decide (i < fa) && (decide (i ≤ pa) || decide (i + j ≤ to))
/-- the bad pieces that are left then. -/
def left2 (pa b i j : Nat) : Nat := if i ≤ pa then b - i else b - i - j
/-- all cases in which it passes, each counted by the worth of what is left. -/
def avgS (P F pa fa S to b : Nat) (wo : Nat → Nat) : Nat := sumN (F + 1) fun i => sumN (S + 1) fun j => if pas2 pa fa to i j then case2 P F S b i j * wo (left2 pa b i j) else 0
/-- what the iterator yields behind one first sample. -/
def passRow (P F pa S to b i : Nat) : List (Nat × Nat) :=
  if i ≤ pa then [(b - i, sh P b F i * bn (P - F) S)]
  else ((showsL (P - F) (b - i) S).filter fun x => decide (i + x.1 ≤ to)).map fun x => (b - i - x.1, sh P b F i * x.2)
/-- the first samples that do not fail. -/
def firsts (P F fa b : Nat) : List (Nat × Nat) := (showsL P b F).takeWhile fun x => decide (x.1 < fa)
/-- what the iterator yields. -/
def passL (P F pa fa S to b : Nat) : List (Nat × Nat) := (firsts P F fa b).flatMap fun x => passRow P F pa S to b x.1
theorem lsum_filter {α : Type} (f : α → Nat) (p : α → Bool) : ∀ l : List α, lsum f (l.filter p) = lsum (fun x => if p x then f x else 0) l
  | [] => rfl
  | x :: r => by
    rw [List.filter_cons]
    by_cases h : p x = true
    · rw [if_pos h, lsum, lsum, lsum_filter f p r, if_pos h]
    · rw [if_neg h, lsum, lsum_filter f p r, if_neg h]; omega
theorem lsum_map {α β : Type} (f : β → Nat) (h : α → β) : ∀ l : List α, lsum f (l.map h) = lsum (fun x => f (h x)) l
  | [] => rfl
  | x :: r => by rw [List.map_cons, lsum, lsum, lsum_map f h r]
theorem lsum_flat {α β : Type} (f : β → Nat) (h : α → List β) : ∀ l : List α, lsum f (l.flatMap h) = lsum (fun x => lsum f (h x)) l
  | [] => rfl
  | x :: r => by rw [List.flatMap_cons, lsum_app, lsum, lsum_flat f h r]
theorem lsum_takeWhile {n lo : Nat} (f g : Nat → Nat) (fa : Nat) : lsum (fun x : Nat × Nat => f x.1) (((List.range n).map fun k => (lo + k, g k)).takeWhile fun x => decide (x.1 < fa)) = sumN n (fun k => if lo + k < fa then f (lo + k) else 0) := by
  have h : ∀ n, ((List.range n).map fun k => (lo + k, g k)).takeWhile (fun x : Nat × Nat => decide (x.1 < fa)) = (List.range (min n (fa - lo))).map fun k => (lo + k, g k) := by
    intro n
    induction n with
    | zero => simp
    | succ n ih =>
      rw [List.range_succ, List.map_append, List.takeWhile_append, ih]
      by_cases hn : lo + n < fa
      · have e1 : min n (fa - lo) = n := by omega
        have e2 : min (n + 1) (fa - lo) = n + 1 := by omega
        rw [e1, e2, if_pos (by simp)]
        simp [hn, List.range_succ]
      · have e2 : min (n + 1) (fa - lo) = min n (fa - lo) := by omega
        rw [e2]
        by_cases hq : min n (fa - lo) = n
        · rw [if_pos (by simp [hq])]
          simp [hn, hq]
        · rw [if_neg (by simp; omega)]
  rw [h, lsum_range]
  rcases Nat.lt_or_ge (fa - lo) n with hlt | hge
  · rw [show min n (fa - lo) = fa - lo by omega]
    rw [sumN_short (m := fa - lo) (n := n) (by omega) (fun i h1 h2 => if_neg (by omega))]
    exact sumN_congr fun i hi => by rw [if_pos (by omega)]
  · rw [show min n (fa - lo) = n by omega]
    exact sumN_congr fun i hi => by rw [if_pos (by omega)]
/-- what the iterator yields, summed up: all cases. -/
theorem lsum_pass {P F pa fa S to b : Nat} (hb : b ≤ P) (hF : F ≤ P) (hS : S ≤ P - F) (hpt : pa + 1 ≤ fa) (wo : Nat → Nat) : lsum (fun x => x.2 * wo x.1) (passL P F pa fa S to b) = avgS P F pa fa S to b wo := by
  unfold passL firsts
  rw [lsum_flat]
  have hrow : ∀ i, lsum (fun x => x.2 * wo x.1) (passRow P F pa S to b i) = if i ≤ pa then sh P b F i * bn (P - F) S * wo (b - i) else lsum (fun x : Nat × Nat => if decide (i + x.1 ≤ to) then sh P b F i * x.2 * wo (b - i - x.1) else 0) (showsL (P - F) (b - i) S) := by
    intro i
    unfold passRow
    split
    · simp [lsum]
    · rw [lsum_map, lsum_filter]
  unfold showsL
  rw [lsum_takeWhile (n := hiS b F + 1 - loS P b F) (lo := loS P b F) (fun i => lsum (fun x => x.2 * wo x.1) (passRow P F pa S to b i)) (fun k => sh P b F (loS P b F + k)) fa]
  unfold avgS
  have hle := loS_le hb hF
  -- all other first samples count nothing
  have h1 : (sumN (F + 1) fun i => sumN (S + 1) fun j => if pas2 pa fa to i j then case2 P F S b i j * wo (left2 pa b i j) else 0) = sumN (hiS b F + 1) fun i => sumN (S + 1) fun j => if pas2 pa fa to i j then case2 P F S b i j * wo (left2 pa b i j) else 0 :=
    sumN_short (by unfold hiS; omega) (fun i h1 h2 => sumN_zero fun j hj => by
      unfold case2
      rw [sh_none (.inl (by unfold hiS at h1; omega)), Nat.zero_mul, Nat.zero_mul]
      split <;> rfl)
  rw [h1, sumN_from (lo := loS P b F) (n := hiS b F + 1) (f := fun i => sumN (S + 1) fun j => if pas2 pa fa to i j then case2 P F S b i j * wo (left2 pa b i j) else 0) (by omega) (fun i hi => sumN_zero fun j hj => by
      unfold case2
      rw [sh_none (.inr (by unfold loS at hi; omega)), Nat.zero_mul, Nat.zero_mul]
      split <;> rfl)]
  refine sumN_congr fun k hk => ?_
  obtain ⟨i, hi⟩ : ∃ i, loS P b F + k = i := ⟨_, rfl⟩
  simp only [hi]
  have hib : i ≤ b := by unfold hiS at hk; omega
  have hir : b - i ≤ P - F := by unfold loS at hi; omega
  by_cases hf : i < fa
  · rw [if_pos hf, hrow]
    by_cases hp : i ≤ pa
    · rw [if_pos hp]
      rw [sumN_congr (g := fun j => sh P b F i * wo (b - i) * sh (P - F) (b - i) S j) (fun j hj => by
        have : pas2 pa fa to i j = true := by simp [pas2, hf, hp]
        rw [this, if_pos rfl]
        unfold case2 left2
        rw [if_pos hp]
        simp only [Nat.mul_assoc, Nat.mul_left_comm, Nat.mul_comm])]
      rw [sumN_mul, sh_sum hir]
      simp only [Nat.mul_assoc, Nat.mul_left_comm, Nat.mul_comm]
    · rw [if_neg hp]
      have h2 := lsum_shows (P - F) (b - i) S hir hS (fun j => if i + j ≤ to then sh P b F i * wo (b - i - j) else 0)
      rw [lsum_congr (g := fun x : Nat × Nat => x.2 * (if i + x.1 ≤ to then sh P b F i * wo (b - i - x.1) else 0)) (fun x _ => by
        by_cases h : i + x.1 ≤ to
        · rw [if_pos (by simpa using h), if_pos h]
          simp only [Nat.mul_assoc, Nat.mul_left_comm, Nat.mul_comm]
        · rw [if_neg (by simpa using h), if_neg h, Nat.mul_zero]), h2]
      refine sumN_congr fun j hj => ?_
      by_cases h : i + j ≤ to
      · have : pas2 pa fa to i j = true := by simp [pas2, hf, h]
        rw [this, if_pos rfl, if_pos h]
        unfold case2 left2
        rw [if_neg hp]
        simp only [Nat.mul_assoc, Nat.mul_left_comm, Nat.mul_comm]
      · have : pas2 pa fa to i j = false := by simp [pas2, hp, h]
        rw [this, if_neg h, Nat.mul_zero]
        rfl
  · rw [if_neg hf]
    rw [sumN_zero]
    intro j hj
    have : pas2 pa fa to i j = false := by simp [pas2, hf]
    rw [this]
    rfl
end Td
end Go.Proofs.Ytgkdidnmndmlhaa
/- How the cases in which a heap passes come one after the other. It imports nothing of the program. -/
namespace Go.Proofs.Ytgkdidnmndmlhaa
namespace Td
set_option linter.unusedVariables false
/-- what is yielded behind some second samples. -/
def mf (P F to b i : Nat) (l : List (Nat × Nat)) : List (Nat × Nat) := (l.filter fun x => decide (i + x.1 ≤ to)).map fun x => (b - i - x.1, sh P b F i * x.2)
theorem mf_nil (P F to b i : Nat) : mf P F to b i [] = [] := rfl
theorem mf_yes {P F to b i : Nat} (l : List (Nat × Nat)) {x : Nat × Nat} (h : i + x.1 ≤ to) : mf P F to b i (l ++ [x]) = mf P F to b i l ++ [(b - i - x.1, sh P b F i * x.2)] := by simp [mf, h]
theorem mf_no {P F to b i : Nat} (l : List (Nat × Nat)) {x : Nat × Nat} (h : ¬ i + x.1 ≤ to) : mf P F to b i (l ++ [x]) = mf P F to b i l := by simp [mf, h]
theorem mf_app (P F to b i : Nat) (l r : List (Nat × Nat)) : mf P F to b i (l ++ r) = mf P F to b i l ++ mf P F to b i r := by simp [mf]
theorem row_pass {P F pa S to b i : Nat} (h : i ≤ pa) : passRow P F pa S to b i = [(b - i, sh P b F i * bn (P - F) S)] := by unfold passRow; rw [if_pos h]
theorem row_more {P F pa S to b i : Nat} (h : ¬ i ≤ pa) : passRow P F pa S to b i = mf P F to b i (showsL (P - F) (b - i) S) := by unfold passRow mf; rw [if_neg h]
/-- the rows of some first samples. -/
def rowsOf (P F pa S to b : Nat) (l : List (Nat × Nat)) : List (Nat × Nat) := l.flatMap fun x => passRow P F pa S to b x.1
theorem rowsOf_nil (P F pa S to b : Nat) : rowsOf P F pa S to b [] = [] := rfl
theorem rowsOf_snoc (P F pa S to b : Nat) (l : List (Nat × Nat)) (x : Nat × Nat) : rowsOf P F pa S to b (l ++ [x]) = rowsOf P F pa S to b l ++ passRow P F pa S to b x.1 := by simp [rowsOf]
theorem takeWhile_all {α : Type} {p : α → Bool} : ∀ {l r : List α}, (∀ y ∈ l, p y = true) → (l ++ r).takeWhile p = l ++ r.takeWhile p
  | [], _, _ => rfl
  | y :: l, r, h => by
    rw [List.cons_append, List.takeWhile_cons_of_pos (h y (by simp)), takeWhile_all (fun z hz => h z (by simp [hz])), List.cons_append]
theorem pass_full {P F pa fa S to b : Nat} {pre rest : List (Nat × Nat)} {x : Nat × Nat} (h : showsL P b F = pre ++ x :: rest) (hp : ∀ y ∈ pre, y.1 < fa) (hx : ¬ x.1 < fa) : passL P F pa fa S to b = rowsOf P F pa S to b pre := by
  unfold passL firsts rowsOf
  rw [h, takeWhile_all (fun y hy => by simpa using hp y hy), List.takeWhile_cons_of_neg (by simpa using hx), List.append_nil]
theorem pass_part {P F pa fa S to b : Nat} {pre rest : List (Nat × Nat)} {x : Nat × Nat} (h : showsL P b F = pre ++ x :: rest) (hp : ∀ y ∈ pre, y.1 < fa) (hx : x.1 < fa) : ∃ r, passL P F pa fa S to b = rowsOf P F pa S to b pre ++ (passRow P F pa S to b x.1 ++ r) := by
  unfold passL firsts rowsOf
  rw [h, takeWhile_all (fun y hy => by simpa using hp y hy), List.takeWhile_cons_of_pos (by simpa using hx), List.flatMap_append, List.flatMap_cons]
  exact ⟨_, rfl⟩
theorem pass_all {P F pa fa S to b : Nat} (hp : ∀ y ∈ showsL P b F, y.1 < fa) : passL P F pa fa S to b = rowsOf P F pa S to b (showsL P b F) := by
  unfold passL firsts rowsOf
  congr 1
  have := takeWhile_all (p := fun y : Nat × Nat => decide (y.1 < fa)) (l := showsL P b F) (r := []) (fun y hy => by simpa using hp y hy)
  simpa using this
theorem case2_sum {P F S b i : Nat} (hb : b ≤ P) : sumN (S + 1) (case2 P F S b i) = sh P b F i * bn (P - F) S := by
  have e : sumN (S + 1) (case2 P F S b i) = sh P b F i * sumN (S + 1) (sh (P - F) (b - i) S) := by rw [← sumN_mul]; rfl
  rw [e]
  by_cases h : b - i ≤ P - F
  · rw [sh_sum h]
  · rw [sh_none (P := P) (b := b) (n := F) (i := i) (.inr (by omega))]
    simp
theorem cases_sum {P F S b : Nat} (hb : b ≤ P) : sumN (F + 1) (fun i => sumN (S + 1) (case2 P F S b i)) = bn P F * bn (P - F) S := by
  rw [sumN_congr (g := fun i => bn (P - F) S * sh P b F i) (fun i _ => by rw [case2_sum hb, Nat.mul_comm]), sumN_mul, sh_sum hb, Nat.mul_comm]
theorem avgS_le {P F pa fa S to b : Nat} (hb : b ≤ P) {wo : Nat → Nat} {m : Nat} (h : ∀ v, v ≤ b → wo v ≤ m) : avgS P F pa fa S to b wo ≤ bn P F * bn (P - F) S * m := by
  rw [← cases_sum (S := S) (F := F) hb, Nat.mul_comm, ← sumN_mul]
  unfold avgS
  refine sumN_le fun i _ => ?_
  rw [← sumN_mul]
  refine sumN_le fun j _ => ?_
  split
  · rw [Nat.mul_comm]
    exact Nat.mul_le_mul_right _ (h _ (by unfold left2; split <;> omega))
  · omega
end Td
end Go.Proofs.Ytgkdidnmndmlhaa
/- How great the ways to choose can be; the least size that does. -/
namespace Go.Proofs.Ytgkdidnmndmlhaa
namespace Td
set_option linter.unusedVariables false
/-- a row of ways to choose. -/
def pr : Nat → List Nat
  | 0 => [1]
  | n + 1 => List.zipWith (· + ·) (0 :: pr n) (pr n ++ [0])
theorem pr_len : ∀ n, (pr n).length = n + 1
  | 0 => rfl
  | n + 1 => by rw [pr, List.length_zipWith, List.length_cons, List.length_append, pr_len n]; simp
theorem pr_get : ∀ n k : Nat, (pr n).getD k 0 = bn n k
  | 0, 0 => rfl
  | 0, k + 1 => by simp [pr, bn_none]
  | n + 1, 0 => by
    have h := pr_get n 0
    rw [bn_zero] at h ⊢
    have hl := pr_len n
    rw [pr]
    cases hp : pr n with
    | nil => rw [hp] at hl; simp at hl
    | cons x r =>
      rw [hp] at h
      simpa using h
  | n + 1, k + 1 => by
    have h1 := pr_get n k
    have h2 := pr_get n (k + 1)
    have hl := pr_len n
    rw [bn_succ, ← h1, ← h2, pr]
    simp only [List.getD_eq_getElem?_getD, List.getElem?_zipWith, List.getElem?_cons_succ]
    by_cases h : k < n + 1
    · rw [List.getElem?_eq_getElem (by omega : k < (pr n).length)]
      by_cases h3 : k + 1 < n + 1
      · rw [List.getElem?_append_left (by omega), List.getElem?_eq_getElem (by omega : k + 1 < (pr n).length)]
        simp
      · have : k = n := by omega
        subst this
        rw [List.getElem?_append_right (by omega), List.getElem?_eq_none (by omega : (pr k).length ≤ k + 1)]
        simp [hl]
    · rw [List.getElem?_eq_none (by omega : (pr n).length ≤ k), List.getElem?_eq_none (by omega : (pr n).length ≤ k + 1)]
      simp
def chk2 : Bool := (List.range 21).all fun P => (pr P).all fun x => decide (x ≤ 184756)
def chk3 : Bool := (List.range 21).all fun P => (List.range 21).all fun F => decide (P < F) || ((pr (P - F)).all fun y => decide ((pr P).getD F 0 * y ≤ 133024320))
theorem chk2_is : chk2 = true := by kernel_rfl
theorem chk3_is : chk3 = true := by kernel_rfl
theorem bn_le {P n : Nat} (h : P ≤ 20) : bn P n ≤ 184756 := by
  rcases Nat.lt_or_ge P n with h2 | h2
  · rw [bn_gt h2]; omega
  · have h1 := List.all_eq_true.1 chk2_is P (List.mem_range.2 (by omega))
    have hl := pr_len P
    have h3 := List.all_eq_true.1 h1 ((pr P)[n]'(by omega)) (List.getElem_mem _)
    have h4 := pr_get P n
    rw [List.getD_eq_getElem?_getD, List.getElem?_eq_getElem (by omega : n < (pr P).length)] at h4
    simp only [Option.getD_some] at h4
    rw [h4] at h3
    simpa using h3
theorem cases_le {P F S : Nat} (h : P ≤ 20) (hF : F ≤ P) : bn P F * bn (P - F) S ≤ 133024320 := by
  rcases Nat.lt_or_ge (P - F) S with h2 | h2
  · rw [bn_gt h2]; omega
  · have h1 := List.all_eq_true.1 chk3_is P (List.mem_range.2 (by omega))
    have h1' := List.all_eq_true.1 h1 F (List.mem_range.2 (by omega))
    rw [show decide (P < F) = false from decide_eq_false (by omega), Bool.false_or] at h1'
    have hl := pr_len (P - F)
    have h3 := List.all_eq_true.1 h1' ((pr (P - F))[S]'(by omega)) (List.getElem_mem _)
    have h4 := pr_get (P - F) S
    rw [List.getD_eq_getElem?_getD, List.getElem?_eq_getElem (by omega : S < (pr (P - F)).length)] at h4
    simp only [Option.getD_some] at h4
    rw [h4, pr_get] at h3
    simpa using h3
/-- the least number from 1 to P that does, or 0. -/
def smF (ok : Nat → Bool) (P : Nat) : Nat := ((List.range P).find? fun k => ok (k + 1)).elim 0 (· + 1)
theorem smF_is {ok : Nat → Bool} {P n : Nat} (h1 : 1 ≤ n) (h2 : n ≤ P) (h : ok n = true) (hm : ∀ m, 1 ≤ m → m < n → ok m = false) : smF ok P = n := by
  unfold smF
  have : (List.range P).find? (fun k => ok (k + 1)) = some (n - 1) := by
    rw [List.find?_eq_some_iff_append]
    refine ⟨by rw [show n - 1 + 1 = n by omega]; exact h, List.range (n - 1), (List.range (P - n)).map (n + ·), ?_, fun m hm' => ?_⟩
    · apply List.ext_getElem
      · simp; omega
      · intro i hi1 hi2
        simp only [List.getElem_range, List.getElem_append, List.length_range]
        split
        · rfl
        · rw [List.getElem_cons]
          split
          · omega
          · simp; omega
    · have := List.mem_range.1 hm'
      rw [hm (m + 1) (by omega) (by omega)]
      rfl
  rw [this]
  simp
  omega
theorem smF_none {ok : Nat → Bool} {P : Nat} (hm : ∀ m, 1 ≤ m → m ≤ P → ok m = false) : smF ok P = 0 := by
  unfold smF
  have : (List.range P).find? (fun k => ok (k + 1)) = none := by
    rw [List.find?_eq_none]
    intro k hk
    have := List.mem_range.1 hk
    rw [hm (k + 1) (by omega) (by omega)]
    simp
  rw [this]
  rfl
theorem smF_cases (ok : Nat → Bool) (P : Nat) : (∃ n, 1 ≤ n ∧ n ≤ P ∧ ok n = true ∧ (∀ m, 1 ≤ m → m < n → ok m = false) ∧ smF ok P = n) ∨ ((∀ m, 1 ≤ m → m ≤ P → ok m = false) ∧ smF ok P = 0) := by
  by_cases h : ∃ n, 1 ≤ n ∧ n ≤ P ∧ ok n = true
  · have : ∃ n, (1 ≤ n ∧ n ≤ P ∧ ok n = true) ∧ ∀ m, m < n → ¬ (1 ≤ m ∧ m ≤ P ∧ ok m = true) := by
      obtain ⟨n, hn⟩ := h
      induction n using Nat.strongRecOn with
      | _ n ih =>
        by_cases hm : ∃ m, m < n ∧ (1 ≤ m ∧ m ≤ P ∧ ok m = true)
        · obtain ⟨m, h1, h2⟩ := hm
          exact ih m h1 h2
        · exact ⟨n, hn, fun m h1 h2 => hm ⟨m, h1, h2⟩⟩
    obtain ⟨n, ⟨h1, h2, h3⟩, h4⟩ := this
    have h5 : ∀ m, 1 ≤ m → m < n → ok m = false := fun m hm1 hm2 => by
      cases hk : ok m
      · rfl
      · exact absurd ⟨hm1, by omega, hk⟩ (h4 m hm2)
    exact .inl ⟨n, h1, h2, h3, h5, smF_is h1 h2 h3 h5⟩
  · have h5 : ∀ m, 1 ≤ m → m ≤ P → ok m = false := fun m hm1 hm2 => by
      cases hk : ok m
      · rfl
      · exact absurd ⟨m, hm1, hm2, hk⟩ h
    exact .inr ⟨h5, smF_none h5⟩
end Td
end Go.Proofs.Ytgkdidnmndmlhaa
/- The sample and the bad pieces change places. -/
namespace Go.Proofs.Ytgkdidnmndmlhaa
namespace Td
def fac : Nat → Nat
  | 0 => 1
  | n + 1 => (n + 1) * fac n
theorem fac_pos : ∀ n, 0 < fac n
  | 0 => Nat.one_pos
  | n + 1 => Nat.mul_pos (Nat.succ_pos n) (fac_pos n)
theorem bn_fac : ∀ {n k : Nat}, k ≤ n → bn n k * (fac k * fac (n - k)) = fac n
  | n, 0, _ => by rw [bn_zero, Nat.sub_zero]; simp [fac]
  | 0, k + 1, h => by omega
  | n + 1, k + 1, h => by
    have ih := bn_fac (n := n) (k := k) (by omega)
    have ha := bn_abs n k
    have e : n + 1 - (k + 1) = n - k := by omega
    rw [e]
    show bn (n + 1) (k + 1) * ((k + 1) * fac k * fac (n - k)) = (n + 1) * fac n
    calc bn (n + 1) (k + 1) * ((k + 1) * fac k * fac (n - k)) = (k + 1) * bn (n + 1) (k + 1) * (fac k * fac (n - k)) := by simp only [Nat.mul_assoc, Nat.mul_comm, Nat.mul_left_comm]
      _ = (n + 1) * bn n k * (fac k * fac (n - k)) := by rw [ha]
      _ = (n + 1) * (bn n k * (fac k * fac (n - k))) := by rw [Nat.mul_assoc]
      _ = _ := by rw [ih]
/-- three numbers of a heap: each sample of n with i of the b bad ones. -/
theorem tri_fac {P b n i : Nat} (hb : b ≤ P) (h1 : i ≤ b) (h2 : i ≤ n) (h3 : n - i ≤ P - b) : sh P b n i * bn P b * (fac i * fac (b - i) * (fac (n - i) * fac (P - b - (n - i)))) = fac P := by
  have e1 := bn_fac h1
  have e2 := bn_fac h3
  have e3 := bn_fac hb
  unfold sh
  calc bn b i * bn (P - b) (n - i) * bn P b * (fac i * fac (b - i) * (fac (n - i) * fac (P - b - (n - i))))
      = bn P b * ((bn b i * (fac i * fac (b - i))) * (bn (P - b) (n - i) * (fac (n - i) * fac (P - b - (n - i))))) := by simp only [Nat.mul_assoc, Nat.mul_comm, Nat.mul_left_comm]
    _ = bn P b * (fac b * fac (P - b)) := by rw [e1, e2]
    _ = _ := e3
/-- the chance that a sample shows some number is the same if the sizes change places. -/
theorem turned_sh {P b n i : Nat} (hb : b ≤ P) (hn : n ≤ P) (h1 : i ≤ b) (h2 : i ≤ n) : sh P b n i * bn P b = sh P n b i * bn P n := by
  by_cases h3 : n - i ≤ P - b
  · have e1 := tri_fac hb h1 h2 h3
    have e2 := tri_fac (P := P) (b := n) (n := b) (i := i) hn h2 h1 (by omega)
    have e3 : P - n - (b - i) = P - b - (n - i) := by omega
    rw [e3] at e2
    have hpos : 0 < fac i * fac (b - i) * (fac (n - i) * fac (P - b - (n - i))) := Nat.mul_pos (Nat.mul_pos (fac_pos _) (fac_pos _)) (Nat.mul_pos (fac_pos _) (fac_pos _))
    refine Nat.eq_of_mul_eq_mul_right hpos ?_
    rw [e1, ← e2]
    simp only [Nat.mul_assoc, Nat.mul_comm, Nat.mul_left_comm]
  · rw [sh_none (.inr (by omega)), sh_none (P := P) (b := n) (n := b) (i := i) (.inr (by omega)), Nat.zero_mul, Nat.zero_mul]
/-- the chance as a share. -/
theorem turned_shr {P b n i : Nat} (hb : b ≤ P) (hn : n ≤ P) (h1 : i ≤ b) (h2 : i ≤ n) : shr (sh P b n i) (bn P n) = shr (sh P n b i) (bn P b) :=
  (shr_eq (bn_pos hn) (bn_pos hb)).2 (turned_sh hb hn h1 h2)
/-- good and bad change places. -/
theorem good_sh {P b n i : Nat} (hb : b ≤ P) (h2 : i ≤ n) : sh P (P - b) n (n - i) = sh P b n i := by
  unfold sh
  rw [show P - (P - b) = b by omega, show n - (n - i) = i by omega, Nat.mul_comm]
/-- on average a sample shows its part of the bad pieces. -/
theorem mean_sh {P b n : Nat} (hb : b ≤ P) (hP : 1 ≤ P) : sumN (n + 1) (fun i => i * sh P b n i) * P = n * b * bn P n := by
  cases b with
  | zero =>
    rw [sumN_zero fun i hi => ?_]
    · simp
    · cases i with
      | zero => rw [Nat.zero_mul]
      | succ i => rw [sh_none (.inl (Nat.succ_pos i)), Nat.mul_zero]
  | succ c =>
    cases n with
    | zero => rw [sumN_succ]; show (0 + 0 * _) * P = _; simp
    | succ k =>
      obtain ⟨Q, rfl⟩ : ∃ Q, P = Q + 1 := ⟨P - 1, by omega⟩
      rw [sumN_first]
      have e : ∀ i, i < k + 1 → (i + 1) * sh (Q + 1) (c + 1) (k + 1) (i + 1) = (c + 1) * (bn c i * bn (Q - c) (k - i)) := fun i hi => by
        unfold sh
        rw [show Q + 1 - (c + 1) = Q - c by omega, show k + 1 - (i + 1) = k - i by omega, ← Nat.mul_assoc, bn_abs, Nat.mul_assoc]
      rw [sumN_congr e, sumN_mul, vander, show c + (Q - c) = Q by omega, Nat.zero_mul, Nat.zero_add]
      have h2 := bn_abs Q k
      calc (c + 1) * bn Q k * (Q + 1) = (c + 1) * ((Q + 1) * bn Q k) := by simp only [Nat.mul_assoc, Nat.mul_comm, Nat.mul_left_comm]
        _ = (c + 1) * ((k + 1) * bn (Q + 1) (k + 1)) := by rw [h2]
        _ = _ := by simp only [Nat.mul_assoc, Nat.mul_comm, Nat.mul_left_comm]
end Td
end Go.Proofs.Ytgkdidnmndmlhaa
