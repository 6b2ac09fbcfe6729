import Derived.Test.YtgkdidnmndmlhaaMathE
import Derived.Test.YtgkdidnmndmlhaaExpA
/- What is paid on average: more by the same cents, between the least and the greatest, falling by the same cents. -/
namespace Go.Proofs.Ytgkdidnmndmlhaa
open Go.RowKit
namespace Td
set_option linter.unusedVariables false
set_option linter.unusedSimpArgs false
theorem fore_map (b : Nat × Nat → Nat × Nat → Bool) (φ : Nat × Nat → Nat × Nat) (h : ∀ s t, b (φ s) (φ t) = b s t) : ∀ {l : List (Nat × Nat)}, l ≠ [] → fore b (l.map φ) = φ (fore b l)
  | [], hl => absurd rfl hl
  | x :: r, _ => by
    rw [List.map_cons]
    unfold fore
    have : ∀ (r : List (Nat × Nat)) (x : Nat × Nat), (r.map φ).foldl (fun f y => if b y f then y else f) (φ x) = φ (r.foldl (fun f y => if b y f then y else f) x) := by
      intro r
      induction r with
      | nil => intro x; rfl
      | cons y r ih =>
        intro x
        rw [List.map_cons, List.foldl_cons, List.foldl_cons, h]
        by_cases e : b y x = true
        · rw [if_pos e, if_pos e]; exact ih y
        · rw [if_neg e, if_neg e]; exact ih x
    exact this r x
/-- a share that is more by k. -/
def upS (k : Nat) (s : Nat × Nat) : Nat × Nat := (s.1 + k * s.2, s.2)
theorem lt_up (k : Nat) (s t : Nat × Nat) : lt' (upS k s) (upS k t) = lt' s t := by
  unfold lt' upS
  congr 1
  refine propext ?_
  show (s.1 + k * s.2) * t.2 < (t.1 + k * t.2) * s.2 ↔ _
  rw [Nat.add_mul, Nat.add_mul, show k * t.2 * s.2 = k * s.2 * t.2 by simp only [Nat.mul_assoc, Nat.mul_comm, Nat.mul_left_comm]]
  omega
theorem shr_up {a k N : Nat} (hN : 0 < N) : shr (a + k * N) N = upS k (shr a N) := by
  obtain ⟨g, hg, h1, h2, h3⟩ := shr_spec a hN
  have hp := shr_pos a hN
  have hm := shr_mul a hN
  unfold upS
  generalize (shr a N).1 = p1 at h1 h3 hm ⊢
  generalize (shr a N).2 = p2 at h2 h3 hp hm ⊢
  have hg1 : Nat.gcd (p1 + k * p2) p2 = 1 := by
    rw [Nat.gcd_comm, Nat.gcd_rec, Nat.add_mul_mod_self_right, ← Nat.gcd_rec, Nat.gcd_comm]
    exact h3
  rw [← shr_low hp hg1, shr_eq hN hp, Nat.add_mul, Nat.add_mul, hm]
  congr 1
  simp only [Nat.mul_assoc, Nat.mul_comm, Nat.mul_left_comm]
/-- what is paid, as a list. -/
def mkL (n : Nat) (g : Nat → Nat) (k : Nat) : List Int := (List.range k).map fun i => ((g i : Nat) : Int)
theorem mkL_len (n : Nat) (g : Nat → Nat) (k : Nat) : (mkL n g k).length = k := by simp [mkL]
theorem mkL_succ (n : Nat) (g : Nat → Nat) (k : Nat) : mkL n g (k + 1) = mkL n g k ++ [((g k : Nat) : Int)] := by simp [mkL, List.range_succ]
theorem mkL_get {n : Nat} {g : Nat → Nat} {k i : Nat} (h : i < k) : (mkL n g k)[i]? = some ((g i : Nat) : Int) := by simp [mkL, h]
/-- the average, by a function. -/
def fG (P n : Nat) (g : Nat → Nat) (d : Nat) : Nat × Nat := shr (prcS P d n g) (bn P n)
theorem prS_fn {P n : Nat} {g : Nat → Nat} (d : Nat) : prS P n (mkL n g (n + 1)) d = fG P n g d := by
  unfold prS fG
  congr 1
  unfold prcS
  refine sumN_congr fun i hi => ?_
  show sh P d n i * ((mkL n g (n + 1))[i]?.getD 0).toNat = sh P d n i * g i
  rw [mkL_get hi]
  simp
theorem pri_fn {P lo hi n : Nat} {g : Nat → Nat} (hc : chkE P lo hi = 0) (hn : n ≤ P) (hg : ∀ i, i ≤ n → g i ≤ 100000) :
    priA P lo hi (mkL n g (n + 1)) = (ip (leastS (eachL (fG P n g) lo hi)), ip (mostS (eachL (fG P n g) lo hi)), 0) := by
  unfold priA
  rw [if_pos hc, mkL_len, if_pos (wi_iff.2 (by omega)), if_pos (by
    unfold wl
    rw [List.all_eq_true]
    intro x hx
    obtain ⟨i, hi⟩ := List.getElem?_of_mem hx
    have hil := (List.getElem?_eq_some_iff.1 hi).1
    rw [mkL_len] at hil
    rw [mkL_get hil] at hi
    have := hg i (by omega)
    cases hi
    exact wi_iff.2 (by omega))]
  simp only [Int.toNat_natCast, Nat.add_sub_cancel]
  rw [show prS P n (mkL n g (n + 1)) = fG P n g from funext fun d => prS_fn d]
theorem pri_no {P lo hi n : Nat} {g : Nat → Nat} {i : Nat} (hc : chkE P lo hi = 0) (hn : n ≤ P) (hin : i ≤ n) (hg : 100000 < g i) :
    priA P lo hi (mkL n g (n + 1)) = ((0, 0), (0, 0), 7) := by
  unfold priA
  rw [if_pos hc, mkL_len, if_pos (wi_iff.2 (by omega)), if_neg (by
    intro h
    have := wl_mem h _ (List.mem_of_getElem? (mkL_get (n := n) (g := g) (k := n + 1) (i := i) (by omega)))
    omega)]
/-- pays as such a list. -/
theorem pays_fn {xs : List Int} {n : Nat} (hl : xs.length = n + 1) (h : ∀ x ∈ xs, 0 ≤ x) : xs = mkL n (fun i => (xs[i]?.getD 0).toNat) (n + 1) := by
  apply List.ext_getElem?
  intro i
  by_cases hi : i < n + 1
  · rw [mkL_get hi]
    have hil : i < xs.length := by omega
    have := h _ (List.getElem_mem hil)
    rw [List.getElem?_eq_getElem hil]
    simp
    omega
  · rw [List.getElem?_eq_none (by omega), List.getElem?_eq_none (by rw [mkL_len]; omega)]
theorem fG_up {P n k d : Nat} {g : Nat → Nat} (hd : d ≤ P) (hn : n ≤ P) : fG P n (fun i => g i + k) d = upS k (fG P n g d) := by
  unfold fG
  rw [← shr_up (bn_pos hn)]
  congr 1
  unfold prcS
  rw [← sh_sum (n := n) hd, ← sumN_mul, ← sumN_add]
  exact sumN_congr fun i _ => by rw [Nat.mul_add, Nat.mul_comm k]
theorem each_up {P n k lo hi : Nat} {g : Nat → Nat} (hh : hi ≤ P) (hn : n ≤ P) : eachL (fG P n (fun i => g i + k)) lo hi = (eachL (fG P n g) lo hi).map (upS k) := by
  unfold eachL
  rw [List.map_map]
  refine List.map_congr_left fun j hj => ?_
  have := List.mem_range.1 hj
  show fG P n (fun i => g i + k) (lo + j) = upS k (fG P n g (lo + j))
  exact fG_up (by omega) hn
theorem ends_up {P n k lo hi : Nat} {g : Nat → Nat} (hlh : lo ≤ hi) (hh : hi ≤ P) (hn : n ≤ P) :
    leastS (eachL (fG P n (fun i => g i + k)) lo hi) = upS k (leastS (eachL (fG P n g) lo hi)) ∧ mostS (eachL (fG P n (fun i => g i + k)) lo hi) = upS k (mostS (eachL (fG P n g) lo hi)) := by
  rw [each_up hh hn]
  exact ⟨fore_map _ _ (lt_up k) (eachL_ne hlh), fore_map _ _ (fun s t => lt_up k t s) (eachL_ne hlh)⟩
theorem fG_mul {P n d : Nat} {g : Nat → Nat} (hn : n ≤ P) : (fG P n g d).1 * bn P n = prcS P d n g * (fG P n g d).2 := shr_mul _ (bn_pos hn)
theorem fG_pos {P n d : Nat} {g : Nat → Nat} (hn : n ≤ P) : 0 < (fG P n g d).2 := shr_pos _ (bn_pos hn)
theorem prc_ge {P b n m : Nat} {g : Nat → Nat} (hb : b ≤ P) (h : ∀ i, i ≤ n → m ≤ g i) : bn P n * m ≤ prcS P b n g := by
  unfold prcS
  rw [← sh_sum hb, Nat.mul_comm, ← sumN_mul]
  exact sumN_le fun i hi => by rw [Nat.mul_comm]; exact Nat.mul_le_mul_left _ (h i (by omega))
/-- no average is below the least number of pays, or above the greatest. -/
theorem fG_low {P n d m : Nat} {g : Nat → Nat} (hd : d ≤ P) (hn : n ≤ P) (h : ∀ i, i ≤ n → m ≤ g i) : lt' (fG P n g d) (m, 1) = false := by
  rw [lt_no]
  show m * (fG P n g d).2 ≤ (fG P n g d).1 * 1
  rw [Nat.mul_one]
  refine Nat.le_of_mul_le_mul_right (c := bn P n) ?_ (bn_pos hn)
  rw [fG_mul hn]
  calc m * (fG P n g d).2 * bn P n = bn P n * m * (fG P n g d).2 := by simp only [Nat.mul_assoc, Nat.mul_comm, Nat.mul_left_comm]
    _ ≤ _ := Nat.mul_le_mul_right _ (prc_ge hd h)
theorem fG_high {P n d m : Nat} {g : Nat → Nat} (hd : d ≤ P) (hn : n ≤ P) (h : ∀ i, i ≤ n → g i ≤ m) : lt' (m, 1) (fG P n g d) = false := by
  rw [lt_no]
  show (fG P n g d).1 * 1 ≤ m * (fG P n g d).2
  rw [Nat.mul_one]
  refine Nat.le_of_mul_le_mul_right (c := bn P n) ?_ (bn_pos hn)
  rw [fG_mul hn]
  calc prcS P d n g * (fG P n g d).2 ≤ bn P n * m * (fG P n g d).2 := Nat.mul_le_mul_right _ (prcS_le hd h)
    _ = _ := by simp only [Nat.mul_assoc, Nat.mul_comm, Nat.mul_left_comm]
/-- pays that fall by the same cents. -/
theorem prc_fall {P d n s : Nat} (hd : d ≤ P) (hP : 1 ≤ P) : prcS P d n (fun i => s * (n - i)) * P = s * n * (P - d) * bn P n := by
  have h1 : prcS P d n (fun i => s * (n - i)) + s * sumN (n + 1) (fun i => i * sh P d n i) = s * n * bn P n := by
    unfold prcS
    rw [← sh_sum (n := n) hd, ← sumN_mul, ← sumN_add, ← sumN_mul]
    refine sumN_congr fun i hi => ?_
    calc sh P d n i * (s * (n - i)) + s * (i * sh P d n i) = s * ((n - i) + i) * sh P d n i := by
          rw [Nat.mul_add, Nat.add_mul]
          simp only [Nat.mul_assoc, Nat.mul_comm, Nat.mul_left_comm]
      _ = _ := by rw [show n - i + i = n by omega]
  have h2 := mean_sh (n := n) hd hP
  have h3 : prcS P d n (fun i => s * (n - i)) * P + s * (n * d * bn P n) = s * n * bn P n * P := by
    rw [← h2, ← Nat.mul_assoc, ← Nat.add_mul, h1]
  have h4 : s * n * (P - d) * bn P n + s * (n * d * bn P n) = s * n * bn P n * P := by
    calc s * n * (P - d) * bn P n + s * (n * d * bn P n) = s * n * bn P n * (P - d) + s * n * bn P n * d := by simp only [Nat.mul_assoc, Nat.mul_comm, Nat.mul_left_comm]
      _ = s * n * bn P n * (P - d + d) := by rw [← Nat.mul_add]
      _ = _ := by rw [show P - d + d = P by omega]
  omega
theorem fall_val {P d n s : Nat} (hd : d ≤ P) (hP : 1 ≤ P) (hn : n ≤ P) : (fG P n (fun i => s * (n - i)) d).1 * P = s * n * (P - d) * (fG P n (fun i => s * (n - i)) d).2 := by
  refine Nat.eq_of_mul_eq_mul_right (bn_pos hn) ?_
  have h1 := fG_mul (d := d) (g := fun i => s * (n - i)) hn
  have h2 := prc_fall (n := n) (s := s) hd hP
  calc (fG P n (fun i => s * (n - i)) d).1 * P * bn P n = (fG P n (fun i => s * (n - i)) d).1 * bn P n * P := by simp only [Nat.mul_assoc, Nat.mul_comm, Nat.mul_left_comm]
    _ = prcS P d n (fun i => s * (n - i)) * P * (fG P n (fun i => s * (n - i)) d).2 := by rw [h1]; simp only [Nat.mul_assoc, Nat.mul_comm, Nat.mul_left_comm]
    _ = s * n * (P - d) * bn P n * (fG P n (fun i => s * (n - i)) d).2 := by rw [h2]
    _ = _ := by simp only [Nat.mul_assoc, Nat.mul_comm, Nat.mul_left_comm]
theorem fall_mono {P d e n s : Nat} (hde : d ≤ e) (he : e ≤ P) (hP : 1 ≤ P) (hn : n ≤ P) : lt' (fG P n (fun i => s * (n - i)) d) (fG P n (fun i => s * (n - i)) e) = false := by
  unfold fG
  rw [lt_shr (bn_pos hn) (bn_pos hn)]
  refine decide_eq_false (Nat.not_lt.2 (Nat.mul_le_mul_right _ ?_))
  refine Nat.le_of_mul_le_mul_right (c := P) ?_ (by omega)
  rw [prc_fall (d := e) he hP, prc_fall (d := d) (by omega) hP]
  exact Nat.mul_le_mul_right _ (Nat.mul_le_mul_left _ (by omega))
theorem fall_ends {P n s lo hi : Nat} (hlh : lo ≤ hi) (hhi : hi ≤ P) (hP : 1 ≤ P) (hn : n ≤ P) :
    leastS (eachL (fG P n (fun i => s * (n - i))) lo hi) = fG P n (fun i => s * (n - i)) hi ∧ mostS (eachL (fG P n (fun i => s * (n - i))) lo hi) = fG P n (fun i => s * (n - i)) lo := by
  obtain ⟨L, hL⟩ : ∃ L, eachL (fG P n (fun i => s * (n - i))) lo hi = L := ⟨_, rfl⟩
  have hpos : ∀ y ∈ L, 0 < y.2 := fun y hy => by
    rw [← hL] at hy
    obtain ⟨b, h1, h2, rfl⟩ := eachL_mem hy
    exact fG_pos hn
  have m1 : fG P n (fun i => s * (n - i)) hi ∈ L := by rw [← hL]; exact List.mem_of_getElem? (eachL_get hlh (Nat.le_refl _))
  have m2 : fG P n (fun i => s * (n - i)) lo ∈ L := by rw [← hL]; exact List.mem_of_getElem? (eachL_get (Nat.le_refl _) hlh)
  have hne : L ≠ [] := List.ne_nil_of_mem m1
  rw [hL]
  constructor
  · have k1 := least_min hpos m1
    have k2 : leastS L ∈ L := fore_mem _ hne
    rw [← hL] at k2
    obtain ⟨b, h1, h2, h3⟩ := eachL_mem k2
    rw [hL] at h3
    rw [h3] at k1 ⊢
    exact shr_both (bn_pos hn) (bn_pos hn) (fall_mono h2 hhi hP hn) k1
  · have k1 := most_max hpos m2
    have k2 : mostS L ∈ L := fore_mem _ hne
    rw [← hL] at k2
    obtain ⟨b, h1, h2, h3⟩ := eachL_mem k2
    rw [hL] at h3
    rw [h3] at k1 ⊢
    exact shr_both (bn_pos hn) (bn_pos hn) k1 (fall_mono h1 (by omega) hP hn)
end Td
end Go.Proofs.Ytgkdidnmndmlhaa
