import Derived.Test.YtgkdidnmndmlhaaMath
/- Sums over what samples show; what is paid, what passes, what stays. It imports nothing of the program. -/
namespace Go.Proofs.Ytgkdidnmndmlhaa
namespace Td
set_option linter.unusedVariables false
/-- the sum of f over a list. -/
def lsum {α : Type} (f : α → Nat) : List α → Nat
  | [] => 0
  | x :: r => f x + lsum f r
theorem lsum_app {α : Type} (f : α → Nat) : ∀ (l r : List α), lsum f (l ++ r) = lsum f l + lsum f r
  | [], r => by simp [lsum]
  | x :: l, r => by rw [List.cons_append, lsum, lsum, lsum_app f l r]; omega
theorem lsum_snoc {α : Type} (f : α → Nat) (l : List α) (x : α) : lsum f (l ++ [x]) = lsum f l + f x := by rw [lsum_app]; simp [lsum]
theorem lsum_le_of {α : Type} (f : α → Nat) {l pre r : List α} (h : l = pre ++ r) : lsum f pre ≤ lsum f l := by rw [h, lsum_app]; omega
theorem lsum_range {α : Type} (f : α → Nat) (h : Nat → α) (n : Nat) : lsum f ((List.range n).map h) = sumN n (fun k => f (h k)) := by
  induction n with
  | zero => rfl
  | succ n ih => rw [List.range_succ, List.map_append, lsum_app, ih, sumN_succ]; simp [lsum]
theorem lsum_congr {α : Type} {f g : α → Nat} : ∀ {l : List α}, (∀ x ∈ l, f x = g x) → lsum f l = lsum g l
  | [], _ => rfl
  | x :: r, h => by rw [lsum, lsum, h x (by simp), lsum_congr (fun y hy => h y (by simp [hy]))]
/-- all that samples can show: the others are shown by none. -/
theorem lsum_shows (P b n : Nat) (hb : b ≤ P) (hn : n ≤ P) (f : Nat → Nat) : lsum (fun x => x.2 * f x.1) (showsL P b n) = sumN (n + 1) (fun i => sh P b n i * f i) := by
  have hle := loS_le hb hn
  unfold showsL
  rw [lsum_range]
  have h1 : sumN (n + 1) (fun i => sh P b n i * f i) = sumN (hiS b n + 1) (fun i => sh P b n i * f i) := sumN_short (by unfold hiS; omega) (fun i h1 h2 => by
    rw [sh_none (.inl (by unfold hiS at h1; omega)), Nat.zero_mul])
  rw [h1, sumN_from (lo := loS P b n) (n := hiS b n + 1) (f := fun i => sh P b n i * f i) (by omega) (fun i hi => by rw [sh_none (.inr (by unfold loS at hi; omega)), Nat.zero_mul])]
/-- what is paid in all samples together. -/
def prcS (P b n : Nat) (pay : Nat → Nat) : Nat := sumN (n + 1) (fun i => sh P b n i * pay i)
theorem prcS_le {P b n : Nat} {pay : Nat → Nat} (hb : b ≤ P) {m : Nat} (h : ∀ i, i ≤ n → pay i ≤ m) : prcS P b n pay ≤ bn P n * m := by
  unfold prcS
  rw [← sh_sum hb, Nat.mul_comm, ← sumN_mul]
  exact sumN_le fun i hi => by rw [Nat.mul_comm]; exact Nat.mul_le_mul_right _ (h i (by omega))
/-- both samples of a plan: in how many cases a heap passes with i bad ones in the first one, j in the second one, and how many count. -/
def case2 (P F S b i j : Nat) : Nat := sh P b F i * sh (P - F) (b - i) S j
/-- does a heap pass that shows these? -/
def pas2 (pa fa to i j : Nat) : Bool := decide (i < fa) && (decide (i ≤ pa) || decide (i + j ≤ to))
/-- the bad pieces that are left then. -/
def left2 (pa b i j : Nat) : Nat := if i ≤ pa then b - i else b - i - j
/-- all cases in which it passes, each counted by the worth of what is left. -/
def avgS (P F pa fa S to b : Nat) (wo : Nat → Nat) : Nat := sumN (F + 1) fun i => sumN (S + 1) fun j => if pas2 pa fa to i j then case2 P F S b i j * wo (left2 pa b i j) else 0
/-- what the iterator yields behind one first sample. -/
def passRow (P F pa S to b i : Nat) : List (Nat × Nat) :=
  if i ≤ pa then [(b - i, sh P b F i * bn (P - F) S)]
  else ((showsL (P - F) (b - i) S).filter fun x => decide (i + x.1 ≤ to)).map fun x => (b - i - x.1, sh P b F i * x.2)
/-- the first samples that do not fail. -/
def firsts (P F fa b : Nat) : List (Nat × Nat) := (showsL P b F).takeWhile fun x => decide (x.1 < fa)
/-- what the iterator yields. -/
def passL (P F pa fa S to b : Nat) : List (Nat × Nat) := (firsts P F fa b).flatMap fun x => passRow P F pa S to b x.1
theorem lsum_filter {α : Type} (f : α → Nat) (p : α → Bool) : ∀ l : List α, lsum f (l.filter p) = lsum (fun x => if p x then f x else 0) l
  | [] => rfl
  | x :: r => by
    rw [List.filter_cons]
    by_cases h : p x = true
    · rw [if_pos h, lsum, lsum, lsum_filter f p r, if_pos h]
    · rw [if_neg h, lsum, lsum_filter f p r, if_neg h]; omega
theorem lsum_map {α β : Type} (f : β → Nat) (h : α → β) : ∀ l : List α, lsum f (l.map h) = lsum (fun x => f (h x)) l
  | [] => rfl
  | x :: r => by rw [List.map_cons, lsum, lsum, lsum_map f h r]
theorem lsum_flat {α β : Type} (f : β → Nat) (h : α → List β) : ∀ l : List α, lsum f (l.flatMap h) = lsum (fun x => lsum f (h x)) l
  | [] => rfl
  | x :: r => by rw [List.flatMap_cons, lsum_app, lsum, lsum_flat f h r]
theorem lsum_takeWhile {n lo : Nat} (f g : Nat → Nat) (fa : Nat) : lsum (fun x : Nat × Nat => f x.1) (((List.range n).map fun k => (lo + k, g k)).takeWhile fun x => decide (x.1 < fa)) = sumN n (fun k => if lo + k < fa then f (lo + k) else 0) := by
  have h : ∀ n, ((List.range n).map fun k => (lo + k, g k)).takeWhile (fun x : Nat × Nat => decide (x.1 < fa)) = (List.range (min n (fa - lo))).map fun k => (lo + k, g k) := by
    intro n
    induction n with
    | zero => simp
    | succ n ih =>
      rw [List.range_succ, List.map_append, List.takeWhile_append, ih]
      by_cases hn : lo + n < fa
      · have e1 : min n (fa - lo) = n := by omega
        have e2 : min (n + 1) (fa - lo) = n + 1 := by omega
        rw [e1, e2, if_pos (by simp)]
        simp [hn, List.range_succ]
      · have e2 : min (n + 1) (fa - lo) = min n (fa - lo) := by omega
        rw [e2]
        by_cases hq : min n (fa - lo) = n
        · rw [if_pos (by simp [hq])]
          simp [hn, hq]
        · rw [if_neg (by simp; omega)]
  rw [h, lsum_range]
  rcases Nat.lt_or_ge (fa - lo) n with hlt | hge
  · rw [show min n (fa - lo) = fa - lo by omega]
    rw [sumN_short (m := fa - lo) (n := n) (by omega) (fun i h1 h2 => if_neg (by omega))]
    exact sumN_congr fun i hi => by rw [if_pos (by omega)]
  · rw [show min n (fa - lo) = n by omega]
    exact sumN_congr fun i hi => by rw [if_pos (by omega)]
/-- what the iterator yields, summed up: all cases. -/
theorem lsum_pass {P F pa fa S to b : Nat} (hb : b ≤ P) (hF : F ≤ P) (hS : S ≤ P - F) (hpt : pa + 1 ≤ fa) (wo : Nat → Nat) : lsum (fun x => x.2 * wo x.1) (passL P F pa fa S to b) = avgS P F pa fa S to b wo := by
  unfold passL firsts
  rw [lsum_flat]
  have hrow : ∀ i, lsum (fun x => x.2 * wo x.1) (passRow P F pa S to b i) = if i ≤ pa then sh P b F i * bn (P - F) S * wo (b - i) else lsum (fun x : Nat × Nat => if decide (i + x.1 ≤ to) then sh P b F i * x.2 * wo (b - i - x.1) else 0) (showsL (P - F) (b - i) S) := by
    intro i
    unfold passRow
    split
    · simp [lsum]
    · rw [lsum_map, lsum_filter]
  unfold showsL
  rw [lsum_takeWhile (n := hiS b F + 1 - loS P b F) (lo := loS P b F) (fun i => lsum (fun x => x.2 * wo x.1) (passRow P F pa S to b i)) (fun k => sh P b F (loS P b F + k)) fa]
  unfold avgS
  have hle := loS_le hb hF
  -- all other first samples count nothing
  have h1 : (sumN (F + 1) fun i => sumN (S + 1) fun j => if pas2 pa fa to i j then case2 P F S b i j * wo (left2 pa b i j) else 0) = sumN (hiS b F + 1) fun i => sumN (S + 1) fun j => if pas2 pa fa to i j then case2 P F S b i j * wo (left2 pa b i j) else 0 :=
    sumN_short (by unfold hiS; omega) (fun i h1 h2 => sumN_zero fun j hj => by
      unfold case2
      rw [sh_none (.inl (by unfold hiS at h1; omega)), Nat.zero_mul, Nat.zero_mul]
      split <;> rfl)
  rw [h1, sumN_from (lo := loS P b F) (n := hiS b F + 1) (f := fun i => sumN (S + 1) fun j => if pas2 pa fa to i j then case2 P F S b i j * wo (left2 pa b i j) else 0) (by omega) (fun i hi => sumN_zero fun j hj => by
      unfold case2
      rw [sh_none (.inr (by unfold loS at hi; omega)), Nat.zero_mul, Nat.zero_mul]
      split <;> rfl)]
  refine sumN_congr fun k hk => ?_
  obtain ⟨i, hi⟩ : ∃ i, loS P b F + k = i := ⟨_, rfl⟩
  simp only [hi]
  have hib : i ≤ b := by unfold hiS at hk; omega
  have hir : b - i ≤ P - F := by unfold loS at hi; omega
  by_cases hf : i < fa
  · rw [if_pos hf, hrow]
    by_cases hp : i ≤ pa
    · rw [if_pos hp]
      rw [sumN_congr (g := fun j => sh P b F i * wo (b - i) * sh (P - F) (b - i) S j) (fun j hj => by
        have : pas2 pa fa to i j = true := by simp [pas2, hf, hp]
        rw [this, if_pos rfl]
        unfold case2 left2
        rw [if_pos hp]
        simp only [Nat.mul_assoc, Nat.mul_left_comm, Nat.mul_comm])]
      rw [sumN_mul, sh_sum hir]
      simp only [Nat.mul_assoc, Nat.mul_left_comm, Nat.mul_comm]
    · rw [if_neg hp]
      have h2 := lsum_shows (P - F) (b - i) S hir hS (fun j => if i + j ≤ to then sh P b F i * wo (b - i - j) else 0)
      rw [lsum_congr (g := fun x : Nat × Nat => x.2 * (if i + x.1 ≤ to then sh P b F i * wo (b - i - x.1) else 0)) (fun x _ => by
        by_cases h : i + x.1 ≤ to
        · rw [if_pos (by simpa using h), if_pos h]
          simp only [Nat.mul_assoc, Nat.mul_left_comm, Nat.mul_comm]
        · rw [if_neg (by simpa using h), if_neg h, Nat.mul_zero]), h2]
      refine sumN_congr fun j hj => ?_
      by_cases h : i + j ≤ to
      · have : pas2 pa fa to i j = true := by simp [pas2, hf, h]
        rw [this, if_pos rfl, if_pos h]
        unfold case2 left2
        rw [if_neg hp]
        simp only [Nat.mul_assoc, Nat.mul_left_comm, Nat.mul_comm]
      · have : pas2 pa fa to i j = false := by simp [pas2, hp, h]
        rw [this, if_neg h, Nat.mul_zero]
        rfl
  · rw [if_neg hf]
    rw [sumN_zero]
    intro j hj
    have : pas2 pa fa to i j = false := by simp [pas2, hf]
    rw [this]
    rfl
end Td
end Go.Proofs.Ytgkdidnmndmlhaa
