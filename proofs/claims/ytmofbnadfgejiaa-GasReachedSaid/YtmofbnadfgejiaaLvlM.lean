import Derived.Test.YtmofbnadfgejiaaMath
/- Levels as a row of Booleans: which there are at the start, and a minute later. -/
namespace Go.Proofs.Ytmofbnadfgejiaa
namespace Td
set_option linter.unusedVariables false
def inB (o : Option (Int × Int)) (n : Int) : Bool := match o with | some x => wi x.1 x.2 n | none => false
theorem inB_iff {o : Option (Int × Int)} {n : Int} : inB o n = true ↔ mem o n := by
  cases o with
  | none => simp [inB, mem_none]
  | some x => rw [mem_some]; exact wi_iff
/-- a level agrees with all readings of a minute. -/
def agB (s : Spc) (l : List Rd) (mi n : Int) : Bool := l.all fun r => !decide (r.min = mi) || wi (n - errOf s r) (n + errOf s r) r.shown
theorem agB_iff {s : Spc} {l : List Rd} {mi n : Int} : agB s l mi n = true ↔ ∀ r ∈ atM l mi, near s r n := by
  unfold agB
  rw [List.all_eq_true]
  constructor
  · intro h r hr
    obtain ⟨h1, h2⟩ := mem_atM.1 hr
    have := h r h1
    simp only [h2, decide_true, Bool.not_true, Bool.false_or, wi_iff] at this
    unfold near; omega
  · intro h r hr
    by_cases hm : r.min = mi
    · have := h r (mem_atM.2 ⟨hr, hm⟩)
      unfold near at this
      simp only [hm, decide_true, Bool.not_true, Bool.false_or, wi_iff]
      omega
    · simp [hm]
theorem agB_bad {s : Spc} {l : List Rd} {mi n : Int} {k : Nat} (hk : k < l.length) (h1 : l[k].min = mi) (h2 : wi (n - errOf s l[k]) (n + errOf s l[k]) l[k].shown = false) : agB s l mi n = false := by
  unfold agB
  rw [List.all_eq_false]
  exact ⟨l[k], List.getElem_mem hk, by simp [h1, h2]⟩
theorem agB_good {s : Spc} {l : List Rd} {mi n : Int} (h : ∀ k (hk : k < l.length), l[k].min = mi → wi (n - errOf s l[k]) (n + errOf s l[k]) l[k].shown = true) : agB s l mi n = true := by
  unfold agB
  rw [List.all_eq_true]
  intro r hr
  obtain ⟨k, hk, rfl⟩ := List.mem_iff_getElem.1 hr
  by_cases hm : l[k].min = mi
  · simp [hm, h k hk hm]
  · simp [hm]
theorem agr_row (s : Spc) (l : List Rd) (mi : Int) (o : Option (Int × Int)) (n : Int) : (inB o n && agB s l mi n) = inB (agr s (atM l mi) o) n := by
  rw [Bool.eq_iff_iff, Bool.and_eq_true, inB_iff, agB_iff, inB_iff, mem_agr]
theorem btw_row (a b n : Int) : (decide (a ≤ n) && decide (n ≤ b)) = inB (btw a b) n := by
  rw [Bool.eq_iff_iff, inB_iff, mem_btw]; simp
/-- what the first d changes make of a level. -/
def inn (n lo : Int) (d : Nat) (i : Int) : Bool := (List.range d).any fun e => decide (hld (n + (lo + (e : Int))) = i)
theorem inn_zero (n lo i : Int) : inn n lo 0 i = false := rfl
theorem inn_succ (n lo : Int) (d : Nat) (i : Int) : inn n lo (d + 1) i = (inn n lo d i || decide (hld (n + (lo + (d : Int))) = i)) := by
  unfold inn
  rw [List.range_succ, List.any_append]
  simp
/-- what the first n levels lead to. -/
def rch (o : Option (Int × Int)) (lo : Int) (d : Nat) (n : Nat) (i : Int) : Bool := (List.range n).any fun k => inB o (k : Int) && inn (k : Int) lo d i
theorem rch_zero (o : Option (Int × Int)) (lo : Int) (d : Nat) (i : Int) : rch o lo d 0 i = false := rfl
theorem rch_succ (o : Option (Int × Int)) (lo : Int) (d : Nat) (n : Nat) (i : Int) : rch o lo d (n + 1) i = (rch o lo d n i || (inB o (n : Int) && inn (n : Int) lo d i)) := by
  unfold rch
  rw [List.range_succ, List.any_append]
  simp
theorem rch_row {o : Option (Int × Int)} (ho : Vd o) {lo hi : Int} (hc : lo ≤ hi) (i : Int) : rch o lo (hi - lo + 1).toNat 201 i = inB (o.bind fun x => aft x (lo, hi)) i := by
  rw [Bool.eq_iff_iff, inB_iff]
  unfold rch inn
  simp only [List.any_eq_true, Bool.and_eq_true, decide_eq_true_eq, List.mem_range, inB_iff]
  cases o with
  | none => simp [mem_none]
  | some x =>
    have hx := ho x rfl
    simp only [Option.bind_some]
    rw [mem_aft hx.2.1 hc]
    constructor
    · rintro ⟨k, hk, hm, d, hd, rfl⟩
      rw [mem_some] at hm
      exact ⟨k, lo + d, hm.1, hm.2, by omega, by simp only []; omega, rfl⟩
    · rintro ⟨k, b, h1, h2, h3, h4, rfl⟩
      simp only [] at h3 h4
      refine ⟨k.toNat, by omega, (mem_some _ _).2 (by omega), (b - lo).toNat, by omega, ?_⟩
      congr 1
      omega
theorem lv_cut {s : Spc} {l l' : List Rd} {m : Int} {o : Option (Int × Int)} {k : Nat} (h : ∀ j : Nat, j ≤ k → atM l (m + (j : Int)) = atM l' (m + (j : Int))) : lv s l m o k = lv s l' m o k := by
  induction k with
  | zero =>
    have := h 0 (Nat.le_refl _)
    rw [Int.natCast_zero, Int.add_zero] at this
    rw [lv, lv, this]
  | succ k ih => rw [lv, lv, ih (fun j hj => h j (by omega)), h (k + 1) (Nat.le_refl _)]
theorem atM_kno_le {l : List Rd} {m n : Int} (h : m ≤ n) : atM (kno l n) m = atM l m := by
  unfold atM kno
  rw [List.filter_filter]
  refine List.filter_congr fun r hr => ?_
  by_cases h1 : r.min = m
  · simp [h1, h]
  · simp [h1]
theorem lv_now (s : Spc) (l : List Rd) (mi : Nat) : lv s l 0 (btw s.s0 s.s1) mi = now s l (mi : Int) := by
  unfold now
  rw [Int.toNat_natCast]
  exact lv_cut fun j hj => (atM_kno_le (by omega)).symm
/-- a row of Booleans. -/
def rowB (f : Nat → Bool) (n : Nat) : List Bool := (List.range n).map f
/-- until when it is good, where nothing is read behind. -/
theorem untl_free {s : Spc} (hs : SOk s) {l : List Rd} {mi : Nat} {x : Int × Int} (hx : now s l mi = some x) : untl s (kno l mi) mi (some x) = untl s [] mi (some x) := by
  have h : good s (kno l mi) mi (some x) = good s [] mi (some x) := by
    funext k
    rw [good_now hs hx, good_free hs (now_vd hs x hx).2.1 rfl (fun _ => rfl)]
  unfold untl
  rw [h]
theorem lead_at {p : Nat → Bool} {n k : Nat} (hk : k < n) (h0 : ∀ j, j < k → p j = true) (h : p k = false) : lead p n = k := by
  have h1 := lead_ge (Nat.le_of_lt hk) h0
  rcases Nat.lt_or_ge k (lead p n) with h2 | h2
  · have := lead_true h2
    rw [h] at this
    cases this
  · omega
theorem lead_all {p : Nat → Bool} {n : Nat} (h0 : ∀ j, j < n → p j = true) : lead p n = n := Nat.le_antisymm (lead_le p n) (lead_ge (Nat.le_refl n) h0)
end Td
end Go.Proofs.Ytmofbnadfgejiaa
