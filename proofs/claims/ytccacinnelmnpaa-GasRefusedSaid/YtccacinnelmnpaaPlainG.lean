import Derived.Test.YtccacinnelmnpaaPlainF
/- The more a reading shows the shorter it holds. -/
namespace Go.Proofs.Ytccacinnelmnpaa
namespace Td
set_option linter.unusedVariables false
theorem lead_true {p : Nat → Bool} {n j : Nat} (h : j < lead p n) : p j = true := by
  unfold lead at h
  have hp := List.takeWhile_prefix (l := List.range n) p
  have hlen := hp.length_le
  have hj : j < (List.range n).length := by omega
  have h1 : ((List.range n).takeWhile p)[j]'h = (List.range n)[j]'hj := hp.getElem h
  have h2 : ((List.range n).takeWhile p)[j]'h ∈ (List.range n).takeWhile p := List.getElem_mem _
  have h3 := List.all_takeWhile (p := p) (l := List.range n)
  rw [List.all_eq_true] at h3
  have h4 := h3 _ h2
  rw [h1] at h4
  simpa using h4
theorem lead_ge {q : Nat → Bool} {n k : Nat} (hk : k ≤ n) (h : ∀ j, j < k → q j = true) : k ≤ lead q n := by
  unfold lead
  have hsp : List.range n = List.range k ++ List.range' k (n - k) := by
    have e : List.range n = List.range' 0 (k + (n - k)) := by rw [List.range_eq_range']; congr 1; omega
    rw [e, ← List.range'_append_1, ← List.range_eq_range', Nat.zero_add]
  rw [hsp, List.takeWhile_append_of_pos (by intro a ha; exact h a (List.mem_range.1 ha))]
  simp
theorem lead_mono {p q : Nat → Bool} {n : Nat} (h : ∀ j, p j = true → q j = true) : lead p n ≤ lead q n :=
  lead_ge (lead_le p n) fun j hj => h j (lead_true hj)
theorem untl_mono {s1 s2 : Spc} {l1 l2 : List Rd} {m : Int} {o1 o2 : Option (Int × Int)} (h0 : 0 ≤ m) (h : ∀ k, good s1 l1 m o1 k = true → good s2 l2 m o2 k = true) : untl s1 l1 m o1 ≤ untl s2 l2 m o2 := by
  have := lead_mono (n := (61 - m).toNat) h
  unfold untl
  simp only []
  split <;> split <;> omega
/-- the greatest level, minute by minute, where nothing is read. -/
def Tp (s : Spc) (m h : Int) : Nat → Int
  | 0 => h
  | k + 1 => hld (Tp s m h k + (chg s (m + k)).2)
theorem Tp_mono {s : Spc} {m a b : Int} (h : a ≤ b) (k : Nat) : Tp s m a k ≤ Tp s m b k := by
  induction k with
  | zero => exact h
  | succ k ih => exact hld_mono (by omega)
theorem lv_free {s : Spc} {l : List Rd} {m : Int} {x : Int × Int} (hs : SOk s) (hx : x.1 ≤ x.2) (h0 : agr s (atM l m) (some x) = some x) (hl : ∀ k : Nat, atM l (m + ((k + 1 : Nat) : Int)) = []) (k : Nat) :
    ∃ y, lv s l m (some x) k = some y ∧ y.2 = Tp s m x.2 k ∧ y.1 ≤ y.2 := by
  induction k with
  | zero => exact ⟨x, h0, rfl, hx⟩
  | succ k ih =>
    obtain ⟨y, h1, h2, h3⟩ := ih
    have hc := chg_ok hs (m + k)
    have h4 : hld (y.1 + (chg s (m + k)).1) ≤ hld (y.2 + (chg s (m + k)).2) := hld_mono (by omega)
    refine ⟨(hld (y.1 + (chg s (m + k)).1), hld (y.2 + (chg s (m + k)).2)), ?_, ?_, h4⟩
    · rw [lv, hl k, agr_nil, h1]
      show aft y (chg s (m + k)) = _
      unfold aft btw
      rw [if_neg (by omega)]
    · show hld (y.2 + _) = hld (_ + _)
      rw [h2]
theorem good_free {s : Spc} {l : List Rd} {m : Int} {x : Int × Int} (hs : SOk s) (hx : x.1 ≤ x.2) (h0 : agr s (atM l m) (some x) = some x) (hl : ∀ k : Nat, atM l (m + ((k + 1 : Nat) : Int)) = []) (k : Nat) :
    good s l m (some x) k = decide (Tp s m x.2 k ≤ s.lim) := by
  obtain ⟨y, h1, h2, _⟩ := lv_free hs hx h0 hl k
  simp [good, h1, h2]
theorem hol_eq {s : Spc} {r : Rd} (h : 0 ≤ r.shown + errOf s r) : hol s r = untl s [] r.min (some (hld (r.shown + errOf s r), hld (r.shown + errOf s r))) := by
  unfold hol
  rw [if_neg (by omega)]
  simp [btw]
theorem good_hol {s : Spc} (hs : SOk s) (m L : Int) (k : Nat) : good s [] m (some (L, L)) k = decide (Tp s m L k ≤ s.lim) := good_free hs (Int.le_refl _) rfl (fun _ => rfl) k
/-- what shows more holds no longer. -/
theorem hol_less {s : Spc} {r r' : Rd} (hs : SOk s) (h0 : 0 ≤ r.shown) (hm : r'.min = r.min) (ht : r'.tool = r.tool) (h : r.shown ≤ r'.shown) (m0 : 0 ≤ r.min) : hol s r' ≤ hol s r := by
  have he := errOf_ok hs r
  have he2 : errOf s r' = errOf s r := by unfold errOf; rw [ht]
  rw [hol_eq (r := r) (by omega), hol_eq (r := r') (by omega), he2, hm]
  refine untl_mono m0 fun k hk => ?_
  rw [good_hol hs] at hk ⊢
  have := Tp_mono (s := s) (m := r.min) (hld_mono (show r.shown + errOf s r ≤ r'.shown + errOf s r by omega)) k
  simp only [decide_eq_true_eq] at hk ⊢
  omega
/-- a torch may burn at least as long as the only reading holds. -/
theorem hol_until {s : Spc} {r : Rd} (hs : SOk s) (hr : ROk s r) (h0 : 0 ≤ r.shown) {x : Int × Int} (hx : now s [r] r.min = some x) : hol s r ≤ untl s (kno [r] r.min) r.min (some x) := by
  have hk : kno [r] r.min = [r] := by simp [kno]
  have he := errOf_ok hs r
  have hm0 := hr.m0
  unfold now at hx
  rw [hk] at hx ⊢
  have hvx := vd_lv (vd_start hs) _ x hx
  have ha : atM [r] r.min = [r] := by simp [atM]
  have hnear : ∀ n, mem (some x) n → near s r n := fun n hn => by
    rw [← hx, lv_eq, mem_agr] at hn
    refine hn.2 r ?_
    rw [show (0 : Int) + (r.min.toNat : Int) = r.min by omega, ha]
    simp
  have h1 := hnear x.1 ((mem_some _ _).2 ⟨by omega, by omega⟩)
  have h2 := hnear x.2 ((mem_some _ _).2 ⟨by omega, by omega⟩)
  have hag : agr s (atM [r] r.min) (some x) = some x := by
    refine up_ext (up_agr (fun y hy => by cases hy; exact hvx.2.1)) (fun y hy => by cases hy; exact hvx.2.1) fun n => ?_
    rw [mem_agr, ha]
    exact ⟨fun h => h.1, fun h => ⟨h, fun q hq => by
      rw [List.mem_singleton] at hq
      subst hq
      exact hnear n h⟩⟩
  have hl : ∀ k : Nat, atM [r] (r.min + ((k + 1 : Nat) : Int)) = [] := fun k => by
    unfold atM
    rw [List.filter_cons_of_neg (by simp; omega)]
    rfl
  rw [hol_eq (by omega)]
  refine untl_mono hm0 fun k hk => ?_
  rw [good_hol hs] at hk
  rw [good_free hs hvx.2.1 hag hl]
  have hL : x.2 ≤ hld (r.shown + errOf s r) := by
    have := h2.2
    have h3 := hvx.2.2
    have h4 := hvx.1
    have h5 := hvx.2.1
    unfold hld
    omega
  have := Tp_mono (s := s) (m := r.min) hL k
  simp only [decide_eq_true_eq] at hk ⊢
  omega
end Td
end Go.Proofs.Ytccacinnelmnpaa
