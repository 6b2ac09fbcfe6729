import Derived.Test.YtccacinnelmnpaaPlainB
/- Until when a reading holds; the fewest readings: facts. -/
namespace Go.Proofs.Ytccacinnelmnpaa
namespace Td
set_option linter.unusedVariables false
theorem lead_le (p : Nat → Bool) (n : Nat) : lead p n ≤ n := by
  unfold lead
  have := (List.takeWhile_sublist (l := List.range n) p).length_le
  simpa using this
theorem lead_pos {p : Nat → Bool} {n : Nat} (hn : 1 ≤ n) : 1 ≤ lead p n ↔ p 0 = true := by
  obtain ⟨k, rfl⟩ : ∃ k, n = k + 1 := ⟨n - 1, by omega⟩
  unfold lead
  rw [List.range_succ_eq_map]
  cases h : p 0 <;> simp [h]
theorem atM_nil (m : Int) : atM [] m = [] := rfl
theorem agr_nil (s : Spc) (o : Option (Int × Int)) : agr s [] o = o := rfl
theorem good_zero (s : Spc) (m : Int) (L : Int) : good s [] m (btw L L) 0 = decide (L ≤ s.lim) := by
  simp [good, lv, atM_nil, agr_nil, btw]
theorem untl_ge {s : Spc} {l : List Rd} {m : Int} {o : Option (Int × Int)} (h0 : 0 ≤ m) (h1 : m ≤ 60) : (m ≤ untl s l m o ↔ good s l m o 0 = true) ∧ untl s l m o ≤ 60 ∧ -1 ≤ untl s l m o ∧ (untl s l m o < m → untl s l m o = -1) := by
  have hp := lead_pos (p := good s l m o) (n := (61 - m).toNat) (by omega)
  have hl := lead_le (good s l m o) (61 - m).toNat
  unfold untl
  simp only []
  split
  · rename_i h
    refine ⟨⟨fun h' => by omega, fun h' => ?_⟩, by omega, by omega, fun _ => rfl⟩
    have := hp.2 h'
    omega
  · rename_i h
    exact ⟨⟨fun _ => hp.1 (by omega), fun _ => by omega⟩, by omega, by omega, fun h' => by omega⟩
theorem hol_in {s : Spc} {r : Rd} (h0 : 0 ≤ r.min) (h1 : r.min ≤ 60) : -1 ≤ hol s r ∧ hol s r ≤ 60 ∧ (hol s r < r.min → hol s r = -1) := by
  unfold hol
  split
  · exact ⟨by omega, by omega, fun _ => rfl⟩
  · obtain ⟨_, h2, h3, h4⟩ := untl_ge (s := s) (l := []) (o := btw (hld (r.shown + errOf s r)) (hld (r.shown + errOf s r))) h0 h1
    exact ⟨h3, h2, h4⟩
theorem hol_own {s : Spc} {r : Rd} (h0 : 0 ≤ r.min) (h1 : r.min ≤ 60) (h : r.min ≤ hol s r) {m : Int} (m0 : 0 ≤ m) (m1 : m ≤ 60) : m ≤ hol s { r with min := m } := by
  unfold hol at h ⊢
  have he : errOf s { r with min := m } = errOf s r := rfl
  rw [he]
  split at h
  · omega
  · rename_i hn
    rw [if_neg hn]
    have h2 := (untl_ge (s := s) (l := []) (o := btw (hld (r.shown + errOf s r)) (hld (r.shown + errOf s r))) h0 h1).1.1 h
    rw [good_zero] at h2
    refine (untl_ge m0 m1).1.2 ?_
    rw [good_zero]
    exact h2
theorem tab_low {U : Int → Int} {fr to : Nat} {d m : Nat} (h : m + d ≤ to) : tab U fr to d m = [] := by
  induction d with
  | zero => rfl
  | succ d ih =>
    rw [tab, if_neg (by omega)]
    exact ih (by omega)
theorem tab_other {U : Int → Int} {fr to : Nat} {d m : Nat} (h : m ≠ to - d) : tab U fr to (d + 1) m = tab U fr to d m := by rw [tab, if_neg h]
theorem tab_skip {U : Int → Int} {fr to d e m : Nat} (h : m = to - d) (he : e < m) (hf : fr ≤ e) (hU : U m ≤ U e) : tab U fr to (d + 1) m = [] := by
  rw [tab, if_pos h, if_pos]
  rw [List.any_eq_true]
  exact ⟨e, List.mem_range.2 he, by simp [hf, hU]⟩
theorem tab_take {U : Int → Int} {fr to d m : Nat} (h : m = to - d) (hn : ∀ e, e < m → fr ≤ e → U e < U m) : tab U fr to (d + 1) m = (m : Int) :: (if U m < to then shortest ((List.range ((U m).toNat + 1 - m)).map fun i => tab U fr to d (m + 1 + i)) else []) := by
  rw [tab, if_pos h, if_neg]
  rw [List.any_eq_true]
  rintro ⟨e, he, h2⟩
  simp at h2
  have := hn e (List.mem_range.1 he) h2.1
  omega
theorem shortest_len {l : List (List Int)} {n : Nat} (h : ∀ x ∈ l, x.length ≤ n) : (shortest l).length ≤ n := by
  unfold shortest
  suffices ∀ (b : List Int), b.length ≤ n → (l.foldl shorter b).length ≤ n from this [] (by simp)
  induction l with
  | nil => intro b hb; exact hb
  | cons a l ih =>
    intro b hb
    rw [List.foldl_cons]
    refine ih (fun x hx => h x (by simp [hx])) _ ?_
    unfold shorter
    split
    · exact h a (by simp)
    · exact hb
theorem tab_len {U : Int → Int} {fr to d m : Nat} : (tab U fr to d m).length ≤ d := by
  induction d generalizing m with
  | zero => simp [tab]
  | succ d ih =>
    rw [tab]
    split
    · split
      · simp
      · split
        · simp only [List.length_cons, Nat.succ_le_succ_iff]
          refine shortest_len fun x hx => ?_
          obtain ⟨i, _, rfl⟩ := List.mem_map.1 hx
          exact ih
        · simp
    · exact Nat.le_succ_of_le ih
end Td
end Go.Proofs.Ytccacinnelmnpaa
