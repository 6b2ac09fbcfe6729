import Derived.Test.YthdcklonamgpiaaMathC
import Derived.Lib.SlicesCompact
/- The heights at which the least balance turns: sorted, without repetitions; what stands at all of them stands between them. -/
namespace Go.Proofs.Ythdcklonamgpiaa
namespace Td
set_option linter.unusedVariables false
/-- the heights, as they are gathered out of the first k parts. -/
def hts (l : List Prt) (lo hi : Int) (k : Nat) : List Int := [lo, hi] ++ ((l.take k).filter fun x => decide (lo < x.kl) && decide (x.kl < hi)).map Prt.kl
theorem hts_next {l : List Prt} {lo hi : Int} {k : Nat} (hk : k < l.length) : hts l lo hi (k + 1) = if lo < l[k].kl ∧ l[k].kl < hi then hts l lo hi k ++ [l[k].kl] else hts l lo hi k := by
  unfold hts
  rw [List.take_succ_eq_append_getElem hk, List.filter_append]
  by_cases h : lo < l[k].kl ∧ l[k].kl < hi
  · rw [if_pos h]; simp [h.1, h.2]
  · rw [if_neg h]
    have : (decide (lo < l[k].kl) && decide (l[k].kl < hi)) = false := by simp; omega
    simp [this]
theorem hts_len (l : List Prt) (lo hi : Int) (k : Nat) : (hts l lo hi k).length ≤ k + 2 := by
  have h1 := List.length_filter_le (fun x : Prt => decide (lo < x.kl) && decide (x.kl < hi)) (l.take k)
  have h2 : (l.take k).length ≤ k := by rw [List.length_take]; omega
  simp only [hts, List.length_append, List.length_map, List.length_cons, List.length_nil]
  omega
/-- the turning heights, as they are yielded. -/
def turnL (h : Hul) (lo hi : Int) : List Int := Lib.compact ((hts h.parts lo hi h.parts.length).mergeSort fun x y => decide (x ≤ y))
theorem compact_pairwise {zs : List Int} (h : zs.Pairwise (· ≤ ·)) : (Lib.compact zs).Pairwise (· ≤ ·) := by
  unfold Lib.compact Lib.compactUpTo
  rw [List.pairwise_map]
  refine List.Pairwise.imp_of_mem ?_ (List.Pairwise.filter _ List.pairwise_lt_range)
  intro a b ha hb hab
  have ha' : a < zs.length := by have := (List.mem_filter.1 ha).1; simpa using this
  have hb' : b < zs.length := by have := (List.mem_filter.1 hb).1; simpa using this
  have := List.pairwise_iff_getElem.1 h a b ha' hb' hab
  simpa [ha', hb'] using this
theorem compact_mem {zs : List Int} {x : Int} : x ∈ Lib.compact zs ↔ x ∈ zs := by
  constructor
  · intro h
    unfold Lib.compact Lib.compactUpTo at h
    obtain ⟨i, hi, rfl⟩ := List.mem_map.1 h
    have hi' : i < zs.length := by have := (List.mem_filter.1 hi).1; simpa using this
    simp [hi']
  · intro h
    obtain ⟨i, hi, rfl⟩ := List.mem_iff_getElem.1 h
    have key : ∀ n (hn : n < zs.length), zs[n] ∈ Lib.compact zs := by
      intro n
      induction n with
      | zero =>
        intro hn
        unfold Lib.compact Lib.compactUpTo
        refine List.mem_map.2 ⟨0, List.mem_filter.2 ⟨by simpa using hn, by simp [Lib.keeps]⟩, by simp [hn]⟩
      | succ n ih =>
        intro hn
        by_cases e : zs[n + 1] = zs[n]
        · rw [e]; exact ih (by omega)
        · unfold Lib.compact Lib.compactUpTo
          refine List.mem_map.2 ⟨n + 1, List.mem_filter.2 ⟨by simpa using hn, ?_⟩, by simp [hn]⟩
          simp [Lib.keeps, hn, show n < zs.length by omega, e]
    exact key i hi
/-- what is known of the turning heights. -/
structure Tn (h : Hul) (lo hi : Int) (ts : List Int) : Prop where
  so : ts.Pairwise (· ≤ ·)
  bd : ∀ x ∈ ts, lo ≤ x ∧ x ≤ hi
  lm : lo ∈ ts
  hm : hi ∈ ts
  ks : ∀ x ∈ h.parts, lo < x.kl → x.kl < hi → x.kl ∈ ts
theorem turnL_mem {h : Hul} {lo hi x : Int} : x ∈ turnL h lo hi ↔ x = lo ∨ x = hi ∨ ∃ p ∈ h.parts, lo < p.kl ∧ p.kl < hi ∧ p.kl = x := by
  unfold turnL
  rw [compact_mem, List.mem_mergeSort]
  unfold hts
  rw [List.take_length]
  simp only [List.mem_append, List.mem_cons, List.mem_map, List.mem_filter, Bool.and_eq_true, decide_eq_true_eq, List.not_mem_nil, or_false]
  constructor
  · rintro ((h1 | h1) | ⟨p, ⟨h1, h2, h3⟩, h4⟩)
    · exact .inl h1
    · exact .inr (.inl h1)
    · exact .inr (.inr ⟨p, h1, h2, h3, h4⟩)
  · rintro (h1 | h1 | ⟨p, h1, h2, h3, h4⟩)
    · exact .inl (.inl h1)
    · exact .inl (.inr h1)
    · exact .inr ⟨p, ⟨h1, h2, h3⟩, h4⟩
theorem turnL_tn {h : Hul} {lo hi : Int} (hlh : lo ≤ hi) : Tn h lo hi (turnL h lo hi) where
  so := by
    refine compact_pairwise ?_
    have := List.pairwise_mergeSort (le := fun x y : Int => decide (x ≤ y)) (fun a b c => by simp; omega) (fun a b => by simp; omega) (hts h.parts lo hi h.parts.length)
    exact this.imp (by simp)
  bd x hx := by
    rcases turnL_mem.1 hx with rfl | rfl | ⟨p, h1, h2, h3, h4⟩ <;> omega
  lm := turnL_mem.2 (.inl rfl)
  hm := turnL_mem.2 (.inr (.inl rfl))
  ks x hx h1 h2 := turnL_mem.2 (.inr (.inr ⟨x, hx, h1, h2, rfl⟩))
/-- the last of some heights, or the first one of the tide. -/
def lastT (lo : Int) (pre : List Int) : Int := pre.getLast?.getD lo
theorem lastT_app (lo : Int) (pre : List Int) (x : Int) : lastT lo (pre ++ [x]) = x := by simp [lastT]
/-- if a hull surely stands at the first of the turning heights, it does up to the last one of these. -/
theorem upto_last {h : Hul} {lo hi : Int} {ts : List Int} (T : Tn h lo hi ts) : ∀ n, n ≤ ts.length → (∀ x ∈ ts.take n, whyH h x = 0) → ∀ w, lo ≤ w → w ≤ lastT lo (ts.take n) → n ≠ 0 → whyH h w = 0 := by
  intro n
  induction n with
  | zero => intro _ _ _ _ _ h; exact absurd rfl h
  | succ n ih =>
    intro hn hs w h1 h2 _
    have hn' : n < ts.length := by omega
    have et : ts.take (n + 1) = ts.take n ++ [ts[n]] := List.take_succ_eq_append_getElem hn'
    rw [et] at hs h2
    rw [lastT_app] at h2
    have hx : whyH h ts[n] = 0 := hs _ (List.mem_append_right _ (List.mem_singleton.2 rfl))
    by_cases h0 : n = 0
    · subst h0
      have hl : ts[0] ≤ lo := by
        obtain ⟨i, hi', he⟩ := List.mem_iff_getElem.1 T.lm
        rcases Nat.eq_zero_or_pos i with e | e
        · subst e; omega
        · have := List.pairwise_iff_getElem.1 T.so 0 i hn' hi' e
          omega
      have : w = ts[0] := by have := (T.bd _ (List.getElem_mem hn')).1; omega
      rw [this]; exact hx
    · obtain ⟨m, rfl⟩ : ∃ m, n = m + 1 := ⟨n - 1, by omega⟩
      have et2 : ts.take (m + 1) = ts.take m ++ [ts[m]] := List.take_succ_eq_append_getElem (by omega)
      have hl2 : lastT lo (ts.take (m + 1)) = ts[m] := by rw [et2, lastT_app]
      by_cases hw : w ≤ ts[m]
      · exact ih (by omega) (fun x hx => hs x (List.mem_append_left _ hx)) w h1 (by rw [hl2]; exact hw) (by omega)
      · have hm0 : whyH h ts[m] = 0 := hs _ (List.mem_append_left _ (by rw [et2]; exact List.mem_append_right _ (List.mem_singleton.2 rfl)))
        refine stands_between (lo := ts[m]) (hi := ts[m + 1]) (List.pairwise_iff_getElem.1 T.so m (m + 1) (by omega) hn' (by omega)) (fun x hx => ?_) hm0 hx (by omega) h2
        by_cases h3 : x.kl ≤ ts[m]
        · exact .inl h3
        · right
          by_cases h4 : ts[m + 1] ≤ x.kl
          · exact h4
          · exfalso
            have b0 := (T.bd _ (List.getElem_mem (show m < ts.length by omega))).1
            have b1 := (T.bd _ (List.getElem_mem hn')).2
            obtain ⟨i, hi', he⟩ := List.mem_iff_getElem.1 (T.ks x hx (by omega) (by omega))
            rcases Nat.lt_or_ge i (m + 1) with h5 | h5
            · rcases Nat.eq_or_lt_of_le (show i ≤ m by omega) with h6 | h6
              · subst h6; omega
              · have := List.pairwise_iff_getElem.1 T.so i m hi' (by omega) h6
                omega
            · rcases Nat.eq_or_lt_of_le h5 with h6 | h6
              · subst h6; omega
              · have := List.pairwise_iff_getElem.1 T.so (m + 1) i hn' hi' h6
                omega
theorem tn_pos {h : Hul} {lo hi : Int} {ts : List Int} (T : Tn h lo hi ts) : 0 < ts.length := List.length_pos_of_mem T.lm
/-- if it surely stands at all turning heights, it does through the tide. -/
theorem thru_all {h : Hul} {lo hi : Int} {ts : List Int} (T : Tn h lo hi ts) (hs : ∀ x ∈ ts, whyH h x = 0) : ∀ w, lo ≤ w → w ≤ hi → whyH h w = 0 := by
  intro w h1 h2
  have hp := tn_pos T
  refine upto_last T ts.length (Nat.le_refl _) (by rw [List.take_length]; exact hs) w h1 ?_ (by omega)
  rw [List.take_length]
  unfold lastT
  rw [List.getLast?_eq_getElem?, List.getElem?_eq_getElem (by omega), Option.getD_some]
  obtain ⟨i, hi', he⟩ := List.mem_iff_getElem.1 T.hm
  rcases Nat.eq_or_lt_of_le (show i ≤ ts.length - 1 by omega) with h6 | h6
  · subst h6; omega
  · have := List.pairwise_iff_getElem.1 T.so i (ts.length - 1) hi' (by omega) h6
    omega
theorem thru_no {h : Hul} {lo hi : Int} {ts : List Int} (T : Tn h lo hi ts) {x : Int} (hx : x ∈ ts) (h0 : whyH h x ≠ 0) : thru h lo hi = false := by
  rw [Bool.eq_false_iff, Ne, thru_iff]
  intro hw
  exact h0 (hw x (T.bd x hx).1 (T.bd x hx).2)
end Td
end Go.Proofs.Ythdcklonamgpiaa
