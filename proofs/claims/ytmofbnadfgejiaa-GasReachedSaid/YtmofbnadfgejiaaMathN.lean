import Derived.Test.YtmofbnadfgejiaaMath

namespace Go.Proofs.Ytmofbnadfgejiaa
namespace Td
set_option linter.unusedVariables false

/-! ### the reference's way to the same lists -/
theorem first_of {p : Nat → Prop} : ∀ {t : Nat}, p t → ∃ m, m ≤ t ∧ p m ∧ ∀ e, e < m → ¬ p e := by
  intro t
  induction t using Nat.strongRecOn with
  | ind t ih =>
    intro h
    by_cases hx : ∃ e, e < t ∧ p e
    · obtain ⟨e, he, hp⟩ := hx
      obtain ⟨m, h1, h2, h3⟩ := ih e he hp
      exact ⟨m, by omega, h2, h3⟩
    · exact ⟨t, Nat.le_refl _, h, fun e he hp => hx ⟨e, he, hp⟩⟩
/-- the first of the shortest, by its place. -/
theorem shortest_range {f : Nat → List Int} {k j : Nat} (hj : j < k) (h0 : f j ≠ []) (h1 : ∀ i, i < j → f i = [] ∨ (f j).length < (f i).length) (h2 : ∀ i, j < i → i < k → f i = [] ∨ (f j).length ≤ (f i).length) : shortest ((List.range k).map f) = f j := by
  have hl0 : 0 < (f j).length := List.length_pos_iff.2 h0
  have step : ∀ n, shortest ((List.range (n + 1)).map f) = shorter (shortest ((List.range n).map f)) (f n) := fun n => by
    unfold shortest
    rw [List.range_succ, List.map_append, List.foldl_append]
    rfl
  have a1 : ∀ n, n ≤ j → (shortest ((List.range n).map f)).length = 0 ∨ (f j).length < (shortest ((List.range n).map f)).length := by
    intro n
    induction n with
    | zero => intro _; exact .inl rfl
    | succ n ih =>
      intro hn
      rw [step]
      unfold shorter
      split
      · rcases h1 n (by omega) with e | e
        · exact .inl (by rw [e]; rfl)
        · exact .inr e
      · exact ih (by omega)
  have a2 : shortest ((List.range (j + 1)).map f) = f j := by
    rw [step]
    unfold shorter
    rw [if_pos]
    rcases a1 j (Nat.le_refl _) with e | e
    · exact .inl e
    · exact .inr ⟨hl0, e⟩
  have a3 : ∀ n, j + 1 ≤ n → n ≤ k → shortest ((List.range n).map f) = f j := by
    intro n
    induction n with
    | zero => intro h; omega
    | succ n ih =>
      intro hn hk
      rcases Nat.lt_or_ge j n with h | h
      · rw [step, ih (by omega) (by omega)]
        unfold shorter
        rw [if_neg]
        rintro (e | ⟨e1, e2⟩)
        · omega
        · rcases h2 n h (by omega) with q | q
          · rw [q] at e1; simp at e1
          · omega
      · obtain rfl : n = j := by omega
        exact a2
  exact a3 k (by omega) (Nat.le_refl _)
/-- how few readings are enough from a minute on: minute by minute, from the last one on. -/
def ndM (V : Nat → Nat) (th : Nat → Nat) (fr a : Nat) : Nat → Nat
  | 0 => 62
  | k + 1 => if a ≤ V (fr + k) then min (ndM V th fr a k) (th (fr + k)) else ndM V th fr a k
def thF (V : Nat → Nat) (to : Nat) (g : Nat → Nat) (t : Nat) : Nat := if V t < to then 1 + g (V t + 1) else 1
def nd (V : Nat → Nat) (fr to : Nat) : Nat → Nat → Nat
  | 0, _ => 0
  | d + 1, a => if a = to - d then ndM V (thF V to (nd V fr to d)) fr a (a + 1 - fr) else nd V fr to d a
theorem nd_other {V : Nat → Nat} {fr to d a : Nat} (h : a ≠ to - d) : nd V fr to (d + 1) a = nd V fr to d a := by rw [nd, if_neg h]
theorem nd_at {V : Nat → Nat} {fr to d a : Nat} (h : a = to - d) : nd V fr to (d + 1) a = ndM V (thF V to (nd V fr to d)) fr a (a + 1 - fr) := by rw [nd, if_pos h]
theorem ndM_congr {V th th' : Nat → Nat} {fr a : Nat} : ∀ {k : Nat}, (∀ j, j < k → a ≤ V (fr + j) → th (fr + j) = th' (fr + j)) → ndM V th fr a k = ndM V th' fr a k
  | 0, _ => rfl
  | k + 1, h => by
    rw [ndM, ndM, ndM_congr fun j hj => h j (by omega)]
    by_cases e : a ≤ V (fr + k)
    · rw [if_pos e, if_pos e, h k (by omega) e]
    · rw [if_neg e, if_neg e]
theorem ndM_le {V th : Nat → Nat} {fr a : Nat} : ∀ {k j : Nat}, j < k → a ≤ V (fr + j) → ndM V th fr a k ≤ th (fr + j)
  | k + 1, j, h, ha => by
    rw [ndM]
    by_cases e : j = k
    · subst e
      rw [if_pos ha]; omega
    · have := ndM_le (V := V) (th := th) (fr := fr) (a := a) (k := k) (j := j) (by omega) ha
      split <;> omega
theorem ndM_ex {V th : Nat → Nat} {fr a : Nat} : ∀ {k : Nat}, ndM V th fr a k = 62 ∨ ∃ j, j < k ∧ a ≤ V (fr + j) ∧ ndM V th fr a k = th (fr + j)
  | 0 => .inl rfl
  | k + 1 => by
    rw [ndM]
    by_cases e : a ≤ V (fr + k)
    · rw [if_pos e]
      rcases Nat.le_total (ndM V th fr a k) (th (fr + k)) with q | q
      · rw [Nat.min_eq_left q]
        rcases ndM_ex (V := V) (th := th) (fr := fr) (a := a) (k := k) with q2 | ⟨j, h1, h2, h3⟩
        · exact .inl q2
        · exact .inr ⟨j, by omega, h2, h3⟩
      · rw [Nat.min_eq_right q]
        exact .inr ⟨k, by omega, e, rfl⟩
    · rw [if_neg e]
      rcases ndM_ex (V := V) (th := th) (fr := fr) (a := a) (k := k) with q2 | ⟨j, h1, h2, h3⟩
      · exact .inl q2
      · exact .inr ⟨j, by omega, h2, h3⟩
section
variable {V : Nat → Nat} {fr to : Nat}
/-- the whole row. -/
def ndA (V : Nat → Nat) (fr to : Nat) : Nat → Nat := nd V fr to (to + 1)
theorem nd_stable {d a : Nat} (h : to + 1 ≤ d + a) (ha : a ≤ to) (hd : d ≤ to + 1) : nd V fr to d a = ndA V fr to a := by
  have : ∀ k, d + k ≤ to + 1 → nd V fr to (d + k) a = nd V fr to d a := by
    intro k
    induction k with
    | zero => intro _; rfl
    | succ k ih => intro hk; rw [show d + (k + 1) = (d + k) + 1 by omega, nd_other (by omega), ih (by omega)]
  have := this (to + 1 - d) (by omega)
  rw [show d + (to + 1 - d) = to + 1 by omega] at this
  exact this.symm
theorem nd_zero {d a : Nat} (h : to < a) : nd V fr to d a = 0 := by
  induction d with
  | zero => rfl
  | succ d ih => rw [nd_other (by omega), ih]
/-- what a reading at t needs, with those behind it. -/
def th (V : Nat → Nat) (fr to t : Nat) : Nat := thF V to (ndA V fr to) t
theorem ndA_is {a : Nat} (hV : ∀ m, m ≤ to → m ≤ V m) (ha : a ≤ to) : ndA V fr to a = ndM V (th V fr to) fr a (a + 1 - fr) := by
  have h1 : ndA V fr to a = nd V fr to (to - a + 1) a := (nd_stable (by omega) ha (by omega)).symm
  rw [h1, nd_at (by omega)]
  refine ndM_congr fun j hj hv => ?_
  unfold th thF
  by_cases e : V (fr + j) < to
  · rw [if_pos e, if_pos e, nd_stable (by omega) (by omega) (by omega)]
  · rw [if_neg e, if_neg e]
theorem ndA_le (hV : ∀ m, m ≤ to → m ≤ V m) {a m : Nat} (ha : a ≤ to) (h1 : fr ≤ m) (h2 : m ≤ a) (h3 : a ≤ V m) : ndA V fr to a ≤ th V fr to m := by
  rw [ndA_is hV ha]
  have := ndM_le (V := V) (th := th V fr to) (fr := fr) (a := a) (k := a + 1 - fr) (j := m - fr) (by omega) (by rw [show fr + (m - fr) = m by omega]; exact h3)
  rwa [show fr + (m - fr) = m by omega] at this
theorem ndA_bound (hV : ∀ m, m ≤ to → m ≤ V m) : ∀ {k a : Nat}, a + k = to + 1 → fr ≤ a → a ≤ to → ndA V fr to a ≤ k := by
  intro k
  induction k using Nat.strongRecOn with
  | ind k ih =>
    intro a hk hf ha
    have h := ndA_le (fr := fr) hV ha hf (Nat.le_refl a) (hV a ha)
    refine Nat.le_trans h ?_
    unfold th thF
    have hva := hV a ha
    by_cases e : V a < to
    · rw [if_pos e]
      have := @ih (to + 1 - (V a + 1)) (by omega) (V a + 1) (by omega) (by omega) (by omega)
      omega
    · rw [if_neg e]; omega
theorem ndA_ex (hV : ∀ m, m ≤ to → m ≤ V m) (h60 : to ≤ 60) {a : Nat} (ha : a ≤ to) (hf : fr ≤ a) : ∃ m, fr ≤ m ∧ m ≤ a ∧ a ≤ V m ∧ ndA V fr to a = th V fr to m := by
  have hb := ndA_bound (fr := fr) hV (k := to + 1 - a) (a := a) (by omega) hf ha
  rw [ndA_is hV ha] at hb ⊢
  rcases ndM_ex (V := V) (th := th V fr to) (fr := fr) (a := a) (k := a + 1 - fr) with q | ⟨j, h1, h2, h3⟩
  · omega
  · exact ⟨fr + j, by omega, by omega, h2, h3⟩
theorem ndA_mono (hV : ∀ m, m ≤ to → m ≤ V m) (h60 : to ≤ 60) {a b : Nat} (hf : fr ≤ a) (hab : a ≤ b) (hb : b ≤ to) : ndA V fr to b ≤ ndA V fr to a := by
  induction b with
  | zero => obtain rfl : a = 0 := by omega
            exact Nat.le_refl _
  | succ b ih =>
    rcases Nat.lt_or_ge b a with h | h
    · obtain rfl : a = b + 1 := by omega
      exact Nat.le_refl _
    · refine Nat.le_trans ?_ (ih h (by omega))
      obtain ⟨m, h1, h2, h3, h4⟩ := ndA_ex (fr := fr) hV h60 (a := b) (by omega) (by omega)
      rw [h4]
      by_cases e : b + 1 ≤ V m
      · exact ndA_le hV hb h1 (by omega) e
      · obtain hvm : V m = b := by omega
        unfold th thF
        rw [if_pos (by omega), hvm]
        omega
theorem th_mono (hV : ∀ m, m ≤ to → m ≤ V m) (h60 : to ≤ 60) {e t : Nat} (hf : fr ≤ V t + 1) (h : V t ≤ V e) : th V fr to e ≤ th V fr to t := by
  unfold th thF
  by_cases h1 : V e < to
  · rw [if_pos h1, if_pos (by omega)]
    have := ndA_mono (fr := fr) hV h60 (a := V t + 1) (b := V e + 1) hf (by omega) (by omega)
    omega
  · rw [if_neg h1]
    split <;> omega
/-- the reading that the reference takes. -/
def pickF (V : Nat → Nat) (th : Nat → Nat) (at_ early : Nat) : Nat → Nat × Int
  | 0 => (62, -1)
  | k + 1 => if at_ ≤ V (early + k) ∧ th (early + k) < (pickF V th at_ early k).1 then (th (early + k), ((early + k : Nat) : Int)) else pickF V th at_ early k
theorem pickF_is {th : Nat → Nat} {at_ early k j : Nat} (hj : j < k) (ha : at_ ≤ V (early + j)) (hb : th (early + j) < 62) (h1 : ∀ i, i < j → at_ ≤ V (early + i) → th (early + j) < th (early + i)) (h2 : ∀ i, j < i → i < k → at_ ≤ V (early + i) → th (early + j) ≤ th (early + i)) :
    pickF V th at_ early k = (th (early + j), ((early + j : Nat) : Int)) := by
  have a1 : ∀ n, n ≤ j → th (early + j) < (pickF V th at_ early n).1 := by
    intro n
    induction n with
    | zero => intro _; exact hb
    | succ n ih =>
      intro hn
      rw [pickF]
      split
      · rename_i h; exact h1 n (by omega) h.1
      · exact ih (by omega)
  have a3 : ∀ n, j + 1 ≤ n → n ≤ k → pickF V th at_ early n = (th (early + j), ((early + j : Nat) : Int)) := by
    intro n
    induction n with
    | zero => intro h; omega
    | succ n ih =>
      intro hn hk
      rcases Nat.lt_or_ge j n with h | h
      · rw [pickF, ih (by omega) (by omega), if_neg]
        rintro ⟨q1, q2⟩
        have := h2 n h (by omega) q1
        have q2' : th (early + n) < th (early + j) := q2
        omega
      · obtain rfl : n = j := by omega
        rw [pickF, if_pos ⟨ha, a1 n (Nat.le_refl _)⟩]
  exact a3 k (by omega) (Nat.le_refl _)
/-- all readings that it takes. -/
def outL (V : Nat → Nat) (fr to : Nat) : Nat → Nat → Nat → List Int
  | 0, _, _ => []
  | f + 1, at_, early => if at_ ≤ to then (pickF V (th V fr to) at_ early (at_ + 1 - early)).2 :: outL V fr to f (V (pickF V (th V fr to) at_ early (at_ + 1 - early)).2.toNat + 1) ((pickF V (th V fr to) at_ early (at_ + 1 - early)).2.toNat + 1) else []
theorem outL_no {f at_ early : Nat} (h : to < at_) : outL V fr to f at_ early = [] := by
  cases f with
  | zero => rfl
  | succ f => rw [outL, if_neg (by omega)]
/-- the list from a minute on. -/
def TT (U : Int → Int) (fr to m : Nat) : List Int := tab U fr to (to + 1 - m) m
theorem tab_stable {U : Int → Int} {d m : Nat} (h : to + 1 ≤ d + m) (hm : m ≤ to) (hd : d ≤ to + 1) : tab U fr to d m = TT U fr to m := by
  have : ∀ k, to + 1 - m + k ≤ to + 1 → tab U fr to (to + 1 - m + k) m = tab U fr to (to + 1 - m) m := by
    intro k
    induction k with
    | zero => intro _; rfl
    | succ k ih => intro hk; rw [show to + 1 - m + (k + 1) = (to + 1 - m + k) + 1 by omega, tab_other (by omega), ih (by omega)]
  have := this (d - (to + 1 - m)) (by omega)
  rw [show to + 1 - m + (d - (to + 1 - m)) = d by omega] at this
  exact this
theorem TT_skip {U : Int → Int} {e m : Nat} (hm : m ≤ to) (he : e < m) (hf : fr ≤ e) (hU : U m ≤ U e) : TT U fr to m = [] := by
  unfold TT
  rw [show to + 1 - m = (to - m) + 1 by omega]
  exact tab_skip (by omega) he hf hU
theorem TT_take {U : Int → Int} {m : Nat} (hm : m ≤ to) (hV : U m = (V m : Int)) (hn : ∀ e, e < m → fr ≤ e → U e < U m) : TT U fr to m = (m : Int) :: (if V m < to then shortest ((List.range (V m + 1 - m)).map fun i => TT U fr to (m + 1 + i)) else []) := by
  unfold TT
  rw [show to + 1 - m = (to - m) + 1 by omega, tab_take (by omega) hn, hV, Int.toNat_natCast]
  by_cases h : V m < to
  · rw [if_pos h, if_pos (by omega)]
    congr 2
    refine List.map_congr_left fun i hi => ?_
    have := List.mem_range.1 hi
    exact tab_stable (U := U) (fr := fr) (d := to - m) (m := m + 1 + i) (by omega) (by omega) (by omega)
  · rw [if_neg h, if_neg (by omega)]
/-- a minute from which a list begins: no earlier one holds as long. -/
def Rec (V : Nat → Nat) (fr m : Nat) : Prop := ∀ e, fr ≤ e → e < m → V e < V m
theorem main {U : Int → Int} (hU : ∀ m, m ≤ to → U m = (V m : Int)) (hV : ∀ m, m ≤ to → m ≤ V m) (h60 : to ≤ 60) : ∀ {k m : Nat}, m + k = to → fr ≤ m → Rec V fr m →
    (TT U fr to m).length = th V fr to m ∧ ∀ f, k ≤ f → TT U fr to m = (m : Int) :: outL V fr to f (V m + 1) (m + 1) := by
  intro k
  induction k using Nat.strongRecOn with
  | ind k ih =>
    intro m hk hf hr
    have hm : m ≤ to := by omega
    have htake := TT_take (V := V) (fr := fr) (U := U) hm (hU m hm) (fun e he hfe => by rw [hU m hm, hU e (by omega)]; have := hr e hfe he; omega)
    by_cases hlt : V m < to
    · rw [if_pos hlt] at htake
      have hvm := hV m hm
      obtain ⟨a, ha⟩ : ∃ a, V m + 1 = a := ⟨_, rfl⟩
      have hat : a ≤ to := by omega
      -- the first of the best
      have hmin : ∀ t, fr ≤ t → t ≤ a → a ≤ V t → ndA V fr to a ≤ th V fr to t := fun t h1 h2 h3 => ndA_le hV hat h1 h2 h3
      obtain ⟨m9, q1, q2, q3, q4⟩ := ndA_ex (fr := fr) hV h60 hat (by omega)
      obtain ⟨t, ht1, ⟨ht2, ht3, ht4⟩, ht5⟩ := first_of (p := fun t => m < t ∧ a ≤ V t ∧ th V fr to t = ndA V fr to a) (t := m9) ⟨by
        rcases Nat.lt_or_ge m m9 with h | h
        · exact h
        · rcases Nat.lt_or_ge m9 m with h' | h'
          · have := hr m9 q1 h'; omega
          · obtain rfl : m9 = m := by omega
            omega, q3, q4.symm⟩
      have hta : t ≤ a := by omega
      have hstrict : ∀ e, m < e → e < t → a ≤ V e → th V fr to t < th V fr to e := fun e h1 h2 h3 => by
        have h4 := hmin e (by omega) (by omega) h3
        rw [ht4]
        rcases Nat.lt_or_ge (ndA V fr to a) (th V fr to e) with h | h
        · exact h
        · exact absurd ⟨h1, h3, by omega⟩ (ht5 e h2)
      have hweak : ∀ e, t < e → e ≤ a → a ≤ V e → th V fr to t ≤ th V fr to e := fun e h1 h2 h3 => by rw [ht4]; exact hmin e (by omega) h2 h3
      have hrt : Rec V fr t := fun e h1 h2 => by
        rcases Nat.lt_or_ge (V e) (V t) with h | h
        · exact h
        · have hme : m < e := by
            rcases Nat.lt_or_ge m e with h' | h'
            · exact h'
            · rcases Nat.lt_or_ge e m with h'' | h''
              · have := hr e h1 h''; omega
              · obtain rfl : e = m := by omega
                omega
          have h3 := hstrict e hme h2 (by omega)
          have h4 := th_mono (fr := fr) hV h60 (e := e) (t := t) (by omega) h
          omega
      have htt : t ≤ to := by omega
      obtain ⟨i1, i2⟩ := @ih (to - t) (by omega) t (by omega) (by omega) hrt
      have hlen : ∀ e, m < e → e ≤ a → TT U fr to e = [] ∨ (a ≤ V e ∧ (TT U fr to e).length = th V fr to e) := fun e h1 h2 => by
        by_cases hre : Rec V fr e
        · obtain ⟨j1, -⟩ := @ih (to - e) (by omega) e (by omega) (by omega) hre
          exact .inr ⟨by have := hre m hf h1; omega, j1⟩
        · have hex : ∃ x, fr ≤ x ∧ x < e ∧ V e ≤ V x := by
            refine Classical.byContradiction fun hno => hre fun x hx1 hx2 => ?_
            rcases Nat.lt_or_ge (V x) (V e) with h | h
            · exact h
            · exact absurd ⟨x, hx1, hx2, h⟩ hno
          obtain ⟨x, x1, x2, x3⟩ := hex
          exact .inl (TT_skip (by omega) x2 x1 (by rw [hU e (by omega), hU x (by omega)]; omega))
      have hne : TT U fr to t ≠ [] := by
        rw [i2 _ (Nat.le_refl _)]
        simp
      have hsh : shortest ((List.range (V m + 1 - m)).map fun i => TT U fr to (m + 1 + i)) = TT U fr to t := by
        have := shortest_range (f := fun i => TT U fr to (m + 1 + i)) (k := V m + 1 - m) (j := t - (m + 1)) (by omega) (by rw [show m + 1 + (t - (m + 1)) = t by omega]; exact hne)
          (fun i hi => by
            rw [show m + 1 + (t - (m + 1)) = t by omega]
            rcases hlen (m + 1 + i) (by omega) (by omega) with e | ⟨e1, e2⟩
            · exact .inl e
            · exact .inr (by rw [e2, i1]; exact hstrict _ (by omega) (by omega) e1))
          (fun i hi hk2 => by
            rw [show m + 1 + (t - (m + 1)) = t by omega]
            rcases hlen (m + 1 + i) (by omega) (by omega) with e | ⟨e1, e2⟩
            · exact .inl e
            · exact .inr (by rw [e2, i1]; exact hweak _ (by omega) (by omega) e1))
        rw [this, show m + 1 + (t - (m + 1)) = t by omega]
      rw [hsh] at htake
      refine ⟨?_, fun f hfk => ?_⟩
      · rw [htake, List.length_cons, i1, ht4]
        have e9 : th V fr to m = 1 + ndA V fr to a := by unfold th thF; rw [if_pos hlt, ha]
        rw [e9]; omega
      · obtain ⟨f', rfl⟩ : ∃ f', f = f' + 1 := ⟨f - 1, by omega⟩
        have hpk : pickF V (th V fr to) a (m + 1) (a + 1 - (m + 1)) = (th V fr to t, ((t : Nat) : Int)) := by
          have hb : th V fr to t < 62 := by
            rw [ht4]
            have := ndA_bound (fr := fr) hV (k := to + 1 - a) (a := a) (by omega) (by omega) hat
            omega
          have := pickF_is (V := V) (th := th V fr to) (at_ := a) (early := m + 1) (k := a + 1 - (m + 1)) (j := t - (m + 1)) (by omega) (by rw [show m + 1 + (t - (m + 1)) = t by omega]; exact ht3) (by rw [show m + 1 + (t - (m + 1)) = t by omega]; exact hb)
            (fun i hi h => by rw [show m + 1 + (t - (m + 1)) = t by omega]; exact hstrict _ (by omega) (by omega) h)
            (fun i hi hk2 h => by rw [show m + 1 + (t - (m + 1)) = t by omega]; exact hweak _ (by omega) (by omega) h)
          rwa [show m + 1 + (t - (m + 1)) = t by omega] at this
        rw [htake, ha, outL, if_pos hat, hpk, Int.toNat_natCast, i2 f' (by omega)]
    · rw [if_neg hlt] at htake
      refine ⟨?_, fun f _ => ?_⟩
      · rw [htake]
        unfold th thF
        rw [if_neg hlt]
        rfl
      · rw [htake, outL_no (by omega)]
end
end Td
end Go.Proofs.Ytmofbnadfgejiaa
