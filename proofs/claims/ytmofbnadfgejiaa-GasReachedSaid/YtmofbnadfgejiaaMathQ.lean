import Derived.Test.YtmofbnadfgejiaaMathP
/- That no list of minutes that keeps a torch burning is shorter than the code's; that the code's goes up, and covers every minute. -/
namespace Go.Proofs.Ytmofbnadfgejiaa
namespace Td
set_option linter.unusedVariables false
section
variable {V : Nat → Nat} {fr to : Nat}
theorem ndA_least (hV : ∀ m, m ≤ to → m ≤ V m) : ∀ {k a : Nat}, a + k = to + 1 → fr ≤ a → a ≤ to → ∀ L : List Nat, (∀ x ∈ L, fr ≤ x) → (∀ t, a ≤ t → t ≤ to → ∃ x ∈ L, x ≤ t ∧ t ≤ V x) → ndA V fr to a ≤ L.length := by
  intro k
  induction k using Nat.strongRecOn with
  | ind k ih =>
    intro a hk hf ha L hL hc
    obtain ⟨x, hx, h1, h2⟩ := hc a (Nat.le_refl _) ha
    refine Nat.le_trans (ndA_le hV ha (hL x hx) h1 h2) ?_
    have hp : 0 < L.length := List.length_pos_of_mem hx
    unfold th thF
    by_cases e : V x < to
    · rw [if_pos e]
      have := ih (to + 1 - (V x + 1)) (by omega) (a := V x + 1) (by omega) (by omega) (by omega) (L.erase x) (fun y hy => hL y (List.mem_of_mem_erase hy)) (fun t h3 h4 => by
        obtain ⟨y, hy, h5, h6⟩ := hc t (by omega) h4
        exact ⟨y, (List.mem_erase_of_ne (by rintro rfl; omega)).2 hy, h5, h6⟩)
      rw [List.length_erase_of_mem hx] at this
      omega
    · rw [if_neg e]
      exact hp
theorem outL_pick (hV : ∀ m, m ≤ to → m ≤ V m) (h60 : to ≤ 60) {at_ early : Nat} (h1 : fr ≤ early) (h2 : early ≤ at_) (ha : at_ ≤ to) : ∃ j, early ≤ j ∧ j ≤ at_ ∧ at_ ≤ V j ∧ ∀ f, outL V fr to (f + 1) at_ early = (j : Int) :: outL V fr to f (V j + 1) (j + 1) := by
  have hl := pickF_least (V := V) (th := th V fr to) (at_ := at_) (early := early) (k := at_ + 1 - early) (j := at_ - early) (by omega) (by rw [show early + (at_ - early) = at_ by omega]; exact hV _ ha)
  rw [show early + (at_ - early) = at_ by omega] at hl
  have hb := th_low (fr := fr) hV h60 (t := at_) (by omega) ha
  rcases pickF_some (V := V) (th := th V fr to) (at_ := at_) (early := early) (k := at_ + 1 - early) with q | ⟨j, q1, q2, q3, q4⟩
  · rw [q] at hl
    have : 62 ≤ th V fr to at_ := hl
    omega
  · refine ⟨early + j, by omega, by omega, q2, fun f => ?_⟩
    rw [outL, if_pos ha, q4]
    show ((early + j : Nat) : Int) :: outL V fr to f (V (((early + j : Nat) : Int)).toNat + 1) ((((early + j : Nat) : Int)).toNat + 1) = _
    rw [Int.toNat_natCast]
theorem outL_up (hV : ∀ m, m ≤ to → m ≤ V m) (h60 : to ≤ 60) : ∀ {f at_ early : Nat}, fr ≤ early → early ≤ at_ → (∀ x ∈ outL V fr to f at_ early, (early : Int) ≤ x ∧ x ≤ (to : Int)) ∧ (outL V fr to f at_ early).Pairwise (· < ·)
  | 0, _, _, _, _ => ⟨fun x hx => (by cases hx), List.Pairwise.nil⟩
  | f + 1, at_, early, h1, h2 => by
    by_cases ha : at_ ≤ to
    · obtain ⟨j, q1, q2, q3, q4⟩ := outL_pick hV h60 h1 h2 ha
      rw [q4 f]
      obtain ⟨r1, r2⟩ := outL_up hV h60 (f := f) (at_ := V j + 1) (early := j + 1) (by omega) (by omega)
      refine ⟨fun x hx => ?_, List.Pairwise.cons (fun x hx => ?_) r2⟩
      · rcases List.mem_cons.1 hx with rfl | hx
        · omega
        · have := r1 x hx; omega
      · have := r1 x hx; omega
    · rw [outL_no (by omega)]
      exact ⟨fun x hx => (by cases hx), List.Pairwise.nil⟩
theorem outL_cover (hV : ∀ m, m ≤ to → m ≤ V m) (h60 : to ≤ 60) : ∀ {f at_ early : Nat}, fr ≤ early → early ≤ at_ → to + 1 ≤ at_ + f → ∀ t, at_ ≤ t → t ≤ to → ∃ j : Nat, (j : Int) ∈ outL V fr to f at_ early ∧ j ≤ t ∧ t ≤ V j
  | 0, _, _, _, _, _, _, _, _ => by omega
  | f + 1, at_, early, h1, h2, h3, t, h4, h5 => by
    obtain ⟨j, q1, q2, q3, q4⟩ := outL_pick hV h60 h1 h2 (show at_ ≤ to by omega)
    rw [q4 f]
    by_cases e : t ≤ V j
    · exact ⟨j, List.mem_cons_self, by omega, e⟩
    · obtain ⟨i, i1, i2, i3⟩ := outL_cover hV h60 (f := f) (at_ := V j + 1) (early := j + 1) (by omega) (by omega) (by omega) t (by omega) h5
      exact ⟨i, List.mem_cons_of_mem _ i1, i2, i3⟩
end
/-- what the code's list is, where the first reading holds at all. -/
theorem few_good (s : Spc) (r : Rd) {fr to : Nat} (hm : r.min = (fr : Int)) (h60 : to ≤ 60) (hft : fr ≤ to) (hh : r.min ≤ hol s r) :
    ((few s r (to : Int)).Pairwise (· < ·) ∧ ∀ x ∈ few s r (to : Int), (fr : Int) ≤ x ∧ x ≤ (to : Int)) ∧
    (∀ t : Nat, fr ≤ t → t ≤ to → ∃ j : Nat, (j : Int) ∈ few s r (to : Int) ∧ j ≤ t ∧ (t : Int) ≤ hol s { r with min := (j : Int) }) ∧
    ∀ L : List Nat, (∀ x ∈ L, fr ≤ x) → (∀ t : Nat, fr ≤ t → t ≤ to → ∃ x ∈ L, x ≤ t ∧ (t : Int) ≤ hol s { r with min := (x : Int) }) → (few s r (to : Int)).length ≤ L.length := by
  obtain ⟨rm, rt, rs⟩ := r
  dsimp only at hm hh ⊢
  subst hm
  obtain ⟨V, hVd⟩ : ∃ V : Nat → Nat, V = fun (t : Nat) => (hol s ⟨(t : Int), rt, rs⟩).toNat := ⟨_, rfl⟩
  have hown : ∀ m : Nat, m ≤ to → (m : Int) ≤ hol s ⟨(m : Int), rt, rs⟩ := fun m hmt =>
    hol_own (r := ⟨(fr : Int), rt, rs⟩) (by show (0 : Int) ≤ (fr : Int); omega) (by show (fr : Int) ≤ 60; omega) hh (m := (m : Int)) (by omega) (by omega)
  have hU : ∀ m : Nat, m ≤ to → hol s ⟨(m : Int), rt, rs⟩ = (V m : Int) := fun m hmt => by have := hown m hmt; rw [hVd]; show _ = ((hol s ⟨(m : Int), rt, rs⟩).toNat : Int); omega
  have hV : ∀ m, m ≤ to → m ≤ V m := fun m hmt => by have h1 := hown m hmt; rw [hU m hmt] at h1; omega
  obtain ⟨hM1, hM2⟩ := main (U := fun m => hol s ⟨m, rt, rs⟩) (V := V) (fr := fr) (to := to) (fun m hmt => hU m hmt) hV h60 (k := to - fr) (m := fr) (by omega) (Nat.le_refl _) (fun e h1 h2 => absurd h1 (by omega))
  have h2 : few s ⟨(fr : Int), rt, rs⟩ (to : Int) = TT (fun m => hol s ⟨m, rt, rs⟩) fr to fr := by
    unfold few TT
    show tab _ ((fr : Int)).toNat ((to : Int)).toNat (((to : Int)).toNat + 1 - ((fr : Int)).toNat) ((fr : Int)).toNat = _
    rw [Int.toNat_natCast, Int.toNat_natCast]
  rw [h2]
  have hvf := hV fr hft
  refine ⟨?_, ?_, fun L hL hc => ?_⟩
  · rw [hM2 (to - fr) (Nat.le_refl _)]
    obtain ⟨r1, r2⟩ := outL_up (fr := fr) hV h60 (f := to - fr) (at_ := V fr + 1) (early := fr + 1) (by omega) (by omega)
    refine ⟨List.Pairwise.cons (fun x hx => by have := r1 x hx; omega) r2, fun x hx => ?_⟩
    rcases List.mem_cons.1 hx with rfl | hx
    · omega
    · have := r1 x hx; omega
  · intro t h3 h4
    rw [hM2 (to - fr) (Nat.le_refl _)]
    by_cases e : t ≤ V fr
    · exact ⟨fr, List.mem_cons_self, h3, by rw [hU fr hft]; omega⟩
    · obtain ⟨i, i1, i2, i3⟩ := outL_cover (fr := fr) hV h60 (f := to - fr) (at_ := V fr + 1) (early := fr + 1) (by omega) (by omega) (by omega) t (by omega) h4
      exact ⟨i, List.mem_cons_of_mem _ i1, i2, by rw [hU i (by omega)]; omega⟩
  · rw [hM1]
    obtain ⟨m, m1, m2, m3, m4⟩ := ndA_ex (fr := fr) hV h60 hft (Nat.le_refl _)
    obtain rfl : m = fr := by omega
    rw [← m4]
    refine ndA_least hV (k := to + 1 - m) (by omega) (Nat.le_refl _) hft L hL fun t h3 h4 => ?_
    obtain ⟨x, hx, h5, h6⟩ := hc t h3 h4
    exact ⟨x, hx, h5, by rw [hU x (by omega)] at h6; omega⟩
end Td
end Go.Proofs.Ytmofbnadfgejiaa
