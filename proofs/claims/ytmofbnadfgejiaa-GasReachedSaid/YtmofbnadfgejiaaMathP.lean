import Derived.Test.YtmofbnadfgejiaaMathN
/- The reference's need and picks, over a reading's minutes as whole numbers; and that they give the code's list. -/
namespace Go.Proofs.Ytmofbnadfgejiaa
namespace Td
set_option linter.unusedVariables false
def niM (U : Nat → Int) (th : Nat → Nat) (fr a : Nat) : Nat → Nat
  | 0 => 62
  | k + 1 => if (a : Int) ≤ U (fr + k) then min (niM U th fr a k) (th (fr + k)) else niM U th fr a k
def thI (U : Nat → Int) (to : Nat) (g : Nat → Nat) (t : Nat) : Nat := if U t < (to : Int) then 1 + g (U t + 1).toNat else 1
def ni (U : Nat → Int) (fr to : Nat) : Nat → Nat → Nat
  | 0, _ => 0
  | d + 1, a => if a = to - d then niM U (thI U to (ni U fr to d)) fr a (a + 1 - fr) else ni U fr to d a
def pkI (U : Nat → Int) (th : Nat → Nat) (at_ early : Nat) : Nat → Nat × Int
  | 0 => (62, -1)
  | k + 1 => if (at_ : Int) ≤ U (early + k) ∧ th (early + k) < (pkI U th at_ early k).1 then (th (early + k), ((early + k : Nat) : Int)) else pkI U th at_ early k
def outI (U : Nat → Int) (th : Nat → Nat) (to : Nat) : Nat → Nat → Nat → Option (List Int)
  | 0, _, _ => some []
  | f + 1, at_, early => if at_ ≤ to then
      (if (pkI U th at_ early (at_ + 1 - early)).2 < 0 ∨ 61 < (pkI U th at_ early (at_ + 1 - early)).1 then none
       else (outI U th to f (U (pkI U th at_ early (at_ + 1 - early)).2.toNat + 1).toNat ((pkI U th at_ early (at_ + 1 - early)).2.toNat + 1)).map ((pkI U th at_ early (at_ + 1 - early)).2 :: ·))
    else some []
theorem niM_le {U : Nat → Int} {th : Nat → Nat} {fr a : Nat} : ∀ k, niM U th fr a k ≤ 62
  | 0 => Nat.le_refl _
  | k + 1 => by
    rw [niM]
    have := niM_le (U := U) (th := th) (fr := fr) (a := a) k
    split
    · exact Nat.le_trans (Nat.min_le_left _ _) this
    · exact this
theorem ni_le {U : Nat → Int} {fr to : Nat} : ∀ d a, ni U fr to d a ≤ 62
  | 0, _ => by rw [ni]; omega
  | d + 1, a => by
    rw [ni]
    split
    · exact niM_le _
    · exact ni_le d a
theorem thI_le {U : Nat → Int} {to : Nat} {g : Nat → Nat} {t : Nat} (h : ∀ a, g a ≤ 62) : thI U to g t ≤ 63 ∧ 1 ≤ thI U to g t := by
  unfold thI
  have := h (U t + 1).toNat
  split <;> omega
section
variable {U : Nat → Int} {V : Nat → Nat} {fr to : Nat}
theorem thI_is (hU : ∀ m, m ≤ to → U m = (V m : Int)) {g g' : Nat → Nat} {t : Nat} (ht : t ≤ to) (h : V t < to → g (V t + 1) = g' (V t + 1)) : thI U to g t = thF V to g' t := by
  unfold thI thF
  rw [hU t ht]
  by_cases e : V t < to
  · rw [if_pos e, if_pos (by omega), show ((V t : Int) + 1).toNat = V t + 1 by omega, h e]
  · rw [if_neg e, if_neg (by omega)]
theorem niM_is (hU : ∀ m, m ≤ to → U m = (V m : Int)) {th th' : Nat → Nat} {a : Nat} : ∀ {k : Nat}, (∀ j, j < k → fr + j ≤ to ∧ th (fr + j) = th' (fr + j)) → niM U th fr a k = ndM V th' fr a k
  | 0, _ => rfl
  | k + 1, h => by
    rw [niM, ndM, niM_is hU (fun j hj => h j (by omega)), (h k (by omega)).2, hU _ (h k (by omega)).1]
    by_cases e : a ≤ V (fr + k)
    · rw [if_pos e, if_pos (by omega)]
    · rw [if_neg e, if_neg (by omega)]
theorem ni_is (hU : ∀ m, m ≤ to → U m = (V m : Int)) : ∀ d a, ni U fr to d a = nd V fr to d a
  | 0, _ => rfl
  | d + 1, a => by
    rw [ni, nd]
    by_cases e : a = to - d
    · rw [if_pos e, if_pos e]
      refine niM_is hU fun j hj => ⟨by omega, ?_⟩
      exact thI_is hU (by omega) fun _ => ni_is hU d _
    · rw [if_neg e, if_neg e]
      exact ni_is hU d a
theorem th_is (hU : ∀ m, m ≤ to → U m = (V m : Int)) (hV : ∀ m, m ≤ to → m ≤ V m) {t : Nat} (hf : fr ≤ t) (ht : t ≤ to) : thI U to (ni U fr to (to + 1 - fr)) t = th V fr to t := by
  have := hV t ht
  exact thI_is hU ht fun e => by rw [ni_is hU, nd_stable (by omega) (by omega) (by omega)]
theorem pkI_is (hU : ∀ m, m ≤ to → U m = (V m : Int)) {th th' : Nat → Nat} {at_ early : Nat} : ∀ {k : Nat}, (∀ j, j < k → early + j ≤ to ∧ th (early + j) = th' (early + j)) → pkI U th at_ early k = pickF V th' at_ early k
  | 0, _ => rfl
  | k + 1, h => by
    rw [pkI, pickF, pkI_is hU (fun j hj => h j (by omega)), (h k (by omega)).2, hU _ (h k (by omega)).1]
    by_cases e : at_ ≤ V (early + k) ∧ th' (early + k) < (pickF V th' at_ early k).1
    · rw [if_pos e, if_pos (by omega)]
    · rw [if_neg e, if_neg (by omega)]
theorem pickF_some {th : Nat → Nat} {at_ early : Nat} : ∀ {k : Nat}, pickF V th at_ early k = (62, -1) ∨ ∃ j, j < k ∧ at_ ≤ V (early + j) ∧ th (early + j) < 62 ∧ pickF V th at_ early k = (th (early + j), ((early + j : Nat) : Int))
  | 0 => .inl rfl
  | k + 1 => by
    rw [pickF]
    by_cases e : at_ ≤ V (early + k) ∧ th (early + k) < (pickF V th at_ early k).1
    · rw [if_pos e]
      refine .inr ⟨k, by omega, e.1, ?_, rfl⟩
      have h2 := e.2
      rcases pickF_some (th := th) (at_ := at_) (early := early) (k := k) with q | ⟨j, h1, h3, h4, h5⟩
      · rw [q] at h2; exact h2
      · rw [h5] at h2
        have : th (early + k) < th (early + j) := h2
        omega
    · rw [if_neg e]
      rcases pickF_some (th := th) (at_ := at_) (early := early) (k := k) with q | ⟨j, h1, h3⟩
      · exact .inl q
      · exact .inr ⟨j, by omega, h3⟩
theorem pickF_least {th : Nat → Nat} {at_ early : Nat} : ∀ {k j : Nat}, j < k → at_ ≤ V (early + j) → (pickF V th at_ early k).1 ≤ th (early + j)
  | 0, _, h, _ => absurd h (by omega)
  | k + 1, j, h, ha => by
    rw [pickF]
    by_cases e : at_ ≤ V (early + k) ∧ th (early + k) < (pickF V th at_ early k).1
    · rw [if_pos e]
      rcases Nat.lt_or_ge j k with q | q
      · have := pickF_least (th := th) (at_ := at_) (early := early) q ha
        have := e.2
        show th (early + k) ≤ _
        omega
      · obtain rfl : j = k := by omega
        exact Nat.le_refl _
    · rw [if_neg e]
      rcases Nat.lt_or_ge j k with q | q
      · exact pickF_least q ha
      · obtain rfl : j = k := by omega
        exact Nat.le_of_not_lt fun q2 => e ⟨ha, q2⟩
theorem th_low (hV : ∀ m, m ≤ to → m ≤ V m) (h60 : to ≤ 60) {t : Nat} (hf : fr ≤ t) (ht : t ≤ to) : th V fr to t ≤ 61 := by
  unfold th thF
  have := hV t ht
  split
  · rename_i e
    have := ndA_bound (fr := fr) hV (k := to + 1 - (V t + 1)) (a := V t + 1) (by omega) (by omega) (by omega)
    omega
  · omega
theorem outI_is (hU : ∀ m, m ≤ to → U m = (V m : Int)) (hV : ∀ m, m ≤ to → m ≤ V m) (h60 : to ≤ 60) : ∀ {f at_ early : Nat}, fr ≤ early → early ≤ at_ → outI U (thI U to (ni U fr to (to + 1 - fr))) to f at_ early = some (outL V fr to f at_ early)
  | 0, _, _, _, _ => rfl
  | f + 1, at_, early, h1, h2 => by
    rw [outI, outL]
    by_cases ha : at_ ≤ to
    · rw [if_pos ha, if_pos ha, pkI_is hU (th' := th V fr to) fun j hj => ⟨by omega, th_is hU hV (by omega) (by omega)⟩]
      have hl := pickF_least (V := V) (th := th V fr to) (at_ := at_) (early := early) (k := at_ + 1 - early) (j := at_ - early) (by omega) (by rw [show early + (at_ - early) = at_ by omega]; exact hV _ ha)
      rw [show early + (at_ - early) = at_ by omega] at hl
      have hb := th_low (fr := fr) hV h60 (t := at_) (by omega) ha
      rcases pickF_some (V := V) (th := th V fr to) (at_ := at_) (early := early) (k := at_ + 1 - early) with q | ⟨j, q1, q2, q3, q4⟩
      · rw [q] at hl
        have : 62 ≤ th V fr to at_ := hl
        omega
      · rw [q4]
        have e1 : ¬ (((early + j : Nat) : Int) < 0 ∨ 61 < th V fr to (early + j)) := by omega
        show (if ((early + j : Nat) : Int) < 0 ∨ 61 < th V fr to (early + j) then none else _) = _
        rw [if_neg e1]
        show (outI U _ to f (U ((early + j : Nat) : Int).toNat + 1).toNat (((early + j : Nat) : Int).toNat + 1)).map _ = some (((early + j : Nat) : Int) :: outL V fr to f (V ((early + j : Nat) : Int).toNat + 1) (((early + j : Nat) : Int).toNat + 1))
        rw [Int.toNat_natCast, hU _ (by omega), show ((V (early + j) : Int) + 1).toNat = V (early + j) + 1 by omega, outI_is hU hV h60 (by omega) (by have := hV (early + j) (by omega); omega)]
        rfl
    · rw [if_neg ha, if_neg ha]
theorem outI_bad (hU : ∀ m, m ≤ to → U m = -1) {th : Nat → Nat} {f : Nat} (h : fr ≤ to) : outI U th to (f + 1) fr fr = none := by
  rw [outI, if_pos h]
  have : pkI U th fr fr (fr + 1 - fr) = (62, -1) := by
    rw [show fr + 1 - fr = 1 by omega, pkI, pkI, hU _ (by omega), if_neg (by omega)]
  rw [this, if_pos (.inl (show (-1 : Int) < 0 by omega))]
end
theorem few_is (s : Spc) (r : Rd) {fr to : Nat} (hm : r.min = (fr : Int)) (h60 : to ≤ 60) (hft : fr ≤ to) :
    outI (fun (t : Nat) => hol s { r with min := (t : Int) }) (thI (fun (t : Nat) => hol s { r with min := (t : Int) }) to (ni (fun (t : Nat) => hol s { r with min := (t : Int) }) fr to (to + 1 - fr))) to (to + 1 - fr) fr fr = if hol s r < r.min then none else some (few s r (to : Int)) := by
  obtain ⟨rm, rt, rs⟩ := r
  dsimp only at hm
  subst hm
  obtain ⟨V, hVd⟩ : ∃ V : Nat → Nat, V = fun (t : Nat) => (hol s ⟨(t : Int), rt, rs⟩).toNat := ⟨_, rfl⟩
  by_cases hb : hol s ⟨(fr : Int), rt, rs⟩ < (fr : Int)
  · rw [if_pos hb, show to + 1 - fr = (to - fr) + 1 by omega]
    refine outI_bad (fun m hmt => ?_) hft
    show hol s ⟨(m : Int), rt, rs⟩ = -1
    refine (hol_in (r := ⟨(m : Int), rt, rs⟩) (by show (0 : Int) ≤ (m : Int); omega) (by show (m : Int) ≤ 60; omega)).2.2 ?_
    show hol s ⟨(m : Int), rt, rs⟩ < (m : Int)
    rcases Int.lt_or_le (hol s ⟨(m : Int), rt, rs⟩) (m : Int) with q | q
    · exact q
    · have := hol_own (r := ⟨(m : Int), rt, rs⟩) (by show (0 : Int) ≤ (m : Int); omega) (by show (m : Int) ≤ 60; omega) q (m := (fr : Int)) (by omega) (by omega)
      have h2 : (fr : Int) ≤ hol s ⟨(fr : Int), rt, rs⟩ := this
      omega
  · rw [if_neg hb]
    have hown : ∀ m : Nat, m ≤ to → (m : Int) ≤ hol s ⟨(m : Int), rt, rs⟩ := fun m hmt =>
      hol_own (r := ⟨(fr : Int), rt, rs⟩) (by show (0 : Int) ≤ (fr : Int); omega) (by show (fr : Int) ≤ 60; omega) (by show (fr : Int) ≤ hol s ⟨(fr : Int), rt, rs⟩; omega) (m := (m : Int)) (by omega) (by omega)
    have hU : ∀ m : Nat, m ≤ to → hol s ⟨(m : Int), rt, rs⟩ = (V m : Int) := fun m hmt => by have := hown m hmt; rw [hVd]; show _ = ((hol s ⟨(m : Int), rt, rs⟩).toNat : Int); omega
    have hV : ∀ m, m ≤ to → m ≤ V m := fun m hmt => by have h1 := hown m hmt; rw [hU m hmt] at h1; omega
    have hM := (main (U := fun m => hol s ⟨m, rt, rs⟩) (V := V) (fr := fr) (to := to) (fun m hmt => hU m hmt) hV h60 (k := to - fr) (m := fr) (by omega) (Nat.le_refl _) (fun e h1 h2 => absurd h1 (by omega))).2 (to - fr) (Nat.le_refl _)
    have h1 := outI_is (U := fun (t : Nat) => hol s ⟨(t : Int), rt, rs⟩) (V := V) (fr := fr) (to := to) hU hV h60 (f := to + 1 - fr) (at_ := fr) (early := fr) (Nat.le_refl _) (Nat.le_refl _)
    refine Eq.trans h1 ?_
    congr 1
    have h2 : few s ⟨(fr : Int), rt, rs⟩ (to : Int) = TT (fun m => hol s ⟨m, rt, rs⟩) fr to fr := by
      unfold few TT
      show tab _ ((fr : Int)).toNat ((to : Int)).toNat (((to : Int)).toNat + 1 - ((fr : Int)).toNat) ((fr : Int)).toNat = _
      rw [Int.toNat_natCast, Int.toNat_natCast]
    rw [h2, hM, show to + 1 - fr = (to - fr) + 1 by omega, outL, if_pos hft]
    have hp : pickF V (th V fr to) fr fr (fr + 1 - fr) = (th V fr to fr, ((fr : Nat) : Int)) := by
      have h3 := th_low (fr := fr) hV h60 (t := fr) (Nat.le_refl _) hft
      have h4 := hV fr hft
      rw [show fr + 1 - fr = 1 by omega, pickF, pickF]
      have e2 : fr ≤ V (fr + 0) ∧ th V fr to (fr + 0) < ((62, -1) : Nat × Int).1 := ⟨h4, by show th V fr to fr < 62; omega⟩
      rw [if_pos e2]
      rfl
    rw [hp]
    show _ = ((fr : Nat) : Int) :: outL V fr to (to - fr) (V ((fr : Nat) : Int).toNat + 1) (((fr : Nat) : Int).toNat + 1)
    rw [Int.toNat_natCast]
end Td
end Go.Proofs.Ytmofbnadfgejiaa
