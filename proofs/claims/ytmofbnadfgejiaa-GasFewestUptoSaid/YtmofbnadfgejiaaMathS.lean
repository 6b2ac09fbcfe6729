import Derived.Test.YtmofbnadfgejiaaMathQ
import Derived.Test.YtmofbnadfgejiaaMathR
import Derived.Test.YtmofbnadfgejiaaCov
/- What GasFewest's law asks, over the plain functions. -/
namespace Go.Proofs.Ytmofbnadfgejiaa
namespace Td
set_option linter.unusedVariables false
/-- the other minutes, out of a list of bytes. -/
def othN (Ot : List Int) (fr d k : Nat) : List Nat := (Ot.take k).map fun b => fr + b.toNat % d
theorem othN_next {Ot : List Int} {fr d k : Nat} (h : k < Ot.length) : othN Ot fr d (k + 1) = othN Ot fr d k ++ [fr + Ot[k].toNat % d] := by
  unfold othN
  rw [List.take_succ_eq_append_getElem h, List.map_append]
  rfl
theorem othN_mem {Ot : List Int} {fr d k x : Nat} (hd : 0 < d) (h : x ∈ othN Ot fr d k) : fr ≤ x ∧ x < fr + d := by
  obtain ⟨b, _, rfl⟩ := List.mem_map.1 h
  have := Nat.mod_lt b.toNat hd
  omega
theorem othN_len (Ot : List Int) (fr d k : Nat) : (othN Ot fr d k).length ≤ Ot.length := by
  simp [othN]
  omega
/-- numbers as Go's. -/
def nI (L : List Nat) : List Int := L.map fun (x : Nat) => (x : Int)
theorem nI_snoc (L : List Nat) (x : Nat) : nI (L ++ [x]) = nI L ++ [(x : Int)] := by simp [nI]
theorem nI_len (L : List Nat) : (nI L).length = L.length := by simp [nI]
/-- the two ways of what Fewest answers. -/
theorem fewest_ways {s : Spc} {fr tn : Nat} {tl shn : Int} (h0 : (chk s).2.2 = 0) (hro : ∀ x : Nat, x ≤ 60 → ROk s ⟨(x : Int), tl, shn⟩) (hft : fr ≤ tn) (h60 : tn ≤ 60) :
    (fewestA s ⟨(fr : Int), tl, shn⟩ (tn : Int) = ([], 9) ∧ ∀ L : List Nat, (∀ x ∈ L, fr ≤ x) → covB (fun x => hol s ⟨(x : Int), tl, shn⟩) fr tn L = false) ∨
    (∃ l, fewestA s ⟨(fr : Int), tl, shn⟩ (tn : Int) = (l, 0) ∧ (l.Pairwise (· < ·) ∧ ∀ x ∈ l, (fr : Int) ≤ x ∧ x ≤ (tn : Int)) ∧
      (∀ t : Nat, fr ≤ t → t ≤ tn → ∃ j : Nat, (j : Int) ∈ l ∧ j ≤ t ∧ (t : Int) ≤ hol s ⟨(j : Int), tl, shn⟩) ∧
      ∀ L : List Nat, (∀ x ∈ L, fr ≤ x) → L.length < l.length → covB (fun x => hol s ⟨(x : Int), tl, shn⟩) fr tn L = false) := by
  have hr := hro fr (by omega)
  have hE : toolE2 s ⟨(fr : Int), tl, shn⟩ = 0 := by
    unfold toolE2
    rw [h0]
    exact rdE_ok.2 hr
  by_cases hh : hol s ⟨(fr : Int), tl, shn⟩ < (fr : Int)
  · left
    have hF : fewestE s ⟨(fr : Int), tl, shn⟩ (tn : Int) = 9 := by
      unfold fewestE
      rw [hE, if_neg (by decide), if_pos (wi_iff.2 (by omega)), if_neg (by show ¬ (tn : Int) < (fr : Int); omega), if_pos hh]
    refine ⟨by unfold fewestA; rw [hF]; rfl, fun L hL => covB_no (Nat.le_refl _) hft ?_⟩
    cases e : hitB (fun x => hol s ⟨(x : Int), tl, shn⟩) fr L
    · rfl
    · obtain ⟨x, h1, h2, h3⟩ := hitB_iff.1 e
      have := hL x h1
      obtain rfl : x = fr := by omega
      omega
  · right
    have hF : fewestE s ⟨(fr : Int), tl, shn⟩ (tn : Int) = 0 := by
      unfold fewestE
      rw [hE, if_neg (by decide), if_pos (wi_iff.2 (by omega)), if_neg (by show ¬ (tn : Int) < (fr : Int); omega), if_neg hh]
    obtain ⟨g1, g2, g3⟩ := few_good s ⟨(fr : Int), tl, shn⟩ (fr := fr) (to := tn) rfl h60 hft (by show (fr : Int) ≤ _; omega)
    refine ⟨few s ⟨(fr : Int), tl, shn⟩ (tn : Int), by unfold fewestA; rw [hF]; rfl, g1, g2, fun L hL hlt => ?_⟩
    cases e : covB (fun x => hol s ⟨(x : Int), tl, shn⟩) fr tn L
    · rfl
    · have := g3 L hL (covB_iff.1 e)
      omega
/-- the i-th reading of the truth, at the minutes of a list. -/
def frd (T : Nat → Int) (fl : List Int) (tl er : Int) (less : Nat → Int) (i : Nat) : Rd := ⟨fl[i]?.getD 0, tl, amongV (T (fl[i]?.getD 0).toNat - er) (T (fl[i]?.getD 0).toNat + er) (less i)⟩
theorem frd_ok {s : Spc} (hs : SOk s) {T : Nat → Int} (hT : ∀ k, 0 ≤ T k ∧ T k ≤ 200) {fl : List Int} {tl : Nat} (htl : tl < s.tools.length) {less : Nat → Int} {i : Nat} (hi : i < fl.length) (hb : 0 ≤ fl[i] ∧ fl[i] ≤ 60) :
    ROk s (frd T fl tl (s.tools[tl].err) less i) ∧ near s (frd T fl tl (s.tools[tl].err) less i) (T (frd T fl tl (s.tools[tl].err) less i).min.toNat) := by
  have heb := hs.er _ (List.getElem_mem htl)
  have hTm := hT fl[i].toNat
  have heq : errOf s (frd T fl tl (s.tools[tl].err) less i) = s.tools[tl].err := by
    unfold errOf frd
    simp [List.getElem?_eq_getElem htl]
  have ha := amongV_in (lo := T fl[i].toNat - s.tools[tl].err) (hi := T fl[i].toNat + s.tools[tl].err) (n := less i) (by omega)
  have hm : (frd T fl tl (s.tools[tl].err) less i).min = fl[i] := by simp [frd, List.getElem?_eq_getElem hi]
  have hsh : (frd T fl tl (s.tools[tl].err) less i).shown = amongV (T fl[i].toNat - s.tools[tl].err) (T fl[i].toNat + s.tools[tl].err) (less i) := by simp [frd, List.getElem?_eq_getElem hi]
  have htt : (frd T fl tl (s.tools[tl].err) less i).tool = (tl : Int) := rfl
  refine ⟨⟨by rw [htt]; omega, by rw [htt]; omega, by rw [hm]; omega, by rw [hm]; omega, by rw [hsh]; omega, by rw [hsh]; omega⟩, ?_⟩
  unfold near
  rw [heq, hsh, hm]
  omega
/-- while the list covers a minute, Until says so. -/
theorem few_until {s : Spc} (h0 : (chk s).2.2 = 0) {X : List Int} {fl : List Int} {tl : Nat} (htl : tl < s.tools.length) {shn : Int} {less : Nat → Int} {fr tn : Nat} (h60 : tn ≤ 60)
    (hb : ∀ x ∈ fl, (fr : Int) ≤ x ∧ x ≤ (tn : Int)) (hc : ∀ t : Nat, fr ≤ t → t ≤ tn → ∃ j : Nat, (j : Int) ∈ fl ∧ j ≤ t ∧ (t : Int) ≤ hol s ⟨(j : Int), (tl : Int), shn⟩)
    (hsh : ∀ i, i < fl.length → (frd (truN s X) fl tl (s.tools[tl].err) less i).shown ≤ shn) (h12 : fl.length ≤ 12) (t : Nat) (h1 : fr ≤ t) (h2 : t ≤ tn) :
    ∃ u : Nat, untilA s ((List.range fl.length).map (frd (truN s X) fl tl (s.tools[tl].err) less)) (t : Int) = ((u : Int), 0) ∧ t ≤ u ∧ truN s X t ≤ s.lim := by
  have hs := chk_ok h0
  have hT := truN_in hs X
  obtain ⟨R, hR⟩ : ∃ R, (List.range fl.length).map (frd (truN s X) fl tl (s.tools[tl].err) less) = R := ⟨_, rfl⟩
  have hRf : ∀ r ∈ R, ROk s r ∧ near s r (truN s X r.min.toNat) := fun r hr => by
    rw [← hR] at hr
    obtain ⟨i, hi, rfl⟩ := List.mem_map.1 hr
    have hi := List.mem_range.1 hi
    have := hb _ (List.getElem_mem hi)
    exact frd_ok hs hT htl hi (by omega)
  have hR12 : R.length ≤ 12 := by rw [← hR]; simp; exact h12
  obtain ⟨j, hj1, hj2, hj3⟩ := hc t h1 h2
  obtain ⟨i, hi, hij⟩ := List.getElem_of_mem hj1
  obtain ⟨x, hx, hu, hl⟩ := few_burns (s := s) hs (tool := (tl : Int)) (shown := shn) (T := truN s X) (R := R) (j := j) (t := t) (amongV_in hs.s01) (fun n => truN_step hs X n) (fun r hr => (hRf r hr).2) hj2 (by omega) hj3
    (q := frd (truN s X) fl tl (s.tools[tl].err) less i) (by rw [← hR]; exact List.mem_map.2 ⟨i, List.mem_range.2 hi, rfl⟩) (by simp [frd, List.getElem?_eq_getElem hi, hij]) rfl (hsh i hi)
  rw [hR]
  have hrds : rdsE s.tools.length R = 0 := rdsE_ok.2 ⟨hR12, fun r hr => (hRf r hr).1⟩
  have hwi : wi 0 60 (t : Int) = true := wi_iff.2 (by omega)
  have hwat : watE s R (t : Int) = 0 := by simp [watE, h0, hrds, hwi, hx]
  obtain ⟨u, hu2⟩ : ∃ u : Nat, untl s (kno R (t : Int)) (t : Int) (some x) = (u : Int) := ⟨(untl s (kno R (t : Int)) (t : Int) (some x)).toNat, by omega⟩
  refine ⟨u, by simp [untilA, hwat, hx, hu2], by omega, hl⟩
end Td
end Go.Proofs.Ytmofbnadfgejiaa
