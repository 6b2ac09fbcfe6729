import Derived.Test.YthdcklonamgpiaaMath
/- The plain mathematics of layer 5, on: the least balance is least, it is straight between keels, more ballast does no harm; the first height at which a hull falls. -/
namespace Go.Proofs.Ythdcklonamgpiaa
namespace Td
set_option linter.unusedVariables false
theorem prs_mono {x : Prt} {g l g' l' w : Int} (hg : g ≤ g') (hl : l' ≤ l) (h0 : 0 ≤ abv x w) : prs x g l w ≤ prs x g' l' w := by
  have := Int.mul_le_mul_of_nonneg_right hl h0
  unfold prs; omega
theorem abv_nn (x : Prt) (w : Int) : 0 ≤ abv x w := by unfold abv; omega
/-- no truth adds less. -/
theorem adds_least {x : Prt} {a f g l w : Int} (k : Nat) (g0 : x.w0 ≤ g) (g1 : g ≤ x.w1) (l0 : x.l0 ≤ l) (l1 : l ≤ x.l1) :
    adds a f k x (prs x (sdW a f k x) (sdL a f k x) w) ≤ adds a f k x (prs x g l w) := by
  have hL : prs x x.w0 x.l1 w ≤ prs x g l w := prs_mono g0 l1 (abv_nn x w)
  have hH : prs x g l w ≤ prs x x.w1 x.l0 w := prs_mono g1 l0 (abv_nn x w)
  unfold sdW sdL
  match k with
  | 0 => simpa [hvy, adds] using hL
  | 1 =>
    by_cases h : x.pt < a
    · simp only [hvy, h, decide_true, if_true, adds]
      exact Int.mul_le_mul_of_nonpos_right hH (by omega)
    · simp only [hvy, h, decide_false, if_false, adds, Bool.false_eq_true]
      exact Int.mul_le_mul_of_nonneg_right hL (by omega)
  | k + 2 =>
    by_cases h : f < x.pt
    · simp only [hvy, h, decide_true, if_true, adds]
      exact Int.mul_le_mul_of_nonpos_right hH (by omega)
    · simp only [hvy, h, decide_false, if_false, adds, Bool.false_eq_true]
      exact Int.mul_le_mul_of_nonneg_right hL (by omega)
theorem lst_le {h : Hul} {gs ls : List Int} (ht : TOk h gs ls) (k : Nat) (w : Int) : lst h k w ≤ bal h gs ls k w :=
  sm_le fun i hi => adds_least k (ht.gb i hi).1 (ht.gb i hi).2 (ht.lb i hi).1 (ht.lb i hi).2
/-- the truth that shows the k-th sum. -/
def shG (h : Hul) (k : Nat) : List Int := h.parts.map (sdW h.aft h.fore k)
def shL (h : Hul) (k : Nat) : List Int := h.parts.map (sdL h.aft h.fore k)
theorem sh_at {h : Hul} (F : Prt → Int) {i : Nat} (hi : i < h.parts.length) : ((h.parts.map F)[i]?).getD 0 = F (pa h.parts i) := by
  rw [pa_at hi]; simp [hi]
theorem bal_sh (h : Hul) (k : Nat) (w : Int) : bal h (shG h k) (shL h k) k w = lst h k w :=
  sm_congr fun i hi => by unfold term ltm shG shL; rw [sh_at _ hi, sh_at _ hi]
theorem sh_ok {h : Hul} (hp : ∀ x ∈ h.parts, x.w0 ≤ x.w1 ∧ x.l0 ≤ x.l1) (k : Nat) : TOk h (shG h k) (shL h k) where
  ng := by simp [shG]
  nl := by simp [shL]
  gb i hi := by
    have := hp _ (pa_mem hi)
    rw [shG, sh_at _ hi]; unfold sdW; split <;> omega
  lb i hi := by
    have := hp _ (pa_mem hi)
    rw [shL, sh_at _ hi]; unfold sdL; split <;> omega
/-! ### straight between keels -/
theorem adds_prs (x : Prt) (a f : Int) (k : Nat) (g l w : Int) : ∃ c d : Int, (∀ w, adds a f k x (prs x g l w) = c - d * abv x w) := by
  match k with
  | 0 => exact ⟨g, l, fun w => rfl⟩
  | 1 => exact ⟨g * (x.pt - a), l * (x.pt - a), fun w => by simp only [adds, prs]; rw [Int.sub_mul, Int.mul_right_comm]⟩
  | k + 2 => exact ⟨g * (f - x.pt), l * (f - x.pt), fun w => by simp only [adds, prs]; rw [Int.sub_mul, Int.mul_right_comm]⟩
theorem straight {h : Hul} (k : Nat) {lo hi : Int} (hlh : lo ≤ hi) (hk : ∀ x ∈ h.parts, x.kl ≤ lo ∨ hi ≤ x.kl) :
    ∀ n, n ≤ h.parts.length → ∃ c : Int, ∀ w, lo ≤ w → w ≤ hi → sm (ltm h k w) n = sm (ltm h k lo) n + (w - lo) * c
  | 0, _ => ⟨0, fun w _ _ => by simp [sm]⟩
  | n + 1, hn => by
    obtain ⟨c, hc⟩ := straight k hlh hk n (by omega)
    obtain ⟨e, d, hd⟩ := adds_prs (pa h.parts n) h.aft h.fore k (sdW h.aft h.fore k (pa h.parts n)) (sdL h.aft h.fore k (pa h.parts n)) 0
    rcases hk _ (pa_mem (show n < h.parts.length by omega)) with h1 | h1
    · refine ⟨c - d, fun w h2 h3 => ?_⟩
      simp only [sm]
      rw [hc w h2 h3]
      have ew : ltm h k w n = e - d * abv (pa h.parts n) w := hd w
      have el : ltm h k lo n = e - d * abv (pa h.parts n) lo := hd lo
      rw [ew, el]
      have a1 : abv (pa h.parts n) w = abv (pa h.parts n) lo + (w - lo) := by unfold abv; omega
      rw [a1, Int.mul_add, Int.mul_comm d (w - lo), Int.mul_sub (w - lo) c d]
      omega
    · refine ⟨c, fun w h2 h3 => ?_⟩
      simp only [sm]
      rw [hc w h2 h3]
      have ew : ltm h k w n = e - d * abv (pa h.parts n) w := hd w
      have el : ltm h k lo n = e - d * abv (pa h.parts n) lo := hd lo
      rw [ew, el]
      have a1 : abv (pa h.parts n) w = abv (pa h.parts n) lo := by unfold abv; omega
      rw [a1]
      omega
theorem between_ {h : Hul} (k : Nat) {lo hi B : Int} (hlh : lo ≤ hi) (hk : ∀ x ∈ h.parts, x.kl ≤ lo ∨ hi ≤ x.kl) (h0 : B ≤ lst h k lo) (h1 : B ≤ lst h k hi) {w : Int} (hw0 : lo ≤ w) (hw1 : w ≤ hi) : B ≤ lst h k w := by
  obtain ⟨c, hc⟩ := straight k hlh hk h.parts.length (Nat.le_refl _)
  have e1 := hc hi hlh (Int.le_refl _)
  have e2 := hc w hw0 hw1
  unfold lst at h0 h1 ⊢
  rcases Int.le_total 0 c with h2 | h2
  · have := Int.mul_nonneg (show 0 ≤ w - lo by omega) h2
    omega
  · have h3 : (hi - lo) * c ≤ (w - lo) * c := Int.mul_le_mul_of_nonpos_right (by omega) h2
    omega
/-- what stands at both ends stands between them. -/
theorem stands_between {h : Hul} {lo hi : Int} (hlh : lo ≤ hi) (hk : ∀ x ∈ h.parts, x.kl ≤ lo ∨ hi ≤ x.kl) (h0 : whyH h lo = 0) (h1 : whyH h hi = 0) {w : Int} (hw0 : lo ≤ w) (hw1 : w ≤ hi) : whyH h w = 0 := by
  unfold whyH at h0 h1 ⊢
  rw [whyB_zero] at h0 h1 ⊢
  exact ⟨between_ 0 hlh hk h0.1 h1.1 hw0 hw1, between_ 1 hlh hk h0.2.1 h1.2.1 hw0 hw1, between_ 2 hlh hk h0.2.2 h1.2.2 hw0 hw1⟩
/-! ### the first height -/
/-- the first of n heights from lo on at which f is not 0, and what it is. -/
def scan (f : Int → Int) (lo : Int) : Nat → Int × Int
  | 0 => (0, 0)
  | n + 1 => if f lo = 0 then scan f (lo + 1) n else (lo, f lo)
theorem scan_none {f : Int → Int} : ∀ {n : Nat} {lo : Int}, (∀ w, lo ≤ w → w < lo + n → f w = 0) → scan f lo n = (0, 0)
  | 0, _, _ => rfl
  | n + 1, lo, h => by
    simp only [scan]
    rw [if_pos (h lo (by omega) (by omega))]
    exact scan_none fun w h1 h2 => h w (by omega) (by push_cast; omega)
theorem scan_at {f : Int → Int} : ∀ {n : Nat} {lo v : Int}, lo ≤ v → v < lo + n → (∀ w, lo ≤ w → w < v → f w = 0) → f v ≠ 0 → scan f lo n = (v, f v)
  | 0, _, _, h1, h2, _, _ => by omega
  | n + 1, lo, v, h1, h2, h, hv => by
    simp only [scan]
    by_cases e : lo = v
    · subst e; rw [if_neg hv]
    · rw [if_pos (h lo (by omega) (by omega))]
      exact scan_at (by omega) (by push_cast at h2; omega) (fun w h3 h4 => h w (by omega) h4) hv
/-- why a hull does not surely stand from lo to hi, and from where on: the height first. -/
def fall (h : Hul) (lo hi : Int) : Int × Int := scan (whyH h) lo (hi + 1 - lo).toNat
theorem fall_none {h : Hul} {lo hi : Int} (hw : ∀ w, lo ≤ w → w ≤ hi → whyH h w = 0) : fall h lo hi = (0, 0) := scan_none fun w h1 h2 => hw w h1 (by omega)
theorem fall_at {h : Hul} {lo hi v : Int} (h1 : lo ≤ v) (h2 : v ≤ hi) (hw : ∀ w, lo ≤ w → w < v → whyH h w = 0) (hv : whyH h v ≠ 0) : fall h lo hi = (v, whyH h v) := scan_at h1 (by omega) hw hv
theorem fall_cases (h : Hul) (lo hi : Int) : (fall h lo hi = (0, 0) ∧ ∀ w, lo ≤ w → w ≤ hi → whyH h w = 0) ∨ ∃ v, lo ≤ v ∧ v ≤ hi ∧ (∀ w, lo ≤ w → w < v → whyH h w = 0) ∧ whyH h v ≠ 0 ∧ fall h lo hi = (v, whyH h v) := by
  have key : ∀ n : Nat, (∀ w, lo ≤ w → w < lo + n → whyH h w = 0) ∨ ∃ v, lo ≤ v ∧ v < lo + n ∧ (∀ w, lo ≤ w → w < v → whyH h w = 0) ∧ whyH h v ≠ 0 := by
    intro n
    induction n with
    | zero => exact .inl fun w h1 h2 => by omega
    | succ n ih =>
      rcases ih with h1 | ⟨v, h1, h2, h3⟩
      · by_cases hz : whyH h (lo + n) = 0
        · exact .inl fun w h2 h3 => by
            by_cases e : w = lo + n
            · rw [e]; exact hz
            · exact h1 w h2 (by push_cast at h3; omega)
        · exact .inr ⟨lo + n, by omega, by push_cast; omega, h1, hz⟩
      · exact .inr ⟨v, h1, by push_cast; omega, h3⟩
  rcases key (hi + 1 - lo).toNat with h1 | ⟨v, h1, h2, h3, h4⟩
  · have : ∀ w, lo ≤ w → w ≤ hi → whyH h w = 0 := fun w h2 h3 => h1 w h2 (by omega)
    exact .inl ⟨fall_none this, this⟩
  · exact .inr ⟨v, h1, by omega, h3, h4, fall_at h1 (by omega) h3 h4⟩
/-- it surely stands through a tide. -/
def thru (h : Hul) (lo hi : Int) : Bool := (fall h lo hi).2 == 0
theorem thru_iff {h : Hul} {lo hi : Int} : thru h lo hi = true ↔ ∀ w, lo ≤ w → w ≤ hi → whyH h w = 0 := by
  unfold thru
  rcases fall_cases h lo hi with ⟨e, hw⟩ | ⟨v, h1, h2, h3, h4, e⟩
  · rw [e]; simpa using hw
  · rw [e]
    constructor
    · intro h5; exact absurd (by simpa using h5) h4
    · intro h5; exact absurd (h5 v h1 h2) h4
/-! ### ballast -/
/-- a part with ballast. -/
def ldP (x : Prt) (n : Int) : Prt := { x with w0 := x.w0 + n, w1 := x.w1 + n }
/-- a hull with ballast on its p-th part. -/
def ldH (h : Hul) (p : Nat) (n : Int) : Hul := { h with parts := h.parts.set p (ldP (pa h.parts p) n) }
theorem pa_set {l : List Prt} {p : Nat} (x : Prt) (hp : p < l.length) (i : Nat) : pa (l.set p x) i = if i = p then x else pa l i := by
  unfold pa
  rw [List.getElem?_set]
  by_cases e : p = i
  · subst e; simp [hp]
  · rw [if_neg e, if_neg (fun h => e h.symm)]
theorem hvy_ld (a f : Int) (k : Nat) (x : Prt) (n : Int) : hvy a f k (ldP x n) = hvy a f k x := by unfold hvy ldP; split <;> rfl
theorem abv_ld (x : Prt) (n w : Int) : abv (ldP x n) w = abv x w := rfl
theorem adds_ld (a f : Int) (k : Nat) (x : Prt) (n p : Int) : adds a f k (ldP x n) p = adds a f k x p := by unfold adds ldP; split <;> rfl
theorem ltm_ld {h : Hul} {p : Nat} (hp : p < h.parts.length) (ha : h.aft ≤ (pa h.parts p).pt) (hf : (pa h.parts p).pt ≤ h.fore) (k : Nat) (w n : Int) (i : Nat) :
    ltm (ldH h p n) k w i = if i = p then ltm h k w p + adds h.aft h.fore k (pa h.parts p) n else ltm h k w i := by
  unfold ltm ldH
  dsimp only
  rw [pa_set _ hp]
  by_cases e : i = p
  · rw [if_pos e, if_pos e]
    have hh : hvy h.aft h.fore k (pa h.parts p) = false := by
      unfold hvy; split <;> simp <;> omega
    rw [adds_ld]
    unfold sdW sdL
    rw [hvy_ld, hh]
    simp only [Bool.false_eq_true, if_false, prs, abv_ld]
    show adds h.aft h.fore k (pa h.parts p) ((pa h.parts p).w0 + n - (pa h.parts p).l1 * abv (pa h.parts p) w) = _
    unfold adds
    match k with
    | 0 => simp only; omega
    | 1 => simp only; rw [← Int.add_mul]; congr 1; omega
    | k + 2 => simp only; rw [← Int.add_mul]; congr 1; omega
  · rw [if_neg e, if_neg e]
theorem sm_one {f g : Nat → Int} {p : Nat} {d : Int} (h : ∀ i, g i = if i = p then f p + d else f i) : ∀ n, sm g n = sm f n + if p < n then d else 0
  | 0 => by simp [sm]
  | n + 1 => by
    simp only [sm]
    rw [sm_one h n, h n]
    by_cases e : n = p
    · subst e; rw [if_pos rfl, if_neg (by omega), if_pos (by omega)]; omega
    · rw [if_neg e]
      by_cases e2 : p < n
      · rw [if_pos e2, if_pos (by omega)]; omega
      · rw [if_neg e2, if_neg (by omega)]; omega
theorem lst_ld {h : Hul} {p : Nat} (hp : p < h.parts.length) (ha : h.aft ≤ (pa h.parts p).pt) (hf : (pa h.parts p).pt ≤ h.fore) (k : Nat) (w n : Int) :
    lst (ldH h p n) k w = lst h k w + adds h.aft h.fore k (pa h.parts p) n := by
  have hl : (ldH h p n).parts.length = h.parts.length := by simp [ldH]
  unfold lst
  rw [hl, sm_one (f := ltm h k w) (p := p) (d := adds h.aft h.fore k (pa h.parts p) n) (fun i => ltm_ld hp ha hf k w n i), if_pos hp]
theorem adds_mono {x : Prt} {a f : Int} (ha : a ≤ x.pt) (hf : x.pt ≤ f) (k : Nat) {n m : Int} (h : n ≤ m) : adds a f k x n ≤ adds a f k x m := by
  unfold adds
  match k with
  | 0 => exact h
  | 1 => exact Int.mul_le_mul_of_nonneg_right h (by omega)
  | k + 2 => exact Int.mul_le_mul_of_nonneg_right h (by omega)
theorem whyH_mono {h h' : Hul} {w w' : Int} (hl : ∀ k, lst h k w ≤ lst h' k w') (h0 : whyH h w = 0) : whyH h' w' = 0 := by
  unfold whyH at h0 ⊢
  rw [whyB_zero] at h0 ⊢
  have := hl 0; have := hl 1; have := hl 2
  omega
theorem thru_ld {h : Hul} {p : Nat} (hp : p < h.parts.length) (ha : h.aft ≤ (pa h.parts p).pt) (hf : (pa h.parts p).pt ≤ h.fore) {lo hi n m : Int} (hnm : n ≤ m) (ht : thru (ldH h p n) lo hi = true) : thru (ldH h p m) lo hi = true := by
  rw [thru_iff] at ht ⊢
  intro w h1 h2
  refine whyH_mono (fun k => ?_) (ht w h1 h2)
  rw [lst_ld hp ha hf, lst_ld hp ha hf]
  have := adds_mono ha hf k hnm
  omega
theorem ldH_zero {h : Hul} {p : Nat} (hp : p < h.parts.length) : ldH h p 0 = h := by
  unfold ldH ldP
  rw [pa_at hp]
  simp only [Int.add_zero]
  rw [show ({ name := h.parts[p].name, pt := h.parts[p].pt, w0 := h.parts[p].w0, w1 := h.parts[p].w1, kl := h.parts[p].kl, l0 := h.parts[p].l0, l1 := h.parts[p].l1 } : Prt) = h.parts[p] from rfl, List.set_getElem_self]
theorem ldH_bk {h : Hul} (hh : HOk h) {p : Nat} (hp : p < h.parts.length) {n : Int} (h0 : 0 ≤ n) (h1 : n ≤ 2000000) : HBk (ldH h p n) := by
  have hl : (ldH h p n).parts.length = h.parts.length := by simp [ldH]
  refine ⟨by rw [hl]; exact hh.n1, by rw [hl]; exact hh.n10, hh.a0, hh.af, hh.f1, fun x hx => ?_⟩
  unfold ldH at hx
  dsimp only at hx
  rcases List.mem_or_eq_of_mem_set hx with h2 | h2
  · exact (hh.ps x h2).bk
  · have k := hh.ps _ (pa_mem hp)
    subst h2
    exact ⟨k.p0, k.p1, by have := k.w0; simp [ldP]; omega, by have := k.w01; simp [ldP]; omega, by have := k.w1; simp [ldP]; omega, k.k0, k.k1, k.l0, k.l01, k.l1⟩
end Td
end Go.Proofs.Ythdcklonamgpiaa
