import Derived.Test.YthdcklonamgpiaaMathC
/- The plain mathematics of layer 5, on: hulls with narrower spans, with wider ground, turned end for end, with a part that is two. -/
namespace Go.Proofs.Ythdcklonamgpiaa
namespace Td
set_option linter.unusedVariables false
theorem pok_num {x : Prt} : okNum x = true ∧ tn [(x.w0, x.w1), (x.l0, x.l1)] = false ↔ POk x := by
  constructor
  · rintro ⟨h1, h2⟩
    simp [okNum, sw, tn, wi] at h1 h2
    constructor <;> omega
  · intro h
    obtain ⟨h1, h2, h3, h4, h5, h6, h7, h8, h9, h10⟩ := h
    simp [okNum, sw, tn, wi]
    omega
theorem partE_iff {x : Prt} {b : List Prt} : partE x b = 0 ↔ isName x.name = true ∧ (b.map Prt.name).any (fun u => eqS u x.name) = false ∧ POk x := by
  rw [← pok_num, List.any_map]
  unfold partE
  constructor
  · intro h
    split at h
    · rename_i h1
      split at h
      · cases h
      · rename_i h2
        split at h
        · rename_i h3
          split at h
          · cases h
          · rename_i h4
            exact ⟨h1, by simpa [Function.comp_def] using h2, h3, by simpa using h4⟩
        · cases h
    · cases h
  · rintro ⟨h1, h2, h3, h4⟩
    rw [if_pos h1, if_neg (by simpa [Function.comp_def] using h2), if_pos h3, if_neg (by simp [h4])]
theorem chk_iff {h : Hul} : (chk h).2.2 = 0 ↔ groundE h = 0 ∧ ∀ j, j < h.parts.length → partAt h.parts j = 0 := by
  unfold chk
  constructor
  · intro hc
    split at hc
    · rename_i hg; simp at hg; exact absurd hc hg
    · rename_i hg
      split at hc
      · rename_i hf; simp at hf; exact absurd hc hf
      · rename_i hf
        exact ⟨by simpa using hg, ff_zero.1 (by simpa using hf)⟩
  · rintro ⟨h1, h2⟩
    rw [if_neg (by simpa using h1), if_neg (by simpa using ff_zero.2 h2)]
theorem groundE_iff {h : Hul} : groundE h = 0 ↔ 1 ≤ h.parts.length ∧ h.parts.length ≤ 10 ∧ 0 ≤ h.aft ∧ h.aft < h.fore ∧ h.fore ≤ 5000 := by
  unfold groundE
  constructor
  · intro hg
    split at hg
    · rename_i h1
      split at hg
      · rename_i h2
        split at hg
        · cases hg
        · simp [wi] at h1 h2
          omega
      · cases hg
    · cases hg
  · rintro ⟨h1, h2, h3, h4, h5⟩
    rw [if_pos (by simp [wi]; omega), if_pos (by simp [wi]; omega), if_neg (by omega)]
/-- a hull with the names of a valid one is valid if its numbers are. -/
theorem chk_of {h f : Hul} (hc : (chk h).2.2 = 0) (hn : f.parts.map Prt.name = h.parts.map Prt.name) (hp : ∀ x ∈ f.parts, POk x) (a0 : 0 ≤ f.aft) (af : f.aft < f.fore) (f1 : f.fore ≤ 5000) : (chk f).2.2 = 0 := by
  rw [chk_iff] at hc ⊢
  obtain ⟨hg, h0⟩ := hc
  rw [groundE_iff] at hg
  have hl : f.parts.length = h.parts.length := by have := congrArg List.length hn; simpa using this
  refine ⟨groundE_iff.2 ⟨by omega, by omega, a0, af, f1⟩, fun j hj => ?_⟩
  have h1 := h0 j (by omega)
  unfold partAt at h1 ⊢
  rw [List.getElem?_eq_getElem (show j < h.parts.length by omega)] at h1
  rw [List.getElem?_eq_getElem hj]
  simp only [] at h1 ⊢
  rw [partE_iff] at h1 ⊢
  have e1 : f.parts[j].name = (h.parts[j]'(by omega)).name := by
    have := congrArg (fun l => l[j]?) hn
    simpa [hj, show j < h.parts.length by omega] using this
  refine ⟨by rw [e1]; exact h1.1, ?_, hp _ (List.getElem_mem hj)⟩
  rw [List.map_take, hn, ← List.map_take, e1]
  exact h1.2.1
/-! ### narrower spans -/
structure Finer (h f : Hul) : Prop where
  ea : f.aft = h.aft
  ef : f.fore = h.fore
  n : f.parts.length = h.parts.length
  p : ∀ i, i < h.parts.length → (pa f.parts i).pt = (pa h.parts i).pt ∧ (pa f.parts i).kl = (pa h.parts i).kl ∧ (pa h.parts i).w0 ≤ (pa f.parts i).w0 ∧ (pa f.parts i).w0 ≤ (pa f.parts i).w1 ∧ (pa f.parts i).w1 ≤ (pa h.parts i).w1 ∧
    (pa h.parts i).l0 ≤ (pa f.parts i).l0 ∧ (pa f.parts i).l0 ≤ (pa f.parts i).l1 ∧ (pa f.parts i).l1 ≤ (pa h.parts i).l1
theorem lst_finer {h f : Hul} (F : Finer h f) (k : Nat) (w : Int) : lst h k w ≤ lst f k w := by
  unfold lst
  rw [F.n]
  refine sm_le fun i hi => ?_
  obtain ⟨p1, p2, p3, p4, p5, p6, p7, p8⟩ := F.p i hi
  have e : ltm f k w i = adds h.aft h.fore k (pa h.parts i) (prs (pa h.parts i) (sdW h.aft h.fore k (pa f.parts i)) (sdL h.aft h.fore k (pa f.parts i)) w) := by
    unfold ltm prs abv
    rw [F.ea, F.ef, p2]
    unfold adds
    rw [p1]
  rw [e]
  refine adds_least k ?_ ?_ ?_ ?_ <;> (first | unfold sdW | unfold sdL) <;> split <;> omega
/-! ### wider ground -/
def widH (h : Hul) (a f : Int) : Hul := { h with aft := a, fore := f }
theorem sm_zero_mul (f : Nat → Int) (c : Int) (n : Nat) : sm (fun i => f i * c) n = sm f n * c := sm_mul f c n
theorem bal_wid0 (h : Hul) (a f : Int) (gs ls : List Int) (w : Int) : bal (widH h a f) gs ls 0 w = bal h gs ls 0 w := rfl
theorem bal_wid1 (h : Hul) (a f : Int) (gs ls : List Int) (w : Int) : bal (widH h a f) gs ls 1 w = bal h gs ls 1 w + bal h gs ls 0 w * (h.aft - a) := by
  unfold bal
  rw [← sm_mul, ← sm_add]
  refine sm_congr fun i _ => ?_
  show prs _ _ _ _ * ((pa h.parts i).pt - a) = prs _ _ _ _ * ((pa h.parts i).pt - h.aft) + prs _ _ _ _ * (h.aft - a)
  rw [← Int.mul_add]
  congr 1
  omega
theorem bal_wid2 (h : Hul) (a f : Int) (gs ls : List Int) (w : Int) : bal (widH h a f) gs ls 2 w = bal h gs ls 2 w + bal h gs ls 0 w * (f - h.fore) := by
  unfold bal
  rw [← sm_mul, ← sm_add]
  refine sm_congr fun i _ => ?_
  show prs _ _ _ _ * (f - (pa h.parts i).pt) = prs _ _ _ _ * (h.fore - (pa h.parts i).pt) + prs _ _ _ _ * (f - h.fore)
  rw [← Int.mul_add]
  congr 1
  omega
theorem wid_tok {h : Hul} {a f : Int} {gs ls : List Int} (ht : TOk (widH h a f) gs ls) : TOk h gs ls := ⟨ht.ng, ht.nl, ht.gb, ht.lb⟩
theorem why_wid {h : Hul} (hp : ∀ x ∈ h.parts, x.w0 ≤ x.w1 ∧ x.l0 ≤ x.l1) {a f : Int} (ha : a ≤ h.aft) (hf : h.fore ≤ f) {w : Int} (h0 : whyH h w = 0) : whyH (widH h a f) w = 0 := by
  obtain ⟨d, b, c⟩ := whyB_zero.1 h0
  have hs : ∀ k, TOk h (shG (widH h a f) k) (shL (widH h a f) k) := fun k => wid_tok (sh_ok (h := widH h a f) hp k)
  refine whyB_zero.2 ⟨?_, ?_, ?_⟩
  · have e : lst (widH h a f) 0 w = lst h 0 w := rfl
    omega
  · rw [← bal_sh, bal_wid1]
    have h1 := lst_le (hs 1) 1 w
    have h2 := lst_le (hs 1) 0 w
    have h3 := Int.mul_nonneg (show 0 ≤ bal h (shG (widH h a f) 1) (shL (widH h a f) 1) 0 w by omega) (show 0 ≤ h.aft - a by omega)
    omega
  · rw [← bal_sh, bal_wid2]
    have h1 := lst_le (hs 2) 2 w
    have h2 := lst_le (hs 2) 0 w
    have h3 := Int.mul_nonneg (show 0 ≤ bal h (shG (widH h a f) 2) (shL (widH h a f) 2) 0 w by omega) (show 0 ≤ f - h.fore by omega)
    omega
/-! ### turned end for end -/
def bkP (x : Prt) : Prt := { x with pt := 5000 - x.pt }
def bkH (h : Hul) : Hul := ⟨h.parts.map bkP, 5000 - h.fore, 5000 - h.aft⟩
theorem pa_map {l : List Prt} {F : Prt → Prt} {i : Nat} (hi : i < l.length) : pa (l.map F) i = F (pa l i) := by
  rw [pa_at (by simpa using hi), pa_at hi]; simp
def swp (k : Nat) : Nat := match k with | 0 => 0 | 1 => 2 | _ => 1
theorem adds_bk (a f : Int) (k : Nat) (x : Prt) (p : Int) : adds (5000 - f) (5000 - a) k (bkP x) p = adds a f (swp k) x p := by
  match k with
  | 0 => rfl
  | 1 => show p * (5000 - x.pt - (5000 - f)) = p * (f - x.pt); congr 1; omega
  | k + 2 => show p * (5000 - a - (5000 - x.pt)) = p * (x.pt - a); congr 1; omega
theorem hvy_bk (a f : Int) (k : Nat) (x : Prt) : hvy (5000 - f) (5000 - a) k (bkP x) = hvy a f (swp k) x := by
  match k with
  | 0 => rfl
  | 1 => show decide (5000 - x.pt < 5000 - f) = decide (f < x.pt); congr 1; apply propext; omega
  | k + 2 => show decide (5000 - a < 5000 - x.pt) = decide (x.pt < a); congr 1; apply propext; omega
theorem bal_bk (h : Hul) (gs ls : List Int) (k : Nat) (w : Int) : bal (bkH h) gs ls k w = bal h gs ls (swp k) w := by
  unfold bal
  rw [show (bkH h).parts.length = h.parts.length from by simp [bkH]]
  refine sm_congr fun i hi => ?_
  unfold term
  rw [show pa (bkH h).parts i = bkP (pa h.parts i) from pa_map hi]
  exact adds_bk h.aft h.fore k _ _
theorem lst_bk (h : Hul) (k : Nat) (w : Int) : lst (bkH h) k w = lst h (swp k) w := by
  unfold lst
  rw [show (bkH h).parts.length = h.parts.length from by simp [bkH]]
  refine sm_congr fun i hi => ?_
  unfold ltm
  rw [show pa (bkH h).parts i = bkP (pa h.parts i) from pa_map hi]
  have e1 : sdW (bkH h).aft (bkH h).fore k (bkP (pa h.parts i)) = sdW h.aft h.fore (swp k) (pa h.parts i) := by
    unfold sdW
    rw [show hvy (bkH h).aft (bkH h).fore k (bkP (pa h.parts i)) = hvy h.aft h.fore (swp k) (pa h.parts i) from hvy_bk _ _ _ _]
    rfl
  have e2 : sdL (bkH h).aft (bkH h).fore k (bkP (pa h.parts i)) = sdL h.aft h.fore (swp k) (pa h.parts i) := by
    unfold sdL
    rw [show hvy (bkH h).aft (bkH h).fore k (bkP (pa h.parts i)) = hvy h.aft h.fore (swp k) (pa h.parts i) from hvy_bk _ _ _ _]
    rfl
  rw [e1, e2]
  exact adds_bk h.aft h.fore k _ _
theorem bk_ok {h : Hul} (hc : (chk h).2.2 = 0) : (chk (bkH h)).2.2 = 0 := by
  have hh := chk_ok hc
  have := hh.a0; have := hh.af; have := hh.f1
  refine chk_of hc (by simp [bkH, bkP, Function.comp_def]) (fun x hx => ?_) (by show 0 ≤ 5000 - h.fore; omega) (by show 5000 - h.fore < 5000 - h.aft; omega) (by show 5000 - h.aft ≤ 5000; omega)
  obtain ⟨y, hy, rfl⟩ := List.mem_map.1 hx
  obtain ⟨h1, h2, h3, h4, h5, h6, h7, h8, h9, h10⟩ := hh.ps y hy
  exact ⟨by show 0 ≤ 5000 - y.pt; omega, by show 5000 - y.pt ≤ 5000; omega, h3, h4, h5, h6, h7, h8, h9, h10⟩
theorem bk_tok {h : Hul} {gs ls : List Int} (ht : TOk h gs ls) : TOk (bkH h) gs ls := by
  have hl : (bkH h).parts.length = h.parts.length := by simp [bkH]
  refine ⟨by rw [hl]; exact ht.ng, by rw [hl]; exact ht.nl, fun i hi => ?_, fun i hi => ?_⟩
  · rw [hl] at hi
    rw [show pa (bkH h).parts i = bkP (pa h.parts i) from pa_map hi]
    exact ht.gb i hi
  · rw [hl] at hi
    rw [show pa (bkH h).parts i = bkP (pa h.parts i) from pa_map hi]
    exact ht.lb i hi
/-! ### a part that is two -/
/-- what is left of a part, and the second part. -/
def jnP (x : Prt) (a b : Int) : Prt := { x with w0 := x.w0 - a, w1 := x.w1 - (a + (x.w1 - x.w0) / 2), l0 := x.l0 - b, l1 := x.l1 - (b + (x.l1 - x.l0) / 2) }
def jnQ (x : Prt) (nm : ByteArray) (a b : Int) : Prt := { x with name := nm, w0 := a, w1 := a + (x.w1 - x.w0) / 2, l0 := b, l1 := b + (x.l1 - x.l0) / 2 }
def jnH (h : Hul) (i : Nat) (nm : ByteArray) (a b : Int) : Hul := { h with parts := (h.parts ++ [jnQ (pa h.parts i) nm a b]).set i (jnP (pa h.parts i) a b) }
theorem jn_two (x : Prt) (nm : ByteArray) (a b : Int) (s t : Int) (k : Nat) (w : Int) :
    adds s t k (jnQ x nm a b) (prs (jnQ x nm a b) (sdW s t k (jnQ x nm a b)) (sdL s t k (jnQ x nm a b)) w) + adds s t k (jnP x a b) (prs (jnP x a b) (sdW s t k (jnP x a b)) (sdL s t k (jnP x a b)) w) = adds s t k x (prs x (sdW s t k x) (sdL s t k x) w) := by
  have e1 : ∀ p, adds s t k (jnQ x nm a b) p = adds s t k x p := fun p => by unfold adds; split <;> rfl
  have e2 : ∀ p, adds s t k (jnP x a b) p = adds s t k x p := fun p => by unfold adds; split <;> rfl
  have e3 : hvy s t k (jnQ x nm a b) = hvy s t k x := by unfold hvy; split <;> rfl
  have e4 : hvy s t k (jnP x a b) = hvy s t k x := by unfold hvy; split <;> rfl
  have e5 : ∀ p q, adds s t k x p + adds s t k x q = adds s t k x (p + q) := fun p q => by unfold adds; split <;> (try rw [Int.add_mul]) <;> rfl
  rw [e1, e2, e5]
  congr 1
  unfold sdW sdL
  rw [e3, e4]
  have e6 : abv (jnQ x nm a b) w = abv x w := rfl
  have e7 : abv (jnP x a b) w = abv x w := rfl
  unfold prs
  rw [e6, e7]
  have e8 : ∀ g l g' l' : Int, g - l * abv x w + (g' - l' * abv x w) = (g + g') - (l + l') * abv x w := fun g l g' l' => by rw [Int.add_mul]; omega
  rw [e8]
  cases hvy s t k x
  · show (a + (x.w0 - a)) - (b + (x.l1 - x.l0) / 2 + (x.l1 - (b + (x.l1 - x.l0) / 2))) * abv x w = x.w0 - x.l1 * abv x w
    congr 1
    · omega
    · congr 1; omega
  · show (a + (x.w1 - x.w0) / 2 + (x.w1 - (a + (x.w1 - x.w0) / 2))) - (b + (x.l0 - b)) * abv x w = x.w1 - x.l0 * abv x w
    congr 1
    · omega
    · congr 1; omega
theorem lst_jn {h : Hul} {i : Nat} (hi : i < h.parts.length) (nm : ByteArray) (a b : Int) (k : Nat) (w : Int) : lst (jnH h i nm a b) k w = lst h k w := by
  unfold lst
  have hl : (jnH h i nm a b).parts.length = h.parts.length + 1 := by simp [jnH]
  rw [hl]
  have hpj : ∀ j, j < h.parts.length + 1 → pa (jnH h i nm a b).parts j = if j = i then jnP (pa h.parts i) a b else if j = h.parts.length then jnQ (pa h.parts i) nm a b else pa h.parts j := fun j hj => by
    show pa ((h.parts ++ [jnQ (pa h.parts i) nm a b]).set i (jnP (pa h.parts i) a b)) j = _
    rw [pa_set _ (by simp; omega)]
    split
    · rfl
    · unfold pa
      by_cases e : j = h.parts.length
      · subst e; simp
      · rw [if_neg e, List.getElem?_append_left (by omega)]
  have hlast : ltm (jnH h i nm a b) k w h.parts.length = adds h.aft h.fore k (jnQ (pa h.parts i) nm a b) (prs (jnQ (pa h.parts i) nm a b) (sdW h.aft h.fore k (jnQ (pa h.parts i) nm a b)) (sdL h.aft h.fore k (jnQ (pa h.parts i) nm a b)) w) := by
    unfold ltm
    rw [hpj _ (by omega), if_neg (by omega), if_pos rfl]
    rfl
  have hi' : ltm (jnH h i nm a b) k w i = adds h.aft h.fore k (jnP (pa h.parts i) a b) (prs (jnP (pa h.parts i) a b) (sdW h.aft h.fore k (jnP (pa h.parts i) a b)) (sdL h.aft h.fore k (jnP (pa h.parts i) a b)) w) := by
    unfold ltm
    rw [hpj _ (by omega), if_pos rfl]
    rfl
  have htwo := jn_two (pa h.parts i) nm a b h.aft h.fore k w
  rw [← hlast, ← hi'] at htwo
  have hsum : ∀ n, n ≤ h.parts.length → sm (ltm (jnH h i nm a b) k w) n = sm (ltm h k w) n + if i < n then ltm (jnH h i nm a b) k w i - ltm h k w i else 0 := by
    intro n
    induction n with
    | zero => intro _; simp [sm]
    | succ n ih =>
      intro hn
      simp only [sm]
      rw [ih (by omega)]
      by_cases e : n = i
      · subst e
        rw [if_neg (by omega), if_pos (by omega)]
        omega
      · have e2 : ltm (jnH h i nm a b) k w n = ltm h k w n := by
          unfold ltm
          rw [hpj _ (by omega), if_neg e, if_neg (by omega)]
          rfl
        rw [e2]
        by_cases e3 : i < n
        · rw [if_pos e3, if_pos (by omega)]; omega
        · rw [if_neg e3, if_neg (by omega)]; omega
  show sm _ h.parts.length + _ = _
  rw [hsum _ (Nat.le_refl _), if_pos hi]
  have e9 : ltm h k w i = adds h.aft h.fore k (pa h.parts i) (prs (pa h.parts i) (sdW h.aft h.fore k (pa h.parts i)) (sdL h.aft h.fore k (pa h.parts i)) w) := rfl
  omega
theorem why_jn {h : Hul} {i : Nat} (hi : i < h.parts.length) (nm : ByteArray) (a b : Int) : whyH (jnH h i nm a b) = whyH h := by
  funext w
  unfold whyH
  rw [lst_jn hi, lst_jn hi, lst_jn hi]
theorem tide_jn {h : Hul} {i : Nat} (hi : i < h.parts.length) (nm : ByteArray) (a b : Int) (hc : (chk h).2.2 = 0) (hc2 : (chk (jnH h i nm a b)).2.2 = 0) : tideA (jnH h i nm a b) = tideA h := by
  unfold tideA fall
  rw [why_jn hi, hc, hc2]
theorem least_jn {h : Hul} {i : Nat} (hi : i < h.parts.length) (nm : ByteArray) (a b : Int) (hc : (chk h).2.2 = 0) (hc2 : (chk (jnH h i nm a b)).2.2 = 0) (w : Int) : leastA (jnH h i nm a b) w = leastA h w := by
  have e : lookE (jnH h i nm a b) w w = lookE h w w := by unfold lookE; rw [hc, hc2]
  unfold leastA
  rw [e, lst_jn hi, lst_jn hi, lst_jn hi]
/-! ### the least of four ends -/
def endV (s t : Int) (k : Nat) (x : Prt) (w : Int) (e : Nat) : Int := adds s t k x (prs x (if e % 2 = 0 then x.w0 else x.w1) (if e / 2 = 0 then x.l0 else x.l1) w)
/-- the least of the first e + 1. -/
def lendV (s t : Int) (k : Nat) (x : Prt) (w : Int) : Nat → Int
  | 0 => endV s t k x w 0
  | e + 1 => if endV s t k x w (e + 1) < lendV s t k x w e then endV s t k x w (e + 1) else lendV s t k x w e
theorem lendV_le (s t : Int) (k : Nat) (x : Prt) (w : Int) : ∀ e i, i ≤ e → lendV s t k x w e ≤ endV s t k x w i
  | 0, i, h => by obtain rfl : i = 0 := by omega
                  exact Int.le_refl _
  | e + 1, i, h => by
    unfold lendV
    by_cases h1 : i = e + 1
    · subst h1; split <;> omega
    · have := lendV_le s t k x w e i (by omega)
      split <;> omega
theorem lendV_mem (s t : Int) (k : Nat) (x : Prt) (w : Int) : ∀ e, ∃ i, i ≤ e ∧ lendV s t k x w e = endV s t k x w i
  | 0 => ⟨0, Nat.le_refl _, rfl⟩
  | e + 1 => by
    obtain ⟨i, h1, h2⟩ := lendV_mem s t k x w e
    unfold lendV
    split
    · exact ⟨e + 1, Nat.le_refl _, rfl⟩
    · exact ⟨i, by omega, h2⟩
theorem lendV_eq {x : Prt} (s t : Int) (k : Nat) (w : Int) (hw : x.w0 ≤ x.w1) (hl : x.l0 ≤ x.l1) : lendV s t k x w 3 = adds s t k x (prs x (sdW s t k x) (sdL s t k x) w) := by
  refine Int.le_antisymm ?_ ?_
  · by_cases hv : hvy s t k x = true
    · have := lendV_le s t k x w 3 1 (by omega)
      refine Int.le_trans this (Int.le_of_eq ?_)
      unfold endV sdW sdL
      rw [if_pos hv, if_pos hv]
      rfl
    · have := lendV_le s t k x w 3 2 (by omega)
      refine Int.le_trans this (Int.le_of_eq ?_)
      unfold endV sdW sdL
      rw [if_neg hv, if_neg hv]
      rfl
  · obtain ⟨i, _, h2⟩ := lendV_mem s t k x w 3
    rw [h2]
    unfold endV
    refine adds_least k ?_ ?_ ?_ ?_ <;> split <;> omega
theorem lst_ends {h : Hul} (hp : ∀ x ∈ h.parts, x.w0 ≤ x.w1 ∧ x.l0 ≤ x.l1) (k : Nat) (w : Int) : lst h k w = sm (fun i => lendV h.aft h.fore k (pa h.parts i) w 3) h.parts.length :=
  sm_congr fun i hi => by rw [lendV_eq _ _ _ _ (hp _ (pa_mem hi)).1 (hp _ (pa_mem hi)).2]; rfl
end Td
end Go.Proofs.Ythdcklonamgpiaa
