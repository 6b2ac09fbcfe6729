import Derived.Test.YtccacinnelmnpaaPlain
/- Which levels there can be, by membership: spans of levels are exactly what truths reach. -/
namespace Go.Proofs.Ytccacinnelmnpaa
namespace Td
set_option linter.unusedVariables false
/-- a level is among some. -/
def mem (o : Option (Int × Int)) (n : Int) : Prop := ∃ x, o = some x ∧ x.1 ≤ n ∧ n ≤ x.2
/-- some levels are from 0 to 200. -/
def Vd (o : Option (Int × Int)) : Prop := ∀ x, o = some x → 0 ≤ x.1 ∧ x.1 ≤ x.2 ∧ x.2 ≤ 200
theorem mem_none (n : Int) : ¬ mem none n := by rintro ⟨x, h, _⟩; cases h
theorem mem_some (x : Int × Int) (n : Int) : mem (some x) n ↔ x.1 ≤ n ∧ n ≤ x.2 := by
  constructor
  · rintro ⟨y, h, h1⟩; cases h; exact h1
  · intro h; exact ⟨x, rfl, h⟩
theorem mem_btw (a b n : Int) : mem (btw a b) n ↔ a ≤ n ∧ n ≤ b := by
  unfold btw
  split
  · constructor
    · intro h; exact absurd h (mem_none n)
    · intro h; omega
  · exact mem_some _ _
theorem mem_com (a b : Option (Int × Int)) (n : Int) : mem (com a b) n ↔ mem a n ∧ mem b n := by
  cases a with
  | none => simp [com, mem_none]
  | some x => cases b with
    | none => simp [com, mem_none]
    | some y => simp only [com, mem_btw, mem_some]; omega
def near (s : Spc) (r : Rd) (n : Int) : Prop := r.shown - errOf s r ≤ n ∧ n ≤ r.shown + errOf s r
theorem mem_cut (s : Spc) (r : Rd) (o : Option (Int × Int)) (n : Int) : mem (cut s r o) n ↔ mem o n ∧ near s r n := by
  unfold cut near; rw [mem_com, mem_btw]
theorem mem_agr (s : Spc) (l : List Rd) (o : Option (Int × Int)) (n : Int) : mem (agr s l o) n ↔ mem o n ∧ ∀ r ∈ l, near s r n := by
  unfold agr
  induction l generalizing o with
  | nil => simp
  | cons r l ih =>
    rw [List.foldl_cons, ih, mem_cut]
    simp only [List.mem_cons, forall_eq_or_imp]
    constructor
    · rintro ⟨⟨a, b⟩, c⟩; exact ⟨a, b, c⟩
    · rintro ⟨a, b, c⟩; exact ⟨⟨a, b⟩, c⟩
/-- no span is turned. -/
def Up (o : Option (Int × Int)) : Prop := ∀ x, o = some x → x.1 ≤ x.2
theorem Vd.up {o : Option (Int × Int)} (h : Vd o) : Up o := fun x hx => (h x hx).2.1
theorem up_btw (a b : Int) : Up (btw a b) := by
  intro x hx
  unfold btw at hx
  split at hx
  · cases hx
  · cases hx; simp; omega
theorem up_ext {o p : Option (Int × Int)} (ho : Up o) (hp : Up p) (h : ∀ n, mem o n ↔ mem p n) : o = p := by
  cases o with
  | none => cases p with
    | none => rfl
    | some y =>
      have := hp y rfl
      exact absurd ((h y.1).2 ((mem_some _ _).2 ⟨by omega, by omega⟩)) (mem_none _)
  | some x =>
    have hx := ho x rfl
    have h1 := (h x.1).1 ((mem_some _ _).2 ⟨by omega, by omega⟩)
    have h2 := (h x.2).1 ((mem_some _ _).2 ⟨by omega, by omega⟩)
    cases p with
    | none => exact absurd h1 (mem_none _)
    | some y =>
      have hy := hp y rfl
      have h3 := (h y.1).2 ((mem_some _ _).2 ⟨by omega, by omega⟩)
      have h4 := (h y.2).2 ((mem_some _ _).2 ⟨by omega, by omega⟩)
      rw [mem_some] at h1 h2 h3 h4
      congr 1
      exact Prod.ext (by omega) (by omega)
theorem vd_of {o : Option (Int × Int)} (hu : Up o) (h : ∀ n, mem o n → 0 ≤ n ∧ n ≤ 200) : Vd o := by
  intro x hx
  have hu := hu x hx
  have h1 := h x.1 ⟨x, hx, by omega, by omega⟩
  have h2 := h x.2 ⟨x, hx, by omega, by omega⟩
  omega
theorem Vd.mem {o : Option (Int × Int)} (h : Vd o) {n : Int} (hn : mem o n) : 0 ≤ n ∧ n ≤ 200 := by
  obtain ⟨x, hx, h1, h2⟩ := hn
  have := h x hx
  omega
theorem up_agr {s : Spc} {l : List Rd} {o : Option (Int × Int)} (h : Up o) : Up (agr s l o) := by
  unfold agr
  induction l generalizing o with
  | nil => exact h
  | cons r l ih =>
    rw [List.foldl_cons]
    apply ih
    intro x hx
    unfold cut com at hx
    split at hx
    · exact up_btw _ _ x hx
    · cases hx
theorem vd_agr {s : Spc} {l : List Rd} {o : Option (Int × Int)} (h : Vd o) : Vd (agr s l o) :=
  vd_of (up_agr h.up) fun n hn => h.mem ((mem_agr s l o n).1 hn).1
theorem hld_in (n : Int) : 0 ≤ hld n ∧ hld n ≤ 200 := by unfold hld; omega
theorem hld_mono {a b : Int} (h : a ≤ b) : hld a ≤ hld b := by unfold hld; omega
theorem hld_id {n : Int} (h0 : 0 ≤ n) (h1 : n ≤ 200) : hld n = n := by unfold hld; omega
/-- what a minute makes of some levels. -/
theorem mem_aft {x c : Int × Int} (hx : x.1 ≤ x.2) (hc : c.1 ≤ c.2) (n : Int) : mem (aft x c) n ↔ ∃ k b, x.1 ≤ k ∧ k ≤ x.2 ∧ c.1 ≤ b ∧ b ≤ c.2 ∧ n = hld (k + b) := by
  unfold aft
  rw [mem_btw]
  constructor
  · rintro ⟨h1, h2⟩
    have hin : 0 ≤ n ∧ n ≤ 200 := by
      have := hld_in (x.1 + c.1); have := hld_in (x.2 + c.2); omega
    -- the number that leads to n: n itself, drawn into the sums
    obtain ⟨t, ht1, ht2, ht3⟩ : ∃ t, x.1 + c.1 ≤ t ∧ t ≤ x.2 + c.2 ∧ n = hld t := by
      by_cases ha : n < x.1 + c.1
      · exact ⟨x.1 + c.1, by omega, by omega, by unfold hld at *; omega⟩
      · by_cases hb : x.2 + c.2 < n
        · exact ⟨x.2 + c.2, by omega, by omega, by unfold hld at *; omega⟩
        · exact ⟨n, by omega, by omega, (hld_id hin.1 hin.2).symm⟩
    by_cases hk : t - c.1 ≤ x.2
    · exact ⟨t - c.1, c.1, by omega, hk, by omega, hc, by rw [ht3]; congr 1; omega⟩
    · exact ⟨x.2, t - x.2, hx, by omega, by omega, by omega, by rw [ht3]; congr 1; omega⟩
  · rintro ⟨k, b, h1, h2, h3, h4, rfl⟩
    exact ⟨hld_mono (by omega), hld_mono (by omega)⟩
theorem vd_aft {x c : Int × Int} : Vd (aft x c) := by
  refine vd_of (up_btw _ _) fun n hn => ?_
  rw [aft, mem_btw] at hn
  have := hld_in (x.1 + c.1); have := hld_in (x.2 + c.2); omega
theorem chg_ok {s : Spc} (h : SOk s) (m : Int) : -20 ≤ (chg s m).1 ∧ (chg s m).1 ≤ (chg s m).2 ∧ (chg s m).2 ≤ 20 := by
  obtain ⟨_, _, _, _, _, _, _, _, _, _, _, _, _, _, _, _⟩ := h
  unfold chg
  split
  · exact ⟨by omega, by omega, by omega⟩
  · exact ⟨by omega, by omega, by omega⟩
theorem vd_pre {s : Spc} {l : List Rd} {m : Int} {o : Option (Int × Int)} (h : Vd o) (k : Nat) : Vd (pre s l m o k) := by
  cases k with
  | zero => exact h
  | succ k =>
    intro x hx
    rw [pre] at hx
    cases hl : lv s l m o k with
    | none => rw [hl] at hx; cases hx
    | some y => rw [hl] at hx; exact vd_aft x hx
theorem vd_lv {s : Spc} {l : List Rd} {m : Int} {o : Option (Int × Int)} (h : Vd o) (k : Nat) : Vd (lv s l m o k) := by
  rw [lv_eq]; exact vd_agr (vd_pre h k)
theorem vd_start {s : Spc} (h : SOk s) : Vd (btw s.s0 s.s1) := by
  refine vd_of (up_btw _ _) fun n hn => ?_
  rw [mem_btw] at hn
  have := h.s0; have := h.s1; omega
theorem errOf_ok {s : Spc} (h : SOk s) (r : Rd) : 0 ≤ errOf s r ∧ errOf s r ≤ 50 := by
  unfold errOf
  cases ht : s.tools[r.tool.toNat]? with
  | none => simp
  | some t => simpa using h.er t (List.mem_of_getElem? ht)
/-- a list of levels in which each comes of the one before. -/
def Step (s : Spc) (m : Int) (t : Nat → Int) (k : Nat) : Prop := ∀ j, j < k → ∃ b, (chg s (m + j)).1 ≤ b ∧ b ≤ (chg s (m + j)).2 ∧ t (j + 1) = hld (t j + b)
/-- it agrees with the readings of its minutes. -/
def Fits (s : Spc) (l : List Rd) (m : Int) (t : Nat → Int) (k : Nat) : Prop := ∀ j, j ≤ k → ∀ r ∈ l, r.min = m + j → near s r (t j)
theorem mem_atM {l : List Rd} {m : Int} {r : Rd} : r ∈ atM l m ↔ r ∈ l ∧ r.min = m := by simp [atM]
/-- the levels are exactly what truths reach. -/
theorem mem_lv {s : Spc} (hs : SOk s) {l : List Rd} {m : Int} {o : Option (Int × Int)} (ho : Vd o) (k : Nat) (n : Int) :
    mem (lv s l m o k) n ↔ ∃ t : Nat → Int, mem o (t 0) ∧ Step s m t k ∧ Fits s l m t k ∧ t k = n := by
  induction k generalizing n with
  | zero =>
    rw [lv, mem_agr]
    constructor
    · rintro ⟨h1, h2⟩
      refine ⟨fun _ => n, h1, fun j hj => absurd hj (by omega), fun j hj r hr he => h2 r (mem_atM.2 ⟨hr, by simpa [show j = 0 by omega] using he⟩), rfl⟩
    · rintro ⟨t, h1, _, h3, rfl⟩
      exact ⟨h1, fun r hr => h3 0 (Nat.le_refl _) r (mem_atM.1 hr).1 (by simpa using (mem_atM.1 hr).2)⟩
  | succ k ih =>
    rw [lv_eq, mem_agr]
    constructor
    · rintro ⟨h1, h2⟩
      rw [pre] at h1
      cases hl : lv s l m o k with
      | none => rw [hl] at h1; exact absurd h1 (mem_none n)
      | some x =>
        rw [hl] at h1
        have hx := vd_lv ho k x hl
        obtain ⟨a, b, h3, h4, h5, h6, rfl⟩ := (mem_aft hx.2.1 (chg_ok hs (m + k)).2.1 n).1 h1
        obtain ⟨t, t1, t2, t3, rfl⟩ := (ih a).1 ⟨x, hl, h3, h4⟩
        refine ⟨fun j => if j ≤ k then t j else hld (t k + b), by simpa using t1, ?_, ?_, by simp [show ¬ k + 1 ≤ k by omega]⟩
        · intro j hj
          by_cases hjk : j < k
          · obtain ⟨c, c1, c2, c3⟩ := t2 j hjk
            exact ⟨c, c1, c2, by simp [show j ≤ k by omega, show j + 1 ≤ k by omega, c3]⟩
          · obtain rfl : j = k := by omega
            exact ⟨b, h5, h6, by simp [show ¬ j + 1 ≤ j by omega]⟩
        · intro j hj r hr he
          by_cases hjk : j ≤ k
          · simp only [hjk, if_true]; exact t3 j hjk r hr he
          · obtain rfl : j = k + 1 := by omega
            simp only [hjk, if_false]
            exact h2 r (mem_atM.2 ⟨hr, he⟩)
    · rintro ⟨t, t1, t2, t3, rfl⟩
      have hk : mem (lv s l m o k) (t k) := (ih (t k)).2 ⟨t, t1, fun j hj => t2 j (by omega), fun j hj => t3 j (by omega), rfl⟩
      obtain ⟨x, hx, x1, x2⟩ := hk
      refine ⟨?_, fun r hr => t3 (k + 1) (Nat.le_refl _) r (mem_atM.1 hr).1 (mem_atM.1 hr).2⟩
      obtain ⟨b, b1, b2, b3⟩ := t2 k (by omega)
      show mem ((lv s l m o k).bind _) _
      rw [hx]
      exact (mem_aft (vd_lv ho k x hx).2.1 (chg_ok hs (m + k)).2.1 _).2 ⟨t k, b, x1, x2, b1, b2, b3⟩
end Td
end Go.Proofs.Ytccacinnelmnpaa
