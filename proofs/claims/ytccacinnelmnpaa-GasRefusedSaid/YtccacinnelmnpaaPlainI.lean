import Derived.Test.YtccacinnelmnpaaPlainH
/- What a refusal tells is a truth: the levels backwards from the last minute. -/
namespace Go.Proofs.Ytccacinnelmnpaa
namespace Td
set_option linter.unusedVariables false
/-- the truth that is built backwards, minute by minute. -/
def bk (s : Spc) (l : List Rd) (last : Int) (n : Nat) : Nat → Int :=
  bkd (lowOf s l 0 (btw s.s0 s.s1)) (fun k => (chg s k).2) last n
theorem bk_next {s : Spc} (hs : SOk s) {l : List Rd} {last : Int} {n j : Nat} (hj : j + 1 ≤ n) (h : mem (lv s l 0 (btw s.s0 s.s1) (n - j)) (bk s l last n j)) :
    mem (lv s l 0 (btw s.s0 s.s1) (n - (j + 1))) (bk s l last n (j + 1))
    ∧ hld (bk s l last n (j + 1) + (chg s ((n - (j + 1) : Nat) : Int)).1) ≤ bk s l last n j
    ∧ bk s l last n j ≤ hld (bk s l last n (j + 1) + (chg s ((n - (j + 1) : Nat) : Int)).2) := by
  obtain ⟨k, hk⟩ : ∃ k, n - (j + 1) = k := ⟨_, rfl⟩
  have hk1 : n - j = k + 1 := by omega
  have hv := vd_lv (s := s) (l := l) (m := 0) (vd_start hs) k
  have hd : bk s l last n (j + 1) = if bk s l last n j = 0 then lowOf s l 0 (btw s.s0 s.s1) (n - (j + 1)) else max (lowOf s l 0 (btw s.s0 s.s1) (n - (j + 1))) (bk s l last n j - (chg s ((n - (j + 1) : Nat) : Int)).2) := rfl
  rw [hk1] at h
  rw [hk] at hd ⊢
  obtain ⟨b, hb⟩ : ∃ b, bk s l last n j = b := ⟨_, rfl⟩
  rw [hb] at hd h ⊢
  have hb2 := (vd_lv (s := s) (l := l) (m := 0) (vd_start hs) (k + 1)).mem h
  rw [lv_eq, mem_agr, pre] at h
  have hc := chg_ok hs (0 + (k : Int))
  rw [Int.zero_add] at hc
  obtain ⟨h, _⟩ := h
  cases hl : lv s l 0 (btw s.s0 s.s1) k with
  | none => rw [hl] at h; exact absurd h (mem_none _)
  | some x =>
    rw [hl, Int.zero_add] at h
    have hx := hv x hl
    have hlo : lowOf s l 0 (btw s.s0 s.s1) k = x.1 := by simp [lowOf, hl]
    rw [hlo] at hd
    have h' : mem (btw (hld (x.1 + (chg s (k : Int)).1)) (hld (x.2 + (chg s (k : Int)).2))) b := h
    rw [mem_btw] at h'
    rw [mem_some, hd]
    unfold hld at *
    split <;> omega
theorem bk_mem {s : Spc} (hs : SOk s) {l : List Rd} {last : Int} {n : Nat} (h : mem (lv s l 0 (btw s.s0 s.s1) n) last) (j : Nat) (hj : j ≤ n) :
    mem (lv s l 0 (btw s.s0 s.s1) (n - j)) (bk s l last n j) := by
  induction j with
  | zero => exact h
  | succ j ih => exact (bk_next hs hj (ih (by omega))).1
theorem lv_near {s : Spc} {l : List Rd} {m : Int} {o : Option (Int × Int)} {k : Nat} {n : Int} (h : mem (lv s l m o k) n) {r : Rd} (hr : r ∈ l) (he : r.min = m + k) : near s r n := by
  rw [lv_eq, mem_agr] at h
  exact h.2 r (mem_atM.2 ⟨hr, he⟩)
/-- a refusal's levels: they start in the start, each comes of the one before, they agree with the readings, and end as told. -/
theorem tru_ok {s : Spc} (hs : SOk s) {l : List Rd} {last : Int} {n : Nat} (h : mem (lv s l 0 (btw s.s0 s.s1) n) last) :
    ∃ T : Nat → Int, tru s l n last = (List.range (n + 1)).map T ∧ (s.s0 ≤ T 0 ∧ T 0 ≤ s.s1) ∧ T n = last ∧ (∀ k, k ≤ n → 0 ≤ T k ∧ T k ≤ 200)
      ∧ (∀ k, k < n → hld (T k + (chg s (k : Int)).1) ≤ T (k + 1) ∧ T (k + 1) ≤ hld (T k + (chg s (k : Int)).2))
      ∧ ∀ r ∈ l, 0 ≤ r.min → r.min ≤ n → near s r (T r.min.toNat) := by
  have hm : ∀ k, k ≤ n → mem (lv s l 0 (btw s.s0 s.s1) k) (bk s l last n (n - k)) := fun k hk => by
    have := bk_mem hs h (n - k) (by omega)
    rwa [show n - (n - k) = k by omega] at this
  refine ⟨fun k => bk s l last n (n - k), rfl, ?_, by simp [bk, bkd], fun k hk => (vd_lv (vd_start hs) k).mem (hm k hk), fun k hk => ?_, fun r hr h0 h1 => ?_⟩
  · have := hm 0 (by omega)
    rw [lv_eq, mem_agr, pre, mem_btw] at this
    exact this.1
  · have h2 := bk_mem hs h (n - (k + 1)) (by omega)
    have := (bk_next hs (j := n - (k + 1)) (by omega) h2).2
    rwa [show n - (n - (k + 1) + 1) = k by omega, show n - (k + 1) + 1 = n - k by omega] at this
  · exact lv_near (hm r.min.toNat (by omega)) hr (by omega)
/-- levels go on from those of a minute. -/
theorem lv_on {s : Spc} (hs : SOk s) {l : List Rd} {o : Option (Int × Int)} (ho : Vd o) {a : Nat} (k : Nat) : lv s l (a : Int) (lv s l 0 o a) k = lv s l 0 o (a + k) := by
  induction k with
  | zero =>
    rw [lv, Nat.add_zero]
    have hu := (vd_lv (s := s) (l := l) (m := 0) ho a).up
    refine up_ext (up_agr hu) hu fun n => ?_
    rw [mem_agr]
    exact ⟨fun h => h.1, fun h => ⟨h, fun r hr => lv_near h (mem_atM.1 hr).1 (by rw [(mem_atM.1 hr).2]; omega)⟩⟩
  | succ k ih =>
    rw [lv, ih, ← Nat.add_assoc, lv]
    have e1 : (a : Int) + ((k + 1 : Nat) : Int) = 0 + ((a + k + 1 : Nat) : Int) := by omega
    have e2 : (a : Int) + (k : Int) = 0 + ((a + k : Nat) : Int) := by omega
    rw [e1, e2]
theorem kno_kno {l : List Rd} {m n : Int} (h : m ≤ n) : kno (kno l m) n = kno l m := by
  unfold kno
  rw [List.filter_eq_self]
  intro r hr
  have := (List.mem_filter.1 hr).2
  simp only [decide_eq_true_eq] at this ⊢
  omega
theorem atM_kno {l : List Rd} {m n : Int} (h : m < n) : atM (kno l m) n = [] := by
  unfold atM kno
  rw [List.filter_eq_nil_iff]
  intro r hr
  have := (List.mem_filter.1 hr).2
  simp only [decide_eq_true_eq] at this ⊢
  omega
theorem lead_false {p : Nat → Bool} {n : Nat} (h : lead p n < n) : p (lead p n) = false := by
  cases hc : p (lead p n) with
  | false => rfl
  | true =>
    have : lead p n + 1 ≤ lead p n := by
      refine lead_ge (by omega) fun j hj => ?_
      by_cases hj2 : j < lead p n
      · exact lead_true hj2
      · obtain rfl : j = lead p n := by omega
        exact hc
    omega
/-- one minute behind that of Until there is a level above the limit. -/
theorem until_next {s : Spc} (hs : SOk s) {l : List Rd} {mi : Nat} (hmi : mi ≤ 60) {x : Int × Int} (hx : now s l mi = some x) {n : Int} (hn : untl s (kno l mi) mi (some x) = n) (h1 : (mi : Int) ≤ n) (h2 : n < 60) :
    ∃ y, now s (kno l mi) (n + 1) = some y ∧ s.lim < y.2 := by
  unfold now at hx
  rw [Int.toNat_natCast] at hx
  have hv := vd_lv (s := s) (l := kno l mi) (m := 0) (vd_start hs) mi
  have hxv := hv x hx
  have hon := fun k => lv_on hs (l := kno l mi) (vd_start hs) (a := mi) k
  rw [hx] at hon
  obtain ⟨c, hc⟩ : ∃ c, lead (good s (kno l mi) mi (some x)) (61 - (mi : Int)).toNat = c := ⟨_, rfl⟩
  have hcn : n + 1 = ((mi + c : Nat) : Int) := by
    unfold untl at hn
    simp only [hc] at hn
    split at hn <;> omega
  have hf := lead_false (p := good s (kno l mi) mi (some x)) (n := (61 - (mi : Int)).toNat) (by omega)
  rw [hc] at hf
  have h0 : agr s (atM (kno l mi) mi) (some x) = some x := by
    have := hon 0
    rwa [lv, Nat.add_zero, hx] at this
  obtain ⟨y, hy, _, _⟩ := lv_free hs hxv.2.1 h0 (fun k => atM_kno (by omega)) c
  refine ⟨y, ?_, ?_⟩
  · unfold now
    rw [kno_kno (by omega), hcn, Int.toNat_natCast, ← hon c]
    exact hy
  · rw [good, hy] at hf
    simpa using hf
end Td
end Go.Proofs.Ytccacinnelmnpaa
