import Derived.Test.YtccacinnelmnpaaLins
/- Parts of a list of readings; a reading that is put into a list at a place. -/
namespace Go.Proofs.Ytccacinnelmnpaa
open Go.RowKit
namespace Td
set_option linter.unusedSimpArgs false
set_option linter.unusedVariables false
attribute [local go_sem] Oper.semAt_some
theorem add_add (a : Addr) (i j : Nat) : (a.add i).add j = a.add (i + j) := by
  unfold Addr.add
  by_cases h : i = 0
  · subst h; simp
  · by_cases h2 : j = 0
    · subst h2; simp
    · simp [h, h2, Nat.add_assoc]
theorem add_zero2 (A : Option Addr) : A.map (fun a => a.add 0) = A := by cases A <;> simp [Addr.add]
theorem RdAt.take {W : World} {A : Option Addr} {l : List Rd} (h : RdAt W A l) (k : Nat) : RdAt W A (l.take k) := fun hx => by
  obtain ⟨a, ha, hc⟩ := h (fun e => hx (by rw [e]; exact List.take_nil))
  refine ⟨a, ha, fun i p hp => hc i p ?_⟩
  rw [List.getElem?_take] at hp
  by_cases hik : i < k
  · rw [if_pos hik] at hp; exact hp
  · rw [if_neg hik] at hp; cases hp
theorem RdAt.drop {W : World} {A : Option Addr} {l : List Rd} (h : RdAt W A l) (k : Nat) : RdAt W (A.map (fun a => a.add (k * 3))) (l.drop k) := fun hx => by
  obtain ⟨a, rfl, hc⟩ := h (fun e => hx (by rw [e]; exact List.drop_nil))
  refine ⟨a.add (k * 3), rfl, fun i p hp => ?_⟩
  rw [List.getElem?_drop] at hp
  have := hc (k + i) p hp
  rw [add_add, show k * 3 + i * 3 = (k + i) * 3 by omega]
  exact this
theorem RdAt.none_drop {W : World} {A : Option Addr} {l : List Rd} {k : Nat} (hk : l.length ≤ k) : RdAt W A (l.drop k) := fun hx => absurd (List.drop_eq_nil_of_le hk) hx
theorem Ow.base {W : World} {B B' : Nat} {v : Value} {l : List Rd} (h : Ow W B v l) (hB : B' ≤ B) : Ow W B' v l := by
  refine ⟨h.1, ?_⟩
  rcases h.2 with h2 | ⟨g, cap, cur, h1, h2, h3⟩
  · exact .inl h2
  · exact .inr ⟨g, cap, cur, h1, Nat.le_trans hB h2, h3⟩
/-- the readings in another order: each is put at a place among those before it. -/
def otk (l : List Rd) (X : List Int) : Nat → List Rd
  | 0 => []
  | k + 1 => (otk l X k).take ((turnV X k).toNat % (k + 1)) ++ [l[k]?.getD ⟨0, 0, 0⟩] ++ (otk l X k).drop ((turnV X k).toNat % (k + 1))
theorem otk_next {l : List Rd} {X : List Int} {k : Nat} (h : k < l.length) : otk l X (k + 1) = (otk l X k).take ((turnV X k).toNat % (k + 1)) ++ [l[k]] ++ (otk l X k).drop ((turnV X k).toNat % (k + 1)) := by
  rw [otk, List.getElem?_eq_getElem h]
  rfl
theorem otk_len (l : List Rd) (X : List Int) (k : Nat) : (otk l X k).length = k := by
  induction k with
  | zero => rfl
  | succ k ih =>
    have := Nat.mod_lt (turnV X k).toNat (show 0 < k + 1 by omega)
    rw [otk]
    simp only [List.length_append, List.length_take, List.length_drop, List.length_singleton, ih]
    omega
theorem otk_mem (l : List Rd) (X : List Int) (k : Nat) (hk : k ≤ l.length) (q : Rd) : q ∈ otk l X k ↔ q ∈ l.take k := by
  induction k with
  | zero => simp [otk]
  | succ k ih =>
    rw [otk_next (by omega), List.take_succ_eq_append_getElem (by omega)]
    have ih := ih (by omega)
    obtain ⟨a, ha⟩ : ∃ a, (turnV X k).toNat % (k + 1) = a := ⟨_, rfl⟩
    rw [ha]
    have hsp : q ∈ otk l X k ↔ q ∈ (otk l X k).take a ∨ q ∈ (otk l X k).drop a := by
      rw [← List.mem_append, List.take_append_drop]
    simp only [List.mem_append, List.mem_singleton]
    rw [← ih, hsp]
    constructor
    · rintro ((h | h) | h)
      · exact .inl (.inl h)
      · exact .inr h
      · exact .inl (.inr h)
    · rintro ((h | h) | h)
      · exact .inl (.inl h)
      · exact .inr h
      · exact .inl (.inr h)
/-- which operation of the region makes which list, and which takes it up. -/
def ordL (ot : List Rd) (z : Rd) (a i : Nat) : Option (List Rd) := if i = 0 then some [] else if i = 4 then some (ot.take a) else if i = 9 then some [z] else if i = 10 then some (ot.take a ++ [z]) else if i = 14 then some (ot.take a ++ [z] ++ ot.drop a) else if i = 15 then some (ot.take a ++ [z] ++ ot.drop a) else none
def ordC (i : Nat) : Nat := if i = 0 then 4 else if i = 4 then 10 else if i = 9 then 10 else if i = 10 then 14 else if i = 14 then 15 else 16
theorem ordC_0 (i : Nat) : ordC i ≠ 0 := by unfold ordC; (repeat' split) <;> omega
theorem ordC_9 (i : Nat) : ordC i ≠ 9 := by unfold ordC; (repeat' split) <;> omega
theorem ordC_4 {i : Nat} (h : ordC i = 4) : i = 0 := by unfold ordC at h; (repeat' split at h) <;> omega
theorem ordC_10 {i : Nat} (h : ordC i = 10) : i = 4 ∨ i = 9 := by unfold ordC at h; (repeat' split at h) <;> omega
theorem ordC_14 {i : Nat} (h : ordC i = 14) : i = 10 := by unfold ordC at h; (repeat' split at h) <;> omega
theorem ordC_15 {i : Nat} (h : ordC i = 15) : i = 14 := by unfold ordC at h; (repeat' split at h) <;> omega
set_option maxRecDepth 100000 in
theorem wp_slice_hi {W : World} {o : Oper} {a : Act} {K : Act → World → Prop} {Q' : Exit → Act → World → Prop} (x h : Operand) (ho : o.op = .slice 28 x none (some h) none)
    {A : Option Addr} {n c k : Nat} (hx : a.eval x = .slice A n c) (hh : a.eval h = .int .i64 (k : Int)) (hk : k ≤ c) (hK : K (a.put o.dst (.slice A k c)) W) : o.wp Try.prog a W K Q' := by
  have h1 : (0 : Int) ≤ (k : Int) ∧ (k : Int) ≤ (c : Int) := by omega
  have h2 : (if c = 0 then A else A.map (fun a => a.add (0 * 3))) = A := by
    split
    · rfl
    · rw [Nat.zero_mul]; exact add_zero2 A
  unfold Oper.wp execOp
  simp only [ho, resolve, Option.map_some, Option.map_none, hx, hh]
  go_simp
  exact hK
set_option maxRecDepth 100000 in
theorem wp_slice_lo {W : World} {o : Oper} {a : Act} {K : Act → World → Prop} {Q' : Exit → Act → World → Prop} (x h : Operand) (ho : o.op = .slice 28 x (some h) none none)
    {A : Option Addr} {n c k : Nat} (hx : a.eval x = .slice A n c) (hh : a.eval h = .int .i64 (k : Int)) (hk : k ≤ n) (hK : K (a.put o.dst (.slice (if c = k then A else A.map (fun a => a.add (k * 3))) (n - k) (c - k))) W) : o.wp Try.prog a W K Q' := by
  have h1 : (0 : Int) ≤ (k : Int) ∧ (k : Int) ≤ (n : Int) := by omega
  unfold Oper.wp execOp
  simp only [ho, resolve, Option.map_some, Option.map_none, hx, hh]
  go_simp
  exact hK
/-- readings of the same members, told in another order, or twice: the same answers. -/
theorem same_answers {s : Spc} {l u : List Rd} {mi : Int} (hs : SOk s) (hck : (chk s).2.2 = 0) (hrs : rdsE s.tools.length l = 0) (hwi : wi 0 60 mi = true) (hul : u.length ≤ 12) (hm : ∀ q, q ∈ u ↔ q ∈ l) :
    levelA s u mi = levelA s l mi ∧ untilA s u mi = untilA s l mi ∧ refusalA s u mi = refusalA s l mi := by
  have hru : rdsE s.tools.length u = 0 := rdsE_ok.2 ⟨hul, fun r hr => (rdsE_ok.1 hrs).2 r ((hm r).1 hr)⟩
  have h1 : ∀ q ∈ kno l mi, q ∈ kno u mi := fun q hq => List.mem_filter.2 ⟨(hm q).2 (List.mem_filter.1 hq).1, (List.mem_filter.1 hq).2⟩
  have h2 : ∀ q ∈ kno u mi, q ∈ kno l mi := fun q hq => List.mem_filter.2 ⟨(hm q).1 (List.mem_filter.1 hq).1, (List.mem_filter.1 hq).2⟩
  have hn : now s u mi = now s l mi := now_same hs h1 h2
  rw [level_of hck hru hwi, level_of hck hrs hwi, until_of hck hru hwi, until_of hck hrs hwi, refusal_of hck hru hwi, refusal_of hck hrs hwi, hn]
  cases hx : now s l mi with
  | none => exact ⟨rfl, rfl, rfl⟩
  | some x =>
    refine ⟨rfl, ?_, ?_⟩
    · simp only []
      rw [untl_same (m := mi) hs h1 h2 (fun y hy => by cases hy; exact now_vd hs x hx)]
    · simp only []
      rw [tru_same hs h1 h2]
theorem refusal_len (s : Spc) (l : List Rd) (mi : Nat) (h : mi ≤ 60) : (refusalA s l (mi : Int)).1.length ≤ 1000 := by
  unfold refusalA
  split
  · split
    · simp
    · unfold tru
      simp
      omega
  · simp
theorem eqSpan1' (a b : Int) (w : World) : (Op.equalIn 10000 23 (.agg #[.int .i64 a, .int .i64 b]) (.agg #[.int .i64 a, .int .i64 b])).run Try.prog w = .ok true w := by go_simp
end Td
end Go.Proofs.Ytccacinnelmnpaa
