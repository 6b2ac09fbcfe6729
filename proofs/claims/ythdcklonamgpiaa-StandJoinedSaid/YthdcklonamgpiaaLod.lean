import Derived.Test.YthdcklonamgpiaaSea
/- A hull with ballast: its parts are copied. -/
namespace Go.Proofs.Ythdcklonamgpiaa
open Go.RowKit
namespace Td
set_option linter.unusedSimpArgs false
set_option linter.unusedVariables false
attribute [local go_sem] Oper.semAt_some
theorem infoP : (Try.prog.info? 74).map (fun i => (i.zero, i.size, i.bytes)) = some (some (.agg #[.string ByteArray.empty, .int .i64 0, .int .i64 0, .int .i64 0, .int .i64 0, .int .i64 0, .int .i64 0]), 7, 64) := by kernel_rfl
/-- the cells of parts, one behind the other. -/
def flat (l : List Prt) : List Value := l.flatMap fun p => (pV p).toList
theorem flat_len : ∀ l : List Prt, (flat l).length = l.length * 7
  | [] => rfl
  | p :: l => by
    have := flat_len l
    unfold flat at this ⊢
    rw [List.flatMap_cons, List.length_append, this]
    simp; omega
theorem flat_get : ∀ (l : List Prt) (i c : Nat) (p : Prt), l[i]? = some p → c < 7 → (flat l)[i * 7 + c]? = (pV p)[c]?
  | [], i, c, p, h, _ => by simp at h
  | q :: l, 0, c, p, h, hc => by
    have e : q = p := by simpa using h
    subst e
    unfold flat
    rw [List.flatMap_cons, List.getElem?_append_left (by simp; omega)]
    simp
  | q :: l, i + 1, c, p, h, hc => by
    have := flat_get l i c p (by simpa using h) hc
    unfold flat at this ⊢
    rw [List.flatMap_cons, List.getElem?_append_right (by simp; omega)]
    have e : (i + 1) * 7 + c - (pV q).toList.length = i * 7 + c := by simp; omega
    rw [e]; exact this
/-- a row's cells are those of parts. -/
def PtC (cur : Array Value) (l : List Prt) : Prop := ∀ (i c : Nat) (p : Prt), l[i]? = some p → c < 7 → cur[i * 7 + c]? = (pV p)[c]?
theorem at_add (a : Addr) (i c : Nat) : a.add (i + c) = if c = 0 then a.add i else at_ (a.add i) c := by
  unfold Addr.add at_
  by_cases hc : c = 0
  · subst hc; simp
  · rw [if_neg hc, if_neg (by omega)]
    by_cases hi : i = 0
    · subst hi; simp
    · rw [if_neg hi]; simp; omega
theorem PtAt.cells {w : World} {a : Addr} {l : List Prt} (h : PtAt w (some a) l) (j : Nat) (u : Value) (hj : (flat l)[j]? = some u) : w.cell? (a.add j) = some u := by
  have hjl : j < l.length * 7 := by rw [← flat_len]; exact (List.getElem?_eq_some_iff.1 hj).1
  have hi : j / 7 < l.length := by omega
  have hc : j % 7 < 7 := Nat.mod_lt _ (by omega)
  have e : j = (j / 7) * 7 + j % 7 := by omega
  obtain ⟨a', ha, c0, c1, c2, c3, c4, c5, c6⟩ := h.get hi
  cases ha
  have hu := flat_get l (j / 7) (j % 7) l[j / 7] (List.getElem?_eq_getElem hi) hc
  rw [← e, hj] at hu
  rw [e, at_add]
  generalize j % 7 = c at hc hu ⊢
  rcases (by omega : c = 0 ∨ c = 1 ∨ c = 2 ∨ c = 3 ∨ c = 4 ∨ c = 5 ∨ c = 6) with rfl | rfl | rfl | rfl | rfl | rfl | rfl <;> simp at hu <;> subst hu <;> simp <;> assumption
theorem PtC.at {w : World} {g : Nat} {t : TypeId} {cur : Array Value} {l : List Prt} (hb : Blk w g t cur) (h : PtC cur l) : PtAt w (some ⟨g, 0, none⟩) l := fun _ => ⟨_, rfl, fun i p hp => by
  rw [add_new]
  have f := fun c (hc : c < 7) => (hb.cell (i * 7 + c)).trans (h i c p hp hc)
  exact ⟨f 0 (by omega), f 1 (by omega), f 2 (by omega), f 3 (by omega), f 4 (by omega), f 5 (by omega), f 6 (by omega)⟩⟩
/-- the weight's lower, upper end of a part is written. -/
theorem PtC.set2 {cur : Array Value} {l : List Prt} (h : PtC cur l) {k : Nat} (hk : k < l.length) (v : Int) : PtC (cur.setIfInBounds (k * 7 + 2) (.int .i64 v)) (l.set k { pa l k with w0 := v }) := by
  intro i c p hp hc
  have hsz : k * 7 + 2 < cur.size := by
    have := h k 2 l[k] (List.getElem?_eq_getElem hk) (by omega)
    exact (Array.getElem?_eq_some_iff.1 this).1
  rw [List.getElem?_set] at hp
  by_cases e : k = i
  · subst e
    rw [if_pos rfl, if_pos hk] at hp
    obtain rfl : { pa l k with w0 := v } = p := by simpa using hp
    rw [pa_at hk]
    have h0 := h k c l[k] (List.getElem?_eq_getElem hk) hc
    rcases (by omega : c = 0 ∨ c = 1 ∨ c = 2 ∨ c = 3 ∨ c = 4 ∨ c = 5 ∨ c = 6) with rfl | rfl | rfl | rfl | rfl | rfl | rfl
    all_goals first | (rw [Array.getElem?_setIfInBounds_ne (by omega)]; exact h0) | (simp [hsz])
  · rw [if_neg e] at hp
    rw [Array.getElem?_setIfInBounds_ne (by omega)]
    exact h i c p hp hc
theorem PtC.set3 {cur : Array Value} {l : List Prt} (h : PtC cur l) {k : Nat} (hk : k < l.length) (v : Int) : PtC (cur.setIfInBounds (k * 7 + 3) (.int .i64 v)) (l.set k { pa l k with w1 := v }) := by
  intro i c p hp hc
  have hsz : k * 7 + 3 < cur.size := by
    have := h k 3 l[k] (List.getElem?_eq_getElem hk) (by omega)
    exact (Array.getElem?_eq_some_iff.1 this).1
  rw [List.getElem?_set] at hp
  by_cases e : k = i
  · subst e
    rw [if_pos rfl, if_pos hk] at hp
    obtain rfl : { pa l k with w1 := v } = p := by simpa using hp
    rw [pa_at hk]
    have h0 := h k c l[k] (List.getElem?_eq_getElem hk) hc
    rcases (by omega : c = 0 ∨ c = 1 ∨ c = 2 ∨ c = 3 ∨ c = 4 ∨ c = 5 ∨ c = 6) with rfl | rfl | rfl | rfl | rfl | rfl | rfl
    all_goals first | (rw [Array.getElem?_setIfInBounds_ne (by omega)]; exact h0) | (simp [hsz])
  · rw [if_neg e] at hp
    rw [Array.getElem?_setIfInBounds_ne (by omega)]
    exact h i c p hp hc
set_option maxRecDepth 100000 in
/-- append of parts behind an empty row of one's own. -/
theorem append_parts {W : World} {B n c : Nat} {v : Value} {a : Addr} {l : List Prt} (hown : W.ownsRow B 74 7 v 0 []) (hp : PtAt W (some a) l) (hl : l.length ≤ 1000) (hB : B ≤ W.heap.size) (ty : TypeId) :
    ∃ v' w', (Builtin.append_ #[22, 22] ty #[v, .slice (some a) l.length c]).run Try.prog W = .ok v' w' ∧ w'.ownsRow B 74 7 v' l.length (flat l) ∧ W.grownBy w' v.ownBlock := by
  obtain ⟨i0, hi0, hi1⟩ := Option.map_eq_some_iff.1 infoP
  simp only [Prod.mk.injEq] at hi1
  obtain ⟨hz0, hz1, hz2⟩ := hi1
  obtain ⟨v', w', h1, h2, h3, _, h5⟩ := run_append_own_at (P := Try.prog) W B 22 ty 74 i0 _ 7 64 Try.underlying22 hi0 hz0 hz1 hz2 rfl (by omega)
    v 0 [] hown a l.length c (flat l) (flat_len l) (fun j u hj => hp.cells j u hj) (by
      intro u hu
      obtain ⟨p, hp, hu⟩ := List.mem_flatMap.1 hu
      simp at hu
      rcases hu with rfl | rfl | rfl | rfl | rfl | rfl | rfl <;> rfl) (by simp only [maxLen]; omega) (by omega) hB
  refine ⟨v', w', h1, ?_, h3⟩
  rw [Nat.zero_add, List.nil_append] at h2
  exact h2
theorem wpList_append_parts {W : World} {ops : Array Oper} {rest : List Oper} {o : Oper} {a : Act} {Q : Exit → Act → World → Prop} (hgd : o.guard = none) (x y : Operand) (ho : o.op = .call { callee := .builtin .append, args := #[x, y], argTypes := #[22, 22] })
    (B c : Nat) (v : Value) (ad : Addr) (l : List Prt) (hx : a.eval x = v) (hy : a.eval y = .slice (some ad) l.length c) (hown : W.ownsRow B 74 7 v 0 []) (hp : PtAt W (some ad) l) (hl : l.length ≤ 1000) (hB : B ≤ W.heap.size)
    (h : ∀ v' w', w'.ownsRow B 74 7 v' l.length (flat l) → W.grownBy w' v.ownBlock → wpList Try.prog ops Q rest (a.put o.dst v') w') : wpList Try.prog ops Q (o :: rest) a W := by
  refine wpList_plain hgd fun _ hK => ?_
  obtain ⟨v', w', hr, h2, h3⟩ := append_parts (n := 0) (c := c) hown hp hl hB o.type
  unfold Oper.wp execOp
  simp only [ho, resolve, invoke, builtin, Sem.run_bind, Sem.run_pure, Result.andThen_ok, List.map_toArray, List.map_cons, List.map_nil, hx, hy, hr]
  exact hK _ _ (h v' w' h2 h3)
set_option maxRecDepth 100000 in
set_option maxHeartbeats 2000000 in
theorem clone_c (A : Option Addr) (l : List Prt) (c : Nat) (w : World) (h0 : 0 < l.length) (hl : l.length ≤ 1000) (hp : PtAt w A l) :
    Calls Try.prog 91 #[.slice A l.length c] w fun e w' => (∃ g cap cur, e = .returned (.slice (some ⟨g, 0, none⟩) l.length cap) ∧ w.heap.size ≤ g ∧ Blk w' g 74 cur ∧ PtC cur l ∧ l.length ≤ cap ∧ cap ≤ 9223372036854775807) ∧ Below w.heap.size w w' := by
  obtain ⟨ad, hA, -⟩ := hp.get h0
  subst hA
  have hs0 := (Since.refl w).alloc (.cells #[] 74)
  have HO : Hid ((w.alloc (.cells #[] 74)).ownsRow w.heap.size 74 7 (.slice (some ⟨w.heap.size, 0, none⟩) 0 0) 0 []) := ⟨rfl, .inr ⟨w.heap.size, 0, #[], rfl, Nat.le_refl _, Blk.new _ _ _, Nat.le_refl _, by simp [maxLen], rfl, rfl⟩⟩
  have HP := Lib.hid (hp.keep hs0.1)
  have HL := Lib.hid hl
  have hcmp : ∀ w, (binOp .eql 22 (.slice (some ad) l.length c) (.slice none 0 0)).run Try.prog w = .ok (.bool false) w := fun w => by kernel_rfl
  go_enter Try.func91, Try.ntmps91
  go_wp2_with (at_builtin; refine wpList_append_parts rfl (.tmp 5) (.tmp 6) rfl w.heap.size c _ ad l (by go_simp) (by go_simp) HO.out HP.out HL.out (by simp) ?_)
  intro v' w' ho hg
  have hlt := HO.out.lt
  have hb : Below w.heap.size w w' := hs0.1.grown hg hs0.2 (fun q e => (hlt q e).1)
  rcases ho.2 with ⟨rfl, hn⟩ | ⟨g, cap, cur, rfl, hB, hgc, h1, h2, h3, h4⟩
  · omega
  · have HC : Hid (PtC cur l) := fun i cc p hp hc => by
      have hi : i < l.length := (List.getElem?_eq_some_iff.1 hp).1
      have := flat_get l i cc p hp hc
      rw [← h4, List.getElem?_take, if_pos (by omega)] at this
      simpa using this
    have HB := Lib.hid (show Blk w' g 74 cur from hgc)
    have HZ : Hid (l.length ≤ cap ∧ cap ≤ 9223372036854775807) := ⟨h1, by simp only [maxLen] at h2; omega⟩
    clear ho hg hlt hgc h3 h4 h1 h2
    go_wp2_with fail
    go_ret
    exact ⟨⟨g, cap, cur, rfl, hB, HB.out, HC.out, HZ.out⟩, hb⟩
end Td
end Go.Proofs.Ythdcklonamgpiaa
