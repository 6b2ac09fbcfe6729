import Derived.Test.YtmofbnadfgejiaaLeaf
import Derived.Test.YtmofbnadfgejiaaExps
import Derived.BigQuiet
import Derived.OwnWalk
namespace Go.Proofs.Ytmofbnadfgejiaa
open Go.RowKit
namespace Td
set_option linter.unusedSimpArgs false
set_option linter.unusedVariables false
theorem take_next {l m : List Int} {k : Nat} (hl : k < l.length) (hm : k < m.length) (h : l.take k = m.take k) : (l.take (k + 1) = m.take (k + 1)) ↔ l[k] = m[k] := by
  rw [List.take_succ_eq_append_getElem hl, List.take_succ_eq_append_getElem hm, h]
  simp only [List.append_cancel_left_eq, List.cons.injEq, and_true]
set_option maxRecDepth 100000 in
set_option maxHeartbeats 4000000 in
theorem ints_c (P Q : Option Addr) (l m : List Int) (pc qc : Nat) (w : World) (hl : l.length ≤ 1000) (hm : m.length ≤ 1000) (hp : InAt w P l) (hq : InAt w Q m) :
    Calls Try.prog 24 #[.slice P l.length pc, .slice Q m.length qc] w fun e w' => e = .returned (.bool (decide (l = m))) ∧ Below w.heap.size w w' := by
  by_cases hlen : l.length = m.length
  · have HL := Lib.hid hlen
    rw [← hlen]
    clear hlen
    go_enter Try.func24, Try.ntmps24
    go_wp2_with fail
    go_loopw [5, 6] (fun b i wr => ∃ (k n : Nat) (bv : Bool), k ≤ l.length ∧ i = .int .i64 k ∧ b = .bool bv ∧ wr = w.drewN n ∧ Hid (bv = true → l.take k = m.take k) ∧ Hid (bv = false → l ≠ m)) (fun _ i _ => l.length - (intOf i).toNat)
    case atStart => exact ⟨0, 0, true, Nat.zero_le _, rfl, rfl, rfl, fun _ => rfl, fun h => by cases h⟩
    case round =>
      obtain ⟨k, nd, bv, hk, rfl, rfl, rfl, HT, HF⟩ := hrel
      by_cases hlt : k < l.length
      · cases bv
        · have HV : Hid (decide (l = m) = false) := by show _ = _; exact decide_eq_false (HF.out rfl)
          go_wp2_with fail
          go_ret
          exact ⟨ret_bool HV.out.symm, bdrew (Below.refl _ _) _⟩
        · have hltm : k < m.length := by have := HL.out; omega
          obtain ⟨pa, hP, c0⟩ := hp.get hlt
          obtain ⟨qa, hQ, d0⟩ := hq.get hltm
          subst hP
          subst hQ
          have HN := Lib.hid (take_next hlt hltm (HT.out rfl))
          by_cases he : l[k] = m[k]
          · have he' : (l[k] == m[k]) = true := by simpa using he
            have HE := Lib.hid he
            clear he
            go_wp2_with fail
            go_quiet (fail)
            go_wp2_with fail
            go_roundw
            case rel => exact ⟨k + 1, _, true, by omega, by go_num, rfl, rfl, fun _ => HN.out.2 HE.out, fun h => by cases h⟩
            case measure => simp [intOf]; omega
          · have he' : (l[k] == m[k]) = false := by simpa using he
            have HE := Lib.hid he
            clear he
            go_wp2_with fail
            go_quiet (fail)
            go_wp2_with fail
            go_roundw
            case rel => exact ⟨k + 1, _, false, by omega, by go_num, rfl, rfl, (fun h => by cases h), fun _ e => HE.out (by subst e; rfl)⟩
            case measure => simp [intOf]; omega
      · cases bv
        · have HV : Hid (decide (l = m) = false) := by show _ = _; exact decide_eq_false (HF.out rfl)
          go_wp2_with fail
          go_ret
          exact ⟨ret_bool HV.out.symm, bdrew (Below.refl _ _) _⟩
        · have HV : Hid (decide (l = m) = true) := by
            show _ = _
            have h := HT.out rfl
            have hl := HL.out
            rw [List.take_of_length_le (by omega), List.take_of_length_le (by omega)] at h
            exact decide_eq_true h
          go_wp2_with fail
          go_ret
          exact ⟨ret_bool HV.out.symm, bdrew (Below.refl _ _) _⟩
  · have HV : Hid (decide (l = m) = false) := by show _ = _; exact decide_eq_false (fun e => hlen (by rw [e]))
    have h1 : ((l.length : Int) == (m.length : Int)) = false := by simp; omega
    have h2 : (l.length == m.length) = false := by simpa using hlen
    have HH := Lib.hid hlen
    clear hlen
    go_enter Try.func24, Try.ntmps24
    go_wp2_with fail
    refine wp_loop_rounds 1 ?_
    rw [rounds_succ]
    by_cases h0 : 0 < l.length
    · go_wp2_with fail
      go_ret
      exact ⟨ret_bool HV.out.symm, Below.refl _ _⟩
    · have h00 : l.length = 0 := by omega
      go_wp2_with fail
      go_ret
      exact ⟨ret_bool HV.out.symm, Below.refl _ _⟩
end Td
end Go.Proofs.Ytmofbnadfgejiaa
/- The space of the examples, and its readings. -/
namespace Go.Proofs.Ytmofbnadfgejiaa
open Go.RowKit
namespace Td
set_option linter.unusedSimpArgs false
set_option linter.unusedVariables false
attribute [local go_sem] Oper.semAt_some
def exS : Spc := ⟨0, 40, 1, 3, -6, -4, 10, [(10, 19)], [⟨⟨#[111, 108, 100]⟩, 5⟩, ⟨⟨#[110, 101, 119]⟩, 2⟩]⟩
def refL : List Int := [21, 24, 27, 30, 33, 36, 39, 42, 45, 48, 51, 47, 43, 39, 35, 31, 27, 23, 19, 15, 11]
theorem ev_level : levelA exS [] 20 = ((0, 30), 0) := by decide +kernel
theorem ev_level2 : levelA exS [⟨20, 1, 6⟩, ⟨20, 0, 1⟩] 20 = ((4, 6), 0) := by decide +kernel
theorem ev_until : untilA exS [⟨20, 1, 2⟩] 20 = (22, 0) := by decide +kernel
theorem ev_until2 : untilA exS [⟨20, 1, 12⟩] 20 = (-1, 0) := by decide +kernel
theorem ev_refusal : refusalA exS [⟨20, 1, 12⟩] 20 = (refL, 0) := by decide +kernel
theorem ev_holds : holdsA exS ⟨10, 1, 2⟩ = (23, 0) := by decide +kernel
theorem ev_fewest : fewestA exS ⟨20, 1, 2⟩ 30 = ([20, 22, 25, 28], 0) := by decide +kernel
theorem ev_none : refusalA exS [⟨20, 1, 6⟩] 20 = ([], 4) := by decide +kernel
theorem span_c (a b : Int) (w : World) : Calls Try.prog 31 #[.int .i64 a, .int .i64 b] w fun e w' => e = .returned (.agg #[.int .i64 a, .int .i64 b]) ∧ Below w.heap.size w w' := by
  have HB := Lib.hid (Blk.new w 23 #[.int .i64 0, .int .i64 0])
  have hsn := (Since.refl w).alloc (.cells #[.int .i64 0, .int .i64 0] 23)
  go_enter Try.func31, Try.ntmps31
  go_wp2_with (refine wpList_store_row rfl 23 _ _ rfl (w.heap.size) _ rfl rfl 23 _ HB.out (by kernel_rfl) rfl (by simp [Value.oneCell']) ?_)
  (refine bodyPost_ret (v := .agg _) ?_ rfl ⟨rfl, ?_⟩; exact (results_cell_row Try.results31 _ _ (w.heap.size) 23 _ (0, 0) _ rfl (HB.out.row _) Try.underlying23 rfl (by kernel_rfl)))
  exact (hsn.row (by omega) _).1
theorem TlAt.two {w : World} {g : Nat} {t : TypeId} {p r : Tl} (h : Blk w g t #[.string p.name, .int .i64 p.err, .string r.name, .int .i64 r.err]) : TlAt w (some ⟨g, 0, none⟩) [p, r] := fun _ => ⟨_, rfl, fun i q hq => by
  rw [add_new]
  match i, hq with
  | 0, hq =>
    obtain rfl : p = q := by simpa using hq
    exact ⟨h.cell 0, h.cell 1⟩
  | 1, hq =>
    obtain rfl : r = q := by simpa using hq
    exact ⟨h.cell 2, h.cell 3⟩
  | i + 2, hq => simp at hq⟩
set_option maxHeartbeats 2000000 in
theorem space_c (w : World) : Calls Try.prog 29 #[] w fun e w' => (∃ m, e = .returned (.agg (sV exS m)) ∧ SAt w' m exS) ∧ Below w.heap.size w w' := by
  have HB := Lib.hid (Blk.new w 27 #[.int .i64 0, .int .i64 0, .int .i64 0, .int .i64 0, .int .i64 0, .int .i64 0, .int .i64 0, .slice none 0 0, .slice none 0 0])
  have hsn := (Since.refl w).alloc (.cells #[.int .i64 0, .int .i64 0, .int .i64 0, .int .i64 0, .int .i64 0, .int .i64 0, .int .i64 0, .slice none 0 0, .slice none 0 0] 27)
  go_enter Try.func29, Try.ntmps29
  go_wp2_with fail
  refine (span_c _ _ _).mono ?_
  rintro e w1 ⟨rfl, hb1⟩
  replace HB := Lib.hid (HB.out.keep hb1)
  replace hsn := hsn.keep hb1
  go_wp2_with fail
  refine (span_c _ _ _).mono ?_
  rintro e w2 ⟨rfl, hb2⟩
  replace HB := Lib.hid (HB.out.keep hb2)
  replace hsn := hsn.keep hb2
  go_wp2_with fail
  refine (span_c _ _ _).mono ?_
  rintro e w3 ⟨rfl, hb3⟩
  replace HB := Lib.hid (HB.out.keep hb3)
  replace hsn := hsn.keep hb3
  go_wp2_with fail
  refine (span_c _ _ _).mono ?_
  rintro e w4 ⟨rfl, hb4⟩
  have h1 := Blk.new w4 23 #[.int .i64 10, .int .i64 19]
  have h2 := Blk.new1 w4 (.cells #[.int .i64 10, .int .i64 19] 23) 65 #[.string ⟨#[111, 108, 100]⟩, .int .i64 5, .string ⟨#[110, 101, 119]⟩, .int .i64 2]
  have HB5 := Lib.hid (((HB.out.keep hb4).alloc (.cells #[.int .i64 10, .int .i64 19] 23)).alloc (.cells #[.string ⟨#[111, 108, 100]⟩, .int .i64 5, .string ⟨#[110, 101, 119]⟩, .int .i64 2] 65))
  have hsn5 := ((hsn.keep hb4).alloc (.cells #[.int .i64 10, .int .i64 19] 23)).alloc (.cells #[.string ⟨#[111, 108, 100]⟩, .int .i64 5, .string ⟨#[110, 101, 119]⟩, .int .i64 2] 65)
  have hz := (HB.out.keep hb4).lt
  have H1 := Lib.hid ((h1.alloc (.cells #[.string ⟨#[111, 108, 100]⟩, .int .i64 5, .string ⟨#[110, 101, 119]⟩, .int .i64 2] 65)))
  have H2 := Lib.hid h2
  clear h1 h2
  go_wp2_with (refine wpList_store_row rfl 27 _ _ rfl (w.heap.size) _ rfl rfl 27 _ HB5.out (by kernel_rfl) rfl (by simp [Value.oneCell']) ?_)
  refine bodyPost_ret (v := .agg _) ?_ rfl ⟨⟨⟨some ⟨w4.heap.size, 0, none⟩, 1, some ⟨w4.heap.size + 1, 0, none⟩, 2⟩, rfl, ?_⟩, ?_⟩
  · exact (results_cell_row Try.results29 _ _ (w.heap.size) 27 _ (0, 0) _ rfl (HB5.out.row _) Try.underlying27 rfl (by kernel_rfl))
  · exact ⟨SpAt.one (p := (10, 19)) (H1.out.rowFar (by omega) _), TlAt.two (p := ⟨⟨#[111, 108, 100]⟩, 5⟩) (r := ⟨⟨#[110, 101, 119]⟩, 2⟩) (H2.out.rowFar (by omega) _), by show exS.blows.length ≤ 1; decide, by show exS.tools.length ≤ 2; decide, by show (1 : Nat) ≤ _; decide, by show (2 : Nat) ≤ _; decide, by decide +kernel⟩
  · exact (hsn5.row (by omega) _).1
theorem read_c (n : Int) (w : World) : Calls Try.prog 30 #[.int .i64 n] w fun e w' => e = .returned (.slice (some ⟨w.heap.size, 0, none⟩) 1 1) ∧ w' = w.alloc (.cells (rV ⟨20, 1, n⟩) 61) := by
  go_enter Try.func30, Try.ntmps30
  go_wp2_with fail
  go_ret
  exact ⟨rfl, rfl⟩
theorem RdAt.one {w : World} {g : Nat} {t : TypeId} {p : Rd} (h : Blk w g t (rV p)) : RdAt w (some ⟨g, 0, none⟩) [p] := fun _ => ⟨_, rfl, fun i q hq => by
  rw [add_new]
  match i, hq with
  | 0, hq =>
    obtain rfl : p = q := by simpa using hq
    exact ⟨h.cell 0, h.cell 1, h.cell 2⟩
  | i + 1, hq => simp at hq⟩
theorem refused_c (w : World) : Calls Try.prog 53 #[] w fun e w' => (∃ v, e = .returned v ∧ Lv w' v refL) ∧ Below w.heap.size w w' := by
  go_enter Try.func53, Try.ntmps53
  go_wp2_with fail
  go_ret
  refine ⟨⟨_, rfl, some ⟨w.heap.size, 0, none⟩, 21, rfl, fun _ => ⟨_, rfl, fun i p hp => ?_⟩⟩, (Below.refl _ _).alloc (Nat.le_refl _) _⟩
  rw [add_new]
  refine ((Blk.new w 3 _).cell i).trans ?_
  have : (refL.map fun x => Value.int .i64 x)[i]? = some (.int .i64 p) := by rw [List.getElem?_map, hp]; rfl
  rw [← this]
  simp [refL]
/-- a row of readings that is owned, as a slice. -/
theorem own_rd2 {W : World} {B : Nat} {v : Value} {l : List Rd} (h : W.ownsRow B 61 3 v l.length (rowsC l)) : ∃ A c, v = .slice A l.length c ∧ RdAt W A l ∧ l.length ≤ c ∧ c ≤ 9223372036854775807 := by
  obtain ⟨A, c, h1, h2⟩ := own_rd h
  refine ⟨A, c, h1, h2, ?_⟩
  rcases h.2 with ⟨h3, h0⟩ | ⟨g, cap, cur, h3, hB, hg, hn, hm, hs, ht⟩
  · rw [h1] at h3
    simp only [Value.slice.injEq] at h3
    exact ⟨by omega, by omega⟩
  · rw [h1] at h3
    simp only [Value.slice.injEq] at h3
    simp only [maxLen] at hm
    exact ⟨by omega, by omega⟩
theorem wpList_append_read {W : World} {ops : Array Oper} {rest : List Oper} {o : Oper} {a : Act} {Q : Exit → Act → World → Prop} (hgd : o.guard = none) (s x : Operand) (ho : o.op = .call { callee := .builtin .append, args := #[s, x], argTypes := #[28, 28] })
    (B g : Nat) (v : Value) (l : List Rd) (r : Rd) (hs : a.eval s = v) (hx : a.eval x = .slice (some ⟨g, 0, none⟩) 1 1) (hown : W.ownsRow B 61 3 v l.length (rowsC l)) (hg : Blk W g 61 (rV r)) (hl : l.length ≤ 1000) (hB : B ≤ W.heap.size)
    (h : ∀ v' w', w'.ownsRow B 61 3 v' (l ++ [r]).length (rowsC (l ++ [r])) → W.grownBy w' v.ownBlock → (v'.ownBlock = v.ownBlock ∨ v'.ownBlock = some W.heap.size) → wpList Try.prog ops Q rest (a.put o.dst v') w') : wpList Try.prog ops Q (o :: rest) a W :=
  wpList_plain hgd fun _ hK => wp_append_read s x ho hs hx hown hg hl hB fun v' w' h1 h2 h3 => hK _ _ (h v' w' h1 h2 h3)
end Td
end Go.Proofs.Ytmofbnadfgejiaa
/- The examples' calls: Awake. -/
namespace Go.Proofs.Ytmofbnadfgejiaa
open Go.RowKit
namespace Td
set_option linter.unusedSimpArgs false
set_option linter.unusedVariables false
attribute [local go_sem] Oper.semAt_some
theorem read2_c (n : Int) (w : World) : Calls Try.prog 30 #[.int .i64 n] w fun e w' => (e = .returned (.slice (some ⟨w.heap.size, 0, none⟩) 1 1) ∧ Blk w' w.heap.size 61 (rV ⟨20, 1, n⟩)) ∧ Below w.heap.size w w' :=
  (read_c n w).mono fun e w' h => by
    obtain ⟨rfl, rfl⟩ := h
    exact ⟨⟨rfl, Blk.new _ _ _⟩, (Below.refl _ _).alloc (Nat.le_refl _) _⟩
theorem InAt.blk {w : World} {g : Nat} {ty : TypeId} {l : List Int} (h : Blk w g ty (l.map fun x => Value.int .i64 x).toArray) : InAt w (some ⟨g, 0, none⟩) l := fun _ => ⟨_, rfl, fun i p hp => by
  rw [add_new, h.cell i]
  simp [hp]⟩
/-- a slice that holds a list, as a property of a value. -/
def LvP (l : List Int) (v : Value) (X : World) : Prop := Lv X v l
theorem LvP.stable (l : List Int) : Vals5.Stable (.has (LvP l)) := fun v w w' h hb => Lv.keep h hb
theorem eqSpan (a b : Int) (w : World) : (Op.equalIn 10000 23 (.agg #[.int .i64 a, .int .i64 b]) (.agg #[.int .i64 a, .int .i64 b])).run Try.prog w = .ok true w := by go_simp
theorem lev1_c (m : Sl) (w : World) (h : SAt w m exS) : Calls Try.prog 17 #[.agg (sV exS m), .slice none 0 0, .int .i64 20] w fun e w' => e = .returned (.tuple #[.agg #[.int .i64 0, .int .i64 30], .int .i64 0]) ∧ Below w.heap.size w w' := by
  have h := level_c exS m none [] 0 20 w h (Nat.le_refl _) (by decide) (fun h => absurd rfl h)
  rw [ev_level] at h
  exact h
theorem lev2_c (m : Sl) (A : Option Addr) (c : Nat) (w : World) (h : SAt w m exS) (hc : 2 ≤ c) (hcM : c ≤ 9223372036854775807) (hr : RdAt w A [⟨20, 1, 6⟩, ⟨20, 0, 1⟩]) : Calls Try.prog 17 #[.agg (sV exS m), .slice A 2 c, .int .i64 20] w fun e w' => e = .returned (.tuple #[.agg #[.int .i64 4, .int .i64 6], .int .i64 0]) ∧ Below w.heap.size w w' := by
  have h := level_c exS m A [⟨20, 1, 6⟩, ⟨20, 0, 1⟩] c 20 w h hc hcM hr
  rw [ev_level2] at h
  exact h
theorem unt1_c (m : Sl) (g : Nat) (w : World) (h : SAt w m exS) (hr : Blk w g 61 (rV ⟨20, 1, 2⟩)) : Calls Try.prog 19 #[.agg (sV exS m), .slice (some ⟨g, 0, none⟩) 1 1, .int .i64 20] w fun e w' => e = .returned (.tuple #[.int .i64 22, .int .i64 0]) ∧ Below w.heap.size w w' := by
  have h := until2_c exS m (some ⟨g, 0, none⟩) [⟨20, 1, 2⟩] 1 20 w h (Nat.le_refl _) (by decide) (RdAt.one hr)
  rw [ev_until] at h
  exact h
theorem unt2_c (m : Sl) (g : Nat) (w : World) (h : SAt w m exS) (hr : Blk w g 61 (rV ⟨20, 1, 12⟩)) : Calls Try.prog 19 #[.agg (sV exS m), .slice (some ⟨g, 0, none⟩) 1 1, .int .i64 20] w fun e w' => e = .returned (.tuple #[.int .i64 (-1), .int .i64 0]) ∧ Below w.heap.size w w' := by
  have h := until2_c exS m (some ⟨g, 0, none⟩) [⟨20, 1, 12⟩] 1 20 w h (Nat.le_refl _) (by decide) (RdAt.one hr)
  rw [ev_until2] at h
  exact h
theorem ref1_c (m : Sl) (g : Nat) (w : World) (h : SAt w m exS) (hr : Blk w g 61 (rV ⟨20, 1, 12⟩)) : Calls Try.prog 22 #[.agg (sV exS m), .slice (some ⟨g, 0, none⟩) 1 1, .int .i64 20] w fun e w' => (∃ v, e = .returned (.tuple #[v, .int .i64 0]) ∧ Lv w' v refL) ∧ Below w.heap.size w w' := by
  have h := refusal_c exS m (some ⟨g, 0, none⟩) [⟨20, 1, 12⟩] 1 20 w h (Nat.le_refl _) (by decide) (RdAt.one hr)
  rw [ev_refusal] at h
  refine h.mono ?_
  rintro e w' ⟨⟨A, n, rfl, rfl, hi⟩, hb⟩
  exact ⟨⟨_, rfl, A, _, rfl, hi⟩, hb⟩
theorem ref2_c (m : Sl) (g : Nat) (w : World) (h : SAt w m exS) (hr : Blk w g 61 (rV ⟨20, 1, 6⟩)) : Calls Try.prog 22 #[.agg (sV exS m), .slice (some ⟨g, 0, none⟩) 1 1, .int .i64 20] w fun e w' => (∃ v, e = .returned (.tuple #[v, .int .i64 4]) ∧ Lv w' v []) ∧ Below w.heap.size w w' := by
  have h := refusal_c exS m (some ⟨g, 0, none⟩) [⟨20, 1, 6⟩] 1 20 w h (Nat.le_refl _) (by decide) (RdAt.one hr)
  rw [ev_none] at h
  refine h.mono ?_
  rintro e w' ⟨⟨A, n, rfl, rfl, hi⟩, hb⟩
  exact ⟨⟨_, rfl, A, _, rfl, hi⟩, hb⟩
theorem hold1_c (m : Sl) (w : World) (h : SAt w m exS) : Calls Try.prog 25 #[.agg (sV exS m), .int .i64 1, .int .i64 2, .int .i64 10] w fun e w' => e = .returned (.tuple #[.int .i64 23, .int .i64 0]) ∧ Below w.heap.size w w' := by
  have h := holds2_c exS m ⟨10, 1, 2⟩ w h
  rw [ev_holds] at h
  exact h
theorem few1_c (m : Sl) (w : World) (h : SAt w m exS) : Calls Try.prog 27 #[.agg (sV exS m), .int .i64 1, .int .i64 2, .int .i64 20, .int .i64 30] w fun e w' => (∃ v, e = .returned (.tuple #[v, .int .i64 0]) ∧ Lv w' v [20, 22, 25, 28]) ∧ Below w.heap.size w w' := by
  have h := fewest2_c exS m ⟨20, 1, 2⟩ 30 w h
  rw [ev_fewest] at h
  exact h
theorem refL_len : refL.length = 21 := rfl
theorem ints_same (v u : Value) (l : List Int) (w : World) (hl : l.length ≤ 1000) (hp : Lv w v l) (hq : Lv w u l) :
    Calls Try.prog 24 #[v, u] w fun e w' => e = .returned (.bool true) ∧ Below w.heap.size w w' := by
  obtain ⟨P, pc, rfl, hp⟩ := hp
  obtain ⟨Q, qc, rfl, hq⟩ := hq
  have h := ints_c P Q l l pc qc w hl hl hp hq
  rwa [show decide (l = l) = true from decide_eq_true rfl] at h
set_option maxRecDepth 100000 in
set_option maxHeartbeats 8000000 in
theorem awake_c (w : World) : Calls Try.prog 21 #[] w fun e w' => e = .returned (.bool true) ∧ Below w.heap.size w w' := by
  have hs := Since.refl w
  go_enter Try.func21, Try.ntmps21
  go_wp2_with fail
  refine (space_c _).mono ?_
  rintro e v1 ⟨⟨m1, rfl, hsa1⟩, hb1⟩
  replace hs := hs.keep hb1
  have HSA1 := Lib.hid hsa1
  clear hsa1 hb1
  go_wp2_with fail
  refine (lev1_c m1 _ HSA1.out).mono ?_
  rintro e v2 ⟨rfl, hb2⟩
  replace hs := hs.keep hb2
  replace HSA1 := Lib.hid (HSA1.out.keep hb2)
  clear hb2
  clear HSA1
  go_wp2_with fail
  have hq2 : Below v2.heap.size v2 (v2.alloc (.cells #[.int .i64 0, .int .i64 30] 23)) := (Below.refl _ _).alloc (Nat.le_refl _) _
  replace hs := hs.keep hq2
  have HX := Lib.hid (Blk.new v2 23 #[.int .i64 0, .int .i64 30])
  obtain ⟨kHX, hkHX⟩ : ∃ k, v2.heap.size = k := ⟨_, rfl⟩
  obtain ⟨u2, hu2⟩ : ∃ u, v2.alloc (.cells #[.int .i64 0, .int .i64 30] 23) = u := ⟨_, rfl⟩
  rw [hu2] at hs HX  ⊢
  rw [hkHX] at HX ⊢
  clear hu2 hkHX hq2
  go_wp2_with fail
  refine (space_c _).mono ?_
  rintro e v3 ⟨⟨m3, rfl, hsa3⟩, hb3⟩
  replace hs := hs.keep hb3
  replace HX := Lib.hid (HX.out.keep hb3)
  have HSA3 := Lib.hid hsa3
  clear hsa3 hb3
  go_wp2_with fail
  refine (read2_c _ _).mono ?_
  rintro e v4 ⟨⟨rfl, hr4⟩, hb4⟩
  have hq9 : Below v4.heap.size v4 (v4.alloc (.cells (rV ⟨20, 0, 1⟩) 61)) := (Below.refl _ _).alloc (Nat.le_refl _) _
  have HRD := Lib.hid (hr4.keep hq9)
  have HN := Lib.hid (Blk.new v4 61 (rV ⟨20, 0, 1⟩))
  have hlt := HRD.out.lt
  have hown : (v4.alloc (.cells (rV ⟨20, 0, 1⟩) 61)).ownsRow v3.heap.size 61 3 (.slice (some ⟨v3.heap.size, 0, none⟩) 1 1) ([⟨20, 1, 6⟩] : List Rd).length (rowsC [⟨20, 1, 6⟩]) := ⟨rfl, .inr ⟨_, 1, _, rfl, Nat.le_refl _, HRD.out, Nat.le_refl _, by decide, rfl, rfl⟩⟩
  have HO := Lib.hid hown
  clear hown hr4
  go_wp2_with (at_builtin; refine wpList_append_read rfl (.tmp 24) (.tmp 26) rfl _ v4.heap.size _ [⟨20, 1, 6⟩] ⟨20, 0, 1⟩ (by go_simp) (by go_simp) HO.out HN.out (by decide) (Nat.le_of_lt hlt) ?_)
  rintro va wa hoa hga -
  obtain ⟨Aa, ca, rfl, hra, hca, hcM⟩ := own_rd2 hoa
  have hba : Below v3.heap.size v3 wa := (hb4.trans (hq9.mono hb4.size)).grown hga (Nat.le_of_lt hlt) (fun q h => by cases h; exact Nat.le_refl _)
  replace hs := hs.keep hba
  replace HX := Lib.hid (HX.out.keep hba)
  replace HSA3 := Lib.hid (HSA3.out.keep hba)
  have HRA := Lib.hid hra
  clear HN HO hoa HRD hlt hq9 hb4 hga hba hra
  go_wp2_with fail
  refine (lev2_c m3 Aa ca _ HSA3.out hca hcM HRA.out).mono ?_
  rintro e v5 ⟨rfl, hb5⟩
  replace hs := hs.keep hb5
  replace HX := Lib.hid (HX.out.keep hb5)
  replace HSA3 := Lib.hid (HSA3.out.keep hb5)
  clear hb5
  clear HSA3
  clear HRA
  go_wp2_with fail
  have hq5 : Below v5.heap.size v5 (v5.alloc (.cells #[.int .i64 4, .int .i64 6] 23)) := (Below.refl _ _).alloc (Nat.le_refl _) _
  replace hs := hs.keep hq5
  replace HX := Lib.hid (HX.out.keep hq5)
  have HY := Lib.hid (Blk.new v5 23 #[.int .i64 4, .int .i64 6])
  obtain ⟨kHY, hkHY⟩ : ∃ k, v5.heap.size = k := ⟨_, rfl⟩
  obtain ⟨u5, hu5⟩ : ∃ u, v5.alloc (.cells #[.int .i64 4, .int .i64 6] 23) = u := ⟨_, rfl⟩
  rw [hu5] at hs HY HX ⊢
  rw [hkHY] at HY ⊢
  clear hu5 hkHY hq5
  go_wp2_with fail
  refine (space_c _).mono ?_
  rintro e v6 ⟨⟨m6, rfl, hsa6⟩, hb6⟩
  replace hs := hs.keep hb6
  replace HX := Lib.hid (HX.out.keep hb6)
  replace HY := Lib.hid (HY.out.keep hb6)
  have HSA6 := Lib.hid hsa6
  clear hsa6 hb6
  go_wp2_with fail
  refine (read2_c _ _).mono ?_
  rintro e v7 ⟨⟨rfl, hr7⟩, hb7⟩
  replace hs := hs.keep hb7
  replace HX := Lib.hid (HX.out.keep hb7)
  replace HY := Lib.hid (HY.out.keep hb7)
  replace HSA6 := Lib.hid (HSA6.out.keep hb7)
  have HRD7 := Lib.hid hr7
  clear hr7 hb7
  go_wp2_with fail
  refine (unt1_c m6 _ _ HSA6.out HRD7.out).mono ?_
  rintro e v8 ⟨rfl, hb8⟩
  replace hs := hs.keep hb8
  replace HX := Lib.hid (HX.out.keep hb8)
  replace HY := Lib.hid (HY.out.keep hb8)
  replace HSA6 := Lib.hid (HSA6.out.keep hb8)
  replace HRD7 := Lib.hid (HRD7.out.keep hb8)
  clear hb8
  clear HSA6 HRD7
  go_wp2_with fail
  refine (space_c _).mono ?_
  rintro e v9 ⟨⟨m9, rfl, hsa9⟩, hb9⟩
  replace hs := hs.keep hb9
  replace HX := Lib.hid (HX.out.keep hb9)
  replace HY := Lib.hid (HY.out.keep hb9)
  have HSA9 := Lib.hid hsa9
  clear hsa9 hb9
  go_wp2_with fail
  refine (read2_c _ _).mono ?_
  rintro e v10 ⟨⟨rfl, hr10⟩, hb10⟩
  replace hs := hs.keep hb10
  replace HX := Lib.hid (HX.out.keep hb10)
  replace HY := Lib.hid (HY.out.keep hb10)
  replace HSA9 := Lib.hid (HSA9.out.keep hb10)
  have HRD10 := Lib.hid hr10
  clear hr10 hb10
  go_wp2_with fail
  refine (unt2_c m9 _ _ HSA9.out HRD10.out).mono ?_
  rintro e v11 ⟨rfl, hb11⟩
  replace hs := hs.keep hb11
  replace HX := Lib.hid (HX.out.keep hb11)
  replace HY := Lib.hid (HY.out.keep hb11)
  replace HSA9 := Lib.hid (HSA9.out.keep hb11)
  replace HRD10 := Lib.hid (HRD10.out.keep hb11)
  clear hb11
  clear HSA9 HRD10
  go_wp2_with fail
  refine (space_c _).mono ?_
  rintro e v12 ⟨⟨m12, rfl, hsa12⟩, hb12⟩
  replace hs := hs.keep hb12
  replace HX := Lib.hid (HX.out.keep hb12)
  replace HY := Lib.hid (HY.out.keep hb12)
  have HSA12 := Lib.hid hsa12
  clear hsa12 hb12
  go_wp2_with fail
  refine (read2_c _ _).mono ?_
  rintro e v13 ⟨⟨rfl, hr13⟩, hb13⟩
  replace hs := hs.keep hb13
  replace HX := Lib.hid (HX.out.keep hb13)
  replace HY := Lib.hid (HY.out.keep hb13)
  replace HSA12 := Lib.hid (HSA12.out.keep hb13)
  have HRD13 := Lib.hid hr13
  clear hr13 hb13
  go_wp2_with fail
  refine (ref1_c m12 _ _ HSA12.out HRD13.out).mono ?_
  rintro e v14 ⟨⟨v9, rfl, hv9⟩, hb14⟩
  replace hs := hs.keep hb14
  replace HX := Lib.hid (HX.out.keep hb14)
  replace HY := Lib.hid (HY.out.keep hb14)
  replace HSA12 := Lib.hid (HSA12.out.keep hb14)
  replace HRD13 := Lib.hid (HRD13.out.keep hb14)
  clear hb14
  have HV9 := Lib.hid hv9
  clear hv9
  clear HSA12 HRD13
  go_wp2_with fail
  refine (space_c _).mono ?_
  rintro e v15 ⟨⟨m15, rfl, hsa15⟩, hb15⟩
  replace hs := hs.keep hb15
  replace HX := Lib.hid (HX.out.keep hb15)
  replace HY := Lib.hid (HY.out.keep hb15)
  replace HV9 := Lib.hid (HV9.out.keep hb15)
  have HSA15 := Lib.hid hsa15
  clear hsa15 hb15
  go_wp2_with fail
  refine (hold1_c m15 _ HSA15.out).mono ?_
  rintro e v16 ⟨rfl, hb16⟩
  replace hs := hs.keep hb16
  replace HX := Lib.hid (HX.out.keep hb16)
  replace HY := Lib.hid (HY.out.keep hb16)
  replace HV9 := Lib.hid (HV9.out.keep hb16)
  replace HSA15 := Lib.hid (HSA15.out.keep hb16)
  clear hb16
  clear HSA15
  go_wp2_with fail
  refine (space_c _).mono ?_
  rintro e v17 ⟨⟨m17, rfl, hsa17⟩, hb17⟩
  replace hs := hs.keep hb17
  replace HX := Lib.hid (HX.out.keep hb17)
  replace HY := Lib.hid (HY.out.keep hb17)
  replace HV9 := Lib.hid (HV9.out.keep hb17)
  have HSA17 := Lib.hid hsa17
  clear hsa17 hb17
  go_wp2_with fail
  refine (few1_c m17 _ HSA17.out).mono ?_
  rintro e v18 ⟨⟨v13, rfl, hv13⟩, hb18⟩
  replace hs := hs.keep hb18
  replace HX := Lib.hid (HX.out.keep hb18)
  replace HY := Lib.hid (HY.out.keep hb18)
  replace HV9 := Lib.hid (HV9.out.keep hb18)
  replace HSA17 := Lib.hid (HSA17.out.keep hb18)
  clear hb18
  have HV13 := Lib.hid hv13
  clear hv13
  clear HSA17
  go_wp2_with fail
  refine (space_c _).mono ?_
  rintro e v19 ⟨⟨m19, rfl, hsa19⟩, hb19⟩
  replace hs := hs.keep hb19
  replace HX := Lib.hid (HX.out.keep hb19)
  replace HY := Lib.hid (HY.out.keep hb19)
  replace HV9 := Lib.hid (HV9.out.keep hb19)
  replace HV13 := Lib.hid (HV13.out.keep hb19)
  have HSA19 := Lib.hid hsa19
  clear hsa19 hb19
  go_wp2_with fail
  refine (read2_c _ _).mono ?_
  rintro e v20 ⟨⟨rfl, hr20⟩, hb20⟩
  replace hs := hs.keep hb20
  replace HX := Lib.hid (HX.out.keep hb20)
  replace HY := Lib.hid (HY.out.keep hb20)
  replace HV9 := Lib.hid (HV9.out.keep hb20)
  replace HV13 := Lib.hid (HV13.out.keep hb20)
  replace HSA19 := Lib.hid (HSA19.out.keep hb20)
  have HRD20 := Lib.hid hr20
  clear hr20 hb20
  go_wp2_with fail
  refine (ref2_c m19 _ _ HSA19.out HRD20.out).mono ?_
  rintro e v21 ⟨⟨v15, rfl, -⟩, hb21⟩
  replace hs := hs.keep hb21
  replace HX := Lib.hid (HX.out.keep hb21)
  replace HY := Lib.hid (HY.out.keep hb21)
  replace HV9 := Lib.hid (HV9.out.keep hb21)
  replace HV13 := Lib.hid (HV13.out.keep hb21)
  replace HSA19 := Lib.hid (HSA19.out.keep hb21)
  replace HRD20 := Lib.hid (HRD20.out.keep hb21)
  clear hb21
  clear HSA19 HRD20
  go_wp2_with fail
  refine Vals6.regionAll (fun X => Blk X kHX 23 #[.int .i64 0, .int .i64 30] ∧ Blk X kHY 23 #[.int .i64 4, .int .i64 6] ∧ Lv X v9 refL ∧ Lv X v13 [20, 22, 25, 28] ∧ Since w X) [some 65, some 66, some 67, some 68, some 69, some 70, some 71, some 72, some 73, some 74, some 75, some 76, some 77, some 78, some 79, some 80, some 81, some 82, some 83, some 84, some 85, some 86, some 87, some 88, some 89, some 90, some 91, some 92, some 93, some 94, some 95, some 96, some 97, some 98, some 99, some 100, some 101, some 102, some 103, some 104, some 105, some 106, some 107, some 108, some 109, some 110, some 111, some 112, some 113, some 114, some 115, some 116, some 117, some 118, some 119, some 120, some 121, some 122, some 123, some 124, some 125, some 126] [.is (.int .i64 0), .is (.bool true), .is (.bool true), .is (.int .i64 0), .is (.bool true), .is (.bool true), .is (.bool true), .is (.int .i64 0), .is (.bool true), .is (.bool true), .is (.bool true), .is (.int .i64 0), .is (.bool true), .is (.bool true), .is (.bool true), .is (.int .i64 0), .is (.bool true), .is (.bool true), .is (.bool true), .is (.int .i64 0), .is (.bool true), .is (.bool true), .is (.bool true), .is (.int .i64 0), .is (.bool true), .is (.bool true), .is (.bool true), .is (.int .i64 4), .is (.bool true), .is (.bool true), .is (.bool true), .is (.agg #[.int .i64 0, .int .i64 30]), .is (.agg #[.int .i64 0, .int .i64 30]), .is (.bool true), .is (.bool true), .is (.bool true), .is (.agg #[.int .i64 4, .int .i64 6]), .is (.agg #[.int .i64 4, .int .i64 6]), .is (.bool true), .is (.bool true), .is (.bool true), .is (.int .i64 22), .is (.bool true), .is (.bool true), .is (.bool true), .is (.int .i64 (-1)), .is (.bool true), .is (.bool true), .is (.bool true), .is (v9), .has (LvP refL), .is (.bool true), .is (.bool true), .is (.bool true), .is (.int .i64 23), .is (.bool true), .is (.bool true), .is (.bool true), .is (v13), .has (LvP [20, 22, 25, 28]), .is (.bool true), .is (.bool true)] (by kernel_rfl) rfl rfl (by kernel_rfl) (by kernel_rfl) (by kernel_rfl) (by kernel_rfl) (by kernel_rfl) (by kernel_rfl) (by kernel_rfl) (⟨HX.out.drew, HY.out.drew, HV9.out.keep (Below.refl _ _).drew, HV13.out.keep (Below.refl _ _).drew, hs.drew⟩) ?_ ?_
  · refine Vals5.Steps.run (by kernel_rfl) (Vals5.Stable.is _) ?_ ?_
    · intro a W hS pre old K hK
      have e2 : a.tmps.getD 2 undef = .int .i64 0 := old 2 _ (by kernel_rfl) rfl
      clear pre old
      simp only [Array.getD_eq_getD_getElem?] at e2
      go_simp
      exact hK _ _ hS (Below.refl _ _) rfl
    refine Vals5.Steps.run (by kernel_rfl) (Vals5.Stable.is _) ?_ ?_
    · intro a W hS pre old K hK
      have e65 : a.tmps.getD 65 undef = .int .i64 0 := pre 0 65 _ (by kernel_rfl) rfl rfl
      clear pre old
      simp only [Array.getD_eq_getD_getElem?] at e65
      go_simp
      exact hK _ _ hS (Below.refl _ _) rfl
    refine Vals5.Steps.run (by kernel_rfl) (Vals5.Stable.is _) ?_ ?_
    · intro a W hS pre old K hK
      have e66 : a.tmps.getD 66 undef = .bool true := pre 1 66 _ (by kernel_rfl) rfl rfl
      clear pre old
      simp only [Array.getD_eq_getD_getElem?] at e66
      go_simp
      exact hK _ _ hS (Below.refl _ _) rfl
    refine Vals5.Steps.run (by kernel_rfl) (Vals5.Stable.is _) ?_ ?_
    · intro a W hS pre old K hK
      have e4 : a.tmps.getD 4 undef = .int .i64 0 := old 4 _ (by kernel_rfl) rfl
      clear pre old
      simp only [Array.getD_eq_getD_getElem?] at e4
      go_simp
      exact hK _ _ hS (Below.refl _ _) rfl
    refine Vals5.Steps.run (by kernel_rfl) (Vals5.Stable.is _) ?_ ?_
    · intro a W hS pre old K hK
      have e68 : a.tmps.getD 68 undef = .int .i64 0 := pre 3 68 _ (by kernel_rfl) rfl rfl
      clear pre old
      simp only [Array.getD_eq_getD_getElem?] at e68
      go_simp
      exact hK _ _ hS (Below.refl _ _) rfl
    refine Vals5.Steps.run (by kernel_rfl) (Vals5.Stable.is _) ?_ ?_
    · intro a W hS pre old K hK
      have e67 : a.tmps.getD 67 undef = .bool true := pre 2 67 _ (by kernel_rfl) rfl rfl
      have e69 : a.tmps.getD 69 undef = .bool true := pre 4 69 _ (by kernel_rfl) rfl rfl
      clear pre old
      simp only [Array.getD_eq_getD_getElem?] at e67 e69
      go_simp
      exact hK _ _ hS (Below.refl _ _) rfl
    refine Vals5.Steps.run (by kernel_rfl) (Vals5.Stable.is _) ?_ ?_
    · intro a W hS pre old K hK
      have e70 : a.tmps.getD 70 undef = .bool true := pre 5 70 _ (by kernel_rfl) rfl rfl
      clear pre old
      simp only [Array.getD_eq_getD_getElem?] at e70
      go_simp
      exact hK _ _ hS (Below.refl _ _) rfl
    refine Vals5.Steps.run (by kernel_rfl) (Vals5.Stable.is _) ?_ ?_
    · intro a W hS pre old K hK
      have e6 : a.tmps.getD 6 undef = .int .i64 0 := old 6 _ (by kernel_rfl) rfl
      clear pre old
      simp only [Array.getD_eq_getD_getElem?] at e6
      go_simp
      exact hK _ _ hS (Below.refl _ _) rfl
    refine Vals5.Steps.run (by kernel_rfl) (Vals5.Stable.is _) ?_ ?_
    · intro a W hS pre old K hK
      have e72 : a.tmps.getD 72 undef = .int .i64 0 := pre 7 72 _ (by kernel_rfl) rfl rfl
      clear pre old
      simp only [Array.getD_eq_getD_getElem?] at e72
      go_simp
      exact hK _ _ hS (Below.refl _ _) rfl
    refine Vals5.Steps.run (by kernel_rfl) (Vals5.Stable.is _) ?_ ?_
    · intro a W hS pre old K hK
      have e71 : a.tmps.getD 71 undef = .bool true := pre 6 71 _ (by kernel_rfl) rfl rfl
      have e73 : a.tmps.getD 73 undef = .bool true := pre 8 73 _ (by kernel_rfl) rfl rfl
      clear pre old
      simp only [Array.getD_eq_getD_getElem?] at e71 e73
      go_simp
      exact hK _ _ hS (Below.refl _ _) rfl
    refine Vals5.Steps.run (by kernel_rfl) (Vals5.Stable.is _) ?_ ?_
    · intro a W hS pre old K hK
      have e74 : a.tmps.getD 74 undef = .bool true := pre 9 74 _ (by kernel_rfl) rfl rfl
      clear pre old
      simp only [Array.getD_eq_getD_getElem?] at e74
      go_simp
      exact hK _ _ hS (Below.refl _ _) rfl
    refine Vals5.Steps.run (by kernel_rfl) (Vals5.Stable.is _) ?_ ?_
    · intro a W hS pre old K hK
      have e8 : a.tmps.getD 8 undef = .int .i64 0 := old 8 _ (by kernel_rfl) rfl
      clear pre old
      simp only [Array.getD_eq_getD_getElem?] at e8
      go_simp
      exact hK _ _ hS (Below.refl _ _) rfl
    refine Vals5.Steps.run (by kernel_rfl) (Vals5.Stable.is _) ?_ ?_
    · intro a W hS pre old K hK
      have e76 : a.tmps.getD 76 undef = .int .i64 0 := pre 11 76 _ (by kernel_rfl) rfl rfl
      clear pre old
      simp only [Array.getD_eq_getD_getElem?] at e76
      go_simp
      exact hK _ _ hS (Below.refl _ _) rfl
    refine Vals5.Steps.run (by kernel_rfl) (Vals5.Stable.is _) ?_ ?_
    · intro a W hS pre old K hK
      have e75 : a.tmps.getD 75 undef = .bool true := pre 10 75 _ (by kernel_rfl) rfl rfl
      have e77 : a.tmps.getD 77 undef = .bool true := pre 12 77 _ (by kernel_rfl) rfl rfl
      clear pre old
      simp only [Array.getD_eq_getD_getElem?] at e75 e77
      go_simp
      exact hK _ _ hS (Below.refl _ _) rfl
    refine Vals5.Steps.run (by kernel_rfl) (Vals5.Stable.is _) ?_ ?_
    · intro a W hS pre old K hK
      have e78 : a.tmps.getD 78 undef = .bool true := pre 13 78 _ (by kernel_rfl) rfl rfl
      clear pre old
      simp only [Array.getD_eq_getD_getElem?] at e78
      go_simp
      exact hK _ _ hS (Below.refl _ _) rfl
    refine Vals5.Steps.run (by kernel_rfl) (Vals5.Stable.is _) ?_ ?_
    · intro a W hS pre old K hK
      have e10 : a.tmps.getD 10 undef = .int .i64 0 := old 10 _ (by kernel_rfl) rfl
      clear pre old
      simp only [Array.getD_eq_getD_getElem?] at e10
      go_simp
      exact hK _ _ hS (Below.refl _ _) rfl
    refine Vals5.Steps.run (by kernel_rfl) (Vals5.Stable.is _) ?_ ?_
    · intro a W hS pre old K hK
      have e80 : a.tmps.getD 80 undef = .int .i64 0 := pre 15 80 _ (by kernel_rfl) rfl rfl
      clear pre old
      simp only [Array.getD_eq_getD_getElem?] at e80
      go_simp
      exact hK _ _ hS (Below.refl _ _) rfl
    refine Vals5.Steps.run (by kernel_rfl) (Vals5.Stable.is _) ?_ ?_
    · intro a W hS pre old K hK
      have e79 : a.tmps.getD 79 undef = .bool true := pre 14 79 _ (by kernel_rfl) rfl rfl
      have e81 : a.tmps.getD 81 undef = .bool true := pre 16 81 _ (by kernel_rfl) rfl rfl
      clear pre old
      simp only [Array.getD_eq_getD_getElem?] at e79 e81
      go_simp
      exact hK _ _ hS (Below.refl _ _) rfl
    refine Vals5.Steps.run (by kernel_rfl) (Vals5.Stable.is _) ?_ ?_
    · intro a W hS pre old K hK
      have e82 : a.tmps.getD 82 undef = .bool true := pre 17 82 _ (by kernel_rfl) rfl rfl
      clear pre old
      simp only [Array.getD_eq_getD_getElem?] at e82
      go_simp
      exact hK _ _ hS (Below.refl _ _) rfl
    refine Vals5.Steps.run (by kernel_rfl) (Vals5.Stable.is _) ?_ ?_
    · intro a W hS pre old K hK
      have e12 : a.tmps.getD 12 undef = .int .i64 0 := old 12 _ (by kernel_rfl) rfl
      clear pre old
      simp only [Array.getD_eq_getD_getElem?] at e12
      go_simp
      exact hK _ _ hS (Below.refl _ _) rfl
    refine Vals5.Steps.run (by kernel_rfl) (Vals5.Stable.is _) ?_ ?_
    · intro a W hS pre old K hK
      have e84 : a.tmps.getD 84 undef = .int .i64 0 := pre 19 84 _ (by kernel_rfl) rfl rfl
      clear pre old
      simp only [Array.getD_eq_getD_getElem?] at e84
      go_simp
      exact hK _ _ hS (Below.refl _ _) rfl
    refine Vals5.Steps.run (by kernel_rfl) (Vals5.Stable.is _) ?_ ?_
    · intro a W hS pre old K hK
      have e83 : a.tmps.getD 83 undef = .bool true := pre 18 83 _ (by kernel_rfl) rfl rfl
      have e85 : a.tmps.getD 85 undef = .bool true := pre 20 85 _ (by kernel_rfl) rfl rfl
      clear pre old
      simp only [Array.getD_eq_getD_getElem?] at e83 e85
      go_simp
      exact hK _ _ hS (Below.refl _ _) rfl
    refine Vals5.Steps.run (by kernel_rfl) (Vals5.Stable.is _) ?_ ?_
    · intro a W hS pre old K hK
      have e86 : a.tmps.getD 86 undef = .bool true := pre 21 86 _ (by kernel_rfl) rfl rfl
      clear pre old
      simp only [Array.getD_eq_getD_getElem?] at e86
      go_simp
      exact hK _ _ hS (Below.refl _ _) rfl
    refine Vals5.Steps.run (by kernel_rfl) (Vals5.Stable.is _) ?_ ?_
    · intro a W hS pre old K hK
      have e14 : a.tmps.getD 14 undef = .int .i64 0 := old 14 _ (by kernel_rfl) rfl
      clear pre old
      simp only [Array.getD_eq_getD_getElem?] at e14
      go_simp
      exact hK _ _ hS (Below.refl _ _) rfl
    refine Vals5.Steps.run (by kernel_rfl) (Vals5.Stable.is _) ?_ ?_
    · intro a W hS pre old K hK
      have e88 : a.tmps.getD 88 undef = .int .i64 0 := pre 23 88 _ (by kernel_rfl) rfl rfl
      clear pre old
      simp only [Array.getD_eq_getD_getElem?] at e88
      go_simp
      exact hK _ _ hS (Below.refl _ _) rfl
    refine Vals5.Steps.run (by kernel_rfl) (Vals5.Stable.is _) ?_ ?_
    · intro a W hS pre old K hK
      have e87 : a.tmps.getD 87 undef = .bool true := pre 22 87 _ (by kernel_rfl) rfl rfl
      have e89 : a.tmps.getD 89 undef = .bool true := pre 24 89 _ (by kernel_rfl) rfl rfl
      clear pre old
      simp only [Array.getD_eq_getD_getElem?] at e87 e89
      go_simp
      exact hK _ _ hS (Below.refl _ _) rfl
    refine Vals5.Steps.run (by kernel_rfl) (Vals5.Stable.is _) ?_ ?_
    · intro a W hS pre old K hK
      have e90 : a.tmps.getD 90 undef = .bool true := pre 25 90 _ (by kernel_rfl) rfl rfl
      clear pre old
      simp only [Array.getD_eq_getD_getElem?] at e90
      go_simp
      exact hK _ _ hS (Below.refl _ _) rfl
    refine Vals5.Steps.run (by kernel_rfl) (Vals5.Stable.is _) ?_ ?_
    · intro a W hS pre old K hK
      have e16 : a.tmps.getD 16 undef = .int .i64 4 := old 16 _ (by kernel_rfl) rfl
      clear pre old
      simp only [Array.getD_eq_getD_getElem?] at e16
      go_simp
      exact hK _ _ hS (Below.refl _ _) rfl
    refine Vals5.Steps.run (by kernel_rfl) (Vals5.Stable.is _) ?_ ?_
    · intro a W hS pre old K hK
      have e92 : a.tmps.getD 92 undef = .int .i64 4 := pre 27 92 _ (by kernel_rfl) rfl rfl
      clear pre old
      simp only [Array.getD_eq_getD_getElem?] at e92
      go_simp
      exact hK _ _ hS (Below.refl _ _) rfl
    refine Vals5.Steps.run (by kernel_rfl) (Vals5.Stable.is _) ?_ ?_
    · intro a W hS pre old K hK
      have e91 : a.tmps.getD 91 undef = .bool true := pre 26 91 _ (by kernel_rfl) rfl rfl
      have e93 : a.tmps.getD 93 undef = .bool true := pre 28 93 _ (by kernel_rfl) rfl rfl
      clear pre old
      simp only [Array.getD_eq_getD_getElem?] at e91 e93
      go_simp
      exact hK _ _ hS (Below.refl _ _) rfl
    refine Vals5.Steps.run (by kernel_rfl) (Vals5.Stable.is _) ?_ ?_
    · intro a W hS pre old K hK
      have e94 : a.tmps.getD 94 undef = .bool true := pre 29 94 _ (by kernel_rfl) rfl rfl
      clear pre old
      simp only [Array.getD_eq_getD_getElem?] at e94
      go_simp
      exact hK _ _ hS (Below.refl _ _) rfl
    refine Vals5.Steps.run (by kernel_rfl) (Vals5.Stable.is _) ?_ ?_
    · intro a W hS pre old K hK
      have e1 : a.tmps.getD 1 undef = .pointer (some ⟨kHX, 0, none⟩) := old 1 _ (by kernel_rfl) rfl
      clear pre old
      simp only [Array.getD_eq_getD_getElem?] at e1
      have hS9 := hS
      obtain ⟨l1, l2, _⟩ := hS9
      have x0 := l1.cell 0
      have x1 := l1.cell 1
      have y0 := l2.cell 0
      have y1 := l2.cell 1
      simp only [List.getElem?_toArray, List.getElem?_cons_zero, List.getElem?_cons_succ] at x0 x1 y0 y1
      go_simp
      exact hK _ _ hS (Below.refl _ _) rfl
    refine Vals5.Steps.run (by kernel_rfl) (Vals5.Stable.is _) ?_ ?_
    · intro a W hS pre old K hK
      clear pre old
      go_simp
      refine (span_c 0 30 _).mono ?_
      rintro e w' ⟨rfl, hb'⟩
      obtain ⟨h1, h2, h3, h4, h5⟩ := hS
      exact hK _ _ ⟨h1.keep hb', h2.keep hb', h3.keep hb', h4.keep hb', h5.keep hb'⟩ hb' rfl
    refine Vals5.Steps.run (by kernel_rfl) (Vals5.Stable.is _) ?_ ?_
    · intro a W hS pre old K hK
      have e96 : a.tmps.getD 96 undef = .agg #[.int .i64 0, .int .i64 30] := pre 31 96 _ (by kernel_rfl) rfl rfl
      have e97 : a.tmps.getD 97 undef = .agg #[.int .i64 0, .int .i64 30] := pre 32 97 _ (by kernel_rfl) rfl rfl
      clear pre old
      simp only [Array.getD_eq_getD_getElem?] at e96 e97
      have hq := eqSpan 0 30
      go_simp
      exact hK _ _ hS (Below.refl _ _) rfl
    refine Vals5.Steps.run (by kernel_rfl) (Vals5.Stable.is _) ?_ ?_
    · intro a W hS pre old K hK
      have e95 : a.tmps.getD 95 undef = .bool true := pre 30 95 _ (by kernel_rfl) rfl rfl
      have e98 : a.tmps.getD 98 undef = .bool true := pre 33 98 _ (by kernel_rfl) rfl rfl
      clear pre old
      simp only [Array.getD_eq_getD_getElem?] at e95 e98
      go_simp
      exact hK _ _ hS (Below.refl _ _) rfl
    refine Vals5.Steps.run (by kernel_rfl) (Vals5.Stable.is _) ?_ ?_
    · intro a W hS pre old K hK
      have e99 : a.tmps.getD 99 undef = .bool true := pre 34 99 _ (by kernel_rfl) rfl rfl
      clear pre old
      simp only [Array.getD_eq_getD_getElem?] at e99
      go_simp
      exact hK _ _ hS (Below.refl _ _) rfl
    refine Vals5.Steps.run (by kernel_rfl) (Vals5.Stable.is _) ?_ ?_
    · intro a W hS pre old K hK
      have e3 : a.tmps.getD 3 undef = .pointer (some ⟨kHY, 0, none⟩) := old 3 _ (by kernel_rfl) rfl
      clear pre old
      simp only [Array.getD_eq_getD_getElem?] at e3
      have hS9 := hS
      obtain ⟨l1, l2, _⟩ := hS9
      have x0 := l1.cell 0
      have x1 := l1.cell 1
      have y0 := l2.cell 0
      have y1 := l2.cell 1
      simp only [List.getElem?_toArray, List.getElem?_cons_zero, List.getElem?_cons_succ] at x0 x1 y0 y1
      go_simp
      exact hK _ _ hS (Below.refl _ _) rfl
    refine Vals5.Steps.run (by kernel_rfl) (Vals5.Stable.is _) ?_ ?_
    · intro a W hS pre old K hK
      clear pre old
      go_simp
      refine (span_c 4 6 _).mono ?_
      rintro e w' ⟨rfl, hb'⟩
      obtain ⟨h1, h2, h3, h4, h5⟩ := hS
      exact hK _ _ ⟨h1.keep hb', h2.keep hb', h3.keep hb', h4.keep hb', h5.keep hb'⟩ hb' rfl
    refine Vals5.Steps.run (by kernel_rfl) (Vals5.Stable.is _) ?_ ?_
    · intro a W hS pre old K hK
      have e101 : a.tmps.getD 101 undef = .agg #[.int .i64 4, .int .i64 6] := pre 36 101 _ (by kernel_rfl) rfl rfl
      have e102 : a.tmps.getD 102 undef = .agg #[.int .i64 4, .int .i64 6] := pre 37 102 _ (by kernel_rfl) rfl rfl
      clear pre old
      simp only [Array.getD_eq_getD_getElem?] at e101 e102
      have hq := eqSpan 4 6
      go_simp
      exact hK _ _ hS (Below.refl _ _) rfl
    refine Vals5.Steps.run (by kernel_rfl) (Vals5.Stable.is _) ?_ ?_
    · intro a W hS pre old K hK
      have e100 : a.tmps.getD 100 undef = .bool true := pre 35 100 _ (by kernel_rfl) rfl rfl
      have e103 : a.tmps.getD 103 undef = .bool true := pre 38 103 _ (by kernel_rfl) rfl rfl
      clear pre old
      simp only [Array.getD_eq_getD_getElem?] at e100 e103
      go_simp
      exact hK _ _ hS (Below.refl _ _) rfl
    refine Vals5.Steps.run (by kernel_rfl) (Vals5.Stable.is _) ?_ ?_
    · intro a W hS pre old K hK
      have e104 : a.tmps.getD 104 undef = .bool true := pre 39 104 _ (by kernel_rfl) rfl rfl
      clear pre old
      simp only [Array.getD_eq_getD_getElem?] at e104
      go_simp
      exact hK _ _ hS (Below.refl _ _) rfl
    refine Vals5.Steps.run (by kernel_rfl) (Vals5.Stable.is _) ?_ ?_
    · intro a W hS pre old K hK
      have e5 : a.tmps.getD 5 undef = .int .i64 22 := old 5 _ (by kernel_rfl) rfl
      clear pre old
      simp only [Array.getD_eq_getD_getElem?] at e5
      go_simp
      exact hK _ _ hS (Below.refl _ _) rfl
    refine Vals5.Steps.run (by kernel_rfl) (Vals5.Stable.is _) ?_ ?_
    · intro a W hS pre old K hK
      have e106 : a.tmps.getD 106 undef = .int .i64 22 := pre 41 106 _ (by kernel_rfl) rfl rfl
      clear pre old
      simp only [Array.getD_eq_getD_getElem?] at e106
      go_simp
      exact hK _ _ hS (Below.refl _ _) rfl
    refine Vals5.Steps.run (by kernel_rfl) (Vals5.Stable.is _) ?_ ?_
    · intro a W hS pre old K hK
      have e105 : a.tmps.getD 105 undef = .bool true := pre 40 105 _ (by kernel_rfl) rfl rfl
      have e107 : a.tmps.getD 107 undef = .bool true := pre 42 107 _ (by kernel_rfl) rfl rfl
      clear pre old
      simp only [Array.getD_eq_getD_getElem?] at e105 e107
      go_simp
      exact hK _ _ hS (Below.refl _ _) rfl
    refine Vals5.Steps.run (by kernel_rfl) (Vals5.Stable.is _) ?_ ?_
    · intro a W hS pre old K hK
      have e108 : a.tmps.getD 108 undef = .bool true := pre 43 108 _ (by kernel_rfl) rfl rfl
      clear pre old
      simp only [Array.getD_eq_getD_getElem?] at e108
      go_simp
      exact hK _ _ hS (Below.refl _ _) rfl
    refine Vals5.Steps.run (by kernel_rfl) (Vals5.Stable.is _) ?_ ?_
    · intro a W hS pre old K hK
      have e7 : a.tmps.getD 7 undef = .int .i64 (-1) := old 7 _ (by kernel_rfl) rfl
      clear pre old
      simp only [Array.getD_eq_getD_getElem?] at e7
      go_simp
      exact hK _ _ hS (Below.refl _ _) rfl
    refine Vals5.Steps.run (by kernel_rfl) (Vals5.Stable.is _) ?_ ?_
    · intro a W hS pre old K hK
      have e110 : a.tmps.getD 110 undef = .int .i64 (-1) := pre 45 110 _ (by kernel_rfl) rfl rfl
      clear pre old
      simp only [Array.getD_eq_getD_getElem?] at e110
      go_simp
      exact hK _ _ hS (Below.refl _ _) rfl
    refine Vals5.Steps.run (by kernel_rfl) (Vals5.Stable.is _) ?_ ?_
    · intro a W hS pre old K hK
      have e109 : a.tmps.getD 109 undef = .bool true := pre 44 109 _ (by kernel_rfl) rfl rfl
      have e111 : a.tmps.getD 111 undef = .bool true := pre 46 111 _ (by kernel_rfl) rfl rfl
      clear pre old
      simp only [Array.getD_eq_getD_getElem?] at e109 e111
      go_simp
      exact hK _ _ hS (Below.refl _ _) rfl
    refine Vals5.Steps.run (by kernel_rfl) (Vals5.Stable.is _) ?_ ?_
    · intro a W hS pre old K hK
      have e112 : a.tmps.getD 112 undef = .bool true := pre 47 112 _ (by kernel_rfl) rfl rfl
      clear pre old
      simp only [Array.getD_eq_getD_getElem?] at e112
      go_simp
      exact hK _ _ hS (Below.refl _ _) rfl
    refine Vals5.Steps.run (by kernel_rfl) (Vals5.Stable.is _) ?_ ?_
    · intro a W hS pre old K hK
      have e9 : a.tmps.getD 9 undef = v9 := old 9 _ (by kernel_rfl) rfl
      clear pre old
      simp only [Array.getD_eq_getD_getElem?] at e9
      go_simp
      exact hK _ _ hS (Below.refl _ _) rfl
    refine Vals5.Steps.run (by kernel_rfl) (LvP.stable _) ?_ ?_
    · intro a W hS pre old K hK
      clear pre old
      go_simp
      refine (refused_c _).mono ?_
      rintro e w' ⟨⟨v, rfl, hv⟩, hb'⟩
      obtain ⟨h1, h2, h3, h4, h5⟩ := hS
      exact hK _ _ ⟨h1.keep hb', h2.keep hb', h3.keep hb', h4.keep hb', h5.keep hb'⟩ hb' hv
    refine Vals5.Steps.run (by kernel_rfl) (Vals5.Stable.is _) ?_ ?_
    · intro a W hS pre old K hK
      have e114 : a.tmps.getD 114 undef = v9 := pre 49 114 _ (by kernel_rfl) rfl rfl
      have f115 := pre 50 115 _ (by kernel_rfl) rfl rfl
      clear pre old
      simp only [Array.getD_eq_getD_getElem?] at e114
      obtain ⟨y9, hy9⟩ : ∃ y, a.tmps.getD 115 undef = y := ⟨_, rfl⟩
      rw [hy9] at f115
      simp only [Array.getD_eq_getD_getElem?] at hy9
      go_simp
      refine (ints_same _ y9 refL _ (by decide) hS.2.2.1 f115).mono ?_
      rintro e w' ⟨rfl, hb'⟩
      obtain ⟨h1, h2, h3, h4, h5⟩ := hS
      exact hK _ _ ⟨h1.keep hb', h2.keep hb', h3.keep hb', h4.keep hb', h5.keep hb'⟩ hb' rfl
    refine Vals5.Steps.run (by kernel_rfl) (Vals5.Stable.is _) ?_ ?_
    · intro a W hS pre old K hK
      have e113 : a.tmps.getD 113 undef = .bool true := pre 48 113 _ (by kernel_rfl) rfl rfl
      have e116 : a.tmps.getD 116 undef = .bool true := pre 51 116 _ (by kernel_rfl) rfl rfl
      clear pre old
      simp only [Array.getD_eq_getD_getElem?] at e113 e116
      go_simp
      exact hK _ _ hS (Below.refl _ _) rfl
    refine Vals5.Steps.run (by kernel_rfl) (Vals5.Stable.is _) ?_ ?_
    · intro a W hS pre old K hK
      have e117 : a.tmps.getD 117 undef = .bool true := pre 52 117 _ (by kernel_rfl) rfl rfl
      clear pre old
      simp only [Array.getD_eq_getD_getElem?] at e117
      go_simp
      exact hK _ _ hS (Below.refl _ _) rfl
    refine Vals5.Steps.run (by kernel_rfl) (Vals5.Stable.is _) ?_ ?_
    · intro a W hS pre old K hK
      have e11 : a.tmps.getD 11 undef = .int .i64 23 := old 11 _ (by kernel_rfl) rfl
      clear pre old
      simp only [Array.getD_eq_getD_getElem?] at e11
      go_simp
      exact hK _ _ hS (Below.refl _ _) rfl
    refine Vals5.Steps.run (by kernel_rfl) (Vals5.Stable.is _) ?_ ?_
    · intro a W hS pre old K hK
      have e119 : a.tmps.getD 119 undef = .int .i64 23 := pre 54 119 _ (by kernel_rfl) rfl rfl
      clear pre old
      simp only [Array.getD_eq_getD_getElem?] at e119
      go_simp
      exact hK _ _ hS (Below.refl _ _) rfl
    refine Vals5.Steps.run (by kernel_rfl) (Vals5.Stable.is _) ?_ ?_
    · intro a W hS pre old K hK
      have e118 : a.tmps.getD 118 undef = .bool true := pre 53 118 _ (by kernel_rfl) rfl rfl
      have e120 : a.tmps.getD 120 undef = .bool true := pre 55 120 _ (by kernel_rfl) rfl rfl
      clear pre old
      simp only [Array.getD_eq_getD_getElem?] at e118 e120
      go_simp
      exact hK _ _ hS (Below.refl _ _) rfl
    refine Vals5.Steps.run (by kernel_rfl) (Vals5.Stable.is _) ?_ ?_
    · intro a W hS pre old K hK
      have e121 : a.tmps.getD 121 undef = .bool true := pre 56 121 _ (by kernel_rfl) rfl rfl
      clear pre old
      simp only [Array.getD_eq_getD_getElem?] at e121
      go_simp
      exact hK _ _ hS (Below.refl _ _) rfl
    refine Vals5.Steps.run (by kernel_rfl) (Vals5.Stable.is _) ?_ ?_
    · intro a W hS pre old K hK
      have e13 : a.tmps.getD 13 undef = v13 := old 13 _ (by kernel_rfl) rfl
      clear pre old
      simp only [Array.getD_eq_getD_getElem?] at e13
      go_simp
      exact hK _ _ hS (Below.refl _ _) rfl
    refine Vals5.Steps.run (by kernel_rfl) (LvP.stable _) ?_ ?_
    · intro a W hS pre old K hK
      clear pre old
      go_simp
      have hb' : Below W.heap.size W (W.alloc (.cells #[.int .i64 20, .int .i64 22, .int .i64 25, .int .i64 28] 3)) := (Below.refl _ _).alloc (Nat.le_refl _) _
      obtain ⟨h1, h2, h3, h4, h5⟩ := hS
      exact hK _ _ ⟨h1.keep hb', h2.keep hb', h3.keep hb', h4.keep hb', h5.keep hb'⟩ hb' ⟨_, _, rfl, InAt.blk (l := [20, 22, 25, 28]) (Blk.new _ _ _)⟩
    refine Vals5.Steps.run (by kernel_rfl) (Vals5.Stable.is _) ?_ ?_
    · intro a W hS pre old K hK
      have e123 : a.tmps.getD 123 undef = v13 := pre 58 123 _ (by kernel_rfl) rfl rfl
      have f124 := pre 59 124 _ (by kernel_rfl) rfl rfl
      clear pre old
      simp only [Array.getD_eq_getD_getElem?] at e123
      obtain ⟨y9, hy9⟩ : ∃ y, a.tmps.getD 124 undef = y := ⟨_, rfl⟩
      rw [hy9] at f124
      simp only [Array.getD_eq_getD_getElem?] at hy9
      go_simp
      refine (ints_same _ y9 [20, 22, 25, 28] _ (by decide) hS.2.2.2.1 f124).mono ?_
      rintro e w' ⟨rfl, hb'⟩
      obtain ⟨h1, h2, h3, h4, h5⟩ := hS
      exact hK _ _ ⟨h1.keep hb', h2.keep hb', h3.keep hb', h4.keep hb', h5.keep hb'⟩ hb' rfl
    refine Vals5.Steps.run (by kernel_rfl) (Vals5.Stable.is _) ?_ ?_
    · intro a W hS pre old K hK
      have e122 : a.tmps.getD 122 undef = .bool true := pre 57 122 _ (by kernel_rfl) rfl rfl
      have e125 : a.tmps.getD 125 undef = .bool true := pre 60 125 _ (by kernel_rfl) rfl rfl
      clear pre old
      simp only [Array.getD_eq_getD_getElem?] at e122 e125
      go_simp
      exact hK _ _ hS (Below.refl _ _) rfl
    exact Vals5.Steps.nil
  rintro X ⟨_, _, _, _, hs9⟩
  simp only [Vals5.All, List.getLast_cons_cons, List.getLast_singleton]
  rintro u115 -
  rintro u124 -
  simp only [Vals.putAll, List.setIfInBounds_toArray, List.set_cons_zero, List.set_cons_succ]
  intro K hK
  go_simp
  refine hK _ _ ?_
  clear hK K
  go_wp2_with fail
  go_ret
  exact ⟨rfl, hs9.1⟩
end Td
end Go.Proofs.Ytmofbnadfgejiaa
