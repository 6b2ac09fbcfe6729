import Derived.Test.YtccacinnelmnpaaFex
import Derived.Test.YtccacinnelmnpaaInts
import Derived.OwnWalk
/- The space of the examples, and its readings. -/
namespace Go.Proofs.Ytccacinnelmnpaa
open Go.RowKit
namespace Td
set_option linter.unusedSimpArgs false
set_option linter.unusedVariables false
attribute [local go_sem] Oper.semAt_some
def exS : Spc := ⟨0, 40, 1, 3, -6, -4, 10, [(10, 19)], [⟨⟨#[111, 108, 100]⟩, 5⟩, ⟨⟨#[110, 101, 119]⟩, 2⟩]⟩
def refL : List Int := [21, 24, 27, 30, 33, 36, 39, 42, 45, 48, 51, 47, 43, 39, 35, 31, 27, 23, 19, 15, 11]
theorem ev_level : levelA exS [] 20 = ((0, 30), 0) := by decide +kernel
theorem ev_level2 : levelA exS [⟨20, 1, 6⟩, ⟨20, 0, 1⟩] 20 = ((4, 6), 0) := by decide +kernel
theorem ev_until : untilA exS [⟨20, 1, 2⟩] 20 = (22, 0) := by decide +kernel
theorem ev_until2 : untilA exS [⟨20, 1, 12⟩] 20 = (-1, 0) := by decide +kernel
theorem ev_refusal : refusalA exS [⟨20, 1, 12⟩] 20 = (refL, 0) := by decide +kernel
theorem ev_holds : holdsA exS ⟨10, 1, 2⟩ = (23, 0) := by decide +kernel
theorem ev_fewest : fewestA exS ⟨20, 1, 2⟩ 30 = ([20, 22, 25, 28], 0) := by decide +kernel
theorem ev_none : refusalA exS [⟨20, 1, 6⟩] 20 = ([], 4) := by decide +kernel
theorem span_c (a b : Int) (w : World) : Calls Try.prog 31 #[.int .i64 a, .int .i64 b] w fun e w' => e = .returned (.agg #[.int .i64 a, .int .i64 b]) ∧ Below w.heap.size w w' := by
  have HB := Lib.hid (Blk.new w 23 #[.int .i64 0, .int .i64 0])
  have hsn := (Since.refl w).alloc (.cells #[.int .i64 0, .int .i64 0] 23)
  go_enter Try.func31, Try.ntmps31
  go_wp2_with (refine wpList_store_row rfl 23 _ _ rfl (w.heap.size) _ rfl rfl 23 _ HB.out (by kernel_rfl) rfl (by simp [Value.oneCell']) ?_)
  (refine bodyPost_ret (v := .agg _) ?_ rfl ⟨rfl, ?_⟩; exact (results_cell_row Try.results31 _ _ (w.heap.size) 23 _ (0, 0) _ rfl (HB.out.row _) Try.underlying23 rfl (by kernel_rfl)))
  exact (hsn.row (by omega) _).1
theorem TlAt.two {w : World} {g : Nat} {t : TypeId} {p r : Tl} (h : Blk w g t #[.string p.name, .int .i64 p.err, .string r.name, .int .i64 r.err]) : TlAt w (some ⟨g, 0, none⟩) [p, r] := fun _ => ⟨_, rfl, fun i q hq => by
  rw [add_new]
  match i, hq with
  | 0, hq =>
    obtain rfl : p = q := by simpa using hq
    exact ⟨h.cell 0, h.cell 1⟩
  | 1, hq =>
    obtain rfl : r = q := by simpa using hq
    exact ⟨h.cell 2, h.cell 3⟩
  | i + 2, hq => simp at hq⟩
set_option maxHeartbeats 2000000 in
theorem space_c (w : World) : Calls Try.prog 29 #[] w fun e w' => (∃ m, e = .returned (.agg (sV exS m)) ∧ SAt w' m exS) ∧ Below w.heap.size w w' := by
  have HB := Lib.hid (Blk.new w 27 #[.int .i64 0, .int .i64 0, .int .i64 0, .int .i64 0, .int .i64 0, .int .i64 0, .int .i64 0, .slice none 0 0, .slice none 0 0])
  have hsn := (Since.refl w).alloc (.cells #[.int .i64 0, .int .i64 0, .int .i64 0, .int .i64 0, .int .i64 0, .int .i64 0, .int .i64 0, .slice none 0 0, .slice none 0 0] 27)
  go_enter Try.func29, Try.ntmps29
  go_wp2_with fail
  refine (span_c _ _ _).mono ?_
  rintro e w1 ⟨rfl, hb1⟩
  replace HB := Lib.hid (HB.out.keep hb1)
  replace hsn := hsn.keep hb1
  go_wp2_with fail
  refine (span_c _ _ _).mono ?_
  rintro e w2 ⟨rfl, hb2⟩
  replace HB := Lib.hid (HB.out.keep hb2)
  replace hsn := hsn.keep hb2
  go_wp2_with fail
  refine (span_c _ _ _).mono ?_
  rintro e w3 ⟨rfl, hb3⟩
  replace HB := Lib.hid (HB.out.keep hb3)
  replace hsn := hsn.keep hb3
  go_wp2_with fail
  refine (span_c _ _ _).mono ?_
  rintro e w4 ⟨rfl, hb4⟩
  have h1 := Blk.new w4 23 #[.int .i64 10, .int .i64 19]
  have h2 := Blk.new1 w4 (.cells #[.int .i64 10, .int .i64 19] 23) 65 #[.string ⟨#[111, 108, 100]⟩, .int .i64 5, .string ⟨#[110, 101, 119]⟩, .int .i64 2]
  have HB5 := Lib.hid (((HB.out.keep hb4).alloc (.cells #[.int .i64 10, .int .i64 19] 23)).alloc (.cells #[.string ⟨#[111, 108, 100]⟩, .int .i64 5, .string ⟨#[110, 101, 119]⟩, .int .i64 2] 65))
  have hsn5 := ((hsn.keep hb4).alloc (.cells #[.int .i64 10, .int .i64 19] 23)).alloc (.cells #[.string ⟨#[111, 108, 100]⟩, .int .i64 5, .string ⟨#[110, 101, 119]⟩, .int .i64 2] 65)
  have hz := (HB.out.keep hb4).lt
  have H1 := Lib.hid ((h1.alloc (.cells #[.string ⟨#[111, 108, 100]⟩, .int .i64 5, .string ⟨#[110, 101, 119]⟩, .int .i64 2] 65)))
  have H2 := Lib.hid h2
  clear h1 h2
  go_wp2_with (refine wpList_store_row rfl 27 _ _ rfl (w.heap.size) _ rfl rfl 27 _ HB5.out (by kernel_rfl) rfl (by simp [Value.oneCell']) ?_)
  refine bodyPost_ret (v := .agg _) ?_ rfl ⟨⟨⟨some ⟨w4.heap.size, 0, none⟩, 1, some ⟨w4.heap.size + 1, 0, none⟩, 2⟩, rfl, ?_⟩, ?_⟩
  · exact (results_cell_row Try.results29 _ _ (w.heap.size) 27 _ (0, 0) _ rfl (HB5.out.row _) Try.underlying27 rfl (by kernel_rfl))
  · exact ⟨SpAt.one (p := (10, 19)) (H1.out.rowFar (by omega) _), TlAt.two (p := ⟨⟨#[111, 108, 100]⟩, 5⟩) (r := ⟨⟨#[110, 101, 119]⟩, 2⟩) (H2.out.rowFar (by omega) _), by show exS.blows.length ≤ 1; decide, by show exS.tools.length ≤ 2; decide, by show (1 : Nat) ≤ _; decide, by show (2 : Nat) ≤ _; decide, by decide +kernel⟩
  · exact (hsn5.row (by omega) _).1
theorem read_c (n : Int) (w : World) : Calls Try.prog 30 #[.int .i64 n] w fun e w' => e = .returned (.slice (some ⟨w.heap.size, 0, none⟩) 1 1) ∧ w' = w.alloc (.cells (rV ⟨20, 1, n⟩) 61) := by
  go_enter Try.func30, Try.ntmps30
  go_wp2_with fail
  go_ret
  exact ⟨rfl, rfl⟩
theorem RdAt.one {w : World} {g : Nat} {t : TypeId} {p : Rd} (h : Blk w g t (rV p)) : RdAt w (some ⟨g, 0, none⟩) [p] := fun _ => ⟨_, rfl, fun i q hq => by
  rw [add_new]
  match i, hq with
  | 0, hq =>
    obtain rfl : p = q := by simpa using hq
    exact ⟨h.cell 0, h.cell 1, h.cell 2⟩
  | i + 1, hq => simp at hq⟩
theorem refused_c (w : World) : Calls Try.prog 53 #[] w fun e w' => (∃ v, e = .returned v ∧ Lv w' v refL) ∧ Below w.heap.size w w' := by
  go_enter Try.func53, Try.ntmps53
  go_wp2_with fail
  go_ret
  refine ⟨⟨_, rfl, some ⟨w.heap.size, 0, none⟩, 21, rfl, fun _ => ⟨_, rfl, fun i p hp => ?_⟩⟩, (Below.refl _ _).alloc (Nat.le_refl _) _⟩
  rw [add_new]
  refine ((Blk.new w 3 _).cell i).trans ?_
  have : (refL.map fun x => Value.int .i64 x)[i]? = some (.int .i64 p) := by rw [List.getElem?_map, hp]; rfl
  rw [← this]
  simp [refL]
/-- a row of readings that is owned, as a slice. -/
theorem own_rd2 {W : World} {B : Nat} {v : Value} {l : List Rd} (h : W.ownsRow B 61 3 v l.length (rowsC l)) : ∃ A c, v = .slice A l.length c ∧ RdAt W A l ∧ l.length ≤ c ∧ c ≤ 9223372036854775807 := by
  obtain ⟨A, c, h1, h2⟩ := own_rd h
  refine ⟨A, c, h1, h2, ?_⟩
  rcases h.2 with ⟨h3, h0⟩ | ⟨g, cap, cur, h3, hB, hg, hn, hm, hs, ht⟩
  · rw [h1] at h3
    simp only [Value.slice.injEq] at h3
    exact ⟨by omega, by omega⟩
  · rw [h1] at h3
    simp only [Value.slice.injEq] at h3
    simp only [maxLen] at hm
    exact ⟨by omega, by omega⟩
theorem wpList_append_read {W : World} {ops : Array Oper} {rest : List Oper} {o : Oper} {a : Act} {Q : Exit → Act → World → Prop} (hgd : o.guard = none) (s x : Operand) (ho : o.op = .call { callee := .builtin .append, args := #[s, x], argTypes := #[28, 28] })
    (B g : Nat) (v : Value) (l : List Rd) (r : Rd) (hs : a.eval s = v) (hx : a.eval x = .slice (some ⟨g, 0, none⟩) 1 1) (hown : W.ownsRow B 61 3 v l.length (rowsC l)) (hg : Blk W g 61 (rV r)) (hl : l.length ≤ 1000) (hB : B ≤ W.heap.size)
    (h : ∀ v' w', w'.ownsRow B 61 3 v' (l ++ [r]).length (rowsC (l ++ [r])) → W.grownBy w' v.ownBlock → (v'.ownBlock = v.ownBlock ∨ v'.ownBlock = some W.heap.size) → wpList Try.prog ops Q rest (a.put o.dst v') w') : wpList Try.prog ops Q (o :: rest) a W :=
  wpList_plain hgd fun _ hK => wp_append_read s x ho hs hx hown hg hl hB fun v' w' h1 h2 h3 => hK _ _ (h v' w' h1 h2 h3)
end Td
end Go.Proofs.Ytccacinnelmnpaa
