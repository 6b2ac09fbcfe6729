import Derived.Test.YtccacinnelmnpaaLawG
/- The law package's truth of a space, by turns. -/
namespace Go.Proofs.Ytccacinnelmnpaa
open Go.RowKit
namespace Td
set_option linter.unusedSimpArgs false
set_option linter.unusedVariables false
attribute [local go_sem] Oper.semAt_some
/-- the levels of a truth, by turns. -/
def truN (s : Spc) (X : List Int) : Nat → Int
  | 0 => amongV s.s0 s.s1 (turnV X 0)
  | k + 1 => hld (truN s X k + amongV (chg s (k : Int)).1 (chg s (k : Int)).2 (turnV X (k + 1)))
theorem truN_in {s : Spc} (hs : SOk s) (X : List Int) (k : Nat) : 0 ≤ truN s X k ∧ truN s X k ≤ 200 := by
  cases k with
  | zero =>
    have := amongV_in (n := turnV X 0) hs.s01
    have := hs.s0
    have := hs.s1
    unfold truN
    omega
  | succ k => exact hld_in _
theorem truN_step {s : Spc} (hs : SOk s) (X : List Int) (n : Nat) : Step s 0 (truN s X) n := fun j _ => by
  have hc := chg_ok hs (j : Int)
  have := amongV_in (n := turnV X (j + 1)) hc.2.1
  refine ⟨amongV (chg s (j : Int)).1 (chg s (j : Int)).2 (turnV X (j + 1)), ?_, ?_, ?_⟩
  · rw [Int.zero_add]; exact this.1
  · rw [Int.zero_add]; exact this.2
  · rfl
/-- append of one number behind a slice that owns its row. -/
theorem append_one {W : World} {B g : Nat} {v : Value} {l : List Int} {x : Int} (hown : W.ownsRow B 3 1 v l.length (l.map fun x => .int .i64 x)) (hg : Blk W g 3 #[.int .i64 x]) (hl : l.length ≤ 1000) (hB : B ≤ W.heap.size) (ty : TypeId) :
    ∃ v' w', (Builtin.append_ #[38, 38] ty #[v, .slice (some ⟨g, 0, none⟩) 1 1]).run Try.prog W = .ok v' w' ∧ w'.ownsRow B 3 1 v' (l ++ [x]).length ((l ++ [x]).map fun x => .int .i64 x) ∧ W.grownBy w' v.ownBlock := by
  obtain ⟨i0, hi0, hi1⟩ := Option.map_eq_some_iff.1 info3
  simp only [Prod.mk.injEq] at hi1
  obtain ⟨hz0, hz1, hz2⟩ := hi1
  obtain ⟨v', w', h1, h2, h3, _, h5⟩ := run_append_own_at (P := Try.prog) W B 38 ty 3 i0 _ 1 8 Try.underlying38 hi0 hz0 hz1 hz2 rfl (by omega)
    v l.length (l.map fun x => .int .i64 x) hown ⟨g, 0, none⟩ 1 1 [.int .i64 x] (by simp) (fun j u hj => by
      rw [add_new]
      have := hg.cell j
      rw [this]
      simpa using hj) (by intro u hu; simp at hu; subst hu; rfl) (by simp only [maxLen]; omega) (by omega) hB
  refine ⟨v', w', h1, ?_, h3⟩
  rw [List.map_append, List.length_append]
  exact h2
theorem wpList_append_one {W : World} {ops : Array Oper} {rest : List Oper} {o : Oper} {a : Act} {Q : Exit → Act → World → Prop} (hgd : o.guard = none) (x y : Operand) (ho : o.op = .call { callee := .builtin .append, args := #[x, y], argTypes := #[38, 38] })
    (B g : Nat) (v : Value) (l : List Int) (n : Int) (hx : a.eval x = v) (hy : a.eval y = .slice (some ⟨g, 0, none⟩) 1 1) (hown : W.ownsRow B 3 1 v l.length (l.map fun x => .int .i64 x)) (hg : Blk W g 3 #[.int .i64 n]) (hl : l.length ≤ 1000) (hB : B ≤ W.heap.size)
    (h : ∀ v' w', w'.ownsRow B 3 1 v' (l ++ [n]).length ((l ++ [n]).map fun x => .int .i64 x) → W.grownBy w' v.ownBlock → wpList Try.prog ops Q rest (a.put o.dst v') w') : wpList Try.prog ops Q (o :: rest) a W := by
  refine wpList_plain hgd fun _ hK => ?_
  obtain ⟨v', w', hr, h2, h3⟩ := append_one hown hg hl hB o.type
  unfold Oper.wp execOp
  simp only [ho, resolve, invoke, builtin, Sem.run_bind, Sem.run_pure, Result.andThen_ok, List.map_toArray, List.map_cons, List.map_nil, hx, hy, hr]
  exact hK _ _ (h v' w' h2 h3)
/-- the first k levels. -/
def truL (s : Spc) (X : List Int) (k : Nat) : List Int := (List.range k).map (truN s X)
theorem truL_next (s : Spc) (X : List Int) (k : Nat) : truL s X (k + 1) = truL s X k ++ [truN s X k] := by
  unfold truL
  rw [List.range_succ, List.map_append]
  rfl
set_option maxRecDepth 100000 in
set_option maxHeartbeats 8000000 in
theorem truth_c (s : Spc) (m : Sl) (P : Option Addr) (X : List Int) (pc : Nat) (w : World) (hs : SOk s) (hsa : SAt w m s) (hu : U16At w P X) (ho : U16Ok X) :
    Calls Try.prog 33 #[.agg (sV s m), .slice P X.length pc] w fun e w' => (∃ v, e = .returned v ∧ Lv w' v (truL s X 61)) ∧ Below w.heap.size w w' := by
  have hsn0 := (Since.refl w).alloc (.cells (sV s m) 27)
  have HS0 := Lib.hid (Blk.new w 27 (sV s m))
  go_enter Try.func33, Try.ntmps33
  go_wp2_with fail
  refine Vals6.regionAll (fun W => Blk W w.heap.size 27 (sV s m) ∧ Since w W) [some 8, some 9, some 10, some 11, some 12] [.is (.pointer (some ⟨w.heap.size, 0, none⟩)), .is (.agg #[.int .i64 s.s0, .int .i64 s.s1]), .is (.slice P X.length pc), .is (.int .i64 (turnV X 0)), .is (.int .i64 (amongV s.s0 s.s1 (turnV X 0)))] (by kernel_rfl) rfl rfl (by kernel_rfl) (by kernel_rfl) (by kernel_rfl) (by kernel_rfl) (by kernel_rfl) (by kernel_rfl) (by kernel_rfl) (⟨HS0.out.drew, hsn0.drew⟩) ?_ ?_
  · refine Vals5.Steps.run (by kernel_rfl) (Vals5.Stable.is _) ?_ ?_
    · intro a W hS pre old K hK
      have e2 : a.tmps.getD 2 undef = .pointer (some ⟨w.heap.size, 0, none⟩) := old 2 _ (by kernel_rfl) rfl
      clear pre old
      simp only [Array.getD_eq_getD_getElem?] at e2
      go_simp
      exact hK _ _ hS (Below.refl _ _) rfl
    refine Vals5.Steps.run (by kernel_rfl) (Vals5.Stable.is _) ?_ ?_
    · intro a W hS pre old K hK
      have e8 : a.tmps.getD 8 undef = .pointer (some ⟨w.heap.size, 0, none⟩) := pre 0 8 _ (by kernel_rfl) rfl rfl
      clear pre old
      simp only [Array.getD_eq_getD_getElem?] at e8
      have hS9 := hS
      obtain ⟨l1, l2⟩ := hS9
      obtain ⟨c0, c1, c2, c3, c4, c5, c6, c7, c8⟩ := l1.space
      go_simp
      exact hK _ _ hS (Below.refl _ _) rfl
    refine Vals5.Steps.run (by kernel_rfl) (Vals5.Stable.is _) ?_ ?_
    · intro a W hS pre old K hK
      have e1 : a.tmps.getD 1 undef = .slice P X.length pc := old 1 _ (by kernel_rfl) rfl
      clear pre old
      simp only [Array.getD_eq_getD_getElem?] at e1
      go_simp
      exact hK _ _ hS (Below.refl _ _) rfl
    refine Vals5.Steps.run (by kernel_rfl) (Vals5.Stable.is _) ?_ ?_
    · intro a W hS pre old K hK
      have e10 : a.tmps.getD 10 undef = .slice P X.length pc := pre 2 10 _ (by kernel_rfl) rfl rfl
      clear pre old
      simp only [Array.getD_eq_getD_getElem?] at e10
      go_simp
      refine (turn_c P X pc 0 _ (by omega) (hu.keep hS.2.1) ho).mono ?_
      rintro e w' ⟨rfl, rfl⟩
      exact hK _ _ hS (Below.refl _ _) rfl
    refine Vals5.Steps.run (by kernel_rfl) (Vals5.Stable.is _) ?_ ?_
    · intro a W hS pre old K hK
      have e9 : a.tmps.getD 9 undef = .agg #[.int .i64 s.s0, .int .i64 s.s1] := pre 1 9 _ (by kernel_rfl) rfl rfl
      have e11 : a.tmps.getD 11 undef = .int .i64 (turnV X 0) := pre 3 11 _ (by kernel_rfl) rfl rfl
      clear pre old
      simp only [Array.getD_eq_getD_getElem?] at e9 e11
      have hb0 := turnV_bd ho 0
      go_simp
      refine (among_c s.s0 s.s1 (turnV X 0) _ hs.s01 (by have := hs.s0; omega) (by have := hs.s1; omega) hb0.1 (by omega)).mono ?_
      rintro e w' ⟨rfl, hb'⟩
      obtain ⟨h1, h2⟩ := hS
      exact hK _ _ ⟨h1.keep hb', h2.keep hb'⟩ hb' rfl
    exact Vals5.Steps.nil
  rintro W1 ⟨HS1, hsn1⟩
  simp only [Vals5.All, List.getLast_cons_cons, List.getLast_singleton]
  simp only [Vals.putAll, List.setIfInBounds_toArray, List.set_cons_zero, List.set_cons_succ]
  intro K hK
  go_simp
  refine hK _ _ ?_
  clear hK K
  have HS1' := Lib.hid HS1
  clear HS1
  go_wp2_with fail
  go_loopw [5, 6, 7] (fun lv ov i wr => ∃ k : Nat, k ≤ 61 ∧ i = .int .i64 k ∧ lv = .int .i64 (truN s X k) ∧ Since w wr ∧ Hid (Blk wr w.heap.size 27 (sV s m)) ∧ Hid (wr.ownsRow (w.heap.size + 1) 3 1 ov (truL s X k).length ((truL s X k).map fun x => .int .i64 x))) (fun _ _ i _ => 61 - (intOf i).toNat)
  case atStart => exact ⟨0, by omega, rfl, rfl, hsn1, HS1', ⟨rfl, .inl ⟨rfl, rfl⟩⟩⟩
  case round =>
    obtain ⟨k, hk, rfl, rfl, hsn, HS, HO⟩ := hrel
    by_cases hk60 : k ≤ 60
    · have hki : (k : Int) ≤ 60 := by omega
      obtain ⟨x, hx⟩ : ∃ x, truN s X k = x := ⟨_, rfl⟩
      have hxi := truN_in hs X k
      have HN : Hid (truL s X (k + 1) = truL s X k ++ [x]) := by show _ = _; rw [truL_next, hx]
      obtain ⟨c, hc⟩ : ∃ c, chg s (k : Int) = c := ⟨_, rfl⟩
      have hci := chg_ok hs (k : Int)
      obtain ⟨tv, htv⟩ : ∃ tv, turnV X (k + 1) = tv := ⟨_, rfl⟩
      have htb := turnV_bd ho (k + 1)
      obtain ⟨am, ham⟩ : ∃ am, amongV c.1 c.2 tv = am := ⟨_, rfl⟩
      have HT : Hid (truN s X (k + 1) = hld (x + am)) := by show hld _ = _; rw [hx, hc, htv, ham]
      have hRi := fun W (hW : SAt W m s) => rise_c s m (k : Int) W (by have := hs.nb; omega) hW
      have hTu := fun W (hW : Since w W) => turn_c P X pc (k + 1) W (by omega) (hu.keep hW.1) ho
      rw [hc] at hRi hci
      rw [htv] at hTu htb
      have hAm := fun W => among_c c.1 c.2 tv W hci.2.1 (by omega) (by omega) htb.1 (by omega)
      have hain := amongV_in (n := tv) hci.2.1
      rw [ham] at hAm hain
      rw [hx] at hxi ⊢
      have HRi := Lib.hid hRi
      have HTu := Lib.hid hTu
      have HAm := Lib.hid hAm
      have hzB := HS.out.lt
      have hLl : (truL s X k).length ≤ 1000 := by simp [truL]; omega
      have hq3 : Below wr.heap.size wr (wr.alloc (.cells #[.int .i64 x] 3)) := (Below.refl _ _).alloc (Nat.le_refl _) _
      have HO3 := Lib.hid (own_keep HO.out hq3)
      have HN3 := Lib.hid (Blk.new wr 3 #[.int .i64 x])
      have HLl := Lib.hid hLl
      clear hx hc htv ham hRi hTu hAm hLl HO
      go_wp2_with (at_builtin; refine wpList_append_one rfl (.tmp 17) (.tmp 19) rfl (w.heap.size + 1) wr.heap.size _ (truL s X k) x (by go_simp) (by go_simp) HO3.out HN3.out HLl.out (by simp; omega) ?_)
      intro v3 w3 ho3 hg3
      have hlt3 := HO3.out.lt
      have HB4 := Lib.hid ((HS.out.keep hq3).grown hg3 (fun h => by have := (hlt3 _ h.symm).1; omega))
      have hs4 : Since w w3 := ⟨(hsn.keep hq3).1.grown hg3 (hsn.keep hq3).2 (fun q h => by have := (hlt3 q h).1; omega), Nat.le_trans (hsn.keep hq3).2 hg3.size⟩
      have HO4 : Hid (w3.ownsRow (w.heap.size + 1) 3 1 v3 (truL s X (k + 1)).length ((truL s X (k + 1)).map fun x => .int .i64 x)) := by
        show World.ownsRow _ _ _ _ _ _ _
        rw [HN.out]
        rw [List.length_append, List.map_append]
        exact ho3
      clear ho3 hg3 hlt3 HO3 HN3 hq3 HLl HN
      obtain ⟨c0, c1, c2, c3, c4, c5, c6, c7, c8⟩ := HB4.out.space
      go_wp2_with fail
      refine (HRi.out _ (hsa.keep hs4.1)).mono ?_
      rintro e w5 ⟨rfl, hb5⟩
      have hs5 := hs4.keep hb5
      have HB5 := Lib.hid (HB4.out.keep hb5)
      have HO5 := Lib.hid (own_keep HO4.out hb5)
      clear c0 c1 c2 c3 c4 c5 c6 c7 c8 HB4 HO4 hs4 hb5
      have hw1 : IntKind.i64.wrap ((k : Int) + 1) = (k : Int) + 1 := IntWalk.i64_in _ (by omega)
      have hTu5 := HTu.out _ hs5
      push_cast at hTu5
      go_wp2_with fail
      refine hTu5.mono ?_
      rintro e w6 ⟨rfl, rfl⟩
      clear hTu5
      go_wp2_with fail
      refine (HAm.out _).mono ?_
      rintro e w7 ⟨rfl, hb7⟩
      have hs7 := hs5.keep hb7
      have HB7 := Lib.hid (HB5.out.keep hb7)
      have HO7 := Lib.hid (own_keep HO5.out hb7)
      clear HB5 HO5 hs5 hb7
      obtain ⟨y, hy⟩ : ∃ y, x + am = y := ⟨_, rfl⟩
      have hw2 : IntKind.i64.wrap y = y := IntWalk.i64_in _ (by omega)
      rw [hy] at HT
      rcases (by omega : (y < 200 ∧ 0 < y) ∨ (y < 200 ∧ ¬ 0 < y) ∨ ¬ y < 200) with ⟨h1, h2⟩ | ⟨h1, h2⟩ | h1
      · have HV : Hid (y = truN s X (k + 1)) := by show _ = _; rw [HT.out]; unfold hld; omega
        go_wp2_with fail
        go_roundw
        case rel => exact ⟨k + 1, by omega, by go_num, by rw [HV.out], hs7, HB7, HO7⟩
        case measure => simp [intOf]; omega
      · have HV : Hid (0 = truN s X (k + 1)) := by show _ = _; rw [HT.out]; unfold hld; omega
        go_wp2_with fail
        go_roundw
        case rel => exact ⟨k + 1, by omega, by go_num, by rw [← HV.out], hs7, HB7, HO7⟩
        case measure => simp [intOf]; omega
      · have HV : Hid (200 = truN s X (k + 1)) := by show _ = _; rw [HT.out]; unfold hld; omega
        go_wp2_with fail
        go_roundw
        case rel => exact ⟨k + 1, by omega, by go_num, by rw [← HV.out], hs7, HB7, HO7⟩
        case measure => simp [intOf]; omega
    · obtain rfl : k = 61 := by omega
      have hno : ¬ ((61 : Nat) : Int) ≤ 60 := by decide
      go_wp2_with fail
      go_ret
      exact ⟨⟨_, rfl, lv_own rfl HO.out⟩, hsn.1⟩
end Td
end Go.Proofs.Ytccacinnelmnpaa
