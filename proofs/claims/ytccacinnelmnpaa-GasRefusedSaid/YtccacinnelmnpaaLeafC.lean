import Derived.Test.YtccacinnelmnpaaLeafB
/- A space that is watched: where it starts, how its level changes, which levels agree. -/
namespace Go.Proofs.Ytccacinnelmnpaa
open Go.RowKit
namespace Td
set_option linter.unusedSimpArgs false
set_option linter.unusedVariables false
attribute [local go_sem] Oper.semAt_some
/-- the cells of a space that is watched: its plan, and its map of readings. -/
abbrev wV (s : Spc) (m : Sl) (M : Option Nat) : Array Value := #[.int .i64 s.s0, .int .i64 s.s1, .int .i64 s.r0, .int .i64 s.r1, .int .i64 s.b0, .int .i64 s.b1, .int .i64 s.lim, .slice m.A s.blows.length m.c, .slice m.T s.tools.length m.d, .map M]
theorem Blk.watch {w : World} {g : Nat} {t : TypeId} {s : Spc} {m : Sl} {M : Option Nat} (h : Blk w g t (wV s m M)) :
    w.cell? ⟨g, 0, none⟩ = some (.int .i64 s.s0) ∧ w.cell? ⟨g, 1, none⟩ = some (.int .i64 s.s1) ∧ w.cell? ⟨g, 2, none⟩ = some (.int .i64 s.r0) ∧ w.cell? ⟨g, 3, none⟩ = some (.int .i64 s.r1) ∧ w.cell? ⟨g, 4, none⟩ = some (.int .i64 s.b0) ∧ w.cell? ⟨g, 5, none⟩ = some (.int .i64 s.b1) ∧ w.cell? ⟨g, 6, none⟩ = some (.int .i64 s.lim) ∧ w.cell? ⟨g, 7, none⟩ = some (.slice m.A s.blows.length m.c) ∧ w.cell? ⟨g, 8, none⟩ = some (.slice m.T s.tools.length m.d) ∧ w.cell? ⟨g, 9, none⟩ = some (.map M) :=
  ⟨h.cell 0, h.cell 1, h.cell 2, h.cell 3, h.cell 4, h.cell 5, h.cell 6, h.cell 7, h.cell 8, h.cell 9⟩
/-- what the map of readings gives for a minute. -/
def Mp (w : World) (M : Option Nat) (rs : List Rd) : Prop := ∀ m : Int, ∃ A c, (∀ W, Below w.heap.size w W → (Instr.lookup 91 (.map M) (.int .i64 m) false).run Try.prog W = .ok (.slice A (atM rs m).length c) W) ∧ RdAt w A (atM rs m)
theorem Blk.lev {w : World} {g : Nat} {t : TypeId} {p q : Int} {r : Bool} (h : Blk w g t #[.int .i64 p, .int .i64 q, .bool r]) : w.cell? ⟨g, 0, none⟩ = some (.int .i64 p) ∧ w.cell? ⟨g, 1, none⟩ = some (.int .i64 q) ∧ w.cell? ⟨g, 2, none⟩ = some (.bool r) := ⟨h.cell 0, h.cell 1, h.cell 2⟩
theorem Mp.keep {w w' : World} {M : Option Nat} {rs : List Rd} (h : Mp w M rs) (hb : Below w.heap.size w w') : Mp w' M rs := fun m => by
  obtain ⟨A, c, h1, h2⟩ := h m
  exact ⟨A, c, fun W hW => h1 W (hb.trans (hW.mono hb.size)), h2.keep hb⟩
theorem start_c (s : Spc) (m : Sl) (M : Option Nat) (w : World) :
    Calls Try.prog 80 #[.agg (wV s m M)] w fun e w' => e = .returned (.agg (lV (btw s.s0 s.s1))) ∧ Below w.heap.size w w' := by
  obtain ⟨p, q, r, hv⟩ := lV_ex (btw s.s0 s.s1)
  rw [hv]
  have HV := Lib.hid hv
  clear hv
  have HR := Lib.hid (Blk.new1 w (.cells (wV s m M) 93) 95 #[.int .i64 0, .int .i64 0, .bool false])
  have hsn := ((Since.refl w).alloc (.cells (wV s m M) 93)).alloc (.cells #[.int .i64 0, .int .i64 0, .bool false] 95)
  go_enter Try.func80, Try.ntmps80
  go_wp2_with fail
  refine (between_c _ _ _).mono ?_
  rintro e w' ⟨rfl, hb⟩
  rw [HV.out]
  have HR2 := Lib.hid (HR.out.keep hb)
  have hsn2 := hsn.keep hb
  go_wp2_with (refine wpList_store_row rfl 95 _ _ rfl (w.heap.size + 1) _ rfl rfl 95 _ HR2.out (by kernel_rfl) rfl (by simp [Value.oneCell']) ?_)
  (refine bodyPost_ret (v := .agg _) ?_ rfl ⟨rfl, ?_⟩; exact (results_cell_row Try.results80 _ _ (w.heap.size + 1) 95 _ (0, 0) _ rfl (HR2.out.row _) Try.underlying95 rfl (by kernel_rfl)))
  exact (hsn2.row (by omega) _).1
theorem chg_at {s : Spc} {m : Int} {k : Nat} (hk : k < s.blows.length) (h : wi s.blows[k].1 s.blows[k].2 m = true) : chg s m = (s.b0, s.b1) := by
  unfold chg
  rw [if_pos (List.any_eq_true.2 ⟨_, List.getElem_mem hk, h⟩)]
theorem chg_none {s : Spc} {m : Int} (h : ∀ j (h : j < s.blows.length), wi s.blows[j].1 s.blows[j].2 m = false) : chg s m = (s.r0, s.r1) := by
  unfold chg
  rw [if_neg]
  intro hx
  obtain ⟨x, hx, hy⟩ := List.any_eq_true.1 hx
  obtain ⟨j, hj, rfl⟩ := List.mem_iff_getElem.1 hx
  rw [h j hj] at hy
  cases hy
set_option maxRecDepth 100000 in
set_option maxHeartbeats 2000000 in
theorem change_c (s : Spc) (m : Sl) (M : Option Nat) (mi : Int) (w : World) (hl : s.blows.length ≤ 1000) (hp : SpAt w m.A s.blows) :
    Calls Try.prog 83 #[.agg (wV s m M), .int .i64 mi] w fun e w' => e = .returned (.agg #[.int .i64 (chg s mi).1, .int .i64 (chg s mi).2]) ∧ Below w.heap.size w w' := by
  obtain ⟨cc, hc⟩ : ∃ cc, chg s mi = cc := ⟨_, rfl⟩
  rw [hc]
  have HC := Lib.hid hc
  clear hc
  have HS0 := Lib.hid ((Blk.new w 93 (wV s m M)).alloc (.cells #[.int .i64 0, .int .i64 0] 23))
  have HR0 := Lib.hid (Blk.new1 w (.cells (wV s m M) 93) 23 #[.int .i64 0, .int .i64 0])
  have hsn0 := ((Since.refl w).alloc (.cells (wV s m M) 93)).alloc (.cells #[.int .i64 0, .int .i64 0] 23)
  go_enter Try.func83, Try.ntmps83
  go_wp2_with fail
  go_loopw [11] (fun i wr => ∃ k : Nat, k ≤ s.blows.length ∧ i = .int .i64 k ∧ Since w wr ∧ Hid (Blk wr w.heap.size 93 (wV s m M)) ∧ Hid (Blk wr (w.heap.size + 1) 23 #[.int .i64 0, .int .i64 0]) ∧ Hid (∀ j (h : j < s.blows.length), j < k → wi s.blows[j].1 s.blows[j].2 mi = false)) (fun i _ => s.blows.length - (intOf i).toNat)
  case atStart => exact ⟨0, Nat.zero_le _, rfl, hsn0, HS0, HR0, fun j _ h => absurd h (by omega)⟩
  case round =>
    obtain ⟨k, hk, rfl, hsn, HS, HR, H0⟩ := hrel
    by_cases hlt : k < s.blows.length
    · obtain ⟨ad, hA, c0, c1⟩ := hp.get hlt
      rw [hA]
      have c0' := keep_cell hsn.1 c0
      have c1' := keep_cell hsn.1 c1
      clear c0 c1
      have hsn2 := hsn.alloc (.cells #[.int .i64 s.blows[k].1, .int .i64 s.blows[k].2] 23)
      have HS2 := Lib.hid (HS.out.alloc (.cells #[.int .i64 s.blows[k].1, .int .i64 s.blows[k].2] 23))
      have HR2 := Lib.hid (HR.out.alloc (.cells #[.int .i64 s.blows[k].1, .int .i64 s.blows[k].2] 23))
      go_wp2_with fail
      refine (within_c _ _ _ _ _ _ (Blk.new1 _ _ _ _)).mono ?_
      rintro e w' ⟨rfl, hb⟩
      have hsn3 := (hsn2.alloc _).keep hb
      have HS3 := Lib.hid ((HS2.out.alloc _).keep hb)
      have HR3 := Lib.hid ((HR2.out.alloc _).keep hb)
      cases h1 : wi s.blows[k].1 s.blows[k].2 mi
      · have HV := Lib.hid h1
        clear h1
        go_wp2_with fail
        go_roundw
        case rel =>
          refine ⟨k + 1, by omega, by go_num, hsn3, HS3, HR3, fun j h hj => ?_⟩
          rcases Nat.lt_or_ge j k with h1 | h1
          · exact H0.out j h h1
          · obtain rfl : j = k := by omega
            exact HV.out
        case measure => simp [intOf]; omega
      · obtain rfl := HC.out.symm.trans (chg_at hlt h1)
        clear h1
        obtain ⟨d0, d1, d2, d3, d4, d5, _, _, _, _⟩ := HS3.out.watch
        go_wp2_with (refine wpList_store_row rfl 23 _ _ rfl (w.heap.size + 1) _ rfl rfl 23 _ HR3.out (by kernel_rfl) rfl (by simp [Value.oneCell']) ?_)
        (refine bodyPost_ret (v := .agg _) ?_ rfl ⟨rfl, ?_⟩; exact (results_cell_row Try.results83 _ _ (w.heap.size + 1) 23 _ (0, 0) _ rfl (HR3.out.row _) Try.underlying23 rfl (by kernel_rfl)))
        exact (hsn3.row (by omega) _).1
    · obtain rfl := HC.out.symm.trans (chg_none (s := s) (m := mi) fun j hj => H0.out j hj (by omega))
      obtain ⟨d0, d1, d2, d3, d4, d5, _, _, _, _⟩ := HS.out.watch
      go_wp2_with (refine wpList_store_row rfl 23 _ _ rfl (w.heap.size + 1) _ rfl rfl 23 _ HR.out (by kernel_rfl) rfl (by simp [Value.oneCell']) ?_)
      (refine bodyPost_ret (v := .agg _) ?_ rfl ⟨rfl, ?_⟩; exact (results_cell_row Try.results83 _ _ (w.heap.size + 1) 23 _ (0, 0) _ rfl (HR.out.row _) Try.underlying23 rfl (by kernel_rfl)))
      exact (hsn.row (by omega) _).1
theorem agr_succ (s : Spc) (rs : List Rd) (o : Option (Int × Int)) (k : Nat) (hk : k < rs.length) : agr s (rs.take (k + 1)) o = cut s rs[k] (agr s (rs.take k) o) := by
  unfold agr
  rw [List.take_add_one, List.getElem?_eq_getElem hk, List.foldl_append]
  rfl
set_option maxRecDepth 100000 in
set_option maxHeartbeats 4000000 in
theorem agreeing_c (s : Spc) (m : Sl) (M : Option Nat) (all : List Rd) (mi : Int) (o : Option (Int × Int)) (w : World) (hs : SOk s) (hsa : SAt w m s) (hm : Mp w M all) (hr : ∀ r ∈ all, ROk s r) (hal : all.length ≤ 1000) :
    Calls Try.prog 94 #[.agg (wV s m M), .int .i64 mi, .agg (lV o)] w fun e w' => e = .returned (.agg (lV (agr s (atM all mi) o))) ∧ Below w.heap.size w w' := by
  obtain ⟨A, c, hlk, hrd⟩ := hm mi
  obtain ⟨rs, hrs⟩ : ∃ rs, atM all mi = rs := ⟨_, rfl⟩
  have hrr : ∀ r ∈ rs, ROk s r := fun r h => hr r (by rw [← hrs] at h; exact (List.mem_filter.1 h).1)
  have hrl : rs.length ≤ 1000 := by rw [← hrs]; exact Nat.le_trans (List.length_filter_le _ _) hal
  rw [hrs] at hlk hrd ⊢
  obtain ⟨p0, q0, r0, hv0⟩ := lV_ex o
  have HV0 := Lib.hid hv0
  have HS0 := Lib.hid (((Blk.new w 93 (wV s m M)).alloc (.cells (lV o) 95)).alloc (.cells #[.int .i64 0, .int .i64 0, .bool false] 95))
  have HL0 := Lib.hid ((Blk.new1 w (.cells (wV s m M) 93) 95 (lV o)).alloc (.cells #[.int .i64 0, .int .i64 0, .bool false] 95))
  have HR0 := Lib.hid (Blk.new2 w (.cells (wV s m M) 93) (.cells (lV o) 95) 95 #[.int .i64 0, .int .i64 0, .bool false])
  have hsn0 := (((Since.refl w).alloc (.cells (wV s m M) 93)).alloc (.cells (lV o) 95)).alloc (.cells #[.int .i64 0, .int .i64 0, .bool false] 95)
  rw [hv0] at HS0 HR0 hsn0 ⊢
  have hlk1 := hlk _ hsn0.1
  clear hv0
  go_enter Try.func94, Try.ntmps94
  rw [HV0.out] at HL0
  go_wp2_with fail
  go_loopw [15] (fun i wr => ∃ k : Nat, k ≤ rs.length ∧ i = .int .i64 k ∧ Since w wr ∧ Hid (Blk wr w.heap.size 93 (wV s m M)) ∧ Hid (Blk wr (w.heap.size + 1) 95 (lV (agr s (rs.take k) o))) ∧ Hid (Blk wr (w.heap.size + 1 + 1) 95 #[.int .i64 0, .int .i64 0, .bool false])) (fun i _ => rs.length - (intOf i).toNat)
  case atStart => exact ⟨0, Nat.zero_le _, rfl, hsn0, HS0, Lib.hid (by show Blk _ _ _ (lV o); rw [HV0.out]; exact HL0.out), HR0⟩
  case round =>
    obtain ⟨k, hk, rfl, hsn, HS, HL, HR⟩ := hrel
    by_cases hlt : k < rs.length
    · obtain ⟨ad, hA, c0, c1, c2⟩ := hrd.get hlt
      have hro := hrr rs[k] (List.getElem_mem hlt)
      obtain ⟨t, ht⟩ : ∃ t : Nat, rs[k].tool = (t : Int) := ⟨rs[k].tool.toNat, by have := hro.t0; omega⟩
      have htl : t < s.tools.length := by have := hro.t1; omega
      obtain ⟨ae, hT, e0, e1⟩ := hsa.tl.get htl
      obtain ⟨er, her⟩ : ∃ er, s.tools[t].err = er := ⟨_, rfl⟩
      have her2 : errOf s rs[k] = er := by unfold errOf; rw [ht]; simp [List.getElem?_eq_getElem htl, her]
      have hsz := hs.t3
      have he1 := hs.er _ (List.getElem_mem htl)
      have hh0 := hro.h0
      have hh1 := hro.h1
      rw [her] at e1 he1
      have c0' := keep_cell hsn.1 c0
      have c1' := keep_cell hsn.1 c1
      have c2' := keep_cell hsn.1 c2
      rw [ht] at c1'
      have e1' := keep_cell (hsn.alloc (.cells #[.int .i64 rs[k].min, .int .i64 (t : Int), .int .i64 rs[k].shown] 61)).1 e1
      have HE := Lib.hid (agr_succ s rs o k hlt)
      unfold cut at HE
      rw [her2] at HE
      clear c0 c1 c2 e0 e1 her2 her
      subst hA
      have hsn2 := hsn.alloc (.cells #[.int .i64 rs[k].min, .int .i64 (t : Int), .int .i64 rs[k].shown] 61)
      have hqn2 := (Since.refl wr).alloc (.cells #[.int .i64 rs[k].min, .int .i64 (t : Int), .int .i64 rs[k].shown] 61)
      have HS2 := Lib.hid (HS.out.alloc (.cells #[.int .i64 rs[k].min, .int .i64 (t : Int), .int .i64 rs[k].shown] 61))
      have HR2 := Lib.hid (HR.out.alloc (.cells #[.int .i64 rs[k].min, .int .i64 (t : Int), .int .i64 rs[k].shown] 61))
      have HL2 := Lib.hid (HL.out.alloc (.cells #[.int .i64 rs[k].min, .int .i64 (t : Int), .int .i64 rs[k].shown] 61))
      have HD2 := Lib.hid (Blk.new wr 61 #[.int .i64 rs[k].min, .int .i64 (t : Int), .int .i64 rs[k].shown])
      obtain ⟨_, _, _, _, _, _, _, _, d8, _⟩ := HS2.out.watch
      rw [hT] at d8
      obtain ⟨ok, hok⟩ : ∃ ok, agr s (rs.take k) o = ok := ⟨_, rfl⟩
      rw [hok] at HL2 HE
      clear hok HL HS HR
      have hz := HL2.out.lt
      have hz2 := HS2.out.lt
      have hzw := hsn.2
      go_wp2_with fail
      clear c0' c1' c2' e1' d8
      obtain ⟨p, q, r, hv⟩ := lV_ex (com ok (btw (rs[k].shown - er) (rs[k].shown + er)))
      have HV := Lib.hid hv
      clear hv
      cases ok with
      | none =>
        simp only [lV] at HL2
        refine Vals6.regionAll (fun X => Blk X (w.heap.size + 1) 95 #[.int .i64 0, .int .i64 0, .bool false] ∧ Blk X wr.heap.size 61 #[.int .i64 rs[k].min, .int .i64 (t : Int), .int .i64 rs[k].shown] ∧ Blk X (w.heap.size + 1 + 1) 95 #[.int .i64 0, .int .i64 0, .bool false] ∧ Since w X ∧ Since (wr.alloc (.cells #[.int .i64 rs[k].min, .int .i64 (t : Int), .int .i64 rs[k].shown] 61)) X) [some 27, some 28, some 29, some 30, some 31, some 32, some 33, some 34, some 35, some 36, some 37] [.is (.agg #[.int .i64 0, .int .i64 0, .bool false]), .is (.pointer (some ⟨wr.heap.size, 2, none⟩)), .is (.int .i64 rs[k].shown), .is (.int .i64 er), .is (.int .i64 (rs[k].shown - er)), .is (.pointer (some ⟨wr.heap.size, 2, none⟩)), .is (.int .i64 rs[k].shown), .is (.int .i64 er), .is (.int .i64 (rs[k].shown + er)), .is (.agg (lV (btw (rs[k].shown - er) (rs[k].shown + er)))), .is (.agg #[.int .i64 p, .int .i64 q, .bool r])] (by kernel_rfl) rfl rfl (by kernel_rfl) (by kernel_rfl) (by kernel_rfl) (by kernel_rfl) (by kernel_rfl) (by kernel_rfl) (by kernel_rfl) (⟨HL2.out.drew, HD2.out.drew, HR2.out.drew, hsn2.drew, (Since.refl _).drew⟩) ?_ ?_
        · refine Vals5.Steps.run (by kernel_rfl) (Vals5.Stable.is _) ?_ ?_
          · intro a W hS pre old K hK
            have e5 : a.tmps.getD 5 undef = .pointer (some ⟨w.heap.size + 1, 0, none⟩) := old 5 _ (by kernel_rfl) rfl
            clear pre old
            simp only [Array.getD_eq_getD_getElem?] at e5
            have hS9 := hS
            obtain ⟨l1, l2, _, _, _⟩ := hS9
            have c0 := l1.cell 0
            have c1 := l1.cell 1
            have c2 := l1.cell 2
            have d2 := l2.cell 2
            simp only [List.getElem?_toArray, List.getElem?_cons_zero, List.getElem?_cons_succ] at c0 c1 c2 d2
            go_simp
            exact hK _ _ hS (Below.refl _ _) rfl
          refine Vals5.Steps.run (by kernel_rfl) (Vals5.Stable.is _) ?_ ?_
          · intro a W hS pre old K hK
            have e8 : a.tmps.getD 8 undef = .pointer (some ⟨wr.heap.size, 0, none⟩) := old 8 _ (by kernel_rfl) rfl
            clear pre old
            simp only [Array.getD_eq_getD_getElem?] at e8
            go_simp
            exact hK _ _ hS (Below.refl _ _) rfl
          refine Vals5.Steps.run (by kernel_rfl) (Vals5.Stable.is _) ?_ ?_
          · intro a W hS pre old K hK
            have e28 : a.tmps.getD 28 undef = .pointer (some ⟨wr.heap.size, 2, none⟩) := pre 1 28 _ (by kernel_rfl) rfl rfl
            clear pre old
            simp only [Array.getD_eq_getD_getElem?] at e28
            have hS9 := hS
            obtain ⟨l1, l2, _, _, _⟩ := hS9
            have c0 := l1.cell 0
            have c1 := l1.cell 1
            have c2 := l1.cell 2
            have d2 := l2.cell 2
            simp only [List.getElem?_toArray, List.getElem?_cons_zero, List.getElem?_cons_succ] at c0 c1 c2 d2
            go_simp
            exact hK _ _ hS (Below.refl _ _) rfl
          refine Vals5.Steps.run (by kernel_rfl) (Vals5.Stable.is _) ?_ ?_
          · intro a W hS pre old K hK
            have e9 : a.tmps.getD 9 undef = .int .i64 er := old 9 _ (by kernel_rfl) rfl
            clear pre old
            simp only [Array.getD_eq_getD_getElem?] at e9
            go_simp
            exact hK _ _ hS (Below.refl _ _) rfl
          refine Vals5.Steps.run (by kernel_rfl) (Vals5.Stable.is _) ?_ ?_
          · intro a W hS pre old K hK
            have e29 : a.tmps.getD 29 undef = .int .i64 rs[k].shown := pre 2 29 _ (by kernel_rfl) rfl rfl
            have e30 : a.tmps.getD 30 undef = .int .i64 er := pre 3 30 _ (by kernel_rfl) rfl rfl
            clear pre old
            simp only [Array.getD_eq_getD_getElem?] at e29 e30
            go_simp
            exact hK _ _ hS (Below.refl _ _) (by show Value.int _ _ = Value.int _ _; rw [IntWalk.i64_in _ (by omega)])
          refine Vals5.Steps.run (by kernel_rfl) (Vals5.Stable.is _) ?_ ?_
          · intro a W hS pre old K hK
            have e8 : a.tmps.getD 8 undef = .pointer (some ⟨wr.heap.size, 0, none⟩) := old 8 _ (by kernel_rfl) rfl
            clear pre old
            simp only [Array.getD_eq_getD_getElem?] at e8
            go_simp
            exact hK _ _ hS (Below.refl _ _) rfl
          refine Vals5.Steps.run (by kernel_rfl) (Vals5.Stable.is _) ?_ ?_
          · intro a W hS pre old K hK
            have e32 : a.tmps.getD 32 undef = .pointer (some ⟨wr.heap.size, 2, none⟩) := pre 5 32 _ (by kernel_rfl) rfl rfl
            clear pre old
            simp only [Array.getD_eq_getD_getElem?] at e32
            have hS9 := hS
            obtain ⟨l1, l2, _, _, _⟩ := hS9
            have c0 := l1.cell 0
            have c1 := l1.cell 1
            have c2 := l1.cell 2
            have d2 := l2.cell 2
            simp only [List.getElem?_toArray, List.getElem?_cons_zero, List.getElem?_cons_succ] at c0 c1 c2 d2
            go_simp
            exact hK _ _ hS (Below.refl _ _) rfl
          refine Vals5.Steps.run (by kernel_rfl) (Vals5.Stable.is _) ?_ ?_
          · intro a W hS pre old K hK
            have e9 : a.tmps.getD 9 undef = .int .i64 er := old 9 _ (by kernel_rfl) rfl
            clear pre old
            simp only [Array.getD_eq_getD_getElem?] at e9
            go_simp
            exact hK _ _ hS (Below.refl _ _) rfl
          refine Vals5.Steps.run (by kernel_rfl) (Vals5.Stable.is _) ?_ ?_
          · intro a W hS pre old K hK
            have e33 : a.tmps.getD 33 undef = .int .i64 rs[k].shown := pre 6 33 _ (by kernel_rfl) rfl rfl
            have e34 : a.tmps.getD 34 undef = .int .i64 er := pre 7 34 _ (by kernel_rfl) rfl rfl
            clear pre old
            simp only [Array.getD_eq_getD_getElem?] at e33 e34
            go_simp
            exact hK _ _ hS (Below.refl _ _) (by show Value.int _ _ = Value.int _ _; rw [IntWalk.i64_in _ (by omega)])
          refine Vals5.Steps.run (by kernel_rfl) (Vals5.Stable.is _) ?_ ?_
          · intro a W hS pre old K hK
            have e31 : a.tmps.getD 31 undef = .int .i64 (rs[k].shown - er) := pre 4 31 _ (by kernel_rfl) rfl rfl
            have e35 : a.tmps.getD 35 undef = .int .i64 (rs[k].shown + er) := pre 8 35 _ (by kernel_rfl) rfl rfl
            clear pre old
            simp only [Array.getD_eq_getD_getElem?] at e31 e35
            go_simp
            refine (between_c _ _ _).mono ?_
            rintro e w' ⟨rfl, hb'⟩
            obtain ⟨h1, h2, h3, h4, h5⟩ := hS
            exact hK _ _ ⟨h1.keep hb', h2.keep hb', h3.keep hb', h4.keep hb', h5.keep hb'⟩ hb' rfl
          refine Vals5.Steps.run (by kernel_rfl) (Vals5.Stable.is _) ?_ ?_
          · intro a W hS pre old K hK
            have e27 : a.tmps.getD 27 undef = .agg #[.int .i64 0, .int .i64 0, .bool false] := pre 0 27 _ (by kernel_rfl) rfl rfl
            have e36 : a.tmps.getD 36 undef = .agg (lV (btw (rs[k].shown - er) (rs[k].shown + er))) := pre 9 36 _ (by kernel_rfl) rfl rfl
            clear pre old
            simp only [Array.getD_eq_getD_getElem?] at e27 e36
            go_simp
            refine (common_c (none) (btw (rs[k].shown - er) (rs[k].shown + er)) _).mono ?_
            rintro e w' ⟨rfl, hb'⟩
            obtain ⟨h1, h2, h3, h4, h5⟩ := hS
            exact hK _ _ ⟨h1.keep hb', h2.keep hb', h3.keep hb', h4.keep hb', h5.keep hb'⟩ hb' (by show Value.agg _ = Value.agg _; rw [HV.out])
          exact Vals5.Steps.nil
        rintro X ⟨hL3, hR3, hO3, hs3, hq3⟩
        simp only [Vals5.All, List.getLast_cons_cons, List.getLast_singleton]
        simp only [Vals.putAll, List.setIfInBounds_toArray, List.set_cons_zero, List.set_cons_succ]
        intro K hK
        refine wp_store_row 95 _ _ rfl (w.heap.size + 1) #[.int .i64 p, .int .i64 q, .bool r] rfl rfl 95 _ hL3 (by kernel_rfl) rfl (by simp [Value.oneCell']) ?_
        refine hK _ _ ?_
        clear hK K
        have hs4 := hs3.row (g := w.heap.size + 1) (by omega) #[.int .i64 p, .int .i64 q, .bool r]
        have hS4 := (HS2.out.keep (w' := X) (hq3.1.mono (by omega))).rowFar (g' := w.heap.size + 1) (by omega) #[.int .i64 p, .int .i64 q, .bool r]
        have hO4 := hO3.rowFar (g' := w.heap.size + 1) (by omega) #[.int .i64 p, .int .i64 q, .bool r]
        have hL4 := hL3.row #[.int .i64 p, .int .i64 q, .bool r]
        go_wp2_with fail
        go_roundw
        case rel => exact ⟨k + 1, by omega, by go_num, hs4, hS4, Lib.hid (by rw [HE.out, HV.out]; exact hL4), hO4⟩
        case measure => simp [intOf]; omega
      | some x =>
        simp only [lV] at HL2
        refine Vals6.regionAll (fun X => Blk X (w.heap.size + 1) 95 #[.int .i64 x.1, .int .i64 x.2, .bool true] ∧ Blk X wr.heap.size 61 #[.int .i64 rs[k].min, .int .i64 (t : Int), .int .i64 rs[k].shown] ∧ Blk X (w.heap.size + 1 + 1) 95 #[.int .i64 0, .int .i64 0, .bool false] ∧ Since w X ∧ Since (wr.alloc (.cells #[.int .i64 rs[k].min, .int .i64 (t : Int), .int .i64 rs[k].shown] 61)) X) [some 27, some 28, some 29, some 30, some 31, some 32, some 33, some 34, some 35, some 36, some 37] [.is (.agg #[.int .i64 x.1, .int .i64 x.2, .bool true]), .is (.pointer (some ⟨wr.heap.size, 2, none⟩)), .is (.int .i64 rs[k].shown), .is (.int .i64 er), .is (.int .i64 (rs[k].shown - er)), .is (.pointer (some ⟨wr.heap.size, 2, none⟩)), .is (.int .i64 rs[k].shown), .is (.int .i64 er), .is (.int .i64 (rs[k].shown + er)), .is (.agg (lV (btw (rs[k].shown - er) (rs[k].shown + er)))), .is (.agg #[.int .i64 p, .int .i64 q, .bool r])] (by kernel_rfl) rfl rfl (by kernel_rfl) (by kernel_rfl) (by kernel_rfl) (by kernel_rfl) (by kernel_rfl) (by kernel_rfl) (by kernel_rfl) (⟨HL2.out.drew, HD2.out.drew, HR2.out.drew, hsn2.drew, (Since.refl _).drew⟩) ?_ ?_
        · refine Vals5.Steps.run (by kernel_rfl) (Vals5.Stable.is _) ?_ ?_
          · intro a W hS pre old K hK
            have e5 : a.tmps.getD 5 undef = .pointer (some ⟨w.heap.size + 1, 0, none⟩) := old 5 _ (by kernel_rfl) rfl
            clear pre old
            simp only [Array.getD_eq_getD_getElem?] at e5
            have hS9 := hS
            obtain ⟨l1, l2, _, _, _⟩ := hS9
            have c0 := l1.cell 0
            have c1 := l1.cell 1
            have c2 := l1.cell 2
            have d2 := l2.cell 2
            simp only [List.getElem?_toArray, List.getElem?_cons_zero, List.getElem?_cons_succ] at c0 c1 c2 d2
            go_simp
            exact hK _ _ hS (Below.refl _ _) rfl
          refine Vals5.Steps.run (by kernel_rfl) (Vals5.Stable.is _) ?_ ?_
          · intro a W hS pre old K hK
            have e8 : a.tmps.getD 8 undef = .pointer (some ⟨wr.heap.size, 0, none⟩) := old 8 _ (by kernel_rfl) rfl
            clear pre old
            simp only [Array.getD_eq_getD_getElem?] at e8
            go_simp
            exact hK _ _ hS (Below.refl _ _) rfl
          refine Vals5.Steps.run (by kernel_rfl) (Vals5.Stable.is _) ?_ ?_
          · intro a W hS pre old K hK
            have e28 : a.tmps.getD 28 undef = .pointer (some ⟨wr.heap.size, 2, none⟩) := pre 1 28 _ (by kernel_rfl) rfl rfl
            clear pre old
            simp only [Array.getD_eq_getD_getElem?] at e28
            have hS9 := hS
            obtain ⟨l1, l2, _, _, _⟩ := hS9
            have c0 := l1.cell 0
            have c1 := l1.cell 1
            have c2 := l1.cell 2
            have d2 := l2.cell 2
            simp only [List.getElem?_toArray, List.getElem?_cons_zero, List.getElem?_cons_succ] at c0 c1 c2 d2
            go_simp
            exact hK _ _ hS (Below.refl _ _) rfl
          refine Vals5.Steps.run (by kernel_rfl) (Vals5.Stable.is _) ?_ ?_
          · intro a W hS pre old K hK
            have e9 : a.tmps.getD 9 undef = .int .i64 er := old 9 _ (by kernel_rfl) rfl
            clear pre old
            simp only [Array.getD_eq_getD_getElem?] at e9
            go_simp
            exact hK _ _ hS (Below.refl _ _) rfl
          refine Vals5.Steps.run (by kernel_rfl) (Vals5.Stable.is _) ?_ ?_
          · intro a W hS pre old K hK
            have e29 : a.tmps.getD 29 undef = .int .i64 rs[k].shown := pre 2 29 _ (by kernel_rfl) rfl rfl
            have e30 : a.tmps.getD 30 undef = .int .i64 er := pre 3 30 _ (by kernel_rfl) rfl rfl
            clear pre old
            simp only [Array.getD_eq_getD_getElem?] at e29 e30
            go_simp
            exact hK _ _ hS (Below.refl _ _) (by show Value.int _ _ = Value.int _ _; rw [IntWalk.i64_in _ (by omega)])
          refine Vals5.Steps.run (by kernel_rfl) (Vals5.Stable.is _) ?_ ?_
          · intro a W hS pre old K hK
            have e8 : a.tmps.getD 8 undef = .pointer (some ⟨wr.heap.size, 0, none⟩) := old 8 _ (by kernel_rfl) rfl
            clear pre old
            simp only [Array.getD_eq_getD_getElem?] at e8
            go_simp
            exact hK _ _ hS (Below.refl _ _) rfl
          refine Vals5.Steps.run (by kernel_rfl) (Vals5.Stable.is _) ?_ ?_
          · intro a W hS pre old K hK
            have e32 : a.tmps.getD 32 undef = .pointer (some ⟨wr.heap.size, 2, none⟩) := pre 5 32 _ (by kernel_rfl) rfl rfl
            clear pre old
            simp only [Array.getD_eq_getD_getElem?] at e32
            have hS9 := hS
            obtain ⟨l1, l2, _, _, _⟩ := hS9
            have c0 := l1.cell 0
            have c1 := l1.cell 1
            have c2 := l1.cell 2
            have d2 := l2.cell 2
            simp only [List.getElem?_toArray, List.getElem?_cons_zero, List.getElem?_cons_succ] at c0 c1 c2 d2
            go_simp
            exact hK _ _ hS (Below.refl _ _) rfl
          refine Vals5.Steps.run (by kernel_rfl) (Vals5.Stable.is _) ?_ ?_
          · intro a W hS pre old K hK
            have e9 : a.tmps.getD 9 undef = .int .i64 er := old 9 _ (by kernel_rfl) rfl
            clear pre old
            simp only [Array.getD_eq_getD_getElem?] at e9
            go_simp
            exact hK _ _ hS (Below.refl _ _) rfl
          refine Vals5.Steps.run (by kernel_rfl) (Vals5.Stable.is _) ?_ ?_
          · intro a W hS pre old K hK
            have e33 : a.tmps.getD 33 undef = .int .i64 rs[k].shown := pre 6 33 _ (by kernel_rfl) rfl rfl
            have e34 : a.tmps.getD 34 undef = .int .i64 er := pre 7 34 _ (by kernel_rfl) rfl rfl
            clear pre old
            simp only [Array.getD_eq_getD_getElem?] at e33 e34
            go_simp
            exact hK _ _ hS (Below.refl _ _) (by show Value.int _ _ = Value.int _ _; rw [IntWalk.i64_in _ (by omega)])
          refine Vals5.Steps.run (by kernel_rfl) (Vals5.Stable.is _) ?_ ?_
          · intro a W hS pre old K hK
            have e31 : a.tmps.getD 31 undef = .int .i64 (rs[k].shown - er) := pre 4 31 _ (by kernel_rfl) rfl rfl
            have e35 : a.tmps.getD 35 undef = .int .i64 (rs[k].shown + er) := pre 8 35 _ (by kernel_rfl) rfl rfl
            clear pre old
            simp only [Array.getD_eq_getD_getElem?] at e31 e35
            go_simp
            refine (between_c _ _ _).mono ?_
            rintro e w' ⟨rfl, hb'⟩
            obtain ⟨h1, h2, h3, h4, h5⟩ := hS
            exact hK _ _ ⟨h1.keep hb', h2.keep hb', h3.keep hb', h4.keep hb', h5.keep hb'⟩ hb' rfl
          refine Vals5.Steps.run (by kernel_rfl) (Vals5.Stable.is _) ?_ ?_
          · intro a W hS pre old K hK
            have e27 : a.tmps.getD 27 undef = .agg #[.int .i64 x.1, .int .i64 x.2, .bool true] := pre 0 27 _ (by kernel_rfl) rfl rfl
            have e36 : a.tmps.getD 36 undef = .agg (lV (btw (rs[k].shown - er) (rs[k].shown + er))) := pre 9 36 _ (by kernel_rfl) rfl rfl
            clear pre old
            simp only [Array.getD_eq_getD_getElem?] at e27 e36
            go_simp
            refine (common_c (some x) (btw (rs[k].shown - er) (rs[k].shown + er)) _).mono ?_
            rintro e w' ⟨rfl, hb'⟩
            obtain ⟨h1, h2, h3, h4, h5⟩ := hS
            exact hK _ _ ⟨h1.keep hb', h2.keep hb', h3.keep hb', h4.keep hb', h5.keep hb'⟩ hb' (by show Value.agg _ = Value.agg _; rw [HV.out])
          exact Vals5.Steps.nil
        rintro X ⟨hL3, hR3, hO3, hs3, hq3⟩
        simp only [Vals5.All, List.getLast_cons_cons, List.getLast_singleton]
        simp only [Vals.putAll, List.setIfInBounds_toArray, List.set_cons_zero, List.set_cons_succ]
        intro K hK
        refine wp_store_row 95 _ _ rfl (w.heap.size + 1) #[.int .i64 p, .int .i64 q, .bool r] rfl rfl 95 _ hL3 (by kernel_rfl) rfl (by simp [Value.oneCell']) ?_
        refine hK _ _ ?_
        clear hK K
        have hs4 := hs3.row (g := w.heap.size + 1) (by omega) #[.int .i64 p, .int .i64 q, .bool r]
        have hS4 := (HS2.out.keep (w' := X) (hq3.1.mono (by omega))).rowFar (g' := w.heap.size + 1) (by omega) #[.int .i64 p, .int .i64 q, .bool r]
        have hO4 := hO3.rowFar (g' := w.heap.size + 1) (by omega) #[.int .i64 p, .int .i64 q, .bool r]
        have hL4 := hL3.row #[.int .i64 p, .int .i64 q, .bool r]
        go_wp2_with fail
        go_roundw
        case rel => exact ⟨k + 1, by omega, by go_num, hs4, hS4, Lib.hid (by rw [HE.out, HV.out]; exact hL4), hO4⟩
        case measure => simp [intOf]; omega
    · obtain rfl : k = rs.length := by omega
      rw [List.take_length] at HL
      obtain ⟨p, q, r, hv⟩ := lV_ex (agr s rs o)
      rw [hv] at HL
      have HV := Lib.hid hv
      clear hv
      obtain ⟨l0, l1, l2⟩ := HL.out.lev
      go_wp2_with (refine wpList_store_row rfl 95 _ _ rfl (w.heap.size + 1 + 1) _ rfl rfl 95 _ HR.out (by kernel_rfl) rfl (by simp [Value.oneCell']) ?_)
      refine bodyPost_ret (v := .agg #[.int .i64 p, .int .i64 q, .bool r]) ?_ rfl ⟨by rw [HV.out], (hsn.row (by omega) _).1⟩
      exact (results_cell_row Try.results94 _ _ (w.heap.size + 1 + 1) 95 _ (0, 0) _ rfl (HR.out.row _) Try.underlying95 rfl (by kernel_rfl))
end Td
end Go.Proofs.Ytccacinnelmnpaa
