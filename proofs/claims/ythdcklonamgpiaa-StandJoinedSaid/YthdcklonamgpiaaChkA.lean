import Derived.Test.YthdcklonamgpiaaLeaf
/- The error of a hull: Check. -/
namespace Go.Proofs.Ythdcklonamgpiaa
open Go.RowKit
namespace Td
set_option linter.unusedSimpArgs false
set_option linter.unusedVariables false
attribute [local go_sem] Oper.semAt_some
theorem same1_c (u x : Prt) (g : Nat) (w : World) (hg : Blk w g 74 (pV x)) :
    Calls Try.prog 78 #[.agg (pV u), .pointer (some ⟨g, 0, none⟩)] w fun e w' => e = .returned (.bool (eqS u.name x.name)) ∧ Below w.heap.size w w' := by
  have hs0 := (Since.refl w).alloc (.cells (pV u) 74)
  have c0 := (hg.alloc (.cells (pV u) 74)).part.1
  go_enter Try.func78, Try.ntmps78
  go_wp2_with fail
  go_ret
  exact ⟨rfl, hs0.1⟩
def idxT (l : List Prt) (nm : ByteArray) : Int := match l.findIdx? (fun u => eqS u.name nm) with | some i => i | none => -1
theorem idxT_at {l : List Prt} {nm : ByteArray} {k : Nat} (hk : k < l.length) (h0 : ∀ j (h : j < l.length), j < k → eqS l[j].name nm = false) (h1 : eqS l[k].name nm = true) : idxT l nm = k := by
  have : l.findIdx? (fun u => eqS u.name nm) = some k := by
    rw [List.findIdx?_eq_some_iff_getElem]
    exact ⟨hk, h1, fun j hj => by simp [h0 j (by omega) hj]⟩
  simp [idxT, this]
theorem idxT_none {l : List Prt} {nm : ByteArray} (h0 : ∀ j (h : j < l.length), j < l.length → eqS l[j].name nm = false) : idxT l nm = -1 := by
  have : l.findIdx? (fun u => eqS u.name nm) = none := by
    rw [List.findIdx?_eq_none_iff]
    intro x hx
    obtain ⟨j, hj, rfl⟩ := List.mem_iff_getElem.1 hx
    exact h0 j hj hj
  simp [idxT, this]
theorem idxT_any (l : List Prt) (nm : ByteArray) : decide (0 ≤ idxT l nm) = l.any (fun u => eqS u.name nm) := by
  unfold idxT
  cases h : l.findIdx? (fun u => eqS u.name nm) with
  | none =>
    rw [List.findIdx?_eq_none_iff] at h
    symm
    simpa using h
  | some i =>
    rw [List.findIdx?_eq_some_iff_getElem] at h
    obtain ⟨hi, h1, _⟩ := h
    simp
    exact ⟨l[i], List.getElem_mem _, h1⟩
set_option maxHeartbeats 1000000 in
theorem indexFunc_c (A : Option Addr) (l : List Prt) (c : Nat) (x : Prt) (g : Nat) (w : World) (hl : l.length ≤ 9223372036854775807) (hp : PtAt w A l) (hg : Blk w g 74 (pV x)) :
    Calls Try.prog 95 #[.slice A l.length c, .func (.func 78) #[] #[.pointer (some ⟨g, 0, none⟩)]] w fun e w' => e = .returned (.int .i64 (idxT l x.name)) ∧ Below w.heap.size w w' := by
  go_enter Try.func95, Try.ntmps95
  go_wp2_with fail
  go_loopw [8] (fun i wr => ∃ k : Nat, k ≤ l.length ∧ i = .int .i64 k ∧ Since w wr ∧ Hid (∀ j (h : j < l.length), j < k → eqS l[j].name x.name = false)) (fun i _ => l.length - (intOf i).toNat)
  case atStart => exact ⟨0, Nat.zero_le _, rfl, Since.refl _, fun j _ h => absurd h (by omega)⟩
  case round =>
    obtain ⟨k, hk, rfl, hsn, H0⟩ := hrel
    by_cases hlt : k < l.length
    · obtain ⟨ad, hA, c0, c1, c2, c3, c4, c5, c6⟩ := hp.get hlt
      subst hA
      have k0 := keep_cell hsn.1 c0
      have k1 := keep_cell hsn.1 c1
      have k2 := keep_cell hsn.1 c2
      have k3 := keep_cell hsn.1 c3
      have k4 := keep_cell hsn.1 c4
      have k5 := keep_cell hsn.1 c5
      have k6 := keep_cell hsn.1 c6
      clear c0 c1 c2 c3 c4 c5 c6
      go_wp2_with fail
      refine (same1_c l[k] x g _ (hg.keep hsn.1)).mono ?_
      rintro e w' ⟨rfl, hb⟩
      have hsn2 := hsn.keep hb
      rcases Bool.eq_false_or_eq_true (eqS l[k].name x.name) with he | he
      · have HV := Lib.hid (idxT_at hlt H0.out he)
        rw [he]
        clear he k0 k1 k2 k3 k4 k5 k6
        go_wp2_with fail
        go_ret
        exact ⟨ret_int HV.out.symm, hsn2.1⟩
      · have HE := Lib.hid he
        rw [he]
        clear he k0 k1 k2 k3 k4 k5 k6
        go_wp2_with fail
        go_roundw
        case rel =>
          refine ⟨k + 1, by omega, by go_num, hsn2, fun j h hj => ?_⟩
          rcases Nat.lt_or_ge j k with h1 | h1
          · exact H0.out j h h1
          · obtain rfl : j = k := by omega
            exact HE.out
        case measure => simp [intOf]; omega
    · have HV := Lib.hid (idxT_none (l := l) (nm := x.name) (by obtain rfl : k = l.length := by omega
                                                                exact H0.out))
      go_wp2_with fail
      go_ret
      exact ⟨ret_int HV.out.symm, hsn.1⟩
theorem containsFunc_c (A : Option Addr) (l : List Prt) (c : Nat) (x : Prt) (g : Nat) (w : World) (hl : l.length ≤ 9223372036854775807) (hp : PtAt w A l) (hg : Blk w g 74 (pV x)) :
    Calls Try.prog 77 #[.slice A l.length c, .func (.func 78) #[] #[.pointer (some ⟨g, 0, none⟩)]] w fun e w' => e = .returned (.bool (l.any fun u => eqS u.name x.name)) ∧ Below w.heap.size w w' := by
  go_enter Try.func77, Try.ntmps77
  go_wp2_with fail
  refine (indexFunc_c A l c x g _ hl hp hg).mono ?_
  rintro e w' ⟨rfl, hb⟩
  go_wp2_with fail
  go_ret
  exact ⟨ret_bool (idxT_any l x.name), hb⟩
set_option maxHeartbeats 2000000 in
theorem groundFault_c (h : Hul) (m : Sl) (w : World) (hl : h.parts.length ≤ 9223372036854775807) :
    Calls Try.prog 44 #[.agg (hV h m)] w fun e w' => e = .returned (.int .i64 (groundE h)) ∧ Below w.heap.size w w' := by
  obtain ⟨E, hE⟩ : ∃ E, groundE h = E := ⟨_, rfl⟩
  rw [hE]
  unfold groundE at hE
  have hs0 := (Since.refl w).alloc (.cells (hV h m) 24)
  have HB0 := Lib.hid (Blk.new w 24 (hV h m))
  go_enter Try.func44, Try.ntmps44
  go_wp2_with fail
  refine (within_c _ _ _ _ _ _ (Blk.new1 _ _ _ _)).mono ?_
  rintro e w1 ⟨rfl, hb1⟩
  have hs1 := (hs0.alloc _).keep hb1
  have HB1 := Lib.hid ((HB0.out.alloc _).keep hb1)
  rcases Bool.eq_false_or_eq_true (wi 1 10 h.parts.length) with h1 | h1
  · rw [if_pos h1] at hE
    rw [h1]
    clear h1
    obtain ⟨c0, c1, c2⟩ := HB1.out.hull
    go_wp2_with fail
    refine (within2_c _ _ _ _ _ _ _ (Blk.new _ _ _)).mono ?_
    rintro e w2 ⟨rfl, rfl⟩
    have hs2 := hs1.alloc (.cells #[.int .i64 h.aft, .int .i64 h.fore] 3)
    have HB2 := Lib.hid (HB1.out.alloc (.cells #[.int .i64 h.aft, .int .i64 h.fore] 3))
    clear c0 c1 c2
    rcases Bool.eq_false_or_eq_true (wi 0 5000 h.aft && wi 0 5000 h.fore) with h2 | h2
    · rw [if_pos h2] at hE
      rw [h2]
      clear h2
      obtain ⟨c0, c1, c2⟩ := HB2.out.hull
      by_cases h3 : h.fore ≤ h.aft
      · rw [if_pos h3] at hE
        go_wp2_with fail
        go_ret
        exact ⟨ret_int hE, hs2.1⟩
      · rw [if_neg h3] at hE
        go_wp2_with fail
        go_ret
        exact ⟨ret_int hE, hs2.1⟩
    · rw [if_neg (by rw [h2]; decide)] at hE
      rw [h2]
      clear h2
      go_wp2_with fail
      go_ret
      exact ⟨ret_int hE, hs2.1⟩
  · rw [if_neg (by rw [h1]; decide)] at hE
    rw [h1]
    clear h1
    go_wp2_with fail
    go_ret
    exact ⟨ret_int hE, hs1.1⟩
set_option maxRecDepth 100000 in
set_option maxHeartbeats 2000000 in
theorem numbersFit_c (x : Prt) (w : World) :
    Calls Try.prog 79 #[.agg (pV x)] w fun e w' => e = .returned (.bool (okNum x)) ∧ Below w.heap.size w w' := by
  obtain ⟨E, hE⟩ : ∃ E, okNum x = E := ⟨_, rfl⟩
  rw [hE]
  unfold okNum at hE
  have hs0 := (Since.refl w).alloc (.cells (pV x) 74)
  have HB0 := Lib.hid (Blk.new w 74 (pV x))
  go_enter Try.func79, Try.ntmps79
  go_wp2_with fail
  refine (within_c _ _ _ _ _ _ (Blk.new1 _ _ _ _)).mono ?_
  rintro e w1 ⟨rfl, hb1⟩
  have hs1 := (hs0.alloc _).keep hb1
  have HB1 := Lib.hid ((HB0.out.alloc _).keep hb1)
  rcases Bool.eq_false_or_eq_true (wi 0 5000 x.pt) with h1 | h1
  · rw [h1, Bool.true_and] at hE
    rw [h1]
    clear h1
    obtain ⟨c0, c1, c2, c3, c4, c5, c6⟩ := HB1.out.part
    go_wp2_with fail
    refine (spansWithin_c _ [(x.w0, x.w1)] _ 0 1000000 _ (by simp) (SpAt.one (p := (x.w0, x.w1)) (Blk.new _ _ _))).mono ?_
    rintro e w2 ⟨rfl, hb2⟩
    have hs2 := (hs1.alloc _).keep hb2
    have HB2 := Lib.hid ((HB1.out.alloc _).keep hb2)
    clear c0 c1 c2 c3 c4 c5 c6
    rcases Bool.eq_false_or_eq_true (sw 0 1000000 [(x.w0, x.w1)]) with h2 | h2
    · rw [h2, Bool.true_and] at hE
      rw [h2]
      clear h2
      obtain ⟨c0, c1, c2, c3, c4, c5, c6⟩ := HB2.out.part
      go_wp2_with fail
      refine (within_c _ _ _ _ _ _ (Blk.new _ _ _)).mono ?_
      rintro e w3 ⟨rfl, hb3⟩
      have hs3 := (hs2.alloc _).keep hb3
      have HB3 := Lib.hid ((HB2.out.alloc _).keep hb3)
      clear c0 c1 c2 c3 c4 c5 c6
      rcases Bool.eq_false_or_eq_true (wi 0 1000 x.kl) with h3 | h3
      · rw [h3, Bool.true_and] at hE
        rw [h3]
        clear h3
        obtain ⟨c0, c1, c2, c3, c4, c5, c6⟩ := HB3.out.part
        go_wp2_with fail
        refine (spansWithin_c _ [(x.l0, x.l1)] _ 0 5000 _ (by simp) (SpAt.one (p := (x.l0, x.l1)) (Blk.new _ _ _))).mono ?_
        rintro e w4 ⟨rfl, hb4⟩
        have hs4 := (hs3.alloc _).keep hb4
        clear c0 c1 c2 c3 c4 c5 c6
        rw [hE]
        go_wp2_with fail
        go_ret
        exact ⟨rfl, hs4.1⟩
      · rw [h3, Bool.false_and] at hE
        subst hE
        rw [h3]
        clear h3
        go_wp2_with fail
        go_ret
        exact ⟨rfl, hs3.1⟩
    · rw [h2, Bool.false_and, Bool.false_and] at hE
      subst hE
      rw [h2]
      clear h2
      go_wp2_with fail
      go_ret
      exact ⟨rfl, hs2.1⟩
  · rw [h1, Bool.false_and, Bool.false_and, Bool.false_and] at hE
    subst hE
    rw [h1]
    clear h1
    go_wp2_with fail
    go_ret
    exact ⟨rfl, hs1.1⟩
set_option maxRecDepth 100000 in
set_option maxHeartbeats 2000000 in
theorem partFault_c (A : Option Addr) (l : List Prt) (c : Nat) (x : Prt) (w : World) (hl : l.length ≤ 1000) (hp : PtAt w A l) (hn : x.name.size ≤ maxLen) :
    Calls Try.prog 45 #[.agg (pV x), .slice A l.length c] w fun e w' => e = .returned (.int .i64 (partE x l)) ∧ Below w.heap.size w w' := by
  obtain ⟨E, hE⟩ : ∃ E, partE x l = E := ⟨_, rfl⟩
  rw [hE]
  unfold partE at hE
  have hs0 := (Since.refl w).alloc (.cells (pV x) 74)
  have HB0 := Lib.hid (Blk.new w 74 (pV x))
  go_enter Try.func45, Try.ntmps45
  go_wp2_with fail
  refine (name_c _ _ hn).mono ?_
  rintro e w1 ⟨rfl, rfl⟩
  rcases Bool.eq_false_or_eq_true (isName x.name) with h1 | h1
  · rw [if_pos h1] at hE
    rw [h1]
    clear h1
    go_wp2_with fail
    refine (containsFunc_c A l c x w.heap.size _ (by omega) (hp.keep hs0.1) HB0.out).mono ?_
    rintro e w2 ⟨rfl, hb2⟩
    have hs2 := hs0.keep hb2
    have HB2 := Lib.hid (HB0.out.keep hb2)
    rcases Bool.eq_false_or_eq_true (l.any fun u => eqS u.name x.name) with h2 | h2
    · rw [if_pos h2] at hE
      rw [h2]
      clear h2
      go_wp2_with fail
      go_ret
      exact ⟨ret_int hE, hs2.1⟩
    · rw [if_neg (by rw [h2]; decide)] at hE
      rw [h2]
      clear h2
      obtain ⟨c0, c1, c2, c3, c4, c5, c6⟩ := HB2.out.part
      go_wp2_with fail
      refine (numbersFit_c x _).mono ?_
      rintro e w3 ⟨rfl, hb3⟩
      have hs3 := hs2.keep hb3
      have HB3 := Lib.hid (HB2.out.keep hb3)
      clear c0 c1 c2 c3 c4 c5 c6
      rcases Bool.eq_false_or_eq_true (okNum x) with h3 | h3
      · rw [if_pos h3] at hE
        rw [h3]
        clear h3
        obtain ⟨c0, c1, c2, c3, c4, c5, c6⟩ := HB3.out.part
        go_wp2_with fail
        refine (turned_c _ [(x.w0, x.w1), (x.l0, x.l1)] _ _ (by simp) (SpAt.two (p := (x.w0, x.w1)) (r := (x.l0, x.l1)) (Blk.new _ _ _))).mono ?_
        rintro e w4 ⟨rfl, hb4⟩
        have hs4 := (hs3.alloc _).keep hb4
        clear c0 c1 c2 c3 c4 c5 c6
        rcases Bool.eq_false_or_eq_true (tn [(x.w0, x.w1), (x.l0, x.l1)]) with h4 | h4
        · rw [if_pos h4] at hE
          rw [h4]
          go_wp2_with fail
          go_ret
          exact ⟨ret_int hE, hs4.1⟩
        · rw [if_neg (by rw [h4]; decide)] at hE
          rw [h4]
          go_wp2_with fail
          go_ret
          exact ⟨ret_int hE, hs4.1⟩
      · rw [if_neg (by rw [h3]; decide)] at hE
        rw [h3]
        clear h3
        go_wp2_with fail
        go_ret
        exact ⟨ret_int hE, hs3.1⟩
  · rw [if_neg (by rw [h1]; decide)] at hE
    rw [h1]
    clear h1
    go_wp2_with fail
    go_ret
    exact ⟨ret_int hE, hs0.1⟩
set_option maxRecDepth 100000 in
set_option maxHeartbeats 4000000 in
theorem check_c (h : Hul) (m : Sl) (w : World) (hp : HAt w m h) :
    Calls Try.prog 15 #[.agg (hV h m)] w fun e w' => e = .returned (.tuple #[.int .i64 (chk h).1, .int .i64 (chk h).2.1, .int .i64 (chk h).2.2]) ∧ Below w.heap.size w w' := by
  have hs0 := (Since.refl w).alloc (.cells (hV h m) 24)
  have HB0 := Lib.hid (Blk.new w 24 (hV h m))
  have hlM : h.parts.length ≤ 9223372036854775807 := Nat.le_trans hp.pc hp.cM
  go_enter Try.func15, Try.ntmps15
  go_wp2_with fail
  refine (groundFault_c h m _ hlM).mono ?_
  rintro e w1 ⟨rfl, hb1⟩
  have hs1 := hs0.keep hb1
  have HB1 := Lib.hid (HB0.out.keep hb1)
  by_cases h1 : groundE h = 0
  · rw [h1]
    obtain ⟨c0, c1, c2⟩ := HB1.out.hull
    have h10 : h.parts.length ≤ 10 := by
      unfold groundE at h1
      split at h1
      · rename_i g1; have := wi_iff.1 g1; omega
      · cases h1
    have H1 := Lib.hid h1
    clear h1
    go_wp2_with fail
    clear c0 c1 c2
    go_loopw [17] (fun i wr => ∃ k : Nat, k ≤ h.parts.length ∧ i = .int .i64 k ∧ Since w wr ∧ Hid (Blk wr w.heap.size 24 (hV h m)) ∧ Hid (∀ j, j < k → partAt h.parts j = 0)) (fun i _ => h.parts.length - (intOf i).toNat)
    case atStart => exact ⟨0, Nat.zero_le _, rfl, hs1, HB1, fun j h => absurd h (by omega)⟩
    case round =>
      obtain ⟨k, hk, rfl, hsn, HBk, H0⟩ := hrel
      by_cases hlt : k < h.parts.length
      · obtain ⟨ad, hA, c0, c1, c2, c3, c4, c5, c6⟩ := hp.ps.get hlt
        have hlk : (h.parts.take k).length = k := by rw [List.length_take]; omega
        have hAd := Lib.hid hA
        have k0 := keep_cell hsn.1 c0
        have k1 := keep_cell hsn.1 c1
        have k2 := keep_cell hsn.1 c2
        have k3 := keep_cell hsn.1 c3
        have k4 := keep_cell hsn.1 c4
        have k5 := keep_cell hsn.1 c5
        have k6 := keep_cell hsn.1 c6
        clear c0 c1 c2 c3 c4 c5 c6
        have hsn2 := hsn.alloc (.cells (pV h.parts[k]) 74)
        have HBr := Lib.hid (HBk.out.alloc (.cells (pV h.parts[k]) 74))
        have HB2 := Lib.hid (Blk.new wr 74 (pV h.parts[k]))
        obtain ⟨mA, mc⟩ := m
        replace hA : mA = some ad := hA
        subst hA
        go_wp2_with fail
        clear k0 k1 k2 k3 k4 k5 k6
        refine Vals9.region (fun _ X => Since w X ∧ Blk X w.heap.size 24 (hV h ⟨some ad, mc⟩) ∧ Blk X wr.heap.size 74 (pV h.parts[k])) [some 22, some 23, some 24, some 25, some 26, some 27, some 8] [.is ?_, .is ?_, .is ?_, .is ?_, .is ?_, .is ?_, .is ?_] (by kernel_rfl) (by kernel_rfl) (by kernel_rfl) (by kernel_rfl) (by kernel_rfl) (by kernel_rfl) (⟨hsn2.drew, HBr.out.drew, HB2.out.drew⟩) ?hsteps ?hfin
        case hsteps =>
          refine Vals9.Steps.run rfl ?_ ?_
          · intro a W σ hJ pre K hK
            have e7 := pre.2.2 7 _ (by kernel_rfl) rfl
            clear pre
            simp only [Array.getD_eq_getD_getElem?, List.getElem?_toArray, List.getElem?_cons_zero, List.getElem?_cons_succ, Option.getD_some] at e7
            have hS9 := hJ
            obtain ⟨_, q1, q2⟩ := hS9
            obtain ⟨c0, c1, c2⟩ := q1.hull
            obtain ⟨d0, d1, d2, d3, d4, d5, d6⟩ := q2.part
            go_simp
            exact hK _ hJ
          refine Vals9.Steps.run rfl ?_ ?_
          · intro a W σ hJ pre K hK
            have e1 := pre.2.2 1 _ (by kernel_rfl) rfl
            clear pre
            simp only [Array.getD_eq_getD_getElem?, List.getElem?_toArray, List.getElem?_cons_zero, List.getElem?_cons_succ, Option.getD_some] at e1
            go_simp
            exact hK _ hJ
          refine Vals9.Steps.run rfl ?_ ?_
          · intro a W σ hJ pre K hK
            have e23 := pre.1 1 23 _ (by kernel_rfl) rfl rfl
            clear pre
            simp only [Array.getD_eq_getD_getElem?, List.getElem?_toArray, List.getElem?_cons_zero, List.getElem?_cons_succ, Option.getD_some] at e23
            have hS9 := hJ
            obtain ⟨_, q1, q2⟩ := hS9
            obtain ⟨c0, c1, c2⟩ := q1.hull
            obtain ⟨d0, d1, d2, d3, d4, d5, d6⟩ := q2.part
            go_simp
            exact hK _ hJ
          refine Vals9.Steps.run rfl ?_ ?_
          · intro a W σ hJ pre K hK
            have e6 := pre.2.2 6 _ (by kernel_rfl) rfl
            clear pre
            simp only [Array.getD_eq_getD_getElem?, List.getElem?_toArray, List.getElem?_cons_zero, List.getElem?_cons_succ, Option.getD_some] at e6
            go_simp
            exact hK _ hJ
          refine Vals9.Steps.run rfl ?_ ?_
          · intro a W σ hJ pre K hK
            have e24 := pre.1 2 24 _ (by kernel_rfl) rfl rfl
            have e25 := pre.1 3 25 _ (by kernel_rfl) rfl rfl
            clear pre
            simp only [Array.getD_eq_getD_getElem?, List.getElem?_toArray, List.getElem?_cons_zero, List.getElem?_cons_succ, Option.getD_some] at e24 e25
            have hkc : k ≤ mc := by have hpc : h.parts.length ≤ mc := hp.pc; omega
            go_simp
            exact hK _ hJ
          refine Vals9.Steps.run rfl ?_ ?_
          · intro a W σ hJ pre K hK
            have e22 := pre.1 0 22 _ (by kernel_rfl) rfl rfl
            have e26 := pre.1 4 26 _ (by kernel_rfl) rfl rfl
            clear pre
            simp only [Array.getD_eq_getD_getElem?, List.getElem?_toArray, List.getElem?_cons_zero, List.getElem?_cons_succ, Option.getD_some] at e22 e26
            obtain ⟨q0, q1, q2⟩ := hJ
            have hC := partFault_c (some ad) (h.parts.take k) mc h.parts[k] W (by rw [List.length_take]; omega) ((hp.ps.keep q0.1).take k) (hp.nm _ (List.getElem_mem hlt))
            rw [hlk] at hC
            go_simp
            refine hC.mono ?_
            rintro e w' ⟨rfl, hb'⟩
            exact hK _ ⟨q0.keep hb', q1.keep hb', q2.keep hb'⟩
          refine Vals9.Steps.run rfl ?_ ?_
          · intro a W σ hJ pre K hK
            have e27 := pre.1 5 27 _ (by kernel_rfl) rfl rfl
            clear pre
            simp only [Array.getD_eq_getD_getElem?, List.getElem?_toArray, List.getElem?_cons_zero, List.getElem?_cons_succ, Option.getD_some] at e27
            go_simp
            exact hK _ hJ
          exact Vals9.Steps.nil
        case hfin =>
          rintro X σ ⟨hsn3, HX, -⟩
          have HX2 := Lib.hid HX
          simp only [Vals9.All]
          simp only [Vals.putAll, List.setIfInBounds_toArray, List.set_cons_zero, List.set_cons_succ]
          by_cases hz : partE h.parts[k] (h.parts.take k) = 0
          · rw [hz]
            have HZ : Hid (partAt h.parts k = 0) := by show _ = _; simp only [partAt, List.getElem?_eq_getElem hlt]; exact hz
            clear hz HX
            go_wp2_with fail
            go_roundw
            case rel =>
              refine ⟨k + 1, by omega, by go_num, hsn3, HX2, fun j hj => ?_⟩
              rcases Nat.lt_or_ge j k with h1 | h1
              · exact H0.out j h1
              · obtain rfl : j = k := by omega
                exact HZ.out
            case measure => simp [intOf]; omega
          · have HZ : Hid (chk h = (2, (k : Int), partE h.parts[k] (h.parts.take k))) := by
              have e : partAt h.parts k = partE h.parts[k] (h.parts.take k) := by simp only [partAt, List.getElem?_eq_getElem hlt]
              show _ = _
              simp [chk, H1.out, ff_at (f := partAt h.parts) hlt H0.out (by rw [e]; exact hz), e, hz]
            have hz' : (partE h.parts[k] (h.parts.take k) != 0) = true := by simpa using hz
            clear hz HX
            go_wp2_with fail
            go_ret3
            exact ⟨by rw [HZ.out]; rfl, hsn3.1⟩
      · obtain rfl : k = h.parts.length := by omega
        have HZ : Hid (chk h = (0, 0, 0)) := by show _ = _; simp [chk, H1.out, ff_ok (f := partAt h.parts) H0.out]
        go_wp2_with fail
        go_ret3
        exact ⟨by rw [HZ.out]; rfl, hsn.1⟩
  · have HV : Hid (chk h = (1, 0, groundE h)) := by show _ = _; simp [chk, h1]
    have h1' : (groundE h != 0) = true := by simpa using h1
    clear h1
    go_wp2_with fail
    go_ret3
    exact ⟨by rw [HV.out]; rfl, hs1.1⟩
end Td
end Go.Proofs.Ythdcklonamgpiaa
