import Derived.Test.YthdcklonamgpiaaRefs0
/- The reference's Check, and whether a hull is valid. -/
namespace Go.Proofs.Ythdcklonamgpiaa
open Go.RowKit
namespace Td
set_option linter.unusedSimpArgs false
set_option linter.unusedVariables false
attribute [local go_sem] Oper.semAt_some
theorem rfits_is (u : Value) (w : World) : Vals5.fits (.is u) u w := rfl
/-- the error of a part's numbers. -/
def numE (x : Prt) : Int := if okNum x then (if tn [(x.w0, x.w1), (x.l0, x.l1)] then 2 else 0) else 7
def rp (p k : Bool) (A B : Int) : Int := if !p || !k || A == 7 || B == 7 then 7 else if A != 0 then A else B
theorem spr_three {lo hi : Int} {l : List (Int × Int)} {A : Int} (h : spr lo hi l = A) : A = 0 ∨ A = 2 ∨ A = 7 := by
  subst h
  unfold spr
  split
  · split
    · exact .inr (.inl rfl)
    · exact .inl rfl
  · exact .inr (.inr rfl)
theorem numE_eq (x : Prt) : numE x = rp (wi 0 5000 x.pt) (wi 0 1000 x.kl) (spr 0 1000000 [(x.w0, x.w1)]) (spr 0 5000 [(x.l0, x.l1)]) := by
  unfold numE rp spr okNum
  have e : tn [(x.w0, x.w1), (x.l0, x.l1)] = (tn [(x.w0, x.w1)] || tn [(x.l0, x.l1)]) := by simp [tn]
  rw [e]
  generalize wi 0 5000 x.pt = a
  generalize wi 0 1000 x.kl = b
  generalize sw 0 1000000 [(x.w0, x.w1)] = c
  generalize sw 0 5000 [(x.l0, x.l1)] = d
  generalize tn [(x.w0, x.w1)] = f
  generalize tn [(x.l0, x.l1)] = g
  cases a <;> cases b <;> cases c <;> cases d <;> cases f <;> cases g <;> rfl
theorem part_fresh {l : List Prt} {k : Nat} (hk : k < l.length) (h : freshE l[k].name ((l.take k).map Prt.name) ≠ 0) : partAt l k = freshE l[k].name ((l.take k).map Prt.name) := by
  simp only [partAt, List.getElem?_eq_getElem hk]
  unfold freshE at h ⊢
  unfold partE
  rw [List.any_map] at h ⊢
  by_cases h1 : isName l[k].name = true
  · rw [if_pos h1] at h ⊢
    rw [if_pos h1]
    by_cases h2 : ((l.take k).any (fun u => eqS u.name l[k].name)) = true
    · rw [if_pos h2, if_pos (by simpa [Function.comp_def] using h2)]
    · rw [if_neg (by simpa [Function.comp_def] using h2)] at h
      exact absurd rfl h
  · rw [if_neg h1, if_neg h1]
theorem part_num {l : List Prt} {k : Nat} (hk : k < l.length) (h : freshE l[k].name ((l.take k).map Prt.name) = 0) : partAt l k = numE l[k] := by
  simp only [partAt, List.getElem?_eq_getElem hk]
  unfold freshE at h
  unfold partE
  rw [List.any_map] at h
  by_cases h1 : isName l[k].name = true
  · rw [if_pos h1] at h
    rw [if_pos h1]
    by_cases h2 : ((l.take k).any (fun u => eqS u.name l[k].name)) = true
    · rw [if_pos (by simpa [Function.comp_def] using h2)] at h
      cases h
    · rw [if_neg h2]
      rfl
  · rw [if_neg h1] at h
    cases h
theorem pnames_next {l : List Prt} {k : Nat} (hk : k < l.length) : (l.take (k + 1)).map Prt.name = (l.take k).map Prt.name ++ [l[k].name] := by
  rw [List.take_succ_eq_append_getElem hk, List.map_append]
  rfl
theorem chk_at {h : Hul} {k : Nat} {E : Int} (hg : groundE h = 0) (hk : k < h.parts.length) (h0 : ∀ j, j < k → partAt h.parts j = 0) (hE : partAt h.parts k = E) (hn : E ≠ 0) : chk h = (2, (k : Int), E) := by
  subst hE
  simp [chk, hg, ff_at (f := partAt h.parts) hk h0 hn, hn]
set_option maxRecDepth 100000 in
set_option maxHeartbeats 4000000 in
theorem rpart_c (x : Prt) (w : World) : Calls Try.prog 48 #[.agg (pV x)] w fun e w' => e = .returned (.int .i64 (numE x)) ∧ Below w.heap.size w w' := by
  have HE := Lib.hid (numE_eq x)
  have hs0 := (Since.refl w).alloc (.cells (pV x) 74)
  have HB0 := Lib.hid (Blk.new w 74 (pV x))
  obtain ⟨A, hA⟩ : ∃ A, spr 0 1000000 [(x.w0, x.w1)] = A := ⟨_, rfl⟩
  obtain ⟨B, hB⟩ : ∃ B, spr 0 5000 [(x.l0, x.l1)] = B := ⟨_, rfl⟩
  rw [hA, hB] at HE
  have HA := Lib.hid hA
  have HC := Lib.hid hB
  clear hA hB
  go_enter Try.func48, Try.ntmps48
  go_wp2_with fail
  refine Vals6.regionAll (fun X => Since w X ∧ Blk X w.heap.size 74 (pV x)) [some 5, some 6, some 7, some 8, some 9, some 10, some 3] [.is ?_, .is ?_, .is ?_, .is ?_, .is ?_, .is ?_, .is ?_] (by kernel_rfl) rfl rfl (by kernel_rfl) (by kernel_rfl) (by kernel_rfl) (by kernel_rfl) (by kernel_rfl) (by kernel_rfl) rfl (⟨hs0.drew, HB0.out.drew⟩) ?hsteps ?hend
  case hsteps =>
    refine Vals5.Steps.run rfl (Vals5.Stable.is _) ?_ ?_
    · intro a W hS pre old K hK
      have e1 := old 1 _ (by kernel_rfl) rfl
      clear pre old
      simp only [Vals5.fits, Array.getD_eq_getD_getElem?, List.getElem?_toArray, List.getElem?_cons_zero, List.getElem?_cons_succ, Option.getD_some] at e1
      go_simp
      refine hK _ _ hS (Below.refl _ _) ?_
      exact rfits_is _ _
    refine Vals5.Steps.run rfl (Vals5.Stable.is _) ?_ ?_
    · intro a W hS pre old K hK
      have e5 := pre 0 5 _ (by kernel_rfl) rfl rfl
      clear pre old
      simp only [Vals5.fits, Array.getD_eq_getD_getElem?, List.getElem?_toArray, List.getElem?_cons_zero, List.getElem?_cons_succ, Option.getD_some] at e5
      have hS9 := hS
      obtain ⟨_, q2⟩ := hS9
      obtain ⟨c0, c1, c2, c3, c4, c5, c6⟩ := q2.part
      go_simp
      refine hK _ _ hS (Below.refl _ _) ?_
      exact rfits_is _ _
    refine Vals5.Steps.run rfl (Vals5.Stable.is _) ?_ ?_
    · intro a W hS pre old K hK
      have e6 := pre 1 6 _ (by kernel_rfl) rfl rfl
      clear pre old
      simp only [Vals5.fits, Array.getD_eq_getD_getElem?, List.getElem?_toArray, List.getElem?_cons_zero, List.getElem?_cons_succ, Option.getD_some] at e6
      have hC := range_c (x.w0, x.w1) 0 1000000 W
      go_simp
      refine hC.mono ?_
      rintro e w' ⟨rfl, hb'⟩
      rw [HA.out]
      obtain ⟨q1, q2⟩ := hS
      refine hK _ _ ⟨q1.keep hb', q2.keep hb'⟩ hb' ?_
      exact rfits_is _ _
    refine Vals5.Steps.run rfl (Vals5.Stable.is _) ?_ ?_
    · intro a W hS pre old K hK
      have e1 := old 1 _ (by kernel_rfl) rfl
      clear pre old
      simp only [Vals5.fits, Array.getD_eq_getD_getElem?, List.getElem?_toArray, List.getElem?_cons_zero, List.getElem?_cons_succ, Option.getD_some] at e1
      go_simp
      refine hK _ _ hS (Below.refl _ _) ?_
      exact rfits_is _ _
    refine Vals5.Steps.run rfl (Vals5.Stable.is _) ?_ ?_
    · intro a W hS pre old K hK
      have e8 := pre 3 8 _ (by kernel_rfl) rfl rfl
      clear pre old
      simp only [Vals5.fits, Array.getD_eq_getD_getElem?, List.getElem?_toArray, List.getElem?_cons_zero, List.getElem?_cons_succ, Option.getD_some] at e8
      have hS9 := hS
      obtain ⟨_, q2⟩ := hS9
      obtain ⟨c0, c1, c2, c3, c4, c5, c6⟩ := q2.part
      go_simp
      refine hK _ _ hS (Below.refl _ _) ?_
      exact rfits_is _ _
    refine Vals5.Steps.run rfl (Vals5.Stable.is _) ?_ ?_
    · intro a W hS pre old K hK
      have e9 := pre 4 9 _ (by kernel_rfl) rfl rfl
      clear pre old
      simp only [Vals5.fits, Array.getD_eq_getD_getElem?, List.getElem?_toArray, List.getElem?_cons_zero, List.getElem?_cons_succ, Option.getD_some] at e9
      have hC := range_c (x.l0, x.l1) 0 5000 W
      go_simp
      refine hC.mono ?_
      rintro e w' ⟨rfl, hb'⟩
      rw [HC.out]
      obtain ⟨q1, q2⟩ := hS
      refine hK _ _ ⟨q1.keep hb', q2.keep hb'⟩ hb' ?_
      exact rfits_is _ _
    refine Vals5.Steps.run rfl (Vals5.Stable.is _) ?_ ?_
    · intro a W hS pre old K hK
      have e7 := pre 2 7 _ (by kernel_rfl) rfl rfl
      clear pre old
      simp only [Vals5.fits, Array.getD_eq_getD_getElem?, List.getElem?_toArray, List.getElem?_cons_zero, List.getElem?_cons_succ, Option.getD_some] at e7
      go_simp
      refine hK _ _ hS (Below.refl _ _) ?_
      exact rfits_is _ _
    exact Vals5.Steps.nil
  case hend =>
    rintro X ⟨hs, hB⟩
    simp only [Vals5.All]
    simp only [List.getLast_cons_cons, List.getLast_singleton]
    simp only [Vals.putAll, List.setIfInBounds_toArray, List.set_cons_zero, List.set_cons_succ]
    intro K hK
    go_simp
    refine hK _ _ ?_
    clear hK K
    obtain ⟨c0, c1, c2, c3, c4, c5, c6⟩ := hB.part
    have hA3 := Lib.hid (spr_three HA.out)
    have hB3 := Lib.hid (spr_three HC.out)
    clear HA HC HB0 hs0 c2 c3 c5 c6
    go_wp2_with fail
    refine (rin_c _ _ _ _).mono ?_
    rintro e w2 ⟨rfl, rfl⟩
    rcases Bool.eq_false_or_eq_true (wi 0 5000 x.pt) with h1 | h1
    · rw [h1] at HE ⊢
      clear h1
      go_wp2_with fail
      refine (rin_c _ _ _ _).mono ?_
      rintro e w2 ⟨rfl, rfl⟩
      rcases Bool.eq_false_or_eq_true (wi 0 1000 x.kl) with h2 | h2
      · rw [h2] at HE ⊢
        clear h2
        rcases hA3.out with h3 | h3 | h3
        · rcases hB3.out with h4 | h4 | h4
          all_goals
            subst h3 h4
            go_wp2_with fail
            go_ret
            exact ⟨ret_int HE.out.symm, hs.1⟩
        · rcases hB3.out with h4 | h4 | h4
          all_goals
            subst h3 h4
            go_wp2_with fail
            go_ret
            exact ⟨ret_int HE.out.symm, hs.1⟩
        · subst h3
          go_wp2_with fail
          go_ret
          exact ⟨ret_int HE.out.symm, hs.1⟩
      · rw [h2] at HE ⊢
        clear h2
        go_wp2_with fail
        go_ret
        exact ⟨ret_int HE.out.symm, hs.1⟩
    · rw [h1] at HE ⊢
      clear h1
      go_wp2_with fail
      go_ret
      exact ⟨ret_int HE.out.symm, hs.1⟩
set_option maxRecDepth 100000 in
set_option maxHeartbeats 8000000 in
theorem rcheck_c (h : Hul) (m : Sl) (w : World) (hp : HAt w m h) :
    Calls Try.prog 16 #[.agg (hV h m)] w fun e w' => e = .returned (.tuple #[.int .i64 (chk h).1, .int .i64 (chk h).2.1, .int .i64 (chk h).2.2]) ∧ Below w.heap.size w w' := by
  have hs0 := (Since.refl w).alloc (.cells (hV h m) 24)
  have HB0 := Lib.hid (Blk.new w 24 (hV h m))
  have hlM : h.parts.length ≤ 9223372036854775807 := Nat.le_trans hp.pc hp.cM
  obtain ⟨c0, c1, c2⟩ := HB0.out.hull
  go_enter Try.func16, Try.ntmps16
  go_wp2_with fail
  refine (rin_c _ _ _ _).mono ?_
  rintro e w1 ⟨rfl, rfl⟩
  rcases Bool.eq_false_or_eq_true (wi 1 10 (h.parts.length : Int)) with h1 | h1
  · rw [h1]
    have H1 := Lib.hid h1
    have h10 : h.parts.length ≤ 10 := by have := (wi_iff.1 h1).2; omega
    clear h1
    go_wp2_with fail
    refine (rin_c _ _ _ _).mono ?_
    rintro e w1 ⟨rfl, rfl⟩
    rcases Bool.eq_false_or_eq_true (wi 0 5000 h.aft) with h2 | h2
    · rw [h2]
      have H2 := Lib.hid h2
      clear h2
      go_wp2_with fail
      refine (rin_c _ _ _ _).mono ?_
      rintro e w1 ⟨rfl, rfl⟩
      rcases Bool.eq_false_or_eq_true (wi 0 5000 h.fore) with h3 | h3
      · rw [h3]
        have H3 := Lib.hid h3
        clear h3
        by_cases h4 : h.fore ≤ h.aft
        · have HV : Hid (chk h = (1, 0, 2)) := by
            show _ = _
            have e : groundE h = 2 := by simp [groundE, H1.out, H2.out, H3.out, h4]
            simp [chk, e]
          go_wp2_with fail
          go_ret3
          exact ⟨by rw [HV.out]; rfl, hs0.1⟩
        · have HG : Hid (groundE h = 0) := by show _ = _; simp [groundE, H1.out, H2.out, H3.out, h4]
          go_wp2_with fail
          clear c0 c1 c2 H1 H2 H3 h4
          have hHm : ∀ x ∈ h.parts, x.name.size ≤ maxLen := hp.nm
          have HNM := Lib.hid hHm
          clear hHm
          obtain ⟨W0, hW0⟩ : ∃ W0, w.alloc (.cells (hV h m) 24) = W0 := ⟨_, rfl⟩
          rw [hW0] at hs0 HB0 ⊢
          clear hW0
          go_loopw [5, 6, 7] (fun nv i _ wx => ∃ k : Nat, k ≤ h.parts.length ∧ i = .int .i64 k ∧ Since w wx ∧ Hid (Blk wx w.heap.size 24 (hV h m)) ∧ Hid (wx.ownsRow (w.heap.size + 1) 9 1 nv ((h.parts.take k).map Prt.name).length (((h.parts.take k).map Prt.name).map Value.string)) ∧ Hid (∀ j, j < k → partAt h.parts j = 0)) (fun _ i _ _ => h.parts.length - (intOf i).toNat)
          case atStart => exact ⟨0, Nat.zero_le _, rfl, hs0, HB0, ⟨rfl, .inl ⟨rfl, rfl⟩⟩, fun j h => absurd h (by omega)⟩
          case round =>
            clear HB0 hs0
            obtain ⟨k, hk, rfl, hsk, HBk, HOk, HTk⟩ := hrel
            by_cases hlt : k < h.parts.length
            · obtain ⟨ad, hA, d0, d1, d2, d3, d4, d5, d6⟩ := hp.ps.get hlt
              have hnm := HNM.out _ (List.getElem_mem hlt)
              have HNX := Lib.hid (pnames_next hlt)
              obtain ⟨NA, Nc, hnv, hst⟩ := own_st HOk.out
              have hki : (k : Int) < (h.parts.length : Int) := by omega
              have HF1 : Hid (freshE h.parts[k].name ((h.parts.take k).map Prt.name) ≠ 0 → partAt h.parts k = freshE h.parts[k].name ((h.parts.take k).map Prt.name)) := fun h => part_fresh hlt h
              have HF2 : Hid (freshE h.parts[k].name ((h.parts.take k).map Prt.name) = 0 → partAt h.parts k = numE h.parts[k]) := fun h => part_num hlt h
              obtain ⟨L, hL⟩ : ∃ L, (h.parts.take k).map Prt.name = L := ⟨_, rfl⟩
              have hLl : L.length ≤ 1000 := by rw [← hL]; simp; omega
              rw [hL] at HOk hnv hst HF1 HF2 HNX
              subst hnv
              obtain ⟨mA, mc⟩ := m
              replace hA : mA = some ad := hA
              subst hA
              have k0 := keep_cell hsk.1 d0
              have HD0 := Lib.hid d0
              have HD1 := Lib.hid d1
              have HD2 := Lib.hid d2
              have HD3 := Lib.hid d3
              have HD4 := Lib.hid d4
              have HD5 := Lib.hid d5
              have HD6 := Lib.hid d6
              obtain ⟨c0, c1, c2⟩ := HBk.out.hull
              clear d0 d1 d2 d3 d4 d5 d6 hL c1 c2
              go_wp2_with fail
              refine (fresh_c NA L Nc h.parts[k].name _ hLl hnm hst).mono ?_
              rintro e w2 ⟨rfl, hb2⟩
              obtain ⟨E, hE⟩ : ∃ E, freshE h.parts[k].name L = E := ⟨_, rfl⟩
              rw [hE] at HF1 HF2 ⊢
              have hs2 := hsk.keep hb2
              have HB2 := Lib.hid (HBk.out.keep hb2)
              have HO2 := Lib.hid (own_keep HOk.out hb2)
              have k2 := keep_cell hb2 k0
              clear k0 c0 hst hE HOk HBk
              obtain ⟨c0, c1, c2⟩ := HB2.out.hull
              clear c1 c2
              have hq3 : Below w2.heap.size w2 (w2.alloc (.cells #[.string h.parts[k].name] 9)) := (Below.refl _ _).alloc (Nat.le_refl _) _
              have HO3 := Lib.hid (own_keep HO2.out hq3)
              have HN3 := Lib.hid (Blk.new w2 9 #[.string h.parts[k].name])
              have hzb := HB2.out.lt
              have HLl := Lib.hid hLl
              clear hLl hnm
              go_wp2_with (at_builtin; refine wpList_append_str rfl (.tmp 43) (.tmp 50) rfl (w.heap.size + 1) w2.heap.size _ L h.parts[k].name (by go_simp) (by go_simp) HO3.out HN3.out HLl.out (by simp; omega) ?_)
              intro v3 w3 ho3 hg3
              have hlt3 := HO3.out.lt
              have HB4 := Lib.hid ((HB2.out.keep hq3).grown hg3 (fun h => by have := (hlt3 _ h.symm).1; omega))
              have hs4 : Since w w3 := ⟨(hs2.keep hq3).1.grown hg3 (hs2.keep hq3).2 (fun q h => by have := (hlt3 q h).1; omega), Nat.le_trans (hs2.keep hq3).2 hg3.size⟩
              have HO4 : Hid (w3.ownsRow (w.heap.size + 1) 9 1 v3 ((h.parts.take (k + 1)).map Prt.name).length (((h.parts.take (k + 1)).map Prt.name).map Value.string)) := by
                show World.ownsRow _ _ _ _ _ _ _
                rw [HNX.out]
                rw [List.length_append, List.map_append]
                exact ho3
              clear c0 k2 ho3 hg3 hlt3 HO3 HN3 hq3
              by_cases h5 : E = 0
              · have HT := Lib.hid (HF2.out h5)
                subst h5
                have k0 := keep_cell hs4.1 HD0.out
                have k1 := keep_cell hs4.1 HD1.out
                have k2 := keep_cell hs4.1 HD2.out
                have k3 := keep_cell hs4.1 HD3.out
                have k4 := keep_cell hs4.1 HD4.out
                have k5 := keep_cell hs4.1 HD5.out
                have k6 := keep_cell hs4.1 HD6.out
                obtain ⟨c0, c1, c2⟩ := HB4.out.hull
                clear c1 c2
                go_wp2_with fail
                refine (rpart_c h.parts[k] _).mono ?_
                rintro e w5 ⟨rfl, hb5⟩
                have hs5 := hs4.keep hb5
                have HB5 := Lib.hid (HB4.out.keep hb5)
                have HO5 := Lib.hid (own_keep HO4.out hb5)
                clear k0 k1 k2 k3 k4 k5 k6 c0 HB4 HO4 hb5
                by_cases h6 : numE h.parts[k] = 0
                · have HZ : Hid (partAt h.parts k = 0) := by show _ = _; rw [HT.out]; exact h6
                  rw [h6]
                  clear h6
                  go_wp2_with fail
                  go_roundw
                  case rel =>
                    refine ⟨k + 1, by omega, by go_num, hs5, HB5, HO5, fun j h => ?_⟩
                    rcases Nat.lt_or_ge j k with h7 | h7
                    · exact HTk.out j h7
                    · obtain rfl : j = k := by omega
                      exact HZ.out
                  case measure => simp [intOf]; omega
                · have HV := Lib.hid (chk_at HG.out hlt HTk.out HT.out h6)
                  have h6' : (numE h.parts[k] != 0) = true := by simpa using h6
                  clear h6
                  go_wp2_with fail
                  go_ret3
                  exact ⟨by rw [HV.out]; rfl, hs5.1⟩
              · have HV := Lib.hid (chk_at HG.out hlt HTk.out (HF1.out h5) h5)
                have h5' : ((E : Int) == 0) = false := by simpa using h5
                have h5n : ((E : Int) != 0) = true := by simpa using h5
                clear h5
                go_wp2_with fail
                go_ret3
                exact ⟨by rw [HV.out]; rfl, hs4.1⟩
            · obtain rfl : k = h.parts.length := by omega
              have HZ : Hid (chk h = (0, 0, 0)) := by show _ = _; simp [chk, HG.out, ff_ok (f := partAt h.parts) HTk.out]
              obtain ⟨c0, c1, c2⟩ := HBk.out.hull
              go_wp2_with fail
              go_ret3
              exact ⟨by rw [HZ.out]; rfl, hsk.1⟩
      · have HV : Hid (chk h = (1, 0, 7)) := by
          show _ = _
          have e : groundE h = 7 := by simp [groundE, H1.out, H2.out, h3]
          simp [chk, e]
        rw [h3]
        clear h3
        go_wp2_with fail
        go_ret3
        exact ⟨by rw [HV.out]; rfl, hs0.1⟩
    · have HV : Hid (chk h = (1, 0, 7)) := by
        show _ = _
        have e : groundE h = 7 := by simp [groundE, H1.out, h2]
        simp [chk, e]
      rw [h2]
      clear h2
      go_wp2_with fail
      go_ret3
      exact ⟨by rw [HV.out]; rfl, hs0.1⟩
  · have HV : Hid (chk h = (1, 0, 3)) := by
      show _ = _
      have e : groundE h = 3 := by simp [groundE, h1]
      simp [chk, e]
    rw [h1]
    clear h1
    go_wp2_with fail
    go_ret3
    exact ⟨by rw [HV.out]; rfl, hs0.1⟩
set_option maxRecDepth 100000 in
set_option maxHeartbeats 4000000 in
/-- whether a hull is valid, as the law asks. -/
theorem valid_c (h : Hul) (m : Sl) (w : World) (hp : HAt w m h) :
    Calls Try.prog 35 #[.agg (hV h m)] w fun e w' => e = .returned (.bool (decide ((chk h).2.2 = 0))) ∧ Below w.heap.size w w' := by
  have hs0 := (Since.refl w).alloc (.cells (hV h m) 24)
  have HB0 := Lib.hid (Blk.new w 24 (hV h m))
  have hp1 := hp.keep hs0.1
  obtain ⟨c0, c1, c2⟩ := HB0.out.hull
  go_enter Try.func35, Try.ntmps35
  go_wp2_with fail
  refine (rcheck_c h m _ hp1).mono ?_
  rintro e w1 ⟨rfl, hb1⟩
  have hs1 := hs0.keep hb1
  clear c0 c1 c2
  by_cases h1 : (chk h).2.2 = 0
  · have HV : Hid (true = decide ((chk h).2.2 = 0)) := (decide_eq_true h1).symm
    rw [h1]
    clear h1
    go_wp2_with fail
    go_ret
    exact ⟨ret_bool HV.out, hs1.1⟩
  · have HV : Hid (false = decide ((chk h).2.2 = 0)) := (decide_eq_false h1).symm
    have h1' : ((chk h).2.2 == 0) = false := by simpa using h1
    clear h1
    go_wp2_with fail
    go_ret
    exact ⟨ret_bool HV.out, hs1.1⟩
end Td
end Go.Proofs.Ythdcklonamgpiaa
