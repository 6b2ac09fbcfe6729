import Derived.Test.YtccacinnelmnpaaOrdA
import Derived.Test.YtccacinnelmnpaaLrd
import Derived.Test.YtccacinnelmnpaaVals10
/- GasOrder: in any order, and told twice, readings lead to the same. -/
namespace Go.Proofs.Ytccacinnelmnpaa
open Go.RowKit
namespace Td
set_option linter.unusedSimpArgs false
set_option linter.unusedVariables false
attribute [local go_sem] Oper.semAt_some
set_option maxRecDepth 100000 in
set_option maxHeartbeats 8000000 in
theorem gasOrder_c (s : Spc) (m : Sl) (A : Option Addr) (l : List Rd) (c : Nat) (P : Option Addr) (X : List Int) (pc : Nat) (MA : Option Addr) (Mn : List Int) (mc : Nat) (WA : Option Addr) (Ws : List Int) (wc nw : Nat) (w : World) (hsa : SAt w m s) (hrd : RdAt w A l) (hc : l.length ≤ c) (hcM : c ≤ 9223372036854775807)
    (hu : U16At w P X) (hoX : U16Ok X) (hnw : nw ≤ 255) :
    Calls Try.prog 11 #[.agg (sV s m), .slice A l.length c, .agg (pV P X pc MA Mn mc WA Ws wc nw)] w fun e w' => e = .returned (.bool true) ∧ Below w.heap.size w w' := by
  have hS := Sp2.start w s m 52 (pV P X pc MA Mn mc WA Ws wc nw)
  obtain ⟨c0, c1, c2, c3, c4, c5, c6, c7, c8⟩ := hS.sp.bk.space
  go_enter Try.func11, Try.ntmps11
  go_wp2_with fail
  refine (readings_c s m A l c _ (hsa.keep hS.sp.sn.1) (hrd.keep hS.sp.sn.1) (by omega)).mono ?_
  rintro e w1 ⟨rfl, hb1⟩
  have hS1 := hS.keep hb1
  clear c0 c1 c2 c3 c4 c5 c6 c7 c8 hS hb1
  by_cases hr0 : rdgE s l = 0
  · obtain ⟨hck, hrs⟩ := rdg_ok hr0
    have hs := chk_ok hck
    obtain ⟨h12, hro⟩ := rdsE_ok.1 hrs
    rw [hr0]
    obtain ⟨mi, hmi⟩ : ∃ mi, nw % 61 = mi := ⟨_, rfl⟩
    have hmi2 : mi < 61 := by rw [← hmi]; exact Nat.mod_lt _ (by omega)
    have hem : ((nw : Int) % (61 : Int)) = (mi : Int) := by omega
    have htm : ((nw : Int).tmod (61 : Int) = (mi : Int)) := by rw [Int.tmod_eq_emod_of_nonneg (by omega)]; exact hem
    have hw8 : IntKind.i64.wrap (nw : Int) = (nw : Int) := IntWalk.i64_in _ (by omega)
    have hwi : wi 0 60 (mi : Int) = true := wi_iff.2 (by omega)
    have y3 := hS1.bx.cell 3
    simp only [List.getElem?_toArray, List.getElem?_cons_zero, List.getElem?_cons_succ] at y3
    have HRO := Lib.hid hro
    have HCK := Lib.hid hck
    have HRS := Lib.hid hrs
    have HS_ := Lib.hid hs
    have HWI := Lib.hid hwi
    clear hr0 hmi hro hck hrs hs hwi
    go_wp2_with fail
    clear hem htm hw8 y3
    go_loopw [8, 9, 10] (fun ov i _ wr => ∃ k : Nat, k ≤ l.length ∧ i = .int .i64 k ∧ Sp2 w s m 52 (pV P X pc MA Mn mc WA Ws wc nw) wr ∧ Hid (Ow wr (w.heap.size + 2) ov (otk l X k))) (fun _ i _ _ => l.length - (intOf i).toNat)
    case atStart => exact ⟨0, Nat.zero_le _, rfl, hS1, ⟨rfl, .inl ⟨rfl, rfl⟩⟩⟩
    case round =>
      obtain ⟨k, hk, rfl, hS, HO⟩ := hrel
      by_cases hkl : k < l.length
      · have hki : (k : Int) < (l.length : Int) := by omega
        have y0 := hS.bx.cell 0
        simp only [List.getElem?_toArray, List.getElem?_cons_zero, List.getElem?_cons_succ] at y0
        obtain ⟨tv, htv⟩ : ∃ tv : Nat, turnV X k = (tv : Int) := ⟨(turnV X k).toNat, by have := turnV_bd hoX k; omega⟩
        have htb := turnV_bd hoX k
        obtain ⟨at_0, hat⟩ : ∃ a, tv % (k + 1) = a := ⟨_, rfl⟩
        have hatk : at_0 ≤ k := by rw [← hat]; have := Nat.mod_lt tv (show 0 < k + 1 by omega); omega
        have HNX : Hid (otk l X (k + 1) = (otk l X k).take at_0 ++ [l[k]] ++ (otk l X k).drop at_0) := by
          show _ = _
          rw [otk_next hkl, htv]
          simp only [Int.toNat_natCast, hat]
        have hol := otk_len l X k
        obtain ⟨ot, hot⟩ : ∃ ot, otk l X k = ot := ⟨_, rfl⟩
        rw [hot] at HNX HO hol
        have hT := turn_c P X pc k wr (by omega) (hu.keep hS.sp.sn.1) hoX
        rw [htv] at hT htb
        have hw9 : IntKind.i64.wrap ((k : Int) + 1) = (k : Int) + 1 := IntWalk.i64_in _ (by omega)
        have htm : (tv : Int).tmod ((k : Int) + 1) = (at_0 : Int) := by rw [Int.tmod_eq_emod_of_nonneg (by omega), ← hat]; push_cast; rfl
        have hem : (tv : Int) % ((k : Int) + 1) = (at_0 : Int) := by rw [← hat]; push_cast; rfl
        have hne : ((k : Int) + 1 == 0) = false := beq_eq_false_iff_ne.2 (by omega)
        have hne2 : ¬ (k : Int) + 1 = 0 := by omega
        have hX0 := hS.lt
        clear hat hot
        go_wp2_with fail
        refine hT.mono ?_
        rintro e w9 ⟨rfl, rfl⟩
        go_wp2_with fail
        clear hT hw9 htm hem hne hne2 y0 htb
        obtain ⟨OA, oc, hov, hrO, hoc, _⟩ := own_rd2 HO.out
        subst hov
        obtain ⟨ad, hA, q0, q1, q2⟩ := hrd.get hkl
        subst hA
        obtain ⟨z, hz⟩ : ∃ z, l[k] = z := ⟨_, rfl⟩
        rw [hz] at q0 q1 q2 HNX
        have HZ0 := Lib.hid (keep_cell hS.sp.sn.1 q0)
        have HZ1 := Lib.hid (keep_cell hS.sp.sn.1 q1)
        have HZ2 := Lib.hid (keep_cell hS.sp.sn.1 q2)
        have HKI := Lib.hid hki
        have HAT : Hid (at_0 ≤ ot.length) := by show _ ≤ _; omega
        have HAC : Hid (at_0 ≤ oc) := by show _ ≤ _; omega
        have HOT := Lib.hid hrO
        have HOL : Hid (ot.length ≤ 12) := by show _ ≤ _; omega
        obtain ⟨OD, hOD⟩ : ∃ OD, (if oc = at_0 then OA else OA.map (fun a => a.add (at_0 * 3))) = OD := ⟨_, rfl⟩
        have HODE := Lib.hid hOD
        have HOD : Hid (RdAt wr OD (ot.drop at_0)) := by
          show RdAt _ _ _
          rw [← hOD]
          split
          · exact RdAt.none_drop (by omega)
          · exact hrO.drop _
        clear q0 q1 q2 hz hOD hrO hki
        refine Vals10.region (fun σ Z => Sp2 w s m 52 (pV P X pc MA Mn mc WA Ws wc nw) Z ∧ Lin wr (ordL ot z at_0) ordC σ Z) [some 45, some 46, some 47, some 48, some 49, some 50, some 51, some 52, some 53, some 54, some 55, some 56, some 57, some 58, some 59, some 8] [.any, .is ?_, .is ?_, .is (.slice OA at_0 oc), .any, .is ?_, .is ?_, .is ?_, .is ?_, .any, .any, .is ?_, .is ?_, .is (.slice OD (ot.length - at_0) (oc - at_0)), .any, .any] (by kernel_rfl) (by kernel_rfl) (by kernel_rfl) (by kernel_rfl) (by kernel_rfl) (by kernel_rfl) (⟨hS.drew, Lin.start wr _ _⟩) ?hsteps ?hfin
        case hsteps =>
          refine Vals10.Steps.mark rfl ?_ ?_
          · intro a W σ hJ hn pre K hK
            go_simp
            exact hK _ _ ⟨hJ.1.alloc _, hJ.2.lay (k := 0) (L := []) hn (by decide) rfl (fun i L h => ordC_0 i) (by simp)⟩
          refine Vals10.Steps.run rfl ?_ ?_
          · intro a W σ hJ pre K hK
            have e8 := pre.2.2 8 _ (by kernel_rfl) rfl
            clear pre
            simp only [Array.getD_eq_getD_getElem?, List.getElem?_toArray, List.getElem?_cons_zero, List.getElem?_cons_succ, Option.getD_some] at e8
            go_simp
            exact hK _ hJ
          refine Vals10.Steps.run rfl ?_ ?_
          · intro a W σ hJ pre K hK
            have e10 := pre.2.2 10 _ (by kernel_rfl) rfl
            clear pre
            simp only [Array.getD_eq_getD_getElem?, List.getElem?_toArray, List.getElem?_cons_zero, List.getElem?_cons_succ, Option.getD_some] at e10
            go_simp
            exact hK _ hJ
          refine Vals10.Steps.run rfl ?_ ?_
          · intro a W σ hJ pre K hK
            have e46 := pre.1 1 46 _ (by kernel_rfl) rfl rfl
            have e47 := pre.1 2 47 _ (by kernel_rfl) rfl rfl
            clear pre
            simp only [Array.getD_eq_getD_getElem?, List.getElem?_toArray, List.getElem?_cons_zero, List.getElem?_cons_succ, Option.getD_some] at e46 e47
            refine wp_slice_hi (.tmp 46) (.tmp 47) rfl (A := OA) (n := ot.length) (c := oc) (k := at_0) (by go_simp) (by go_simp) HAC.out ?_
            exact hK _ hJ
          refine Vals10.Steps.mark rfl ?_ ?_
          · intro a W σ hJ hn pre K hK
            obtain ⟨v45, s45, e45⟩ := pre.2.1 0 (by kernel_rfl) rfl
            replace e45 : a.tmps.getD 45 undef = v45 := e45 45 rfl
            have e48 := pre.1 3 48 _ (by kernel_rfl) rfl rfl
            simp only [Array.getD_eq_getD_getElem?, List.getElem?_toArray, List.getElem?_cons_zero, List.getElem?_cons_succ, Option.getD_some] at e45 e48
            have ho := hJ.2.ow 0 [] _ rfl s45 hn
            have hw2 : ∀ i L, ordL ot z at_0 i = some L → ordC i = 4 → ∃ u, σ i = some u := fun i L h hc => by obtain rfl := ordC_4 hc; exact ⟨_, s45⟩
            refine wp_append_rds (.tmp 45) (.tmp 48) rfl (B := wr.heap.size) (l := []) (k := ot.take at_0) (A := OA) (c := oc) (by go_simp) (by rw [List.length_take_of_le HAT.out]; go_simp) ho ((HOT.out.keep hJ.2.sn.1).take _) (by have := HOL.out; simp; omega) hJ.2.sn.2 ?_
            intro v' w' ho2 hg hn2
            exact hK _ _ ⟨hJ.1.grown hg (fun q e => by have := (ho).lt q e; have := this.1; have := hX0; omega), hJ.2.onto (k := 4) (d := 0) (D := []) (L := ot.take at_0) hn (by decide) hw2 rfl rfl s45 rfl (by decide) ho2 hg hn2⟩
          refine Vals10.Steps.run rfl ?_ ?_
          · intro a W σ hJ pre K hK
            have e1 := pre.2.2 1 _ (by kernel_rfl) rfl
            clear pre
            simp only [Array.getD_eq_getD_getElem?, List.getElem?_toArray, List.getElem?_cons_zero, List.getElem?_cons_succ, Option.getD_some] at e1
            go_simp
            exact hK _ hJ
          refine Vals10.Steps.run rfl ?_ ?_
          · intro a W σ hJ pre K hK
            have e9 := pre.2.2 9 _ (by kernel_rfl) rfl
            clear pre
            simp only [Array.getD_eq_getD_getElem?, List.getElem?_toArray, List.getElem?_cons_zero, List.getElem?_cons_succ, Option.getD_some] at e9
            go_simp
            exact hK _ hJ
          refine Vals10.Steps.run rfl ?_ ?_
          · intro a W σ hJ pre K hK
            have e50 := pre.1 5 50 _ (by kernel_rfl) rfl rfl
            have e51 := pre.1 6 51 _ (by kernel_rfl) rfl rfl
            clear pre
            simp only [Array.getD_eq_getD_getElem?, List.getElem?_toArray, List.getElem?_cons_zero, List.getElem?_cons_succ, Option.getD_some] at e50 e51
            have hki := HKI.out
            go_simp
            exact hK _ hJ
          refine Vals10.Steps.run rfl ?_ ?_
          · intro a W σ hJ pre K hK
            have e52 := pre.1 7 52 _ (by kernel_rfl) rfl rfl
            clear pre
            simp only [Array.getD_eq_getD_getElem?, List.getElem?_toArray, List.getElem?_cons_zero, List.getElem?_cons_succ, Option.getD_some] at e52
            have hS9 := hJ
            have y0 := keep_cell hS9.2.sn.1 HZ0.out
            have y1 := keep_cell hS9.2.sn.1 HZ1.out
            have y2 := keep_cell hS9.2.sn.1 HZ2.out
            go_simp
            exact hK _ hJ
          refine Vals10.Steps.mark rfl ?_ ?_
          · intro a W σ hJ hn pre K hK
            have e53 := pre.1 8 53 _ (by kernel_rfl) rfl rfl
            simp only [Array.getD_eq_getD_getElem?, List.getElem?_toArray, List.getElem?_cons_zero, List.getElem?_cons_succ, Option.getD_some] at e53
            go_simp
            exact hK _ _ ⟨hJ.1.alloc _, hJ.2.lay (k := 9) (L := [z]) hn (by decide) rfl (fun i L h => ordC_9 i) (by simp)⟩
          refine Vals10.Steps.mark rfl ?_ ?_
          · intro a W σ hJ hn pre K hK
            obtain ⟨v49, s49, e49⟩ := pre.2.1 4 (by kernel_rfl) rfl
            replace e49 : a.tmps.getD 49 undef = v49 := e49 49 rfl
            obtain ⟨v54, s54, e54⟩ := pre.2.1 9 (by kernel_rfl) rfl
            replace e54 : a.tmps.getD 54 undef = v54 := e54 54 rfl
            simp only [Array.getD_eq_getD_getElem?, List.getElem?_toArray, List.getElem?_cons_zero, List.getElem?_cons_succ, Option.getD_some] at e49 e54
            have ho := hJ.2.ow 4 (ot.take at_0) _ rfl s49 hn
            have ho1 := hJ.2.ow 9 [z] _ rfl s54 hn
            obtain ⟨A1, c1, hv1, hr1, _, _⟩ := own_rd2 ho1
            subst hv1
            have hw2 : ∀ i L, ordL ot z at_0 i = some L → ordC i = 10 → ∃ u, σ i = some u := fun i L h hc => by rcases ordC_10 hc with rfl | rfl; exact ⟨_, s49⟩; exact ⟨_, s54⟩
            refine wp_append_rds (.tmp 49) (.tmp 54) rfl (B := wr.heap.size) (l := ot.take at_0) (k := [z]) (A := A1) (c := c1) (by go_simp) (by go_simp) ho hr1 (by have := HOL.out; simp; omega) hJ.2.sn.2 ?_
            intro v' w' ho2 hg hn2
            exact hK _ _ ⟨hJ.1.grown hg (fun q e => by have := (ho).lt q e; have := this.1; have := hX0; omega), hJ.2.onto (k := 10) (d := 4) (D := ot.take at_0) (L := ot.take at_0 ++ [z]) hn (by decide) hw2 rfl rfl s49 rfl (by decide) ho2 hg hn2⟩
          refine Vals10.Steps.run rfl ?_ ?_
          · intro a W σ hJ pre K hK
            have e8 := pre.2.2 8 _ (by kernel_rfl) rfl
            clear pre
            simp only [Array.getD_eq_getD_getElem?, List.getElem?_toArray, List.getElem?_cons_zero, List.getElem?_cons_succ, Option.getD_some] at e8
            go_simp
            exact hK _ hJ
          refine Vals10.Steps.run rfl ?_ ?_
          · intro a W σ hJ pre K hK
            have e10 := pre.2.2 10 _ (by kernel_rfl) rfl
            clear pre
            simp only [Array.getD_eq_getD_getElem?, List.getElem?_toArray, List.getElem?_cons_zero, List.getElem?_cons_succ, Option.getD_some] at e10
            go_simp
            exact hK _ hJ
          refine Vals10.Steps.run rfl ?_ ?_
          · intro a W σ hJ pre K hK
            have e56 := pre.1 11 56 _ (by kernel_rfl) rfl rfl
            have e57 := pre.1 12 57 _ (by kernel_rfl) rfl rfl
            clear pre
            simp only [Array.getD_eq_getD_getElem?, List.getElem?_toArray, List.getElem?_cons_zero, List.getElem?_cons_succ, Option.getD_some] at e56 e57
            refine wp_slice_lo (.tmp 56) (.tmp 57) rfl (A := OA) (n := ot.length) (c := oc) (k := at_0) (by go_simp) (by go_simp) HAT.out ?_
            have hod := HODE.out
            rw [hod]
            exact hK _ hJ
          refine Vals10.Steps.mark rfl ?_ ?_
          · intro a W σ hJ hn pre K hK
            obtain ⟨v55, s55, e55⟩ := pre.2.1 10 (by kernel_rfl) rfl
            replace e55 : a.tmps.getD 55 undef = v55 := e55 55 rfl
            have e58 := pre.1 13 58 _ (by kernel_rfl) rfl rfl
            simp only [Array.getD_eq_getD_getElem?, List.getElem?_toArray, List.getElem?_cons_zero, List.getElem?_cons_succ, Option.getD_some] at e55 e58
            have ho := hJ.2.ow 10 (ot.take at_0 ++ [z]) _ rfl s55 hn
            have hw2 : ∀ i L, ordL ot z at_0 i = some L → ordC i = 14 → ∃ u, σ i = some u := fun i L h hc => by obtain rfl := ordC_14 hc; exact ⟨_, s55⟩
            refine wp_append_rds (.tmp 55) (.tmp 58) rfl (B := wr.heap.size) (l := ot.take at_0 ++ [z]) (k := ot.drop at_0) (A := OD) (c := oc - at_0) (by go_simp) (by rw [List.length_drop]; go_simp) ho (HOD.out.keep hJ.2.sn.1) (by have := HOL.out; simp; omega) hJ.2.sn.2 ?_
            intro v' w' ho2 hg hn2
            exact hK _ _ ⟨hJ.1.grown hg (fun q e => by have := (ho).lt q e; have := this.1; have := hX0; omega), hJ.2.onto (k := 14) (d := 10) (D := ot.take at_0 ++ [z]) (L := ot.take at_0 ++ [z] ++ ot.drop at_0) hn (by decide) hw2 rfl rfl s55 rfl (by decide) ho2 hg hn2⟩
          refine Vals10.Steps.mark rfl ?_ ?_
          · intro a W σ hJ hn pre K hK
            obtain ⟨v59, s59, e59⟩ := pre.2.1 14 (by kernel_rfl) rfl
            replace e59 : a.tmps.getD 59 undef = v59 := e59 59 rfl
            simp only [Array.getD_eq_getD_getElem?, List.getElem?_toArray, List.getElem?_cons_zero, List.getElem?_cons_succ, Option.getD_some] at e59
            have hw2 : ∀ i L, ordL ot z at_0 i = some L → ordC i = 15 → ∃ u, σ i = some u := fun i L h hc => by obtain rfl := ordC_15 hc; exact ⟨_, s59⟩
            go_simp
            exact hK _ _ ⟨hJ.1, hJ.2.move (k := 15) (d := 14) (L := ot.take at_0 ++ [z] ++ ot.drop at_0) hn (by decide) hw2 rfl rfl s59 rfl (by decide)⟩
          exact Vals10.Steps.nil
        case hfin =>
          intro Y σ hJ
          simp only [Vals10.All]
          intro v45 h45 v49 h49 v54 h54 v55 h55 v59 h59 v8 h8
          simp only [Vals.putAll, List.setIfInBounds_toArray, List.set_cons_zero, List.set_cons_succ]
          have ho := (hJ.2.ow 15 _ v8 rfl h8 (hJ.2.no 16 rfl)).base (show w.heap.size + 2 ≤ wr.heap.size by omega)
          have hSY := hJ.1
          clear hJ h45 h49 h54 h55 h59 h8
          go_wp2_with fail
          go_roundw
          case rel => exact ⟨k + 1, by omega, by go_num, hSY, by show Ow _ _ _ _; rw [HNX.out]; exact ho⟩
          case measure => simp [intOf]; omega
      · obtain rfl : k = l.length := by omega
        have hki : ¬ ((l.length : Nat) : Int) < (l.length : Int) := by omega
        have hmem := fun q => otk_mem l X l.length (Nat.le_refl _) q
        rw [List.take_length] at hmem
        have hotl := otk_len l X l.length
        obtain ⟨ot, hot⟩ : ∃ ot, otk l X l.length = ot := ⟨_, rfl⟩
        rw [hot] at hmem hotl HO
        have HOTL := Lib.hid hotl
        have hot12 : ot.length ≤ 12 := by omega
        clear hot hk hotl
        by_cases hpos : 0 < l.length
        · have hp1 : (0 : Int) < (l.length : Int) := by omega
          by_cases hsm : l.length < 12
          · have hp2 : (l.length : Int) < 12 := by omega
            obtain ⟨tv, htv⟩ : ∃ tv : Nat, turnV X 1 = (tv : Int) := ⟨(turnV X 1).toNat, by have := turnV_bd hoX 1; omega⟩
            have htb := turnV_bd hoX 1
            obtain ⟨j, hj⟩ : ∃ j, tv % l.length = j := ⟨_, rfl⟩
            have hjl : j < l.length := by rw [← hj]; exact Nat.mod_lt _ hpos
            have hT := turn_c P X pc 1 wr (by omega) (hu.keep hS.sp.sn.1) hoX
            rw [htv] at hT htb
            have htm : (tv : Int).tmod (l.length : Int) = (j : Int) := by rw [Int.tmod_eq_emod_of_nonneg (by omega), ← hj]; push_cast; rfl
            have hem : (tv : Int) % (l.length : Int) = (j : Int) := by rw [← hj]; push_cast; rfl
            have hne : ((l.length : Int) == 0) = false := beq_eq_false_iff_ne.2 (by omega)
            have hne2 : ¬ l = [] := fun h => by rw [h] at hpos; simp at hpos
            have hji : (j : Int) < (l.length : Int) := by omega
            have y0 := hS.bx.cell 0
            simp only [List.getElem?_toArray, List.getElem?_cons_zero, List.getElem?_cons_succ] at y0
            obtain ⟨ad, hA, q0, q1, q2⟩ := hrd.get hjl
            subst hA
            have hz := List.getElem_mem hjl
            obtain ⟨z, hzz⟩ : ∃ z, l[j] = z := ⟨_, rfl⟩
            rw [hzz] at q0 q1 q2 hz
            have q0 := keep_cell hS.sp.sn.1 q0
            have q1 := keep_cell hS.sp.sn.1 q1
            have q2 := keep_cell hS.sp.sn.1 q2
            have HN3 := Lib.hid (Blk.new wr 61 (rV z))
            have hq : Below wr.heap.size wr (wr.alloc (.cells (rV z) 61)) := (Below.refl _ _).alloc (Nat.le_refl _) _
            have HO3 := Lib.hid (own_keep HO.out hq)
            have hzB : w.heap.size + 2 ≤ (wr.alloc (.cells (rV z) 61)).heap.size := by have := hS.lt; simp; omega
            have hll : ot.length ≤ 1000 := by omega
            have hSq := hS.keep hq
            have hmem2 : ∀ q, q ∈ ot ++ [z] ↔ q ∈ l := fun q => by
              rw [List.mem_append, hmem q, List.mem_singleton]
              exact ⟨fun h => h.elim id (fun e => e ▸ hz), fun h => .inl h⟩
            have hotl2 : (ot ++ [z]).length ≤ 12 := by have := HOTL.out; rw [List.length_append]; simp; omega
            have HJ := Lib.hid hj
            clear hj hzz hq htv hne hne2
            obtain ⟨L, hL⟩ : ∃ L, l.length = L := ⟨_, rfl⟩
            rw [hL] at hp1 hp2 htm hem hji hki hpos hsm hjl h12 hc ⊢
            have HL := Lib.hid hL
            have hz1 : ((L : Int) == 0) = false := beq_eq_false_iff_ne.2 (by omega)
            have hz2 : (L == 0) = false := beq_eq_false_iff_ne.2 (by omega)
            clear hL
            go_wp2_with fail
            refine hT.mono ?_
            rintro e w9 ⟨rfl, rfl⟩
            go_wp2_with (at_builtin; refine wpList_append_read rfl (.tmp 68) (.tmp 78) rfl (w.heap.size + 2) wr.heap.size _ ot z (by go_simp) (by go_simp) HO3.out HN3.out hll hzB ?_)
            intro v3 w3 ho3 hg3 _
            have ho4 : Ow w3 (w.heap.size + 2) v3 (ot ++ [z]) := by
              show World.ownsRow _ _ _ _ _ _ _
              rw [List.length_append]
              exact ho3
            have hL := HL.out
            subst hL
            clear ho3
            have hlt3 := HO3.out.lt
            have hS4 := hSq.grown hg3 (fun q h => by have := (hlt3 q h).1; omega)
            clear hg3 hlt3 HO3 HN3 q0 q1 q2 hSq y0 htm hem hz1 hz2 hT HO hS HJ HL
            obtain ⟨UA, uc, hv8, hrU, hu1, hu2⟩ := own_rd2 ho4
            subst hv8
            obtain ⟨hsame1, hsame2, hsame3⟩ := same_answers (mi := (mi : Int)) HS_.out HCK.out HRS.out HWI.out (u := ot ++ [z]) hotl2 hmem2
            obtain ⟨LA, hLA⟩ : ∃ LA, levelA s l (mi : Int) = LA := ⟨_, rfl⟩
            obtain ⟨UT, hUT⟩ : ∃ UT, untilA s l (mi : Int) = UT := ⟨_, rfl⟩
            have hrl := refusal_len s l mi (by omega)
            obtain ⟨RF, hRF⟩ : ∃ RF, refusalA s l (mi : Int) = RF := ⟨_, rfl⟩
            have hL1 := fun (W : World) (hW : Sp2 w s m 52 (pV P X pc MA Mn mc WA Ws wc nw) W) => level_c s m (some ad) l c (mi : Int) W (hsa.keep hW.sp.sn.1) hc hcM (hrd.keep hW.sp.sn.1)
            have hL2 := fun (W : World) (hW : Sp2 w s m 52 (pV P X pc MA Mn mc WA Ws wc nw) W) (hr : RdAt W UA (ot ++ [z])) => level_c s m UA (ot ++ [z]) uc (mi : Int) W (hsa.keep hW.sp.sn.1) hu1 hu2 hr
            have hU1 := fun (W : World) (hW : Sp2 w s m 52 (pV P X pc MA Mn mc WA Ws wc nw) W) => until2_c s m (some ad) l c (mi : Int) W (hsa.keep hW.sp.sn.1) hc hcM (hrd.keep hW.sp.sn.1)
            have hU2 := fun (W : World) (hW : Sp2 w s m 52 (pV P X pc MA Mn mc WA Ws wc nw) W) (hr : RdAt W UA (ot ++ [z])) => until2_c s m UA (ot ++ [z]) uc (mi : Int) W (hsa.keep hW.sp.sn.1) hu1 hu2 hr
            have hR1 := fun (W : World) (hW : Sp2 w s m 52 (pV P X pc MA Mn mc WA Ws wc nw) W) => refusal_c s m (some ad) l c (mi : Int) W (hsa.keep hW.sp.sn.1) hc hcM (hrd.keep hW.sp.sn.1)
            have hR2 := fun (W : World) (hW : Sp2 w s m 52 (pV P X pc MA Mn mc WA Ws wc nw) W) (hr : RdAt W UA (ot ++ [z])) => refusal_c s m UA (ot ++ [z]) uc (mi : Int) W (hsa.keep hW.sp.sn.1) hu1 hu2 hr
            rw [hsame1] at hL2
            rw [hsame2] at hU2
            rw [hsame3] at hR2
            rw [hLA] at hL1 hL2
            rw [hUT] at hU1 hU2
            rw [hRF] at hR1 hR2 hrl
            obtain ⟨⟨a0, a1⟩, ea⟩ := LA
            obtain ⟨n, en⟩ := UT
            obtain ⟨TL, er⟩ := RF
            dsimp only at hL1 hL2 hU1 hU2 hR1 hR2 hrl
            obtain ⟨M, hM⟩ : ∃ M, (ot ++ [z]) = M := ⟨_, rfl⟩
            rw [hM] at hrU hL2 hU2 hR2 hu1 ⊢
            have hMl : M.length ≤ 12 := by rw [← hM]; exact hotl2
            clear hsame1 hsame2 hsame3 hLA hUT hRF hM
            have hS1 := hS4
            obtain ⟨c0, c1, c2, c3, c4, c5, c6, c7, c8⟩ := hS1.sp.bk.space
            go_wp2_with fail
            refine (hL1 _ hS1).mono ?_
            rintro e w2 ⟨rfl, hb2⟩
            have hq2 : Below w2.heap.size w2 (w2.alloc (.cells #[.int .i64 a0, .int .i64 a1] 23)) := (Below.refl _ _).alloc (Nat.le_refl _) _
            have hS2 := (hS1.keep hb2).keep hq2
            have hr2 := (hrU.keep hb2).keep hq2
            have hSa := Blk.new w2 23 #[.int .i64 a0, .int .i64 a1]
            clear c0 c1 c2 c3 c4 c5 c6 c7 c8 hS1 hrU hb2 hq2 hL1
            obtain ⟨c0, c1, c2, c3, c4, c5, c6, c7, c8⟩ := hS2.sp.bk.space
            go_wp2_with fail
            obtain ⟨ga, hga⟩ : ∃ ga, w2.heap.size = ga := ⟨_, rfl⟩
            rw [hga] at hSa ⊢
            clear hga
            refine (hL2 _ hS2 hr2).mono ?_
            rintro e w3 ⟨rfl, hb3⟩
            have hq3 : Below w3.heap.size w3 (w3.alloc (.cells #[.int .i64 a0, .int .i64 a1] 23)) := (Below.refl _ _).alloc (Nat.le_refl _) _
            have hS3 := (hS2.keep hb3).keep hq3
            have hr3 := (hr2.keep hb3).keep hq3
            have hSa3 := (hSa.keep hb3).keep hq3
            have hSb := Blk.new w3 23 #[.int .i64 a0, .int .i64 a1]
            clear c0 c1 c2 c3 c4 c5 c6 c7 c8 hS2 hr2 hb3 hq3 hL2 hSa
            obtain ⟨c0, c1, c2, c3, c4, c5, c6, c7, c8⟩ := hS3.sp.bk.space
            go_wp2_with fail
            obtain ⟨gb, hgb⟩ : ∃ gb, w3.heap.size = gb := ⟨_, rfl⟩
            rw [hgb] at hSb ⊢
            clear hgb
            refine (hU1 _ hS3).mono ?_
            rintro e w4 ⟨rfl, hb4⟩
            have hS4 := hS3.keep hb4
            have hr4 := hr3.keep hb4
            have hSa4 := hSa3.keep hb4
            have hSb4 := hSb.keep hb4
            clear c0 c1 c2 c3 c4 c5 c6 c7 c8 hS3 hr3 hb4 hU1 hSa3 hSb
            obtain ⟨c0, c1, c2, c3, c4, c5, c6, c7, c8⟩ := hS4.sp.bk.space
            go_wp2_with fail
            refine (hU2 _ hS4 hr4).mono ?_
            rintro e w5 ⟨rfl, hb5⟩
            have hS5 := hS4.keep hb5
            have hr5 := hr4.keep hb5
            have hSa5 := hSa4.keep hb5
            have hSb5 := hSb4.keep hb5
            clear c0 c1 c2 c3 c4 c5 c6 c7 c8 hS4 hr4 hb5 hU2 hSa4 hSb4
            obtain ⟨c0, c1, c2, c3, c4, c5, c6, c7, c8⟩ := hS5.sp.bk.space
            go_wp2_with fail
            refine (hR1 _ hS5).mono ?_
            rintro e w6 ⟨⟨g1, n1, rfl, hn1, hI1⟩, hb6⟩
            subst hn1
            have hS6 := hS5.keep hb6
            have hr6 := hr5.keep hb6
            have hSa6 := hSa5.keep hb6
            have hSb6 := hSb5.keep hb6
            clear c0 c1 c2 c3 c4 c5 c6 c7 c8 hS5 hr5 hb6 hR1 hSa5 hSb5
            obtain ⟨c0, c1, c2, c3, c4, c5, c6, c7, c8⟩ := hS6.sp.bk.space
            go_wp2_with fail
            refine (hR2 _ hS6 hr6).mono ?_
            rintro e w7 ⟨⟨g2, n2, rfl, hn2, hI2⟩, hb7⟩
            subst hn2
            have hS7 := hS6.keep hb7
            have hI3 := hI1.keep hb7
            have hSa7 := hSa6.keep hb7
            have hSb7 := hSb6.keep hb7
            clear c0 c1 c2 c3 c4 c5 c6 c7 c8 hS6 hr6 hb7 hR2 hSa6 hSb6 hI1
            have z0 := hSa7.cell 0
            have z1 := hSa7.cell 1
            have t0 := hSb7.cell 0
            have t1 := hSb7.cell 1
            simp only [List.getElem?_toArray, List.getElem?_cons_zero, List.getElem?_cons_succ] at z0 z1 t0 t1
            have heq := eqSpan1' a0 a1
            go_wp2_with fail
            refine (ints_c g1 g2 TL TL TL.length TL.length _ hrl hrl hI3 hI2).mono ?_
            rintro e w8 ⟨rfl, hb8⟩
            have hS8 := hS7.keep hb8
            have hdt : decide (TL = TL) = true := decide_eq_true rfl
            clear z0 z1 t0 t1 hSa7 hSb7 hI3 hI2
            go_wp2_with fail
            refine (awake_c _).mono ?_
            rintro e w9 ⟨rfl, hb9⟩
            go_wp2_with fail
            go_ret
            exact ⟨rfl, (hS8.keep hb9).sp.sn.1⟩
          · have hp2 : ¬ (l.length : Int) < 12 := by omega
            obtain ⟨UA, uc, hv8, hrU, hu1, hu2⟩ := own_rd2 HO.out
            subst hv8
            obtain ⟨hsame1, hsame2, hsame3⟩ := same_answers (mi := (mi : Int)) HS_.out HCK.out HRS.out HWI.out (u := ot) hot12 hmem
            obtain ⟨LA, hLA⟩ : ∃ LA, levelA s l (mi : Int) = LA := ⟨_, rfl⟩
            obtain ⟨UT, hUT⟩ : ∃ UT, untilA s l (mi : Int) = UT := ⟨_, rfl⟩
            have hrl := refusal_len s l mi (by omega)
            obtain ⟨RF, hRF⟩ : ∃ RF, refusalA s l (mi : Int) = RF := ⟨_, rfl⟩
            have hL1 := fun (W : World) (hW : Sp2 w s m 52 (pV P X pc MA Mn mc WA Ws wc nw) W) => level_c s m A l c (mi : Int) W (hsa.keep hW.sp.sn.1) hc hcM (hrd.keep hW.sp.sn.1)
            have hL2 := fun (W : World) (hW : Sp2 w s m 52 (pV P X pc MA Mn mc WA Ws wc nw) W) (hr : RdAt W UA (ot)) => level_c s m UA (ot) uc (mi : Int) W (hsa.keep hW.sp.sn.1) hu1 hu2 hr
            have hU1 := fun (W : World) (hW : Sp2 w s m 52 (pV P X pc MA Mn mc WA Ws wc nw) W) => until2_c s m A l c (mi : Int) W (hsa.keep hW.sp.sn.1) hc hcM (hrd.keep hW.sp.sn.1)
            have hU2 := fun (W : World) (hW : Sp2 w s m 52 (pV P X pc MA Mn mc WA Ws wc nw) W) (hr : RdAt W UA (ot)) => until2_c s m UA (ot) uc (mi : Int) W (hsa.keep hW.sp.sn.1) hu1 hu2 hr
            have hR1 := fun (W : World) (hW : Sp2 w s m 52 (pV P X pc MA Mn mc WA Ws wc nw) W) => refusal_c s m A l c (mi : Int) W (hsa.keep hW.sp.sn.1) hc hcM (hrd.keep hW.sp.sn.1)
            have hR2 := fun (W : World) (hW : Sp2 w s m 52 (pV P X pc MA Mn mc WA Ws wc nw) W) (hr : RdAt W UA (ot)) => refusal_c s m UA (ot) uc (mi : Int) W (hsa.keep hW.sp.sn.1) hu1 hu2 hr
            rw [hsame1] at hL2
            rw [hsame2] at hU2
            rw [hsame3] at hR2
            rw [hLA] at hL1 hL2
            rw [hUT] at hU1 hU2
            rw [hRF] at hR1 hR2 hrl
            obtain ⟨⟨a0, a1⟩, ea⟩ := LA
            obtain ⟨n, en⟩ := UT
            obtain ⟨TL, er⟩ := RF
            dsimp only at hL1 hL2 hU1 hU2 hR1 hR2 hrl
            obtain ⟨M, hM⟩ : ∃ M, (ot) = M := ⟨_, rfl⟩
            rw [hM] at hrU hL2 hU2 hR2 hu1 ⊢
            have hMl : M.length ≤ 12 := by rw [← hM]; exact hot12
            clear hsame1 hsame2 hsame3 hLA hUT hRF hM
            have hS1 := hS
            obtain ⟨c0, c1, c2, c3, c4, c5, c6, c7, c8⟩ := hS1.sp.bk.space
            go_wp2_with fail
            refine (hL1 _ hS1).mono ?_
            rintro e w2 ⟨rfl, hb2⟩
            have hq2 : Below w2.heap.size w2 (w2.alloc (.cells #[.int .i64 a0, .int .i64 a1] 23)) := (Below.refl _ _).alloc (Nat.le_refl _) _
            have hS2 := (hS1.keep hb2).keep hq2
            have hr2 := (hrU.keep hb2).keep hq2
            have hSa := Blk.new w2 23 #[.int .i64 a0, .int .i64 a1]
            clear c0 c1 c2 c3 c4 c5 c6 c7 c8 hS1 hrU hb2 hq2 hL1
            obtain ⟨c0, c1, c2, c3, c4, c5, c6, c7, c8⟩ := hS2.sp.bk.space
            go_wp2_with fail
            obtain ⟨ga, hga⟩ : ∃ ga, w2.heap.size = ga := ⟨_, rfl⟩
            rw [hga] at hSa ⊢
            clear hga
            refine (hL2 _ hS2 hr2).mono ?_
            rintro e w3 ⟨rfl, hb3⟩
            have hq3 : Below w3.heap.size w3 (w3.alloc (.cells #[.int .i64 a0, .int .i64 a1] 23)) := (Below.refl _ _).alloc (Nat.le_refl _) _
            have hS3 := (hS2.keep hb3).keep hq3
            have hr3 := (hr2.keep hb3).keep hq3
            have hSa3 := (hSa.keep hb3).keep hq3
            have hSb := Blk.new w3 23 #[.int .i64 a0, .int .i64 a1]
            clear c0 c1 c2 c3 c4 c5 c6 c7 c8 hS2 hr2 hb3 hq3 hL2 hSa
            obtain ⟨c0, c1, c2, c3, c4, c5, c6, c7, c8⟩ := hS3.sp.bk.space
            go_wp2_with fail
            obtain ⟨gb, hgb⟩ : ∃ gb, w3.heap.size = gb := ⟨_, rfl⟩
            rw [hgb] at hSb ⊢
            clear hgb
            refine (hU1 _ hS3).mono ?_
            rintro e w4 ⟨rfl, hb4⟩
            have hS4 := hS3.keep hb4
            have hr4 := hr3.keep hb4
            have hSa4 := hSa3.keep hb4
            have hSb4 := hSb.keep hb4
            clear c0 c1 c2 c3 c4 c5 c6 c7 c8 hS3 hr3 hb4 hU1 hSa3 hSb
            obtain ⟨c0, c1, c2, c3, c4, c5, c6, c7, c8⟩ := hS4.sp.bk.space
            go_wp2_with fail
            refine (hU2 _ hS4 hr4).mono ?_
            rintro e w5 ⟨rfl, hb5⟩
            have hS5 := hS4.keep hb5
            have hr5 := hr4.keep hb5
            have hSa5 := hSa4.keep hb5
            have hSb5 := hSb4.keep hb5
            clear c0 c1 c2 c3 c4 c5 c6 c7 c8 hS4 hr4 hb5 hU2 hSa4 hSb4
            obtain ⟨c0, c1, c2, c3, c4, c5, c6, c7, c8⟩ := hS5.sp.bk.space
            go_wp2_with fail
            refine (hR1 _ hS5).mono ?_
            rintro e w6 ⟨⟨g1, n1, rfl, hn1, hI1⟩, hb6⟩
            subst hn1
            have hS6 := hS5.keep hb6
            have hr6 := hr5.keep hb6
            have hSa6 := hSa5.keep hb6
            have hSb6 := hSb5.keep hb6
            clear c0 c1 c2 c3 c4 c5 c6 c7 c8 hS5 hr5 hb6 hR1 hSa5 hSb5
            obtain ⟨c0, c1, c2, c3, c4, c5, c6, c7, c8⟩ := hS6.sp.bk.space
            go_wp2_with fail
            refine (hR2 _ hS6 hr6).mono ?_
            rintro e w7 ⟨⟨g2, n2, rfl, hn2, hI2⟩, hb7⟩
            subst hn2
            have hS7 := hS6.keep hb7
            have hI3 := hI1.keep hb7
            have hSa7 := hSa6.keep hb7
            have hSb7 := hSb6.keep hb7
            clear c0 c1 c2 c3 c4 c5 c6 c7 c8 hS6 hr6 hb7 hR2 hSa6 hSb6 hI1
            have z0 := hSa7.cell 0
            have z1 := hSa7.cell 1
            have t0 := hSb7.cell 0
            have t1 := hSb7.cell 1
            simp only [List.getElem?_toArray, List.getElem?_cons_zero, List.getElem?_cons_succ] at z0 z1 t0 t1
            have heq := eqSpan1' a0 a1
            go_wp2_with fail
            refine (ints_c g1 g2 TL TL TL.length TL.length _ hrl hrl hI3 hI2).mono ?_
            rintro e w8 ⟨rfl, hb8⟩
            have hS8 := hS7.keep hb8
            have hdt : decide (TL = TL) = true := decide_eq_true rfl
            clear z0 z1 t0 t1 hSa7 hSb7 hI3 hI2
            go_wp2_with fail
            refine (awake_c _).mono ?_
            rintro e w9 ⟨rfl, hb9⟩
            go_wp2_with fail
            go_ret
            exact ⟨rfl, (hS8.keep hb9).sp.sn.1⟩
        · have hp1 : ¬ (0 : Int) < (l.length : Int) := by omega
          obtain ⟨UA, uc, hv8, hrU, hu1, hu2⟩ := own_rd2 HO.out
          subst hv8
          obtain ⟨hsame1, hsame2, hsame3⟩ := same_answers (mi := (mi : Int)) HS_.out HCK.out HRS.out HWI.out (u := ot) hot12 hmem
          obtain ⟨LA, hLA⟩ : ∃ LA, levelA s l (mi : Int) = LA := ⟨_, rfl⟩
          obtain ⟨UT, hUT⟩ : ∃ UT, untilA s l (mi : Int) = UT := ⟨_, rfl⟩
          have hrl := refusal_len s l mi (by omega)
          obtain ⟨RF, hRF⟩ : ∃ RF, refusalA s l (mi : Int) = RF := ⟨_, rfl⟩
          have hL1 := fun (W : World) (hW : Sp2 w s m 52 (pV P X pc MA Mn mc WA Ws wc nw) W) => level_c s m A l c (mi : Int) W (hsa.keep hW.sp.sn.1) hc hcM (hrd.keep hW.sp.sn.1)
          have hL2 := fun (W : World) (hW : Sp2 w s m 52 (pV P X pc MA Mn mc WA Ws wc nw) W) (hr : RdAt W UA (ot)) => level_c s m UA (ot) uc (mi : Int) W (hsa.keep hW.sp.sn.1) hu1 hu2 hr
          have hU1 := fun (W : World) (hW : Sp2 w s m 52 (pV P X pc MA Mn mc WA Ws wc nw) W) => until2_c s m A l c (mi : Int) W (hsa.keep hW.sp.sn.1) hc hcM (hrd.keep hW.sp.sn.1)
          have hU2 := fun (W : World) (hW : Sp2 w s m 52 (pV P X pc MA Mn mc WA Ws wc nw) W) (hr : RdAt W UA (ot)) => until2_c s m UA (ot) uc (mi : Int) W (hsa.keep hW.sp.sn.1) hu1 hu2 hr
          have hR1 := fun (W : World) (hW : Sp2 w s m 52 (pV P X pc MA Mn mc WA Ws wc nw) W) => refusal_c s m A l c (mi : Int) W (hsa.keep hW.sp.sn.1) hc hcM (hrd.keep hW.sp.sn.1)
          have hR2 := fun (W : World) (hW : Sp2 w s m 52 (pV P X pc MA Mn mc WA Ws wc nw) W) (hr : RdAt W UA (ot)) => refusal_c s m UA (ot) uc (mi : Int) W (hsa.keep hW.sp.sn.1) hu1 hu2 hr
          rw [hsame1] at hL2
          rw [hsame2] at hU2
          rw [hsame3] at hR2
          rw [hLA] at hL1 hL2
          rw [hUT] at hU1 hU2
          rw [hRF] at hR1 hR2 hrl
          obtain ⟨⟨a0, a1⟩, ea⟩ := LA
          obtain ⟨n, en⟩ := UT
          obtain ⟨TL, er⟩ := RF
          dsimp only at hL1 hL2 hU1 hU2 hR1 hR2 hrl
          obtain ⟨M, hM⟩ : ∃ M, (ot) = M := ⟨_, rfl⟩
          rw [hM] at hrU hL2 hU2 hR2 hu1 ⊢
          have hMl : M.length ≤ 12 := by rw [← hM]; exact hot12
          clear hsame1 hsame2 hsame3 hLA hUT hRF hM
          have hS1 := hS
          obtain ⟨c0, c1, c2, c3, c4, c5, c6, c7, c8⟩ := hS1.sp.bk.space
          go_wp2_with fail
          refine (hL1 _ hS1).mono ?_
          rintro e w2 ⟨rfl, hb2⟩
          have hq2 : Below w2.heap.size w2 (w2.alloc (.cells #[.int .i64 a0, .int .i64 a1] 23)) := (Below.refl _ _).alloc (Nat.le_refl _) _
          have hS2 := (hS1.keep hb2).keep hq2
          have hr2 := (hrU.keep hb2).keep hq2
          have hSa := Blk.new w2 23 #[.int .i64 a0, .int .i64 a1]
          clear c0 c1 c2 c3 c4 c5 c6 c7 c8 hS1 hrU hb2 hq2 hL1
          obtain ⟨c0, c1, c2, c3, c4, c5, c6, c7, c8⟩ := hS2.sp.bk.space
          go_wp2_with fail
          obtain ⟨ga, hga⟩ : ∃ ga, w2.heap.size = ga := ⟨_, rfl⟩
          rw [hga] at hSa ⊢
          clear hga
          refine (hL2 _ hS2 hr2).mono ?_
          rintro e w3 ⟨rfl, hb3⟩
          have hq3 : Below w3.heap.size w3 (w3.alloc (.cells #[.int .i64 a0, .int .i64 a1] 23)) := (Below.refl _ _).alloc (Nat.le_refl _) _
          have hS3 := (hS2.keep hb3).keep hq3
          have hr3 := (hr2.keep hb3).keep hq3
          have hSa3 := (hSa.keep hb3).keep hq3
          have hSb := Blk.new w3 23 #[.int .i64 a0, .int .i64 a1]
          clear c0 c1 c2 c3 c4 c5 c6 c7 c8 hS2 hr2 hb3 hq3 hL2 hSa
          obtain ⟨c0, c1, c2, c3, c4, c5, c6, c7, c8⟩ := hS3.sp.bk.space
          go_wp2_with fail
          obtain ⟨gb, hgb⟩ : ∃ gb, w3.heap.size = gb := ⟨_, rfl⟩
          rw [hgb] at hSb ⊢
          clear hgb
          refine (hU1 _ hS3).mono ?_
          rintro e w4 ⟨rfl, hb4⟩
          have hS4 := hS3.keep hb4
          have hr4 := hr3.keep hb4
          have hSa4 := hSa3.keep hb4
          have hSb4 := hSb.keep hb4
          clear c0 c1 c2 c3 c4 c5 c6 c7 c8 hS3 hr3 hb4 hU1 hSa3 hSb
          obtain ⟨c0, c1, c2, c3, c4, c5, c6, c7, c8⟩ := hS4.sp.bk.space
          go_wp2_with fail
          refine (hU2 _ hS4 hr4).mono ?_
          rintro e w5 ⟨rfl, hb5⟩
          have hS5 := hS4.keep hb5
          have hr5 := hr4.keep hb5
          have hSa5 := hSa4.keep hb5
          have hSb5 := hSb4.keep hb5
          clear c0 c1 c2 c3 c4 c5 c6 c7 c8 hS4 hr4 hb5 hU2 hSa4 hSb4
          obtain ⟨c0, c1, c2, c3, c4, c5, c6, c7, c8⟩ := hS5.sp.bk.space
          go_wp2_with fail
          refine (hR1 _ hS5).mono ?_
          rintro e w6 ⟨⟨g1, n1, rfl, hn1, hI1⟩, hb6⟩
          subst hn1
          have hS6 := hS5.keep hb6
          have hr6 := hr5.keep hb6
          have hSa6 := hSa5.keep hb6
          have hSb6 := hSb5.keep hb6
          clear c0 c1 c2 c3 c4 c5 c6 c7 c8 hS5 hr5 hb6 hR1 hSa5 hSb5
          obtain ⟨c0, c1, c2, c3, c4, c5, c6, c7, c8⟩ := hS6.sp.bk.space
          go_wp2_with fail
          refine (hR2 _ hS6 hr6).mono ?_
          rintro e w7 ⟨⟨g2, n2, rfl, hn2, hI2⟩, hb7⟩
          subst hn2
          have hS7 := hS6.keep hb7
          have hI3 := hI1.keep hb7
          have hSa7 := hSa6.keep hb7
          have hSb7 := hSb6.keep hb7
          clear c0 c1 c2 c3 c4 c5 c6 c7 c8 hS6 hr6 hb7 hR2 hSa6 hSb6 hI1
          have z0 := hSa7.cell 0
          have z1 := hSa7.cell 1
          have t0 := hSb7.cell 0
          have t1 := hSb7.cell 1
          simp only [List.getElem?_toArray, List.getElem?_cons_zero, List.getElem?_cons_succ] at z0 z1 t0 t1
          have heq := eqSpan1' a0 a1
          go_wp2_with fail
          refine (ints_c g1 g2 TL TL TL.length TL.length _ hrl hrl hI3 hI2).mono ?_
          rintro e w8 ⟨rfl, hb8⟩
          have hS8 := hS7.keep hb8
          have hdt : decide (TL = TL) = true := decide_eq_true rfl
          clear z0 z1 t0 t1 hSa7 hSb7 hI3 hI2
          go_wp2_with fail
          refine (awake_c _).mono ?_
          rintro e w9 ⟨rfl, hb9⟩
          go_wp2_with fail
          go_ret
          exact ⟨rfl, (hS8.keep hb9).sp.sn.1⟩
  · have hr0' : (rdgE s l == 0) = false := by simpa using hr0
    have hr1 : (rdgE s l != 0) = true := by simpa using hr0
    go_wp2_with fail
    refine (awake_c _).mono ?_
    rintro e w2 ⟨rfl, hb2⟩
    go_wp2_with fail
    go_ret
    exact ⟨rfl, (hS1.keep hb2).sp.sn.1⟩
end Td
end Go.Proofs.Ytccacinnelmnpaa
