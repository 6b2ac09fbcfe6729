import Derived.Test.YtmofbnadfgejiaaLins
import Derived.Test.YtmofbnadfgejiaaLvlM
/- The reference: which levels there are, as rows of Booleans. -/
namespace Go.Proofs.Ytmofbnadfgejiaa
open Go.RowKit
namespace Td
set_option linter.unusedSimpArgs false
set_option linter.unusedVariables false
attribute [local go_sem] Oper.semAt_some
/-- a row of Booleans, as cells. -/
def rB (f : Nat → Bool) (n : Nat) : Array Value := ((List.range n).map fun i => Value.bool (f i)).toArray
theorem rB_size (f : Nat → Bool) (n : Nat) : (rB f n).size = n := by simp [rB]
theorem rB_get (f : Nat → Bool) {n k : Nat} (h : k < n) : (rB f n)[k]? = some (.bool (f k)) := by simp [rB, h]
theorem rB_congr {f g : Nat → Bool} {n : Nat} (h : ∀ i, i < n → f i = g i) : rB f n = rB g n := by
  unfold rB
  congr 1
  refine List.map_congr_left fun i hi => ?_
  rw [h i (List.mem_range.1 hi)]
theorem rB_set (f : Nat → Bool) (n k : Nat) (v : Bool) : (rB f n).setIfInBounds k (.bool v) = rB (fun i => if i = k then v else f i) n := by
  apply Array.ext_getElem?
  intro i
  rw [Array.getElem?_setIfInBounds]
  by_cases hi : i < n
  · rw [rB_get _ hi, rB_get _ hi]
    by_cases h : k = i
    · subst h
      simp [rB_size, hi]
    · simp [h, Ne.symm h]
  · have h1 : (rB f n)[i]? = none := Array.getElem?_eq_none (by rw [rB_size]; omega)
    have h2 : (rB (fun i => if i = k then v else f i) n)[i]? = none := Array.getElem?_eq_none (by rw [rB_size]; omega)
    rw [h1, h2]
    by_cases h : k = i
    · rw [if_pos h, if_neg (by rw [rB_size]; omega)]
    · rw [if_neg h]
theorem made_rB (n : Nat) : madeCells #[.bool false] n = rB (fun _ => false) n := by
  apply Array.ext
  · rw [size_madeCells, rB_size]
  · intro i h1 h2
    simp [madeCells, rB, Nat.mod_one]
theorem infoBool : (Try.prog.info? 4).map (fun i => (i.zero, i.size, i.bytes)) = some (some (.bool false), 1, 1) := by kernel_rfl
set_option maxRecDepth 100000 in
set_option maxHeartbeats 8000000 in
theorem agrees_c (s : Spc) (m : Sl) (A : Option Addr) (l : List Rd) (c : Nat) (mi n : Int) (w : World) (hs : SOk s) (hsa : SAt w m s) (hrd : RdAt w A l) (hro : ∀ r ∈ l, ROk s r) (h12 : l.length ≤ 12) (hn0 : 0 ≤ n) (hn1 : n ≤ 200) :
    Calls Try.prog 55 #[.agg (sV s m), .slice A l.length c, .int .i64 mi, .int .i64 n] w fun e w' => e = .returned (.bool (agB s l mi n)) ∧ Below w.heap.size w w' := by
  have hS0 := Sp.start w s m
  go_enter Try.func55, Try.ntmps55
  go_wp2_with fail
  go_loopw [9, 10] (fun i _ wr => ∃ k : Nat, k ≤ l.length ∧ i = .int .i64 k ∧ Sp w s m wr ∧ Hid (∀ j (hj : j < l.length), j < k → l[j].min = mi → wi (n - errOf s l[j]) (n + errOf s l[j]) l[j].shown = true)) (fun i _ _ => l.length - (intOf i).toNat)
  case atStart => exact ⟨0, Nat.zero_le _, rfl, hS0, fun j _ h => absurd h (by omega)⟩
  case round =>
    obtain ⟨k, hk, rfl, hS, HI⟩ := hrel
    by_cases hkl : k < l.length
    · obtain ⟨ae, hA, e0, e1, e2⟩ := hrd.get hkl
      subst hA
      have hrk := hro _ (List.getElem_mem hkl)
      have HG : Hid (∀ (h : l[k].min = mi → wi (n - errOf s l[k]) (n + errOf s l[k]) l[k].shown = true) j (hj : j < l.length), j < k + 1 → l[j].min = mi → wi (n - errOf s l[j]) (n + errOf s l[j]) l[j].shown = true) := fun h j hj hjk => by
        rcases Nat.lt_or_ge j k with h1 | h1
        · exact HI.out j hj h1
        · obtain rfl : j = k := by omega
          exact h
      have HB : Hid (l[k].min = mi → wi (n - errOf s l[k]) (n + errOf s l[k]) l[k].shown = false → agB s l mi n = false) := agB_bad hkl
      have heo := errOf_ok hs l[k]
      obtain ⟨er, her⟩ : ∃ er, errOf s l[k] = er := ⟨_, rfl⟩
      rw [her] at HG HB heo
      obtain ⟨r, hr⟩ : ∃ r, l[k] = r := ⟨_, rfl⟩
      rw [hr] at e0 e1 e2 hrk HG HB her
      obtain ⟨mn, tli, sh⟩ := r
      obtain ⟨tl, rfl⟩ : ∃ tl : Nat, tli = (tl : Int) := ⟨tli.toNat, by have := hrk.t0; dsimp only at this; omega⟩
      have htl : tl < s.tools.length := by have := hrk.t1; dsimp only at this; omega
      obtain ⟨at', hT, _, ee⟩ := hsa.tl.get htl
      have hee : s.tools[tl].err = er := by rw [← her]; simp [errOf, List.getElem?_eq_getElem htl]
      rw [hee] at ee
      have HTA := Lib.hid hT
      have HE0 := Lib.hid (keep_cell hS.sn.1 e0)
      have HE1 := Lib.hid (keep_cell hS.sn.1 e1)
      have HE2 := Lib.hid (keep_cell hS.sn.1 e2)
      have HEE := Lib.hid (keep_cell hS.sn.1 ee)
      have HJI : Hid ((k : Int) < (l.length : Int)) := by show _ < _; omega
      have HTL : Hid ((tl : Int) < (s.tools.length : Int)) := by show _ < _; omega
      have hji := HJI.out
      clear e0 e1 e2 ee hr hrk her hT hee HI
      dsimp only at HG HB
      go_wp2_with fail
      refine Vals9.region (fun _ Z => Sp w s m Z ∧ Since wr Z) [some 17, some 18, some 19, some 20, some 21, some 22, some 23, some 24, some 25, some 26, some 10] [.is ?_, .is ?_, .is ?_, .is ?_, .is ?_, .is ?_, .is ?_, .is ?_, .is ?_, .is ?_, .is ?_] (by kernel_rfl) (by kernel_rfl) (by kernel_rfl) (by kernel_rfl) (by kernel_rfl) (by kernel_rfl) (⟨hS.drew, (Since.refl wr).drew⟩) ?hsteps ?hfin
      case hsteps =>
        refine Vals9.Steps.run rfl ?_ ?_
        · intro a W σ hJ pre K hK
          have e4 := pre.2.2 4 _ (by kernel_rfl) rfl
          clear pre
          simp only [Array.getD_eq_getD_getElem?, List.getElem?_toArray, List.getElem?_cons_zero, List.getElem?_cons_succ, Option.getD_some] at e4
          go_simp
          exact hK _ hJ
        refine Vals9.Steps.run rfl ?_ ?_
        · intro a W σ hJ pre K hK
          have e17 := pre.1 0 17 _ (by kernel_rfl) rfl rfl
          clear pre
          simp only [Array.getD_eq_getD_getElem?, List.getElem?_toArray, List.getElem?_cons_zero, List.getElem?_cons_succ, Option.getD_some] at e17
          have hS9 := hJ
          obtain ⟨l1, l2⟩ := hS9
          obtain ⟨_, _, _, _, _, _, _, _, c8⟩ := l1.bk.space
          rw [HTA.out] at c8
          have y1 := keep_cell l2.1 HE1.out
          have ye := keep_cell l2.1 HEE.out
          go_simp
          exact hK _ hJ
        refine Vals9.Steps.run rfl ?_ ?_
        · intro a W σ hJ pre K hK
          have e1 := pre.2.2 1 _ (by kernel_rfl) rfl
          clear pre
          simp only [Array.getD_eq_getD_getElem?, List.getElem?_toArray, List.getElem?_cons_zero, List.getElem?_cons_succ, Option.getD_some] at e1
          go_simp
          exact hK _ hJ
        refine Vals9.Steps.run rfl ?_ ?_
        · intro a W σ hJ pre K hK
          have e9 := pre.2.2 9 _ (by kernel_rfl) rfl
          clear pre
          simp only [Array.getD_eq_getD_getElem?, List.getElem?_toArray, List.getElem?_cons_zero, List.getElem?_cons_succ, Option.getD_some] at e9
          go_simp
          exact hK _ hJ
        refine Vals9.Steps.run rfl ?_ ?_
        · intro a W σ hJ pre K hK
          have e19 := pre.1 2 19 _ (by kernel_rfl) rfl rfl
          have e20 := pre.1 3 20 _ (by kernel_rfl) rfl rfl
          clear pre
          simp only [Array.getD_eq_getD_getElem?, List.getElem?_toArray, List.getElem?_cons_zero, List.getElem?_cons_succ, Option.getD_some] at e19 e20
          have hji := HJI.out
          go_simp
          exact hK _ hJ
        refine Vals9.Steps.run rfl ?_ ?_
        · intro a W σ hJ pre K hK
          have e21 := pre.1 4 21 _ (by kernel_rfl) rfl rfl
          clear pre
          simp only [Array.getD_eq_getD_getElem?, List.getElem?_toArray, List.getElem?_cons_zero, List.getElem?_cons_succ, Option.getD_some] at e21
          go_simp
          exact hK _ hJ
        refine Vals9.Steps.run rfl ?_ ?_
        · intro a W σ hJ pre K hK
          have e22 := pre.1 5 22 _ (by kernel_rfl) rfl rfl
          clear pre
          simp only [Array.getD_eq_getD_getElem?, List.getElem?_toArray, List.getElem?_cons_zero, List.getElem?_cons_succ, Option.getD_some] at e22
          have hS9 := hJ
          obtain ⟨l1, l2⟩ := hS9
          obtain ⟨_, _, _, _, _, _, _, _, c8⟩ := l1.bk.space
          rw [HTA.out] at c8
          have y1 := keep_cell l2.1 HE1.out
          have ye := keep_cell l2.1 HEE.out
          go_simp
          exact hK _ hJ
        refine Vals9.Steps.run rfl ?_ ?_
        · intro a W σ hJ pre K hK
          have e18 := pre.1 1 18 _ (by kernel_rfl) rfl rfl
          have e23 := pre.1 6 23 _ (by kernel_rfl) rfl rfl
          clear pre
          simp only [Array.getD_eq_getD_getElem?, List.getElem?_toArray, List.getElem?_cons_zero, List.getElem?_cons_succ, Option.getD_some] at e18 e23
          have htli := HTL.out
          go_simp
          exact hK _ hJ
        refine Vals9.Steps.run rfl ?_ ?_
        · intro a W σ hJ pre K hK
          have e24 := pre.1 7 24 _ (by kernel_rfl) rfl rfl
          clear pre
          simp only [Array.getD_eq_getD_getElem?, List.getElem?_toArray, List.getElem?_cons_zero, List.getElem?_cons_succ, Option.getD_some] at e24
          go_simp
          exact hK _ hJ
        refine Vals9.Steps.run rfl ?_ ?_
        · intro a W σ hJ pre K hK
          have e25 := pre.1 8 25 _ (by kernel_rfl) rfl rfl
          clear pre
          simp only [Array.getD_eq_getD_getElem?, List.getElem?_toArray, List.getElem?_cons_zero, List.getElem?_cons_succ, Option.getD_some] at e25
          have hS9 := hJ
          obtain ⟨l1, l2⟩ := hS9
          obtain ⟨_, _, _, _, _, _, _, _, c8⟩ := l1.bk.space
          rw [HTA.out] at c8
          have y1 := keep_cell l2.1 HE1.out
          have ye := keep_cell l2.1 HEE.out
          go_simp
          exact hK _ hJ
        refine Vals9.Steps.run rfl ?_ ?_
        · intro a W σ hJ pre K hK
          have e26 := pre.1 9 26 _ (by kernel_rfl) rfl rfl
          clear pre
          simp only [Array.getD_eq_getD_getElem?, List.getElem?_toArray, List.getElem?_cons_zero, List.getElem?_cons_succ, Option.getD_some] at e26
          go_simp
          exact hK _ hJ
        exact Vals9.Steps.nil
      case hfin =>
        intro Y σ hJ
        simp only [Vals9.All]
        simp only [Vals.putAll, List.setIfInBounds_toArray, List.set_cons_zero, List.set_cons_succ]
        have hSY := hJ.1
        have y0 := keep_cell hJ.2.1 HE0.out
        have y2 := keep_cell hJ.2.1 HE2.out
        have hw1 : IntKind.i64.wrap (n - er) = n - er := IntWalk.i64_in _ (by omega)
        have hw2 : IntKind.i64.wrap (n + er) = n + er := IntWalk.i64_in _ (by omega)
        clear hJ
        by_cases hm : mn = mi
        · have hm' : (mn == mi) = true := by simpa using hm
          have HM := Lib.hid hm
          clear hm
          go_wp2_with fail
          refine (rin_c (n - er) (n + er) sh _).mono ?_
          rintro e w' ⟨rfl, rfl⟩
          rcases Bool.eq_false_or_eq_true (wi (n - er) (n + er) sh) with h1 | h1
          · have HG2 := Lib.hid (HG.out (fun _ => h1))
            rw [h1]
            clear h1
            go_wp2_with fail
            go_roundw
            case rel => exact ⟨k + 1, by omega, by go_num, hSY, HG2⟩
            case measure => simp [intOf]; omega
          · have HV := Lib.hid (HB.out HM.out h1)
            rw [h1]
            clear h1
            go_wp2_with fail
            go_ret
            exact ⟨ret_bool HV.out.symm, hSY.sn.1⟩
        · have hm' : (mn == mi) = false := by simpa using hm
          have HG2 := Lib.hid (HG.out (fun h => absurd h hm))
          clear hm
          go_wp2_with fail
          go_roundw
          case rel => exact ⟨k + 1, by omega, by go_num, hSY, HG2⟩
          case measure => simp [intOf]; omega
    · have hki : ¬ (k : Int) < (l.length : Int) := by omega
      have HV : Hid (agB s l mi n = true) := agB_good fun j hj hm => HI.out j hj (by omega) hm
      go_wp2_with fail
      go_ret
      exact ⟨ret_bool HV.out.symm, hS.sn.1⟩
/-- the levels that there are at the start, from the first one on. -/
def stB (s : Spc) (l : List Rd) (n : Int) (i : Nat) : Bool := (decide (s.s0 ≤ (i : Int)) && decide ((i : Int) < n)) && agB s l 0 (i : Int)
theorem stB_next {s : Spc} {l : List Rd} {n : Nat} (h : s.s0 ≤ (n : Int)) : (fun i => if i = n then agB s l 0 (n : Int) else stB s l (n : Int) i) = stB s l ((n : Int) + 1) := by
  funext i
  unfold stB
  by_cases h1 : i = n
  · subst h1
    rw [if_pos rfl]
    have e1 : decide (s.s0 ≤ (i : Int)) = true := decide_eq_true h
    have e2 : decide ((i : Int) < (i : Int) + 1) = true := decide_eq_true (by omega)
    rw [e1, e2]; rfl
  · rw [if_neg h1]
    congr 2
    have : ((i : Int) < (n : Int)) ↔ ((i : Int) < (n : Int) + 1) := by omega
    simp [this]
theorem stB_start {s : Spc} {l : List Rd} {a : Nat} (h : s.s0 = (a : Int)) (i : Nat) : stB s l (a : Int) i = false := by
  unfold stB
  by_cases h1 : (i : Int) < (a : Int)
  · have : decide (s.s0 ≤ (i : Int)) = false := decide_eq_false (by omega)
    rw [this]; rfl
  · have : decide ((i : Int) < (a : Int)) = false := decide_eq_false h1
    rw [this]; simp
set_option maxRecDepth 100000 in
set_option maxHeartbeats 8000000 in
theorem rstart_c (s : Spc) (m : Sl) (A : Option Addr) (l : List Rd) (c : Nat) (w : World) (hs : SOk s) (hsa : SAt w m s) (hrd : RdAt w A l) (hro : ∀ r ∈ l, ROk s r) (h12 : l.length ≤ 12) :
    Calls Try.prog 96 #[.agg (sV s m), .slice A l.length c] w fun e w' => (∃ g, e = .returned (.slice (some ⟨g, 0, none⟩) 201 201) ∧ Blk w' g 4 (rB (fun i => inB (lv s l 0 (btw s.s0 s.s1) 0) (i : Int)) 201)) ∧ Below w.heap.size w w' := by
  have hmk := run_make_row' (P := Try.prog) 99 4 (.bool false) 1 Try.underlying99 infoBool rfl .i64 .i64 201 (by omega) (by omega) (w.alloc (.cells (sV s m) 27))
  rw [made_rB] at hmk
  push_cast at hmk
  have hS0 := (Sp.start w s m).alloc (.cells (rB (fun _ => false) 201) 4)
  have hB0 := Blk.new1 w (.cells (sV s m) 27) 4 (rB (fun _ => false) 201)
  obtain ⟨c0, c1, c2, c3, c4, c5, c6, c7, c8⟩ := hS0.bk.space
  obtain ⟨a, ha⟩ : ∃ a : Nat, s.s0 = (a : Int) := ⟨s.s0.toNat, by have := hs.s0; omega⟩
  have hs01 := hs.s01
  have hs1 := hs.s1
  have HA := Lib.hid ha
  have has1 : (a : Int) ≤ s.s1 := by omega
  clear ha
  go_enter Try.func96, Try.ntmps96
  go_wp2_with fail
  obtain ⟨gR, hgR⟩ : ∃ gR, w.heap.size + 1 = gR := ⟨_, rfl⟩
  rw [hgR] at hB0 ⊢
  clear c0 c1 c2 c3 c4 c5 c6 c7 c8 hmk
  go_loopw [6] (fun i wr => ∃ n : Nat, a ≤ n ∧ (n : Int) ≤ s.s1 + 1 ∧ i = .int .i64 n ∧ Sp w s m wr ∧ Hid (Blk wr gR 4 (rB (stB s l (n : Int)) 201))) (fun i _ => 202 - (intOf i).toNat)
  case atStart =>
    refine ⟨a, Nat.le_refl _, by omega, by rw [HA.out], hS0, ?_⟩
    show Blk _ _ _ _
    rw [rB_congr (g := fun _ => false) (fun i _ => stB_start HA.out i)]
    exact hB0
  case round =>
    obtain ⟨n, hn1, hn2, rfl, hS, HB⟩ := hrel
    obtain ⟨c0, c1, c2, c3, c4, c5, c6, c7, c8⟩ := hS.bk.space
    by_cases hle : (n : Int) ≤ s.s1
    · go_wp2_with fail
      refine (agrees_c s m A l c 0 (n : Int) _ hs (hsa.keep hS.sn.1) (hrd.keep hS.sn.1) hro h12 (by omega) (by omega)).mono ?_
      rintro e w2 ⟨rfl, hb2⟩
      have hS2 := hS.keep hb2
      have hB2 := HB.out.keep hb2
      have b0 := hB2.cell n
      rw [rB_get _ (show n < 201 by omega)] at b0
      have f0 := hB2.frozen n
      have hB3 := hB2.set n (.bool (agB s l 0 (n : Int)))
      rw [rB_set, stB_next (by have := HA.out; omega)] at hB3
      have hni : (n : Int) < 201 := by omega
      have hS3 : Sp w s m (w2.setCell ⟨gR, n, none⟩ (.bool (agB s l 0 (n : Int)))) := ⟨⟨hS2.sn.1.setCell (p := ⟨gR, n, none⟩) (by simp; omega) _, by simpa using hS2.sn.2⟩, hS2.bk.far (by omega) _ _⟩
      clear c0 c1 c2 c3 c4 c5 c6 c7 c8 hB2
      go_wp2_with fail
      go_roundw
      case rel => exact ⟨n + 1, by omega, by omega, by go_num, hS3, by push_cast; exact hB3⟩
      case measure => simp [intOf]; omega
    · have HV : Hid (Blk wr gR 4 (rB (fun i => inB (lv s l 0 (btw s.s0 s.s1) 0) (i : Int)) 201)) := by
        show Blk _ _ _ _
        rw [rB_congr (g := stB s l (n : Int)) (fun i _ => ?_)]
        · exact HB.out
        · rw [lv, ← agr_row, ← btw_row]
          unfold stB
          congr 2
          have : ((i : Int) ≤ s.s1) ↔ ((i : Int) < (n : Int)) := by omega
          simp [this]
      go_wp2_with fail
      go_ret
      exact ⟨⟨gR, rfl, HV.out⟩, hS.sn.1⟩
end Td
end Go.Proofs.Ytmofbnadfgejiaa
