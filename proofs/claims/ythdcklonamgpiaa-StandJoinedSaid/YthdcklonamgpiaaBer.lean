import Derived.Test.YthdcklonamgpiaaAns2
/- Bears: whether forces of the ground bear a hull. -/
namespace Go.Proofs.Ythdcklonamgpiaa
open Go.RowKit
namespace Td
set_option linter.unusedSimpArgs false
set_option linter.unusedVariables false
attribute [local go_sem] Oper.semAt_some
theorem bal0_bd {h : Hul} (hh : HBk h) {gs ls : List Int} (ht : TOk h gs ls) {w : Int} (h0 : 0 ≤ w) (h1 : w ≤ 1000) : -50000000 ≤ bal h gs ls 0 w ∧ bal h gs ls 0 w ≤ 50000000 := by
  have h2 := sm_bd (f := term h gs ls 0 w) (B := 5000000) (n := h.parts.length) fun i hi => by
    have hx := hh.ps _ (pa_mem hi)
    have := hx.w0; have := hx.w01; have := hx.w1; have := hx.l0; have := hx.l01; have := hx.l1
    obtain ⟨g0, g1⟩ := ht.gb i hi
    obtain ⟨l0, l1⟩ := ht.lb i hi
    exact prs_bd (g := gs[i]?.getD 0) (l := ls[i]?.getD 0) (by omega) (by omega) (by omega) (by omega) hx h0 h1
  have := hh.n10
  unfold bal
  omega
theorem fo_bd {h : Hul} {all : Int} {l : List (Int × Int)} {k : Nat} (hh : HBk h) (hk : k ≤ l.length) (hl : l.length ≤ 10) (ha : all ≤ 250000000000) (h0 : ∀ j (hj : j < l.length), j < k → okF h.aft h.fore all l[j] = true) :
    (0 ≤ fsum l k ∧ fsum l k ≤ 2500000000000) ∧ (0 ≤ fturn h.aft l k ∧ fturn h.aft l k ≤ 12500000000000000) := by
  have hb : ∀ j, j < k → (0 ≤ (fo l j).2 ∧ (fo l j).2 ≤ 250000000000) ∧ (0 ≤ (fo l j).2 * ((fo l j).1 - h.aft) ∧ (fo l j).2 * ((fo l j).1 - h.aft) ≤ 250000000000 * 5000) := fun j hj => by
    have := h0 j (by omega) hj
    rw [fo_at (show j < l.length by omega)]
    simp only [okF, wi, Bool.and_eq_true, decide_eq_true_eq] at this
    have := hh.a0; have := hh.f1
    refine ⟨by omega, ?_⟩
    exact mul_bd (by omega) (by omega) (by omega) (by omega)
  have z : sm (fun _ => 0) k = 0 := by
    have := sm_mul (fun _ => 0) 0 k
    simpa using this
  have a1 : 0 ≤ fsum l k := by rw [← z]; exact sm_le fun i hi => (hb i hi).1.1
  have a2 : 0 ≤ fturn h.aft l k := by rw [← z]; exact sm_le fun i hi => (hb i hi).2.1
  have b1 := sm_bd (f := fun i => (fo l i).2) (B := 250000000000) (n := k) fun i hi => by have := (hb i hi).1; omega
  have b2 := sm_bd (f := fun i => (fo l i).2 * ((fo l i).1 - h.aft)) (B := 250000000000 * 5000) (n := k) fun i hi => by have := (hb i hi).2; omega
  unfold fsum fturn at *
  omega
theorem brs_no {h : Hul} {d a : Int} {l : List (Int × Int)} {k : Nat} (hk : k < l.length) (hf : okF h.aft h.fore (d * (h.fore - h.aft)) l[k] = false) : brs h d a l = false := by
  unfold brs
  have : l.all (okF h.aft h.fore (d * (h.fore - h.aft))) = false := by
    rw [Bool.eq_false_iff, Ne, List.all_eq_true]
    intro ha
    have := ha _ (List.getElem_mem hk)
    rw [hf] at this; cases this
  rw [this]; rfl
theorem brs_end {h : Hul} {d a : Int} {l : List (Int × Int)} (h0 : ∀ j (hj : j < l.length), okF h.aft h.fore (d * (h.fore - h.aft)) l[j] = true) : brs h d a l = (decide (0 < d) && decide (fsum l l.length = d * (h.fore - h.aft)) && decide (fturn h.aft l l.length = a * (h.fore - h.aft))) := by
  unfold brs
  have : l.all (okF h.aft h.fore (d * (h.fore - h.aft))) = true := by
    rw [List.all_eq_true]
    intro x hx
    obtain ⟨j, hj, rfl⟩ := List.mem_iff_getElem.1 hx
    exact h0 j hj
  rw [this, Bool.true_and]
set_option maxRecDepth 100000 in
set_option maxHeartbeats 4000000 in
theorem Bears_c (h : Hul) (m : Sl) (GA : Option Addr) (gs : List Int) (gc : Nat) (LA : Option Addr) (ls : List Int) (lc : Nat) (wt : Int) (FA : Option Addr) (l : List (Int × Int)) (fc : Nat) (w : World) (hp : HAt w m h) (hG : InAt w GA gs) (hL : InAt w LA ls) (hF : FoAt w FA l) (hlM : l.length ≤ 9223372036854775807) :
    Calls Try.prog 25 #[.agg (hV h m), .agg (tV GA gs.length gc LA ls.length lc), .int .i64 wt, .slice FA l.length fc] w fun e w' => e = .returned (.tuple #[.bool (bearsA h gs ls wt l).1, .int .i64 (bearsA h gs ls wt l).2]) ∧ Below w.heap.size w w' := by
  obtain ⟨E, hE⟩ : ∃ E, bearsA h gs ls wt l = E := ⟨_, rfl⟩
  rw [hE]
  unfold bearsA at hE
  have hs0 := ((Since.refl w).alloc (.cells (hV h m) 24)).alloc (.cells (tV GA gs.length gc LA ls.length lc) 27)
  have HH := Lib.hid ((Blk.new w 24 (hV h m)).alloc (.cells (tV GA gs.length gc LA ls.length lc) 27))
  obtain ⟨c0, c1, c2⟩ := HH.out.hull
  go_enter Try.func25, Try.ntmps25
  go_wp2_with fail
  refine (Balance_c h m GA gs gc LA ls lc wt _ (hp.keep hs0.1) (hG.keep hs0.1) (hL.keep hs0.1)).mono ?_
  rintro e w1 ⟨rfl, hb1⟩
  have hs1 := hs0.keep hb1
  have HH1 := Lib.hid (HH.out.keep hb1)
  clear c0 c1 c2 HH
  by_cases hc : balE h gs ls wt = 0
  · have HB : Hid (balanceA h gs ls wt = ((bal h gs ls 0 wt, bal h gs ls 1 wt, bal h gs ls 2 wt), 0)) := by show _ = _; simp [balanceA, hc]
    obtain ⟨hc1, ht, hw0, hw1⟩ := balE_ok.1 hc
    have hh := (chk_ok hc1).bk
    have hd := bal0_bd hh ht hw0 hw1
    have ha := tsm_bd hh ht 1 hw0 hw1 (Nat.le_refl _)
    rw [if_neg (by simpa using hc)] at hE
    rw [HB.out]
    clear hc HB hc1 ht
    change -250000000000 ≤ bal h gs ls 1 wt ∧ bal h gs ls 1 wt ≤ 250000000000 at ha
    obtain ⟨d, hd'⟩ : ∃ d, bal h gs ls 0 wt = d := ⟨_, rfl⟩
    obtain ⟨a, ha'⟩ : ∃ a, bal h gs ls 1 wt = a := ⟨_, rfl⟩
    obtain ⟨f, hf'⟩ : ∃ f, bal h gs ls 2 wt = f := ⟨_, rfl⟩
    rw [hd', ha'] at hE
    rw [hd', ha', hf']
    rw [hd'] at hd
    rw [ha'] at ha
    clear hd' ha' hf'
    have hs2 := hs1.alloc (.cells (b3 (d, a, f)) 32)
    have HH2 := Lib.hid (HH1.out.alloc (.cells (b3 (d, a, f)) 32))
    have HB2 := Lib.hid (Blk.new w1 32 (b3 (d, a, f)))
    by_cases hl : 10 < l.length
    · rw [if_pos hl] at hE
      subst hE
      have hl' : (10 : Int) < (l.length : Int) := by omega
      go_wp2_with fail
      go_ret2
      exact ⟨rfl, hs2.1⟩
    · rw [if_neg hl] at hE
      have hl10 : l.length ≤ 10 := by omega
      have hl' : ¬ (10 : Int) < (l.length : Int) := by omega
      clear hl
      obtain ⟨len, hlen⟩ : ∃ len, h.fore - h.aft = len := ⟨_, rfl⟩
      have hlb : 0 < len ∧ len ≤ 5000 := by have := hh.af; have := hh.a0; have := hh.f1; omega
      have hmul := mul_bd2 (a := d) (A := 50000000) (b := len) (B := 5000) (by omega) (by omega) (by omega) (by omega)
      have hmu2 := mul_bd2 (a := a) (A := 250000000000) (b := len) (B := 5000) (by omega) (by omega) (by omega) (by omega)
      obtain ⟨all, hall⟩ : ∃ all, d * len = all := ⟨_, rfl⟩
      have e1 : IntKind.i64.wrap (h.fore - h.aft) = len := by rw [hlen]; exact IntWalk.i64_in _ (by omega)
      have e2 : IntKind.i64.wrap (d * len) = all := by rw [hall]; exact IntWalk.i64_in _ (by omega)
      have e3 : IntKind.i64.wrap (a * len) = a * len := IntWalk.i64_in _ (by omega)
      have hab : all ≤ 250000000000 := by omega
      have HLEN := Lib.hid hlen
      have HALL := Lib.hid hall
      have HA0 := hh.a0
      have HF1 := hh.f1
      have HAF := hh.af
      clear hlen hall hmul hmu2
      obtain ⟨c0, c1, c2⟩ := HH2.out.hull
      have d0 := HB2.out.cell 0
      simp only [List.getElem?_toArray, List.getElem?_cons_zero, List.getElem?_cons_succ] at d0
      go_wp2_with fail
      clear c0 c1 c2 d0 e1 e2
      obtain ⟨wb, hwb⟩ : ∃ wb, w1.heap.size = wb := ⟨_, rfl⟩
      rw [hwb] at HB2 ⊢
      clear hwb HH1 hs1
      go_loopw [14, 15, 42] (fun tv uv i wr => ∃ k : Nat, k ≤ l.length ∧ i = .int .i64 k ∧ tv = .int .i64 (fsum l k) ∧ uv = .int .i64 (fturn h.aft l k) ∧ Hid (Since w wr) ∧ Hid (Blk wr w.heap.size 24 (hV h m)) ∧ Hid (Blk wr wb 32 (b3 (d, a, f))) ∧ Hid (∀ j (hj : j < l.length), j < k → okF h.aft h.fore all l[j] = true)) (fun _ _ i _ => l.length - (intOf i).toNat)
      case atStart => exact ⟨0, by omega, rfl, rfl, rfl, hs2, HH2, HB2, fun j _ hj => absurd hj (by omega)⟩
      case round =>
        obtain ⟨k, hk, rfl, rfl, rfl, HSn, HHk, HBk', H0⟩ := hrel
        have hbd := fo_bd hh hk hl10 hab H0.out
        by_cases hlt : k < l.length
        · obtain ⟨ad, hA, z0, z1⟩ := (hF.keep HSn.out.1).get hlt
          obtain ⟨c0, c1, c2⟩ := (HHk.out.alloc (.cells #[.int .i64 l[k].1, .int .i64 l[k].2] 57)).hull
          have hs3 := HSn.out.alloc (.cells #[.int .i64 l[k].1, .int .i64 l[k].2] 57)
          have HH3 := Lib.hid (HHk.out.alloc (.cells #[.int .i64 l[k].1, .int .i64 l[k].2] 57))
          have HB3 := Lib.hid (HBk'.out.alloc (.cells #[.int .i64 l[k].1, .int .i64 l[k].2] 57))
          have HE3 := Lib.hid (Blk.new wr 57 #[.int .i64 l[k].1, .int .i64 l[k].2])
          subst hA
          go_wp2_with fail
          refine (within_c _ _ _ _ _ _ (Blk.new1 _ _ _ _)).mono ?_
          rintro e w4 ⟨rfl, hb4⟩
          have hs4 := (hs3.alloc _).keep hb4
          have HH4 := Lib.hid ((HH3.out.alloc _).keep hb4)
          have HB4 := Lib.hid ((HB3.out.alloc _).keep hb4)
          have HE4 := Lib.hid ((HE3.out.alloc _).keep hb4)
          obtain ⟨es, hes⟩ : ∃ es, wr.heap.size = es := ⟨_, rfl⟩
          rw [hes] at HE4 ⊢
          clear c0 c1 c2 z0 z1 hs3 HH3 HB3 HE3 hb4 hes
          rcases Bool.eq_false_or_eq_true (wi h.aft h.fore l[k].1) with h1 | h1
          · rw [h1]
            have HW1 := Lib.hid h1
            clear h1
            have g0 := HE4.out.cell 0
            have g1 := HE4.out.cell 1
            simp only [List.getElem?_toArray, List.getElem?_cons_zero, List.getElem?_cons_succ] at g0 g1
            go_wp2_with fail
            refine (within_c _ _ _ _ _ _ (Blk.new _ _ _)).mono ?_
            rintro e w5 ⟨rfl, hb5⟩
            have hs5 := (hs4.alloc _).keep hb5
            have HH5 := Lib.hid ((HH4.out.alloc _).keep hb5)
            have HB5 := Lib.hid ((HB4.out.alloc _).keep hb5)
            have HE5 := Lib.hid ((HE4.out.alloc _).keep hb5)
            clear g0 g1 hs4 HH4 HB4 HE4 hb5
            rcases Bool.eq_false_or_eq_true (wi 0 all l[k].2) with h2 | h2
            · rw [h2]
              have HOK : Hid (∀ j (hj : j < l.length), j < k + 1 → okF h.aft h.fore all l[j] = true) := fun j hj hjk => by
                rcases Nat.lt_or_ge j k with h3 | h3
                · exact H0.out j hj h3
                · obtain rfl : j = k := by omega
                  unfold okF
                  rw [HW1.out, h2]; rfl
              have hbn := fo_bd hh (show k + 1 ≤ l.length by omega) hl10 hab HOK.out
              have s1 : fsum l (k + 1) = fsum l k + l[k].2 := by unfold fsum; simp only [sm]; rw [fo_at hlt]
              have s2 : fturn h.aft l (k + 1) = fturn h.aft l k + l[k].2 * (l[k].1 - h.aft) := by unfold fturn; simp only [sm]; rw [fo_at hlt]
              have hW1 := wi_iff.1 HW1.out
              have hW2 := wi_iff.1 h2
              have e4 : IntKind.i64.wrap (fsum l k + l[k].2) = fsum l (k + 1) := by rw [← s1]; exact IntWalk.i64_in _ (by omega)
              have e5 : IntKind.i64.wrap (l[k].1 - h.aft) = l[k].1 - h.aft := IntWalk.i64_in _ (by omega)
              have e6 : IntKind.i64.wrap (l[k].2 * (l[k].1 - h.aft)) = l[k].2 * (l[k].1 - h.aft) := IntWalk.i64_in _ (by have := mul_bd hW2.1 (show l[k].2 ≤ 250000000000 by omega) (b := l[k].1 - h.aft) (B := 5000) (by omega) (by omega); omega)
              have e7 : IntKind.i64.wrap (fturn h.aft l k + l[k].2 * (l[k].1 - h.aft)) = fturn h.aft l (k + 1) := by rw [← s2]; exact IntWalk.i64_in _ (by omega)
              obtain ⟨c0, c1, c2⟩ := HH5.out.hull
              have g0 := HE5.out.cell 0
              have g1 := HE5.out.cell 1
              simp only [List.getElem?_toArray, List.getElem?_cons_zero, List.getElem?_cons_succ] at g0 g1
              clear h2 s1 s2 hbn hW1 hW2
              go_wp2_with fail
              go_roundw
              case rel => exact ⟨k + 1, by omega, by go_num, rfl, rfl, hs5, HH5, HB5, HOK⟩
              case measure => simp [intOf]; omega
            · have HV : Hid (E = (false, 0)) := by
                show _ = _
                rw [← hE, brs_no (k := k) hlt]
                rw [HLEN.out, HALL.out]
                unfold okF; rw [h2, Bool.and_false]
              rw [h2]
              clear h2 hE
              go_wp2_with fail
              go_ret2
              exact ⟨by rw [HV.out]; rfl, hs5.1⟩
          · have HV : Hid (E = (false, 0)) := by
              show _ = _
              rw [← hE, brs_no (k := k) hlt]
              unfold okF; rw [h1, Bool.false_and]
            rw [h1]
            clear h1 hE
            go_wp2_with fail
            go_ret2
            exact ⟨by rw [HV.out]; rfl, hs4.1⟩
        · obtain rfl : k = l.length := by omega
          have HV : Hid (E = ((decide (0 < d) && decide (fsum l l.length = all) && decide (fturn h.aft l l.length = a * len)), 0)) := by
            show _ = _
            rw [← hE, brs_end (fun j hj => by rw [HLEN.out, HALL.out]; exact H0.out j hj hj), HLEN.out, HALL.out]
          clear hE
          have d0 := HBk'.out.cell 0
          have d1 := HBk'.out.cell 1
          simp only [List.getElem?_toArray, List.getElem?_cons_zero, List.getElem?_cons_succ] at d0 d1
          by_cases g1 : 0 < d
          · by_cases g2 : fsum l l.length = all
            · have g2' : (fsum l l.length == all) = true := by simpa using g2
              have HV2 : Hid (E = (decide (fturn h.aft l l.length = a * len), 0)) := by show _ = _; rw [HV.out]; simp [g1, g2]
              clear g2
              go_wp2_with fail
              go_ret2
              exact ⟨by rw [HV2.out]; rfl, HSn.out.1⟩
            · have g2' : (fsum l l.length == all) = false := by simpa using g2
              have HV2 : Hid (E = (false, 0)) := by show _ = _; rw [HV.out]; simp [g2]
              clear g2
              go_wp2_with fail
              go_ret2
              exact ⟨by rw [HV2.out]; rfl, HSn.out.1⟩
          · have HV2 : Hid (E = (false, 0)) := by show _ = _; rw [HV.out]; simp [g1]
            go_wp2_with fail
            go_ret2
            exact ⟨by rw [HV2.out]; rfl, HSn.out.1⟩
  · have HB : Hid (balanceA h gs ls wt = ((0, 0, 0), balE h gs ls wt)) := by show _ = _; simp [balanceA, hc]
    rw [if_pos (by simpa using hc)] at hE
    subst hE
    rw [HB.out]
    have hc' : (balE h gs ls wt != 0) = true := by simpa using hc
    clear hc HB
    have hs2 := hs1.alloc (.cells (b3 (0, 0, 0)) 32)
    go_wp2_with fail
    go_ret2
    exact ⟨rfl, hs2.1⟩
end Td
end Go.Proofs.Ythdcklonamgpiaa
