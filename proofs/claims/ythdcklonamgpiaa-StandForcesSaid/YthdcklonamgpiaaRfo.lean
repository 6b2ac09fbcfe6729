import Derived.Test.YthdcklonamgpiaaRsm
import Derived.Test.YthdcklonamgpiaaBer
import Derived.Test.YthdcklonamgpiaaExa
/- The reference's forces, and whether forces bear a hull. -/
namespace Go.Proofs.Ythdcklonamgpiaa
open Go.RowKit
namespace Td
set_option linter.unusedSimpArgs false
set_option linter.unusedVariables false
attribute [local go_sem] Oper.semAt_some
set_option maxRecDepth 100000 in
set_option maxHeartbeats 4000000 in
theorem rforces_c (h : Hul) (m : Sl) (GA : Option Addr) (gs : List Int) (gc : Nat) (LA : Option Addr) (ls : List Int) (lc : Nat) (wt : Int) (w : World) (hp : HAt w m h) (hG : InAt w GA gs) (hL : InAt w LA ls) :
    Calls Try.prog 23 #[.agg (hV h m), .agg (tV GA gs.length gc LA ls.length lc), .int .i64 wt] w fun e w' => (∃ v, e = .returned (.tuple #[v, .int .i64 (forcesA h gs ls wt).2]) ∧ Fv w' v (forcesA h gs ls wt).1) ∧ Below w.heap.size w w' := by
  obtain ⟨F, hF⟩ : ∃ F, forcesA h gs ls wt = F := ⟨_, rfl⟩
  rw [hF]
  unfold forcesA at hF
  have hs0 := ((Since.refl w).alloc (.cells (hV h m) 24)).alloc (.cells (tV GA gs.length gc LA ls.length lc) 27)
  have HH := Lib.hid ((Blk.new w 24 (hV h m)).alloc (.cells (tV GA gs.length gc LA ls.length lc) 27))
  have HX := Lib.hid (Blk.new1 w (.cells (hV h m) 24) 27 (tV GA gs.length gc LA ls.length lc))
  obtain ⟨c0, c1, c2⟩ := HH.out.hull
  have x0 := HX.out.cell 0
  have x1 := HX.out.cell 1
  simp only [List.getElem?_toArray, List.getElem?_cons_zero, List.getElem?_cons_succ] at x0 x1
  go_enter Try.func23, Try.ntmps23
  go_wp2_with fail
  refine (rbalance_c h m GA gs gc LA ls lc wt _ (hp.keep hs0.1) (hG.keep hs0.1) (hL.keep hs0.1)).mono ?_
  rintro e w1 ⟨rfl, hb1⟩
  have hs1 := hs0.keep hb1
  have HH1 := Lib.hid (HH.out.keep hb1)
  clear c0 c1 c2 HH HX x0 x1
  by_cases hc : balE h gs ls wt = 0
  · have HB : Hid (balanceA h gs ls wt = ((bal h gs ls 0 wt, bal h gs ls 1 wt, bal h gs ls 2 wt), 0)) := by show _ = _; simp [balanceA, hc]
    rw [if_neg (by simpa using hc)] at hF
    rw [HB.out]
    clear hc HB
    have hs2 := hs1.alloc (.cells (b3 (bal h gs ls 0 wt, bal h gs ls 1 wt, bal h gs ls 2 wt)) 32)
    have HH2 := Lib.hid (HH1.out.alloc (.cells (b3 (bal h gs ls 0 wt, bal h gs ls 1 wt, bal h gs ls 2 wt)) 32))
    have HB2 := Lib.hid (Blk.new w1 32 (b3 (bal h gs ls 0 wt, bal h gs ls 1 wt, bal h gs ls 2 wt)))
    have d0 := HB2.out.cell 0
    have d1 := HB2.out.cell 1
    have d2 := HB2.out.cell 2
    simp only [List.getElem?_toArray, List.getElem?_cons_zero, List.getElem?_cons_succ] at d0 d1 d2
    go_wp2_with fail
    refine (reason_c _ _ _ _).mono ?_
    rintro e w2 ⟨rfl, hb2⟩
    have hs4 := hs2.keep hb2
    have HH4 := Lib.hid (HH2.out.keep hb2)
    have HB4 := Lib.hid (HB2.out.keep hb2)
    clear d0 d1 d2 hb2 HH2 HB2
    obtain ⟨y, hy⟩ : ∃ y, whyB (bal h gs ls 0 wt) (bal h gs ls 1 wt) (bal h gs ls 2 wt) = y := ⟨_, rfl⟩
    rw [hy] at hF ⊢
    clear hy
    by_cases hy0 : y = 0
    · subst hy0
      rw [if_neg (by simp)] at hF
      subst hF
      obtain ⟨c0, c1, c2⟩ := HH4.out.hull
      have d0 := HB4.out.cell 0
      have d1 := HB4.out.cell 1
      have d2 := HB4.out.cell 2
      simp only [List.getElem?_toArray, List.getElem?_cons_zero, List.getElem?_cons_succ] at d0 d1 d2
      have HN := Lib.hid (Blk.new w2 57 #[.int .i64 h.aft, .int .i64 (bal h gs ls 2 wt), .int .i64 h.fore, .int .i64 (bal h gs ls 1 wt)])
      have hs5 := hs4.alloc (.cells #[.int .i64 h.aft, .int .i64 (bal h gs ls 2 wt), .int .i64 h.fore, .int .i64 (bal h gs ls 1 wt)] 57)
      go_wp2_with fail
      go_ret2
      exact ⟨⟨_, rfl, _, 2, rfl, SpAt.two (p := (h.aft, bal h gs ls 2 wt)) (r := (h.fore, bal h gs ls 1 wt)) HN.out, by simp, by omega⟩, hs5.1⟩
    · rw [if_pos (by simpa using hy0)] at hF
      subst hF
      have hy' : (y != 0) = true := by simpa using hy0
      clear hy0
      go_wp2_with fail
      go_ret2
      exact ⟨⟨_, rfl, none, 0, rfl, fun hx => absurd rfl hx, by simp, by omega⟩, hs4.1⟩
  · have HB : Hid (balanceA h gs ls wt = ((0, 0, 0), balE h gs ls wt)) := by show _ = _; simp [balanceA, hc]
    rw [if_pos (by simpa using hc)] at hF
    subst hF
    rw [HB.out]
    have hc' : (balE h gs ls wt != 0) = true := by simpa using hc
    have hc2 : (balE h gs ls wt == 0) = false := by simpa using hc
    clear hc HB
    have hs2 := hs1.alloc (.cells (b3 (0, 0, 0)) 32)
    go_wp2_with fail
    go_ret2
    exact ⟨⟨_, rfl, none, 0, rfl, fun hx => absurd rfl hx, by simp, by omega⟩, hs2.1⟩
theorem okF_iff {a f all : Int} {x : Int × Int} : okF a f all x = true ↔ a ≤ x.1 ∧ x.1 ≤ f ∧ 0 ≤ x.2 ∧ x.2 ≤ all := by
  unfold okF; rw [Bool.and_eq_true, wi_iff, wi_iff]; omega
theorem fsum_next {l : List (Int × Int)} {k : Nat} (hk : k < l.length) : fsum l (k + 1) = fsum l k + l[k].2 := by unfold fsum; simp only [sm]; rw [fo_at hk]
theorem fturn_next {a : Int} {l : List (Int × Int)} {k : Nat} (hk : k < l.length) : fturn a l (k + 1) = fturn a l k + l[k].2 * (l[k].1 - a) := by unfold fturn; simp only [sm]; rw [fo_at hk]
/-- a force that is more than what is left. -/
theorem brs_over {h : Hul} {d a : Int} {l : List (Int × Int)} {k : Nat} (hk : k < l.length) (ho : d * (h.fore - h.aft) - fsum l k < l[k].2) : brs h d a l = false := by
  rw [Bool.eq_false_iff]
  intro hb
  unfold brs at hb
  simp only [Bool.and_eq_true, List.all_eq_true, decide_eq_true_eq] at hb
  obtain ⟨⟨⟨h1, -⟩, h2⟩, -⟩ := hb
  have mono : ∀ n, k + 1 + n ≤ l.length → fsum l (k + 1) ≤ fsum l (k + 1 + n) := by
    intro n
    induction n with
    | zero => intro _; exact Int.le_refl _
    | succ n ih =>
      intro hn
      have := ih (by omega)
      rw [show k + 1 + (n + 1) = (k + 1 + n) + 1 by omega, fsum_next (show k + 1 + n < l.length by omega)]
      have h3 := okF_iff.1 (h1 _ (List.getElem_mem (show k + 1 + n < l.length by omega)))
      omega
  have := mono (l.length - (k + 1)) (by omega)
  rw [show k + 1 + (l.length - (k + 1)) = l.length by omega, fsum_next hk] at this
  omega
set_option maxRecDepth 100000 in
set_option maxHeartbeats 8000000 in
theorem rbears_c (h : Hul) (m : Sl) (GA : Option Addr) (gs : List Int) (gc : Nat) (LA : Option Addr) (ls : List Int) (lc : Nat) (wt : Int) (FA : Option Addr) (l : List (Int × Int)) (fc : Nat) (w : World) (hp : HAt w m h) (hG : InAt w GA gs) (hL : InAt w LA ls) (hF : FoAt w FA l) (hlM : l.length ≤ 9223372036854775807) :
    Calls Try.prog 26 #[.agg (hV h m), .agg (tV GA gs.length gc LA ls.length lc), .int .i64 wt, .slice FA l.length fc] w fun e w' => e = .returned (.tuple #[.bool (bearsA h gs ls wt l).1, .int .i64 (bearsA h gs ls wt l).2]) ∧ Below w.heap.size w w' := by
  obtain ⟨E, hE⟩ : ∃ E, bearsA h gs ls wt l = E := ⟨_, rfl⟩
  rw [hE]
  unfold bearsA at hE
  have hs0 := ((Since.refl w).alloc (.cells (hV h m) 24)).alloc (.cells (tV GA gs.length gc LA ls.length lc) 27)
  have HH := Lib.hid ((Blk.new w 24 (hV h m)).alloc (.cells (tV GA gs.length gc LA ls.length lc) 27))
  have HX := Lib.hid (Blk.new1 w (.cells (hV h m) 24) 27 (tV GA gs.length gc LA ls.length lc))
  obtain ⟨c0, c1, c2⟩ := HH.out.hull
  have x0 := HX.out.cell 0
  have x1 := HX.out.cell 1
  simp only [List.getElem?_toArray, List.getElem?_cons_zero, List.getElem?_cons_succ] at x0 x1
  go_enter Try.func26, Try.ntmps26
  go_wp2_with fail
  refine (rbalance_c h m GA gs gc LA ls lc wt _ (hp.keep hs0.1) (hG.keep hs0.1) (hL.keep hs0.1)).mono ?_
  rintro e w1 ⟨rfl, hb1⟩
  have hs1 := hs0.keep hb1
  have HH1 := Lib.hid (HH.out.keep hb1)
  clear c0 c1 c2 HH HX x0 x1
  by_cases hc : balE h gs ls wt = 0
  · have HB : Hid (balanceA h gs ls wt = ((bal h gs ls 0 wt, bal h gs ls 1 wt, bal h gs ls 2 wt), 0)) := by show _ = _; simp [balanceA, hc]
    obtain ⟨hc1, ht, hw0, hw1⟩ := balE_ok.1 hc
    have hh := (chk_ok hc1).bk
    have hd := bal0_bd hh ht hw0 hw1
    have ha := tsm_bd hh ht 1 hw0 hw1 (Nat.le_refl _)
    rw [if_neg (by simpa using hc)] at hE
    rw [HB.out]
    clear hc HB hc1 ht
    change -250000000000 ≤ bal h gs ls 1 wt ∧ bal h gs ls 1 wt ≤ 250000000000 at ha
    obtain ⟨d, hd'⟩ : ∃ d, bal h gs ls 0 wt = d := ⟨_, rfl⟩
    obtain ⟨a, ha'⟩ : ∃ a, bal h gs ls 1 wt = a := ⟨_, rfl⟩
    obtain ⟨f, hf'⟩ : ∃ f, bal h gs ls 2 wt = f := ⟨_, rfl⟩
    rw [hd', ha'] at hE
    rw [hd', ha', hf']
    rw [hd'] at hd
    rw [ha'] at ha
    clear hd' ha' hf'
    have hs2 := hs1.alloc (.cells (b3 (d, a, f)) 32)
    have HH2 := Lib.hid (HH1.out.alloc (.cells (b3 (d, a, f)) 32))
    have HB2 := Lib.hid (Blk.new w1 32 (b3 (d, a, f)))
    by_cases hl : 10 < l.length
    · rw [if_pos hl] at hE
      subst hE
      have hl' : (10 : Int) < (l.length : Int) := by omega
      go_wp2_with fail
      go_ret2
      exact ⟨rfl, hs2.1⟩
    · rw [if_neg hl] at hE
      have hl10 : l.length ≤ 10 := by omega
      have hl' : ¬ (10 : Int) < (l.length : Int) := by omega
      clear hl
      obtain ⟨len, hlen⟩ : ∃ len, h.fore - h.aft = len := ⟨_, rfl⟩
      have hlb : 0 < len ∧ len ≤ 5000 := by have := hh.af; have := hh.a0; have := hh.f1; omega
      have hmul := mul_bd2 (a := d) (A := 50000000) (b := len) (B := 5000) (by omega) (by omega) (by omega) (by omega)
      have hmu2 := mul_bd2 (a := a) (A := 250000000000) (b := len) (B := 5000) (by omega) (by omega) (by omega) (by omega)
      obtain ⟨all, hall⟩ : ∃ all, d * len = all := ⟨_, rfl⟩
      obtain ⟨tot, htot⟩ : ∃ tot, a * len = tot := ⟨_, rfl⟩
      rw [htot] at hmu2
      have e1 : IntKind.i64.wrap (h.fore - h.aft) = len := by rw [hlen]; exact IntWalk.i64_in _ (by omega)
      have e2 : IntKind.i64.wrap (d * len) = all := by rw [hall]; exact IntWalk.i64_in _ (by omega)
      have e3 : IntKind.i64.wrap (a * len) = tot := by rw [htot]; exact IntWalk.i64_in _ (by omega)
      have hab : all ≤ 250000000000 := by omega
      have HLEN := Lib.hid hlen
      have HALL := Lib.hid hall
      have HTOT := Lib.hid htot
      have HA0 := hh.a0
      have HF1 := hh.f1
      have HAF := hh.af
      clear hlen hall hmul htot
      obtain ⟨c0, c1, c2⟩ := HH2.out.hull
      have d0 := HB2.out.cell 0
      have d1 := HB2.out.cell 1
      simp only [List.getElem?_toArray, List.getElem?_cons_zero, List.getElem?_cons_succ] at d0 d1
      by_cases hdp : d ≤ 0
      · have HV : Hid (E = (false, 0)) := by
          show _ = _
          rw [← hE]
          unfold brs
          rw [decide_eq_false (show ¬ 0 < d by omega)]
          simp
        clear hE
        go_wp2_with fail
        go_ret2
        exact ⟨by rw [HV.out]; rfl, hs2.1⟩
      have hdn : ¬ d ≤ 0 := hdp
      go_wp2_with fail
      clear c0 c1 c2 d0 d1 e1 e2 e3 hdp
      obtain ⟨wb, hwb⟩ : ∃ wb, w1.heap.size = wb := ⟨_, rfl⟩
      rw [hwb] at HB2 ⊢
      clear hwb HH1 hs1
      go_loopw [12, 13, 14] (fun tv uv i wr => ∃ k : Nat, k ≤ l.length ∧ i = .int .i64 k ∧ tv = .int .i64 (all - fsum l k) ∧ uv = .int .i64 (tot - fturn h.aft l k) ∧ Hid (Since w wr) ∧ Hid (Blk wr w.heap.size 24 (hV h m)) ∧ Hid (∀ j (hj : j < l.length), j < k → okF h.aft h.fore all l[j] = true) ∧ Hid (fsum l k ≤ all)) (fun _ _ i _ => l.length - (intOf i).toNat)
      case atStart => exact ⟨0, by omega, rfl, by simp [fsum, sm], by simp [fturn, sm], hs2, HH2, fun j _ hj => absurd hj (by omega), by show fsum l 0 ≤ all; simp only [fsum, sm]; have h1 := HALL.out; have := Int.mul_pos (show 0 < d by omega) hlb.1; omega⟩
      case round =>
        obtain ⟨k, hk, rfl, rfl, rfl, HSn, HHk, H0, HS⟩ := hrel
        have hbd := fo_bd hh hk hl10 hab H0.out
        have hfs := HS.out
        by_cases hlt : k < l.length
        · obtain ⟨ad, hA, z0, z1⟩ := hF.get hlt
          have HZ0 := Lib.hid z0
          have HZ1 := Lib.hid z1
          clear z0 z1
          subst hA
          obtain ⟨c0, c1, c2⟩ := HHk.out.hull
          have hki : (k : Int) < (l.length : Int) := by omega
          go_wp2_with fail
          clear c0 c1 c2
          obtain ⟨left, hleft⟩ : ∃ left, all - fsum l k = left := ⟨_, rfl⟩
          obtain ⟨turn, hturn⟩ : ∃ turn, tot - fturn h.aft l k = turn := ⟨_, rfl⟩
          obtain ⟨fp, hfp⟩ : ∃ fp, l[k].1 = fp := ⟨_, rfl⟩
          obtain ⟨ff_, hff⟩ : ∃ ff_, l[k].2 = ff_ := ⟨_, rfl⟩
          rw [hfp] at HZ0
          rw [hff] at HZ1
          rw [hleft, hturn]
          have HLF := Lib.hid hleft
          have HTU := Lib.hid hturn
          have HFP := Lib.hid hfp
          have HFF := Lib.hid hff
          have hs3 : Hid (Since w wr) := HSn
          clear hfp hff
          rcases Bool.eq_false_or_eq_true (wi h.aft h.fore fp) with h1 | h1
          · have H1 := Lib.hid h1
            clear h1
            obtain ⟨E2, hE2⟩ : ∃ E2, wi 0 left ff_ = E2 := ⟨_, rfl⟩
            have H2 := Lib.hid hE2
            clear hE2
            refine Vals6.regionAll (fun X => Since w X ∧ Blk X w.heap.size 24 (hV h m)) [some 57, some 58, some 59, some 60, some 61, some 62, some 63, some 64, some 65, some 66, some 67, some 68, some 69, some 70, some 71, some 72, some 73, some 74, some 75, some 76] [.is ?_, .is ?_, .is ?_, .is ?_, .is ?_, .is ?_, .is ?_, .is ?_, .is ?_, .is (.bool true), .is (.bool false), .is (.bool false), .is ?_, .is ?_, .is ?_, .is ?_, .is ?_, .is ?_, .is (.bool E2), .is ?_] (by kernel_rfl) rfl rfl (by kernel_rfl) (by kernel_rfl) (by kernel_rfl) (by kernel_rfl) (by kernel_rfl) (by kernel_rfl) rfl (⟨HSn.out.drew, HHk.out.drew⟩) ?hsteps ?hend
            case hsteps =>
              refine Vals5.Steps.run rfl (Vals5.Stable.is _) ?_ ?_
              · intro a W hS pre old K hK
                have e3 := old 3 _ (by kernel_rfl) rfl
                clear pre old
                simp only [Vals5.fits, Array.getD_eq_getD_getElem?, List.getElem?_toArray, List.getElem?_cons_zero, List.getElem?_cons_succ, Option.getD_some] at e3
                go_simp
                refine hK _ _ hS (Below.refl _ _) ?_
                exact fits_is _ _
              refine Vals5.Steps.run rfl (Vals5.Stable.is _) ?_ ?_
              · intro a W hS pre old K hK
                have e14 := old 14 _ (by kernel_rfl) rfl
                clear pre old
                simp only [Vals5.fits, Array.getD_eq_getD_getElem?, List.getElem?_toArray, List.getElem?_cons_zero, List.getElem?_cons_succ, Option.getD_some] at e14
                go_simp
                refine hK _ _ hS (Below.refl _ _) ?_
                exact fits_is _ _
              refine Vals5.Steps.run rfl (Vals5.Stable.is _) ?_ ?_
              · intro a W hS pre old K hK
                have e57 := pre 0 57 _ (by kernel_rfl) rfl rfl
                have e58 := pre 1 58 _ (by kernel_rfl) rfl rfl
                clear pre old
                simp only [Vals5.fits, Array.getD_eq_getD_getElem?, List.getElem?_toArray, List.getElem?_cons_zero, List.getElem?_cons_succ, Option.getD_some] at e57 e58
                go_simp
                refine hK _ _ hS (Below.refl _ _) ?_
                exact fits_is _ _
              refine Vals5.Steps.run rfl (Vals5.Stable.is _) ?_ ?_
              · intro a W hS pre old K hK
                have e59 := pre 2 59 _ (by kernel_rfl) rfl rfl
                clear pre old
                simp only [Vals5.fits, Array.getD_eq_getD_getElem?, List.getElem?_toArray, List.getElem?_cons_zero, List.getElem?_cons_succ, Option.getD_some] at e59
                go_simp
                refine hK _ _ hS (Below.refl _ _) ?_
                exact fits_is _ _
              refine Vals5.Steps.run rfl (Vals5.Stable.is _) ?_ ?_
              · intro a W hS pre old K hK
                have e60 := pre 3 60 _ (by kernel_rfl) rfl rfl
                clear pre old
                simp only [Vals5.fits, Array.getD_eq_getD_getElem?, List.getElem?_toArray, List.getElem?_cons_zero, List.getElem?_cons_succ, Option.getD_some] at e60
                have hS9 := hS
                obtain ⟨q1, q2⟩ := hS9
                obtain ⟨c0, c1, c2⟩ := q2.hull
                have g0 := keep_cell q1.1 HZ0.out
                have l0 := keep_cell q1.1 HZ1.out
                go_simp
                refine hK _ _ hS (Below.refl _ _) ?_
                exact fits_is _ _
              refine Vals5.Steps.run rfl (Vals5.Stable.is _) ?_ ?_
              · intro a W hS pre old K hK
                have e4 := old 4 _ (by kernel_rfl) rfl
                clear pre old
                simp only [Vals5.fits, Array.getD_eq_getD_getElem?, List.getElem?_toArray, List.getElem?_cons_zero, List.getElem?_cons_succ, Option.getD_some] at e4
                go_simp
                refine hK _ _ hS (Below.refl _ _) ?_
                exact fits_is _ _
              refine Vals5.Steps.run rfl (Vals5.Stable.is _) ?_ ?_
              · intro a W hS pre old K hK
                have e62 := pre 5 62 _ (by kernel_rfl) rfl rfl
                clear pre old
                simp only [Vals5.fits, Array.getD_eq_getD_getElem?, List.getElem?_toArray, List.getElem?_cons_zero, List.getElem?_cons_succ, Option.getD_some] at e62
                have hS9 := hS
                obtain ⟨q1, q2⟩ := hS9
                obtain ⟨c0, c1, c2⟩ := q2.hull
                have g0 := keep_cell q1.1 HZ0.out
                have l0 := keep_cell q1.1 HZ1.out
                go_simp
                refine hK _ _ hS (Below.refl _ _) ?_
                exact fits_is _ _
              refine Vals5.Steps.run rfl (Vals5.Stable.is _) ?_ ?_
              · intro a W hS pre old K hK
                have e4 := old 4 _ (by kernel_rfl) rfl
                clear pre old
                simp only [Vals5.fits, Array.getD_eq_getD_getElem?, List.getElem?_toArray, List.getElem?_cons_zero, List.getElem?_cons_succ, Option.getD_some] at e4
                go_simp
                refine hK _ _ hS (Below.refl _ _) ?_
                exact fits_is _ _
              refine Vals5.Steps.run rfl (Vals5.Stable.is _) ?_ ?_
              · intro a W hS pre old K hK
                have e64 := pre 7 64 _ (by kernel_rfl) rfl rfl
                clear pre old
                simp only [Vals5.fits, Array.getD_eq_getD_getElem?, List.getElem?_toArray, List.getElem?_cons_zero, List.getElem?_cons_succ, Option.getD_some] at e64
                have hS9 := hS
                obtain ⟨q1, q2⟩ := hS9
                obtain ⟨c0, c1, c2⟩ := q2.hull
                have g0 := keep_cell q1.1 HZ0.out
                have l0 := keep_cell q1.1 HZ1.out
                go_simp
                refine hK _ _ hS (Below.refl _ _) ?_
                exact fits_is _ _
              refine Vals5.Steps.run rfl (Vals5.Stable.is _) ?_ ?_
              · intro a W hS pre old K hK
                have e61 := pre 4 61 _ (by kernel_rfl) rfl rfl
                have e63 := pre 6 63 _ (by kernel_rfl) rfl rfl
                have e65 := pre 8 65 _ (by kernel_rfl) rfl rfl
                clear pre old
                simp only [Vals5.fits, Array.getD_eq_getD_getElem?, List.getElem?_toArray, List.getElem?_cons_zero, List.getElem?_cons_succ, Option.getD_some] at e61 e63 e65
                have hC := rin_c h.aft h.fore fp W
                rw [H1.out] at hC
                go_simp
                refine hC.mono ?_
                rintro e w' ⟨rfl, rfl⟩
                refine hK _ _ hS (Below.refl _ _) ?_
                exact fits_is _ _
              refine Vals5.Steps.run rfl (Vals5.Stable.is _) ?_ ?_
              · intro a W hS pre old K hK
                have e66 := pre 9 66 _ (by kernel_rfl) rfl rfl
                clear pre old
                simp only [Vals5.fits, Array.getD_eq_getD_getElem?, List.getElem?_toArray, List.getElem?_cons_zero, List.getElem?_cons_succ, Option.getD_some] at e66
                go_simp
                refine hK _ _ hS (Below.refl _ _) ?_
                exact fits_is _ _
              refine Vals5.Steps.run rfl (Vals5.Stable.is _) ?_ ?_
              · intro a W hS pre old K hK
                have e67 := pre 10 67 _ (by kernel_rfl) rfl rfl
                clear pre old
                simp only [Vals5.fits, Array.getD_eq_getD_getElem?, List.getElem?_toArray, List.getElem?_cons_zero, List.getElem?_cons_succ, Option.getD_some] at e67
                go_simp
                refine hK _ _ hS (Below.refl _ _) ?_
                exact fits_is _ _
              refine Vals5.Steps.run rfl (Vals5.Stable.is _) ?_ ?_
              · intro a W hS pre old K hK
                have e3 := old 3 _ (by kernel_rfl) rfl
                clear pre old
                simp only [Vals5.fits, Array.getD_eq_getD_getElem?, List.getElem?_toArray, List.getElem?_cons_zero, List.getElem?_cons_succ, Option.getD_some] at e3
                go_simp
                refine hK _ _ hS (Below.refl _ _) ?_
                exact fits_is _ _
              refine Vals5.Steps.run rfl (Vals5.Stable.is _) ?_ ?_
              · intro a W hS pre old K hK
                have e14 := old 14 _ (by kernel_rfl) rfl
                clear pre old
                simp only [Vals5.fits, Array.getD_eq_getD_getElem?, List.getElem?_toArray, List.getElem?_cons_zero, List.getElem?_cons_succ, Option.getD_some] at e14
                go_simp
                refine hK _ _ hS (Below.refl _ _) ?_
                exact fits_is _ _
              refine Vals5.Steps.run rfl (Vals5.Stable.is _) ?_ ?_
              · intro a W hS pre old K hK
                have e69 := pre 12 69 _ (by kernel_rfl) rfl rfl
                have e70 := pre 13 70 _ (by kernel_rfl) rfl rfl
                clear pre old
                simp only [Vals5.fits, Array.getD_eq_getD_getElem?, List.getElem?_toArray, List.getElem?_cons_zero, List.getElem?_cons_succ, Option.getD_some] at e69 e70
                go_simp
                refine hK _ _ hS (Below.refl _ _) ?_
                exact fits_is _ _
              refine Vals5.Steps.run rfl (Vals5.Stable.is _) ?_ ?_
              · intro a W hS pre old K hK
                have e71 := pre 14 71 _ (by kernel_rfl) rfl rfl
                clear pre old
                simp only [Vals5.fits, Array.getD_eq_getD_getElem?, List.getElem?_toArray, List.getElem?_cons_zero, List.getElem?_cons_succ, Option.getD_some] at e71
                go_simp
                refine hK _ _ hS (Below.refl _ _) ?_
                exact fits_is _ _
              refine Vals5.Steps.run rfl (Vals5.Stable.is _) ?_ ?_
              · intro a W hS pre old K hK
                have e72 := pre 15 72 _ (by kernel_rfl) rfl rfl
                clear pre old
                simp only [Vals5.fits, Array.getD_eq_getD_getElem?, List.getElem?_toArray, List.getElem?_cons_zero, List.getElem?_cons_succ, Option.getD_some] at e72
                have hS9 := hS
                obtain ⟨q1, q2⟩ := hS9
                obtain ⟨c0, c1, c2⟩ := q2.hull
                have g0 := keep_cell q1.1 HZ0.out
                have l0 := keep_cell q1.1 HZ1.out
                go_simp
                refine hK _ _ hS (Below.refl _ _) ?_
                exact fits_is _ _
              refine Vals5.Steps.run rfl (Vals5.Stable.is _) ?_ ?_
              · intro a W hS pre old K hK
                have e12 := old 12 _ (by kernel_rfl) rfl
                clear pre old
                simp only [Vals5.fits, Array.getD_eq_getD_getElem?, List.getElem?_toArray, List.getElem?_cons_zero, List.getElem?_cons_succ, Option.getD_some] at e12
                go_simp
                refine hK _ _ hS (Below.refl _ _) ?_
                exact fits_is _ _
              refine Vals5.Steps.run rfl (Vals5.Stable.is _) ?_ ?_
              · intro a W hS pre old K hK
                have e73 := pre 16 73 _ (by kernel_rfl) rfl rfl
                have e74 := pre 17 74 _ (by kernel_rfl) rfl rfl
                clear pre old
                simp only [Vals5.fits, Array.getD_eq_getD_getElem?, List.getElem?_toArray, List.getElem?_cons_zero, List.getElem?_cons_succ, Option.getD_some] at e73 e74
                have hC := rin_c 0 left ff_ W
                rw [H2.out] at hC
                go_simp
                refine hC.mono ?_
                rintro e w' ⟨rfl, rfl⟩
                refine hK _ _ hS (Below.refl _ _) ?_
                exact fits_is _ _
              refine Vals5.Steps.run rfl (Vals5.Stable.is _) ?_ ?_
              · intro a W hS pre old K hK
                have e75 := pre 18 75 _ (by kernel_rfl) rfl rfl
                clear pre old
                simp only [Vals5.fits, Array.getD_eq_getD_getElem?, List.getElem?_toArray, List.getElem?_cons_zero, List.getElem?_cons_succ, Option.getD_some] at e75
                go_simp
                refine hK _ _ hS (Below.refl _ _) ?_
                exact fits_is _ _
              exact Vals5.Steps.nil
            case hend =>
              rintro X ⟨hs, hB⟩
              simp only [Vals5.All, List.getLast_cons_cons, List.getLast_singleton]
              simp only [Vals.putAll, List.setIfInBounds_toArray, List.set_cons_zero, List.set_cons_succ]
              intro K hK
              cases E2
              · have HV : Hid (E = (false, 0)) := by
                  show _ = _
                  have a2 := wi_no.1 H2.out
                  have a4 := HFF.out
                  have a5 := HLF.out
                  rw [← hE]
                  rcases a2 with a2 | a2
                  · rw [brs_no (k := k) hlt]
                    rw [HLEN.out, HALL.out, Bool.eq_false_iff]
                    intro e
                    have := okF_iff.1 e
                    omega
                  · rw [brs_over (k := k) hlt]
                    rw [HLEN.out, HALL.out]
                    omega
                clear hE
                go_simp
                refine hK _ _ ?_
                clear hK K
                go_wp2_with fail
                go_ret2
                exact ⟨by rw [HV.out]; rfl, hs.1⟩
              · have HOK : Hid (∀ j (hj : j < l.length), j < k + 1 → okF h.aft h.fore all l[j] = true) := fun j hj hjk => by
                  rcases Nat.lt_or_ge j k with h3 | h3
                  · exact H0.out j hj h3
                  · obtain rfl : j = k := by omega
                    have a1 := wi_iff.1 H1.out
                    have a2 := wi_iff.1 H2.out
                    have a3 := HFP.out
                    have a4 := HFF.out
                    have a5 := HLF.out
                    exact okF_iff.2 (by omega)
                have hbn := fo_bd hh (show k + 1 ≤ l.length by omega) hl10 hab HOK.out
                have s1 := fsum_next hlt
                have s2 := fturn_next (a := h.aft) hlt
                have hW1 := wi_iff.1 H1.out
                have hW2 := wi_iff.1 H2.out
                have a5 := HLF.out
                have a6 := HTU.out
                rw [HFF.out] at s1 s2
                rw [HFP.out] at s2
                have hpb := mul_bd hW2.1 (show ff_ ≤ 250000000000 by omega) (b := fp - h.aft) (B := 5000) (by omega) (by omega)
                have e4 : IntKind.i64.wrap (left - ff_) = all - fsum l (k + 1) := by rw [show left - ff_ = all - fsum l (k + 1) by omega]; exact IntWalk.i64_in _ (by omega)
                have e5 : IntKind.i64.wrap (fp - h.aft) = fp - h.aft := IntWalk.i64_in _ (by omega)
                have e6 : IntKind.i64.wrap (ff_ * (fp - h.aft)) = ff_ * (fp - h.aft) := IntWalk.i64_in _ (by omega)
                have e7 : IntKind.i64.wrap (turn - ff_ * (fp - h.aft)) = tot - fturn h.aft l (k + 1) := by rw [show turn - ff_ * (fp - h.aft) = tot - fturn h.aft l (k + 1) by omega]; exact IntWalk.i64_in _ (by omega)
                have HSU : Hid (fsum l (k + 1) ≤ all) := by show _ ≤ _; omega
                have z0 := keep_cell hs.1 HZ0.out
                have z1 := keep_cell hs.1 HZ1.out
                obtain ⟨c0, c1, c2⟩ := hB.hull
                clear s1 s2 hbn hW1 hW2 a5 a6 hpb hfs hleft hturn
                go_simp
                refine hK _ _ ?_
                clear hK K
                go_wp2_with fail
                go_quiet (fail)
                go_wp2_with fail
                go_roundw
                case rel => exact ⟨k + 1, by omega, by go_num, rfl, rfl, ⟨bdrew hs.1 _, hs.2⟩, hB, HOK, HSU⟩
                case measure => simp [intOf]; omega
          · have H1 := Lib.hid h1
            clear h1
            refine Vals6.regionAll (fun X => Since w X ∧ Blk X w.heap.size 24 (hV h m)) [some 57, some 58, some 59, some 60, some 61, some 62, some 63, some 64, some 65, some 66, some 67, some 68, some 69, some 70, some 71, some 72, some 73, some 74, some 75, some 76] [.is ?_, .is ?_, .is ?_, .is ?_, .is ?_, .is ?_, .is ?_, .is ?_, .is ?_, .is (.bool false), .is (.bool true), .is (.bool true), .is undef, .is undef, .is undef, .is undef, .is undef, .is undef, .is undef, .is undef] (by kernel_rfl) rfl rfl (by kernel_rfl) (by kernel_rfl) (by kernel_rfl) (by kernel_rfl) (by kernel_rfl) (by kernel_rfl) rfl (⟨HSn.out.drew, HHk.out.drew⟩) ?hsteps ?hend
            case hsteps =>
              refine Vals5.Steps.run rfl (Vals5.Stable.is _) ?_ ?_
              · intro a W hS pre old K hK
                have e3 := old 3 _ (by kernel_rfl) rfl
                clear pre old
                simp only [Vals5.fits, Array.getD_eq_getD_getElem?, List.getElem?_toArray, List.getElem?_cons_zero, List.getElem?_cons_succ, Option.getD_some] at e3
                go_simp
                refine hK _ _ hS (Below.refl _ _) ?_
                exact fits_is _ _
              refine Vals5.Steps.run rfl (Vals5.Stable.is _) ?_ ?_
              · intro a W hS pre old K hK
                have e14 := old 14 _ (by kernel_rfl) rfl
                clear pre old
                simp only [Vals5.fits, Array.getD_eq_getD_getElem?, List.getElem?_toArray, List.getElem?_cons_zero, List.getElem?_cons_succ, Option.getD_some] at e14
                go_simp
                refine hK _ _ hS (Below.refl _ _) ?_
                exact fits_is _ _
              refine Vals5.Steps.run rfl (Vals5.Stable.is _) ?_ ?_
              · intro a W hS pre old K hK
                have e57 := pre 0 57 _ (by kernel_rfl) rfl rfl
                have e58 := pre 1 58 _ (by kernel_rfl) rfl rfl
                clear pre old
                simp only [Vals5.fits, Array.getD_eq_getD_getElem?, List.getElem?_toArray, List.getElem?_cons_zero, List.getElem?_cons_succ, Option.getD_some] at e57 e58
                go_simp
                refine hK _ _ hS (Below.refl _ _) ?_
                exact fits_is _ _
              refine Vals5.Steps.run rfl (Vals5.Stable.is _) ?_ ?_
              · intro a W hS pre old K hK
                have e59 := pre 2 59 _ (by kernel_rfl) rfl rfl
                clear pre old
                simp only [Vals5.fits, Array.getD_eq_getD_getElem?, List.getElem?_toArray, List.getElem?_cons_zero, List.getElem?_cons_succ, Option.getD_some] at e59
                go_simp
                refine hK _ _ hS (Below.refl _ _) ?_
                exact fits_is _ _
              refine Vals5.Steps.run rfl (Vals5.Stable.is _) ?_ ?_
              · intro a W hS pre old K hK
                have e60 := pre 3 60 _ (by kernel_rfl) rfl rfl
                clear pre old
                simp only [Vals5.fits, Array.getD_eq_getD_getElem?, List.getElem?_toArray, List.getElem?_cons_zero, List.getElem?_cons_succ, Option.getD_some] at e60
                have hS9 := hS
                obtain ⟨q1, q2⟩ := hS9
                obtain ⟨c0, c1, c2⟩ := q2.hull
                have g0 := keep_cell q1.1 HZ0.out
                have l0 := keep_cell q1.1 HZ1.out
                go_simp
                refine hK _ _ hS (Below.refl _ _) ?_
                exact fits_is _ _
              refine Vals5.Steps.run rfl (Vals5.Stable.is _) ?_ ?_
              · intro a W hS pre old K hK
                have e4 := old 4 _ (by kernel_rfl) rfl
                clear pre old
                simp only [Vals5.fits, Array.getD_eq_getD_getElem?, List.getElem?_toArray, List.getElem?_cons_zero, List.getElem?_cons_succ, Option.getD_some] at e4
                go_simp
                refine hK _ _ hS (Below.refl _ _) ?_
                exact fits_is _ _
              refine Vals5.Steps.run rfl (Vals5.Stable.is _) ?_ ?_
              · intro a W hS pre old K hK
                have e62 := pre 5 62 _ (by kernel_rfl) rfl rfl
                clear pre old
                simp only [Vals5.fits, Array.getD_eq_getD_getElem?, List.getElem?_toArray, List.getElem?_cons_zero, List.getElem?_cons_succ, Option.getD_some] at e62
                have hS9 := hS
                obtain ⟨q1, q2⟩ := hS9
                obtain ⟨c0, c1, c2⟩ := q2.hull
                have g0 := keep_cell q1.1 HZ0.out
                have l0 := keep_cell q1.1 HZ1.out
                go_simp
                refine hK _ _ hS (Below.refl _ _) ?_
                exact fits_is _ _
              refine Vals5.Steps.run rfl (Vals5.Stable.is _) ?_ ?_
              · intro a W hS pre old K hK
                have e4 := old 4 _ (by kernel_rfl) rfl
                clear pre old
                simp only [Vals5.fits, Array.getD_eq_getD_getElem?, List.getElem?_toArray, List.getElem?_cons_zero, List.getElem?_cons_succ, Option.getD_some] at e4
                go_simp
                refine hK _ _ hS (Below.refl _ _) ?_
                exact fits_is _ _
              refine Vals5.Steps.run rfl (Vals5.Stable.is _) ?_ ?_
              · intro a W hS pre old K hK
                have e64 := pre 7 64 _ (by kernel_rfl) rfl rfl
                clear pre old
                simp only [Vals5.fits, Array.getD_eq_getD_getElem?, List.getElem?_toArray, List.getElem?_cons_zero, List.getElem?_cons_succ, Option.getD_some] at e64
                have hS9 := hS
                obtain ⟨q1, q2⟩ := hS9
                obtain ⟨c0, c1, c2⟩ := q2.hull
                have g0 := keep_cell q1.1 HZ0.out
                have l0 := keep_cell q1.1 HZ1.out
                go_simp
                refine hK _ _ hS (Below.refl _ _) ?_
                exact fits_is _ _
              refine Vals5.Steps.run rfl (Vals5.Stable.is _) ?_ ?_
              · intro a W hS pre old K hK
                have e61 := pre 4 61 _ (by kernel_rfl) rfl rfl
                have e63 := pre 6 63 _ (by kernel_rfl) rfl rfl
                have e65 := pre 8 65 _ (by kernel_rfl) rfl rfl
                clear pre old
                simp only [Vals5.fits, Array.getD_eq_getD_getElem?, List.getElem?_toArray, List.getElem?_cons_zero, List.getElem?_cons_succ, Option.getD_some] at e61 e63 e65
                have hC := rin_c h.aft h.fore fp W
                rw [H1.out] at hC
                go_simp
                refine hC.mono ?_
                rintro e w' ⟨rfl, rfl⟩
                refine hK _ _ hS (Below.refl _ _) ?_
                exact fits_is _ _
              refine Vals5.Steps.run rfl (Vals5.Stable.is _) ?_ ?_
              · intro a W hS pre old K hK
                have e66 := pre 9 66 _ (by kernel_rfl) rfl rfl
                clear pre old
                simp only [Vals5.fits, Array.getD_eq_getD_getElem?, List.getElem?_toArray, List.getElem?_cons_zero, List.getElem?_cons_succ, Option.getD_some] at e66
                go_simp
                refine hK _ _ hS (Below.refl _ _) ?_
                exact fits_is _ _
              refine Vals5.Steps.run rfl (Vals5.Stable.is _) ?_ ?_
              · intro a W hS pre old K hK
                have e67 := pre 10 67 _ (by kernel_rfl) rfl rfl
                clear pre old
                simp only [Vals5.fits, Array.getD_eq_getD_getElem?, List.getElem?_toArray, List.getElem?_cons_zero, List.getElem?_cons_succ, Option.getD_some] at e67
                go_simp
                refine hK _ _ hS (Below.refl _ _) ?_
                exact fits_is _ _
              refine Vals5.Steps.skip rfl rfl ?_
              refine Vals5.Steps.skip rfl rfl ?_
              refine Vals5.Steps.skip rfl rfl ?_
              refine Vals5.Steps.skip rfl rfl ?_
              refine Vals5.Steps.skip rfl rfl ?_
              refine Vals5.Steps.skip rfl rfl ?_
              refine Vals5.Steps.skip rfl rfl ?_
              refine Vals5.Steps.skip rfl rfl ?_
              exact Vals5.Steps.nil
            case hend =>
              rintro X ⟨hs, hB⟩
              simp only [Vals5.All, List.getLast_cons_cons, List.getLast_singleton]
              simp only [Vals.putAll, List.setIfInBounds_toArray, List.set_cons_zero, List.set_cons_succ]
              intro K hK
              have HV : Hid (E = (false, 0)) := by
                show _ = _
                rw [← hE, brs_no (k := k) hlt]
                rw [HLEN.out, HALL.out, Bool.eq_false_iff]
                intro e
                have a1 := okF_iff.1 e
                have a2 := wi_no.1 H1.out
                have a3 := HFP.out
                omega
              clear hE
              go_simp
              refine hK _ _ ?_
              clear hK K
              go_wp2_with fail
              go_ret2
              exact ⟨by rw [HV.out]; rfl, hs.1⟩
        · obtain rfl : k = l.length := by omega
          have HV : Hid (E = ((decide (fsum l l.length = all) && decide (fturn h.aft l l.length = tot)), 0)) := by
            show _ = _
            rw [← hE, brs_end (fun j hj => by rw [HLEN.out, HALL.out]; exact H0.out j hj hj), HLEN.out, HALL.out, HTOT.out, decide_eq_true (show 0 < d by omega), Bool.true_and]
          clear hE
          by_cases g2 : fsum l l.length = all
          · have g2' : (all - fsum l l.length == 0) = true := by simp; omega
            have HV2 : Hid (E = (decide (fturn h.aft l l.length = tot), 0)) := by show _ = _; rw [HV.out]; simp [g2]
            have g3 : (tot - fturn h.aft l l.length == 0) = decide (fturn h.aft l l.length = tot) := by rw [Bool.eq_iff_iff]; simp; omega
            clear g2 hfs
            go_wp2_with fail
            go_ret2
            exact ⟨by rw [HV2.out]; rfl, HSn.out.1⟩
          · have g2' : (all - fsum l l.length == 0) = false := by simp; omega
            have HV2 : Hid (E = (false, 0)) := by show _ = _; rw [HV.out]; simp [g2]
            clear g2 hfs
            go_wp2_with fail
            go_ret2
            exact ⟨by rw [HV2.out]; rfl, HSn.out.1⟩
  · have HB : Hid (balanceA h gs ls wt = ((0, 0, 0), balE h gs ls wt)) := by show _ = _; simp [balanceA, hc]
    rw [if_pos (by simpa using hc)] at hE
    subst hE
    rw [HB.out]
    have hc' : (balE h gs ls wt != 0) = true := by simpa using hc
    have hc2 : (balE h gs ls wt == 0) = false := by simpa using hc
    clear hc HB
    have hs2 := hs1.alloc (.cells (b3 (0, 0, 0)) 32)
    go_wp2_with fail
    go_ret2
    exact ⟨rfl, hs2.1⟩
end Td
end Go.Proofs.Ythdcklonamgpiaa
