import Derived.Test.YtmofbnadfgejiaaLvlC
import Derived.Test.YtmofbnadfgejiaaRfsM
/- The reference: which levels lead to one of some others a minute later. -/
namespace Go.Proofs.Ytmofbnadfgejiaa
open Go.RowKit
namespace Td
set_option linter.unusedSimpArgs false
set_option linter.unusedVariables false
attribute [local go_sem] Oper.semAt_some
/-- one of the first e changes leads to one of them. -/
def orr (F : Nat → Bool) (n : Nat) (lo : Int) (e : Nat) : Bool := (List.range e).any fun d => F (hld ((n : Int) + (lo + (d : Int)))).toNat
theorem orr_zero (F : Nat → Bool) (n : Nat) (lo : Int) : orr F n lo 0 = false := rfl
theorem orr_succ (F : Nat → Bool) (n : Nat) (lo : Int) (e : Nat) : orr F n lo (e + 1) = (orr F n lo e || F (hld ((n : Int) + (lo + (e : Int)))).toNat) := by
  unfold orr
  rw [List.range_succ, List.any_append]
  simp
def bfB (s : Spc) (l : List Rd) (mi : Int) (F : Nat → Bool) (lo : Int) (d n e i : Nat) : Bool := if i < n then orr F i lo d && agB s l mi (i : Int) else if i = n then orr F n lo e else false
theorem bfB_own {s : Spc} {l : List Rd} {mi : Int} {F : Nat → Bool} {lo : Int} {d n e : Nat} : bfB s l mi F lo d n e n = orr F n lo e := by unfold bfB; rw [if_neg (by omega), if_pos rfl]
theorem bfB_store {s : Spc} {l : List Rd} {mi : Int} {F : Nat → Bool} {lo : Int} {d n e : Nat} {b : Bool} (h : orr F n lo (e + 1) = b) : (fun i => if i = n then b else bfB s l mi F lo d n e i) = bfB s l mi F lo d n (e + 1) := by
  funext i
  unfold bfB
  by_cases h1 : i = n
  · subst h1; rw [if_pos rfl, if_neg (by omega), if_pos rfl, h]
  · rw [if_neg h1]
    by_cases h2 : i < n
    · rw [if_pos h2, if_pos h2]
    · rw [if_neg h2, if_neg h2, if_neg h1, if_neg h1]
theorem bfB_done {s : Spc} {l : List Rd} {mi : Int} {F : Nat → Bool} {lo : Int} {d n : Nat} {b : Bool} (h : (orr F n lo d && agB s l mi (n : Int)) = b) : (fun i => if i = n then b else bfB s l mi F lo d n d i) = bfB s l mi F lo d (n + 1) 0 := by
  funext i
  unfold bfB
  by_cases h1 : i = n
  · subst h1; rw [if_pos rfl, if_pos (by omega), h]
  · rw [if_neg h1]
    by_cases h2 : i < n
    · rw [if_pos h2, if_pos (by omega)]
    · rw [if_neg h2, if_neg h1, if_neg (by omega)]
      by_cases h3 : i = n + 1
      · rw [if_pos h3, orr_zero]
      · rw [if_neg h3]
theorem bfB_zero {s : Spc} {l : List Rd} {mi : Int} {F : Nat → Bool} {lo : Int} {d : Nat} (i : Nat) : bfB s l mi F lo d 0 0 i = false := by
  unfold bfB
  rw [if_neg (by omega), orr_zero]
  split <;> rfl
set_option maxRecDepth 100000 in
set_option maxHeartbeats 8000000 in
theorem before_c (s : Spc) (m : Sl) (A : Option Addr) (l : List Rd) (c : Nat) (F : Nat → Bool) (gN : Nat) (mi : Int) (w : World) (hs : SOk s) (hsa : SAt w m s) (hrd : RdAt w A l) (hro : ∀ r ∈ l, ROk s r) (h12 : l.length ≤ 12) (hN : Blk w gN 4 (rB F 201)) :
    Calls Try.prog 56 #[.agg (sV s m), .slice A l.length c, .slice (some ⟨gN, 0, none⟩) 201 201, .int .i64 mi] w fun e w' => (∃ g, e = .returned (.slice (some ⟨g, 0, none⟩) 201 201) ∧ Blk w' g 4 (rB (fun i => orr F i (chg s mi).1 ((chg s mi).2 - (chg s mi).1 + 1).toNat && agB s l mi (i : Int)) 201)) ∧ Below w.heap.size w w' := by
  have hmk := run_make_row' (P := Try.prog) 99 4 (.bool false) 1 Try.underlying99 infoBool rfl .i64 .i64 201 (by omega) (by omega) (w.alloc (.cells (sV s m) 27))
  rw [made_rB] at hmk
  push_cast at hmk
  have hgw := hN.lt
  have hS0 := (Sp.start w s m).alloc (.cells (rB (fun _ => false) 201) 4)
  have hB0 := Blk.new1 w (.cells (sV s m) 27) 4 (rB (fun _ => false) 201)
  have hN0 := hN.keep hS0.sn.1
  obtain ⟨c0, c1, c2, c3, c4, c5, c6, c7, c8⟩ := hS0.bk.space
  go_enter Try.func56, Try.ntmps56
  go_wp2_with fail
  refine (rise_c s m mi _ (by have := hs.nb; omega) (hsa.keep hS0.sn.1)).mono ?_
  rintro e w3 ⟨rfl, hb3⟩
  have hchg := chg_ok hs mi
  obtain ⟨lo, hlo⟩ : ∃ lo, (chg s mi).1 = lo := ⟨_, rfl⟩
  obtain ⟨hi, hhi⟩ : ∃ hi, (chg s mi).2 = hi := ⟨_, rfl⟩
  have HC : Hid ((chg s mi).1 = lo ∧ (chg s mi).2 = hi) := ⟨hlo, hhi⟩
  rw [hlo, hhi] at hchg ⊢
  have hS3 := (hS0.keep hb3).alloc (.cells #[.int .i64 0, .int .i64 0] 23)
  have hB3 := (hB0.keep hb3).alloc (.cells #[.int .i64 0, .int .i64 0] 23)
  have hN3 := (hN0.keep hb3).alloc (.cells #[.int .i64 0, .int .i64 0] 23)
  have HSP0 := Lib.hid (Blk.new w3 23 #[.int .i64 0, .int .i64 0])
  have hz3 := (hB0.keep hb3).lt
  clear c0 c1 c2 c3 c4 c5 c6 c7 c8 hmk hS0 hB0 hN0 hb3 hlo hhi
  go_wp2_with (refine wpList_store_row rfl 23 _ _ rfl (w3.heap.size) _ rfl rfl 23 _ HSP0.out (by kernel_rfl) rfl (by simp [Value.oneCell']) ?_)
  have hS4 := hS3.row (g := w3.heap.size) (by omega) #[.int .i64 lo, .int .i64 hi]
  have HB4 := Lib.hid (hB3.rowFar (g' := w3.heap.size) (by omega) #[.int .i64 lo, .int .i64 hi])
  have HN4 := Lib.hid (hN3.rowFar (g' := w3.heap.size) (by omega) #[.int .i64 lo, .int .i64 hi])
  have HSP4 := Lib.hid (HSP0.out.row #[.int .i64 lo, .int .i64 hi])
  obtain ⟨gS, hgS0⟩ : ∃ gS, w3.heap.size = gS := ⟨_, rfl⟩
  obtain ⟨gR, hgR0⟩ : ∃ gR, w.heap.size + 1 = gR := ⟨_, rfl⟩
  rw [hgS0] at HB4 HSP4 HN4 hS4 hz3 ⊢
  rw [hgR0] at HB4 hz3 ⊢
  have hgR : w.heap.size < gR := by omega
  have hgS : gR ≠ gS := by omega
  have hgN : gR ≠ gN := by omega
  clear hS3 hB3 hN3 HSP0 hgS0 hgR0
  obtain ⟨d, hd⟩ : ∃ d, (hi - lo + 1).toNat = d := ⟨_, rfl⟩
  have hcell : ∀ (W : World) (n : Nat) (b : Bool), Sp w s m W → Sp w s m (W.setCell ⟨gR, n, none⟩ (.bool b)) := fun W n b h => ⟨⟨h.sn.1.setCell (p := ⟨gR, n, none⟩) (by simp; omega) _, by simpa using h.sn.2⟩, h.bk.far (by omega) _ _⟩
  have HCELL := Lib.hid hcell
  clear hcell
  go_loopw [11, 12] (fun i _ wr => ∃ n : Nat, n ≤ 201 ∧ i = .int .i64 n ∧ Sp w s m wr ∧ Hid (Blk wr gR 4 (rB (bfB s l mi F lo d n 0) 201)) ∧ Hid (Blk wr gS 23 #[.int .i64 lo, .int .i64 hi]) ∧ Hid (Blk wr gN 4 (rB F 201))) (fun i _ _ => 201 - (intOf i).toNat)
  case atStart => exact ⟨0, by omega, rfl, hS4, by show Blk _ _ _ _; rw [rB_congr (g := fun _ => false) (fun i _ => bfB_zero i)]; exact HB4.out, HSP4, HN4⟩
  case round =>
    obtain ⟨n, hn, rfl, hS, HB, HSP, HN⟩ := hrel
    by_cases hnl : n < 201
    · have hni : (n : Int) < 201 := by omega
      have z0 := HSP.out.cell 0
      have z1 := HSP.out.cell 1
      simp only [List.getElem?_toArray, List.getElem?_cons_zero, List.getElem?_cons_succ] at z0 z1
      go_wp2_with fail
      clear z0 z1
      go_loopw [12] (fun b wr => ∃ e : Nat, e ≤ d ∧ b = .int .i64 (lo + (e : Int)) ∧ Sp w s m wr ∧ Hid (Blk wr gR 4 (rB (bfB s l mi F lo d n e) 201)) ∧ Hid (Blk wr gS 23 #[.int .i64 lo, .int .i64 hi]) ∧ Hid (Blk wr gN 4 (rB F 201))) (fun b _ => (hi + 1 - intOf b).toNat)
      case atStart => exact ⟨0, by omega, by simp, hS, HB, HSP, HN⟩
      case round =>
        obtain ⟨e, he, rfl, hS, HB, HSP, HN⟩ := hrel
        have z0 := HSP.out.cell 0
        have z1 := HSP.out.cell 1
        simp only [List.getElem?_toArray, List.getElem?_cons_zero, List.getElem?_cons_succ] at z0 z1
        have b0 := HB.out.cell n
        have f0 := HB.out.frozen n
        rw [rB_get _ hnl, bfB_own] at b0
        by_cases hed : e < d
        · have hle : lo + (e : Int) ≤ hi := by omega
          have hlb := hld_in ((n : Int) + (lo + (e : Int)))
          obtain ⟨L, hL⟩ : ∃ L : Nat, hld ((n : Int) + (lo + (e : Int))) = (L : Int) := ⟨(hld ((n : Int) + (lo + (e : Int)))).toNat, by omega⟩
          have hL2 : L < 201 := by omega
          have hLi : (L : Int) < 201 := by omega
          have hos := orr_succ F n lo e
          rw [hL, Int.toNat_natCast] at hos
          have hw1 : IntKind.i64.wrap ((n : Int) + (lo + (e : Int))) = (n : Int) + (lo + (e : Int)) := IntWalk.i64_in _ (by omega)
          have hw5 : IntKind.i64.wrap (lo + (e : Int) + 1) = lo + ((e + 1 : Nat) : Int) := by rw [IntWalk.i64_in _ (by omega)]; push_cast; omega
          have HLM := Lib.hid hL
          obtain ⟨bn, hbn⟩ : ∃ bn, orr F n lo e = bn := ⟨_, rfl⟩
          rw [hbn] at b0 hos
          clear hlb hL hbn
          cases bn with
          | true =>
            have hB2 := HB.out.set n (.bool true)
            rw [rB_set, bfB_store (by rw [hos]; rfl)] at hB2
            have hS2 := HCELL.out _ n true hS
            have HSP2 := HSP.out.far (g' := gR) hgS n (.bool true)
            have HN2 := HN.out.far (g' := gR) hgN n (.bool true)
            clear hos
            go_wp2_with fail
            go_roundw
            case rel => exact ⟨e + 1, by omega, rfl, hS2, hB2, HSP2, HN2⟩
            case measure => simp [intOf]; omega
          | false =>
            obtain ⟨bl, hbl⟩ : ∃ bl, F L = bl := ⟨_, rfl⟩
            have v0 := HN.out.cell L
            rw [rB_get _ hL2, hbl] at v0
            rw [hbl, Bool.false_or] at hos
            have hB2 := HB.out.set n (.bool bl)
            rw [rB_set, bfB_store hos] at hB2
            have hS2 := HCELL.out _ n bl hS
            have HSP2 := HSP.out.far (g' := gR) hgS n (.bool bl)
            have HN2 := HN.out.far (g' := gR) hgN n (.bool bl)
            clear hos hbl
            go_wp2_with fail
            refine (limited_c _ _).mono ?_
            rintro e' w' ⟨rfl, rfl⟩
            rw [HLM.out]
            go_wp2_with fail
            go_roundw
            case rel => exact ⟨e + 1, by omega, rfl, hS2, hB2, HSP2, HN2⟩
            case measure => simp [intOf]; omega
        · have hle : ¬ lo + (e : Int) ≤ hi := by omega
          obtain rfl : e = d := by omega
          obtain ⟨bn, hbn⟩ : ∃ bn, orr F n lo e = bn := ⟨_, rfl⟩
          rw [hbn] at b0
          obtain ⟨c0, c1, c2, c3, c4, c5, c6, c7, c8⟩ := hS.bk.space
          cases bn with
          | true =>
            obtain ⟨ba, hba⟩ : ∃ ba, agB s l mi (n : Int) = ba := ⟨_, rfl⟩
            have HAG := Lib.hid hba
            have HD : Hid (∀ b, b = ba → (fun i => if i = n then b else bfB s l mi F lo e n e i) = bfB s l mi F lo e (n + 1) 0) := fun b hb => bfB_done (by rw [hbn, hb, hba]; rfl)
            clear hbn hba
            go_wp2_with fail
            refine (agrees_c s m A l c mi (n : Int) _ hs (hsa.keep hS.sn.1) (hrd.keep hS.sn.1) hro h12 (by omega) (by omega)).mono ?_
            rintro e' w5 ⟨rfl, hb5⟩
            rw [HAG.out]
            have hB5 := HB.out.keep hb5
            have b5 := hB5.cell n
            rw [rB_get _ hnl] at b5
            have f5 := hB5.frozen n
            have hB6 := hB5.set n (.bool ba)
            rw [rB_set, HD.out _ rfl] at hB6
            have hS6 := HCELL.out _ n ba (hS.keep hb5)
            have HSP6 := (HSP.out.keep hb5).far (g' := gR) hgS n (.bool ba)
            have HN6 := (HN.out.keep hb5).far (g' := gR) hgN n (.bool ba)
            clear c0 c1 c2 c3 c4 c5 c6 c7 c8 b0 f0 z0 z1
            go_wp2_with fail
            go_roundw
            case rel => exact ⟨n + 1, by omega, by go_num, hS6, hB6, HSP6, HN6⟩
            case measure => simp [intOf]; omega
          | false =>
            have hB2 := HB.out.set n (.bool false)
            rw [rB_set, bfB_done (by rw [hbn]; rfl)] at hB2
            have hS2 := HCELL.out _ n false hS
            have HSP2 := HSP.out.far (g' := gR) hgS n (.bool false)
            have HN2 := HN.out.far (g' := gR) hgN n (.bool false)
            clear hbn
            go_wp2_with fail
            go_roundw
            case rel => exact ⟨n + 1, by omega, by go_num, hS2, hB2, HSP2, HN2⟩
            case measure => simp [intOf]; omega
    · have hni : ¬ (n : Int) < 201 := by omega
      obtain rfl : n = 201 := by omega
      have HV : Hid (Blk wr gR 4 (rB (fun i => orr F i (chg s mi).1 ((chg s mi).2 - (chg s mi).1 + 1).toNat && agB s l mi (i : Int)) 201)) := by
        show Blk _ _ _ _
        rw [HC.out.1, HC.out.2, hd, rB_congr (g := bfB s l mi F lo d 201 0) (fun i hi => by unfold bfB; rw [if_pos hi])]
        exact HB.out
      go_wp2_with fail
      go_ret
      exact ⟨⟨gR, rfl, HV.out⟩, hS.sn.1⟩
end Td
end Go.Proofs.Ytmofbnadfgejiaa
