import Derived.Test.YtgkdidnmndmlhaaRPas
import Derived.Test.YtgkdidnmndmlhaaMathH
/- The reference: Chance, Stays, planned, Once, Average. -/
namespace Go.Proofs.Ytgkdidnmndmlhaa
open Go.RowKit
namespace Td
set_option linter.unusedSimpArgs false
set_option linter.unusedVariables false
attribute [local go_sem] Oper.semAt_some
set_option maxRecDepth 100000 in
set_option maxHeartbeats 4000000 in
theorem rChance_c (lo hi : Int) (P F pa fa S to d : Nat) (w : World) (k : Fit P F pa fa S d) (hpa : pa ≤ 20) (hfa : fa ≤ 21) (hto : to ≤ 20) :
    Calls Try.prog 67 #[.agg (gV P lo hi), .agg (lV F pa fa S to), .int .i64 d] w fun e w' => e = .returned (.agg (fV (ip (chS P F pa fa S to d)))) ∧ Below w.heap.size w w' := by
  have hs := (((Since.refl w).alloc (.cells (gV P lo hi) 25)).alloc (.cells (lV F pa fa S to) 38)).alloc (.cells (fV (0, 0)) 41)
  have HG := Lib.hid (((Blk.new w 25 (gV P lo hi)).alloc (.cells (lV F pa fa S to) 38)).alloc (.cells (fV (0, 0)) 41))
  have HL := Lib.hid ((Blk.new1 w (.cells (gV P lo hi) 25) 38 (lV F pa fa S to)).alloc (.cells (fV (0, 0)) 41))
  have HR := Lib.hid (Blk.new2 w (.cells (gV P lo hi) 25) (.cells (lV F pa fa S to) 38) 41 (fV (0, 0)))
  have HA := fun W => Lib.hid (rpassed_c lo hi P F pa fa S to d W k hpa hfa hto)
  have HC := fun W => Lib.hid (rcases_c lo hi P F pa fa S to W k.p k.f k.s)
  have hn := cases_le (S := S) k.p k.f
  have hpos := den_pos k.f k.s
  have h1 := avgS_le (pa := pa) (fa := fa) (to := to) (F := F) (S := S) (wo := fun _ => 1) k.d (m := 1) (fun _ _ => Nat.le_refl _)
  have h2 := avgS_le (pa := pa) (fa := fa) (to := to) (F := F) (S := S) (wo := fun v => v) k.d (m := 20) (fun v hv => by have := k.d; have := k.p; omega)
  have HV : Hid (chS P F pa fa S to d = shr (avgS P F pa fa S to d (fun _ => 1)) (bn P F * bn (P - F) S)) := rfl
  obtain ⟨a1, ha1⟩ : ∃ a, avgS P F pa fa S to d (fun _ => 1) = a := ⟨_, rfl⟩
  obtain ⟨a2, ha2⟩ : ∃ a, avgS P F pa fa S to d (fun v => v) = a := ⟨_, rfl⟩
  rw [ha1, ha2] at HA
  rw [ha1] at h1
  rw [ha2] at h2
  rw [ha1] at HV
  obtain ⟨n, hn0⟩ : ∃ n, bn P F * bn (P - F) S = n := ⟨_, rfl⟩
  rw [hn0] at HC hn hpos h1 h2 HV
  have HLW := fun W => Lib.hid (rLow_c a1 n W (by omega) (by omega) hpos)
  rw [← HV.out] at HLW
  obtain ⟨u, hu⟩ : ∃ u, ip (chS P F pa fa S to d) = u := ⟨_, rfl⟩
  rw [hu] at HLW ⊢
  clear hu ha1 ha2 hn0 hn hpos h1 h2 HV k hpa hfa hto
  obtain ⟨c0, c1, c2⟩ := HG.out.gcells
  obtain ⟨d0, d1, d2, d3, d4⟩ := HL.out.lcells
  go_enter Try.func67, Try.ntmps67
  go_wp2_with fail
  refine (HA _).out.mono ?_
  rintro e v1 ⟨rfl, hb⟩
  replace hs := hs.keep hb
  replace HG := Lib.hid (HG.out.keep hb)
  replace HL := Lib.hid (HL.out.keep hb)
  replace HR := Lib.hid (HR.out.keep hb)
  clear hb c0 c1 c2 d0 d1 d2 d3 d4
  obtain ⟨c0, c1, c2⟩ := HG.out.gcells
  obtain ⟨d0, d1, d2, d3, d4⟩ := HL.out.lcells
  go_wp2_with fail
  refine (HC _).out.mono ?_
  rintro e v2 ⟨rfl, hb⟩
  replace hs := hs.keep hb
  replace HR := Lib.hid (HR.out.keep hb)
  clear hb c0 c1 c2 d0 d1 d2 d3 d4
  go_wp2_with fail
  refine (HLW _).out.mono ?_
  rintro e v3 ⟨rfl, hb⟩
  replace hs := hs.keep hb
  replace HR := Lib.hid (HR.out.keep hb)
  clear hb
  go_wp2_with (refine wpList_store_row rfl 41 _ _ rfl (w.heap.size + 1 + 1) (fV u) rfl (by first | rfl | (simp; done)) 41 _ HR.out (by kernel_rfl) rfl (by simp [Value.oneCell']) ?_)
  (refine bodyPost_ret (v := .agg _) ?_ rfl ⟨rfl, ?_⟩; exact (results_cell_row Try.results67 _ _ (w.heap.size + 1 + 1) 41 _ (0, 0) _ rfl (HR.out.row _) Try.underlying41 rfl (by kernel_rfl)))
  exact (hs.row (by omega) _).1
set_option maxRecDepth 100000 in
set_option maxHeartbeats 4000000 in
theorem rStays_c (lo hi : Int) (P F pa fa S to d : Nat) (w : World) (k : Fit P F pa fa S d) (hpa : pa ≤ 20) (hfa : fa ≤ 21) (hto : to ≤ 20) :
    Calls Try.prog 74 #[.agg (gV P lo hi), .agg (lV F pa fa S to), .int .i64 d] w fun e w' => e = .returned (.agg (fV (ip (stS P F pa fa S to d)))) ∧ Below w.heap.size w w' := by
  have hs := (((Since.refl w).alloc (.cells (gV P lo hi) 25)).alloc (.cells (lV F pa fa S to) 38)).alloc (.cells (fV (0, 0)) 41)
  have HG := Lib.hid (((Blk.new w 25 (gV P lo hi)).alloc (.cells (lV F pa fa S to) 38)).alloc (.cells (fV (0, 0)) 41))
  have HL := Lib.hid ((Blk.new1 w (.cells (gV P lo hi) 25) 38 (lV F pa fa S to)).alloc (.cells (fV (0, 0)) 41))
  have HR := Lib.hid (Blk.new2 w (.cells (gV P lo hi) 25) (.cells (lV F pa fa S to) 38) 41 (fV (0, 0)))
  have HA := fun W => Lib.hid (rpassed_c lo hi P F pa fa S to d W k hpa hfa hto)
  have HC := fun W => Lib.hid (rcases_c lo hi P F pa fa S to W k.p k.f k.s)
  have hn := cases_le (S := S) k.p k.f
  have hpos := den_pos k.f k.s
  have h1 := avgS_le (pa := pa) (fa := fa) (to := to) (F := F) (S := S) (wo := fun _ => 1) k.d (m := 1) (fun _ _ => Nat.le_refl _)
  have h2 := avgS_le (pa := pa) (fa := fa) (to := to) (F := F) (S := S) (wo := fun v => v) k.d (m := 20) (fun v hv => by have := k.d; have := k.p; omega)
  have HV : Hid (stS P F pa fa S to d = shr (avgS P F pa fa S to d (fun v => v)) (bn P F * bn (P - F) S)) := rfl
  obtain ⟨a1, ha1⟩ : ∃ a, avgS P F pa fa S to d (fun _ => 1) = a := ⟨_, rfl⟩
  obtain ⟨a2, ha2⟩ : ∃ a, avgS P F pa fa S to d (fun v => v) = a := ⟨_, rfl⟩
  rw [ha1, ha2] at HA
  rw [ha1] at h1
  rw [ha2] at h2
  rw [ha2] at HV
  obtain ⟨n, hn0⟩ : ∃ n, bn P F * bn (P - F) S = n := ⟨_, rfl⟩
  rw [hn0] at HC hn hpos h1 h2 HV
  have HLW := fun W => Lib.hid (rLow_c a2 n W (by omega) (by omega) hpos)
  rw [← HV.out] at HLW
  obtain ⟨u, hu⟩ : ∃ u, ip (stS P F pa fa S to d) = u := ⟨_, rfl⟩
  rw [hu] at HLW ⊢
  clear hu ha1 ha2 hn0 hn hpos h1 h2 HV k hpa hfa hto
  obtain ⟨c0, c1, c2⟩ := HG.out.gcells
  obtain ⟨d0, d1, d2, d3, d4⟩ := HL.out.lcells
  go_enter Try.func74, Try.ntmps74
  go_wp2_with fail
  refine (HA _).out.mono ?_
  rintro e v1 ⟨rfl, hb⟩
  replace hs := hs.keep hb
  replace HG := Lib.hid (HG.out.keep hb)
  replace HL := Lib.hid (HL.out.keep hb)
  replace HR := Lib.hid (HR.out.keep hb)
  clear hb c0 c1 c2 d0 d1 d2 d3 d4
  obtain ⟨c0, c1, c2⟩ := HG.out.gcells
  obtain ⟨d0, d1, d2, d3, d4⟩ := HL.out.lcells
  go_wp2_with fail
  refine (HC _).out.mono ?_
  rintro e v2 ⟨rfl, hb⟩
  replace hs := hs.keep hb
  replace HR := Lib.hid (HR.out.keep hb)
  clear hb c0 c1 c2 d0 d1 d2 d3 d4
  go_wp2_with fail
  refine (HLW _).out.mono ?_
  rintro e v3 ⟨rfl, hb⟩
  replace hs := hs.keep hb
  replace HR := Lib.hid (HR.out.keep hb)
  clear hb
  go_wp2_with (refine wpList_store_row rfl 41 _ _ rfl (w.heap.size + 1 + 1) (fV u) rfl (by first | rfl | (simp; done)) 41 _ HR.out (by kernel_rfl) rfl (by simp [Value.oneCell']) ?_)
  (refine bodyPost_ret (v := .agg _) ?_ rfl ⟨rfl, ?_⟩; exact (results_cell_row Try.results74 _ _ (w.heap.size + 1 + 1) 41 _ (0, 0) _ rfl (HR.out.row _) Try.underlying41 rfl (by kernel_rfl)))
  exact (hs.row (by omega) _).1
set_option maxHeartbeats 2000000 in
theorem rplanned_c (P lo hi fi pa fa se to : Int) (w : World) :
    Calls Try.prog 66 #[.agg (gV P lo hi), .agg (lV fi pa fa se to)] w fun e w' => e = .returned (.int .i64 (chkP P lo hi fi pa fa se to)) ∧ Below w.heap.size w w' := by
  have hs := ((Since.refl w).alloc (.cells (gV P lo hi) 25)).alloc (.cells (lV fi pa fa se to) 38)
  have HG := Lib.hid ((Blk.new w 25 (gV P lo hi)).alloc (.cells (lV fi pa fa se to) 38))
  have HL := Lib.hid (Blk.new1 w (.cells (gV P lo hi) 25) 38 (lV fi pa fa se to))
  have HRP : Hid (∀ W, Calls Try.prog 26 #[.agg (gV P lo hi), .agg (lV fi pa fa se to)] W fun e w' => e = .returned (.int .i64 (chkP P lo hi fi pa fa se to)) ∧ Below W.heap.size W w') := fun W => rPlan_c P lo hi fi pa fa se to W
  have HNO : chkE P lo hi ≠ 0 → chkP P lo hi fi pa fa se to = chkE P lo hi := fun h => by unfold chkP; rw [if_neg h]
  obtain ⟨E, hE⟩ : ∃ E, chkP P lo hi fi pa fa se to = E := ⟨_, rfl⟩
  rw [hE] at HRP HNO ⊢
  clear hE
  obtain ⟨c0, c1, c2⟩ := HG.out.gcells
  go_enter Try.func66, Try.ntmps66
  go_wp2_with fail
  refine (rCheck_c P lo hi _).mono ?_
  rintro e v1 ⟨rfl, hb⟩
  replace hs := hs.keep hb
  replace HG := Lib.hid (HG.out.keep hb)
  replace HL := Lib.hid (HL.out.keep hb)
  clear hb c0 c1 c2
  by_cases hc : chkE P lo hi = 0
  · rw [hc]
    obtain ⟨c0, c1, c2⟩ := HG.out.gcells
    obtain ⟨d0, d1, d2, d3, d4⟩ := HL.out.lcells
    clear hc HNO
    go_wp2_with fail
    refine (HRP.out _).mono ?_
    rintro e v2 ⟨rfl, hb⟩
    replace hs := hs.keep hb
    clear hb c0 c1 c2 d0 d1 d2 d3 d4
    go_wp2_with fail
    go_ret
    exact ⟨rfl, hs.1⟩
  · have e1 := HNO hc
    subst e1
    have hc1 : (chkE P lo hi == 0) = false := by rw [beq_eq_false_iff_ne]; exact hc
    go_wp2_with fail
    go_ret
    exact ⟨rfl, hs.1⟩
set_option maxRecDepth 100000 in
set_option maxHeartbeats 4000000 in
theorem rOnce_c (lo hi : Int) (P d n pass : Nat) (w : World) (hd : d ≤ P) (hn : n ≤ P) (hP : P ≤ 20) (hps : pass ≤ 100) :
    Calls Try.prog 77 #[.agg (gV P lo hi), .int .i64 d, .int .i64 n, .int .i64 pass] w fun e w' => e = .returned (.agg (fV (ip (chS P n pass (pass + 1) 0 0 d)))) ∧ Below w.heap.size w w' := by
  have hs := ((Since.refl w).alloc (.cells (gV P lo hi) 25)).alloc (.cells (fV (0, 0)) 41)
  have HG := Lib.hid ((Blk.new w 25 (gV P lo hi)).alloc (.cells (fV (0, 0)) 41))
  have HR := Lib.hid (Blk.new1 w (.cells (gV P lo hi) 25) 41 (fV (0, 0)))
  obtain ⟨W2, hW2⟩ : ∃ W2, (w.alloc (.cells (gV P lo hi) 25)).alloc (.cells (fV (0, 0)) 41) = W2 := ⟨_, rfl⟩
  rw [hW2] at hs HG HR
  obtain ⟨t, ht⟩ : ∃ t : Nat → Nat, t = fun i => if i ≤ pass then sh P d n i else 0 := ⟨_, rfl⟩
  have HH : Hid (hdS P n d pass = sumN (n + 1) t) := by show _ = _; rw [ht]; rfl
  have hbn := bn_le (P := P) (n := n) hP
  have hpos := bn_pos (n := P) (k := n) hn
  have HB : Hid (∀ i, i ≤ n + 1 → sumN i t ≤ bn P n) := fun i hi => by
    refine Nat.le_trans ?_ (part_le (P := P) (b := d) hd hi)
    rw [ht]
    exact sumN_le fun j _ => by show (if j ≤ pass then sh P d n j else 0) ≤ _; split <;> omega
  have HT : Hid (∀ i, i ≤ pass → t i = sh P d n i) := fun i h => by rw [ht]; exact if_pos h
  have HZ : Hid (∀ i, pass < i → i ≤ n → hdS P n d pass = sumN i t) := fun i h1 h2 => by
    rw [HH.out]
    exact sumN_short (by omega) fun j h3 _ => by rw [ht]; exact if_neg (by omega)
  have HV : Hid (chS P n pass (pass + 1) 0 0 d = shr (hdS P n d pass) (bn P n)) := by show _ = _; unfold chS; rw [avg_once, bn_zero, Nat.mul_one]
  have HWY := fun W => Lib.hid (rways_c P n W (by omega))
  rw [wyI_nat] at HWY
  have HSH := fun (i : Nat) (hi : i ≤ n) W => Lib.hid (rshows_c (P : Int) d n i W (by omega) (by omega) (by unfold I64; omega) (by unfold I64; omega))
  have HSN : Hid (∀ i : Nat, i ≤ n → shI P d n i = sh P d n i) := fun i hi => shI_nat hd hi
  obtain ⟨H, hH⟩ : ∃ H, hdS P n d pass = H := ⟨_, rfl⟩
  obtain ⟨B, hB⟩ : ∃ B, bn P n = B := ⟨_, rfl⟩
  rw [hH] at HH HZ HV
  rw [hB] at hbn hpos HB HV HWY
  have HLW := fun W => Lib.hid (fun (h : H ≤ B) => rLow_c H B W (by omega) (by omega) hpos)
  rw [← HV.out] at HLW
  obtain ⟨u, hu⟩ : ∃ u, ip (chS P n pass (pass + 1) 0 0 d) = u := ⟨_, rfl⟩
  rw [hu] at HLW ⊢
  have HS0 := Lib.hid (Since.refl W2)
  have hsw := Lib.hid hs
  clear hu hH hB HV ht hs
  go_enter Try.func77, Try.ntmps77
  go_wp2_with fail
  first | rw [hW2] | skip
  clear hW2
  go_loopw [9, 10] (fun v i wr => ∃ a m : Nat, m ≤ n + 1 ∧ v = .int .i64 a ∧ i = .int .i64 m ∧ Hid (sumN m t = a) ∧ Hid (Since W2 wr)) (fun _ i _ => n + 1 - (intOf i).toNat)
  case atStart => exact ⟨0, 0, by omega, rfl, rfl, rfl, HS0⟩
  case round =>
    clear HS0
    obtain ⟨a, i, hi, rfl, rfl, Ha, HS⟩ := hrel
    obtain ⟨c0, c1, c2⟩ := (HG.out.keep HS.out.1).gcells
    have ba : a ≤ B := by rw [← Ha.out]; exact HB.out i hi
    by_cases hip : i ≤ pass
    · have r1 : (i : Int) ≤ (pass : Int) := by omega
      by_cases hin : i ≤ n
      · have r2 : (i : Int) ≤ (n : Int) := by omega
        have u1 : IntKind.i64.wrap ((i : Int) + 1) = ((i + 1 : Nat) : Int) := by rw [wrapI (by unfold I64; omega)]; omega
        have b2 := HB.out (i + 1) (by omega)
        have e1 : sumN (i + 1) t = a + sh P d n i := by rw [sumN_succ, Ha.out, HT.out i hip]
        have HX := HSH i hin
        rw [HSN.out i hin] at HX
        obtain ⟨x, hx⟩ : ∃ x, sh P d n i = x := ⟨_, rfl⟩
        rw [hx] at HX e1
        obtain ⟨a2, ha2⟩ : ∃ q, a + x = q := ⟨_, rfl⟩
        rw [ha2] at e1
        rw [e1] at b2
        have E1 : Hid (sumN (i + 1) t = a2) := e1
        have u2 : IntKind.i64.wrap ((a : Int) + (x : Int)) = (a2 : Int) := by rw [wrapI (by unfold I64; omega)]; omega
        clear hx ha2 e1 b2
        go_wp2_with fail
        refine (HX _).out.mono ?_
        rintro e v1 ⟨rfl, hb⟩
        have HS2 := Lib.hid (HS.out.keep hb)
        clear hb c0 c1 c2
        go_wp2_with fail
        go_roundw
        case rel => exact ⟨a2, i + 1, by omega, rfl, by go_num, E1, HS2⟩
        case measure => simp [intOf]; omega
      · have r2 : ¬ (i : Int) ≤ (n : Int) := by omega
        obtain rfl : i = n + 1 := by omega
        have hE : H = a := by rw [HH.out, Ha.out]
        subst hE
        have HL2 := fun W => Lib.hid ((HLW W).out ba)
        replace HR := Lib.hid (HR.out.keep HS.out.1)
        have hsx := hsw.out.keep HS.out.1
        clear HLW
        go_wp2_with fail
        refine (HWY _).out.mono ?_
        rintro e v1 ⟨rfl, hb⟩
        replace hsx := hsx.keep hb
        replace HR := Lib.hid (HR.out.keep hb)
        clear hb c0 c1 c2
        go_wp2_with fail
        refine (HL2 _).out.mono ?_
        rintro e v2 ⟨rfl, hb⟩
        replace hsx := hsx.keep hb
        replace HR := Lib.hid (HR.out.keep hb)
        clear hb
        go_wp2_with (refine wpList_store_row rfl 41 _ _ rfl (w.heap.size + 1) (fV u) rfl (by first | rfl | (simp; done)) 41 _ HR.out (by kernel_rfl) rfl (by simp [Value.oneCell']) ?_)
        (refine bodyPost_ret (v := .agg _) ?_ rfl ⟨rfl, ?_⟩; exact (results_cell_row Try.results77 _ _ (w.heap.size + 1) 41 _ (0, 0) _ rfl (HR.out.row _) Try.underlying41 rfl (by kernel_rfl)))
        exact (hsx.row (by omega) _).1
    · have r1 : ¬ (i : Int) ≤ (pass : Int) := by omega
      have hE : H = a := by
        by_cases hin : i ≤ n
        · rw [HZ.out i (by omega) hin, Ha.out]
        · obtain rfl : i = n + 1 := by omega
          rw [HH.out, Ha.out]
      subst hE
      have HL2 := fun W => Lib.hid ((HLW W).out ba)
      replace HR := Lib.hid (HR.out.keep HS.out.1)
      have hsx := hsw.out.keep HS.out.1
      clear HLW
      go_wp2_with fail
      refine (HWY _).out.mono ?_
      rintro e v1 ⟨rfl, hb⟩
      replace hsx := hsx.keep hb
      replace HR := Lib.hid (HR.out.keep hb)
      clear hb c0 c1 c2
      go_wp2_with fail
      refine (HL2 _).out.mono ?_
      rintro e v2 ⟨rfl, hb⟩
      replace hsx := hsx.keep hb
      replace HR := Lib.hid (HR.out.keep hb)
      clear hb
      go_wp2_with (refine wpList_store_row rfl 41 _ _ rfl (w.heap.size + 1) (fV u) rfl (by first | rfl | (simp; done)) 41 _ HR.out (by kernel_rfl) rfl (by simp [Value.oneCell']) ?_)
      (refine bodyPost_ret (v := .agg _) ?_ rfl ⟨rfl, ?_⟩; exact (results_cell_row Try.results77 _ _ (w.heap.size + 1) 41 _ (0, 0) _ rfl (HR.out.row _) Try.underlying41 rfl (by kernel_rfl)))
      exact (hsx.row (by omega) _).1
set_option maxRecDepth 100000 in
set_option maxHeartbeats 4000000 in
theorem rAvg_c (lo hi : Int) (P d n : Nat) (A : Option Addr) (xs : List Int) (c : Nat) (w : World) (hp : InAt w A xs) (hxl : xs.length = n + 1) (hb : ∀ x ∈ xs, 0 ≤ x ∧ x ≤ 100000) (hd : d ≤ P) (hn : n ≤ P) (hP : P ≤ 20) :
    Calls Try.prog 80 #[.agg (gV P lo hi), .slice A xs.length c, .int .i64 d] w fun e w' => e = .returned (.agg (fV (ip (prS P n xs d)))) ∧ Below w.heap.size w w' := by
  have hs := ((Since.refl w).alloc (.cells (gV P lo hi) 25)).alloc (.cells (fV (0, 0)) 41)
  have HG := Lib.hid ((Blk.new w 25 (gV P lo hi)).alloc (.cells (fV (0, 0)) 41))
  have HR := Lib.hid (Blk.new1 w (.cells (gV P lo hi) 25) 41 (fV (0, 0)))
  obtain ⟨W2, hW2⟩ : ∃ W2, (w.alloc (.cells (gV P lo hi) 25)).alloc (.cells (fV (0, 0)) 41) = W2 := ⟨_, rfl⟩
  rw [hW2] at hs HG HR
  have hpW := hp.keep hs.1
  obtain ⟨ad, rfl, hcx⟩ := hpW (fun e => by rw [e] at hxl; simp at hxl)
  obtain ⟨pay, hpay⟩ : ∃ p : Nat → Nat, p = fun i => (xs[i]?.getD 0).toNat := ⟨_, rfl⟩
  have HCX : Hid (∀ i, i ≤ n → pay i ≤ 100000 ∧ W2.cell? (ad.add i) = some (.int .i64 (pay i : Nat))) := fun i hi => by
    have hil : i < xs.length := by omega
    have hx := hb _ (List.getElem_mem hil)
    have e : xs[i]? = some xs[i] := List.getElem?_eq_getElem hil
    have e2 : ((pay i : Nat) : Int) = xs[i] := by rw [hpay]; show (((xs[i]?.getD 0).toNat : Nat) : Int) = _; rw [e]; simp; omega
    refine ⟨by rw [← e2] at hx; omega, ?_⟩
    rw [e2]
    exact hcx i _ e
  obtain ⟨t, ht⟩ : ∃ t : Nat → Nat, t = fun i => sh P d n i * pay i := ⟨_, rfl⟩
  have HH : Hid (prcS P d n pay = sumN (n + 1) t) := by show _ = _; rw [ht]; rfl
  have hbn := bn_le (P := P) (n := n) hP
  have hpos := bn_pos (n := P) (k := n) hn
  have hpr := prcS_le (P := P) (n := n) (pay := pay) hd (m := 100000) (fun i hi => (HCX.out i hi).1)
  have HB : Hid (∀ i, i ≤ n + 1 → sumN i t ≤ bn P n * 100000) := fun i hi => by
    refine Nat.le_trans (sumN_le_of hi) ?_
    rw [← HH.out]
    exact hpr
  have HT : Hid (∀ i, t i = sh P d n i * pay i) := fun i => by rw [ht]
  have HV : Hid (prS P n xs d = shr (prcS P d n pay) (bn P n)) := by show _ = _; rw [hpay]; rfl
  have HWY := fun W => Lib.hid (rways_c P n W (by omega))
  rw [wyI_nat] at HWY
  have HSH := fun (i : Nat) (hi : i ≤ n) W => Lib.hid (rshows_c (P : Int) d n i W (by omega) (by omega) (by unfold I64; omega) (by unfold I64; omega))
  have HSN : Hid (∀ i : Nat, i ≤ n → shI P d n i = sh P d n i) := fun i hi => shI_nat hd hi
  have HSL : Hid (∀ i : Nat, i ≤ n → sh P d n i ≤ bn P n) := fun i hi => sh_le hd hi
  obtain ⟨H, hH⟩ : ∃ H, prcS P d n pay = H := ⟨_, rfl⟩
  obtain ⟨B, hB⟩ : ∃ B, bn P n = B := ⟨_, rfl⟩
  rw [hH] at HH HV hpr
  rw [hB] at hbn hpos HB HV HWY HSL hpr
  have HLW := fun W => Lib.hid (rLow_c H B W (by omega) (by omega) hpos)
  rw [← HV.out] at HLW
  obtain ⟨u, hu⟩ : ∃ u, ip (prS P n xs d) = u := ⟨_, rfl⟩
  rw [hu] at HLW ⊢
  obtain ⟨n1, hn1⟩ : ∃ m, xs.length = m := ⟨_, rfl⟩
  rw [hn1] at hxl ⊢
  have u0 : IntKind.i64.wrap ((n1 : Int) - 1) = (n : Int) := by rw [wrapI (by unfold I64; omega)]; omega
  have HS0 := Lib.hid (Since.refl W2)
  have hsw := Lib.hid hs
  have HXL := Lib.hid hxl
  clear hu hH hB HV ht hs hpay hcx hpW hp hb hn1 hpr hxl
  go_enter Try.func80, Try.ntmps80
  go_wp2_with fail
  first | rw [hW2] | skip
  clear hW2
  go_loopw [8, 9] (fun v i wr => ∃ a m : Nat, m ≤ n + 1 ∧ v = .int .i64 a ∧ i = .int .i64 m ∧ Hid (sumN m t = a) ∧ Hid (Since W2 wr)) (fun _ i _ => n + 1 - (intOf i).toNat)
  case atStart => exact ⟨0, 0, by omega, rfl, rfl, rfl, HS0⟩
  case round =>
    clear HS0
    obtain ⟨a, i, hi, rfl, rfl, Ha, HS⟩ := hrel
    obtain ⟨c0, c1, c2⟩ := (HG.out.keep HS.out.1).gcells
    by_cases hin : i ≤ n
    · have r2 : (i : Int) ≤ (n : Int) := by omega
      have u1 : IntKind.i64.wrap ((i : Int) + 1) = ((i + 1 : Nat) : Int) := by rw [wrapI (by unfold I64; omega)]; omega
      obtain ⟨hpl, hcx⟩ := HCX.out i hin
      have cx := keep_cell HS.out.1 hcx
      have b2 := HB.out (i + 1) (by omega)
      have e1 : sumN (i + 1) t = a + sh P d n i * pay i := by rw [sumN_succ, Ha.out, HT.out i]
      have HX := HSH i hin
      rw [HSN.out i hin] at HX
      obtain ⟨x, hx⟩ : ∃ x, sh P d n i = x := ⟨_, rfl⟩
      obtain ⟨px, hpx⟩ : ∃ p, pay i = p := ⟨_, rfl⟩
      rw [hx] at HX e1
      rw [hpx] at cx e1 hpl
      obtain ⟨px_x, hpxx⟩ : ∃ q, x * px = q := ⟨_, rfl⟩
      rw [hpxx] at e1
      obtain ⟨a2, ha2⟩ : ∃ q, a + px_x = q := ⟨_, rfl⟩
      rw [ha2] at e1
      rw [e1] at b2
      have E1 : Hid (sumN (i + 1) t = a2) := e1
      have u3 : IntKind.i64.wrap ((px : Int) * (x : Int)) = (px_x : Int) := by rw [← Int.natCast_mul, Nat.mul_comm, hpxx, wrapI (by unfold I64; omega)]
      have u2 : IntKind.i64.wrap ((a : Int) + (px_x : Int)) = (a2 : Int) := by rw [wrapI (by unfold I64; omega)]; omega
      have l1 : i < n1 := by have := HXL.out; omega
      have l2 : (i : Int) < (n1 : Int) := by omega
      clear hx ha2 e1 b2 hpx hpxx hcx
      go_wp2_with fail
      refine Vals6.regionAll (fun X => Below wr.drew.heap.size wr.drew X) [some 18, some 19, some 20, some 21, some 22, some 23, some 24, some 25, some 26, some 27, some 28, some 29, some 30] [.is (.int .i64 (a : Nat)), .is (.slice (some ad) n1 c), .is (.int .i64 (i : Nat)), .is ?_, .is (.int .i64 (px : Nat)), .is ?_, .is (.int .i64 (P : Nat)), .is (.int .i64 (d : Nat)), .is (.int .i64 (n : Nat)), .is (.int .i64 (i : Nat)), .is (.int .i64 (x : Nat)), .is (.int .i64 (px_x : Nat)), .is (.int .i64 (a2 : Nat))] (by kernel_rfl) rfl rfl (by kernel_rfl) (by kernel_rfl) (by kernel_rfl) (by kernel_rfl) (by kernel_rfl) (by kernel_rfl) rfl (Below.refl _ _) ?hsteps ?hend
      case hsteps =>
        refine Vals5.Steps.run rfl (Vals5.Stable.is _) ?_ ?_
        · intro a W hS pre old K hK
          have e8 := old 8 _ (by kernel_rfl) rfl
          clear pre old
          simp only [Vals5.fits, Array.getD_eq_getD_getElem?, List.getElem?_toArray, List.getElem?_cons_zero, List.getElem?_cons_succ, Option.getD_some] at e8
          go_simp
          refine hK _ _ hS (Below.refl _ _) ?_
          exact fits_is _ _
        refine Vals5.Steps.run rfl (Vals5.Stable.is _) ?_ ?_
        · intro a W hS pre old K hK
          have e1 := old 1 _ (by kernel_rfl) rfl
          clear pre old
          simp only [Vals5.fits, Array.getD_eq_getD_getElem?, List.getElem?_toArray, List.getElem?_cons_zero, List.getElem?_cons_succ, Option.getD_some] at e1
          go_simp
          refine hK _ _ hS (Below.refl _ _) ?_
          exact fits_is _ _
        refine Vals5.Steps.run rfl (Vals5.Stable.is _) ?_ ?_
        · intro a W hS pre old K hK
          have e9 := old 9 _ (by kernel_rfl) rfl
          clear pre old
          simp only [Vals5.fits, Array.getD_eq_getD_getElem?, List.getElem?_toArray, List.getElem?_cons_zero, List.getElem?_cons_succ, Option.getD_some] at e9
          go_simp
          refine hK _ _ hS (Below.refl _ _) ?_
          exact fits_is _ _
        refine Vals5.Steps.run rfl (Vals5.Stable.is _) ?_ ?_
        · intro a W hS pre old K hK
          have e19 := pre 1 19 _ (by kernel_rfl) rfl rfl
          have e20 := pre 2 20 _ (by kernel_rfl) rfl rfl
          clear pre old
          simp only [Vals5.fits, Array.getD_eq_getD_getElem?, List.getElem?_toArray, List.getElem?_cons_zero, List.getElem?_cons_succ, Option.getD_some] at e19 e20
          go_simp
          refine hK _ _ hS (Below.refl _ _) ?_
          exact fits_is _ _
        refine Vals5.Steps.run rfl (Vals5.Stable.is _) ?_ ?_
        · intro a W hS pre old K hK
          have e21 := pre 3 21 _ (by kernel_rfl) rfl rfl
          clear pre old
          simp only [Vals5.fits, Array.getD_eq_getD_getElem?, List.getElem?_toArray, List.getElem?_cons_zero, List.getElem?_cons_succ, Option.getD_some] at e21
          have hS9 := hS
          have bw9 : Below wr.heap.size wr W := (Below.drew (Below.refl _ _)).trans (hS9.mono (by first | exact Nat.le_refl _ | (simp; done)))
          have e0_ := keep_cell bw9 c0
          have e1_ := keep_cell bw9 cx
          go_simp
          refine hK _ _ hS (Below.refl _ _) ?_
          exact fits_is _ _
        refine Vals5.Steps.run rfl (Vals5.Stable.is _) ?_ ?_
        · intro a W hS pre old K hK
          have e3 := old 3 _ (by kernel_rfl) rfl
          clear pre old
          simp only [Vals5.fits, Array.getD_eq_getD_getElem?, List.getElem?_toArray, List.getElem?_cons_zero, List.getElem?_cons_succ, Option.getD_some] at e3
          go_simp
          refine hK _ _ hS (Below.refl _ _) ?_
          exact fits_is _ _
        refine Vals5.Steps.run rfl (Vals5.Stable.is _) ?_ ?_
        · intro a W hS pre old K hK
          have e23 := pre 5 23 _ (by kernel_rfl) rfl rfl
          clear pre old
          simp only [Vals5.fits, Array.getD_eq_getD_getElem?, List.getElem?_toArray, List.getElem?_cons_zero, List.getElem?_cons_succ, Option.getD_some] at e23
          have hS9 := hS
          have bw9 : Below wr.heap.size wr W := (Below.drew (Below.refl _ _)).trans (hS9.mono (by first | exact Nat.le_refl _ | (simp; done)))
          have e0_ := keep_cell bw9 c0
          have e1_ := keep_cell bw9 cx
          go_simp
          refine hK _ _ hS (Below.refl _ _) ?_
          exact fits_is _ _
        refine Vals5.Steps.run rfl (Vals5.Stable.is _) ?_ ?_
        · intro a W hS pre old K hK
          have e2 := old 2 _ (by kernel_rfl) rfl
          clear pre old
          simp only [Vals5.fits, Array.getD_eq_getD_getElem?, List.getElem?_toArray, List.getElem?_cons_zero, List.getElem?_cons_succ, Option.getD_some] at e2
          go_simp
          refine hK _ _ hS (Below.refl _ _) ?_
          exact fits_is _ _
        refine Vals5.Steps.run rfl (Vals5.Stable.is _) ?_ ?_
        · intro a W hS pre old K hK
          have e7 := old 7 _ (by kernel_rfl) rfl
          clear pre old
          simp only [Vals5.fits, Array.getD_eq_getD_getElem?, List.getElem?_toArray, List.getElem?_cons_zero, List.getElem?_cons_succ, Option.getD_some] at e7
          go_simp
          refine hK _ _ hS (Below.refl _ _) ?_
          exact fits_is _ _
        refine Vals5.Steps.run rfl (Vals5.Stable.is _) ?_ ?_
        · intro a W hS pre old K hK
          have e9 := old 9 _ (by kernel_rfl) rfl
          clear pre old
          simp only [Vals5.fits, Array.getD_eq_getD_getElem?, List.getElem?_toArray, List.getElem?_cons_zero, List.getElem?_cons_succ, Option.getD_some] at e9
          go_simp
          refine hK _ _ hS (Below.refl _ _) ?_
          exact fits_is _ _
        refine Vals5.Steps.run rfl (Vals5.Stable.is _) ?_ ?_
        · intro a W hS pre old K hK
          have e24 := pre 6 24 _ (by kernel_rfl) rfl rfl
          have e25 := pre 7 25 _ (by kernel_rfl) rfl rfl
          have e26 := pre 8 26 _ (by kernel_rfl) rfl rfl
          have e27 := pre 9 27 _ (by kernel_rfl) rfl rfl
          clear pre old
          simp only [Vals5.fits, Array.getD_eq_getD_getElem?, List.getElem?_toArray, List.getElem?_cons_zero, List.getElem?_cons_succ, Option.getD_some] at e24 e25 e26 e27
          go_simp
          refine ((HX _).out).mono ?_
          rintro e w' ⟨rfl, hb'⟩
          refine hK _ _ (hS.trans (hb'.mono hS.size)) hb' ?_
          exact fits_is _ _
        refine Vals5.Steps.run rfl (Vals5.Stable.is _) ?_ ?_
        · intro a W hS pre old K hK
          have e22 := pre 4 22 _ (by kernel_rfl) rfl rfl
          have e28 := pre 10 28 _ (by kernel_rfl) rfl rfl
          clear pre old
          simp only [Vals5.fits, Array.getD_eq_getD_getElem?, List.getElem?_toArray, List.getElem?_cons_zero, List.getElem?_cons_succ, Option.getD_some] at e22 e28
          go_simp
          refine hK _ _ hS (Below.refl _ _) ?_
          exact fits_is _ _
        refine Vals5.Steps.run rfl (Vals5.Stable.is _) ?_ ?_
        · intro a W hS pre old K hK
          have e18 := pre 0 18 _ (by kernel_rfl) rfl rfl
          have e29 := pre 11 29 _ (by kernel_rfl) rfl rfl
          clear pre old
          simp only [Vals5.fits, Array.getD_eq_getD_getElem?, List.getElem?_toArray, List.getElem?_cons_zero, List.getElem?_cons_succ, Option.getD_some] at e18 e29
          go_simp
          refine hK _ _ hS (Below.refl _ _) ?_
          exact fits_is _ _
        exact Vals5.Steps.nil
      case hend =>
      rintro X hX
      have HS2 := Lib.hid (HS.out.keep (Below.drew (Below.refl _ _)) |>.keep hX)
      simp only [Vals5.All, List.getLast_cons_cons, List.getLast_singleton]
      simp only [Vals.putAll, List.setIfInBounds_toArray, List.set_cons_zero, List.set_cons_succ]
      intro K hK
      go_simp
      refine hK _ _ ?_
      clear hK K c0 c1 c2 cx
      go_wp2_with fail
      go_roundw
      case rel => exact ⟨a2, i + 1, by omega, rfl, by go_num, E1, HS2⟩
      case measure => simp [intOf]; omega
    · have r2 : ¬ (i : Int) ≤ (n : Int) := by omega
      obtain rfl : i = n + 1 := by omega
      have hE : H = a := by rw [HH.out, Ha.out]
      subst hE
      have HL2 := fun W => Lib.hid ((HLW W).out)
      replace HR := Lib.hid (HR.out.keep HS.out.1)
      have hsx := hsw.out.keep HS.out.1
      clear HLW
      go_wp2_with fail
      refine (HWY _).out.mono ?_
      rintro e v1 ⟨rfl, hb⟩
      replace hsx := hsx.keep hb
      replace HR := Lib.hid (HR.out.keep hb)
      clear hb c0 c1 c2
      go_wp2_with fail
      refine (HL2 _).out.mono ?_
      rintro e v2 ⟨rfl, hb⟩
      replace hsx := hsx.keep hb
      replace HR := Lib.hid (HR.out.keep hb)
      clear hb
      go_wp2_with (refine wpList_store_row rfl 41 _ _ rfl (w.heap.size + 1) (fV u) rfl (by first | rfl | (simp; done)) 41 _ HR.out (by kernel_rfl) rfl (by simp [Value.oneCell']) ?_)
      (refine bodyPost_ret (v := .agg _) ?_ rfl ⟨rfl, ?_⟩; exact (results_cell_row Try.results80 _ _ (w.heap.size + 1) 41 _ (0, 0) _ rfl (HR.out.row _) Try.underlying41 rfl (by kernel_rfl)))
      exact (hsx.row (by omega) _).1
end Td
end Go.Proofs.Ytgkdidnmndmlhaa
