import Derived.Test.YtmofbnadfgejiaaHldD
import Derived.Test.YtmofbnadfgejiaaMathQ
import Derived.Test.YtmofbnadfgejiaaVals10
/- The reference: Covers. -/
namespace Go.Proofs.Ytmofbnadfgejiaa
open Go.RowKit
namespace Td
set_option linter.unusedSimpArgs false
set_option linter.unusedVariables false
attribute [local go_sem] Oper.semAt_some
/-- some minute of the list covers minute t. -/
def hitB (U : Nat → Int) (t : Nat) (L : List Nat) : Bool := L.any fun x => decide (x ≤ t) && decide ((t : Int) ≤ U x)
/-- every minute is covered. -/
def covB (U : Nat → Int) (fr to : Nat) (L : List Nat) : Bool := (List.range (to + 1 - fr)).all fun i => hitB U (fr + i) L
theorem hitB_next (U : Nat → Int) (t : Nat) {L : List Nat} {k : Nat} (h : k < L.length) : hitB U t (L.take (k + 1)) = (hitB U t (L.take k) || (decide (L[k] ≤ t) && decide ((t : Int) ≤ U L[k]))) := by
  unfold hitB
  rw [List.take_succ_eq_append_getElem h, List.any_append]
  simp
theorem hitB_iff {U : Nat → Int} {t : Nat} {L : List Nat} : hitB U t L = true ↔ ∃ x ∈ L, x ≤ t ∧ (t : Int) ≤ U x := by
  unfold hitB
  simp
theorem covB_iff {U : Nat → Int} {fr to : Nat} {L : List Nat} : covB U fr to L = true ↔ ∀ t, fr ≤ t → t ≤ to → ∃ x ∈ L, x ≤ t ∧ (t : Int) ≤ U x := by
  unfold covB
  rw [List.all_eq_true]
  constructor
  · intro h t h1 h2
    have := h (t - fr) (List.mem_range.2 (by omega))
    rw [show fr + (t - fr) = t by omega] at this
    exact hitB_iff.1 this
  · intro h i hi
    have := List.mem_range.1 hi
    exact hitB_iff.2 (h (fr + i) (by omega) (by omega))
theorem covB_no {U : Nat → Int} {fr to : Nat} {L : List Nat} {t : Nat} (h1 : fr ≤ t) (h2 : t ≤ to) (h : hitB U t L = false) : covB U fr to L = false := by
  cases e : covB U fr to L
  · rfl
  · rw [hitB_iff.2 (covB_iff.1 e t h1 h2)] at h
    cases h
theorem covB_yes {U : Nat → Int} {fr to : Nat} {L : List Nat} (h : ∀ t, fr ≤ t → t ≤ to → hitB U t L = true) : covB U fr to L = true := covB_iff.2 fun t h1 h2 => hitB_iff.1 (h t h1 h2)
theorem Sp.dN {w W : World} {s : Spc} {m : Sl} (h : Sp w s m W) (n : Nat) : Sp w s m (W.drewN n) := ⟨⟨bdrew h.sn.1 _, h.sn.2⟩, h.bk⟩
set_option maxRecDepth 100000 in
set_option maxHeartbeats 8000000 in
theorem rcovers_c (s : Spc) (m : Sl) (tool shown : Int) (U : Nat → Int) (fr to : Nat) (L : List Nat) (A : Option Addr) (c : Nat) (w : World) (hs : SOk s) (hsa : SAt w m s) (hU : ∀ x : Nat, x ≤ 60 → ROk s ⟨(x : Int), tool, shown⟩ ∧ hol s ⟨(x : Int), tool, shown⟩ = U x ∧ -1 ≤ U x ∧ U x ≤ 60) (hft : fr ≤ to) (h60 : to ≤ 60) (hL : ∀ x ∈ L, x ≤ 60) (hlen : L.length ≤ 1048576) (hI : InAt w A (L.map fun (x : Nat) => (x : Int))) :
    Calls Try.prog 39 #[.agg (sV s m), .int .i64 tool, .int .i64 shown, .int .i64 fr, .int .i64 to, .slice A L.length c] w fun e w' => e = .returned (.bool (covB U fr to L)) ∧ Below w.heap.size w w' := by
  have hS0 := Sp.start w s m
  have HC : Hid (∀ (W : World) (x : Nat), x ≤ 60 → Sp w s m W → Calls Try.prog 62 #[.agg (sV s m), .int .i64 tool, .int .i64 shown, .int .i64 x] W fun e w' => e = .returned (.int .i64 (U x)) ∧ Below W.heap.size W w') := fun W x hx hW => by
    have := rholds_c s m ⟨(x : Int), tool, shown⟩ W hs (hsa.keep hW.sn.1) (hU x hx).1
    rw [(hU x hx).2.1] at this
    exact this
  have HI := Lib.hid hI
  have HL := Lib.hid hL
  have HS0 := Lib.hid hS0
  have HA0 : Hid (∀ t, fr ≤ t → t < fr + 0 → hitB U t L = true) := fun t h1 h2 => by omega
  clear hU hs hI hL hS0
  go_enter Try.func39, Try.ntmps39
  go_wp2_with fail
  go_loopw [13, 14, 15] (fun t _ _ wr => ∃ d : Nat, fr + d ≤ to + 1 ∧ t = .int .i64 ((fr : Int) + (d : Int)) ∧ Hid (∀ t, fr ≤ t → t < fr + d → hitB U t L = true) ∧ Hid (Sp w s m wr)) (fun t _ _ _ => ((to : Int) + 1 - intOf t).toNat)
  case atStart => exact ⟨0, by omega, by simp, HA0, HS0⟩
  case round =>
    clear HA0 HS0
    obtain ⟨d, hd, rfl, HA, HS⟩ := hrel
    obtain ⟨x, hx⟩ : ∃ x : Nat, x = fr + d := ⟨_, rfl⟩
    have hx2 : (fr : Int) + (d : Int) = (x : Int) := by omega
    rw [hx2]
    rw [← hx] at HA
    by_cases hxt : x ≤ to
    · have hxt' : (x : Int) ≤ (to : Int) := by omega
      have HB0 : Hid (hitB U x (L.take 0) = false) := rfl
      have hw1 : IntKind.i64.wrap ((x : Int) + 1) = (fr : Int) + ((d + 1 : Nat) : Int) := by rw [IntWalk.i64_in _ (by omega)]; push_cast; omega
      have HX := Lib.hid hx
      have HS1 := Lib.hid HS.out
      clear hx hx2 HS
      go_wp2_with fail
      go_loopw [14, 15] (fun b i wy => ∃ (k : Nat) (bv : Bool), k ≤ L.length ∧ b = .bool bv ∧ i = .int .i64 (k : Int) ∧ Hid (hitB U x (L.take k) = bv) ∧ Hid (Sp w s m wy)) (fun _ i _ => L.length - (intOf i).toNat)
      case atStart => exact ⟨0, false, by omega, rfl, rfl, HB0, HS1⟩
      case round =>
        clear HB0 HS1
        obtain ⟨k, bv, hk, rfl, rfl, HB, HS⟩ := hrel
        by_cases hkl : k < L.length
        · have hkl' : (k : Int) < (L.length : Int) := by omega
          have hy6 := HL.out L[k] (List.getElem_mem hkl)
          have hnx := hitB_next U x hkl
          rw [HB.out] at hnx
          obtain ⟨ad, rfl, hc⟩ := HI.out.get (k := k) (by simpa using hkl)
          rw [List.getElem_map] at hc
          obtain ⟨y, hy⟩ : ∃ y, L[k] = y := ⟨_, rfl⟩
          rw [hy] at hnx hc hy6
          have hw2 : IntKind.i64.wrap ((k : Int) + 1) = ((k + 1 : Nat) : Int) := by rw [IntWalk.i64_in _ (by omega)]; push_cast; rfl
          have y0 := keep_cell HS.out.sn.1 hc
          clear hy
          cases bv
          · by_cases hyx : y ≤ x
            · obtain ⟨hb, hhb⟩ : ∃ hb, decide ((x : Int) ≤ U y) = hb := ⟨_, rfl⟩
              have HNX : Hid (hitB U x (L.take (k + 1)) = hb) := by show _ = _; rw [hnx, hhb]; simp [hyx]
              have HUB := Lib.hid hhb
              have HY6 := Lib.hid hy6
              have HY0 := Lib.hid y0
              have HKI := Lib.hid hkl'
              have HYT : Hid ((y : Int) ≤ (x : Int)) := Int.ofNat_le.2 hyx
              clear hhb hnx hy6 y0 hc
              go_wp2_with fail
              refine Vals10.region (fun _ Z => Sp w s m Z ∧ Since wr Z) [some 28, some 29, some 30, some 31, some 32, some 33, some 34, some 35, some 36, some 37, some 38, some 39, some 40, some 41, some 42, some 43, some 44, some 45, some 46, some 47, some 48, some 14] [.is (.bool false), .is (.bool false), .is ?_, .is ?_, .is (.pointer (some (ad.add k))), .is (.int .i64 (y : Int)), .is (.int .i64 (x : Int)), .is (.bool true), .is (.bool true), .is ?_, .is ?_, .is ?_, .is ?_, .is ?_, .is (.pointer (some (ad.add k))), .is (.int .i64 (y : Int)), .is (.int .i64 (U y)), .is (.int .i64 (x : Int)), .is (.bool hb), .is (.bool hb), .is (.bool hb), .is (.bool hb)] (by kernel_rfl) (by kernel_rfl) (by kernel_rfl) (by kernel_rfl) (by kernel_rfl) (by kernel_rfl) (⟨HS.out.drew, (Since.refl wr).drew⟩) ?hsteps ?hfin
              case hsteps =>
                refine Vals10.Steps.run rfl ?_ ?_
                · intro a W σ hJ pre K hK
                  have e14 := pre.2.2 14 _ (by kernel_rfl) rfl
                  clear pre
                  simp only [Array.getD_eq_getD_getElem?, List.getElem?_toArray, List.getElem?_cons_zero, List.getElem?_cons_succ, Option.getD_some] at e14
                  go_simp
                  exact hK _ hJ
                refine Vals10.Steps.run rfl ?_ ?_
                · intro a W σ hJ pre K hK
                  have e28 := pre.1 0 28 _ (by kernel_rfl) rfl rfl
                  clear pre
                  simp only [Array.getD_eq_getD_getElem?, List.getElem?_toArray, List.getElem?_cons_zero, List.getElem?_cons_succ, Option.getD_some] at e28
                  go_simp
                  exact hK _ hJ
                refine Vals10.Steps.run rfl ?_ ?_
                · intro a W σ hJ pre K hK
                  have e5 := pre.2.2 5 _ (by kernel_rfl) rfl
                  clear pre
                  simp only [Array.getD_eq_getD_getElem?, List.getElem?_toArray, List.getElem?_cons_zero, List.getElem?_cons_succ, Option.getD_some] at e5
                  go_simp
                  exact hK _ hJ
                refine Vals10.Steps.run rfl ?_ ?_
                · intro a W σ hJ pre K hK
                  have e15 := pre.2.2 15 _ (by kernel_rfl) rfl
                  clear pre
                  simp only [Array.getD_eq_getD_getElem?, List.getElem?_toArray, List.getElem?_cons_zero, List.getElem?_cons_succ, Option.getD_some] at e15
                  go_simp
                  exact hK _ hJ
                refine Vals10.Steps.run rfl ?_ ?_
                · intro a W σ hJ pre K hK
                  have e30 := pre.1 2 30 _ (by kernel_rfl) rfl rfl
                  have e31 := pre.1 3 31 _ (by kernel_rfl) rfl rfl
                  clear pre
                  simp only [Array.getD_eq_getD_getElem?, List.getElem?_toArray, List.getElem?_cons_zero, List.getElem?_cons_succ, Option.getD_some] at e30 e31
                  have hki := HKI.out
                  go_simp
                  exact hK _ hJ
                refine Vals10.Steps.run rfl ?_ ?_
                · intro a W σ hJ pre K hK
                  have e32 := pre.1 4 32 _ (by kernel_rfl) rfl rfl
                  clear pre
                  simp only [Array.getD_eq_getD_getElem?, List.getElem?_toArray, List.getElem?_cons_zero, List.getElem?_cons_succ, Option.getD_some] at e32
                  have hS9 := hJ
                  obtain ⟨c0, c1, c2, c3, c4, c5, c6, c7, c8⟩ := hJ.1.bk.space
                  have y0 := keep_cell hJ.2.1 HY0.out
                  go_simp
                  exact hK _ hJ
                refine Vals10.Steps.run rfl ?_ ?_
                · intro a W σ hJ pre K hK
                  have e13 := pre.2.2 13 _ (by kernel_rfl) rfl
                  clear pre
                  simp only [Array.getD_eq_getD_getElem?, List.getElem?_toArray, List.getElem?_cons_zero, List.getElem?_cons_succ, Option.getD_some] at e13
                  go_simp
                  exact hK _ hJ
                refine Vals10.Steps.run rfl ?_ ?_
                · intro a W σ hJ pre K hK
                  have e33 := pre.1 5 33 _ (by kernel_rfl) rfl rfl
                  have e34 := pre.1 6 34 _ (by kernel_rfl) rfl rfl
                  clear pre
                  simp only [Array.getD_eq_getD_getElem?, List.getElem?_toArray, List.getElem?_cons_zero, List.getElem?_cons_succ, Option.getD_some] at e33 e34
                  have h1 := HYT.out
                  go_simp
                  exact hK _ hJ
                refine Vals10.Steps.run rfl ?_ ?_
                · intro a W σ hJ pre K hK
                  have e35 := pre.1 7 35 _ (by kernel_rfl) rfl rfl
                  clear pre
                  simp only [Array.getD_eq_getD_getElem?, List.getElem?_toArray, List.getElem?_cons_zero, List.getElem?_cons_succ, Option.getD_some] at e35
                  go_simp
                  exact hK _ hJ
                refine Vals10.Steps.run rfl ?_ ?_
                · intro a W σ hJ pre K hK
                  have e6 := pre.2.2 6 _ (by kernel_rfl) rfl
                  clear pre
                  simp only [Array.getD_eq_getD_getElem?, List.getElem?_toArray, List.getElem?_cons_zero, List.getElem?_cons_succ, Option.getD_some] at e6
                  have hS9 := hJ
                  obtain ⟨c0, c1, c2, c3, c4, c5, c6, c7, c8⟩ := hJ.1.bk.space
                  have y0 := keep_cell hJ.2.1 HY0.out
                  go_simp
                  exact hK _ hJ
                refine Vals10.Steps.run rfl ?_ ?_
                · intro a W σ hJ pre K hK
                  have e1 := pre.2.2 1 _ (by kernel_rfl) rfl
                  clear pre
                  simp only [Array.getD_eq_getD_getElem?, List.getElem?_toArray, List.getElem?_cons_zero, List.getElem?_cons_succ, Option.getD_some] at e1
                  go_simp
                  exact hK _ hJ
                refine Vals10.Steps.run rfl ?_ ?_
                · intro a W σ hJ pre K hK
                  have e2 := pre.2.2 2 _ (by kernel_rfl) rfl
                  clear pre
                  simp only [Array.getD_eq_getD_getElem?, List.getElem?_toArray, List.getElem?_cons_zero, List.getElem?_cons_succ, Option.getD_some] at e2
                  go_simp
                  exact hK _ hJ
                refine Vals10.Steps.run rfl ?_ ?_
                · intro a W σ hJ pre K hK
                  have e5 := pre.2.2 5 _ (by kernel_rfl) rfl
                  clear pre
                  simp only [Array.getD_eq_getD_getElem?, List.getElem?_toArray, List.getElem?_cons_zero, List.getElem?_cons_succ, Option.getD_some] at e5
                  go_simp
                  exact hK _ hJ
                refine Vals10.Steps.run rfl ?_ ?_
                · intro a W σ hJ pre K hK
                  have e15 := pre.2.2 15 _ (by kernel_rfl) rfl
                  clear pre
                  simp only [Array.getD_eq_getD_getElem?, List.getElem?_toArray, List.getElem?_cons_zero, List.getElem?_cons_succ, Option.getD_some] at e15
                  go_simp
                  exact hK _ hJ
                refine Vals10.Steps.run rfl ?_ ?_
                · intro a W σ hJ pre K hK
                  have e40 := pre.1 12 40 _ (by kernel_rfl) rfl rfl
                  have e41 := pre.1 13 41 _ (by kernel_rfl) rfl rfl
                  clear pre
                  simp only [Array.getD_eq_getD_getElem?, List.getElem?_toArray, List.getElem?_cons_zero, List.getElem?_cons_succ, Option.getD_some] at e40 e41
                  have hki := HKI.out
                  go_simp
                  exact hK _ hJ
                refine Vals10.Steps.run rfl ?_ ?_
                · intro a W σ hJ pre K hK
                  have e42 := pre.1 14 42 _ (by kernel_rfl) rfl rfl
                  clear pre
                  simp only [Array.getD_eq_getD_getElem?, List.getElem?_toArray, List.getElem?_cons_zero, List.getElem?_cons_succ, Option.getD_some] at e42
                  have hS9 := hJ
                  obtain ⟨c0, c1, c2, c3, c4, c5, c6, c7, c8⟩ := hJ.1.bk.space
                  have y0 := keep_cell hJ.2.1 HY0.out
                  go_simp
                  exact hK _ hJ
                refine Vals10.Steps.run rfl ?_ ?_
                · intro a W σ hJ pre K hK
                  have e37 := pre.1 9 37 _ (by kernel_rfl) rfl rfl
                  have e38 := pre.1 10 38 _ (by kernel_rfl) rfl rfl
                  have e39 := pre.1 11 39 _ (by kernel_rfl) rfl rfl
                  have e43 := pre.1 15 43 _ (by kernel_rfl) rfl rfl
                  clear pre
                  simp only [Array.getD_eq_getD_getElem?, List.getElem?_toArray, List.getElem?_cons_zero, List.getElem?_cons_succ, Option.getD_some] at e37 e38 e39 e43
                  go_simp
                  refine (HC.out W y (HY6.out) hJ.1).mono ?_
                  rintro e w' ⟨rfl, hb'⟩
                  exact hK _ ⟨hJ.1.keep hb', hJ.2.keep hb'⟩
                refine Vals10.Steps.run rfl ?_ ?_
                · intro a W σ hJ pre K hK
                  have e13 := pre.2.2 13 _ (by kernel_rfl) rfl
                  clear pre
                  simp only [Array.getD_eq_getD_getElem?, List.getElem?_toArray, List.getElem?_cons_zero, List.getElem?_cons_succ, Option.getD_some] at e13
                  go_simp
                  exact hK _ hJ
                refine Vals10.Steps.run rfl ?_ ?_
                · intro a W σ hJ pre K hK
                  have e44 := pre.1 16 44 _ (by kernel_rfl) rfl rfl
                  have e45 := pre.1 17 45 _ (by kernel_rfl) rfl rfl
                  clear pre
                  simp only [Array.getD_eq_getD_getElem?, List.getElem?_toArray, List.getElem?_cons_zero, List.getElem?_cons_succ, Option.getD_some] at e44 e45
                  have h1 := HUB.out
                  go_simp
                  exact hK _ hJ
                refine Vals10.Steps.run rfl ?_ ?_
                · intro a W σ hJ pre K hK
                  have e36 := pre.1 8 36 _ (by kernel_rfl) rfl rfl
                  have e46 := pre.1 18 46 _ (by kernel_rfl) rfl rfl
                  clear pre
                  simp only [Array.getD_eq_getD_getElem?, List.getElem?_toArray, List.getElem?_cons_zero, List.getElem?_cons_succ, Option.getD_some] at e36 e46
                  go_simp
                  exact hK _ hJ
                refine Vals10.Steps.run rfl ?_ ?_
                · intro a W σ hJ pre K hK
                  have e29 := pre.1 1 29 _ (by kernel_rfl) rfl rfl
                  have e47 := pre.1 19 47 _ (by kernel_rfl) rfl rfl
                  clear pre
                  simp only [Array.getD_eq_getD_getElem?, List.getElem?_toArray, List.getElem?_cons_zero, List.getElem?_cons_succ, Option.getD_some] at e29 e47
                  go_simp
                  exact hK _ hJ
                refine Vals10.Steps.run rfl ?_ ?_
                · intro a W σ hJ pre K hK
                  have e48 := pre.1 20 48 _ (by kernel_rfl) rfl rfl
                  clear pre
                  simp only [Array.getD_eq_getD_getElem?, List.getElem?_toArray, List.getElem?_cons_zero, List.getElem?_cons_succ, Option.getD_some] at e48
                  go_simp
                  exact hK _ hJ
                exact Vals10.Steps.nil
              case hfin =>
                intro Y σ hJ
                simp only [Vals10.All]
                simp only [Vals.putAll, List.setIfInBounds_toArray, List.set_cons_zero, List.set_cons_succ]
                have HSY := Lib.hid hJ.1
                clear hJ
                go_wp2_with fail
                go_roundw
                case rel => exact ⟨k + 1, hb, by omega, rfl, rfl, HNX, HSY⟩
                case measure => simp [intOf]; omega
            · have hyx' : ¬ (y : Int) ≤ (x : Int) := by omega
              have HNX : Hid (hitB U x (L.take (k + 1)) = false) := by show _ = _; rw [hnx]; simp [hyx]
              clear hnx hy6 hc
              go_wp2_with fail
              go_quiet (fail)
              go_wp2_with fail
              go_roundw
              case rel => exact ⟨k + 1, false, by omega, rfl, rfl, HNX, Lib.hid (HS.out.dN _)⟩
              case measure => simp [intOf]; omega
          · have HNX : Hid (hitB U x (L.take (k + 1)) = true) := by show _ = _; rw [hnx]; rfl
            clear hnx hy6 hc
            go_wp2_with fail
            go_quiet (fail)
            go_wp2_with fail
            go_roundw
            case rel => exact ⟨k + 1, true, by omega, rfl, rfl, HNX, Lib.hid (HS.out.dN _)⟩
            case measure => simp [intOf]; omega
        · have hkl' : ¬ (k : Int) < (L.length : Int) := by omega
          obtain rfl : k = L.length := by omega
          have hB := HB.out
          rw [List.take_length] at hB
          cases bv
          · have HV : Hid (covB U fr to L = false) := covB_no (by have := HX.out; omega) hxt hB
            go_wp2_with fail
            go_ret
            exact ⟨by first | (rw [HV.out]; rfl) | rw [HV.out], HS.out.sn.1⟩
          · have HA2 : Hid (∀ t, fr ≤ t → t < fr + (d + 1) → hitB U t L = true) := fun t h1 h2 => by
              have := HX.out
              rcases Nat.lt_or_ge t x with h | h
              · exact HA.out t h1 h
              · obtain rfl : t = x := by omega
                exact hB
            clear hB
            go_wp2_with fail
            go_roundw
            case rel => exact ⟨d + 1, by have := HX.out; omega, rfl, HA2, HS⟩
            case measure => have := HX.out; simp [intOf]; omega
    · have hxt' : ¬ (x : Int) ≤ (to : Int) := by omega
      have HV : Hid (covB U fr to L = true) := covB_yes fun t h1 h2 => HA.out t h1 (by omega)
      clear hx hx2
      go_wp2_with fail
      go_ret
      exact ⟨by first | (rw [HV.out]; rfl) | rw [HV.out], HS.out.sn.1⟩
end Td
end Go.Proofs.Ytmofbnadfgejiaa
