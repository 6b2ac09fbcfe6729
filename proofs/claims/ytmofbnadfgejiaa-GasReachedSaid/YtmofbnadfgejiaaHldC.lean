import Derived.Test.YtmofbnadfgejiaaHldB
import Derived.Test.YtmofbnadfgejiaaMathP
/- The reference: how few readings are enough from each minute on. -/
namespace Go.Proofs.Ytmofbnadfgejiaa
open Go.RowKit
namespace Td
set_option linter.unusedSimpArgs false
set_option linter.unusedVariables false
attribute [local go_sem] Oper.semAt_some
def zeroI (n : Nat) : Array Value := (List.replicate n (Value.int .i64 0)).toArray
theorem zeroI_size (n : Nat) : (zeroI n).size = n := by unfold zeroI; rw [List.size_toArray, List.length_replicate]
theorem made_zeroI : ∀ n : Nat, madeCells (Value.int .i64 0).cells n = zeroI n := fun n => by
  unfold madeCells zeroI
  apply Array.ext_getElem?
  intro i
  by_cases h : i < n
  · simp [h, Value.cells, Nat.mod_one]
  · simp [h]
theorem run_make_need (W : World) : (Instr.makeSlice 38 (.int .i64 62) (.int .i64 62)).run Try.prog W = .ok (.slice (some ⟨W.heap.size, 0, none⟩) 62 62) (W.alloc (.cells (zeroI 62) 3)) := by
  have hT : (Try.prog.info? 3).map (fun i => (i.zero, i.size, i.bytes)) = some (some (.int .i64 0), 1, 8) := by kernel_rfl
  obtain ⟨i0, hi0, hi1⟩ := Option.map_eq_some_iff.1 hT
  simp only [Prod.mk.injEq] at hi1
  obtain ⟨hz0, hz1, hz2⟩ := hi1
  have := run_make (P := Try.prog) W 38 3 i0 _ Try.underlying38 hi0 hz0 .i64 .i64 62 62 (by omega) (Int.le_refl _) (by rw [hz2]; omega) (by omega)
  rw [this, hz1, show (62 : Int).toNat = 62 from rfl, Nat.mul_one, made_zeroI]
/-- a row of counts. -/
def cnI (n : Nat) (f : Nat → Nat) : Array Value := ((List.range n).map fun i => Value.int .i64 (f i : Nat)).toArray
theorem cnI_size (n : Nat) (f : Nat → Nat) : (cnI n f).size = n := by simp [cnI]
theorem cnI_get {n : Nat} (f : Nat → Nat) {k : Nat} (h : k < n) : (cnI n f)[k]? = some (.int .i64 (f k : Nat)) := by simp [cnI, h]
theorem cnI_zero (n : Nat) : zeroI n = cnI n (fun _ => 0) := by
  apply Array.ext_getElem?
  intro i
  by_cases h : i < n
  · rw [cnI_get _ h]; simp [zeroI, h]
  · rw [Array.getElem?_eq_none (by rw [zeroI_size]; omega), Array.getElem?_eq_none (by rw [cnI_size]; omega)]
theorem cnI_set {n : Nat} (f : Nat → Nat) {k : Nat} (h : k < n) (v : Nat) : (cnI n f).setIfInBounds k (.int .i64 (v : Nat)) = cnI n (fun i => if i = k then v else f i) := by
  apply Array.ext_getElem?
  intro i
  rw [Array.getElem?_setIfInBounds, cnI_size]
  by_cases hi : i < n
  · rw [cnI_get _ hi, cnI_get _ hi]
    by_cases e : k = i
    · subst e; simp [h]
    · rw [if_neg e, if_neg (fun e' => e e'.symm)]
  · rw [Array.getElem?_eq_none (by rw [cnI_size]; omega), Array.getElem?_eq_none (by rw [cnI_size]; omega), if_neg (by omega)]
theorem cnI_congr {n : Nat} {f g : Nat → Nat} (h : ∀ k, k < n → f k = g k) : cnI n f = cnI n g := by
  unfold cnI
  congr 1
  exact List.map_congr_left fun k hk => by rw [h k (List.mem_range.1 hk)]
theorem Sp.cellFar {w W : World} {s : Spc} {m : Sl} (h : Sp w s m W) {g : Nat} (hg : w.heap.size < g) (j : Nat) (v : Value) : Sp w s m (W.setCell ⟨g, j, none⟩ v) :=
  ⟨⟨h.sn.1.setCell (p := ⟨g, j, none⟩) (Nat.le_of_lt hg) _, by simpa using h.sn.2⟩, h.bk.far (by omega) j v⟩
/-- the row while minute q is counted. -/
def rowQ (U : Nat → Int) (fr to d q k : Nat) (i : Nat) : Nat := if i = q then niM U (thI U to (ni U fr to d)) fr q k else ni U fr to d i
set_option maxRecDepth 100000 in
set_option maxHeartbeats 8000000 in
theorem rfew_c (s : Spc) (m : Sl) (tool shown : Int) (U : Nat → Int) (fr to : Nat) (w : World) (hs : SOk s) (hsa : SAt w m s) (hU : ∀ x : Nat, x ≤ 60 → ROk s ⟨(x : Int), tool, shown⟩ ∧ hol s ⟨(x : Int), tool, shown⟩ = U x ∧ -1 ≤ U x ∧ U x ≤ 60) (hft : fr ≤ to) (h60 : to ≤ 60) :
    Calls Try.prog 65 #[.agg (sV s m), .int .i64 tool, .int .i64 shown, .int .i64 fr, .int .i64 to] w fun e w' => (∃ g, e = .returned (.slice (some ⟨g, 0, none⟩) 62 62) ∧ w.heap.size < g ∧ Blk w' g 3 (cnI 62 (ni U fr to (to + 1 - fr)))) ∧ Below w.heap.size w w' := by
  have hS0 := Sp.start w s m
  have HC : Hid (∀ (W : World) (x : Nat), x ≤ 60 → Sp w s m W → Calls Try.prog 62 #[.agg (sV s m), .int .i64 tool, .int .i64 shown, .int .i64 x] W fun e w' => e = .returned (.int .i64 (U x)) ∧ Below W.heap.size W w') := fun W x hx hW => by
    have := rholds_c s m ⟨(x : Int), tool, shown⟩ W hs (hsa.keep hW.sn.1) (hU x hx).1
    rw [(hU x hx).2.1] at this
    exact this
  have HB : Hid (∀ x : Nat, x ≤ 60 → -1 ≤ U x ∧ U x ≤ 60) := fun x hx => (hU x hx).2.2
  have HN0 := Lib.hid (hS0.alloc (.cells (zeroI 62) 3))
  have HR0 : Hid (Blk ((w.alloc (.cells (sV s m) 27)).alloc (.cells (zeroI 62) 3)) (w.heap.size + 1) 3 (cnI 62 (ni U fr to 0))) := by
    show Blk _ _ _ _
    rw [show cnI 62 (ni U fr to 0) = zeroI 62 from (cnI_zero 62).symm]
    exact Blk.new1 w _ _ _
  obtain ⟨W3, hW3⟩ : ∃ W3, (w.alloc (.cells (sV s m) 27)).alloc (.cells (zeroI 62) 3) = W3 := ⟨_, rfl⟩
  rw [hW3] at HN0 HR0
  have HW3 := Lib.hid hW3
  have hmk := run_make_need
  clear hU hW3 hs hS0
  go_enter Try.func65, Try.ntmps65
  go_wp2_with fail
  first | rw [HW3.out] | skip
  clear HW3 hmk
  go_loopw [12, 13, 14, 15] (fun t _ _ _ wr => ∃ d : Nat, d ≤ to + 1 - fr ∧ t = .int .i64 ((to : Int) - (d : Int)) ∧ Hid (Blk wr (w.heap.size + 1) 3 (cnI 62 (ni U fr to d))) ∧ Hid (Sp w s m wr)) (fun t _ _ _ _ => (intOf t + 1).toNat)
  case atStart => exact ⟨0, by omega, by simp, HR0, HN0⟩
  case round =>
    clear HR0 HN0
    obtain ⟨d, hd, rfl, HR, HN⟩ := hrel
    by_cases hlt : d < to + 1 - fr
    · obtain ⟨q, hq⟩ : ∃ q : Nat, q = to - d := ⟨_, rfl⟩
      have hq2 : (to : Int) - (d : Int) = (q : Int) := by omega
      rw [hq2]
      have hqf : fr ≤ q := by omega
      have hqf' : (fr : Int) ≤ (q : Int) := by omega
      have hq62 : (q : Int) < 62 := by omega
      have hq62' : q < 62 := by omega
      have hqt : q ≤ to := by omega
      have HQ := Lib.hid hq
      have HQ2 := Lib.hid hq2
      have g0 := HR.out.cell q
      rw [cnI_get _ hq62'] at g0
      have f0 := HR.out.frozen q
      have HR2 := HR.out.set q (.int .i64 (62 : Nat))
      rw [cnI_set _ hq62'] at HR2
      have HR3 : Hid (Blk (wr.setCell ⟨w.heap.size + 1, q, none⟩ (.int .i64 62)) (w.heap.size + 1) 3 (cnI 62 (rowQ U fr to d q 0))) := HR2
      have HN3 : Hid (Sp w s m (wr.setCell ⟨w.heap.size + 1, q, none⟩ (.int .i64 62))) := HN.out.cellFar (by omega) q _
      have hw1 : IntKind.i64.wrap ((q : Int) - 1) = (q : Int) - 1 := IntWalk.i64_in _ (by omega)
      clear hq hq2 HR2 HR HN
      go_wp2_with fail
      clear g0 f0
      go_loopw [13, 14, 15] (fun t _ _ wy => ∃ k : Nat, k ≤ q + 1 - fr ∧ t = .int .i64 ((fr : Int) + (k : Int)) ∧ Hid (Blk wy (w.heap.size + 1) 3 (cnI 62 (rowQ U fr to d q k))) ∧ Hid (Sp w s m wy)) (fun t _ _ _ => ((q : Int) + 1 - intOf t).toNat)
      case atStart => exact ⟨0, by omega, by simp, HR3, HN3⟩
      case round =>
        clear HR3 HN3
        obtain ⟨k, hk, rfl, HR, HN⟩ := hrel
        obtain ⟨x, hx⟩ : ∃ x : Nat, x = fr + k := ⟨_, rfl⟩
        have hx2 : (fr : Int) + (k : Int) = (x : Int) := by omega
        rw [hx2]
        have HX := Lib.hid hx
        by_cases hlt2 : x ≤ q
        · have hlt2' : (x : Int) ≤ (q : Int) := by omega
          have hb := HB.out x (by omega)
          have hc := HC.out wr x (by omega) HN.out
          have hw2 : IntKind.i64.wrap ((x : Int) + 1) = (fr : Int) + ((k + 1 : Nat) : Int) := by rw [IntWalk.i64_in _ (by omega)]; push_cast; omega
          have hnx : rowQ U fr to d q (k + 1) q = if (q : Int) ≤ U x then min (rowQ U fr to d q k q) (thI U to (ni U fr to d) x) else rowQ U fr to d q k q := by
            unfold rowQ
            rw [if_pos rfl, if_pos rfl, niM, ← hx]
          have hot : ∀ i, i ≠ q → rowQ U fr to d q (k + 1) i = rowQ U fr to d q k i := fun i hi => by
            unfold rowQ
            rw [if_neg hi, if_neg hi]
          have hthx : thI U to (ni U fr to d) x = if U x < (to : Int) then 1 + ni U fr to d (U x + 1).toNat else 1 := rfl
          obtain ⟨c0, c1, c2, c3, c4, c5, c6, c7, c8⟩ := HN.out.bk.space
          obtain ⟨nq, hnq⟩ : ∃ n, rowQ U fr to d q k q = n := ⟨_, rfl⟩
          have hnq2 : nq ≤ 62 := by rw [← hnq]; unfold rowQ; rw [if_pos rfl]; exact niM_le _
          rw [hnq] at hnx
          obtain ⟨T, hT⟩ : ∃ T, thI U to (ni U fr to d) x = T := ⟨_, rfl⟩
          rw [hT] at hnx hthx
          have HOT := Lib.hid hot
          have HNQ := Lib.hid hnq
          clear hot hnq hT hx hx2
          by_cases hu : (q : Int) ≤ U x
          · obtain ⟨u, hux⟩ : ∃ u : Nat, U x = (u : Int) := ⟨(U x).toNat, by omega⟩
            rw [hux] at hc hu hnx hthx hb
            rw [if_pos hu] at hnx
            have hu60 : u ≤ 60 := by omega
            have hqu : q ≤ u := by omega
            obtain ⟨nm, hnm⟩ : ∃ n, min nq T = n := ⟨_, rfl⟩
            rw [hnm] at hnx
            have hnm2 : min (nq : Int) (T : Int) = (nm : Int) := by omega
            have HRC : Hid (cnI 62 (fun i => if i = q then nm else rowQ U fr to d q k i) = cnI 62 (rowQ U fr to d q (k + 1))) := by
              show _ = _
              refine cnI_congr fun i _ => ?_
              by_cases e : i = q
              · rw [if_pos e, e, hnx]
              · rw [if_neg e, HOT.out i e]
            clear hnm hnx
            by_cases hut : u < to
            · have hut' : (u : Int) < (to : Int) := by omega
              rw [if_pos hut', show ((u : Int) + 1).toNat = u + 1 by omega] at hthx
              obtain ⟨y, hy⟩ : ∃ y, ni U fr to d (u + 1) = y := ⟨_, rfl⟩
              have hyl : y ≤ 62 := by rw [← hy]; exact ni_le _ _
              rw [hy] at hthx
              have HY : Hid (rowQ U fr to d q k (u + 1) = y) := by show _ = _; unfold rowQ; rw [if_neg (by omega), hy]
              obtain ⟨u1, hu1⟩ : ∃ n, u + 1 = n := ⟨_, rfl⟩
              have hw3 : IntKind.i64.wrap ((u : Int) + 1) = (u1 : Int) := by rw [IntWalk.i64_in _ (by omega)]; omega
              have hw4 : IntKind.i64.wrap (1 + (y : Int)) = (T : Int) := by rw [IntWalk.i64_in _ (by omega)]; omega
              have hu62 : (u1 : Int) < 62 := by omega
              have hu62' : u1 < 62 := by omega
              rw [hu1] at HY
              clear hthx hy hu1
              go_wp2_with fail
              refine hc.mono ?_
              rintro e w5 ⟨rfl, hb5⟩
              have HR5 := Lib.hid (HR.out.keep hb5)
              have HN5 := Lib.hid (HN.out.keep hb5)
              clear hc c0 c1 c2 c3 c4 c5 c6 c7 c8 hb5 HR HN
              have g0 := HR5.out.cell q
              rw [cnI_get _ hq62', HNQ.out] at g0
              have g1 := HR5.out.cell u1
              rw [cnI_get _ hu62', HY.out] at g1
              have f0 := HR5.out.frozen q
              have HR6 := HR5.out.set q (.int .i64 (nm : Nat))
              rw [cnI_set _ hq62', HRC.out] at HR6
              replace HR6 := Lib.hid HR6
              have HN6 := Lib.hid (HN5.out.cellFar (g := w.heap.size + 1) (by omega) q (.int .i64 (nm : Nat)))
              clear HR5 HN5 HY HRC HNQ HOT
              go_wp2_with fail
              clear g0 g1 f0
              have hie : (if T < nq then (T : Int) else (nq : Int)) = (nm : Int) := by split <;> omega
              go_roundw
              case rel => first | exact ⟨k + 1, by have := HX.out; omega, rfl, by rw [hie]; exact HR6, by rw [hie]; exact HN6⟩ | exact ⟨k + 1, by have := HX.out; omega, rfl, HR6, HN6⟩
              case measure => have := HX.out; simp [intOf]; omega
            · have hut' : ¬ (u : Int) < (to : Int) := by omega
              rw [if_neg hut'] at hthx
              subst hthx
              have hnm3 : min (nq : Int) 1 = (nm : Int) := hnm2
              clear hnm2
              go_wp2_with fail
              refine hc.mono ?_
              rintro e w5 ⟨rfl, hb5⟩
              have HR5 := Lib.hid (HR.out.keep hb5)
              have HN5 := Lib.hid (HN.out.keep hb5)
              clear hc c0 c1 c2 c3 c4 c5 c6 c7 c8 hb5 HR HN
              have g0 := HR5.out.cell q
              rw [cnI_get _ hq62', HNQ.out] at g0
              have f0 := HR5.out.frozen q
              have HR6 := HR5.out.set q (.int .i64 (nm : Nat))
              rw [cnI_set _ hq62', HRC.out] at HR6
              replace HR6 := Lib.hid HR6
              have HN6 := Lib.hid (HN5.out.cellFar (g := w.heap.size + 1) (by omega) q (.int .i64 (nm : Nat)))
              clear HR5 HN5 HRC HNQ HOT
              go_wp2_with fail
              clear g0 f0
              have hie : (if (1 : Int) < (nq : Int) then (1 : Int) else (nq : Int)) = (nm : Int) := by split <;> omega
              go_roundw
              case rel => first | exact ⟨k + 1, by have := HX.out; omega, rfl, by rw [hie]; exact HR6, by rw [hie]; exact HN6⟩ | exact ⟨k + 1, by have := HX.out; omega, rfl, HR6, HN6⟩
              case measure => have := HX.out; simp [intOf]; omega
          · rw [if_neg hu] at hnx
            have HRC : Hid (cnI 62 (rowQ U fr to d q k) = cnI 62 (rowQ U fr to d q (k + 1))) := by
              show _ = _
              refine cnI_congr fun i _ => ?_
              by_cases e : i = q
              · rw [e, hnx, HNQ.out]
              · rw [HOT.out i e]
            obtain ⟨u, hux⟩ : ∃ u, U x = u := ⟨_, rfl⟩
            rw [hux] at hc hu hb
            rw [HRC.out] at HR
            clear hnx hthx hux HRC HNQ HOT
            go_wp2_with fail
            refine hc.mono ?_
            rintro e w5 ⟨rfl, hb5⟩
            have HR5 := Lib.hid (HR.out.keep hb5)
            have HN5 := Lib.hid (HN.out.keep hb5)
            clear hc c0 c1 c2 c3 c4 c5 c6 c7 c8 hb5 HR HN
            go_wp2_with fail
            go_roundw
            case rel => exact ⟨k + 1, by have := HX.out; omega, rfl, HR5, HN5⟩
            case measure => have := HX.out; simp [intOf]; omega
        · have hlt2' : ¬ (x : Int) ≤ (q : Int) := by omega
          have hkq : k = q + 1 - fr := by omega
          have HRC : Hid (Blk wr (w.heap.size + 1) 3 (cnI 62 (ni U fr to (d + 1)))) := by
            have h := HR.out
            rw [hkq, cnI_congr (g := ni U fr to (d + 1)) (fun i _ => by
              unfold rowQ
              rw [ni]
              have := HQ.out
              by_cases e : i = q
              · rw [if_pos e, if_pos (by omega), e]
              · rw [if_neg e, if_neg (by omega)])] at h
            exact h
          clear HR hx hx2 hkq
          go_wp2_with fail
          go_roundw
          case rel => exact ⟨d + 1, by omega, by have := HQ2.out; push_cast; first | (congr 1; omega) | (congr 1) | skip, HRC, HN⟩
          case measure => simp [intOf]; try omega
    · have hno : ¬ (fr : Int) ≤ (to : Int) - (d : Int) := by omega
      obtain rfl : d = to + 1 - fr := by omega
      go_wp2_with fail
      go_ret
      exact ⟨⟨_, rfl, by omega, HR.out⟩, HN.out.sn.1⟩
end Td
end Go.Proofs.Ytmofbnadfgejiaa
