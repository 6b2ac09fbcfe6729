import Derived.Test.YtmofbnadfgejiaaLawT
import Derived.Test.YtmofbnadfgejiaaMath
/- The law package's check of a truth: it says that levels are one. -/
namespace Go.Proofs.Ytmofbnadfgejiaa
open Go.RowKit
namespace Td
set_option linter.unusedSimpArgs false
set_option linter.unusedVariables false
attribute [local go_sem] Oper.semAt_some
theorem min_if (a b : Int) : (if a < b then a else b) = min b a := by split <;> omega
theorem hld_if (t : Int) : (if 0 < min 200 t then min 200 t else 0) = hld t := by unfold hld; split <;> omega
set_option maxRecDepth 100000 in
set_option maxHeartbeats 8000000 in
theorem steps_c (s : Spc) (m : Sl) (A : Option Addr) (l : List Rd) (c : Nat) (P : Option Addr) (T : Nat → Int) (n pc : Nat) (known : Int) (w : World) (hs : SOk s) (hsa : SAt w m s) (hrd : RdAt w A l) (hc : l.length ≤ c) (hcM : c ≤ 9223372036854775807)
    (hP : InAt w P ((List.range n).map T)) (hn : n ≤ 61) (h12 : l.length ≤ 12) (hro : ∀ r ∈ l, ROk s r) (h0 : 0 < n → s.s0 ≤ T 0 ∧ T 0 ≤ s.s1) (hb : ∀ k, k < n → 0 ≤ T k ∧ T k ≤ 200)
    (hr : ∀ k, k + 1 < n → hld (T k + (chg s (k : Int)).1) ≤ T (k + 1) ∧ T (k + 1) ≤ hld (T k + (chg s (k : Int)).2)) (hne : ∀ r ∈ l, r.min < n → r.min ≤ known → near s r (T r.min.toNat)) :
    Calls Try.prog 37 #[.agg (sV s m), .slice A l.length c, .slice P n pc, .int .i64 known] w fun e w' => e = .returned (.bool true) ∧ Below w.heap.size w w' := by
  have hsn0 := (Since.refl w).alloc (.cells (sV s m) 27)
  have HB0 := Lib.hid (Blk.new w 27 (sV s m))
  have H0 := Lib.hid h0
  have HBD := Lib.hid hb
  have HR := Lib.hid hr
  have HNE := Lib.hid hne
  have HRO := Lib.hid hro
  clear h0 hb hr hne hro
  go_enter Try.func37, Try.ntmps37
  go_wp2_with fail
  go_loopw [9, 10, 11, 12, 13, 14] (fun i _ _ _ _ _ wr => ∃ k : Nat, k ≤ n ∧ i = .int .i64 k ∧ Since w wr ∧ Hid (Blk wr w.heap.size 27 (sV s m))) (fun i _ _ _ _ _ _ => n - (intOf i).toNat)
  case atStart => exact ⟨0, Nat.zero_le _, rfl, hsn0, HB0⟩
  case round =>
    obtain ⟨k, hk, rfl, hsn, HB⟩ := hrel
    by_cases hlt : k < n
    · have hki : (k : Int) < (n : Int) := by omega
      obtain ⟨ad, hA, q0⟩ := hP.get (k := k) (by simpa using hlt)
      subst hA
      rw [show ((List.range n).map T)[k]'(by simpa using hlt) = T k by simp] at q0
      have hbk := HBD.out k hlt
      obtain ⟨x, hx⟩ : ∃ x, T k = x := ⟨_, rfl⟩
      have HX := Lib.hid hx
      rw [hx] at q0 hbk
      have HQ0 := Lib.hid (keep_cell hsn.1 q0)
      have HQW0 := Lib.hid q0
      have HKI := Lib.hid hki
      have HX0 : Hid (0 ≤ x) := hbk.1
      have HX1 : Hid (x ≤ 200) := hbk.2
      clear q0 hx hbk
      by_cases hk0 : k = 0
      · have HKN := Lib.hid hk0
        have HK0 : Hid ((k : Int) = 0) := by show _ = _; omega
        have HIN : Hid (wi s.s0 s.s1 x = true) := by
          have := H0.out (by omega)
          have e := HX.out
          rw [hk0] at e
          rw [e] at this
          exact wi_iff.2 this
        have hkp : ¬ (0 : Int) < (k : Int) := by omega
        have hkp2 : ¬ 0 < k := by omega
        have HQ00 : Hid (wr.cell? ad = some (.int .i64 x)) := by
          have := HQ0.out
          rw [hk0] at this
          exact this
        clear hk0
        go_wp2_with fail
        refine Vals9.region (fun _ Z => Blk Z (w.heap.size) 27 (sV s m) ∧ Since wr Z) [some 21, some 22, some 23, some 24, some 25, some 26, some 27, some 28, some 29, some 30, some 31, some 32, some 33, some 34, some 35, some 36, some 37, some 38, some 39, some 40, some 41, some 42, some 43, some 44, some 45] [.is (.int .i64 (k : Int)), .is (.bool true), .is (.bool true), .is (.slice (some ad) n pc), .is (.pointer (some ad)), .is (.int .i64 x), .is (.pointer (some ⟨w.heap.size, 0, none⟩)), .is (.agg #[.int .i64 s.s0, .int .i64 s.s1]), .is (.bool true), .is (.bool false), .is (.bool false), .is (.bool false), .is (.slice (some ad) n pc), .is (.int .i64 (k : Int)), .is (.pointer (some (ad.add k))), .is (.int .i64 x), .is (.bool false), .is (.bool false), .is (.bool false), .is (.slice (some ad) n pc), .is (.int .i64 (k : Int)), .is (.pointer (some (ad.add k))), .is (.int .i64 x), .is (.bool false), .is (.bool false)] (by kernel_rfl) (by kernel_rfl) (by kernel_rfl) (by kernel_rfl) (by kernel_rfl) (by kernel_rfl) (⟨HB.out.drew, (Since.refl wr).drew⟩) ?_ ?_
        · refine Vals9.Steps.run (by kernel_rfl) ?_ ?_
          · intro a W σ hJ pre K hK
            have e9 : a.tmps.getD 9 undef = .int .i64 (k : Int) := pre.2.2 9 _ (by kernel_rfl) rfl
            clear pre
            simp only [Array.getD_eq_getD_getElem?] at e9
            go_simp
            exact hK _ hJ
          refine Vals9.Steps.run (by kernel_rfl) ?_ ?_
          · intro a W σ hJ pre K hK
            have e21 : a.tmps.getD 21 undef = .int .i64 (k : Int) := pre.1 0 21 _ (by kernel_rfl) rfl rfl
            clear pre
            simp only [Array.getD_eq_getD_getElem?] at e21
            have hk0 := HK0.out
            go_simp
            exact hK _ hJ
          refine Vals9.Steps.run (by kernel_rfl) ?_ ?_
          · intro a W σ hJ pre K hK
            have e22 : a.tmps.getD 22 undef = .bool true := pre.1 1 22 _ (by kernel_rfl) rfl rfl
            clear pre
            simp only [Array.getD_eq_getD_getElem?] at e22
            go_simp
            exact hK _ hJ
          refine Vals9.Steps.run (by kernel_rfl) ?_ ?_
          · intro a W σ hJ pre K hK
            have e2 : a.tmps.getD 2 undef = .slice (some ad) n pc := pre.2.2 2 _ (by kernel_rfl) rfl
            clear pre
            simp only [Array.getD_eq_getD_getElem?] at e2
            go_simp
            exact hK _ hJ
          refine Vals9.Steps.run (by kernel_rfl) ?_ ?_
          · intro a W σ hJ pre K hK
            have e24 : a.tmps.getD 24 undef = .slice (some ad) n pc := pre.1 3 24 _ (by kernel_rfl) rfl rfl
            clear pre
            simp only [Array.getD_eq_getD_getElem?] at e24
            have hki := HKI.out
            have h0n : 0 < n := by omega
            have h0i : (0 : Int) < (n : Int) := by omega
            go_simp
            exact hK _ hJ
          refine Vals9.Steps.run (by kernel_rfl) ?_ ?_
          · intro a W σ hJ pre K hK
            have e25 : a.tmps.getD 25 undef = .pointer (some ad) := pre.1 4 25 _ (by kernel_rfl) rfl rfl
            clear pre
            simp only [Array.getD_eq_getD_getElem?] at e25
            have hS9 := hJ
            obtain ⟨l1, l2⟩ := hS9
            obtain ⟨c0, c1, c2, c3, c4, c5, c6, c7, c8⟩ := l1.space
            have q0 := keep_cell l2.1 HQ0.out
            have q00 := keep_cell l2.1 HQ00.out
            go_simp
            exact hK _ hJ
          refine Vals9.Steps.run (by kernel_rfl) ?_ ?_
          · intro a W σ hJ pre K hK
            have e4 : a.tmps.getD 4 undef = .pointer (some ⟨w.heap.size, 0, none⟩) := pre.2.2 4 _ (by kernel_rfl) rfl
            clear pre
            simp only [Array.getD_eq_getD_getElem?] at e4
            go_simp
            exact hK _ hJ
          refine Vals9.Steps.run (by kernel_rfl) ?_ ?_
          · intro a W σ hJ pre K hK
            have e27 : a.tmps.getD 27 undef = .pointer (some ⟨w.heap.size, 0, none⟩) := pre.1 6 27 _ (by kernel_rfl) rfl rfl
            clear pre
            simp only [Array.getD_eq_getD_getElem?] at e27
            have hS9 := hJ
            obtain ⟨l1, l2⟩ := hS9
            obtain ⟨c0, c1, c2, c3, c4, c5, c6, c7, c8⟩ := l1.space
            have q0 := keep_cell l2.1 HQ0.out
            go_simp
            exact hK _ hJ
          refine Vals9.Steps.run (by kernel_rfl) ?_ ?_
          · intro a W σ hJ pre K hK
            have e26 : a.tmps.getD 26 undef = .int .i64 x := pre.1 5 26 _ (by kernel_rfl) rfl rfl
            have e28 : a.tmps.getD 28 undef = .agg #[.int .i64 s.s0, .int .i64 s.s1] := pre.1 7 28 _ (by kernel_rfl) rfl rfl
            clear pre
            simp only [Array.getD_eq_getD_getElem?] at e26 e28
            go_simp
            refine (inside_c x (s.s0, s.s1) _).mono ?_
            rintro e w' ⟨rfl, hb'⟩
            obtain ⟨h1, h2⟩ := hJ
            have hin := HIN.out
            dsimp only
            rw [hin]
            exact hK _ ⟨h1.keep hb', h2.keep hb'⟩
          refine Vals9.Steps.run (by kernel_rfl) ?_ ?_
          · intro a W σ hJ pre K hK
            have e29 : a.tmps.getD 29 undef = .bool true := pre.1 8 29 _ (by kernel_rfl) rfl rfl
            clear pre
            simp only [Array.getD_eq_getD_getElem?] at e29
            go_simp
            exact hK _ hJ
          refine Vals9.Steps.run (by kernel_rfl) ?_ ?_
          · intro a W σ hJ pre K hK
            have e23 : a.tmps.getD 23 undef = .bool true := pre.1 2 23 _ (by kernel_rfl) rfl rfl
            have e30 : a.tmps.getD 30 undef = .bool false := pre.1 9 30 _ (by kernel_rfl) rfl rfl
            clear pre
            simp only [Array.getD_eq_getD_getElem?] at e23 e30
            go_simp
            exact hK _ hJ
          refine Vals9.Steps.run (by kernel_rfl) ?_ ?_
          · intro a W σ hJ pre K hK
            have e31 : a.tmps.getD 31 undef = .bool false := pre.1 10 31 _ (by kernel_rfl) rfl rfl
            clear pre
            simp only [Array.getD_eq_getD_getElem?] at e31
            go_simp
            exact hK _ hJ
          refine Vals9.Steps.run (by kernel_rfl) ?_ ?_
          · intro a W σ hJ pre K hK
            have e2 : a.tmps.getD 2 undef = .slice (some ad) n pc := pre.2.2 2 _ (by kernel_rfl) rfl
            clear pre
            simp only [Array.getD_eq_getD_getElem?] at e2
            go_simp
            exact hK _ hJ
          refine Vals9.Steps.run (by kernel_rfl) ?_ ?_
          · intro a W σ hJ pre K hK
            have e9 : a.tmps.getD 9 undef = .int .i64 (k : Int) := pre.2.2 9 _ (by kernel_rfl) rfl
            clear pre
            simp only [Array.getD_eq_getD_getElem?] at e9
            go_simp
            exact hK _ hJ
          refine Vals9.Steps.run (by kernel_rfl) ?_ ?_
          · intro a W σ hJ pre K hK
            have e33 : a.tmps.getD 33 undef = .slice (some ad) n pc := pre.1 12 33 _ (by kernel_rfl) rfl rfl
            have e34 : a.tmps.getD 34 undef = .int .i64 (k : Int) := pre.1 13 34 _ (by kernel_rfl) rfl rfl
            clear pre
            simp only [Array.getD_eq_getD_getElem?] at e33 e34
            have hki := HKI.out
            go_simp
            exact hK _ hJ
          refine Vals9.Steps.run (by kernel_rfl) ?_ ?_
          · intro a W σ hJ pre K hK
            have e35 : a.tmps.getD 35 undef = .pointer (some (ad.add k)) := pre.1 14 35 _ (by kernel_rfl) rfl rfl
            clear pre
            simp only [Array.getD_eq_getD_getElem?] at e35
            have hS9 := hJ
            obtain ⟨l1, l2⟩ := hS9
            obtain ⟨c0, c1, c2, c3, c4, c5, c6, c7, c8⟩ := l1.space
            have q0 := keep_cell l2.1 HQ0.out
            go_simp
            exact hK _ hJ
          refine Vals9.Steps.run (by kernel_rfl) ?_ ?_
          · intro a W σ hJ pre K hK
            have e36 : a.tmps.getD 36 undef = .int .i64 x := pre.1 15 36 _ (by kernel_rfl) rfl rfl
            clear pre
            simp only [Array.getD_eq_getD_getElem?] at e36
            have g1 := HX0.out
            have g2 : decide (x < 0) = false := decide_eq_false (by omega)
            go_simp
            exact hK _ hJ
          refine Vals9.Steps.run (by kernel_rfl) ?_ ?_
          · intro a W σ hJ pre K hK
            have e32 : a.tmps.getD 32 undef = .bool false := pre.1 11 32 _ (by kernel_rfl) rfl rfl
            have e37 : a.tmps.getD 37 undef = .bool false := pre.1 16 37 _ (by kernel_rfl) rfl rfl
            clear pre
            simp only [Array.getD_eq_getD_getElem?] at e32 e37
            go_simp
            exact hK _ hJ
          refine Vals9.Steps.run (by kernel_rfl) ?_ ?_
          · intro a W σ hJ pre K hK
            have e38 : a.tmps.getD 38 undef = .bool false := pre.1 17 38 _ (by kernel_rfl) rfl rfl
            clear pre
            simp only [Array.getD_eq_getD_getElem?] at e38
            go_simp
            exact hK _ hJ
          refine Vals9.Steps.run (by kernel_rfl) ?_ ?_
          · intro a W σ hJ pre K hK
            have e2 : a.tmps.getD 2 undef = .slice (some ad) n pc := pre.2.2 2 _ (by kernel_rfl) rfl
            clear pre
            simp only [Array.getD_eq_getD_getElem?] at e2
            go_simp
            exact hK _ hJ
          refine Vals9.Steps.run (by kernel_rfl) ?_ ?_
          · intro a W σ hJ pre K hK
            have e9 : a.tmps.getD 9 undef = .int .i64 (k : Int) := pre.2.2 9 _ (by kernel_rfl) rfl
            clear pre
            simp only [Array.getD_eq_getD_getElem?] at e9
            go_simp
            exact hK _ hJ
          refine Vals9.Steps.run (by kernel_rfl) ?_ ?_
          · intro a W σ hJ pre K hK
            have e40 : a.tmps.getD 40 undef = .slice (some ad) n pc := pre.1 19 40 _ (by kernel_rfl) rfl rfl
            have e41 : a.tmps.getD 41 undef = .int .i64 (k : Int) := pre.1 20 41 _ (by kernel_rfl) rfl rfl
            clear pre
            simp only [Array.getD_eq_getD_getElem?] at e40 e41
            have hki := HKI.out
            go_simp
            exact hK _ hJ
          refine Vals9.Steps.run (by kernel_rfl) ?_ ?_
          · intro a W σ hJ pre K hK
            have e42 : a.tmps.getD 42 undef = .pointer (some (ad.add k)) := pre.1 21 42 _ (by kernel_rfl) rfl rfl
            clear pre
            simp only [Array.getD_eq_getD_getElem?] at e42
            have hS9 := hJ
            obtain ⟨l1, l2⟩ := hS9
            obtain ⟨c0, c1, c2, c3, c4, c5, c6, c7, c8⟩ := l1.space
            have q0 := keep_cell l2.1 HQ0.out
            go_simp
            exact hK _ hJ
          refine Vals9.Steps.run (by kernel_rfl) ?_ ?_
          · intro a W σ hJ pre K hK
            have e43 : a.tmps.getD 43 undef = .int .i64 x := pre.1 22 43 _ (by kernel_rfl) rfl rfl
            clear pre
            simp only [Array.getD_eq_getD_getElem?] at e43
            have g1 := HX1.out
            have g2 : decide (200 < x) = false := decide_eq_false (by omega)
            go_simp
            exact hK _ hJ
          refine Vals9.Steps.run (by kernel_rfl) ?_ ?_
          · intro a W σ hJ pre K hK
            have e39 : a.tmps.getD 39 undef = .bool false := pre.1 18 39 _ (by kernel_rfl) rfl rfl
            have e44 : a.tmps.getD 44 undef = .bool false := pre.1 23 44 _ (by kernel_rfl) rfl rfl
            clear pre
            simp only [Array.getD_eq_getD_getElem?] at e39 e44
            go_simp
            exact hK _ hJ
          exact Vals9.Steps.nil
        · intro Y σ hJ
          simp only [Vals9.All]
          simp only [Vals.putAll, List.setIfInBounds_toArray, List.set_cons_zero, List.set_cons_succ]
          obtain ⟨h1, h2⟩ := hJ
          have hsY := hsn.keep h2.1
          have HBY := Lib.hid h1
          have HQW : Hid (w.cell? (ad.add k) = some (.int .i64 x)) := HQW0
          clear h1 h2 HB hsn HQ0
          obtain ⟨dummy, _⟩ : ∃ z : Nat, z = 0 := ⟨0, rfl⟩
          go_wp2_with fail
          go_loopw [13, 14] (fun i _ WI => ∃ j : Nat, j ≤ l.length ∧ i = .int .i64 j ∧ Since w WI ∧ Hid (Blk WI w.heap.size 27 (sV s m))) (fun i _ _ => l.length - (intOf i).toNat)
          case atStart => exact ⟨0, Nat.zero_le _, rfl, hsY, HBY⟩
          case round =>
            obtain ⟨j, hj, rfl, hsi, HBI⟩ := hrel
            by_cases hjl : j < l.length
            · obtain ⟨ae, hA, e0, e1, e2⟩ := hrd.get hjl
              subst hA
              have hro := HRO.out _ (List.getElem_mem hjl)
              have hne := HNE.out _ (List.getElem_mem hjl)
              obtain ⟨r, hr⟩ : ∃ r, l[j] = r := ⟨_, rfl⟩
              rw [hr] at e0 e1 e2 hro hne
              obtain ⟨mn, tli, sh⟩ := r
              obtain ⟨tl, rfl⟩ : ∃ tl : Nat, tli = (tl : Int) := ⟨tli.toNat, by have := hro.t0; dsimp only at this; omega⟩
              have htl : tl < s.tools.length := by have := hro.t1; dsimp only at this; omega
              obtain ⟨at', hT, _, ee⟩ := hsa.tl.get htl
              obtain ⟨er, her⟩ : ∃ er, s.tools[tl].err = er := ⟨_, rfl⟩
              have heb := hs.er _ (List.getElem_mem htl)
              rw [her] at ee heb
              have HEB : Hid (0 ≤ er ∧ er ≤ 50) := heb
              have hEO : errOf s ⟨mn, (tl : Int), sh⟩ = er := by simp [errOf, List.getElem?_eq_getElem htl, her]
              have HNR : Hid (mn = (k : Int) → (k : Int) ≤ known → wi (x - er) (x + er) sh = true) := fun h1 h2 => by
                have := hne (by dsimp only; omega) (by dsimp only; omega)
                unfold near at this
                rw [hEO] at this
                dsimp only at this
                rw [h1, Int.toNat_natCast, HX.out] at this
                exact wi_iff.2 (by omega)
              have HTA := Lib.hid hT
              have HE0 := Lib.hid (keep_cell hsi.1 e0)
              have HE1 := Lib.hid (keep_cell hsi.1 e1)
              have HE2 := Lib.hid (keep_cell hsi.1 e2)
              have HEE := Lib.hid (keep_cell hsi.1 ee)
              have HQI := Lib.hid (keep_cell hsi.1 HQW.out)
              have HJI : Hid ((j : Int) < (l.length : Int)) := by show _ < _; omega
              clear e0 e1 e2 ee hr hro hne heb hEO her hT
              have hji := HJI.out
              have HTL : Hid ((tl : Int) < (s.tools.length : Int)) := by show _ < _; omega
              go_wp2_with fail
              refine Vals9.region (fun _ Z => Blk Z (w.heap.size) 27 (sV s m) ∧ Since wr Z) [some 92, some 93, some 94, some 95, some 96, some 97, some 98, some 99, some 100, some 101, some 14] [.is ?_, .is ?_, .is ?_, .is ?_, .is ?_, .is ?_, .is ?_, .is ?_, .is ?_, .is ?_, .is ?_] (by kernel_rfl) (by kernel_rfl) (by kernel_rfl) (by kernel_rfl) (by kernel_rfl) (by kernel_rfl) (⟨HBI.out.drew, (Since.refl wr).drew⟩) ?hsteps ?hfin
              case hsteps =>
                refine Vals9.Steps.run rfl ?_ ?_
                · intro a W σ hJ pre K hK
                  have e4 := pre.2.2 4 _ (by kernel_rfl) rfl
                  clear pre
                  simp only [Array.getD_eq_getD_getElem?, List.getElem?_toArray, List.getElem?_cons_zero, List.getElem?_cons_succ, Option.getD_some] at e4
                  go_simp
                  exact hK _ hJ
                refine Vals9.Steps.run rfl ?_ ?_
                · intro a W σ hJ pre K hK
                  have e92 := pre.1 0 92 _ (by kernel_rfl) rfl rfl
                  clear pre
                  simp only [Array.getD_eq_getD_getElem?, List.getElem?_toArray, List.getElem?_cons_zero, List.getElem?_cons_succ, Option.getD_some] at e92
                  have hS9 := hJ
                  obtain ⟨l1, l2⟩ := hS9
                  obtain ⟨_, _, _, _, _, _, _, _, c8⟩ := l1.space
                  rw [HTA.out] at c8
                  have y1 := keep_cell l2.1 HE1.out
                  have ye := keep_cell l2.1 HEE.out
                  go_simp
                  exact hK _ hJ
                refine Vals9.Steps.run rfl ?_ ?_
                · intro a W σ hJ pre K hK
                  have e1 := pre.2.2 1 _ (by kernel_rfl) rfl
                  clear pre
                  simp only [Array.getD_eq_getD_getElem?, List.getElem?_toArray, List.getElem?_cons_zero, List.getElem?_cons_succ, Option.getD_some] at e1
                  go_simp
                  exact hK _ hJ
                refine Vals9.Steps.run rfl ?_ ?_
                · intro a W σ hJ pre K hK
                  have e13 := pre.2.2 13 _ (by kernel_rfl) rfl
                  clear pre
                  simp only [Array.getD_eq_getD_getElem?, List.getElem?_toArray, List.getElem?_cons_zero, List.getElem?_cons_succ, Option.getD_some] at e13
                  go_simp
                  exact hK _ hJ
                refine Vals9.Steps.run rfl ?_ ?_
                · intro a W σ hJ pre K hK
                  have e94 := pre.1 2 94 _ (by kernel_rfl) rfl rfl
                  have e95 := pre.1 3 95 _ (by kernel_rfl) rfl rfl
                  clear pre
                  simp only [Array.getD_eq_getD_getElem?, List.getElem?_toArray, List.getElem?_cons_zero, List.getElem?_cons_succ, Option.getD_some] at e94 e95
                  have hji := HJI.out
                  go_simp
                  exact hK _ hJ
                refine Vals9.Steps.run rfl ?_ ?_
                · intro a W σ hJ pre K hK
                  have e96 := pre.1 4 96 _ (by kernel_rfl) rfl rfl
                  clear pre
                  simp only [Array.getD_eq_getD_getElem?, List.getElem?_toArray, List.getElem?_cons_zero, List.getElem?_cons_succ, Option.getD_some] at e96
                  go_simp
                  exact hK _ hJ
                refine Vals9.Steps.run rfl ?_ ?_
                · intro a W σ hJ pre K hK
                  have e97 := pre.1 5 97 _ (by kernel_rfl) rfl rfl
                  clear pre
                  simp only [Array.getD_eq_getD_getElem?, List.getElem?_toArray, List.getElem?_cons_zero, List.getElem?_cons_succ, Option.getD_some] at e97
                  have hS9 := hJ
                  obtain ⟨l1, l2⟩ := hS9
                  obtain ⟨_, _, _, _, _, _, _, _, c8⟩ := l1.space
                  rw [HTA.out] at c8
                  have y1 := keep_cell l2.1 HE1.out
                  have ye := keep_cell l2.1 HEE.out
                  go_simp
                  exact hK _ hJ
                refine Vals9.Steps.run rfl ?_ ?_
                · intro a W σ hJ pre K hK
                  have e93 := pre.1 1 93 _ (by kernel_rfl) rfl rfl
                  have e98 := pre.1 6 98 _ (by kernel_rfl) rfl rfl
                  clear pre
                  simp only [Array.getD_eq_getD_getElem?, List.getElem?_toArray, List.getElem?_cons_zero, List.getElem?_cons_succ, Option.getD_some] at e93 e98
                  have htli := HTL.out
                  go_simp
                  exact hK _ hJ
                refine Vals9.Steps.run rfl ?_ ?_
                · intro a W σ hJ pre K hK
                  have e99 := pre.1 7 99 _ (by kernel_rfl) rfl rfl
                  clear pre
                  simp only [Array.getD_eq_getD_getElem?, List.getElem?_toArray, List.getElem?_cons_zero, List.getElem?_cons_succ, Option.getD_some] at e99
                  go_simp
                  exact hK _ hJ
                refine Vals9.Steps.run rfl ?_ ?_
                · intro a W σ hJ pre K hK
                  have e100 := pre.1 8 100 _ (by kernel_rfl) rfl rfl
                  clear pre
                  simp only [Array.getD_eq_getD_getElem?, List.getElem?_toArray, List.getElem?_cons_zero, List.getElem?_cons_succ, Option.getD_some] at e100
                  have hS9 := hJ
                  obtain ⟨l1, l2⟩ := hS9
                  obtain ⟨_, _, _, _, _, _, _, _, c8⟩ := l1.space
                  rw [HTA.out] at c8
                  have y1 := keep_cell l2.1 HE1.out
                  have ye := keep_cell l2.1 HEE.out
                  go_simp
                  exact hK _ hJ
                refine Vals9.Steps.run rfl ?_ ?_
                · intro a W σ hJ pre K hK
                  have e101 := pre.1 9 101 _ (by kernel_rfl) rfl rfl
                  clear pre
                  simp only [Array.getD_eq_getD_getElem?, List.getElem?_toArray, List.getElem?_cons_zero, List.getElem?_cons_succ, Option.getD_some] at e101
                  go_simp
                  exact hK _ hJ
                exact Vals9.Steps.nil
              case hfin =>
              intro WJ σJ hJ
              simp only [Vals9.All]
              simp only [Vals.putAll, List.setIfInBounds_toArray, List.set_cons_zero, List.set_cons_succ]
              have HBI := Lib.hid hJ.1
              have hsi := hsi.keep hJ.2.1
              have HE0 := Lib.hid (keep_cell hJ.2.1 HE0.out)
              have HE2 := Lib.hid (keep_cell hJ.2.1 HE2.out)
              have HQI := Lib.hid (keep_cell hJ.2.1 HQI.out)
              clear hJ
              go_wp2_with fail
              by_cases hmk : mn = (k : Int)
              · have HMK := Lib.hid hmk
                by_cases hkk : (k : Int) ≤ known
                · have HKK := Lib.hid hkk
                  have HIN2 := Lib.hid (HNR.out hmk hkk)
                  clear hmk hkk
                  refine Vals9.region (fun _ Z => Since WJ Z) [some 102, some 103, some 104, some 105, some 106, some 107, some 108, some 109, some 110, some 111, some 112, some 113, some 114, some 115, some 116, some 117, some 118, some 119, some 120, some 121, some 122, some 123, some 124, some 125, some 126, some 127, some 128, some 129, some 130, some 131, some 132, some 133, some 134, some 135] [.is (.slice (some ae) l.length c), .is (.int .i64 (j : Int)), .is (.pointer (some (ae.add (j * 3)))), .is (.pointer (some (ae.add (j * 3)))), .is (.int .i64 mn), .is (.int .i64 (k : Int)), .is (.bool true), .is (.bool true), .is (.int .i64 (k : Int)), .is (.int .i64 known), .is (.bool true), .is (.bool true), .is (.bool true), .is (.slice (some ae) l.length c), .is (.int .i64 (j : Int)), .is (.pointer (some (ae.add (j * 3)))), .is (.pointer (some (at_ (ae.add (j * 3)) 2))), .is (.int .i64 sh), .is (.slice (some ad) n pc), .is (.int .i64 (k : Int)), .is (.pointer (some (ad.add k))), .is (.int .i64 x), .is (.int .i64 er), .is (.int .i64 (x - er)), .is (.slice (some ad) n pc), .is (.int .i64 (k : Int)), .is (.pointer (some (ad.add k))), .is (.int .i64 x), .is (.int .i64 er), .is (.int .i64 (x + er)), .is (.agg #[.int .i64 (x - er), .int .i64 (x + er)]), .is (.bool true), .is (.bool false), .is (.bool false)] (by kernel_rfl) (by kernel_rfl) (by kernel_rfl) (by kernel_rfl) (by kernel_rfl) (by kernel_rfl) ((Since.refl WJ).drew) ?_ ?_
                  · refine Vals9.Steps.run (by kernel_rfl) ?_ ?_
                    · intro a W σ hJ pre K hK
                      have e1 : a.tmps.getD 1 undef = .slice (some ae) l.length c := pre.2.2 1 _ (by kernel_rfl) rfl
                      clear pre
                      simp only [Array.getD_eq_getD_getElem?] at e1
                      go_simp
                      exact hK _ hJ
                    refine Vals9.Steps.run (by kernel_rfl) ?_ ?_
                    · intro a W σ hJ pre K hK
                      have e13 : a.tmps.getD 13 undef = .int .i64 (j : Int) := pre.2.2 13 _ (by kernel_rfl) rfl
                      clear pre
                      simp only [Array.getD_eq_getD_getElem?] at e13
                      go_simp
                      exact hK _ hJ
                    refine Vals9.Steps.run (by kernel_rfl) ?_ ?_
                    · intro a W σ hJ pre K hK
                      have e102 : a.tmps.getD 102 undef = .slice (some ae) l.length c := pre.1 0 102 _ (by kernel_rfl) rfl rfl
                      have e103 : a.tmps.getD 103 undef = .int .i64 (j : Int) := pre.1 1 103 _ (by kernel_rfl) rfl rfl
                      clear pre
                      simp only [Array.getD_eq_getD_getElem?] at e102 e103
                      have hji := HJI.out
                      go_simp
                      exact hK _ hJ
                    refine Vals9.Steps.run (by kernel_rfl) ?_ ?_
                    · intro a W σ hJ pre K hK
                      have e104 : a.tmps.getD 104 undef = .pointer (some (ae.add (j * 3))) := pre.1 2 104 _ (by kernel_rfl) rfl rfl
                      clear pre
                      simp only [Array.getD_eq_getD_getElem?] at e104
                      go_simp
                      exact hK _ hJ
                    refine Vals9.Steps.run (by kernel_rfl) ?_ ?_
                    · intro a W σ hJ pre K hK
                      have e105 : a.tmps.getD 105 undef = .pointer (some (ae.add (j * 3))) := pre.1 3 105 _ (by kernel_rfl) rfl rfl
                      clear pre
                      simp only [Array.getD_eq_getD_getElem?] at e105
                      have hS9 := hJ
                      have y0 := keep_cell hS9.1 HE0.out
                      have y2 := keep_cell hS9.1 HE2.out
                      have q0 := keep_cell hS9.1 HQI.out
                      go_simp
                      exact hK _ hJ
                    refine Vals9.Steps.run (by kernel_rfl) ?_ ?_
                    · intro a W σ hJ pre K hK
                      have e9 : a.tmps.getD 9 undef = .int .i64 (k : Int) := pre.2.2 9 _ (by kernel_rfl) rfl
                      clear pre
                      simp only [Array.getD_eq_getD_getElem?] at e9
                      go_simp
                      exact hK _ hJ
                    refine Vals9.Steps.run (by kernel_rfl) ?_ ?_
                    · intro a W σ hJ pre K hK
                      have e106 : a.tmps.getD 106 undef = .int .i64 mn := pre.1 4 106 _ (by kernel_rfl) rfl rfl
                      have e107 : a.tmps.getD 107 undef = .int .i64 (k : Int) := pre.1 5 107 _ (by kernel_rfl) rfl rfl
                      clear pre
                      simp only [Array.getD_eq_getD_getElem?] at e106 e107
                      have g0 : (mn == (k : Int)) = true := by have := HMK.out; simpa using this
                      go_simp
                      exact hK _ hJ
                    refine Vals9.Steps.run (by kernel_rfl) ?_ ?_
                    · intro a W σ hJ pre K hK
                      have e108 : a.tmps.getD 108 undef = .bool true := pre.1 6 108 _ (by kernel_rfl) rfl rfl
                      clear pre
                      simp only [Array.getD_eq_getD_getElem?] at e108
                      go_simp
                      exact hK _ hJ
                    refine Vals9.Steps.run (by kernel_rfl) ?_ ?_
                    · intro a W σ hJ pre K hK
                      have e9 : a.tmps.getD 9 undef = .int .i64 (k : Int) := pre.2.2 9 _ (by kernel_rfl) rfl
                      clear pre
                      simp only [Array.getD_eq_getD_getElem?] at e9
                      go_simp
                      exact hK _ hJ
                    refine Vals9.Steps.run (by kernel_rfl) ?_ ?_
                    · intro a W σ hJ pre K hK
                      have e3 : a.tmps.getD 3 undef = .int .i64 known := pre.2.2 3 _ (by kernel_rfl) rfl
                      clear pre
                      simp only [Array.getD_eq_getD_getElem?] at e3
                      go_simp
                      exact hK _ hJ
                    refine Vals9.Steps.run (by kernel_rfl) ?_ ?_
                    · intro a W σ hJ pre K hK
                      have e110 : a.tmps.getD 110 undef = .int .i64 (k : Int) := pre.1 8 110 _ (by kernel_rfl) rfl rfl
                      have e111 : a.tmps.getD 111 undef = .int .i64 known := pre.1 9 111 _ (by kernel_rfl) rfl rfl
                      clear pre
                      simp only [Array.getD_eq_getD_getElem?] at e110 e111
                      have g0 : decide ((k : Int) ≤ known) = true := by have := HKK.out; simpa using this
                      go_simp
                      exact hK _ hJ
                    refine Vals9.Steps.run (by kernel_rfl) ?_ ?_
                    · intro a W σ hJ pre K hK
                      have e109 : a.tmps.getD 109 undef = .bool true := pre.1 7 109 _ (by kernel_rfl) rfl rfl
                      have e112 : a.tmps.getD 112 undef = .bool true := pre.1 10 112 _ (by kernel_rfl) rfl rfl
                      clear pre
                      simp only [Array.getD_eq_getD_getElem?] at e109 e112
                      go_simp
                      exact hK _ hJ
                    refine Vals9.Steps.run (by kernel_rfl) ?_ ?_
                    · intro a W σ hJ pre K hK
                      have e113 : a.tmps.getD 113 undef = .bool true := pre.1 11 113 _ (by kernel_rfl) rfl rfl
                      clear pre
                      simp only [Array.getD_eq_getD_getElem?] at e113
                      go_simp
                      exact hK _ hJ
                    refine Vals9.Steps.run (by kernel_rfl) ?_ ?_
                    · intro a W σ hJ pre K hK
                      have e1 : a.tmps.getD 1 undef = .slice (some ae) l.length c := pre.2.2 1 _ (by kernel_rfl) rfl
                      clear pre
                      simp only [Array.getD_eq_getD_getElem?] at e1
                      go_simp
                      exact hK _ hJ
                    refine Vals9.Steps.run (by kernel_rfl) ?_ ?_
                    · intro a W σ hJ pre K hK
                      have e13 : a.tmps.getD 13 undef = .int .i64 (j : Int) := pre.2.2 13 _ (by kernel_rfl) rfl
                      clear pre
                      simp only [Array.getD_eq_getD_getElem?] at e13
                      go_simp
                      exact hK _ hJ
                    refine Vals9.Steps.run (by kernel_rfl) ?_ ?_
                    · intro a W σ hJ pre K hK
                      have e115 : a.tmps.getD 115 undef = .slice (some ae) l.length c := pre.1 13 115 _ (by kernel_rfl) rfl rfl
                      have e116 : a.tmps.getD 116 undef = .int .i64 (j : Int) := pre.1 14 116 _ (by kernel_rfl) rfl rfl
                      clear pre
                      simp only [Array.getD_eq_getD_getElem?] at e115 e116
                      have hji := HJI.out
                      go_simp
                      exact hK _ hJ
                    refine Vals9.Steps.run (by kernel_rfl) ?_ ?_
                    · intro a W σ hJ pre K hK
                      have e117 : a.tmps.getD 117 undef = .pointer (some (ae.add (j * 3))) := pre.1 15 117 _ (by kernel_rfl) rfl rfl
                      clear pre
                      simp only [Array.getD_eq_getD_getElem?] at e117
                      go_simp
                      exact hK _ hJ
                    refine Vals9.Steps.run (by kernel_rfl) ?_ ?_
                    · intro a W σ hJ pre K hK
                      have e118 : a.tmps.getD 118 undef = .pointer (some (at_ (ae.add (j * 3)) 2)) := pre.1 16 118 _ (by kernel_rfl) rfl rfl
                      clear pre
                      simp only [Array.getD_eq_getD_getElem?] at e118
                      have hS9 := hJ
                      have y0 := keep_cell hS9.1 HE0.out
                      have y2 := keep_cell hS9.1 HE2.out
                      have q0 := keep_cell hS9.1 HQI.out
                      go_simp
                      exact hK _ hJ
                    refine Vals9.Steps.run (by kernel_rfl) ?_ ?_
                    · intro a W σ hJ pre K hK
                      have e2 : a.tmps.getD 2 undef = .slice (some ad) n pc := pre.2.2 2 _ (by kernel_rfl) rfl
                      clear pre
                      simp only [Array.getD_eq_getD_getElem?] at e2
                      go_simp
                      exact hK _ hJ
                    refine Vals9.Steps.run (by kernel_rfl) ?_ ?_
                    · intro a W σ hJ pre K hK
                      have e9 : a.tmps.getD 9 undef = .int .i64 (k : Int) := pre.2.2 9 _ (by kernel_rfl) rfl
                      clear pre
                      simp only [Array.getD_eq_getD_getElem?] at e9
                      go_simp
                      exact hK _ hJ
                    refine Vals9.Steps.run (by kernel_rfl) ?_ ?_
                    · intro a W σ hJ pre K hK
                      have e120 : a.tmps.getD 120 undef = .slice (some ad) n pc := pre.1 18 120 _ (by kernel_rfl) rfl rfl
                      have e121 : a.tmps.getD 121 undef = .int .i64 (k : Int) := pre.1 19 121 _ (by kernel_rfl) rfl rfl
                      clear pre
                      simp only [Array.getD_eq_getD_getElem?] at e120 e121
                      have hki := HKI.out
                      go_simp
                      exact hK _ hJ
                    refine Vals9.Steps.run (by kernel_rfl) ?_ ?_
                    · intro a W σ hJ pre K hK
                      have e122 : a.tmps.getD 122 undef = .pointer (some (ad.add k)) := pre.1 20 122 _ (by kernel_rfl) rfl rfl
                      clear pre
                      simp only [Array.getD_eq_getD_getElem?] at e122
                      have hS9 := hJ
                      have y0 := keep_cell hS9.1 HE0.out
                      have y2 := keep_cell hS9.1 HE2.out
                      have q0 := keep_cell hS9.1 HQI.out
                      go_simp
                      exact hK _ hJ
                    refine Vals9.Steps.run (by kernel_rfl) ?_ ?_
                    · intro a W σ hJ pre K hK
                      have e14 : a.tmps.getD 14 undef = .int .i64 er := pre.2.2 14 _ (by kernel_rfl) rfl
                      clear pre
                      simp only [Array.getD_eq_getD_getElem?] at e14
                      go_simp
                      exact hK _ hJ
                    refine Vals9.Steps.run (by kernel_rfl) ?_ ?_
                    · intro a W σ hJ pre K hK
                      have e123 : a.tmps.getD 123 undef = .int .i64 x := pre.1 21 123 _ (by kernel_rfl) rfl rfl
                      have e124 : a.tmps.getD 124 undef = .int .i64 er := pre.1 22 124 _ (by kernel_rfl) rfl rfl
                      clear pre
                      simp only [Array.getD_eq_getD_getElem?] at e123 e124
                      have hb1 := HX0.out
                      have hb2 := HX1.out
                      have hb3 := HEB.out
                      have hw9 : IntKind.i64.wrap (x - er) = x - er := IntWalk.i64_in _ (by omega)
                      go_simp
                      exact hK _ hJ
                    refine Vals9.Steps.run (by kernel_rfl) ?_ ?_
                    · intro a W σ hJ pre K hK
                      have e2 : a.tmps.getD 2 undef = .slice (some ad) n pc := pre.2.2 2 _ (by kernel_rfl) rfl
                      clear pre
                      simp only [Array.getD_eq_getD_getElem?] at e2
                      go_simp
                      exact hK _ hJ
                    refine Vals9.Steps.run (by kernel_rfl) ?_ ?_
                    · intro a W σ hJ pre K hK
                      have e9 : a.tmps.getD 9 undef = .int .i64 (k : Int) := pre.2.2 9 _ (by kernel_rfl) rfl
                      clear pre
                      simp only [Array.getD_eq_getD_getElem?] at e9
                      go_simp
                      exact hK _ hJ
                    refine Vals9.Steps.run (by kernel_rfl) ?_ ?_
                    · intro a W σ hJ pre K hK
                      have e126 : a.tmps.getD 126 undef = .slice (some ad) n pc := pre.1 24 126 _ (by kernel_rfl) rfl rfl
                      have e127 : a.tmps.getD 127 undef = .int .i64 (k : Int) := pre.1 25 127 _ (by kernel_rfl) rfl rfl
                      clear pre
                      simp only [Array.getD_eq_getD_getElem?] at e126 e127
                      have hki := HKI.out
                      go_simp
                      exact hK _ hJ
                    refine Vals9.Steps.run (by kernel_rfl) ?_ ?_
                    · intro a W σ hJ pre K hK
                      have e128 : a.tmps.getD 128 undef = .pointer (some (ad.add k)) := pre.1 26 128 _ (by kernel_rfl) rfl rfl
                      clear pre
                      simp only [Array.getD_eq_getD_getElem?] at e128
                      have hS9 := hJ
                      have y0 := keep_cell hS9.1 HE0.out
                      have y2 := keep_cell hS9.1 HE2.out
                      have q0 := keep_cell hS9.1 HQI.out
                      go_simp
                      exact hK _ hJ
                    refine Vals9.Steps.run (by kernel_rfl) ?_ ?_
                    · intro a W σ hJ pre K hK
                      have e14 : a.tmps.getD 14 undef = .int .i64 er := pre.2.2 14 _ (by kernel_rfl) rfl
                      clear pre
                      simp only [Array.getD_eq_getD_getElem?] at e14
                      go_simp
                      exact hK _ hJ
                    refine Vals9.Steps.run (by kernel_rfl) ?_ ?_
                    · intro a W σ hJ pre K hK
                      have e129 : a.tmps.getD 129 undef = .int .i64 x := pre.1 27 129 _ (by kernel_rfl) rfl rfl
                      have e130 : a.tmps.getD 130 undef = .int .i64 er := pre.1 28 130 _ (by kernel_rfl) rfl rfl
                      clear pre
                      simp only [Array.getD_eq_getD_getElem?] at e129 e130
                      have hb1 := HX0.out
                      have hb2 := HX1.out
                      have hb3 := HEB.out
                      have hw9 : IntKind.i64.wrap (x + er) = x + er := IntWalk.i64_in _ (by omega)
                      go_simp
                      exact hK _ hJ
                    refine Vals9.Steps.run (by kernel_rfl) ?_ ?_
                    · intro a W σ hJ pre K hK
                      have e125 : a.tmps.getD 125 undef = .int .i64 (x - er) := pre.1 23 125 _ (by kernel_rfl) rfl rfl
                      have e131 : a.tmps.getD 131 undef = .int .i64 (x + er) := pre.1 29 131 _ (by kernel_rfl) rfl rfl
                      clear pre
                      simp only [Array.getD_eq_getD_getElem?] at e125 e131
                      go_simp
                      refine (span_c (x - er) (x + er) _).mono ?_
                      rintro e w' ⟨rfl, hb'⟩
                      exact hK _ (hJ.keep hb')
                    refine Vals9.Steps.run (by kernel_rfl) ?_ ?_
                    · intro a W σ hJ pre K hK
                      have e119 : a.tmps.getD 119 undef = .int .i64 sh := pre.1 17 119 _ (by kernel_rfl) rfl rfl
                      have e132 : a.tmps.getD 132 undef = .agg #[.int .i64 (x - er), .int .i64 (x + er)] := pre.1 30 132 _ (by kernel_rfl) rfl rfl
                      clear pre
                      simp only [Array.getD_eq_getD_getElem?] at e119 e132
                      go_simp
                      refine (inside_c sh (x - er, x + er) _).mono ?_
                      rintro e w' ⟨rfl, hb'⟩
                      have hin := HIN2.out
                      dsimp only
                      rw [hin]
                      exact hK _ (hJ.keep hb')
                    refine Vals9.Steps.run (by kernel_rfl) ?_ ?_
                    · intro a W σ hJ pre K hK
                      have e133 : a.tmps.getD 133 undef = .bool true := pre.1 31 133 _ (by kernel_rfl) rfl rfl
                      clear pre
                      simp only [Array.getD_eq_getD_getElem?] at e133
                      go_simp
                      exact hK _ hJ
                    refine Vals9.Steps.run (by kernel_rfl) ?_ ?_
                    · intro a W σ hJ pre K hK
                      have e114 : a.tmps.getD 114 undef = .bool true := pre.1 12 114 _ (by kernel_rfl) rfl rfl
                      have e134 : a.tmps.getD 134 undef = .bool false := pre.1 32 134 _ (by kernel_rfl) rfl rfl
                      clear pre
                      simp only [Array.getD_eq_getD_getElem?] at e114 e134
                      go_simp
                      exact hK _ hJ
                    exact Vals9.Steps.nil
                  · intro Y2 σ2 hJ2
                    simp only [Vals9.All]
                    simp only [Vals.putAll, List.setIfInBounds_toArray, List.set_cons_zero, List.set_cons_succ]
                    have hs2 := hsi.keep hJ2.1
                    have HB2 := Lib.hid (HBI.out.keep hJ2.1)
                    clear hJ2
                    go_wp2_with fail
                    go_roundw
                    case rel => first | exact ⟨j + 1, by omega, by go_num, hs2, HB2⟩ | ((repeat apply Exists.intro); exact ⟨⟨j + 1, by omega, rfl, hs2, HB2⟩, rfl⟩)
                    case measure => simp [intOf]; omega
                · have HKK := Lib.hid hkk
                  clear hmk
                  refine Vals9.region (fun _ Z => Since WJ Z) [some 102, some 103, some 104, some 105, some 106, some 107, some 108, some 109, some 110, some 111, some 112, some 113, some 114, some 115, some 116, some 117, some 118, some 119, some 120, some 121, some 122, some 123, some 124, some 125, some 126, some 127, some 128, some 129, some 130, some 131, some 132, some 133, some 134, some 135] [.is (.slice (some ae) l.length c), .is (.int .i64 (j : Int)), .is (.pointer (some (ae.add (j * 3)))), .is (.pointer (some (ae.add (j * 3)))), .is (.int .i64 mn), .is (.int .i64 (k : Int)), .is (.bool true), .is (.bool true), .is (.int .i64 (k : Int)), .is (.int .i64 known), .is (.bool false), .is (.bool false), .is (.bool false), .is (undef), .is (undef), .is (undef), .is (undef), .is (undef), .is (undef), .is (undef), .is (undef), .is (undef), .is (undef), .is (undef), .is (undef), .is (undef), .is (undef), .is (undef), .is (undef), .is (undef), .is (undef), .is (undef), .is (undef), .is (.bool false)] (by kernel_rfl) (by kernel_rfl) (by kernel_rfl) (by kernel_rfl) (by kernel_rfl) (by kernel_rfl) ((Since.refl WJ).drew) ?_ ?_
                  · refine Vals9.Steps.run (by kernel_rfl) ?_ ?_
                    · intro a W σ hJ pre K hK
                      have e1 : a.tmps.getD 1 undef = .slice (some ae) l.length c := pre.2.2 1 _ (by kernel_rfl) rfl
                      clear pre
                      simp only [Array.getD_eq_getD_getElem?] at e1
                      go_simp
                      exact hK _ hJ
                    refine Vals9.Steps.run (by kernel_rfl) ?_ ?_
                    · intro a W σ hJ pre K hK
                      have e13 : a.tmps.getD 13 undef = .int .i64 (j : Int) := pre.2.2 13 _ (by kernel_rfl) rfl
                      clear pre
                      simp only [Array.getD_eq_getD_getElem?] at e13
                      go_simp
                      exact hK _ hJ
                    refine Vals9.Steps.run (by kernel_rfl) ?_ ?_
                    · intro a W σ hJ pre K hK
                      have e102 : a.tmps.getD 102 undef = .slice (some ae) l.length c := pre.1 0 102 _ (by kernel_rfl) rfl rfl
                      have e103 : a.tmps.getD 103 undef = .int .i64 (j : Int) := pre.1 1 103 _ (by kernel_rfl) rfl rfl
                      clear pre
                      simp only [Array.getD_eq_getD_getElem?] at e102 e103
                      have hji := HJI.out
                      go_simp
                      exact hK _ hJ
                    refine Vals9.Steps.run (by kernel_rfl) ?_ ?_
                    · intro a W σ hJ pre K hK
                      have e104 : a.tmps.getD 104 undef = .pointer (some (ae.add (j * 3))) := pre.1 2 104 _ (by kernel_rfl) rfl rfl
                      clear pre
                      simp only [Array.getD_eq_getD_getElem?] at e104
                      go_simp
                      exact hK _ hJ
                    refine Vals9.Steps.run (by kernel_rfl) ?_ ?_
                    · intro a W σ hJ pre K hK
                      have e105 : a.tmps.getD 105 undef = .pointer (some (ae.add (j * 3))) := pre.1 3 105 _ (by kernel_rfl) rfl rfl
                      clear pre
                      simp only [Array.getD_eq_getD_getElem?] at e105
                      have hS9 := hJ
                      have y0 := keep_cell hS9.1 HE0.out
                      have y2 := keep_cell hS9.1 HE2.out
                      have q0 := keep_cell hS9.1 HQI.out
                      go_simp
                      exact hK _ hJ
                    refine Vals9.Steps.run (by kernel_rfl) ?_ ?_
                    · intro a W σ hJ pre K hK
                      have e9 : a.tmps.getD 9 undef = .int .i64 (k : Int) := pre.2.2 9 _ (by kernel_rfl) rfl
                      clear pre
                      simp only [Array.getD_eq_getD_getElem?] at e9
                      go_simp
                      exact hK _ hJ
                    refine Vals9.Steps.run (by kernel_rfl) ?_ ?_
                    · intro a W σ hJ pre K hK
                      have e106 : a.tmps.getD 106 undef = .int .i64 mn := pre.1 4 106 _ (by kernel_rfl) rfl rfl
                      have e107 : a.tmps.getD 107 undef = .int .i64 (k : Int) := pre.1 5 107 _ (by kernel_rfl) rfl rfl
                      clear pre
                      simp only [Array.getD_eq_getD_getElem?] at e106 e107
                      have g0 : (mn == (k : Int)) = true := by have := HMK.out; simpa using this
                      go_simp
                      exact hK _ hJ
                    refine Vals9.Steps.run (by kernel_rfl) ?_ ?_
                    · intro a W σ hJ pre K hK
                      have e108 : a.tmps.getD 108 undef = .bool true := pre.1 6 108 _ (by kernel_rfl) rfl rfl
                      clear pre
                      simp only [Array.getD_eq_getD_getElem?] at e108
                      go_simp
                      exact hK _ hJ
                    refine Vals9.Steps.run (by kernel_rfl) ?_ ?_
                    · intro a W σ hJ pre K hK
                      have e9 : a.tmps.getD 9 undef = .int .i64 (k : Int) := pre.2.2 9 _ (by kernel_rfl) rfl
                      clear pre
                      simp only [Array.getD_eq_getD_getElem?] at e9
                      go_simp
                      exact hK _ hJ
                    refine Vals9.Steps.run (by kernel_rfl) ?_ ?_
                    · intro a W σ hJ pre K hK
                      have e3 : a.tmps.getD 3 undef = .int .i64 known := pre.2.2 3 _ (by kernel_rfl) rfl
                      clear pre
                      simp only [Array.getD_eq_getD_getElem?] at e3
                      go_simp
                      exact hK _ hJ
                    refine Vals9.Steps.run (by kernel_rfl) ?_ ?_
                    · intro a W σ hJ pre K hK
                      have e110 : a.tmps.getD 110 undef = .int .i64 (k : Int) := pre.1 8 110 _ (by kernel_rfl) rfl rfl
                      have e111 : a.tmps.getD 111 undef = .int .i64 known := pre.1 9 111 _ (by kernel_rfl) rfl rfl
                      clear pre
                      simp only [Array.getD_eq_getD_getElem?] at e110 e111
                      have g0 : decide ((k : Int) ≤ known) = false := by have := HKK.out; simpa using this
                      go_simp
                      exact hK _ hJ
                    refine Vals9.Steps.run (by kernel_rfl) ?_ ?_
                    · intro a W σ hJ pre K hK
                      have e109 : a.tmps.getD 109 undef = .bool true := pre.1 7 109 _ (by kernel_rfl) rfl rfl
                      have e112 : a.tmps.getD 112 undef = .bool false := pre.1 10 112 _ (by kernel_rfl) rfl rfl
                      clear pre
                      simp only [Array.getD_eq_getD_getElem?] at e109 e112
                      go_simp
                      exact hK _ hJ
                    refine Vals9.Steps.run (by kernel_rfl) ?_ ?_
                    · intro a W σ hJ pre K hK
                      have e113 : a.tmps.getD 113 undef = .bool false := pre.1 11 113 _ (by kernel_rfl) rfl rfl
                      clear pre
                      simp only [Array.getD_eq_getD_getElem?] at e113
                      go_simp
                      exact hK _ hJ
                    refine Vals9.Steps.skip (by kernel_rfl) (by kernel_rfl) ?_
                    refine Vals9.Steps.skip (by kernel_rfl) (by kernel_rfl) ?_
                    refine Vals9.Steps.skip (by kernel_rfl) (by kernel_rfl) ?_
                    refine Vals9.Steps.skip (by kernel_rfl) (by kernel_rfl) ?_
                    refine Vals9.Steps.skip (by kernel_rfl) (by kernel_rfl) ?_
                    refine Vals9.Steps.skip (by kernel_rfl) (by kernel_rfl) ?_
                    refine Vals9.Steps.skip (by kernel_rfl) (by kernel_rfl) ?_
                    refine Vals9.Steps.skip (by kernel_rfl) (by kernel_rfl) ?_
                    refine Vals9.Steps.skip (by kernel_rfl) (by kernel_rfl) ?_
                    refine Vals9.Steps.skip (by kernel_rfl) (by kernel_rfl) ?_
                    refine Vals9.Steps.skip (by kernel_rfl) (by kernel_rfl) ?_
                    refine Vals9.Steps.skip (by kernel_rfl) (by kernel_rfl) ?_
                    refine Vals9.Steps.skip (by kernel_rfl) (by kernel_rfl) ?_
                    refine Vals9.Steps.skip (by kernel_rfl) (by kernel_rfl) ?_
                    refine Vals9.Steps.skip (by kernel_rfl) (by kernel_rfl) ?_
                    refine Vals9.Steps.skip (by kernel_rfl) (by kernel_rfl) ?_
                    refine Vals9.Steps.skip (by kernel_rfl) (by kernel_rfl) ?_
                    refine Vals9.Steps.skip (by kernel_rfl) (by kernel_rfl) ?_
                    refine Vals9.Steps.skip (by kernel_rfl) (by kernel_rfl) ?_
                    refine Vals9.Steps.skip (by kernel_rfl) (by kernel_rfl) ?_
                    refine Vals9.Steps.run (by kernel_rfl) ?_ ?_
                    · intro a W σ hJ pre K hK
                      have e114 : a.tmps.getD 114 undef = .bool false := pre.1 12 114 _ (by kernel_rfl) rfl rfl
                      have e134 : a.tmps.getD 134 undef = undef := pre.1 32 134 _ (by kernel_rfl) rfl rfl
                      clear pre
                      simp only [Array.getD_eq_getD_getElem?] at e114 e134
                      go_simp
                      exact hK _ hJ
                    exact Vals9.Steps.nil
                  · intro Y2 σ2 hJ2
                    simp only [Vals9.All]
                    simp only [Vals.putAll, List.setIfInBounds_toArray, List.set_cons_zero, List.set_cons_succ]
                    have hs2 := hsi.keep hJ2.1
                    have HB2 := Lib.hid (HBI.out.keep hJ2.1)
                    clear hJ2
                    go_wp2_with fail
                    go_roundw
                    case rel => first | exact ⟨j + 1, by omega, by go_num, hs2, HB2⟩ | ((repeat apply Exists.intro); exact ⟨⟨j + 1, by omega, rfl, hs2, HB2⟩, rfl⟩)
                    case measure => simp [intOf]; omega
              · have HMK := Lib.hid hmk
                refine Vals9.region (fun _ Z => Since WJ Z) [some 102, some 103, some 104, some 105, some 106, some 107, some 108, some 109, some 110, some 111, some 112, some 113, some 114, some 115, some 116, some 117, some 118, some 119, some 120, some 121, some 122, some 123, some 124, some 125, some 126, some 127, some 128, some 129, some 130, some 131, some 132, some 133, some 134, some 135] [.is (.slice (some ae) l.length c), .is (.int .i64 (j : Int)), .is (.pointer (some (ae.add (j * 3)))), .is (.pointer (some (ae.add (j * 3)))), .is (.int .i64 mn), .is (.int .i64 (k : Int)), .is (.bool false), .is (.bool false), .is (undef), .is (undef), .is (undef), .is (.bool false), .is (.bool false), .is (undef), .is (undef), .is (undef), .is (undef), .is (undef), .is (undef), .is (undef), .is (undef), .is (undef), .is (undef), .is (undef), .is (undef), .is (undef), .is (undef), .is (undef), .is (undef), .is (undef), .is (undef), .is (undef), .is (undef), .is (.bool false)] (by kernel_rfl) (by kernel_rfl) (by kernel_rfl) (by kernel_rfl) (by kernel_rfl) (by kernel_rfl) ((Since.refl WJ).drew) ?_ ?_
                · refine Vals9.Steps.run (by kernel_rfl) ?_ ?_
                  · intro a W σ hJ pre K hK
                    have e1 : a.tmps.getD 1 undef = .slice (some ae) l.length c := pre.2.2 1 _ (by kernel_rfl) rfl
                    clear pre
                    simp only [Array.getD_eq_getD_getElem?] at e1
                    go_simp
                    exact hK _ hJ
                  refine Vals9.Steps.run (by kernel_rfl) ?_ ?_
                  · intro a W σ hJ pre K hK
                    have e13 : a.tmps.getD 13 undef = .int .i64 (j : Int) := pre.2.2 13 _ (by kernel_rfl) rfl
                    clear pre
                    simp only [Array.getD_eq_getD_getElem?] at e13
                    go_simp
                    exact hK _ hJ
                  refine Vals9.Steps.run (by kernel_rfl) ?_ ?_
                  · intro a W σ hJ pre K hK
                    have e102 : a.tmps.getD 102 undef = .slice (some ae) l.length c := pre.1 0 102 _ (by kernel_rfl) rfl rfl
                    have e103 : a.tmps.getD 103 undef = .int .i64 (j : Int) := pre.1 1 103 _ (by kernel_rfl) rfl rfl
                    clear pre
                    simp only [Array.getD_eq_getD_getElem?] at e102 e103
                    have hji := HJI.out
                    go_simp
                    exact hK _ hJ
                  refine Vals9.Steps.run (by kernel_rfl) ?_ ?_
                  · intro a W σ hJ pre K hK
                    have e104 : a.tmps.getD 104 undef = .pointer (some (ae.add (j * 3))) := pre.1 2 104 _ (by kernel_rfl) rfl rfl
                    clear pre
                    simp only [Array.getD_eq_getD_getElem?] at e104
                    go_simp
                    exact hK _ hJ
                  refine Vals9.Steps.run (by kernel_rfl) ?_ ?_
                  · intro a W σ hJ pre K hK
                    have e105 : a.tmps.getD 105 undef = .pointer (some (ae.add (j * 3))) := pre.1 3 105 _ (by kernel_rfl) rfl rfl
                    clear pre
                    simp only [Array.getD_eq_getD_getElem?] at e105
                    have hS9 := hJ
                    have y0 := keep_cell hS9.1 HE0.out
                    have y2 := keep_cell hS9.1 HE2.out
                    have q0 := keep_cell hS9.1 HQI.out
                    go_simp
                    exact hK _ hJ
                  refine Vals9.Steps.run (by kernel_rfl) ?_ ?_
                  · intro a W σ hJ pre K hK
                    have e9 : a.tmps.getD 9 undef = .int .i64 (k : Int) := pre.2.2 9 _ (by kernel_rfl) rfl
                    clear pre
                    simp only [Array.getD_eq_getD_getElem?] at e9
                    go_simp
                    exact hK _ hJ
                  refine Vals9.Steps.run (by kernel_rfl) ?_ ?_
                  · intro a W σ hJ pre K hK
                    have e106 : a.tmps.getD 106 undef = .int .i64 mn := pre.1 4 106 _ (by kernel_rfl) rfl rfl
                    have e107 : a.tmps.getD 107 undef = .int .i64 (k : Int) := pre.1 5 107 _ (by kernel_rfl) rfl rfl
                    clear pre
                    simp only [Array.getD_eq_getD_getElem?] at e106 e107
                    have g0 : (mn == (k : Int)) = false := by have := HMK.out; simpa using this
                    go_simp
                    exact hK _ hJ
                  refine Vals9.Steps.run (by kernel_rfl) ?_ ?_
                  · intro a W σ hJ pre K hK
                    have e108 : a.tmps.getD 108 undef = .bool false := pre.1 6 108 _ (by kernel_rfl) rfl rfl
                    clear pre
                    simp only [Array.getD_eq_getD_getElem?] at e108
                    go_simp
                    exact hK _ hJ
                  refine Vals9.Steps.skip (by kernel_rfl) (by kernel_rfl) ?_
                  refine Vals9.Steps.skip (by kernel_rfl) (by kernel_rfl) ?_
                  refine Vals9.Steps.skip (by kernel_rfl) (by kernel_rfl) ?_
                  refine Vals9.Steps.run (by kernel_rfl) ?_ ?_
                  · intro a W σ hJ pre K hK
                    have e109 : a.tmps.getD 109 undef = .bool false := pre.1 7 109 _ (by kernel_rfl) rfl rfl
                    have e112 : a.tmps.getD 112 undef = undef := pre.1 10 112 _ (by kernel_rfl) rfl rfl
                    clear pre
                    simp only [Array.getD_eq_getD_getElem?] at e109 e112
                    go_simp
                    exact hK _ hJ
                  refine Vals9.Steps.run (by kernel_rfl) ?_ ?_
                  · intro a W σ hJ pre K hK
                    have e113 : a.tmps.getD 113 undef = .bool false := pre.1 11 113 _ (by kernel_rfl) rfl rfl
                    clear pre
                    simp only [Array.getD_eq_getD_getElem?] at e113
                    go_simp
                    exact hK _ hJ
                  refine Vals9.Steps.skip (by kernel_rfl) (by kernel_rfl) ?_
                  refine Vals9.Steps.skip (by kernel_rfl) (by kernel_rfl) ?_
                  refine Vals9.Steps.skip (by kernel_rfl) (by kernel_rfl) ?_
                  refine Vals9.Steps.skip (by kernel_rfl) (by kernel_rfl) ?_
                  refine Vals9.Steps.skip (by kernel_rfl) (by kernel_rfl) ?_
                  refine Vals9.Steps.skip (by kernel_rfl) (by kernel_rfl) ?_
                  refine Vals9.Steps.skip (by kernel_rfl) (by kernel_rfl) ?_
                  refine Vals9.Steps.skip (by kernel_rfl) (by kernel_rfl) ?_
                  refine Vals9.Steps.skip (by kernel_rfl) (by kernel_rfl) ?_
                  refine Vals9.Steps.skip (by kernel_rfl) (by kernel_rfl) ?_
                  refine Vals9.Steps.skip (by kernel_rfl) (by kernel_rfl) ?_
                  refine Vals9.Steps.skip (by kernel_rfl) (by kernel_rfl) ?_
                  refine Vals9.Steps.skip (by kernel_rfl) (by kernel_rfl) ?_
                  refine Vals9.Steps.skip (by kernel_rfl) (by kernel_rfl) ?_
                  refine Vals9.Steps.skip (by kernel_rfl) (by kernel_rfl) ?_
                  refine Vals9.Steps.skip (by kernel_rfl) (by kernel_rfl) ?_
                  refine Vals9.Steps.skip (by kernel_rfl) (by kernel_rfl) ?_
                  refine Vals9.Steps.skip (by kernel_rfl) (by kernel_rfl) ?_
                  refine Vals9.Steps.skip (by kernel_rfl) (by kernel_rfl) ?_
                  refine Vals9.Steps.skip (by kernel_rfl) (by kernel_rfl) ?_
                  refine Vals9.Steps.run (by kernel_rfl) ?_ ?_
                  · intro a W σ hJ pre K hK
                    have e114 : a.tmps.getD 114 undef = .bool false := pre.1 12 114 _ (by kernel_rfl) rfl rfl
                    have e134 : a.tmps.getD 134 undef = undef := pre.1 32 134 _ (by kernel_rfl) rfl rfl
                    clear pre
                    simp only [Array.getD_eq_getD_getElem?] at e114 e134
                    go_simp
                    exact hK _ hJ
                  exact Vals9.Steps.nil
                · intro Y2 σ2 hJ2
                  simp only [Vals9.All]
                  simp only [Vals.putAll, List.setIfInBounds_toArray, List.set_cons_zero, List.set_cons_succ]
                  have hs2 := hsi.keep hJ2.1
                  have HB2 := Lib.hid (HBI.out.keep hJ2.1)
                  clear hJ2
                  go_wp2_with fail
                  go_roundw
                  case rel => first | exact ⟨j + 1, by omega, by go_num, hs2, HB2⟩ | ((repeat apply Exists.intro); exact ⟨⟨j + 1, by omega, rfl, hs2, HB2⟩, rfl⟩)
                  case measure => simp [intOf]; omega
            · have hjl' : ¬ (j : Int) < (l.length : Int) := by omega
              go_wp2_with fail
              go_roundw
              case rel => exact ⟨k + 1, by omega, by go_num, hsi, HBI⟩
              case measure => simp [intOf]; omega
      · have HK0 : Hid (¬ (k : Int) = 0) := fun h => hk0 (by omega)
        have hkp : (0 : Int) < (k : Int) := by omega
        go_wp2_with fail
        refine Vals9.region (fun _ Z => Blk Z (w.heap.size) 27 (sV s m) ∧ Since wr Z) [some 21, some 22, some 23, some 24, some 25, some 26, some 27, some 28, some 29, some 30, some 31, some 32, some 33, some 34, some 35, some 36, some 37, some 38, some 39, some 40, some 41, some 42, some 43, some 44, some 45] [.is (.int .i64 (k : Int)), .is (.bool false), .is (.bool false), .is (undef), .is (undef), .is (undef), .is (undef), .is (undef), .is (undef), .is (undef), .is (.bool false), .is (.bool false), .is (.slice (some ad) n pc), .is (.int .i64 (k : Int)), .is (.pointer (some (ad.add k))), .is (.int .i64 x), .is (.bool false), .is (.bool false), .is (.bool false), .is (.slice (some ad) n pc), .is (.int .i64 (k : Int)), .is (.pointer (some (ad.add k))), .is (.int .i64 x), .is (.bool false), .is (.bool false)] (by kernel_rfl) (by kernel_rfl) (by kernel_rfl) (by kernel_rfl) (by kernel_rfl) (by kernel_rfl) (⟨HB.out.drew, (Since.refl wr).drew⟩) ?_ ?_
        · refine Vals9.Steps.run (by kernel_rfl) ?_ ?_
          · intro a W σ hJ pre K hK
            have e9 : a.tmps.getD 9 undef = .int .i64 (k : Int) := pre.2.2 9 _ (by kernel_rfl) rfl
            clear pre
            simp only [Array.getD_eq_getD_getElem?] at e9
            go_simp
            exact hK _ hJ
          refine Vals9.Steps.run (by kernel_rfl) ?_ ?_
          · intro a W σ hJ pre K hK
            have e21 : a.tmps.getD 21 undef = .int .i64 (k : Int) := pre.1 0 21 _ (by kernel_rfl) rfl rfl
            clear pre
            simp only [Array.getD_eq_getD_getElem?] at e21
            have hk0 : ((k : Int) == 0) = false := by have := HK0.out; simpa using this
            go_simp
            exact hK _ hJ
          refine Vals9.Steps.run (by kernel_rfl) ?_ ?_
          · intro a W σ hJ pre K hK
            have e22 : a.tmps.getD 22 undef = .bool false := pre.1 1 22 _ (by kernel_rfl) rfl rfl
            clear pre
            simp only [Array.getD_eq_getD_getElem?] at e22
            go_simp
            exact hK _ hJ
          refine Vals9.Steps.skip (by kernel_rfl) (by kernel_rfl) ?_
          refine Vals9.Steps.skip (by kernel_rfl) (by kernel_rfl) ?_
          refine Vals9.Steps.skip (by kernel_rfl) (by kernel_rfl) ?_
          refine Vals9.Steps.skip (by kernel_rfl) (by kernel_rfl) ?_
          refine Vals9.Steps.skip (by kernel_rfl) (by kernel_rfl) ?_
          refine Vals9.Steps.skip (by kernel_rfl) (by kernel_rfl) ?_
          refine Vals9.Steps.skip (by kernel_rfl) (by kernel_rfl) ?_
          refine Vals9.Steps.run (by kernel_rfl) ?_ ?_
          · intro a W σ hJ pre K hK
            have e23 : a.tmps.getD 23 undef = .bool false := pre.1 2 23 _ (by kernel_rfl) rfl rfl
            have e30 : a.tmps.getD 30 undef = undef := pre.1 9 30 _ (by kernel_rfl) rfl rfl
            clear pre
            simp only [Array.getD_eq_getD_getElem?] at e23 e30
            go_simp
            exact hK _ hJ
          refine Vals9.Steps.run (by kernel_rfl) ?_ ?_
          · intro a W σ hJ pre K hK
            have e31 : a.tmps.getD 31 undef = .bool false := pre.1 10 31 _ (by kernel_rfl) rfl rfl
            clear pre
            simp only [Array.getD_eq_getD_getElem?] at e31
            go_simp
            exact hK _ hJ
          refine Vals9.Steps.run (by kernel_rfl) ?_ ?_
          · intro a W σ hJ pre K hK
            have e2 : a.tmps.getD 2 undef = .slice (some ad) n pc := pre.2.2 2 _ (by kernel_rfl) rfl
            clear pre
            simp only [Array.getD_eq_getD_getElem?] at e2
            go_simp
            exact hK _ hJ
          refine Vals9.Steps.run (by kernel_rfl) ?_ ?_
          · intro a W σ hJ pre K hK
            have e9 : a.tmps.getD 9 undef = .int .i64 (k : Int) := pre.2.2 9 _ (by kernel_rfl) rfl
            clear pre
            simp only [Array.getD_eq_getD_getElem?] at e9
            go_simp
            exact hK _ hJ
          refine Vals9.Steps.run (by kernel_rfl) ?_ ?_
          · intro a W σ hJ pre K hK
            have e33 : a.tmps.getD 33 undef = .slice (some ad) n pc := pre.1 12 33 _ (by kernel_rfl) rfl rfl
            have e34 : a.tmps.getD 34 undef = .int .i64 (k : Int) := pre.1 13 34 _ (by kernel_rfl) rfl rfl
            clear pre
            simp only [Array.getD_eq_getD_getElem?] at e33 e34
            have hki := HKI.out
            go_simp
            exact hK _ hJ
          refine Vals9.Steps.run (by kernel_rfl) ?_ ?_
          · intro a W σ hJ pre K hK
            have e35 : a.tmps.getD 35 undef = .pointer (some (ad.add k)) := pre.1 14 35 _ (by kernel_rfl) rfl rfl
            clear pre
            simp only [Array.getD_eq_getD_getElem?] at e35
            have hS9 := hJ
            obtain ⟨l1, l2⟩ := hS9
            obtain ⟨c0, c1, c2, c3, c4, c5, c6, c7, c8⟩ := l1.space
            have q0 := keep_cell l2.1 HQ0.out
            go_simp
            exact hK _ hJ
          refine Vals9.Steps.run (by kernel_rfl) ?_ ?_
          · intro a W σ hJ pre K hK
            have e36 : a.tmps.getD 36 undef = .int .i64 x := pre.1 15 36 _ (by kernel_rfl) rfl rfl
            clear pre
            simp only [Array.getD_eq_getD_getElem?] at e36
            have g1 := HX0.out
            have g2 : decide (x < 0) = false := decide_eq_false (by omega)
            go_simp
            exact hK _ hJ
          refine Vals9.Steps.run (by kernel_rfl) ?_ ?_
          · intro a W σ hJ pre K hK
            have e32 : a.tmps.getD 32 undef = .bool false := pre.1 11 32 _ (by kernel_rfl) rfl rfl
            have e37 : a.tmps.getD 37 undef = .bool false := pre.1 16 37 _ (by kernel_rfl) rfl rfl
            clear pre
            simp only [Array.getD_eq_getD_getElem?] at e32 e37
            go_simp
            exact hK _ hJ
          refine Vals9.Steps.run (by kernel_rfl) ?_ ?_
          · intro a W σ hJ pre K hK
            have e38 : a.tmps.getD 38 undef = .bool false := pre.1 17 38 _ (by kernel_rfl) rfl rfl
            clear pre
            simp only [Array.getD_eq_getD_getElem?] at e38
            go_simp
            exact hK _ hJ
          refine Vals9.Steps.run (by kernel_rfl) ?_ ?_
          · intro a W σ hJ pre K hK
            have e2 : a.tmps.getD 2 undef = .slice (some ad) n pc := pre.2.2 2 _ (by kernel_rfl) rfl
            clear pre
            simp only [Array.getD_eq_getD_getElem?] at e2
            go_simp
            exact hK _ hJ
          refine Vals9.Steps.run (by kernel_rfl) ?_ ?_
          · intro a W σ hJ pre K hK
            have e9 : a.tmps.getD 9 undef = .int .i64 (k : Int) := pre.2.2 9 _ (by kernel_rfl) rfl
            clear pre
            simp only [Array.getD_eq_getD_getElem?] at e9
            go_simp
            exact hK _ hJ
          refine Vals9.Steps.run (by kernel_rfl) ?_ ?_
          · intro a W σ hJ pre K hK
            have e40 : a.tmps.getD 40 undef = .slice (some ad) n pc := pre.1 19 40 _ (by kernel_rfl) rfl rfl
            have e41 : a.tmps.getD 41 undef = .int .i64 (k : Int) := pre.1 20 41 _ (by kernel_rfl) rfl rfl
            clear pre
            simp only [Array.getD_eq_getD_getElem?] at e40 e41
            have hki := HKI.out
            go_simp
            exact hK _ hJ
          refine Vals9.Steps.run (by kernel_rfl) ?_ ?_
          · intro a W σ hJ pre K hK
            have e42 : a.tmps.getD 42 undef = .pointer (some (ad.add k)) := pre.1 21 42 _ (by kernel_rfl) rfl rfl
            clear pre
            simp only [Array.getD_eq_getD_getElem?] at e42
            have hS9 := hJ
            obtain ⟨l1, l2⟩ := hS9
            obtain ⟨c0, c1, c2, c3, c4, c5, c6, c7, c8⟩ := l1.space
            have q0 := keep_cell l2.1 HQ0.out
            go_simp
            exact hK _ hJ
          refine Vals9.Steps.run (by kernel_rfl) ?_ ?_
          · intro a W σ hJ pre K hK
            have e43 : a.tmps.getD 43 undef = .int .i64 x := pre.1 22 43 _ (by kernel_rfl) rfl rfl
            clear pre
            simp only [Array.getD_eq_getD_getElem?] at e43
            have g1 := HX1.out
            have g2 : decide (200 < x) = false := decide_eq_false (by omega)
            go_simp
            exact hK _ hJ
          refine Vals9.Steps.run (by kernel_rfl) ?_ ?_
          · intro a W σ hJ pre K hK
            have e39 : a.tmps.getD 39 undef = .bool false := pre.1 18 39 _ (by kernel_rfl) rfl rfl
            have e44 : a.tmps.getD 44 undef = .bool false := pre.1 23 44 _ (by kernel_rfl) rfl rfl
            clear pre
            simp only [Array.getD_eq_getD_getElem?] at e39 e44
            go_simp
            exact hK _ hJ
          exact Vals9.Steps.nil
        · intro Y σ hJ
          simp only [Vals9.All]
          simp only [Vals.putAll, List.setIfInBounds_toArray, List.set_cons_zero, List.set_cons_succ]
          obtain ⟨h1, h2⟩ := hJ
          have hsY := hsn.keep h2.1
          have HBY := Lib.hid h1
          have HQW : Hid (w.cell? (ad.add k) = some (.int .i64 x)) := HQW0
          clear h1 h2 HB hsn HQ0
          have hw9 : IntKind.i64.wrap ((k : Int) - 1) = ((k - 1 : Nat) : Int) := by rw [IntWalk.i64_in _ (by omega)]; omega
          obtain ⟨c0, c1, c2, c3, c4, c5, c6, c7, c8⟩ := HBY.out.space
          go_wp2_with fail
          refine (rise_c s m ((k - 1 : Nat) : Int) _ (by have := hs.nb; omega) (hsa.keep hsY.1)).mono ?_
          rintro e w7 ⟨rfl, hb7⟩
          have hs7 := hsY.keep hb7
          have HB7 := Lib.hid (HBY.out.keep hb7)
          have hwl7 := HB7.out.lt
          have HN8 := Lib.hid (Blk.new w7 23 #[.int .i64 0, .int .i64 0])
          have hs8 := hs7.alloc (.cells #[.int .i64 0, .int .i64 0] 23)
          have HB8 := Lib.hid (HB7.out.alloc (.cells #[.int .i64 0, .int .i64 0] 23))
          clear c0 c1 c2 c3 c4 c5 c6 c7 c8 HBY hsY HB7 hb7
          go_wp2_with (refine wpList_store_row rfl 23 _ _ rfl (w7.heap.size) _ rfl rfl 23 _ HN8.out (by kernel_rfl) rfl (by simp [Value.oneCell']) ?_)
          obtain ⟨r0, hr0⟩ : ∃ r0, (chg s ((k - 1 : Nat) : Int)).1 = r0 := ⟨_, rfl⟩
          obtain ⟨r1, hr1⟩ : ∃ r1, (chg s ((k - 1 : Nat) : Int)).2 = r1 := ⟨_, rfl⟩
          have hrr := HR.out (k - 1) (by omega)
          have hck := chg_ok hs ((k - 1 : Nat) : Int)
          have hyb := HBD.out (k - 1) (by omega)
          rw [show k - 1 + 1 = k by omega, HX.out] at hrr
          obtain ⟨y, hy⟩ : ∃ y, T (k - 1) = y := ⟨_, rfl⟩
          rw [hr0, hr1] at hrr hck ⊢
          rw [hy] at hrr hyb
          have HRR := Lib.hid hrr
          have HCK := Lib.hid hck
          have HYB := Lib.hid hyb
          obtain ⟨ad2, hA2, q1⟩ := hP.get (k := k - 1) (by simp; omega)
          obtain rfl : ad = ad2 := Option.some.inj hA2
          rw [show ((List.range n).map T)[k - 1]'(by simp; omega) = T (k - 1) by simp, hy] at q1
          have HQ1 := Lib.hid q1
          have HKM : Hid (((k - 1 : Nat) : Int) < (n : Int)) := by show _ < _; omega
          have HW9 := Lib.hid hw9
          have HN9 := Lib.hid (HN8.out.row #[.int .i64 r0, .int .i64 r1])
          have hs9 := hs8.row (g := w7.heap.size) hs7.2 #[.int .i64 r0, .int .i64 r1]
          have HB9 := Lib.hid (HB8.out.rowFar (g' := w7.heap.size) (by omega) #[.int .i64 r0, .int .i64 r1])
          clear hr0 hr1 hrr hck hyb hy q1 hA2 hw9 HN8 hs8 HB8
          obtain ⟨W8, hW8⟩ : ∃ W8, (w7.alloc (.cells #[.int .i64 0, .int .i64 0] 23)).setRow w7.heap.size #[.int .i64 r0, .int .i64 r1] = W8 := ⟨_, rfl⟩
          rw [hW8] at HN9 hs9 HB9 ⊢
          clear hW8
          refine Vals9.region (fun _ Z => Blk Z w7.heap.size 23 #[.int .i64 r0, .int .i64 r1] ∧ Since W8 Z) [some 52, some 53, some 54, some 55, some 56, some 57, some 58, some 59, some 60, some 61, some 62, some 63, some 64, some 65, some 66, some 67, some 68, some 69, some 70, some 71, some 11, some 12] [.is ?_, .is ?_, .is ?_, .is ?_, .is ?_, .is ?_, .is ?_, .is ?_, .is (.int .i64 (min 200 (y + r0))), .is (.int .i64 (hld (y + r0))), .is ?_, .is ?_, .is ?_, .is ?_, .is ?_, .is ?_, .is ?_, .is ?_, .is (.int .i64 (min 200 (y + r1))), .is (.int .i64 (hld (y + r1))), .is ?_, .is ?_] (by kernel_rfl) (by kernel_rfl) (by kernel_rfl) (by kernel_rfl) (by kernel_rfl) (by kernel_rfl) (⟨HN9.out.drew, (Since.refl W8).drew⟩) ?hsteps ?hfin
          case hsteps =>
            refine Vals9.Steps.run rfl ?_ ?_
            · intro a W σ hJ pre K hK
              have e2 := pre.2.2 2 _ (by kernel_rfl) rfl
              clear pre
              simp only [Array.getD_eq_getD_getElem?, List.getElem?_toArray, List.getElem?_cons_zero, List.getElem?_cons_succ, Option.getD_some] at e2
              go_simp
              exact hK _ hJ
            refine Vals9.Steps.run rfl ?_ ?_
            · intro a W σ hJ pre K hK
              have e9 := pre.2.2 9 _ (by kernel_rfl) rfl
              clear pre
              simp only [Array.getD_eq_getD_getElem?, List.getElem?_toArray, List.getElem?_cons_zero, List.getElem?_cons_succ, Option.getD_some] at e9
              go_simp
              exact hK _ hJ
            refine Vals9.Steps.run rfl ?_ ?_
            · intro a W σ hJ pre K hK
              have e53 := pre.1 1 53 _ (by kernel_rfl) rfl rfl
              clear pre
              simp only [Array.getD_eq_getD_getElem?, List.getElem?_toArray, List.getElem?_cons_zero, List.getElem?_cons_succ, Option.getD_some] at e53
              have hw9 := HW9.out
              go_simp
              exact hK _ hJ
            refine Vals9.Steps.run rfl ?_ ?_
            · intro a W σ hJ pre K hK
              have e52 := pre.1 0 52 _ (by kernel_rfl) rfl rfl
              have e54 := pre.1 2 54 _ (by kernel_rfl) rfl rfl
              clear pre
              simp only [Array.getD_eq_getD_getElem?, List.getElem?_toArray, List.getElem?_cons_zero, List.getElem?_cons_succ, Option.getD_some] at e52 e54
              have hki := HKM.out
              go_simp
              exact hK _ hJ
            refine Vals9.Steps.run rfl ?_ ?_
            · intro a W σ hJ pre K hK
              have e55 := pre.1 3 55 _ (by kernel_rfl) rfl rfl
              clear pre
              simp only [Array.getD_eq_getD_getElem?, List.getElem?_toArray, List.getElem?_cons_zero, List.getElem?_cons_succ, Option.getD_some] at e55
              have hS9 := hJ
              obtain ⟨l1, l2⟩ := hS9
              have z0 := l1.cell 0
              have z1 := l1.cell 1
              simp only [List.getElem?_toArray, List.getElem?_cons_zero, List.getElem?_cons_succ] at z0 z1
              have q1 := keep_cell (hs9.keep l2.1).1 HQ1.out
              go_simp
              exact hK _ hJ
            refine Vals9.Steps.run rfl ?_ ?_
            · intro a W σ hJ pre K hK
              have e10 := pre.2.2 10 _ (by kernel_rfl) rfl
              clear pre
              simp only [Array.getD_eq_getD_getElem?, List.getElem?_toArray, List.getElem?_cons_zero, List.getElem?_cons_succ, Option.getD_some] at e10
              go_simp
              exact hK _ hJ
            refine Vals9.Steps.run rfl ?_ ?_
            · intro a W σ hJ pre K hK
              have e57 := pre.1 5 57 _ (by kernel_rfl) rfl rfl
              clear pre
              simp only [Array.getD_eq_getD_getElem?, List.getElem?_toArray, List.getElem?_cons_zero, List.getElem?_cons_succ, Option.getD_some] at e57
              have hS9 := hJ
              obtain ⟨l1, l2⟩ := hS9
              have z0 := l1.cell 0
              have z1 := l1.cell 1
              simp only [List.getElem?_toArray, List.getElem?_cons_zero, List.getElem?_cons_succ] at z0 z1
              have q1 := keep_cell (hs9.keep l2.1).1 HQ1.out
              go_simp
              exact hK _ hJ
            refine Vals9.Steps.run rfl ?_ ?_
            · intro a W σ hJ pre K hK
              have e56 := pre.1 4 56 _ (by kernel_rfl) rfl rfl
              have e58 := pre.1 6 58 _ (by kernel_rfl) rfl rfl
              clear pre
              simp only [Array.getD_eq_getD_getElem?, List.getElem?_toArray, List.getElem?_cons_zero, List.getElem?_cons_succ, Option.getD_some] at e56 e58
              have hb1 := HYB.out
              have hb2 := HCK.out
              have hw9 : IntKind.i64.wrap (y + r0) = y + r0 := IntWalk.i64_in _ (by omega)
              go_simp
              exact hK _ hJ
            refine Vals9.Steps.run rfl ?_ ?_
            · intro a W σ hJ pre K hK
              have e59 := pre.1 7 59 _ (by kernel_rfl) rfl rfl
              clear pre
              simp only [Array.getD_eq_getD_getElem?, List.getElem?_toArray, List.getElem?_cons_zero, List.getElem?_cons_succ, Option.getD_some] at e59
              go_simp
              rw [min_if]
              exact hK _ hJ
            refine Vals9.Steps.run rfl ?_ ?_
            · intro a W σ hJ pre K hK
              have e60 := pre.1 8 60 _ (by kernel_rfl) rfl rfl
              clear pre
              simp only [Array.getD_eq_getD_getElem?, List.getElem?_toArray, List.getElem?_cons_zero, List.getElem?_cons_succ, Option.getD_some] at e60
              go_simp
              rw [hld_if]
              exact hK _ hJ
            refine Vals9.Steps.run rfl ?_ ?_
            · intro a W σ hJ pre K hK
              have e2 := pre.2.2 2 _ (by kernel_rfl) rfl
              clear pre
              simp only [Array.getD_eq_getD_getElem?, List.getElem?_toArray, List.getElem?_cons_zero, List.getElem?_cons_succ, Option.getD_some] at e2
              go_simp
              exact hK _ hJ
            refine Vals9.Steps.run rfl ?_ ?_
            · intro a W σ hJ pre K hK
              have e9 := pre.2.2 9 _ (by kernel_rfl) rfl
              clear pre
              simp only [Array.getD_eq_getD_getElem?, List.getElem?_toArray, List.getElem?_cons_zero, List.getElem?_cons_succ, Option.getD_some] at e9
              go_simp
              exact hK _ hJ
            refine Vals9.Steps.run rfl ?_ ?_
            · intro a W σ hJ pre K hK
              have e63 := pre.1 11 63 _ (by kernel_rfl) rfl rfl
              clear pre
              simp only [Array.getD_eq_getD_getElem?, List.getElem?_toArray, List.getElem?_cons_zero, List.getElem?_cons_succ, Option.getD_some] at e63
              have hw9 := HW9.out
              go_simp
              exact hK _ hJ
            refine Vals9.Steps.run rfl ?_ ?_
            · intro a W σ hJ pre K hK
              have e62 := pre.1 10 62 _ (by kernel_rfl) rfl rfl
              have e64 := pre.1 12 64 _ (by kernel_rfl) rfl rfl
              clear pre
              simp only [Array.getD_eq_getD_getElem?, List.getElem?_toArray, List.getElem?_cons_zero, List.getElem?_cons_succ, Option.getD_some] at e62 e64
              have hki := HKM.out
              go_simp
              exact hK _ hJ
            refine Vals9.Steps.run rfl ?_ ?_
            · intro a W σ hJ pre K hK
              have e65 := pre.1 13 65 _ (by kernel_rfl) rfl rfl
              clear pre
              simp only [Array.getD_eq_getD_getElem?, List.getElem?_toArray, List.getElem?_cons_zero, List.getElem?_cons_succ, Option.getD_some] at e65
              have hS9 := hJ
              obtain ⟨l1, l2⟩ := hS9
              have z0 := l1.cell 0
              have z1 := l1.cell 1
              simp only [List.getElem?_toArray, List.getElem?_cons_zero, List.getElem?_cons_succ] at z0 z1
              have q1 := keep_cell (hs9.keep l2.1).1 HQ1.out
              go_simp
              exact hK _ hJ
            refine Vals9.Steps.run rfl ?_ ?_
            · intro a W σ hJ pre K hK
              have e10 := pre.2.2 10 _ (by kernel_rfl) rfl
              clear pre
              simp only [Array.getD_eq_getD_getElem?, List.getElem?_toArray, List.getElem?_cons_zero, List.getElem?_cons_succ, Option.getD_some] at e10
              go_simp
              exact hK _ hJ
            refine Vals9.Steps.run rfl ?_ ?_
            · intro a W σ hJ pre K hK
              have e67 := pre.1 15 67 _ (by kernel_rfl) rfl rfl
              clear pre
              simp only [Array.getD_eq_getD_getElem?, List.getElem?_toArray, List.getElem?_cons_zero, List.getElem?_cons_succ, Option.getD_some] at e67
              have hS9 := hJ
              obtain ⟨l1, l2⟩ := hS9
              have z0 := l1.cell 0
              have z1 := l1.cell 1
              simp only [List.getElem?_toArray, List.getElem?_cons_zero, List.getElem?_cons_succ] at z0 z1
              have q1 := keep_cell (hs9.keep l2.1).1 HQ1.out
              go_simp
              exact hK _ hJ
            refine Vals9.Steps.run rfl ?_ ?_
            · intro a W σ hJ pre K hK
              have e66 := pre.1 14 66 _ (by kernel_rfl) rfl rfl
              have e68 := pre.1 16 68 _ (by kernel_rfl) rfl rfl
              clear pre
              simp only [Array.getD_eq_getD_getElem?, List.getElem?_toArray, List.getElem?_cons_zero, List.getElem?_cons_succ, Option.getD_some] at e66 e68
              have hb1 := HYB.out
              have hb2 := HCK.out
              have hw9 : IntKind.i64.wrap (y + r1) = y + r1 := IntWalk.i64_in _ (by omega)
              go_simp
              exact hK _ hJ
            refine Vals9.Steps.run rfl ?_ ?_
            · intro a W σ hJ pre K hK
              have e69 := pre.1 17 69 _ (by kernel_rfl) rfl rfl
              clear pre
              simp only [Array.getD_eq_getD_getElem?, List.getElem?_toArray, List.getElem?_cons_zero, List.getElem?_cons_succ, Option.getD_some] at e69
              go_simp
              rw [min_if]
              exact hK _ hJ
            refine Vals9.Steps.run rfl ?_ ?_
            · intro a W σ hJ pre K hK
              have e70 := pre.1 18 70 _ (by kernel_rfl) rfl rfl
              clear pre
              simp only [Array.getD_eq_getD_getElem?, List.getElem?_toArray, List.getElem?_cons_zero, List.getElem?_cons_succ, Option.getD_some] at e70
              go_simp
              rw [hld_if]
              exact hK _ hJ
            refine Vals9.Steps.run rfl ?_ ?_
            · intro a W σ hJ pre K hK
              have e61 := pre.1 9 61 _ (by kernel_rfl) rfl rfl
              clear pre
              simp only [Array.getD_eq_getD_getElem?, List.getElem?_toArray, List.getElem?_cons_zero, List.getElem?_cons_succ, Option.getD_some] at e61
              go_simp
              exact hK _ hJ
            refine Vals9.Steps.run rfl ?_ ?_
            · intro a W σ hJ pre K hK
              have e71 := pre.1 19 71 _ (by kernel_rfl) rfl rfl
              clear pre
              simp only [Array.getD_eq_getD_getElem?, List.getElem?_toArray, List.getElem?_cons_zero, List.getElem?_cons_succ, Option.getD_some] at e71
              go_simp
              exact hK _ hJ
            exact Vals9.Steps.nil
          case hfin =>
            intro Y8 σ8 hJ8
            simp only [Vals9.All]
            simp only [Vals.putAll, List.setIfInBounds_toArray, List.set_cons_zero, List.set_cons_succ]
            have hsY := hs9.keep hJ8.2.1
            have HBY := Lib.hid (HB9.out.keep hJ8.2.1)
            have q0 := keep_cell hsY.1 HQW0.out
            have hg1 : ¬ x < hld (y + r0) := by have := HRR.out.1; omega
            have hg2 : ¬ hld (y + r1) < x := by have := HRR.out.2; omega
            clear hJ8 HN9 HB9 hs9
            obtain ⟨dummy, _⟩ : ∃ z : Nat, z = 0 := ⟨0, rfl⟩
            go_wp2_with fail
            go_loopw [13, 14] (fun i _ WI => ∃ j : Nat, j ≤ l.length ∧ i = .int .i64 j ∧ Since w WI ∧ Hid (Blk WI w.heap.size 27 (sV s m))) (fun i _ _ => l.length - (intOf i).toNat)
            case atStart => exact ⟨0, Nat.zero_le _, rfl, hsY, HBY⟩
            case round =>
              obtain ⟨j, hj, rfl, hsi, HBI⟩ := hrel
              by_cases hjl : j < l.length
              · obtain ⟨ae, hA, e0, e1, e2⟩ := hrd.get hjl
                subst hA
                have hro := HRO.out _ (List.getElem_mem hjl)
                have hne := HNE.out _ (List.getElem_mem hjl)
                obtain ⟨r, hr⟩ : ∃ r, l[j] = r := ⟨_, rfl⟩
                rw [hr] at e0 e1 e2 hro hne
                obtain ⟨mn, tli, sh⟩ := r
                obtain ⟨tl, rfl⟩ : ∃ tl : Nat, tli = (tl : Int) := ⟨tli.toNat, by have := hro.t0; dsimp only at this; omega⟩
                have htl : tl < s.tools.length := by have := hro.t1; dsimp only at this; omega
                obtain ⟨at', hT, _, ee⟩ := hsa.tl.get htl
                obtain ⟨er, her⟩ : ∃ er, s.tools[tl].err = er := ⟨_, rfl⟩
                have heb := hs.er _ (List.getElem_mem htl)
                rw [her] at ee heb
                have HEB : Hid (0 ≤ er ∧ er ≤ 50) := heb
                have hEO : errOf s ⟨mn, (tl : Int), sh⟩ = er := by simp [errOf, List.getElem?_eq_getElem htl, her]
                have HNR : Hid (mn = (k : Int) → (k : Int) ≤ known → wi (x - er) (x + er) sh = true) := fun h1 h2 => by
                  have := hne (by dsimp only; omega) (by dsimp only; omega)
                  unfold near at this
                  rw [hEO] at this
                  dsimp only at this
                  rw [h1, Int.toNat_natCast, HX.out] at this
                  exact wi_iff.2 (by omega)
                have HTA := Lib.hid hT
                have HE0 := Lib.hid (keep_cell hsi.1 e0)
                have HE1 := Lib.hid (keep_cell hsi.1 e1)
                have HE2 := Lib.hid (keep_cell hsi.1 e2)
                have HEE := Lib.hid (keep_cell hsi.1 ee)
                have HQI := Lib.hid (keep_cell hsi.1 HQW.out)
                have HJI : Hid ((j : Int) < (l.length : Int)) := by show _ < _; omega
                clear e0 e1 e2 ee hr hro hne heb hEO her hT
                have hji := HJI.out
                have HTL : Hid ((tl : Int) < (s.tools.length : Int)) := by show _ < _; omega
                go_wp2_with fail
                refine Vals9.region (fun _ Z => Blk Z (w.heap.size) 27 (sV s m) ∧ Since wr Z) [some 92, some 93, some 94, some 95, some 96, some 97, some 98, some 99, some 100, some 101, some 14] [.is ?_, .is ?_, .is ?_, .is ?_, .is ?_, .is ?_, .is ?_, .is ?_, .is ?_, .is ?_, .is ?_] (by kernel_rfl) (by kernel_rfl) (by kernel_rfl) (by kernel_rfl) (by kernel_rfl) (by kernel_rfl) (⟨HBI.out.drew, (Since.refl wr).drew⟩) ?hsteps ?hfin
                case hsteps =>
                  refine Vals9.Steps.run rfl ?_ ?_
                  · intro a W σ hJ pre K hK
                    have e4 := pre.2.2 4 _ (by kernel_rfl) rfl
                    clear pre
                    simp only [Array.getD_eq_getD_getElem?, List.getElem?_toArray, List.getElem?_cons_zero, List.getElem?_cons_succ, Option.getD_some] at e4
                    go_simp
                    exact hK _ hJ
                  refine Vals9.Steps.run rfl ?_ ?_
                  · intro a W σ hJ pre K hK
                    have e92 := pre.1 0 92 _ (by kernel_rfl) rfl rfl
                    clear pre
                    simp only [Array.getD_eq_getD_getElem?, List.getElem?_toArray, List.getElem?_cons_zero, List.getElem?_cons_succ, Option.getD_some] at e92
                    have hS9 := hJ
                    obtain ⟨l1, l2⟩ := hS9
                    obtain ⟨_, _, _, _, _, _, _, _, c8⟩ := l1.space
                    rw [HTA.out] at c8
                    have y1 := keep_cell l2.1 HE1.out
                    have ye := keep_cell l2.1 HEE.out
                    go_simp
                    exact hK _ hJ
                  refine Vals9.Steps.run rfl ?_ ?_
                  · intro a W σ hJ pre K hK
                    have e1 := pre.2.2 1 _ (by kernel_rfl) rfl
                    clear pre
                    simp only [Array.getD_eq_getD_getElem?, List.getElem?_toArray, List.getElem?_cons_zero, List.getElem?_cons_succ, Option.getD_some] at e1
                    go_simp
                    exact hK _ hJ
                  refine Vals9.Steps.run rfl ?_ ?_
                  · intro a W σ hJ pre K hK
                    have e13 := pre.2.2 13 _ (by kernel_rfl) rfl
                    clear pre
                    simp only [Array.getD_eq_getD_getElem?, List.getElem?_toArray, List.getElem?_cons_zero, List.getElem?_cons_succ, Option.getD_some] at e13
                    go_simp
                    exact hK _ hJ
                  refine Vals9.Steps.run rfl ?_ ?_
                  · intro a W σ hJ pre K hK
                    have e94 := pre.1 2 94 _ (by kernel_rfl) rfl rfl
                    have e95 := pre.1 3 95 _ (by kernel_rfl) rfl rfl
                    clear pre
                    simp only [Array.getD_eq_getD_getElem?, List.getElem?_toArray, List.getElem?_cons_zero, List.getElem?_cons_succ, Option.getD_some] at e94 e95
                    have hji := HJI.out
                    go_simp
                    exact hK _ hJ
                  refine Vals9.Steps.run rfl ?_ ?_
                  · intro a W σ hJ pre K hK
                    have e96 := pre.1 4 96 _ (by kernel_rfl) rfl rfl
                    clear pre
                    simp only [Array.getD_eq_getD_getElem?, List.getElem?_toArray, List.getElem?_cons_zero, List.getElem?_cons_succ, Option.getD_some] at e96
                    go_simp
                    exact hK _ hJ
                  refine Vals9.Steps.run rfl ?_ ?_
                  · intro a W σ hJ pre K hK
                    have e97 := pre.1 5 97 _ (by kernel_rfl) rfl rfl
                    clear pre
                    simp only [Array.getD_eq_getD_getElem?, List.getElem?_toArray, List.getElem?_cons_zero, List.getElem?_cons_succ, Option.getD_some] at e97
                    have hS9 := hJ
                    obtain ⟨l1, l2⟩ := hS9
                    obtain ⟨_, _, _, _, _, _, _, _, c8⟩ := l1.space
                    rw [HTA.out] at c8
                    have y1 := keep_cell l2.1 HE1.out
                    have ye := keep_cell l2.1 HEE.out
                    go_simp
                    exact hK _ hJ
                  refine Vals9.Steps.run rfl ?_ ?_
                  · intro a W σ hJ pre K hK
                    have e93 := pre.1 1 93 _ (by kernel_rfl) rfl rfl
                    have e98 := pre.1 6 98 _ (by kernel_rfl) rfl rfl
                    clear pre
                    simp only [Array.getD_eq_getD_getElem?, List.getElem?_toArray, List.getElem?_cons_zero, List.getElem?_cons_succ, Option.getD_some] at e93 e98
                    have htli := HTL.out
                    go_simp
                    exact hK _ hJ
                  refine Vals9.Steps.run rfl ?_ ?_
                  · intro a W σ hJ pre K hK
                    have e99 := pre.1 7 99 _ (by kernel_rfl) rfl rfl
                    clear pre
                    simp only [Array.getD_eq_getD_getElem?, List.getElem?_toArray, List.getElem?_cons_zero, List.getElem?_cons_succ, Option.getD_some] at e99
                    go_simp
                    exact hK _ hJ
                  refine Vals9.Steps.run rfl ?_ ?_
                  · intro a W σ hJ pre K hK
                    have e100 := pre.1 8 100 _ (by kernel_rfl) rfl rfl
                    clear pre
                    simp only [Array.getD_eq_getD_getElem?, List.getElem?_toArray, List.getElem?_cons_zero, List.getElem?_cons_succ, Option.getD_some] at e100
                    have hS9 := hJ
                    obtain ⟨l1, l2⟩ := hS9
                    obtain ⟨_, _, _, _, _, _, _, _, c8⟩ := l1.space
                    rw [HTA.out] at c8
                    have y1 := keep_cell l2.1 HE1.out
                    have ye := keep_cell l2.1 HEE.out
                    go_simp
                    exact hK _ hJ
                  refine Vals9.Steps.run rfl ?_ ?_
                  · intro a W σ hJ pre K hK
                    have e101 := pre.1 9 101 _ (by kernel_rfl) rfl rfl
                    clear pre
                    simp only [Array.getD_eq_getD_getElem?, List.getElem?_toArray, List.getElem?_cons_zero, List.getElem?_cons_succ, Option.getD_some] at e101
                    go_simp
                    exact hK _ hJ
                  exact Vals9.Steps.nil
                case hfin =>
                intro WJ σJ hJ
                simp only [Vals9.All]
                simp only [Vals.putAll, List.setIfInBounds_toArray, List.set_cons_zero, List.set_cons_succ]
                have HBI := Lib.hid hJ.1
                have hsi := hsi.keep hJ.2.1
                have HE0 := Lib.hid (keep_cell hJ.2.1 HE0.out)
                have HE2 := Lib.hid (keep_cell hJ.2.1 HE2.out)
                have HQI := Lib.hid (keep_cell hJ.2.1 HQI.out)
                clear hJ
                go_wp2_with fail
                by_cases hmk : mn = (k : Int)
                · have HMK := Lib.hid hmk
                  by_cases hkk : (k : Int) ≤ known
                  · have HKK := Lib.hid hkk
                    have HIN2 := Lib.hid (HNR.out hmk hkk)
                    clear hmk hkk
                    refine Vals9.region (fun _ Z => Since WJ Z) [some 102, some 103, some 104, some 105, some 106, some 107, some 108, some 109, some 110, some 111, some 112, some 113, some 114, some 115, some 116, some 117, some 118, some 119, some 120, some 121, some 122, some 123, some 124, some 125, some 126, some 127, some 128, some 129, some 130, some 131, some 132, some 133, some 134, some 135] [.is (.slice (some ae) l.length c), .is (.int .i64 (j : Int)), .is (.pointer (some (ae.add (j * 3)))), .is (.pointer (some (ae.add (j * 3)))), .is (.int .i64 mn), .is (.int .i64 (k : Int)), .is (.bool true), .is (.bool true), .is (.int .i64 (k : Int)), .is (.int .i64 known), .is (.bool true), .is (.bool true), .is (.bool true), .is (.slice (some ae) l.length c), .is (.int .i64 (j : Int)), .is (.pointer (some (ae.add (j * 3)))), .is (.pointer (some (at_ (ae.add (j * 3)) 2))), .is (.int .i64 sh), .is (.slice (some ad) n pc), .is (.int .i64 (k : Int)), .is (.pointer (some (ad.add k))), .is (.int .i64 x), .is (.int .i64 er), .is (.int .i64 (x - er)), .is (.slice (some ad) n pc), .is (.int .i64 (k : Int)), .is (.pointer (some (ad.add k))), .is (.int .i64 x), .is (.int .i64 er), .is (.int .i64 (x + er)), .is (.agg #[.int .i64 (x - er), .int .i64 (x + er)]), .is (.bool true), .is (.bool false), .is (.bool false)] (by kernel_rfl) (by kernel_rfl) (by kernel_rfl) (by kernel_rfl) (by kernel_rfl) (by kernel_rfl) ((Since.refl WJ).drew) ?_ ?_
                    · refine Vals9.Steps.run (by kernel_rfl) ?_ ?_
                      · intro a W σ hJ pre K hK
                        have e1 : a.tmps.getD 1 undef = .slice (some ae) l.length c := pre.2.2 1 _ (by kernel_rfl) rfl
                        clear pre
                        simp only [Array.getD_eq_getD_getElem?] at e1
                        go_simp
                        exact hK _ hJ
                      refine Vals9.Steps.run (by kernel_rfl) ?_ ?_
                      · intro a W σ hJ pre K hK
                        have e13 : a.tmps.getD 13 undef = .int .i64 (j : Int) := pre.2.2 13 _ (by kernel_rfl) rfl
                        clear pre
                        simp only [Array.getD_eq_getD_getElem?] at e13
                        go_simp
                        exact hK _ hJ
                      refine Vals9.Steps.run (by kernel_rfl) ?_ ?_
                      · intro a W σ hJ pre K hK
                        have e102 : a.tmps.getD 102 undef = .slice (some ae) l.length c := pre.1 0 102 _ (by kernel_rfl) rfl rfl
                        have e103 : a.tmps.getD 103 undef = .int .i64 (j : Int) := pre.1 1 103 _ (by kernel_rfl) rfl rfl
                        clear pre
                        simp only [Array.getD_eq_getD_getElem?] at e102 e103
                        have hji := HJI.out
                        go_simp
                        exact hK _ hJ
                      refine Vals9.Steps.run (by kernel_rfl) ?_ ?_
                      · intro a W σ hJ pre K hK
                        have e104 : a.tmps.getD 104 undef = .pointer (some (ae.add (j * 3))) := pre.1 2 104 _ (by kernel_rfl) rfl rfl
                        clear pre
                        simp only [Array.getD_eq_getD_getElem?] at e104
                        go_simp
                        exact hK _ hJ
                      refine Vals9.Steps.run (by kernel_rfl) ?_ ?_
                      · intro a W σ hJ pre K hK
                        have e105 : a.tmps.getD 105 undef = .pointer (some (ae.add (j * 3))) := pre.1 3 105 _ (by kernel_rfl) rfl rfl
                        clear pre
                        simp only [Array.getD_eq_getD_getElem?] at e105
                        have hS9 := hJ
                        have y0 := keep_cell hS9.1 HE0.out
                        have y2 := keep_cell hS9.1 HE2.out
                        have q0 := keep_cell hS9.1 HQI.out
                        go_simp
                        exact hK _ hJ
                      refine Vals9.Steps.run (by kernel_rfl) ?_ ?_
                      · intro a W σ hJ pre K hK
                        have e9 : a.tmps.getD 9 undef = .int .i64 (k : Int) := pre.2.2 9 _ (by kernel_rfl) rfl
                        clear pre
                        simp only [Array.getD_eq_getD_getElem?] at e9
                        go_simp
                        exact hK _ hJ
                      refine Vals9.Steps.run (by kernel_rfl) ?_ ?_
                      · intro a W σ hJ pre K hK
                        have e106 : a.tmps.getD 106 undef = .int .i64 mn := pre.1 4 106 _ (by kernel_rfl) rfl rfl
                        have e107 : a.tmps.getD 107 undef = .int .i64 (k : Int) := pre.1 5 107 _ (by kernel_rfl) rfl rfl
                        clear pre
                        simp only [Array.getD_eq_getD_getElem?] at e106 e107
                        have g0 : (mn == (k : Int)) = true := by have := HMK.out; simpa using this
                        go_simp
                        exact hK _ hJ
                      refine Vals9.Steps.run (by kernel_rfl) ?_ ?_
                      · intro a W σ hJ pre K hK
                        have e108 : a.tmps.getD 108 undef = .bool true := pre.1 6 108 _ (by kernel_rfl) rfl rfl
                        clear pre
                        simp only [Array.getD_eq_getD_getElem?] at e108
                        go_simp
                        exact hK _ hJ
                      refine Vals9.Steps.run (by kernel_rfl) ?_ ?_
                      · intro a W σ hJ pre K hK
                        have e9 : a.tmps.getD 9 undef = .int .i64 (k : Int) := pre.2.2 9 _ (by kernel_rfl) rfl
                        clear pre
                        simp only [Array.getD_eq_getD_getElem?] at e9
                        go_simp
                        exact hK _ hJ
                      refine Vals9.Steps.run (by kernel_rfl) ?_ ?_
                      · intro a W σ hJ pre K hK
                        have e3 : a.tmps.getD 3 undef = .int .i64 known := pre.2.2 3 _ (by kernel_rfl) rfl
                        clear pre
                        simp only [Array.getD_eq_getD_getElem?] at e3
                        go_simp
                        exact hK _ hJ
                      refine Vals9.Steps.run (by kernel_rfl) ?_ ?_
                      · intro a W σ hJ pre K hK
                        have e110 : a.tmps.getD 110 undef = .int .i64 (k : Int) := pre.1 8 110 _ (by kernel_rfl) rfl rfl
                        have e111 : a.tmps.getD 111 undef = .int .i64 known := pre.1 9 111 _ (by kernel_rfl) rfl rfl
                        clear pre
                        simp only [Array.getD_eq_getD_getElem?] at e110 e111
                        have g0 : decide ((k : Int) ≤ known) = true := by have := HKK.out; simpa using this
                        go_simp
                        exact hK _ hJ
                      refine Vals9.Steps.run (by kernel_rfl) ?_ ?_
                      · intro a W σ hJ pre K hK
                        have e109 : a.tmps.getD 109 undef = .bool true := pre.1 7 109 _ (by kernel_rfl) rfl rfl
                        have e112 : a.tmps.getD 112 undef = .bool true := pre.1 10 112 _ (by kernel_rfl) rfl rfl
                        clear pre
                        simp only [Array.getD_eq_getD_getElem?] at e109 e112
                        go_simp
                        exact hK _ hJ
                      refine Vals9.Steps.run (by kernel_rfl) ?_ ?_
                      · intro a W σ hJ pre K hK
                        have e113 : a.tmps.getD 113 undef = .bool true := pre.1 11 113 _ (by kernel_rfl) rfl rfl
                        clear pre
                        simp only [Array.getD_eq_getD_getElem?] at e113
                        go_simp
                        exact hK _ hJ
                      refine Vals9.Steps.run (by kernel_rfl) ?_ ?_
                      · intro a W σ hJ pre K hK
                        have e1 : a.tmps.getD 1 undef = .slice (some ae) l.length c := pre.2.2 1 _ (by kernel_rfl) rfl
                        clear pre
                        simp only [Array.getD_eq_getD_getElem?] at e1
                        go_simp
                        exact hK _ hJ
                      refine Vals9.Steps.run (by kernel_rfl) ?_ ?_
                      · intro a W σ hJ pre K hK
                        have e13 : a.tmps.getD 13 undef = .int .i64 (j : Int) := pre.2.2 13 _ (by kernel_rfl) rfl
                        clear pre
                        simp only [Array.getD_eq_getD_getElem?] at e13
                        go_simp
                        exact hK _ hJ
                      refine Vals9.Steps.run (by kernel_rfl) ?_ ?_
                      · intro a W σ hJ pre K hK
                        have e115 : a.tmps.getD 115 undef = .slice (some ae) l.length c := pre.1 13 115 _ (by kernel_rfl) rfl rfl
                        have e116 : a.tmps.getD 116 undef = .int .i64 (j : Int) := pre.1 14 116 _ (by kernel_rfl) rfl rfl
                        clear pre
                        simp only [Array.getD_eq_getD_getElem?] at e115 e116
                        have hji := HJI.out
                        go_simp
                        exact hK _ hJ
                      refine Vals9.Steps.run (by kernel_rfl) ?_ ?_
                      · intro a W σ hJ pre K hK
                        have e117 : a.tmps.getD 117 undef = .pointer (some (ae.add (j * 3))) := pre.1 15 117 _ (by kernel_rfl) rfl rfl
                        clear pre
                        simp only [Array.getD_eq_getD_getElem?] at e117
                        go_simp
                        exact hK _ hJ
                      refine Vals9.Steps.run (by kernel_rfl) ?_ ?_
                      · intro a W σ hJ pre K hK
                        have e118 : a.tmps.getD 118 undef = .pointer (some (at_ (ae.add (j * 3)) 2)) := pre.1 16 118 _ (by kernel_rfl) rfl rfl
                        clear pre
                        simp only [Array.getD_eq_getD_getElem?] at e118
                        have hS9 := hJ
                        have y0 := keep_cell hS9.1 HE0.out
                        have y2 := keep_cell hS9.1 HE2.out
                        have q0 := keep_cell hS9.1 HQI.out
                        go_simp
                        exact hK _ hJ
                      refine Vals9.Steps.run (by kernel_rfl) ?_ ?_
                      · intro a W σ hJ pre K hK
                        have e2 : a.tmps.getD 2 undef = .slice (some ad) n pc := pre.2.2 2 _ (by kernel_rfl) rfl
                        clear pre
                        simp only [Array.getD_eq_getD_getElem?] at e2
                        go_simp
                        exact hK _ hJ
                      refine Vals9.Steps.run (by kernel_rfl) ?_ ?_
                      · intro a W σ hJ pre K hK
                        have e9 : a.tmps.getD 9 undef = .int .i64 (k : Int) := pre.2.2 9 _ (by kernel_rfl) rfl
                        clear pre
                        simp only [Array.getD_eq_getD_getElem?] at e9
                        go_simp
                        exact hK _ hJ
                      refine Vals9.Steps.run (by kernel_rfl) ?_ ?_
                      · intro a W σ hJ pre K hK
                        have e120 : a.tmps.getD 120 undef = .slice (some ad) n pc := pre.1 18 120 _ (by kernel_rfl) rfl rfl
                        have e121 : a.tmps.getD 121 undef = .int .i64 (k : Int) := pre.1 19 121 _ (by kernel_rfl) rfl rfl
                        clear pre
                        simp only [Array.getD_eq_getD_getElem?] at e120 e121
                        have hki := HKI.out
                        go_simp
                        exact hK _ hJ
                      refine Vals9.Steps.run (by kernel_rfl) ?_ ?_
                      · intro a W σ hJ pre K hK
                        have e122 : a.tmps.getD 122 undef = .pointer (some (ad.add k)) := pre.1 20 122 _ (by kernel_rfl) rfl rfl
                        clear pre
                        simp only [Array.getD_eq_getD_getElem?] at e122
                        have hS9 := hJ
                        have y0 := keep_cell hS9.1 HE0.out
                        have y2 := keep_cell hS9.1 HE2.out
                        have q0 := keep_cell hS9.1 HQI.out
                        go_simp
                        exact hK _ hJ
                      refine Vals9.Steps.run (by kernel_rfl) ?_ ?_
                      · intro a W σ hJ pre K hK
                        have e14 : a.tmps.getD 14 undef = .int .i64 er := pre.2.2 14 _ (by kernel_rfl) rfl
                        clear pre
                        simp only [Array.getD_eq_getD_getElem?] at e14
                        go_simp
                        exact hK _ hJ
                      refine Vals9.Steps.run (by kernel_rfl) ?_ ?_
                      · intro a W σ hJ pre K hK
                        have e123 : a.tmps.getD 123 undef = .int .i64 x := pre.1 21 123 _ (by kernel_rfl) rfl rfl
                        have e124 : a.tmps.getD 124 undef = .int .i64 er := pre.1 22 124 _ (by kernel_rfl) rfl rfl
                        clear pre
                        simp only [Array.getD_eq_getD_getElem?] at e123 e124
                        have hb1 := HX0.out
                        have hb2 := HX1.out
                        have hb3 := HEB.out
                        have hw9 : IntKind.i64.wrap (x - er) = x - er := IntWalk.i64_in _ (by omega)
                        go_simp
                        exact hK _ hJ
                      refine Vals9.Steps.run (by kernel_rfl) ?_ ?_
                      · intro a W σ hJ pre K hK
                        have e2 : a.tmps.getD 2 undef = .slice (some ad) n pc := pre.2.2 2 _ (by kernel_rfl) rfl
                        clear pre
                        simp only [Array.getD_eq_getD_getElem?] at e2
                        go_simp
                        exact hK _ hJ
                      refine Vals9.Steps.run (by kernel_rfl) ?_ ?_
                      · intro a W σ hJ pre K hK
                        have e9 : a.tmps.getD 9 undef = .int .i64 (k : Int) := pre.2.2 9 _ (by kernel_rfl) rfl
                        clear pre
                        simp only [Array.getD_eq_getD_getElem?] at e9
                        go_simp
                        exact hK _ hJ
                      refine Vals9.Steps.run (by kernel_rfl) ?_ ?_
                      · intro a W σ hJ pre K hK
                        have e126 : a.tmps.getD 126 undef = .slice (some ad) n pc := pre.1 24 126 _ (by kernel_rfl) rfl rfl
                        have e127 : a.tmps.getD 127 undef = .int .i64 (k : Int) := pre.1 25 127 _ (by kernel_rfl) rfl rfl
                        clear pre
                        simp only [Array.getD_eq_getD_getElem?] at e126 e127
                        have hki := HKI.out
                        go_simp
                        exact hK _ hJ
                      refine Vals9.Steps.run (by kernel_rfl) ?_ ?_
                      · intro a W σ hJ pre K hK
                        have e128 : a.tmps.getD 128 undef = .pointer (some (ad.add k)) := pre.1 26 128 _ (by kernel_rfl) rfl rfl
                        clear pre
                        simp only [Array.getD_eq_getD_getElem?] at e128
                        have hS9 := hJ
                        have y0 := keep_cell hS9.1 HE0.out
                        have y2 := keep_cell hS9.1 HE2.out
                        have q0 := keep_cell hS9.1 HQI.out
                        go_simp
                        exact hK _ hJ
                      refine Vals9.Steps.run (by kernel_rfl) ?_ ?_
                      · intro a W σ hJ pre K hK
                        have e14 : a.tmps.getD 14 undef = .int .i64 er := pre.2.2 14 _ (by kernel_rfl) rfl
                        clear pre
                        simp only [Array.getD_eq_getD_getElem?] at e14
                        go_simp
                        exact hK _ hJ
                      refine Vals9.Steps.run (by kernel_rfl) ?_ ?_
                      · intro a W σ hJ pre K hK
                        have e129 : a.tmps.getD 129 undef = .int .i64 x := pre.1 27 129 _ (by kernel_rfl) rfl rfl
                        have e130 : a.tmps.getD 130 undef = .int .i64 er := pre.1 28 130 _ (by kernel_rfl) rfl rfl
                        clear pre
                        simp only [Array.getD_eq_getD_getElem?] at e129 e130
                        have hb1 := HX0.out
                        have hb2 := HX1.out
                        have hb3 := HEB.out
                        have hw9 : IntKind.i64.wrap (x + er) = x + er := IntWalk.i64_in _ (by omega)
                        go_simp
                        exact hK _ hJ
                      refine Vals9.Steps.run (by kernel_rfl) ?_ ?_
                      · intro a W σ hJ pre K hK
                        have e125 : a.tmps.getD 125 undef = .int .i64 (x - er) := pre.1 23 125 _ (by kernel_rfl) rfl rfl
                        have e131 : a.tmps.getD 131 undef = .int .i64 (x + er) := pre.1 29 131 _ (by kernel_rfl) rfl rfl
                        clear pre
                        simp only [Array.getD_eq_getD_getElem?] at e125 e131
                        go_simp
                        refine (span_c (x - er) (x + er) _).mono ?_
                        rintro e w' ⟨rfl, hb'⟩
                        exact hK _ (hJ.keep hb')
                      refine Vals9.Steps.run (by kernel_rfl) ?_ ?_
                      · intro a W σ hJ pre K hK
                        have e119 : a.tmps.getD 119 undef = .int .i64 sh := pre.1 17 119 _ (by kernel_rfl) rfl rfl
                        have e132 : a.tmps.getD 132 undef = .agg #[.int .i64 (x - er), .int .i64 (x + er)] := pre.1 30 132 _ (by kernel_rfl) rfl rfl
                        clear pre
                        simp only [Array.getD_eq_getD_getElem?] at e119 e132
                        go_simp
                        refine (inside_c sh (x - er, x + er) _).mono ?_
                        rintro e w' ⟨rfl, hb'⟩
                        have hin := HIN2.out
                        dsimp only
                        rw [hin]
                        exact hK _ (hJ.keep hb')
                      refine Vals9.Steps.run (by kernel_rfl) ?_ ?_
                      · intro a W σ hJ pre K hK
                        have e133 : a.tmps.getD 133 undef = .bool true := pre.1 31 133 _ (by kernel_rfl) rfl rfl
                        clear pre
                        simp only [Array.getD_eq_getD_getElem?] at e133
                        go_simp
                        exact hK _ hJ
                      refine Vals9.Steps.run (by kernel_rfl) ?_ ?_
                      · intro a W σ hJ pre K hK
                        have e114 : a.tmps.getD 114 undef = .bool true := pre.1 12 114 _ (by kernel_rfl) rfl rfl
                        have e134 : a.tmps.getD 134 undef = .bool false := pre.1 32 134 _ (by kernel_rfl) rfl rfl
                        clear pre
                        simp only [Array.getD_eq_getD_getElem?] at e114 e134
                        go_simp
                        exact hK _ hJ
                      exact Vals9.Steps.nil
                    · intro Y2 σ2 hJ2
                      simp only [Vals9.All]
                      simp only [Vals.putAll, List.setIfInBounds_toArray, List.set_cons_zero, List.set_cons_succ]
                      have hs2 := hsi.keep hJ2.1
                      have HB2 := Lib.hid (HBI.out.keep hJ2.1)
                      clear hJ2
                      go_wp2_with fail
                      go_roundw
                      case rel => first | exact ⟨j + 1, by omega, by go_num, hs2, HB2⟩ | ((repeat apply Exists.intro); exact ⟨⟨j + 1, by omega, rfl, hs2, HB2⟩, rfl⟩)
                      case measure => simp [intOf]; omega
                  · have HKK := Lib.hid hkk
                    clear hmk
                    refine Vals9.region (fun _ Z => Since WJ Z) [some 102, some 103, some 104, some 105, some 106, some 107, some 108, some 109, some 110, some 111, some 112, some 113, some 114, some 115, some 116, some 117, some 118, some 119, some 120, some 121, some 122, some 123, some 124, some 125, some 126, some 127, some 128, some 129, some 130, some 131, some 132, some 133, some 134, some 135] [.is (.slice (some ae) l.length c), .is (.int .i64 (j : Int)), .is (.pointer (some (ae.add (j * 3)))), .is (.pointer (some (ae.add (j * 3)))), .is (.int .i64 mn), .is (.int .i64 (k : Int)), .is (.bool true), .is (.bool true), .is (.int .i64 (k : Int)), .is (.int .i64 known), .is (.bool false), .is (.bool false), .is (.bool false), .is (undef), .is (undef), .is (undef), .is (undef), .is (undef), .is (undef), .is (undef), .is (undef), .is (undef), .is (undef), .is (undef), .is (undef), .is (undef), .is (undef), .is (undef), .is (undef), .is (undef), .is (undef), .is (undef), .is (undef), .is (.bool false)] (by kernel_rfl) (by kernel_rfl) (by kernel_rfl) (by kernel_rfl) (by kernel_rfl) (by kernel_rfl) ((Since.refl WJ).drew) ?_ ?_
                    · refine Vals9.Steps.run (by kernel_rfl) ?_ ?_
                      · intro a W σ hJ pre K hK
                        have e1 : a.tmps.getD 1 undef = .slice (some ae) l.length c := pre.2.2 1 _ (by kernel_rfl) rfl
                        clear pre
                        simp only [Array.getD_eq_getD_getElem?] at e1
                        go_simp
                        exact hK _ hJ
                      refine Vals9.Steps.run (by kernel_rfl) ?_ ?_
                      · intro a W σ hJ pre K hK
                        have e13 : a.tmps.getD 13 undef = .int .i64 (j : Int) := pre.2.2 13 _ (by kernel_rfl) rfl
                        clear pre
                        simp only [Array.getD_eq_getD_getElem?] at e13
                        go_simp
                        exact hK _ hJ
                      refine Vals9.Steps.run (by kernel_rfl) ?_ ?_
                      · intro a W σ hJ pre K hK
                        have e102 : a.tmps.getD 102 undef = .slice (some ae) l.length c := pre.1 0 102 _ (by kernel_rfl) rfl rfl
                        have e103 : a.tmps.getD 103 undef = .int .i64 (j : Int) := pre.1 1 103 _ (by kernel_rfl) rfl rfl
                        clear pre
                        simp only [Array.getD_eq_getD_getElem?] at e102 e103
                        have hji := HJI.out
                        go_simp
                        exact hK _ hJ
                      refine Vals9.Steps.run (by kernel_rfl) ?_ ?_
                      · intro a W σ hJ pre K hK
                        have e104 : a.tmps.getD 104 undef = .pointer (some (ae.add (j * 3))) := pre.1 2 104 _ (by kernel_rfl) rfl rfl
                        clear pre
                        simp only [Array.getD_eq_getD_getElem?] at e104
                        go_simp
                        exact hK _ hJ
                      refine Vals9.Steps.run (by kernel_rfl) ?_ ?_
                      · intro a W σ hJ pre K hK
                        have e105 : a.tmps.getD 105 undef = .pointer (some (ae.add (j * 3))) := pre.1 3 105 _ (by kernel_rfl) rfl rfl
                        clear pre
                        simp only [Array.getD_eq_getD_getElem?] at e105
                        have hS9 := hJ
                        have y0 := keep_cell hS9.1 HE0.out
                        have y2 := keep_cell hS9.1 HE2.out
                        have q0 := keep_cell hS9.1 HQI.out
                        go_simp
                        exact hK _ hJ
                      refine Vals9.Steps.run (by kernel_rfl) ?_ ?_
                      · intro a W σ hJ pre K hK
                        have e9 : a.tmps.getD 9 undef = .int .i64 (k : Int) := pre.2.2 9 _ (by kernel_rfl) rfl
                        clear pre
                        simp only [Array.getD_eq_getD_getElem?] at e9
                        go_simp
                        exact hK _ hJ
                      refine Vals9.Steps.run (by kernel_rfl) ?_ ?_
                      · intro a W σ hJ pre K hK
                        have e106 : a.tmps.getD 106 undef = .int .i64 mn := pre.1 4 106 _ (by kernel_rfl) rfl rfl
                        have e107 : a.tmps.getD 107 undef = .int .i64 (k : Int) := pre.1 5 107 _ (by kernel_rfl) rfl rfl
                        clear pre
                        simp only [Array.getD_eq_getD_getElem?] at e106 e107
                        have g0 : (mn == (k : Int)) = true := by have := HMK.out; simpa using this
                        go_simp
                        exact hK _ hJ
                      refine Vals9.Steps.run (by kernel_rfl) ?_ ?_
                      · intro a W σ hJ pre K hK
                        have e108 : a.tmps.getD 108 undef = .bool true := pre.1 6 108 _ (by kernel_rfl) rfl rfl
                        clear pre
                        simp only [Array.getD_eq_getD_getElem?] at e108
                        go_simp
                        exact hK _ hJ
                      refine Vals9.Steps.run (by kernel_rfl) ?_ ?_
                      · intro a W σ hJ pre K hK
                        have e9 : a.tmps.getD 9 undef = .int .i64 (k : Int) := pre.2.2 9 _ (by kernel_rfl) rfl
                        clear pre
                        simp only [Array.getD_eq_getD_getElem?] at e9
                        go_simp
                        exact hK _ hJ
                      refine Vals9.Steps.run (by kernel_rfl) ?_ ?_
                      · intro a W σ hJ pre K hK
                        have e3 : a.tmps.getD 3 undef = .int .i64 known := pre.2.2 3 _ (by kernel_rfl) rfl
                        clear pre
                        simp only [Array.getD_eq_getD_getElem?] at e3
                        go_simp
                        exact hK _ hJ
                      refine Vals9.Steps.run (by kernel_rfl) ?_ ?_
                      · intro a W σ hJ pre K hK
                        have e110 : a.tmps.getD 110 undef = .int .i64 (k : Int) := pre.1 8 110 _ (by kernel_rfl) rfl rfl
                        have e111 : a.tmps.getD 111 undef = .int .i64 known := pre.1 9 111 _ (by kernel_rfl) rfl rfl
                        clear pre
                        simp only [Array.getD_eq_getD_getElem?] at e110 e111
                        have g0 : decide ((k : Int) ≤ known) = false := by have := HKK.out; simpa using this
                        go_simp
                        exact hK _ hJ
                      refine Vals9.Steps.run (by kernel_rfl) ?_ ?_
                      · intro a W σ hJ pre K hK
                        have e109 : a.tmps.getD 109 undef = .bool true := pre.1 7 109 _ (by kernel_rfl) rfl rfl
                        have e112 : a.tmps.getD 112 undef = .bool false := pre.1 10 112 _ (by kernel_rfl) rfl rfl
                        clear pre
                        simp only [Array.getD_eq_getD_getElem?] at e109 e112
                        go_simp
                        exact hK _ hJ
                      refine Vals9.Steps.run (by kernel_rfl) ?_ ?_
                      · intro a W σ hJ pre K hK
                        have e113 : a.tmps.getD 113 undef = .bool false := pre.1 11 113 _ (by kernel_rfl) rfl rfl
                        clear pre
                        simp only [Array.getD_eq_getD_getElem?] at e113
                        go_simp
                        exact hK _ hJ
                      refine Vals9.Steps.skip (by kernel_rfl) (by kernel_rfl) ?_
                      refine Vals9.Steps.skip (by kernel_rfl) (by kernel_rfl) ?_
                      refine Vals9.Steps.skip (by kernel_rfl) (by kernel_rfl) ?_
                      refine Vals9.Steps.skip (by kernel_rfl) (by kernel_rfl) ?_
                      refine Vals9.Steps.skip (by kernel_rfl) (by kernel_rfl) ?_
                      refine Vals9.Steps.skip (by kernel_rfl) (by kernel_rfl) ?_
                      refine Vals9.Steps.skip (by kernel_rfl) (by kernel_rfl) ?_
                      refine Vals9.Steps.skip (by kernel_rfl) (by kernel_rfl) ?_
                      refine Vals9.Steps.skip (by kernel_rfl) (by kernel_rfl) ?_
                      refine Vals9.Steps.skip (by kernel_rfl) (by kernel_rfl) ?_
                      refine Vals9.Steps.skip (by kernel_rfl) (by kernel_rfl) ?_
                      refine Vals9.Steps.skip (by kernel_rfl) (by kernel_rfl) ?_
                      refine Vals9.Steps.skip (by kernel_rfl) (by kernel_rfl) ?_
                      refine Vals9.Steps.skip (by kernel_rfl) (by kernel_rfl) ?_
                      refine Vals9.Steps.skip (by kernel_rfl) (by kernel_rfl) ?_
                      refine Vals9.Steps.skip (by kernel_rfl) (by kernel_rfl) ?_
                      refine Vals9.Steps.skip (by kernel_rfl) (by kernel_rfl) ?_
                      refine Vals9.Steps.skip (by kernel_rfl) (by kernel_rfl) ?_
                      refine Vals9.Steps.skip (by kernel_rfl) (by kernel_rfl) ?_
                      refine Vals9.Steps.skip (by kernel_rfl) (by kernel_rfl) ?_
                      refine Vals9.Steps.run (by kernel_rfl) ?_ ?_
                      · intro a W σ hJ pre K hK
                        have e114 : a.tmps.getD 114 undef = .bool false := pre.1 12 114 _ (by kernel_rfl) rfl rfl
                        have e134 : a.tmps.getD 134 undef = undef := pre.1 32 134 _ (by kernel_rfl) rfl rfl
                        clear pre
                        simp only [Array.getD_eq_getD_getElem?] at e114 e134
                        go_simp
                        exact hK _ hJ
                      exact Vals9.Steps.nil
                    · intro Y2 σ2 hJ2
                      simp only [Vals9.All]
                      simp only [Vals.putAll, List.setIfInBounds_toArray, List.set_cons_zero, List.set_cons_succ]
                      have hs2 := hsi.keep hJ2.1
                      have HB2 := Lib.hid (HBI.out.keep hJ2.1)
                      clear hJ2
                      go_wp2_with fail
                      go_roundw
                      case rel => first | exact ⟨j + 1, by omega, by go_num, hs2, HB2⟩ | ((repeat apply Exists.intro); exact ⟨⟨j + 1, by omega, rfl, hs2, HB2⟩, rfl⟩)
                      case measure => simp [intOf]; omega
                · have HMK := Lib.hid hmk
                  refine Vals9.region (fun _ Z => Since WJ Z) [some 102, some 103, some 104, some 105, some 106, some 107, some 108, some 109, some 110, some 111, some 112, some 113, some 114, some 115, some 116, some 117, some 118, some 119, some 120, some 121, some 122, some 123, some 124, some 125, some 126, some 127, some 128, some 129, some 130, some 131, some 132, some 133, some 134, some 135] [.is (.slice (some ae) l.length c), .is (.int .i64 (j : Int)), .is (.pointer (some (ae.add (j * 3)))), .is (.pointer (some (ae.add (j * 3)))), .is (.int .i64 mn), .is (.int .i64 (k : Int)), .is (.bool false), .is (.bool false), .is (undef), .is (undef), .is (undef), .is (.bool false), .is (.bool false), .is (undef), .is (undef), .is (undef), .is (undef), .is (undef), .is (undef), .is (undef), .is (undef), .is (undef), .is (undef), .is (undef), .is (undef), .is (undef), .is (undef), .is (undef), .is (undef), .is (undef), .is (undef), .is (undef), .is (undef), .is (.bool false)] (by kernel_rfl) (by kernel_rfl) (by kernel_rfl) (by kernel_rfl) (by kernel_rfl) (by kernel_rfl) ((Since.refl WJ).drew) ?_ ?_
                  · refine Vals9.Steps.run (by kernel_rfl) ?_ ?_
                    · intro a W σ hJ pre K hK
                      have e1 : a.tmps.getD 1 undef = .slice (some ae) l.length c := pre.2.2 1 _ (by kernel_rfl) rfl
                      clear pre
                      simp only [Array.getD_eq_getD_getElem?] at e1
                      go_simp
                      exact hK _ hJ
                    refine Vals9.Steps.run (by kernel_rfl) ?_ ?_
                    · intro a W σ hJ pre K hK
                      have e13 : a.tmps.getD 13 undef = .int .i64 (j : Int) := pre.2.2 13 _ (by kernel_rfl) rfl
                      clear pre
                      simp only [Array.getD_eq_getD_getElem?] at e13
                      go_simp
                      exact hK _ hJ
                    refine Vals9.Steps.run (by kernel_rfl) ?_ ?_
                    · intro a W σ hJ pre K hK
                      have e102 : a.tmps.getD 102 undef = .slice (some ae) l.length c := pre.1 0 102 _ (by kernel_rfl) rfl rfl
                      have e103 : a.tmps.getD 103 undef = .int .i64 (j : Int) := pre.1 1 103 _ (by kernel_rfl) rfl rfl
                      clear pre
                      simp only [Array.getD_eq_getD_getElem?] at e102 e103
                      have hji := HJI.out
                      go_simp
                      exact hK _ hJ
                    refine Vals9.Steps.run (by kernel_rfl) ?_ ?_
                    · intro a W σ hJ pre K hK
                      have e104 : a.tmps.getD 104 undef = .pointer (some (ae.add (j * 3))) := pre.1 2 104 _ (by kernel_rfl) rfl rfl
                      clear pre
                      simp only [Array.getD_eq_getD_getElem?] at e104
                      go_simp
                      exact hK _ hJ
                    refine Vals9.Steps.run (by kernel_rfl) ?_ ?_
                    · intro a W σ hJ pre K hK
                      have e105 : a.tmps.getD 105 undef = .pointer (some (ae.add (j * 3))) := pre.1 3 105 _ (by kernel_rfl) rfl rfl
                      clear pre
                      simp only [Array.getD_eq_getD_getElem?] at e105
                      have hS9 := hJ
                      have y0 := keep_cell hS9.1 HE0.out
                      have y2 := keep_cell hS9.1 HE2.out
                      have q0 := keep_cell hS9.1 HQI.out
                      go_simp
                      exact hK _ hJ
                    refine Vals9.Steps.run (by kernel_rfl) ?_ ?_
                    · intro a W σ hJ pre K hK
                      have e9 : a.tmps.getD 9 undef = .int .i64 (k : Int) := pre.2.2 9 _ (by kernel_rfl) rfl
                      clear pre
                      simp only [Array.getD_eq_getD_getElem?] at e9
                      go_simp
                      exact hK _ hJ
                    refine Vals9.Steps.run (by kernel_rfl) ?_ ?_
                    · intro a W σ hJ pre K hK
                      have e106 : a.tmps.getD 106 undef = .int .i64 mn := pre.1 4 106 _ (by kernel_rfl) rfl rfl
                      have e107 : a.tmps.getD 107 undef = .int .i64 (k : Int) := pre.1 5 107 _ (by kernel_rfl) rfl rfl
                      clear pre
                      simp only [Array.getD_eq_getD_getElem?] at e106 e107
                      have g0 : (mn == (k : Int)) = false := by have := HMK.out; simpa using this
                      go_simp
                      exact hK _ hJ
                    refine Vals9.Steps.run (by kernel_rfl) ?_ ?_
                    · intro a W σ hJ pre K hK
                      have e108 : a.tmps.getD 108 undef = .bool false := pre.1 6 108 _ (by kernel_rfl) rfl rfl
                      clear pre
                      simp only [Array.getD_eq_getD_getElem?] at e108
                      go_simp
                      exact hK _ hJ
                    refine Vals9.Steps.skip (by kernel_rfl) (by kernel_rfl) ?_
                    refine Vals9.Steps.skip (by kernel_rfl) (by kernel_rfl) ?_
                    refine Vals9.Steps.skip (by kernel_rfl) (by kernel_rfl) ?_
                    refine Vals9.Steps.run (by kernel_rfl) ?_ ?_
                    · intro a W σ hJ pre K hK
                      have e109 : a.tmps.getD 109 undef = .bool false := pre.1 7 109 _ (by kernel_rfl) rfl rfl
                      have e112 : a.tmps.getD 112 undef = undef := pre.1 10 112 _ (by kernel_rfl) rfl rfl
                      clear pre
                      simp only [Array.getD_eq_getD_getElem?] at e109 e112
                      go_simp
                      exact hK _ hJ
                    refine Vals9.Steps.run (by kernel_rfl) ?_ ?_
                    · intro a W σ hJ pre K hK
                      have e113 : a.tmps.getD 113 undef = .bool false := pre.1 11 113 _ (by kernel_rfl) rfl rfl
                      clear pre
                      simp only [Array.getD_eq_getD_getElem?] at e113
                      go_simp
                      exact hK _ hJ
                    refine Vals9.Steps.skip (by kernel_rfl) (by kernel_rfl) ?_
                    refine Vals9.Steps.skip (by kernel_rfl) (by kernel_rfl) ?_
                    refine Vals9.Steps.skip (by kernel_rfl) (by kernel_rfl) ?_
                    refine Vals9.Steps.skip (by kernel_rfl) (by kernel_rfl) ?_
                    refine Vals9.Steps.skip (by kernel_rfl) (by kernel_rfl) ?_
                    refine Vals9.Steps.skip (by kernel_rfl) (by kernel_rfl) ?_
                    refine Vals9.Steps.skip (by kernel_rfl) (by kernel_rfl) ?_
                    refine Vals9.Steps.skip (by kernel_rfl) (by kernel_rfl) ?_
                    refine Vals9.Steps.skip (by kernel_rfl) (by kernel_rfl) ?_
                    refine Vals9.Steps.skip (by kernel_rfl) (by kernel_rfl) ?_
                    refine Vals9.Steps.skip (by kernel_rfl) (by kernel_rfl) ?_
                    refine Vals9.Steps.skip (by kernel_rfl) (by kernel_rfl) ?_
                    refine Vals9.Steps.skip (by kernel_rfl) (by kernel_rfl) ?_
                    refine Vals9.Steps.skip (by kernel_rfl) (by kernel_rfl) ?_
                    refine Vals9.Steps.skip (by kernel_rfl) (by kernel_rfl) ?_
                    refine Vals9.Steps.skip (by kernel_rfl) (by kernel_rfl) ?_
                    refine Vals9.Steps.skip (by kernel_rfl) (by kernel_rfl) ?_
                    refine Vals9.Steps.skip (by kernel_rfl) (by kernel_rfl) ?_
                    refine Vals9.Steps.skip (by kernel_rfl) (by kernel_rfl) ?_
                    refine Vals9.Steps.skip (by kernel_rfl) (by kernel_rfl) ?_
                    refine Vals9.Steps.run (by kernel_rfl) ?_ ?_
                    · intro a W σ hJ pre K hK
                      have e114 : a.tmps.getD 114 undef = .bool false := pre.1 12 114 _ (by kernel_rfl) rfl rfl
                      have e134 : a.tmps.getD 134 undef = undef := pre.1 32 134 _ (by kernel_rfl) rfl rfl
                      clear pre
                      simp only [Array.getD_eq_getD_getElem?] at e114 e134
                      go_simp
                      exact hK _ hJ
                    exact Vals9.Steps.nil
                  · intro Y2 σ2 hJ2
                    simp only [Vals9.All]
                    simp only [Vals.putAll, List.setIfInBounds_toArray, List.set_cons_zero, List.set_cons_succ]
                    have hs2 := hsi.keep hJ2.1
                    have HB2 := Lib.hid (HBI.out.keep hJ2.1)
                    clear hJ2
                    go_wp2_with fail
                    go_roundw
                    case rel => first | exact ⟨j + 1, by omega, by go_num, hs2, HB2⟩ | ((repeat apply Exists.intro); exact ⟨⟨j + 1, by omega, rfl, hs2, HB2⟩, rfl⟩)
                    case measure => simp [intOf]; omega
              · have hjl' : ¬ (j : Int) < (l.length : Int) := by omega
                go_wp2_with fail
                go_roundw
                case rel => exact ⟨k + 1, by omega, by go_num, hsi, HBI⟩
                case measure => simp [intOf]; omega
    · have hki' : ¬ (k : Int) < (n : Int) := by omega
      go_wp2_with fail
      go_ret
      exact ⟨rfl, hsn.1⟩
end Td
end Go.Proofs.Ytmofbnadfgejiaa
/- What a law function holds of its space from call to call. -/
namespace Go.Proofs.Ytmofbnadfgejiaa
open Go.RowKit
namespace Td
theorem rdg_ok {s : Spc} {l : List Rd} (h : rdgE s l = 0) : (chk s).2.2 = 0 ∧ rdsE s.tools.length l = 0 := by
  unfold rdgE at h
  split at h
  · rename_i h1; exact absurd h h1
  · rename_i h1; exact ⟨by simpa using h1, h⟩
/-- the space lies in the first block that the function made; all that was there before is as it was. -/
structure Sp (w : World) (s : Spc) (m : Sl) (W : World) : Prop where
  sn : Since w W
  bk : Blk W w.heap.size 27 (sV s m)
section
variable {w W W' : World} {s : Spc} {m : Sl}
theorem Sp.start (w : World) (s : Spc) (m : Sl) : Sp w s m (w.alloc (.cells (sV s m) 27)) := ⟨(Since.refl w).alloc _, Blk.new w _ _⟩
theorem Sp.keep (h : Sp w s m W) (hb : Below W.heap.size W W') : Sp w s m W' := ⟨h.sn.keep hb, h.bk.keep hb⟩
theorem Sp.drew (h : Sp w s m W) : Sp w s m W.drew := ⟨h.sn.drew, h.bk.drew⟩
theorem Sp.alloc (h : Sp w s m W) (o : Obj) : Sp w s m (W.alloc o) := ⟨h.sn.alloc _, h.bk.alloc _⟩
theorem Sp.row (h : Sp w s m W) {g : Nat} (hg : w.heap.size < g) (cs : Array Value) : Sp w s m (W.setRow g cs) := ⟨h.sn.row (Nat.le_of_lt hg) _, h.bk.rowFar (by omega) _⟩
theorem Sp.lt (h : Sp w s m W) : w.heap.size < W.heap.size := h.bk.lt
theorem Sp.grown {B : Option Nat} (h : Sp w s m W) (hg : W.grownBy W' B) (hB : ∀ k, B = some k → w.heap.size < k) : Sp w s m W' :=
  ⟨⟨h.sn.1.grown hg h.sn.2 (fun q e => by have := hB q e; omega), Nat.le_trans h.sn.2 hg.size⟩, h.bk.grown hg (fun e => by have := hB _ e.symm; omega)⟩
end
end Td
end Go.Proofs.Ytmofbnadfgejiaa
/- Lists of readings that a region builds, copies and appends, in any order: each is owned until another operation takes it up. -/
namespace Go.Proofs.Ytmofbnadfgejiaa
open Go.RowKit
namespace Td
set_option linter.unusedSimpArgs false
set_option linter.unusedVariables false
attribute [local go_sem] Oper.semAt_some
theorem at_add (a : Addr) (i j : Nat) (hj : 0 < j) : at_ (a.add i) j = a.add (i + j) := by
  unfold at_ Addr.add
  by_cases h : i = 0
  · subst h
    simp [Nat.ne_of_gt hj]
  · simp [h, Nat.add_assoc]
theorem rds_news {W : World} {a : Addr} {l : List Rd} (h : ∀ i p, l[i]? = some p → W.cell? (a.add (i * 3)) = some (.int .i64 p.min) ∧ W.cell? (at_ (a.add (i * 3)) 1) = some (.int .i64 p.tool) ∧ W.cell? (at_ (a.add (i * 3)) 2) = some (.int .i64 p.shown)) :
    ∀ j u, (rowsC l)[j]? = some u → W.cell? (a.add j) = some u := by
  intro j u hj
  have hlt : j < l.length * 3 := by
    rw [← rowsC_len]
    exact (List.getElem?_eq_some_iff.1 hj).1
  have hi : j / 3 < l.length := by omega
  obtain ⟨e0, e1, e2⟩ := rowsC_at l (j / 3) _ (List.getElem?_eq_getElem hi)
  obtain ⟨h0, h1, h2⟩ := h _ _ (List.getElem?_eq_getElem hi)
  rw [at_add _ _ _ (by omega)] at h1 h2
  rcases (by omega : j = j / 3 * 3 ∨ j = j / 3 * 3 + 1 ∨ j = j / 3 * 3 + 2) with hh | hh | hh
  · rw [hh] at hj ⊢
    rw [e0] at hj
    obtain rfl := Option.some.inj hj
    exact h0
  · rw [hh] at hj ⊢
    rw [e1] at hj
    obtain rfl := Option.some.inj hj
    exact h1
  · rw [hh] at hj ⊢
    rw [e2] at hj
    obtain rfl := Option.some.inj hj
    exact h2
theorem rowsC_one (l : List Rd) : ∀ u ∈ rowsC l, u.oneCell' = true := by
  intro u hu
  unfold rowsC at hu
  obtain ⟨p, _, hp⟩ := List.mem_flatMap.1 hu
  simp at hp
  rcases hp with rfl | rfl | rfl <;> rfl
theorem rowsC_app (l k : List Rd) : rowsC (l ++ k) = rowsC l ++ rowsC k := by simp [rowsC]
/-- a slice that owns its row of readings. -/
def Ow (W : World) (B : Nat) (v : Value) (l : List Rd) : Prop := W.ownsRow B 61 3 v l.length (rowsC l)
set_option maxRecDepth 100000 in
theorem append_rds {W : World} {B : Nat} {v : Value} {l k : List Rd} {A : Option Addr} {c : Nat} (hown : Ow W B v l) (hp : RdAt W A k) (hl : l.length + k.length ≤ 4000000) (hB : B ≤ W.heap.size) (ty : TypeId) :
    ∃ v' w', (Builtin.append_ #[28, 28] ty #[v, .slice A k.length c]).run Try.prog W = .ok v' w' ∧ Ow w' B v' (l ++ k) ∧ W.grownBy w' v.ownBlock ∧ (v'.ownBlock = v.ownBlock ∨ v'.ownBlock = some W.heap.size) := by
  obtain ⟨i0, hi0, hi1⟩ := Option.map_eq_some_iff.1 info61
  simp only [Prod.mk.injEq] at hi1
  obtain ⟨hz0, hz1, hz2⟩ := hi1
  by_cases h0 : k = []
  · subst h0
    refine ⟨v, W, ?_, by rw [List.append_nil]; exact hown, ⟨rfl, rfl, rfl, Nat.le_refl _, fun k _ _ => rfl⟩, .inl rfl⟩
    rcases hown.2 with ⟨rfl, hn0⟩ | ⟨g, cap, cur, rfl, hb, hg, hn, hm, hs, ht⟩
    · cases A with
      | none => simp [Builtin.append_, go_sem, Try.underlying28, Builtin.firstCells, Builtin.lenOf, hi0, hz1]
      | some ad => simp [Builtin.append_, go_sem, Try.underlying28, Builtin.firstCells, Builtin.lenOf, hi0, hz1]
    · cases A with
      | none => simp [Builtin.append_, go_sem, Try.underlying28, Builtin.firstCells, Builtin.lenOf, hi0, hz1, hn]
      | some ad => simp [Builtin.append_, go_sem, Try.underlying28, Builtin.firstCells, Builtin.lenOf, hi0, hz1, hn]
  · obtain ⟨ad, rfl, hc⟩ := hp h0
    obtain ⟨v', w', h1, h2, h3, _, h5⟩ := run_append_own_at (P := Try.prog) W B 28 ty 61 i0 _ 3 24 Try.underlying28 hi0 hz0 hz1 hz2 rfl (by omega)
      v l.length (rowsC l) hown ad k.length c (rowsC k) (rowsC_len k) (rds_news hc) (rowsC_one k) (by simp only [maxLen]; omega) (by omega) hB
    refine ⟨v', w', h1, ?_, h3, h5⟩
    unfold Ow
    rw [rowsC_app, List.length_append]
    exact h2
set_option maxRecDepth 100000 in
theorem wp_append_rds {W : World} {o : Oper} {a : Act} {K : Act → World → Prop} {Q' : Exit → Act → World → Prop} (s x : Operand) (ho : o.op = .call { callee := .builtin .append, args := #[s, x], argTypes := #[28, 28] })
    {B : Nat} {v : Value} {l k : List Rd} {A : Option Addr} {c : Nat} (hs : a.eval s = v) (hx : a.eval x = .slice A k.length c) (hown : Ow W B v l) (hp : RdAt W A k) (hl : l.length + k.length ≤ 4000000) (hB : B ≤ W.heap.size)
    (h : ∀ v' w', Ow w' B v' (l ++ k) → W.grownBy w' v.ownBlock → (v'.ownBlock = v.ownBlock ∨ v'.ownBlock = some W.heap.size) → K (a.put o.dst v') w') : o.wp Try.prog a W K Q' := by
  obtain ⟨v', w', hr, h2, h3, h4⟩ := append_rds hown hp hl hB o.type
  unfold Oper.wp execOp
  simp only [ho, resolve, invoke, builtin, Sem.run_bind, Sem.run_pure, Result.andThen_ok, List.map_toArray, List.map_cons, List.map_nil, hs, hx]
  rw [hr]
  exact h v' w' h2 h3 h4
/-- the lists that a region has made so far: Ls says which operation makes which, cn which one takes it up. -/
structure Lin (X0 : World) (Ls : Nat → Option (List Rd)) (cn : Nat → Nat) (σ : Vals9.Sig) (X : World) : Prop where
  sn : Since X0 X
  ow : ∀ i L v, Ls i = some L → σ i = some v → σ (cn i) = none → Ow X X0.heap.size v L
  ap : ∀ i j L M v u, Ls i = some L → Ls j = some M → i ≠ j → σ i = some v → σ j = some u → σ (cn i) = none → σ (cn j) = none → v.ownBlock = none ∨ v.ownBlock ≠ u.ownBlock
  lt : ∀ i L v, Ls i = some L → σ (cn i) = some v → ∃ u, σ i = some u
  no : ∀ i, Ls i = none → σ i = none
section
variable {X0 X X' : World} {Ls : Nat → Option (List Rd)} {cn : Nat → Nat} {σ : Vals9.Sig}
theorem Lin.start (X0 : World) (Ls : Nat → Option (List Rd)) (cn : Nat → Nat) : Lin X0 Ls cn (fun _ => none) X0.drew :=
  ⟨(Since.refl X0).drew, fun _ _ _ _ h => (by cases h), fun _ _ _ _ _ _ _ _ _ h => (by cases h), fun _ _ _ _ h => (by cases h), fun _ _ => rfl⟩
theorem Lin.keep (h : Lin X0 Ls cn σ X) (hb : Below X.heap.size X X') : Lin X0 Ls cn σ X' :=
  ⟨h.sn.keep hb, fun i L v h1 h2 h3 => own_keep (h.ow i L v h1 h2 h3) hb, h.ap, h.lt, h.no⟩
theorem Lin.free (h : Lin X0 Ls cn σ X) {k : Nat} {L : List Rd} (hL : Ls k = some L) (hk : σ k = none) : σ (cn k) = none := by
  cases e : σ (cn k) with
  | none => rfl
  | some v => obtain ⟨u, hu⟩ := h.lt k L v hL e; rw [hk] at hu; cases hu
theorem Lin.later (h : Lin X0 Ls cn σ X) {k : Nat} {v : Value} {L : List Rd} (hL : Ls k = some L) (hc : cn k ≠ k) (hk : σ k = none) (hw : ∀ i L, Ls i = some L → cn i = k → ∃ u, σ i = some u) :
    (∀ i L w, Ls i = some L → (Vals9.upd σ k v) (cn i) = some w → ∃ u, (Vals9.upd σ k v) i = some u) ∧ ∀ i, Ls i = none → (Vals9.upd σ k v) i = none := by
  refine ⟨fun i M w h1 h2 => ?_, fun i h1 => ?_⟩
  · by_cases hik : i = k
    · subst hik; exact ⟨_, Vals9.upd_same _ _ _⟩
    · rw [Vals9.upd_other _ _ hik]
      by_cases hck : cn i = k
      · exact hw i M h1 hck
      · rw [Vals9.upd_other _ _ hck] at h2; exact h.lt i M w h1 h2
  · have hik : i ≠ k := fun e => by subst e; rw [hL] at h1; cases h1
    rw [Vals9.upd_other _ _ hik]; exact h.no i h1
/-- an operation makes a list: in memory of its own, or onto the list that it takes up. -/
theorem Lin.gain (h : Lin X0 Ls cn σ X) {k : Nat} {v : Value} {b : Option Nat} (hk : σ k = none) (hc : cn k ≠ k) {L : List Rd} (hL : Ls k = some L) (hw : ∀ i L, Ls i = some L → cn i = k → ∃ u, σ i = some u) (hg : X.grownBy X' b) (hv : Ow X' X0.heap.size v L)
    (hb : ∀ q, b = some q → X0.heap.size ≤ q) (hn : v.ownBlock = none ∨ v.ownBlock = b ∨ ∃ n, v.ownBlock = some n ∧ X.heap.size ≤ n)
    (hd : ∀ i L u, Ls i = some L → i ≠ k → σ i = some u → cn i ≠ k → σ (cn i) = none → u.ownBlock = none ∨ u.ownBlock ≠ b) : Lin X0 Ls cn (Vals9.upd σ k v) X' := by
  have hsn : Since X0 X' := ⟨h.sn.1.grown hg h.sn.2 hb, Nat.le_trans h.sn.2 hg.size⟩
  have hlive : ∀ i, i ≠ k → (Vals9.upd σ k v) (cn i) = none → cn i ≠ k ∧ σ (cn i) = none := fun i _ hi => by
    by_cases e : cn i = k
    · rw [e, Vals9.upd_same] at hi; cases hi
    · rw [Vals9.upd_other _ _ e] at hi; exact ⟨e, hi⟩
  have hfar : ∀ i M u, Ls i = some M → i ≠ k → σ i = some u → cn i ≠ k → σ (cn i) = none → (u.ownBlock = none ∨ u.ownBlock ≠ v.ownBlock) := fun i M u h1 h2 h3 h4 h5 => by
    rcases hn with hn | hn | ⟨n, hn, hle⟩
    · cases hu : u.ownBlock with
      | none => exact .inl rfl
      | some q => right; rw [hn]; intro e; cases e
    · rw [hn]; exact hd i M u h1 h2 h3 h4 h5
    · cases hu : u.ownBlock with
      | none => exact .inl rfl
      | some q =>
        right
        rw [hn]
        intro e
        have := ((h.ow i M u h1 h3 h5).lt q hu).2
        have : q = n := Option.some.inj e
        omega
  refine ⟨hsn, fun i M u h1 h2 h3 => ?_, fun i j M N u t h1 h2 hij h3 h4 h5 h6 => ?_, (h.later hL hc hk hw).1, (h.later (v := v) hL hc hk hw).2⟩
  · by_cases hik : i = k
    · subst hik
      rw [Vals9.upd_same] at h2
      obtain rfl := Option.some.inj h2
      rw [hL] at h1
      obtain rfl := Option.some.inj h1
      exact hv
    · rw [Vals9.upd_other _ _ hik] at h2
      obtain ⟨h4, h5⟩ := hlive i hik h3
      exact (h.ow i M u h1 h2 h5).kept hg (hd i M u h1 hik h2 h4 h5)
  · by_cases hik : i = k
    · subst hik
      rw [Vals9.upd_same] at h3
      obtain rfl := Option.some.inj h3
      rw [Vals9.upd_other _ _ (Ne.symm hij)] at h4
      obtain ⟨h7, h8⟩ := hlive j (Ne.symm hij) h6
      rcases hfar j N t h2 (Ne.symm hij) h4 h7 h8 with e | e
      · cases hvb : v.ownBlock with
        | none => exact .inl rfl
        | some q => right; rw [e]; intro e2; cases e2
      · exact .inr (Ne.symm e)
    · rw [Vals9.upd_other _ _ hik] at h3
      obtain ⟨h7, h8⟩ := hlive i hik h5
      by_cases hjk : j = k
      · subst hjk
        rw [Vals9.upd_same] at h4
        obtain rfl := Option.some.inj h4
        exact hfar i M u h1 hik h3 h7 h8
      · rw [Vals9.upd_other _ _ hjk] at h4
        obtain ⟨_, h9⟩ := hlive j hjk h6
        exact h.ap i j M N u t h1 h2 hij h3 h4 h8 h9
/-- a list is laid in memory of its own. -/
theorem Lin.lay (h : Lin X0 Ls cn σ X) {k : Nat} (hk : σ k = none) (hc : cn k ≠ k) {L : List Rd} (hL : Ls k = some L) (hw : ∀ i L, Ls i = some L → cn i ≠ k) (hl : L.length ≤ 1000) :
    Lin X0 Ls cn (Vals9.upd σ k (.slice (some ⟨X.heap.size, 0, none⟩) L.length L.length)) (X.alloc (.cells (rowsC L).toArray 61)) := by
  refine h.gain hk hc hL (fun i L h1 h2 => absurd h2 (hw i L h1)) (World.grownBy_alloc X _ none) ⟨rowsC_len L, .inr ⟨_, _, _, rfl, h.sn.2, heap_alloc_new X _, Nat.le_refl _, by simp only [maxLen]; omega, by simp [rowsC_len], ?_⟩⟩ (fun q e => by cases e) (.inr (.inr ⟨_, rfl, Nat.le_refl _⟩)) (fun i L u _ _ _ _ _ => by cases hu : u.ownBlock <;> simp)
  simp only [List.take_of_length_le (Nat.le_of_eq (rowsC_len L))]
/-- what an append does: it takes up the list of d. -/
theorem Lin.onto (h : Lin X0 Ls cn σ X) {k d : Nat} {v v' : Value} (hk : σ k = none) (hc : cn k ≠ k) (hw : ∀ i L, Ls i = some L → cn i = k → ∃ u, σ i = some u) {D L : List Rd} (hL : Ls k = some L) (hD : Ls d = some D) (hd : σ d = some v) (hcd : cn d = k) (hdk : d ≠ k)
    (hv : Ow X' X0.heap.size v' L) (hg : X.grownBy X' v.ownBlock) (hn : v'.ownBlock = v.ownBlock ∨ v'.ownBlock = some X.heap.size) : Lin X0 Ls cn (Vals9.upd σ k v') X' := by
  have hod := h.ow d D v hD hd (by rw [hcd]; exact hk)
  refine h.gain hk hc hL hw hg hv (fun q e => (hod.lt q e).1) ?_ (fun i M u h1 h2 h3 h4 h5 => ?_)
  · rcases hn with hn | hn
    · exact .inr (.inl hn)
    · exact .inr (.inr ⟨_, hn, Nat.le_refl _⟩)
  · by_cases hid : i = d
    · subst hid; exact absurd hcd h4
    · exact h.ap i d M D u v h1 hD hid h3 hd h5 (by rw [hcd]; exact hk)
/-- a list is handed on. -/
theorem Lin.move (h : Lin X0 Ls cn σ X) {k d : Nat} {v : Value} (hk : σ k = none) (hc : cn k ≠ k) (hw : ∀ i L, Ls i = some L → cn i = k → ∃ u, σ i = some u) {L : List Rd} (hL : Ls k = some L) (hD : Ls d = some L) (hd : σ d = some v) (hcd : cn d = k) (hdk : d ≠ k) : Lin X0 Ls cn (Vals9.upd σ k v) X := by
  have hlive : ∀ i, i ≠ k → (Vals9.upd σ k v) (cn i) = none → cn i ≠ k ∧ σ (cn i) = none := fun i _ hi => by
    by_cases e : cn i = k
    · rw [e, Vals9.upd_same] at hi; cases hi
    · rw [Vals9.upd_other _ _ e] at hi; exact ⟨e, hi⟩
  refine ⟨h.sn, fun i M u h1 h2 h3 => ?_, fun i j M N u t h1 h2 hij h3 h4 h5 h6 => ?_, (h.later hL hc hk hw).1, (h.later (v := v) hL hc hk hw).2⟩
  · by_cases hik : i = k
    · subst hik
      rw [Vals9.upd_same] at h2
      obtain rfl := Option.some.inj h2
      rw [hL] at h1
      obtain rfl := Option.some.inj h1
      exact h.ow d L v hD hd (by rw [hcd]; exact hk)
    · rw [Vals9.upd_other _ _ hik] at h2
      exact h.ow i M u h1 h2 (hlive i hik h3).2
  · by_cases hik : i = k
    · subst hik
      rw [Vals9.upd_same] at h3
      obtain rfl := Option.some.inj h3
      rw [Vals9.upd_other _ _ (Ne.symm hij)] at h4
      obtain ⟨h7, h8⟩ := hlive j (Ne.symm hij) h6
      exact h.ap d j L N v t hD h2 (fun e => h7 (by rw [← e]; exact hcd)) hd h4 (by rw [hcd]; exact hk) h8
    · rw [Vals9.upd_other _ _ hik] at h3
      obtain ⟨h7, h8⟩ := hlive i hik h5
      by_cases hjk : j = k
      · subst hjk
        rw [Vals9.upd_same] at h4
        obtain rfl := Option.some.inj h4
        exact h.ap i d M L u v h1 hD (fun e => h7 (by rw [e]; exact hcd)) h3 hd h8 (by rw [hcd]; exact hk)
      · rw [Vals9.upd_other _ _ hjk] at h4
        exact h.ap i j M N u t h1 h2 hij h3 h4 h8 (hlive j hjk h6).2
end
/-- a space, and a further argument behind it. -/
structure Sp2 (w : World) (s : Spc) (m : Sl) (t : TypeId) (xs : Array Value) (W : World) : Prop where
  sp : Sp w s m W
  bx : Blk W (w.heap.size + 1) t xs
section
variable {w W W' : World} {s : Spc} {m : Sl} {t : TypeId} {xs : Array Value}
theorem Sp2.start (w : World) (s : Spc) (m : Sl) (t : TypeId) (xs : Array Value) : Sp2 w s m t xs ((w.alloc (.cells (sV s m) 27)).alloc (.cells xs t)) := ⟨(Sp.start w s m).alloc _, Blk.new1 w _ _ _⟩
theorem Sp2.keep (h : Sp2 w s m t xs W) (hb : Below W.heap.size W W') : Sp2 w s m t xs W' := ⟨h.sp.keep hb, h.bx.keep hb⟩
theorem Sp2.drew (h : Sp2 w s m t xs W) : Sp2 w s m t xs W.drew := ⟨h.sp.drew, h.bx.drew⟩
theorem Sp2.alloc (h : Sp2 w s m t xs W) (o : Obj) : Sp2 w s m t xs (W.alloc o) := ⟨h.sp.alloc _, h.bx.alloc _⟩
theorem Sp2.row (h : Sp2 w s m t xs W) {g : Nat} (hg : w.heap.size + 1 < g) (cs : Array Value) : Sp2 w s m t xs (W.setRow g cs) := ⟨h.sp.row (by omega) _, h.bx.rowFar (by omega) _⟩
theorem Sp2.lt (h : Sp2 w s m t xs W) : w.heap.size + 1 < W.heap.size := h.bx.lt
theorem Sp2.grown {B : Option Nat} (h : Sp2 w s m t xs W) (hg : W.grownBy W' B) (hB : ∀ k, B = some k → w.heap.size + 1 < k) : Sp2 w s m t xs W' :=
  ⟨h.sp.grown hg (fun k e => by have := hB k e; omega), h.bx.grown hg (fun e => by have := hB _ e.symm; omega)⟩
end
end Td
end Go.Proofs.Ytmofbnadfgejiaa
