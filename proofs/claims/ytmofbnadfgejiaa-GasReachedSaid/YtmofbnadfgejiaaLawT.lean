import Derived.Test.YtmofbnadfgejiaaRefs
import Derived.Test.YtmofbnadfgejiaaMath
/- GasShorter: the more a reading shows the shorter it holds; a torch may burn at least as long as the only reading holds. -/
namespace Go.Proofs.Ytmofbnadfgejiaa
open Go.RowKit
namespace Td
set_option linter.unusedSimpArgs false
set_option linter.unusedVariables false
attribute [local go_sem] Oper.semAt_some
theorem valid_c (s : Spc) (m : Sl) (w : World) (hp : SAt w m s) :
    Calls Try.prog 32 #[.agg (sV s m)] w fun e w' => e = .returned (.bool ((chk s).2.2 == 0)) ∧ Below w.heap.size w w' := by
  have hs0 := (Since.refl w).alloc (.cells (sV s m) 27)
  obtain ⟨c0, c1, c2, c3, c4, c5, c6, c7, c8⟩ := (Blk.new w 27 (sV s m)).space
  go_enter Try.func32, Try.ntmps32
  go_wp2_with fail
  refine (rcheck_c s m _ (hp.keep hs0.1)).mono ?_
  rintro e w1 ⟨rfl, hb1⟩
  clear c0 c1 c2 c3 c4 c5 c6 c7 c8
  go_wp2_with fail
  go_ret
  exact ⟨rfl, (hs0.keep hb1).1⟩
theorem rok_any {s : Spc} (hs : SOk s) {mi tl sh : Int} (h0 : 0 ≤ tl) (h1 : tl < s.tools.length) (h2 : 0 ≤ mi) (h3 : mi ≤ 60) (h4 : -50 ≤ sh) (h5 : sh ≤ 250) : ROk s ⟨mi, tl, sh⟩ := ⟨h0, h1, h2, h3, h4, h5⟩
theorem holdsA_ok {s : Spc} {r : Rd} (hc : (chk s).2.2 = 0) (hr : ROk s r) : holdsA s r = (hol s r, 0) := by
  have := rdE_ok.2 hr
  simp [holdsA, toolE2, hc, this]
theorem untilA_one {s : Spc} {r : Rd} (hc : (chk s).2.2 = 0) (hr : ROk s r) : (now s [r] r.min = none ∧ untilA s [r] r.min = (0, 9)) ∨ ∃ x, now s [r] r.min = some x ∧ untilA s [r] r.min = (untl s (kno [r] r.min) r.min (some x), 0) := by
  have h1 : rdsE s.tools.length [r] = 0 := rdsE_ok.2 ⟨by simp, fun q hq => by rw [List.mem_singleton] at hq; subst hq; exact hr⟩
  have h2 : wi 0 60 r.min = true := wi_iff.2 ⟨hr.m0, hr.m1⟩
  cases h : now s [r] r.min with
  | none => left; simp [untilA, watE, hc, h1, h2, h]
  | some x => right; exact ⟨x, rfl, by simp [untilA, watE, hc, h1, h2, h]⟩
set_option maxRecDepth 100000 in
set_option maxHeartbeats 8000000 in
theorem gasShorter_c (s : Spc) (m : Sl) (a0 a1 a2 a3 : Nat) (w : World) (hsa : SAt w m s) (b0 : a0 ≤ 255) (b1 : a1 ≤ 255) (b2 : a2 ≤ 255) (b3 : a3 ≤ 255) :
    Calls Try.prog 14 #[.agg (sV s m), .agg #[.int .u8 (a0 : Int), .int .u8 (a1 : Int), .int .u8 (a2 : Int), .int .u8 (a3 : Int)]] w fun e w' => e = .returned (.bool true) ∧ Below w.heap.size w w' := by
  have hsn0 := ((Since.refl w).alloc (.cells (sV s m) 27)).alloc (.cells #[.int .u8 (a0 : Int), .int .u8 (a1 : Int), .int .u8 (a2 : Int), .int .u8 (a3 : Int)] 82)
  have HS0 := Lib.hid ((Blk.new w 27 (sV s m)).alloc (.cells #[.int .u8 (a0 : Int), .int .u8 (a1 : Int), .int .u8 (a2 : Int), .int .u8 (a3 : Int)] 82))
  have HA0 := Lib.hid (Blk.new1 w (.cells (sV s m) 27) 82 #[.int .u8 (a0 : Int), .int .u8 (a1 : Int), .int .u8 (a2 : Int), .int .u8 (a3 : Int)])
  obtain ⟨c0, c1, c2, c3, c4, c5, c6, c7, c8⟩ := HS0.out.space
  go_enter Try.func14, Try.ntmps14
  go_wp2_with fail
  refine (valid_c s m _ (hsa.keep hsn0.1)).mono ?_
  rintro e w1 ⟨rfl, hb1⟩
  have hsn1 := hsn0.keep hb1
  have HS1 := Lib.hid (HS0.out.keep hb1)
  have HA1 := Lib.hid (HA0.out.keep hb1)
  clear c0 c1 c2 c3 c4 c5 c6 c7 c8 HS0 HA0 hsn0 hb1
  by_cases hc : (chk s).2.2 = 0
  · have hc' : ((chk s).2.2 == 0) = true := by simpa using hc
    have HC := Lib.hid hc
    have hs := chk_ok hc
    have ht1 := hs.t1
    have ht3 := hs.t3
    rw [hc']
    clear hc hc'
    obtain ⟨tl, htl⟩ : ∃ tl, a0 % s.tools.length = tl := ⟨_, rfl⟩
    obtain ⟨mi, hmi⟩ : ∃ mi, a3 % 61 = mi := ⟨_, rfl⟩
    obtain ⟨sh, hsh⟩ : ∃ sh, a1 % 251 = sh := ⟨_, rfl⟩
    have htl2 : tl < s.tools.length := by rw [← htl]; exact Nat.mod_lt _ (by omega)
    have hmi2 : mi < 61 := by rw [← hmi]; exact Nat.mod_lt _ (by omega)
    have hsh2 : sh < 251 := by rw [← hsh]; exact Nat.mod_lt _ (by omega)
    have HNE : Hid (¬ s.tools = []) := fun h => by rw [h] at ht1; simp at ht1
    have HZ : Hid (((s.tools.length : Int) == 0) = false) := beq_eq_false_iff_ne.2 (by omega)
    have hem : ((a0 : Int) % (s.tools.length : Int)) = (tl : Int) := by rw [← htl]; rfl
    have HEM := Lib.hid hem
    have HTM : Hid ((a0 : Int).tmod (s.tools.length : Int) = (tl : Int)) := by show _ = _; rw [Int.tmod_eq_emod_of_nonneg (by omega)]; exact hem
    have hem2 : ((a3 : Int) % (61 : Int)) = (mi : Int) := by omega
    have HEM2 := Lib.hid hem2
    have HTM2 : Hid ((a3 : Int).tmod (61 : Int) = (mi : Int)) := by show _ = _; rw [Int.tmod_eq_emod_of_nonneg (by omega)]; exact hem2
    have hem3 : ((a1 : Int) % (251 : Int)) = (sh : Int) := by omega
    have HEM3 := Lib.hid hem3
    have HTM3 : Hid ((a1 : Int).tmod (251 : Int) = (sh : Int)) := by show _ = _; rw [Int.tmod_eq_emod_of_nonneg (by omega)]; exact hem3
    clear htl hmi hsh hem hem2 hem3
    go_wp2_with fail
    refine Vals6.regionAll (fun X => Blk X w.heap.size 27 (sV s m) ∧ Blk X (w.heap.size + 1) 82 #[.int .u8 (a0 : Int), .int .u8 (a1 : Int), .int .u8 (a2 : Int), .int .u8 (a3 : Int)] ∧ Since w X) [some 30, some 31, some 32, some 33, some 34, some 35, some 36, some 37, some 38, some 39, some 40, some 7] [.is (.pointer (some ⟨w.heap.size + 1, 0, none⟩)), .is (.int .u8 (a0 : Int)), .is (.int .i64 (a0 : Int)), .is (.pointer (some ⟨w.heap.size, 8, none⟩)), .is (.slice m.T s.tools.length m.d), .is (.int .i64 (s.tools.length : Int)), .is (.int .i64 (tl : Int)), .is (.pointer (some ⟨w.heap.size + 1, 3, none⟩)), .is (.int .u8 (a3 : Int)), .is (.int .i64 (a3 : Int)), .is (.int .i64 (mi : Int)), .is (.int .i64 (tl : Int))] (by kernel_rfl) rfl rfl (by kernel_rfl) (by kernel_rfl) (by kernel_rfl) (by kernel_rfl) (by kernel_rfl) (by kernel_rfl) (by kernel_rfl) (⟨HS1.out.drew, HA1.out.drew, hsn1.drew⟩) ?_ ?_
    · refine Vals5.Steps.run (by kernel_rfl) (Vals5.Stable.is _) ?_ ?_
      · intro a W hS pre old K hK
        have e3 : a.tmps.getD 3 undef = .pointer (some ⟨w.heap.size + 1, 0, none⟩) := old 3 _ (by kernel_rfl) rfl
        clear pre old
        simp only [Array.getD_eq_getD_getElem?] at e3
        go_simp
        exact hK _ _ hS (Below.refl _ _) rfl
      refine Vals5.Steps.run (by kernel_rfl) (Vals5.Stable.is _) ?_ ?_
      · intro a W hS pre old K hK
        have e30 : a.tmps.getD 30 undef = .pointer (some ⟨w.heap.size + 1, 0, none⟩) := pre 0 30 _ (by kernel_rfl) rfl rfl
        clear pre old
        simp only [Array.getD_eq_getD_getElem?] at e30
        have hS9 := hS
        obtain ⟨l1, l2, _⟩ := hS9
        obtain ⟨c0, c1, c2, c3, c4, c5, c6, c7, c8⟩ := l1.space
        have x0 := l2.cell 0
        have x3 := l2.cell 3
        simp only [List.getElem?_toArray, List.getElem?_cons_zero, List.getElem?_cons_succ] at x0 x3
        go_simp
        exact hK _ _ hS (Below.refl _ _) rfl
      refine Vals5.Steps.run (by kernel_rfl) (Vals5.Stable.is _) ?_ ?_
      · intro a W hS pre old K hK
        have e31 : a.tmps.getD 31 undef = .int .u8 (a0 : Int) := pre 1 31 _ (by kernel_rfl) rfl rfl
        clear pre old
        simp only [Array.getD_eq_getD_getElem?] at e31
        have hw8 : IntKind.i64.wrap (a0 : Int) = (a0 : Int) := IntWalk.i64_in _ (by omega)
        go_simp
        exact hK _ _ hS (Below.refl _ _) rfl
      refine Vals5.Steps.run (by kernel_rfl) (Vals5.Stable.is _) ?_ ?_
      · intro a W hS pre old K hK
        have e2 : a.tmps.getD 2 undef = .pointer (some ⟨w.heap.size, 0, none⟩) := old 2 _ (by kernel_rfl) rfl
        clear pre old
        simp only [Array.getD_eq_getD_getElem?] at e2
        go_simp
        exact hK _ _ hS (Below.refl _ _) rfl
      refine Vals5.Steps.run (by kernel_rfl) (Vals5.Stable.is _) ?_ ?_
      · intro a W hS pre old K hK
        have e33 : a.tmps.getD 33 undef = .pointer (some ⟨w.heap.size, 8, none⟩) := pre 3 33 _ (by kernel_rfl) rfl rfl
        clear pre old
        simp only [Array.getD_eq_getD_getElem?] at e33
        have hS9 := hS
        obtain ⟨l1, l2, _⟩ := hS9
        obtain ⟨c0, c1, c2, c3, c4, c5, c6, c7, c8⟩ := l1.space
        have x0 := l2.cell 0
        have x3 := l2.cell 3
        simp only [List.getElem?_toArray, List.getElem?_cons_zero, List.getElem?_cons_succ] at x0 x3
        go_simp
        exact hK _ _ hS (Below.refl _ _) rfl
      refine Vals5.Steps.run (by kernel_rfl) (Vals5.Stable.is _) ?_ ?_
      · intro a W hS pre old K hK
        have e34 : a.tmps.getD 34 undef = .slice m.T s.tools.length m.d := pre 4 34 _ (by kernel_rfl) rfl rfl
        clear pre old
        simp only [Array.getD_eq_getD_getElem?] at e34
        go_simp
        exact hK _ _ hS (Below.refl _ _) rfl
      refine Vals5.Steps.run (by kernel_rfl) (Vals5.Stable.is _) ?_ ?_
      · intro a W hS pre old K hK
        have e32 : a.tmps.getD 32 undef = .int .i64 (a0 : Int) := pre 2 32 _ (by kernel_rfl) rfl rfl
        have e35 : a.tmps.getD 35 undef = .int .i64 (s.tools.length : Int) := pre 5 35 _ (by kernel_rfl) rfl rfl
        clear pre old
        simp only [Array.getD_eq_getD_getElem?] at e32 e35
        have hne := HNE.out
        have hz := HZ.out
        have htm := HTM.out
        have hem := HEM.out
        go_simp
        first | (exact hK _ _ hS (Below.refl _ _) rfl) | (rw [if_neg hne]; exact hK _ _ hS (Below.refl _ _) rfl)
      refine Vals5.Steps.run (by kernel_rfl) (Vals5.Stable.is _) ?_ ?_
      · intro a W hS pre old K hK
        have e3 : a.tmps.getD 3 undef = .pointer (some ⟨w.heap.size + 1, 0, none⟩) := old 3 _ (by kernel_rfl) rfl
        clear pre old
        simp only [Array.getD_eq_getD_getElem?] at e3
        go_simp
        exact hK _ _ hS (Below.refl _ _) rfl
      refine Vals5.Steps.run (by kernel_rfl) (Vals5.Stable.is _) ?_ ?_
      · intro a W hS pre old K hK
        have e37 : a.tmps.getD 37 undef = .pointer (some ⟨w.heap.size + 1, 3, none⟩) := pre 7 37 _ (by kernel_rfl) rfl rfl
        clear pre old
        simp only [Array.getD_eq_getD_getElem?] at e37
        have hS9 := hS
        obtain ⟨l1, l2, _⟩ := hS9
        obtain ⟨c0, c1, c2, c3, c4, c5, c6, c7, c8⟩ := l1.space
        have x0 := l2.cell 0
        have x3 := l2.cell 3
        simp only [List.getElem?_toArray, List.getElem?_cons_zero, List.getElem?_cons_succ] at x0 x3
        go_simp
        exact hK _ _ hS (Below.refl _ _) rfl
      refine Vals5.Steps.run (by kernel_rfl) (Vals5.Stable.is _) ?_ ?_
      · intro a W hS pre old K hK
        have e38 : a.tmps.getD 38 undef = .int .u8 (a3 : Int) := pre 8 38 _ (by kernel_rfl) rfl rfl
        clear pre old
        simp only [Array.getD_eq_getD_getElem?] at e38
        have hw8 : IntKind.i64.wrap (a3 : Int) = (a3 : Int) := IntWalk.i64_in _ (by omega)
        go_simp
        exact hK _ _ hS (Below.refl _ _) rfl
      refine Vals5.Steps.run (by kernel_rfl) (Vals5.Stable.is _) ?_ ?_
      · intro a W hS pre old K hK
        have e39 : a.tmps.getD 39 undef = .int .i64 (a3 : Int) := pre 9 39 _ (by kernel_rfl) rfl rfl
        clear pre old
        simp only [Array.getD_eq_getD_getElem?] at e39
        have htm := HTM2.out
        have hem := HEM2.out
        go_simp
        exact hK _ _ hS (Below.refl _ _) rfl
      refine Vals5.Steps.run (by kernel_rfl) (Vals5.Stable.is _) ?_ ?_
      · intro a W hS pre old K hK
        have e36 : a.tmps.getD 36 undef = .int .i64 (tl : Int) := pre 6 36 _ (by kernel_rfl) rfl rfl
        clear pre old
        simp only [Array.getD_eq_getD_getElem?] at e36
        go_simp
        exact hK _ _ hS (Below.refl _ _) rfl
      exact Vals5.Steps.nil
    rintro X ⟨HS2, HA2, hsn2⟩
    simp only [Vals5.All, List.getLast_cons_cons, List.getLast_singleton]
    simp only [Vals.putAll, List.setIfInBounds_toArray, List.set_cons_zero, List.set_cons_succ]
    intro K hK
    go_simp
    refine hK _ _ ?_
    clear hK K
    obtain ⟨mo, hmo⟩ : ∃ mo : Int, min 250 ((sh : Int) + (a2 : Int)) = mo := ⟨_, rfl⟩
    have hmo1 : (sh : Int) ≤ mo := by omega
    have hmo2 : mo ≤ 250 := by omega
    have hr := rok_any hs (mi := mi) (tl := tl) (sh := sh) (by omega) (by omega) (by omega) (by omega) (by omega) (by omega)
    have hr2 := rok_any hs (mi := mi) (tl := tl) (sh := mo) (by omega) (by omega) (by omega) (by omega) (by omega) (by omega)
    have hin := hol_in (s := s) (r := ⟨(mi : Int), (tl : Int), (sh : Int)⟩) hr.m0 hr.m1
    have hle := hol_less (s := s) (r := ⟨(mi : Int), (tl : Int), (sh : Int)⟩) (r' := ⟨(mi : Int), (tl : Int), mo⟩) hs (show (0 : Int) ≤ sh by omega) rfl rfl hmo1 hr.m0
    obtain ⟨hi0, hi1, _⟩ := hin
    have hUC := untilA_one HC.out hr
    have hUH : ∀ x, now s [⟨(mi : Int), (tl : Int), (sh : Int)⟩] (mi : Int) = some x → hol s ⟨(mi : Int), (tl : Int), (sh : Int)⟩ ≤ untl s (kno [⟨(mi : Int), (tl : Int), (sh : Int)⟩] (mi : Int)) (mi : Int) (some x) := fun x hx => hol_until hs hr (show (0 : Int) ≤ sh by omega) hx
    have hH1 := fun W (hW : SAt W m s) => holds2_c s m ⟨(mi : Int), (tl : Int), (sh : Int)⟩ W hW
    have hH2 := fun W (hW : SAt W m s) => holds2_c s m ⟨(mi : Int), (tl : Int), mo⟩ W hW
    rw [holdsA_ok HC.out hr] at hH1
    rw [holdsA_ok HC.out hr2] at hH2
    have hU := fun W (hW : SAt W m s) (g : Nat) (hg : Blk W g 61 (rV ⟨(mi : Int), (tl : Int), (sh : Int)⟩)) => until2_c s m (some ⟨g, 0, none⟩) [⟨(mi : Int), (tl : Int), (sh : Int)⟩] 1 (mi : Int) W hW (Nat.le_refl _) (by decide) (RdAt.one hg)
    obtain ⟨n, hn⟩ : ∃ n, hol s ⟨(mi : Int), (tl : Int), (sh : Int)⟩ = n := ⟨_, rfl⟩
    obtain ⟨q, hq⟩ : ∃ q, hol s ⟨(mi : Int), (tl : Int), mo⟩ = q := ⟨_, rfl⟩
    rw [hn] at hH1 hi0 hi1 hle hUH
    rw [hq] at hH2 hle
    have HH1 := Lib.hid hH1
    have HH2 := Lib.hid hH2
    have HU := Lib.hid hU
    have HUC := Lib.hid hUC
    have HUH := Lib.hid hUH
    have HMO := Lib.hid hmo
    clear hn hq hr hr2 hH1 hH2 hU hUC hUH HNE HZ HEM HTM HEM2 HTM2
    have htm := HTM3.out
    have hem := HEM3.out
    have hw1 : IntKind.i64.wrap (a1 : Int) = (a1 : Int) := IntWalk.i64_in _ (by omega)
    have hw2 : IntKind.i64.wrap (a2 : Int) = (a2 : Int) := IntWalk.i64_in _ (by omega)
    have hw3 : IntKind.i64.wrap ((sh : Int) + (a2 : Int)) = (sh : Int) + (a2 : Int) := IntWalk.i64_in _ (by omega)
    have x1 := HA2.cell 1
    have x2 := HA2.cell 2
    simp only [List.getElem?_toArray, List.getElem?_cons_zero, List.getElem?_cons_succ] at x1 x2
    obtain ⟨c0, c1, c2, c3, c4, c5, c6, c7, c8⟩ := HS2.space
    rcases (by omega : ((sh : Int) + (a2 : Int) < 250 ∧ mo = (sh : Int) + (a2 : Int)) ∨ (¬ (sh : Int) + (a2 : Int) < 250 ∧ mo = 250)) with ⟨h2, hn2⟩ | ⟨h2, hn2⟩
    all_goals
      subst hn2
      clear hmo
      go_wp2_with fail
      refine (HH1.out _ (hsa.keep hsn2.1)).mono ?_
      rintro e w3 ⟨rfl, hb3⟩
      have hsn3 := hsn2.keep hb3
      have HS3 := HS2.keep hb3
      clear c0 c1 c2 c3 c4 c5 c6 c7 c8 HS2 hsn2 x1 x2 HA2 hb3
      obtain ⟨c0, c1, c2, c3, c4, c5, c6, c7, c8⟩ := HS3.space
      go_wp2_with fail
      refine (HH2.out _ (hsa.keep hsn3.1)).mono ?_
      rintro e w4 ⟨rfl, hb4⟩
      have hsn4 := (hsn3.keep hb4).alloc (.cells (rV ⟨(mi : Int), (tl : Int), (sh : Int)⟩) 61)
      have HS4 := HS3.keep hb4
      clear c0 c1 c2 c3 c4 c5 c6 c7 c8 HS3 hsn3 hb4
      have HU4 := HU.out _ (hsa.keep hsn4.1) w4.heap.size (Blk.new w4 _ _)
      obtain ⟨c0, c1, c2, c3, c4, c5, c6, c7, c8⟩ := HS4.space
      have g1 : ¬ n < q := by omega
      have g2 : ¬ n < -1 := by omega
      have g3 : ¬ 60 < n := by omega
      have htl0 := ht1
      rcases HUC.out with ⟨_, hua⟩ | ⟨x, hx, hua⟩
      · rw [hua] at HU4
        clear hua HUC HUH HU hle hi0 hi1
        go_wp2_with fail
        refine HU4.mono ?_
        rintro e w5 ⟨rfl, hb5⟩
        have hsn5 := hsn4.keep hb5
        clear HU4 c0 c1 c2 c3 c4 c5 c6 c7 c8
        go_wp2_with fail
        refine (awake_c _).mono ?_
        rintro e w6 ⟨rfl, hb6⟩
        go_wp2_with fail
        go_ret
        exact ⟨rfl, (hsn5.keep hb6).1⟩
      · have hun := HUH.out x hx
        obtain ⟨u, hu⟩ : ∃ u, untl s (kno [⟨(mi : Int), (tl : Int), (sh : Int)⟩] (mi : Int)) (mi : Int) (some x) = u := ⟨_, rfl⟩
        rw [hua] at HU4
        dsimp only at HU4
        rw [hu] at HU4 hun
        clear hua HUC HUH HU hle hi0 hi1 hu hx
        go_wp2_with fail
        refine HU4.mono ?_
        rintro e w5 ⟨rfl, hb5⟩
        have hsn5 := hsn4.keep hb5
        clear HU4 c0 c1 c2 c3 c4 c5 c6 c7 c8
        go_wp2_with fail
        refine (awake_c _).mono ?_
        rintro e w6 ⟨rfl, hb6⟩
        go_wp2_with fail
        go_ret
        exact ⟨rfl, (hsn5.keep hb6).1⟩
  · have hc' : ((chk s).2.2 == 0) = false := by simpa using hc
    have hv : holdsA s ⟨0, 0, 0⟩ = (0, (chk s).2.2) := by simp [holdsA, toolE2, hc]
    have hcn : ((chk s).2.2 != 0) = true := by simpa using hc
    rw [hc']
    obtain ⟨c0, c1, c2, c3, c4, c5, c6, c7, c8⟩ := HS1.out.space
    have hH := holds2_c s m ⟨0, 0, 0⟩ w1 (hsa.keep hsn1.1)
    rw [hv] at hH
    clear hv hc hc'
    go_wp2_with fail
    refine hH.mono ?_
    rintro e w2 ⟨rfl, hb2⟩
    have hsn2 := hsn1.keep hb2
    clear hH c0 c1 c2 c3 c4 c5 c6 c7 c8
    go_wp2_with fail
    refine (awake_c _).mono ?_
    rintro e w3 ⟨rfl, hb3⟩
    go_wp2_with fail
    go_ret
    exact ⟨rfl, (hsn2.keep hb3).1⟩
end Td
end Go.Proofs.Ytmofbnadfgejiaa
/- The reference: the error of readings. -/
namespace Go.Proofs.Ytmofbnadfgejiaa
open Go.RowKit
namespace Td
set_option linter.unusedSimpArgs false
set_option linter.unusedVariables false
attribute [local go_sem] Oper.semAt_some
def rdgE (s : Spc) (l : List Rd) : Int := if (chk s).2.2 ≠ 0 then (chk s).2.2 else rdsE s.tools.length l
theorem rds_bad {n : Nat} {l : List Rd} {k : Nat} (h12 : l.length ≤ 12) (hk : k < l.length) (h0 : ∀ j, j < k → rdAt n l j = 0) (h : rdAt n l k ≠ 0) : rdsE n l = rdAt n l k := by
  unfold rdsE
  rw [if_neg (by omega), ff_at hk h0 h]
theorem rds_good {n : Nat} {l : List Rd} (h12 : l.length ≤ 12) (h0 : ∀ j, j < l.length → rdAt n l j = 0) : rdsE n l = 0 := by
  unfold rdsE
  rw [if_neg (by omega), ff_ok h0]
set_option maxRecDepth 100000 in
set_option maxHeartbeats 8000000 in
theorem readings_c (s : Spc) (m : Sl) (A : Option Addr) (l : List Rd) (c : Nat) (w : World) (hsa : SAt w m s) (hp : RdAt w A l) (hlM : l.length ≤ 9223372036854775807) :
    Calls Try.prog 36 #[.agg (sV s m), .slice A l.length c] w fun e w' => e = .returned (.int .i64 (rdgE s l)) ∧ Below w.heap.size w w' := by
  obtain ⟨E, hE⟩ : ∃ E, rdgE s l = E := ⟨_, rfl⟩
  rw [hE]
  unfold rdgE at hE
  have hsn0 := (Since.refl w).alloc (.cells (sV s m) 27)
  have HB0 := Lib.hid (Blk.new w 27 (sV s m))
  obtain ⟨c0, c1, c2, c3, c4, c5, c6, c7, c8⟩ := HB0.out.space
  go_enter Try.func36, Try.ntmps36
  go_wp2_with fail
  refine (rcheck_c s m _ (hsa.keep hsn0.1)).mono ?_
  rintro e w1 ⟨rfl, hb1⟩
  have hsn1 := hsn0.keep hb1
  have HB1 := Lib.hid (HB0.out.keep hb1)
  clear c0 c1 c2 c3 c4 c5 c6 c7 c8 hsn0 HB0 hb1
  by_cases hc : (chk s).2.2 = 0
  · rw [if_neg (by simpa using hc)] at hE
    have hs := chk_ok hc
    have ht3 := hs.t3
    rw [hc]
    clear hc
    by_cases h12 : 12 < l.length
    · have HV : Hid ((3 : Int) = E) := by rw [← hE]; show _ = _; unfold rdsE; rw [if_pos h12]
      have h12' : (12 : Int) < (l.length : Int) := by omega
      have h0l : (0 : Int) < (l.length : Int) := by omega
      have h0n : 0 < l.length := by omega
      clear hE
      go_wp2_with fail
      refine wp_loop_rounds 1 ?_
      rw [rounds_succ]
      go_wp2_with fail
      go_ret
      exact ⟨ret_int HV.out, hsn1.1⟩
    · have h12' : ¬ (12 : Int) < (l.length : Int) := by omega
      have HL : Hid (l.length ≤ 12) := Nat.le_of_not_lt h12
      have HE := Lib.hid hE
      have HW9 : Hid (IntKind.i64.wrap ((s.tools.length : Int) - 1) = (s.tools.length : Int) - 1) := IntWalk.i64_in _ (by omega)
      clear hE h12
      go_wp2_with fail
      clear h12'
      go_loopw [7, 8] (fun ev i wr => ∃ (k : Nat) (x : Int), k ≤ l.length ∧ i = .int .i64 k ∧ ev = .int .i64 x ∧ Since w wr ∧ Hid (Blk wr w.heap.size 27 (sV s m)) ∧ Hid ((x = 0 ∧ ∀ j, j < k → rdAt s.tools.length l j = 0) ∨ (x ≠ 0 ∧ x = E))) (fun _ i _ => l.length - (intOf i).toNat)
      case atStart => exact ⟨0, 0, Nat.zero_le _, rfl, rfl, hsn1, HB1, .inl ⟨rfl, fun j h => absurd h (by omega)⟩⟩
      case round =>
        obtain ⟨k, x, hk, rfl, rfl, hsn, HB, HI⟩ := hrel
        by_cases hlt : k < l.length
        · have hki : (k : Int) < (l.length : Int) := by omega
          by_cases hx : x = 0
          · have HZ : Hid (∀ j, j < k → rdAt s.tools.length l j = 0) := by
              rcases HI.out with ⟨_, h⟩ | ⟨h, _⟩
              · exact h
              · exact absurd hx h
            subst hx
            clear HI
            obtain ⟨ad, hA, q0, q1, q2⟩ := hp.get hlt
            subst hA
            have HC0 := Lib.hid q0
            have HC1 := Lib.hid q1
            have HC2 := Lib.hid q2
            have HKI := Lib.hid hki
            have HBad : Hid (rdE s.tools.length l[k] ≠ 0 → rdE s.tools.length l[k] = E) := fun h => by
              have h1 : rdAt s.tools.length l k = rdE s.tools.length l[k] := by simp [rdAt, List.getElem?_eq_getElem hlt]
              have := rds_bad HL.out hlt HZ.out (by rw [h1]; exact h)
              rw [h1] at this
              rw [← this]
              exact HE.out
            have HGood : Hid (rdE s.tools.length l[k] = 0 → ∀ j, j < k + 1 → rdAt s.tools.length l j = 0) := fun h j hj => by
              rcases Nat.lt_or_ge j k with h1 | h1
              · exact HZ.out j h1
              · obtain rfl : j = k := by omega
                simp [rdAt, List.getElem?_eq_getElem hlt, h]
            clear q0 q1 q2
            go_wp2_with fail
            refine Vals9.region (fun _ X => Blk X w.heap.size 27 (sV s m) ∧ Since w X) [some 32, some 33, some 34, some 35, some 36, some 37, some 38, some 39, some 40, some 41, some 42] [.is (.slice (some ad) l.length c), .is (.int .i64 (k : Int)), .is (.pointer (some (ad.add (k * 3)))), .is (.pointer (some (at_ (ad.add (k * 3)) 1))), .is (.int .i64 l[k].tool), .is (.pointer (some ⟨w.heap.size, 8, none⟩)), .is (.slice m.T s.tools.length m.d), .is (.int .i64 (s.tools.length : Int)), .is (.int .i64 ((s.tools.length : Int) - 1)), .is (.bool (wi 0 ((s.tools.length : Int) - 1) l[k].tool)), .is (.bool (!(wi 0 ((s.tools.length : Int) - 1) l[k].tool)))] (by kernel_rfl) (by kernel_rfl) (by kernel_rfl) (by kernel_rfl) (by kernel_rfl) (by kernel_rfl) (⟨HB.out.drew, hsn.drew⟩) ?_ ?_
            · refine Vals9.Steps.run (by kernel_rfl) ?_ ?_
              · intro a W σ hJ pre K hK
                have e1 : a.tmps.getD 1 undef = .slice (some ad) l.length c := pre.2.2 1 _ (by kernel_rfl) rfl
                clear pre
                simp only [Array.getD_eq_getD_getElem?] at e1
                go_simp
                exact hK _ hJ
              refine Vals9.Steps.run (by kernel_rfl) ?_ ?_
              · intro a W σ hJ pre K hK
                have e8 : a.tmps.getD 8 undef = .int .i64 (k : Int) := pre.2.2 8 _ (by kernel_rfl) rfl
                clear pre
                simp only [Array.getD_eq_getD_getElem?] at e8
                go_simp
                exact hK _ hJ
              refine Vals9.Steps.run (by kernel_rfl) ?_ ?_
              · intro a W σ hJ pre K hK
                have e32 : a.tmps.getD 32 undef = .slice (some ad) l.length c := pre.1 0 32 _ (by kernel_rfl) rfl rfl
                have e33 : a.tmps.getD 33 undef = .int .i64 (k : Int) := pre.1 1 33 _ (by kernel_rfl) rfl rfl
                clear pre
                simp only [Array.getD_eq_getD_getElem?] at e32 e33
                have hki := HKI.out
                go_simp
                exact hK _ hJ
              refine Vals9.Steps.run (by kernel_rfl) ?_ ?_
              · intro a W σ hJ pre K hK
                have e34 : a.tmps.getD 34 undef = .pointer (some (ad.add (k * 3))) := pre.1 2 34 _ (by kernel_rfl) rfl rfl
                clear pre
                simp only [Array.getD_eq_getD_getElem?] at e34
                go_simp
                exact hK _ hJ
              refine Vals9.Steps.run (by kernel_rfl) ?_ ?_
              · intro a W σ hJ pre K hK
                have e35 : a.tmps.getD 35 undef = .pointer (some (at_ (ad.add (k * 3)) 1)) := pre.1 3 35 _ (by kernel_rfl) rfl rfl
                clear pre
                simp only [Array.getD_eq_getD_getElem?] at e35
                have hS9 := hJ
                obtain ⟨l1, l2⟩ := hS9
                have q1 := keep_cell l2.1 HC1.out
                obtain ⟨c0, c1, c2, c3, c4, c5, c6, c7, c8⟩ := l1.space
                go_simp
                exact hK _ hJ
              refine Vals9.Steps.run (by kernel_rfl) ?_ ?_
              · intro a W σ hJ pre K hK
                have e2 : a.tmps.getD 2 undef = .pointer (some ⟨w.heap.size, 0, none⟩) := pre.2.2 2 _ (by kernel_rfl) rfl
                clear pre
                simp only [Array.getD_eq_getD_getElem?] at e2
                go_simp
                exact hK _ hJ
              refine Vals9.Steps.run (by kernel_rfl) ?_ ?_
              · intro a W σ hJ pre K hK
                have e37 : a.tmps.getD 37 undef = .pointer (some ⟨w.heap.size, 8, none⟩) := pre.1 5 37 _ (by kernel_rfl) rfl rfl
                clear pre
                simp only [Array.getD_eq_getD_getElem?] at e37
                have hS9 := hJ
                obtain ⟨l1, l2⟩ := hS9
                have q1 := keep_cell l2.1 HC1.out
                obtain ⟨c0, c1, c2, c3, c4, c5, c6, c7, c8⟩ := l1.space
                go_simp
                exact hK _ hJ
              refine Vals9.Steps.run (by kernel_rfl) ?_ ?_
              · intro a W σ hJ pre K hK
                have e38 : a.tmps.getD 38 undef = .slice m.T s.tools.length m.d := pre.1 6 38 _ (by kernel_rfl) rfl rfl
                clear pre
                simp only [Array.getD_eq_getD_getElem?] at e38
                go_simp
                exact hK _ hJ
              refine Vals9.Steps.run (by kernel_rfl) ?_ ?_
              · intro a W σ hJ pre K hK
                have e39 : a.tmps.getD 39 undef = .int .i64 (s.tools.length : Int) := pre.1 7 39 _ (by kernel_rfl) rfl rfl
                clear pre
                simp only [Array.getD_eq_getD_getElem?] at e39
                have hw9 := HW9.out
                go_simp
                exact hK _ hJ
              refine Vals9.Steps.run (by kernel_rfl) ?_ ?_
              · intro a W σ hJ pre K hK
                have e36 : a.tmps.getD 36 undef = .int .i64 l[k].tool := pre.1 4 36 _ (by kernel_rfl) rfl rfl
                have e40 : a.tmps.getD 40 undef = .int .i64 ((s.tools.length : Int) - 1) := pre.1 8 40 _ (by kernel_rfl) rfl rfl
                clear pre
                simp only [Array.getD_eq_getD_getElem?] at e36 e40
                go_simp
                refine (rin_c 0 ((s.tools.length : Int) - 1) l[k].tool _).mono ?_
                rintro e w' ⟨rfl, rfl⟩
                exact hK _ hJ
              refine Vals9.Steps.run (by kernel_rfl) ?_ ?_
              · intro a W σ hJ pre K hK
                have e41 : a.tmps.getD 41 undef = .bool (wi 0 ((s.tools.length : Int) - 1) l[k].tool) := pre.1 9 41 _ (by kernel_rfl) rfl rfl
                clear pre
                simp only [Array.getD_eq_getD_getElem?] at e41
                go_simp
                exact hK _ hJ
              exact Vals9.Steps.nil
            · intro X σ hJ
              simp only [Vals9.All]
              simp only [Vals.putAll, List.setIfInBounds_toArray, List.set_cons_zero, List.set_cons_succ]
              obtain ⟨HS2, hsn2⟩ := hJ
              rcases Bool.eq_false_or_eq_true (wi 0 ((s.tools.length : Int) - 1) l[k].tool) with h1 | h1
              · have q0 := keep_cell hsn2.1 HC0.out
                have q2 := keep_cell hsn2.1 HC2.out
                rw [h1]
                have H1 := Lib.hid h1
                clear h1
                go_wp2_with fail
                refine (rin_c 0 60 l[k].min _).mono ?_
                rintro e w' ⟨rfl, rfl⟩
                rcases Bool.eq_false_or_eq_true (wi 0 60 l[k].min) with h2 | h2
                · rw [h2]
                  have H2 := Lib.hid h2
                  clear h2
                  go_wp2_with fail
                  refine (rin_c (-50) 250 l[k].shown _).mono ?_
                  rintro e w' ⟨rfl, rfl⟩
                  rcases Bool.eq_false_or_eq_true (wi (-50) 250 l[k].shown) with h3 | h3
                  · have HV := Lib.hid (HGood.out (by unfold rdE; rw [H1.out, H2.out, h3]; rfl))
                    rw [h3]
                    clear h3
                    go_wp2_with fail
                    go_roundw
                    case rel => exact ⟨k + 1, 0, by omega, by go_num, rfl, hsn2, HS2, .inl ⟨rfl, HV.out⟩⟩
                    case measure => simp [intOf]; omega
                  · have h9 : rdE s.tools.length l[k] = 7 := by unfold rdE; rw [H1.out, H2.out, h3]; rfl
                    have HV : Hid ((7 : Int) = E) := by have := HBad.out (by rw [h9]; decide); rw [h9] at this; exact this
                    rw [h3]
                    clear h3 h9
                    go_wp2_with fail
                    go_roundw
                    case rel => exact ⟨k + 1, 7, by omega, by go_num, rfl, hsn2, HS2, .inr ⟨by decide, HV.out⟩⟩
                    case measure => simp [intOf]; omega
                · have h9 : rdE s.tools.length l[k] = 7 := by unfold rdE; rw [H1.out, h2]; rfl
                  have HV : Hid ((7 : Int) = E) := by have := HBad.out (by rw [h9]; decide); rw [h9] at this; exact this
                  rw [h2]
                  clear h2 h9
                  go_wp2_with fail
                  go_roundw
                  case rel => exact ⟨k + 1, 7, by omega, by go_num, rfl, hsn2, HS2, .inr ⟨by decide, HV.out⟩⟩
                  case measure => simp [intOf]; omega
              · have h9 : rdE s.tools.length l[k] = 4 := by unfold rdE; rw [h1]; rfl
                have HV : Hid ((4 : Int) = E) := by have := HBad.out (by rw [h9]; decide); rw [h9] at this; exact this
                rw [h1]
                clear h1 h9
                go_wp2_with fail
                go_roundw
                case rel => exact ⟨k + 1, 4, by omega, by go_num, rfl, hsn2, HS2, .inr ⟨by decide, HV.out⟩⟩
                case measure => simp [intOf]; omega
          · have HV : Hid (x = E) := by
              rcases HI.out with ⟨h, _⟩ | ⟨_, h⟩
              · exact absurd h hx
              · exact h
            have hx' : ((x : Int) == 0) = false := by simpa using hx
            clear hx HI
            go_wp2_with fail
            go_ret
            exact ⟨ret_int HV.out, hsn.1⟩
        · have HV : Hid (x = E) := by
            rcases HI.out with ⟨h, h2⟩ | ⟨_, h⟩
            · show _ = _
              rw [h, ← HE.out, rds_good HL.out (fun j hj => h2 j (by omega))]
            · exact h
          have hki : ¬ (k : Int) < (l.length : Int) := by omega
          go_wp2_with fail
          go_ret
          exact ⟨ret_int HV.out, hsn.1⟩
  · rw [if_pos hc] at hE
    have HV := Lib.hid hE
    have hc' : ((chk s).2.2 == 0) = false := by simpa using hc
    clear hc hE
    go_wp2_with fail
    refine wp_loop_rounds 1 ?_
    rw [rounds_succ]
    by_cases h0 : 0 < l.length
    · have h0l : (0 : Int) < (l.length : Int) := by omega
      go_wp2_with fail
      go_ret
      exact ⟨ret_int HV.out, hsn1.1⟩
    · have h00 : l.length = 0 := by omega
      go_wp2_with fail
      go_ret
      exact ⟨ret_int HV.out, hsn1.1⟩
end Td
end Go.Proofs.Ytmofbnadfgejiaa
/- The law package: by turns, among, inside; the reference: Limited, Rise. -/
namespace Go.Proofs.Ytmofbnadfgejiaa
open Go.RowKit
namespace Td
set_option linter.unusedSimpArgs false
set_option linter.unusedVariables false
/-- numbers of 16 bits in a row. -/
def U16At (w : World) (A : Option Addr) (l : List Int) : Prop :=
  l ≠ [] → ∃ a, A = some a ∧ ∀ i p, l[i]? = some p → w.cell? (a.add i) = some (.int .u16 p)
theorem U16At.keep {w w' : World} {A : Option Addr} {l : List Int} (h : U16At w A l) (hb : Below w.heap.size w w') : U16At w' A l := fun hx =>
  let ⟨a, ha, hc⟩ := h hx; ⟨a, ha, fun i p hp => keep_cell hb (hc i p hp)⟩
theorem U16At.get {w : World} {A : Option Addr} {l : List Int} (h : U16At w A l) {k : Nat} (hk : k < l.length) : ∃ a, A = some a ∧ w.cell? (a.add k) = some (.int .u16 l[k]) := by
  obtain ⟨a, ha, hc⟩ := h (fun e => by simp [e] at hk)
  exact ⟨a, ha, hc k _ (List.getElem?_eq_getElem hk)⟩
theorem U16At.alloc {w : World} {A : Option Addr} {l : List Int} (h : U16At w A l) (o : Obj) : U16At (w.alloc o) A l := h.keep ((Below.refl _ _).alloc (Nat.le_refl _) _)
theorem U16At.drew {w : World} {A : Option Addr} {l : List Int} (h : U16At w A l) : U16At w.drew A l := h
def U16Ok (l : List Int) : Prop := ∀ j (h : j < l.length), 0 ≤ l[j] ∧ l[j] ≤ 65535
/-- the n-th number of a list, by turns. -/
def turnV (l : List Int) (n : Nat) : Int := l[n % l.length]?.getD 0
theorem turnV_nil (n : Nat) : turnV [] n = 0 := by simp [turnV]
theorem turnV_at {l : List Int} {n : Nat} (h : n % l.length < l.length) : turnV l n = l[n % l.length] := by simp [turnV, List.getElem?_eq_getElem h]
theorem turnV_bd {l : List Int} (ho : U16Ok l) (n : Nat) : 0 ≤ turnV l n ∧ turnV l n ≤ 65535 := by
  rcases Nat.eq_zero_or_pos l.length with h | h
  · obtain rfl := List.eq_nil_of_length_eq_zero h
    simp [turnV]
  · have := ho (n % l.length) (Nat.mod_lt _ h)
    rw [turnV_at (Nat.mod_lt _ h)]
    exact this
set_option maxRecDepth 100000 in
set_option maxHeartbeats 2000000 in
theorem turn_c (P : Option Addr) (l : List Int) (pc n : Nat) (w : World) (hn : n ≤ 1000000) (hp : U16At w P l) (ho : U16Ok l) :
    Calls Try.prog 38 #[.slice P l.length pc, .int .i64 n] w fun e w' => e = .returned (.int .i64 (turnV l n)) ∧ w = w' := by
  rcases Nat.eq_zero_or_pos l.length with h | h
  · obtain rfl := List.eq_nil_of_length_eq_zero h
    have HV := Lib.hid (turnV_nil n)
    go_enter Try.func38, Try.ntmps38
    go_wp2_with fail
    go_ret
    exact ⟨ret_int HV.out.symm, rfl⟩
  · have hm := Nat.mod_lt n h
    have HV := Lib.hid (turnV_at hm)
    obtain ⟨ad, hA, c0⟩ := hp.get hm
    subst hA
    obtain ⟨v, hv⟩ : ∃ v, l[n % l.length] = v := ⟨_, rfl⟩
    obtain ⟨v0, v1⟩ := ho _ hm
    rw [hv] at c0 HV v0 v1
    clear hv ho
    obtain ⟨L, hL⟩ : ∃ L, l.length = L := ⟨_, rfl⟩
    rw [hL] at h hm c0 ⊢
    have HL := Lib.hid hL
    clear hL hp
    have hz : ((L : Int) == 0) = false := by simp; omega
    have hz2 : (L == 0) = false := by simp; omega
    have hcast : ((n : Int) % (L : Int)) = ((n % L : Nat) : Int) := by omega
    have htm : ((n : Int).tmod (L : Int)) = ((n % L : Nat) : Int) := by rw [Int.tmod_eq_emod_of_nonneg (by omega)]; omega
    obtain ⟨m, hmm⟩ : ∃ m, n % L = m := ⟨_, rfl⟩
    rw [hmm] at hm c0 hcast htm
    have HM := Lib.hid hmm
    clear hmm
    go_enter Try.func38, Try.ntmps38
    go_wp2_with fail
    go_ret
    exact ⟨ret_int HV.out.symm, rfl⟩
def amongV (lo hi n : Int) : Int := lo + n % (hi - lo + 1)
theorem amongV_in {lo hi n : Int} (h : lo ≤ hi) : lo ≤ amongV lo hi n ∧ amongV lo hi n ≤ hi := by
  unfold amongV
  have := Int.emod_nonneg n (show hi - lo + 1 ≠ 0 by omega)
  have := Int.emod_lt_of_pos n (show 0 < hi - lo + 1 by omega)
  omega
set_option maxRecDepth 100000 in
set_option maxHeartbeats 2000000 in
theorem among_c (lo hi n : Int) (w : World) (h : lo ≤ hi) (h0 : -10000 ≤ lo) (h1 : hi ≤ 10000) (n0 : 0 ≤ n) (n1 : n ≤ 1000000) :
    Calls Try.prog 40 #[.agg #[.int .i64 lo, .int .i64 hi], .int .i64 n] w fun e w' => e = .returned (.int .i64 (amongV lo hi n)) ∧ Below w.heap.size w w' := by
  have hin := amongV_in (n := n) h
  have HV : Hid (lo + n % (hi - lo + 1) = amongV lo hi n) := by rfl
  have e1 : IntKind.i64.wrap (hi - lo) = hi - lo := IntWalk.i64_in _ (by omega)
  have e2 : IntKind.i64.wrap (hi - lo + 1) = hi - lo + 1 := IntWalk.i64_in _ (by omega)
  have e4 : n.tmod (hi - lo + 1) = n % (hi - lo + 1) := Int.tmod_eq_emod_of_nonneg n0
  have e3 : IntKind.i64.wrap (lo + n % (hi - lo + 1)) = lo + n % (hi - lo + 1) := IntWalk.i64_in _ (by rw [HV.out]; omega)
  have hne : ((hi - lo + 1) == 0) = false := by simp; omega
  have hne2 : hi - lo + 1 ≠ 0 := by omega
  have e5 : IntKind.i64.wrap (n % (hi - lo + 1)) = n % (hi - lo + 1) := IntWalk.i64_in _ (by
    have := Int.emod_nonneg n (show hi - lo + 1 ≠ 0 by omega)
    have := Int.emod_lt_of_pos n (show 0 < hi - lo + 1 by omega)
    omega)
  obtain ⟨hi0, hi1⟩ := hin
  go_enter Try.func40, Try.ntmps40
  go_wp2_with fail
  go_quiet (fail)
  go_wp2_with fail
  go_ret
  exact ⟨ret_int HV.out, bdrew ((Below.refl _ _).alloc (Nat.le_refl _) _) _⟩
theorem inside_c (n : Int) (p : Int × Int) (w : World) : Calls Try.prog 35 #[.int .i64 n, .agg #[.int .i64 p.1, .int .i64 p.2]] w fun e w' => e = .returned (.bool (wi p.1 p.2 n)) ∧ Below w.heap.size w w' := by
  by_cases h1 : p.1 ≤ n <;> by_cases h2 : n ≤ p.2
  all_goals
    have hv : wi p.1 p.2 n = (decide (p.1 ≤ n) && decide (n ≤ p.2)) := rfl
    simp only [h1, h2, decide_true, decide_false, Bool.and_true, Bool.and_false] at hv
    have HV := Lib.hid hv
    clear hv
    go_enter Try.func35, Try.ntmps35
    go_wp2
    go_ret
    exact ⟨ret_bool HV.out.symm, (Below.refl _ _).alloc (Nat.le_refl _) _⟩
theorem limited_c (n : Int) (w : World) : Calls Try.prog 58 #[.int .i64 n] w fun e w' => e = .returned (.int .i64 (hld n)) ∧ w = w' := by
  rcases (by omega : n < 0 ∨ (0 ≤ n ∧ n ≤ 200) ∨ 200 < n) with h | ⟨h1, h2⟩ | h
  · have HV : Hid (0 = hld n) := by show _ = _; unfold hld; omega
    have q1 : n < 200 := by omega
    go_enter Try.func58, Try.ntmps58
    go_wp2
    go_ret
    exact ⟨ret_int HV.out, rfl⟩
  · have HV : Hid (n = hld n) := by show _ = _; unfold hld; omega
    by_cases q1 : n < 200
    · by_cases q2 : 0 < n
      · go_enter Try.func58, Try.ntmps58
        go_wp2
        go_ret
        exact ⟨ret_int HV.out, rfl⟩
      · obtain rfl : n = 0 := by omega
        have HV2 : Hid (0 = hld 0) := HV
        go_enter Try.func58, Try.ntmps58
        go_wp2
        go_ret
        exact ⟨ret_int HV2.out, rfl⟩
    · obtain rfl : n = 200 := by omega
      have HV2 : Hid (200 = hld 200) := HV
      go_enter Try.func58, Try.ntmps58
      go_wp2
      go_ret
      exact ⟨ret_int HV2.out, rfl⟩
  · have HV : Hid (200 = hld n) := by show _ = _; unfold hld; omega
    have q1 : ¬ n < 200 := by omega
    go_enter Try.func58, Try.ntmps58
    go_wp2
    go_ret
    exact ⟨ret_int HV.out, rfl⟩
set_option maxRecDepth 100000 in
set_option maxHeartbeats 4000000 in
theorem rise_c (s : Spc) (m : Sl) (mi : Int) (w : World) (hl : s.blows.length ≤ 1000) (hsa : SAt w m s) :
    Calls Try.prog 57 #[.agg (sV s m), .int .i64 mi] w fun e w' => e = .returned (.agg #[.int .i64 (chg s mi).1, .int .i64 (chg s mi).2]) ∧ Below w.heap.size w w' := by
  have hsn0 := ((Since.refl w).alloc (.cells (sV s m) 27)).alloc (.cells #[.int .i64 0, .int .i64 0] 23)
  have HB0 := Lib.hid ((Blk.new w 27 (sV s m)).alloc (.cells #[.int .i64 0, .int .i64 0] 23))
  have HR0 := Lib.hid (Blk.new1 w (.cells (sV s m) 27) 23 #[.int .i64 0, .int .i64 0])
  go_enter Try.func57, Try.ntmps57
  go_wp2_with fail
  go_loopw [5] (fun i wr => ∃ k : Nat, k ≤ s.blows.length ∧ i = .int .i64 k ∧ Since w wr ∧ Hid (Blk wr w.heap.size 27 (sV s m)) ∧ Hid (Blk wr (w.heap.size + 1) 23 #[.int .i64 0, .int .i64 0]) ∧ Hid (∀ j (h : j < s.blows.length), j < k → wi s.blows[j].1 s.blows[j].2 mi = false)) (fun i _ => s.blows.length - (intOf i).toNat)
  case atStart => exact ⟨0, Nat.zero_le _, rfl, hsn0, HB0, HR0, fun j _ h => absurd h (by omega)⟩
  case round =>
    obtain ⟨k, hk, rfl, hsn, HB, HR, H0⟩ := hrel
    obtain ⟨c0, c1, c2, c3, c4, c5, c6, c7, c8⟩ := HB.out.space
    by_cases hlt : k < s.blows.length
    · obtain ⟨ad, hA, q0, q1⟩ := hsa.bl.get hlt
      have HA := Lib.hid hA
      have HC0 := Lib.hid q0
      have HC1 := Lib.hid q1
      have hki : (k : Int) < (s.blows.length : Int) := by omega
      have HKI := Lib.hid hki
      have hAt : Hid (wi s.blows[k].1 s.blows[k].2 mi = true → chg s mi = (s.b0, s.b1)) := fun h => chg_at hlt h
      clear q0 q1 hA
      go_wp2_with fail
      refine Vals9.region (fun _ X => Blk X w.heap.size 27 (sV s m) ∧ Blk X (w.heap.size + 1) 23 #[.int .i64 0, .int .i64 0] ∧ Since w X) [some 13, some 14, some 15, some 16, some 17, some 18, some 19, some 20, some 21, some 22, some 23, some 24, some 25, some 26] [.is (.int .i64 mi), .is (.pointer (some ⟨w.heap.size, 7, none⟩)), .is (.slice m.A s.blows.length m.c), .is (.int .i64 (k : Int)), .is (.pointer (some (ad.add (k * 2)))), .is (.pointer (some (ad.add (k * 2)))), .is (.int .i64 s.blows[k].1), .is (.pointer (some ⟨w.heap.size, 7, none⟩)), .is (.slice m.A s.blows.length m.c), .is (.int .i64 (k : Int)), .is (.pointer (some (ad.add (k * 2)))), .is (.pointer (some (at_ (ad.add (k * 2)) 1))), .is (.int .i64 s.blows[k].2), .is (.bool (wi s.blows[k].1 s.blows[k].2 mi))] (by kernel_rfl) (by kernel_rfl) (by kernel_rfl) (by kernel_rfl) (by kernel_rfl) (by kernel_rfl) (⟨HB.out.drew, HR.out.drew, hsn.drew⟩) ?_ ?_
      · refine Vals9.Steps.run (by kernel_rfl) ?_ ?_
        · intro a W σ hJ pre K hK
          have e1 : a.tmps.getD 1 undef = .int .i64 mi := pre.2.2 1 _ (by kernel_rfl) rfl
          clear pre
          simp only [Array.getD_eq_getD_getElem?] at e1
          go_simp
          exact hK _ hJ
        refine Vals9.Steps.run (by kernel_rfl) ?_ ?_
        · intro a W σ hJ pre K hK
          have e2 : a.tmps.getD 2 undef = .pointer (some ⟨w.heap.size, 0, none⟩) := pre.2.2 2 _ (by kernel_rfl) rfl
          clear pre
          simp only [Array.getD_eq_getD_getElem?] at e2
          go_simp
          exact hK _ hJ
        refine Vals9.Steps.run (by kernel_rfl) ?_ ?_
        · intro a W σ hJ pre K hK
          have e14 : a.tmps.getD 14 undef = .pointer (some ⟨w.heap.size, 7, none⟩) := pre.1 1 14 _ (by kernel_rfl) rfl rfl
          clear pre
          simp only [Array.getD_eq_getD_getElem?] at e14
          have hS9 := hJ
          obtain ⟨l1, l2, l3⟩ := hS9
          have q0 := keep_cell l3.1 HC0.out
          have q1 := keep_cell l3.1 HC1.out
          obtain ⟨c0, c1, c2, c3, c4, c5, c6, c7, c8⟩ := l1.space
          go_simp
          exact hK _ hJ
        refine Vals9.Steps.run (by kernel_rfl) ?_ ?_
        · intro a W σ hJ pre K hK
          have e5 : a.tmps.getD 5 undef = .int .i64 (k : Int) := pre.2.2 5 _ (by kernel_rfl) rfl
          clear pre
          simp only [Array.getD_eq_getD_getElem?] at e5
          go_simp
          exact hK _ hJ
        refine Vals9.Steps.run (by kernel_rfl) ?_ ?_
        · intro a W σ hJ pre K hK
          have e15 : a.tmps.getD 15 undef = .slice m.A s.blows.length m.c := pre.1 2 15 _ (by kernel_rfl) rfl rfl
          have e16 : a.tmps.getD 16 undef = .int .i64 (k : Int) := pre.1 3 16 _ (by kernel_rfl) rfl rfl
          clear pre
          simp only [Array.getD_eq_getD_getElem?] at e15 e16
          have hki := HKI.out
          have hA := HA.out
          go_simp
          exact hK _ hJ
        refine Vals9.Steps.run (by kernel_rfl) ?_ ?_
        · intro a W σ hJ pre K hK
          have e17 : a.tmps.getD 17 undef = .pointer (some (ad.add (k * 2))) := pre.1 4 17 _ (by kernel_rfl) rfl rfl
          clear pre
          simp only [Array.getD_eq_getD_getElem?] at e17
          go_simp
          exact hK _ hJ
        refine Vals9.Steps.run (by kernel_rfl) ?_ ?_
        · intro a W σ hJ pre K hK
          have e18 : a.tmps.getD 18 undef = .pointer (some (ad.add (k * 2))) := pre.1 5 18 _ (by kernel_rfl) rfl rfl
          clear pre
          simp only [Array.getD_eq_getD_getElem?] at e18
          have hS9 := hJ
          obtain ⟨l1, l2, l3⟩ := hS9
          have q0 := keep_cell l3.1 HC0.out
          have q1 := keep_cell l3.1 HC1.out
          obtain ⟨c0, c1, c2, c3, c4, c5, c6, c7, c8⟩ := l1.space
          go_simp
          exact hK _ hJ
        refine Vals9.Steps.run (by kernel_rfl) ?_ ?_
        · intro a W σ hJ pre K hK
          have e2 : a.tmps.getD 2 undef = .pointer (some ⟨w.heap.size, 0, none⟩) := pre.2.2 2 _ (by kernel_rfl) rfl
          clear pre
          simp only [Array.getD_eq_getD_getElem?] at e2
          go_simp
          exact hK _ hJ
        refine Vals9.Steps.run (by kernel_rfl) ?_ ?_
        · intro a W σ hJ pre K hK
          have e20 : a.tmps.getD 20 undef = .pointer (some ⟨w.heap.size, 7, none⟩) := pre.1 7 20 _ (by kernel_rfl) rfl rfl
          clear pre
          simp only [Array.getD_eq_getD_getElem?] at e20
          have hS9 := hJ
          obtain ⟨l1, l2, l3⟩ := hS9
          have q0 := keep_cell l3.1 HC0.out
          have q1 := keep_cell l3.1 HC1.out
          obtain ⟨c0, c1, c2, c3, c4, c5, c6, c7, c8⟩ := l1.space
          go_simp
          exact hK _ hJ
        refine Vals9.Steps.run (by kernel_rfl) ?_ ?_
        · intro a W σ hJ pre K hK
          have e5 : a.tmps.getD 5 undef = .int .i64 (k : Int) := pre.2.2 5 _ (by kernel_rfl) rfl
          clear pre
          simp only [Array.getD_eq_getD_getElem?] at e5
          go_simp
          exact hK _ hJ
        refine Vals9.Steps.run (by kernel_rfl) ?_ ?_
        · intro a W σ hJ pre K hK
          have e21 : a.tmps.getD 21 undef = .slice m.A s.blows.length m.c := pre.1 8 21 _ (by kernel_rfl) rfl rfl
          have e22 : a.tmps.getD 22 undef = .int .i64 (k : Int) := pre.1 9 22 _ (by kernel_rfl) rfl rfl
          clear pre
          simp only [Array.getD_eq_getD_getElem?] at e21 e22
          have hki := HKI.out
          have hA := HA.out
          go_simp
          exact hK _ hJ
        refine Vals9.Steps.run (by kernel_rfl) ?_ ?_
        · intro a W σ hJ pre K hK
          have e23 : a.tmps.getD 23 undef = .pointer (some (ad.add (k * 2))) := pre.1 10 23 _ (by kernel_rfl) rfl rfl
          clear pre
          simp only [Array.getD_eq_getD_getElem?] at e23
          go_simp
          exact hK _ hJ
        refine Vals9.Steps.run (by kernel_rfl) ?_ ?_
        · intro a W σ hJ pre K hK
          have e24 : a.tmps.getD 24 undef = .pointer (some (at_ (ad.add (k * 2)) 1)) := pre.1 11 24 _ (by kernel_rfl) rfl rfl
          clear pre
          simp only [Array.getD_eq_getD_getElem?] at e24
          have hS9 := hJ
          obtain ⟨l1, l2, l3⟩ := hS9
          have q0 := keep_cell l3.1 HC0.out
          have q1 := keep_cell l3.1 HC1.out
          obtain ⟨c0, c1, c2, c3, c4, c5, c6, c7, c8⟩ := l1.space
          go_simp
          exact hK _ hJ
        refine Vals9.Steps.run (by kernel_rfl) ?_ ?_
        · intro a W σ hJ pre K hK
          have e13 : a.tmps.getD 13 undef = .int .i64 mi := pre.1 0 13 _ (by kernel_rfl) rfl rfl
          have e19 : a.tmps.getD 19 undef = .int .i64 s.blows[k].1 := pre.1 6 19 _ (by kernel_rfl) rfl rfl
          have e25 : a.tmps.getD 25 undef = .int .i64 s.blows[k].2 := pre.1 12 25 _ (by kernel_rfl) rfl rfl
          clear pre
          simp only [Array.getD_eq_getD_getElem?] at e13 e19 e25
          go_simp
          refine (rin_c s.blows[k].1 s.blows[k].2 mi _).mono ?_
          rintro e w' ⟨rfl, rfl⟩
          exact hK _ hJ
        exact Vals9.Steps.nil
      · intro X σ hJ
        simp only [Vals9.All]
        simp only [Vals.putAll, List.setIfInBounds_toArray, List.set_cons_zero, List.set_cons_succ]
        obtain ⟨HB2, HR2, hsn2⟩ := hJ
        clear c0 c1 c2 c3 c4 c5 c6 c7 c8
        rcases Bool.eq_false_or_eq_true (wi s.blows[k].1 s.blows[k].2 mi) with h1 | h1
        · have HV := Lib.hid (hAt.out h1)
          rw [h1]
          clear h1
          obtain ⟨c0, c1, c2, c3, c4, c5, c6, c7, c8⟩ := HB2.space
          have HR3 := Lib.hid HR2
          go_wp2_with (refine wpList_store_row rfl 23 _ _ rfl (w.heap.size + 1) _ rfl rfl 23 _ HR3.out (by kernel_rfl) rfl (by simp [Value.oneCell']) ?_)
          refine bodyPost_ret (v := .agg _) (results_cell_row Try.results57 _ _ (w.heap.size + 1) 23 _ (0, 0) _ rfl (HR3.out.row _) Try.underlying23 rfl (by kernel_rfl)) rfl ⟨?_, (hsn2.row (by omega) _).1⟩
          rw [HV.out]
        · have HN := Lib.hid h1
          rw [h1]
          clear h1
          go_wp2_with fail
          go_roundw
          case rel =>
            refine ⟨k + 1, by omega, by go_num, hsn2, HB2, HR2, fun j h hj => ?_⟩
            rcases Nat.lt_or_ge j k with h1 | h1
            · exact H0.out j h h1
            · obtain rfl : j = k := by omega
              exact HN.out
          case measure => simp [intOf]; omega
    · have HV := Lib.hid (chg_none (s := s) (m := mi) fun j h => H0.out j h (by omega))
      have hki : ¬ (k : Int) < (s.blows.length : Int) := by omega
      go_wp2_with (refine wpList_store_row rfl 23 _ _ rfl (w.heap.size + 1) _ rfl rfl 23 _ HR.out (by kernel_rfl) rfl (by simp [Value.oneCell']) ?_)
      refine bodyPost_ret (v := .agg _) (results_cell_row Try.results57 _ _ (w.heap.size + 1) 23 _ (0, 0) _ rfl (HR.out.row _) Try.underlying23 rfl (by kernel_rfl)) rfl ⟨?_, (hsn.row (by omega) _).1⟩
      rw [HV.out]
end Td
end Go.Proofs.Ytmofbnadfgejiaa
/- The law package's truth of a space, by turns. -/
namespace Go.Proofs.Ytmofbnadfgejiaa
open Go.RowKit
namespace Td
set_option linter.unusedSimpArgs false
set_option linter.unusedVariables false
attribute [local go_sem] Oper.semAt_some
/-- the levels of a truth, by turns. -/
def truN (s : Spc) (X : List Int) : Nat → Int
  | 0 => amongV s.s0 s.s1 (turnV X 0)
  | k + 1 => hld (truN s X k + amongV (chg s (k : Int)).1 (chg s (k : Int)).2 (turnV X (k + 1)))
theorem truN_in {s : Spc} (hs : SOk s) (X : List Int) (k : Nat) : 0 ≤ truN s X k ∧ truN s X k ≤ 200 := by
  cases k with
  | zero =>
    have := amongV_in (n := turnV X 0) hs.s01
    have := hs.s0
    have := hs.s1
    unfold truN
    omega
  | succ k => exact hld_in _
theorem truN_step {s : Spc} (hs : SOk s) (X : List Int) (n : Nat) : Step s 0 (truN s X) n := fun j _ => by
  have hc := chg_ok hs (j : Int)
  have := amongV_in (n := turnV X (j + 1)) hc.2.1
  refine ⟨amongV (chg s (j : Int)).1 (chg s (j : Int)).2 (turnV X (j + 1)), ?_, ?_, ?_⟩
  · rw [Int.zero_add]; exact this.1
  · rw [Int.zero_add]; exact this.2
  · rfl
/-- append of one number behind a slice that owns its row. -/
theorem append_one {W : World} {B g : Nat} {v : Value} {l : List Int} {x : Int} (hown : W.ownsRow B 3 1 v l.length (l.map fun x => .int .i64 x)) (hg : Blk W g 3 #[.int .i64 x]) (hl : l.length ≤ 1000) (hB : B ≤ W.heap.size) (ty : TypeId) :
    ∃ v' w', (Builtin.append_ #[38, 38] ty #[v, .slice (some ⟨g, 0, none⟩) 1 1]).run Try.prog W = .ok v' w' ∧ w'.ownsRow B 3 1 v' (l ++ [x]).length ((l ++ [x]).map fun x => .int .i64 x) ∧ W.grownBy w' v.ownBlock := by
  obtain ⟨i0, hi0, hi1⟩ := Option.map_eq_some_iff.1 info3
  simp only [Prod.mk.injEq] at hi1
  obtain ⟨hz0, hz1, hz2⟩ := hi1
  obtain ⟨v', w', h1, h2, h3, _, h5⟩ := run_append_own_at (P := Try.prog) W B 38 ty 3 i0 _ 1 8 Try.underlying38 hi0 hz0 hz1 hz2 rfl (by omega)
    v l.length (l.map fun x => .int .i64 x) hown ⟨g, 0, none⟩ 1 1 [.int .i64 x] (by simp) (fun j u hj => by
      rw [add_new]
      have := hg.cell j
      rw [this]
      simpa using hj) (by intro u hu; simp at hu; subst hu; rfl) (by simp only [maxLen]; omega) (by omega) hB
  refine ⟨v', w', h1, ?_, h3⟩
  rw [List.map_append, List.length_append]
  exact h2
theorem wpList_append_one {W : World} {ops : Array Oper} {rest : List Oper} {o : Oper} {a : Act} {Q : Exit → Act → World → Prop} (hgd : o.guard = none) (x y : Operand) (ho : o.op = .call { callee := .builtin .append, args := #[x, y], argTypes := #[38, 38] })
    (B g : Nat) (v : Value) (l : List Int) (n : Int) (hx : a.eval x = v) (hy : a.eval y = .slice (some ⟨g, 0, none⟩) 1 1) (hown : W.ownsRow B 3 1 v l.length (l.map fun x => .int .i64 x)) (hg : Blk W g 3 #[.int .i64 n]) (hl : l.length ≤ 1000) (hB : B ≤ W.heap.size)
    (h : ∀ v' w', w'.ownsRow B 3 1 v' (l ++ [n]).length ((l ++ [n]).map fun x => .int .i64 x) → W.grownBy w' v.ownBlock → wpList Try.prog ops Q rest (a.put o.dst v') w') : wpList Try.prog ops Q (o :: rest) a W := by
  refine wpList_plain hgd fun _ hK => ?_
  obtain ⟨v', w', hr, h2, h3⟩ := append_one hown hg hl hB o.type
  unfold Oper.wp execOp
  simp only [ho, resolve, invoke, builtin, Sem.run_bind, Sem.run_pure, Result.andThen_ok, List.map_toArray, List.map_cons, List.map_nil, hx, hy, hr]
  exact hK _ _ (h v' w' h2 h3)
/-- the first k levels. -/
def truL (s : Spc) (X : List Int) (k : Nat) : List Int := (List.range k).map (truN s X)
theorem truL_next (s : Spc) (X : List Int) (k : Nat) : truL s X (k + 1) = truL s X k ++ [truN s X k] := by
  unfold truL
  rw [List.range_succ, List.map_append]
  rfl
set_option maxRecDepth 100000 in
set_option maxHeartbeats 8000000 in
theorem truth_c (s : Spc) (m : Sl) (P : Option Addr) (X : List Int) (pc : Nat) (w : World) (hs : SOk s) (hsa : SAt w m s) (hu : U16At w P X) (ho : U16Ok X) :
    Calls Try.prog 33 #[.agg (sV s m), .slice P X.length pc] w fun e w' => (∃ v, e = .returned v ∧ Lv w' v (truL s X 61)) ∧ Below w.heap.size w w' := by
  have hsn0 := (Since.refl w).alloc (.cells (sV s m) 27)
  have HS0 := Lib.hid (Blk.new w 27 (sV s m))
  go_enter Try.func33, Try.ntmps33
  go_wp2_with fail
  refine Vals6.regionAll (fun W => Blk W w.heap.size 27 (sV s m) ∧ Since w W) [some 8, some 9, some 10, some 11, some 12] [.is (.pointer (some ⟨w.heap.size, 0, none⟩)), .is (.agg #[.int .i64 s.s0, .int .i64 s.s1]), .is (.slice P X.length pc), .is (.int .i64 (turnV X 0)), .is (.int .i64 (amongV s.s0 s.s1 (turnV X 0)))] (by kernel_rfl) rfl rfl (by kernel_rfl) (by kernel_rfl) (by kernel_rfl) (by kernel_rfl) (by kernel_rfl) (by kernel_rfl) (by kernel_rfl) (⟨HS0.out.drew, hsn0.drew⟩) ?_ ?_
  · refine Vals5.Steps.run (by kernel_rfl) (Vals5.Stable.is _) ?_ ?_
    · intro a W hS pre old K hK
      have e2 : a.tmps.getD 2 undef = .pointer (some ⟨w.heap.size, 0, none⟩) := old 2 _ (by kernel_rfl) rfl
      clear pre old
      simp only [Array.getD_eq_getD_getElem?] at e2
      go_simp
      exact hK _ _ hS (Below.refl _ _) rfl
    refine Vals5.Steps.run (by kernel_rfl) (Vals5.Stable.is _) ?_ ?_
    · intro a W hS pre old K hK
      have e8 : a.tmps.getD 8 undef = .pointer (some ⟨w.heap.size, 0, none⟩) := pre 0 8 _ (by kernel_rfl) rfl rfl
      clear pre old
      simp only [Array.getD_eq_getD_getElem?] at e8
      have hS9 := hS
      obtain ⟨l1, l2⟩ := hS9
      obtain ⟨c0, c1, c2, c3, c4, c5, c6, c7, c8⟩ := l1.space
      go_simp
      exact hK _ _ hS (Below.refl _ _) rfl
    refine Vals5.Steps.run (by kernel_rfl) (Vals5.Stable.is _) ?_ ?_
    · intro a W hS pre old K hK
      have e1 : a.tmps.getD 1 undef = .slice P X.length pc := old 1 _ (by kernel_rfl) rfl
      clear pre old
      simp only [Array.getD_eq_getD_getElem?] at e1
      go_simp
      exact hK _ _ hS (Below.refl _ _) rfl
    refine Vals5.Steps.run (by kernel_rfl) (Vals5.Stable.is _) ?_ ?_
    · intro a W hS pre old K hK
      have e10 : a.tmps.getD 10 undef = .slice P X.length pc := pre 2 10 _ (by kernel_rfl) rfl rfl
      clear pre old
      simp only [Array.getD_eq_getD_getElem?] at e10
      go_simp
      refine (turn_c P X pc 0 _ (by omega) (hu.keep hS.2.1) ho).mono ?_
      rintro e w' ⟨rfl, rfl⟩
      exact hK _ _ hS (Below.refl _ _) rfl
    refine Vals5.Steps.run (by kernel_rfl) (Vals5.Stable.is _) ?_ ?_
    · intro a W hS pre old K hK
      have e9 : a.tmps.getD 9 undef = .agg #[.int .i64 s.s0, .int .i64 s.s1] := pre 1 9 _ (by kernel_rfl) rfl rfl
      have e11 : a.tmps.getD 11 undef = .int .i64 (turnV X 0) := pre 3 11 _ (by kernel_rfl) rfl rfl
      clear pre old
      simp only [Array.getD_eq_getD_getElem?] at e9 e11
      have hb0 := turnV_bd ho 0
      go_simp
      refine (among_c s.s0 s.s1 (turnV X 0) _ hs.s01 (by have := hs.s0; omega) (by have := hs.s1; omega) hb0.1 (by omega)).mono ?_
      rintro e w' ⟨rfl, hb'⟩
      obtain ⟨h1, h2⟩ := hS
      exact hK _ _ ⟨h1.keep hb', h2.keep hb'⟩ hb' rfl
    exact Vals5.Steps.nil
  rintro W1 ⟨HS1, hsn1⟩
  simp only [Vals5.All, List.getLast_cons_cons, List.getLast_singleton]
  simp only [Vals.putAll, List.setIfInBounds_toArray, List.set_cons_zero, List.set_cons_succ]
  intro K hK
  go_simp
  refine hK _ _ ?_
  clear hK K
  have HS1' := Lib.hid HS1
  clear HS1
  go_wp2_with fail
  go_loopw [5, 6, 7] (fun lv ov i wr => ∃ k : Nat, k ≤ 61 ∧ i = .int .i64 k ∧ lv = .int .i64 (truN s X k) ∧ Since w wr ∧ Hid (Blk wr w.heap.size 27 (sV s m)) ∧ Hid (wr.ownsRow (w.heap.size + 1) 3 1 ov (truL s X k).length ((truL s X k).map fun x => .int .i64 x))) (fun _ _ i _ => 61 - (intOf i).toNat)
  case atStart => exact ⟨0, by omega, rfl, rfl, hsn1, HS1', ⟨rfl, .inl ⟨rfl, rfl⟩⟩⟩
  case round =>
    obtain ⟨k, hk, rfl, rfl, hsn, HS, HO⟩ := hrel
    by_cases hk60 : k ≤ 60
    · have hki : (k : Int) ≤ 60 := by omega
      obtain ⟨x, hx⟩ : ∃ x, truN s X k = x := ⟨_, rfl⟩
      have hxi := truN_in hs X k
      have HN : Hid (truL s X (k + 1) = truL s X k ++ [x]) := by show _ = _; rw [truL_next, hx]
      obtain ⟨c, hc⟩ : ∃ c, chg s (k : Int) = c := ⟨_, rfl⟩
      have hci := chg_ok hs (k : Int)
      obtain ⟨tv, htv⟩ : ∃ tv, turnV X (k + 1) = tv := ⟨_, rfl⟩
      have htb := turnV_bd ho (k + 1)
      obtain ⟨am, ham⟩ : ∃ am, amongV c.1 c.2 tv = am := ⟨_, rfl⟩
      have HT : Hid (truN s X (k + 1) = hld (x + am)) := by show hld _ = _; rw [hx, hc, htv, ham]
      have hRi := fun W (hW : SAt W m s) => rise_c s m (k : Int) W (by have := hs.nb; omega) hW
      have hTu := fun W (hW : Since w W) => turn_c P X pc (k + 1) W (by omega) (hu.keep hW.1) ho
      rw [hc] at hRi hci
      rw [htv] at hTu htb
      have hAm := fun W => among_c c.1 c.2 tv W hci.2.1 (by omega) (by omega) htb.1 (by omega)
      have hain := amongV_in (n := tv) hci.2.1
      rw [ham] at hAm hain
      rw [hx] at hxi ⊢
      have HRi := Lib.hid hRi
      have HTu := Lib.hid hTu
      have HAm := Lib.hid hAm
      have hzB := HS.out.lt
      have hLl : (truL s X k).length ≤ 1000 := by simp [truL]; omega
      have hq3 : Below wr.heap.size wr (wr.alloc (.cells #[.int .i64 x] 3)) := (Below.refl _ _).alloc (Nat.le_refl _) _
      have HO3 := Lib.hid (own_keep HO.out hq3)
      have HN3 := Lib.hid (Blk.new wr 3 #[.int .i64 x])
      have HLl := Lib.hid hLl
      clear hx hc htv ham hRi hTu hAm hLl HO
      go_wp2_with (at_builtin; refine wpList_append_one rfl (.tmp 17) (.tmp 19) rfl (w.heap.size + 1) wr.heap.size _ (truL s X k) x (by go_simp) (by go_simp) HO3.out HN3.out HLl.out (by simp; omega) ?_)
      intro v3 w3 ho3 hg3
      have hlt3 := HO3.out.lt
      have HB4 := Lib.hid ((HS.out.keep hq3).grown hg3 (fun h => by have := (hlt3 _ h.symm).1; omega))
      have hs4 : Since w w3 := ⟨(hsn.keep hq3).1.grown hg3 (hsn.keep hq3).2 (fun q h => by have := (hlt3 q h).1; omega), Nat.le_trans (hsn.keep hq3).2 hg3.size⟩
      have HO4 : Hid (w3.ownsRow (w.heap.size + 1) 3 1 v3 (truL s X (k + 1)).length ((truL s X (k + 1)).map fun x => .int .i64 x)) := by
        show World.ownsRow _ _ _ _ _ _ _
        rw [HN.out]
        rw [List.length_append, List.map_append]
        exact ho3
      clear ho3 hg3 hlt3 HO3 HN3 hq3 HLl HN
      obtain ⟨c0, c1, c2, c3, c4, c5, c6, c7, c8⟩ := HB4.out.space
      go_wp2_with fail
      refine (HRi.out _ (hsa.keep hs4.1)).mono ?_
      rintro e w5 ⟨rfl, hb5⟩
      have hs5 := hs4.keep hb5
      have HB5 := Lib.hid (HB4.out.keep hb5)
      have HO5 := Lib.hid (own_keep HO4.out hb5)
      clear c0 c1 c2 c3 c4 c5 c6 c7 c8 HB4 HO4 hs4 hb5
      have hw1 : IntKind.i64.wrap ((k : Int) + 1) = (k : Int) + 1 := IntWalk.i64_in _ (by omega)
      have hTu5 := HTu.out _ hs5
      push_cast at hTu5
      go_wp2_with fail
      refine hTu5.mono ?_
      rintro e w6 ⟨rfl, rfl⟩
      clear hTu5
      go_wp2_with fail
      refine (HAm.out _).mono ?_
      rintro e w7 ⟨rfl, hb7⟩
      have hs7 := hs5.keep hb7
      have HB7 := Lib.hid (HB5.out.keep hb7)
      have HO7 := Lib.hid (own_keep HO5.out hb7)
      clear HB5 HO5 hs5 hb7
      obtain ⟨y, hy⟩ : ∃ y, x + am = y := ⟨_, rfl⟩
      have hw2 : IntKind.i64.wrap y = y := IntWalk.i64_in _ (by omega)
      rw [hy] at HT
      rcases (by omega : (y < 200 ∧ 0 < y) ∨ (y < 200 ∧ ¬ 0 < y) ∨ ¬ y < 200) with ⟨h1, h2⟩ | ⟨h1, h2⟩ | h1
      · have HV : Hid (y = truN s X (k + 1)) := by show _ = _; rw [HT.out]; unfold hld; omega
        go_wp2_with fail
        go_roundw
        case rel => exact ⟨k + 1, by omega, by go_num, by rw [HV.out], hs7, HB7, HO7⟩
        case measure => simp [intOf]; omega
      · have HV : Hid (0 = truN s X (k + 1)) := by show _ = _; rw [HT.out]; unfold hld; omega
        go_wp2_with fail
        go_roundw
        case rel => exact ⟨k + 1, by omega, by go_num, by rw [← HV.out], hs7, HB7, HO7⟩
        case measure => simp [intOf]; omega
      · have HV : Hid (200 = truN s X (k + 1)) := by show _ = _; rw [HT.out]; unfold hld; omega
        go_wp2_with fail
        go_roundw
        case rel => exact ⟨k + 1, by omega, by go_num, by rw [← HV.out], hs7, HB7, HO7⟩
        case measure => simp [intOf]; omega
    · obtain rfl : k = 61 := by omega
      have hno : ¬ ((61 : Nat) : Int) ≤ 60 := by decide
      go_wp2_with fail
      go_ret
      exact ⟨⟨_, rfl, lv_own rfl HO.out⟩, hsn.1⟩
end Td
end Go.Proofs.Ytmofbnadfgejiaa
