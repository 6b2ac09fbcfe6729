import Derived.Test.YtccacinnelmnpaaRefF
import Derived.Test.YtccacinnelmnpaaPlainG
/- GasShorter: the more a reading shows the shorter it holds; a torch may burn at least as long as the only reading holds. -/
namespace Go.Proofs.Ytccacinnelmnpaa
open Go.RowKit
namespace Td
set_option linter.unusedSimpArgs false
set_option linter.unusedVariables false
attribute [local go_sem] Oper.semAt_some
theorem valid_c (s : Spc) (m : Sl) (w : World) (hp : SAt w m s) :
    Calls Try.prog 32 #[.agg (sV s m)] w fun e w' => e = .returned (.bool ((chk s).2.2 == 0)) ∧ Below w.heap.size w w' := by
  have hs0 := (Since.refl w).alloc (.cells (sV s m) 27)
  obtain ⟨c0, c1, c2, c3, c4, c5, c6, c7, c8⟩ := (Blk.new w 27 (sV s m)).space
  go_enter Try.func32, Try.ntmps32
  go_wp2_with fail
  refine (rcheck_c s m _ (hp.keep hs0.1)).mono ?_
  rintro e w1 ⟨rfl, hb1⟩
  clear c0 c1 c2 c3 c4 c5 c6 c7 c8
  go_wp2_with fail
  go_ret
  exact ⟨rfl, (hs0.keep hb1).1⟩
theorem rok_any {s : Spc} (hs : SOk s) {mi tl sh : Int} (h0 : 0 ≤ tl) (h1 : tl < s.tools.length) (h2 : 0 ≤ mi) (h3 : mi ≤ 60) (h4 : -50 ≤ sh) (h5 : sh ≤ 250) : ROk s ⟨mi, tl, sh⟩ := ⟨h0, h1, h2, h3, h4, h5⟩
theorem holdsA_ok {s : Spc} {r : Rd} (hc : (chk s).2.2 = 0) (hr : ROk s r) : holdsA s r = (hol s r, 0) := by
  have := rdE_ok.2 hr
  simp [holdsA, toolE2, hc, this]
theorem untilA_one {s : Spc} {r : Rd} (hc : (chk s).2.2 = 0) (hr : ROk s r) : (now s [r] r.min = none ∧ untilA s [r] r.min = (0, 9)) ∨ ∃ x, now s [r] r.min = some x ∧ untilA s [r] r.min = (untl s (kno [r] r.min) r.min (some x), 0) := by
  have h1 : rdsE s.tools.length [r] = 0 := rdsE_ok.2 ⟨by simp, fun q hq => by rw [List.mem_singleton] at hq; subst hq; exact hr⟩
  have h2 : wi 0 60 r.min = true := wi_iff.2 ⟨hr.m0, hr.m1⟩
  cases h : now s [r] r.min with
  | none => left; simp [untilA, watE, hc, h1, h2, h]
  | some x => right; exact ⟨x, rfl, by simp [untilA, watE, hc, h1, h2, h]⟩
set_option maxRecDepth 100000 in
set_option maxHeartbeats 8000000 in
theorem gasShorter_c (s : Spc) (m : Sl) (a0 a1 a2 a3 : Nat) (w : World) (hsa : SAt w m s) (b0 : a0 ≤ 255) (b1 : a1 ≤ 255) (b2 : a2 ≤ 255) (b3 : a3 ≤ 255) :
    Calls Try.prog 14 #[.agg (sV s m), .agg #[.int .u8 (a0 : Int), .int .u8 (a1 : Int), .int .u8 (a2 : Int), .int .u8 (a3 : Int)]] w fun e w' => e = .returned (.bool true) ∧ Below w.heap.size w w' := by
  have hsn0 := ((Since.refl w).alloc (.cells (sV s m) 27)).alloc (.cells #[.int .u8 (a0 : Int), .int .u8 (a1 : Int), .int .u8 (a2 : Int), .int .u8 (a3 : Int)] 82)
  have HS0 := Lib.hid ((Blk.new w 27 (sV s m)).alloc (.cells #[.int .u8 (a0 : Int), .int .u8 (a1 : Int), .int .u8 (a2 : Int), .int .u8 (a3 : Int)] 82))
  have HA0 := Lib.hid (Blk.new1 w (.cells (sV s m) 27) 82 #[.int .u8 (a0 : Int), .int .u8 (a1 : Int), .int .u8 (a2 : Int), .int .u8 (a3 : Int)])
  obtain ⟨c0, c1, c2, c3, c4, c5, c6, c7, c8⟩ := HS0.out.space
  go_enter Try.func14, Try.ntmps14
  go_wp2_with fail
  refine (valid_c s m _ (hsa.keep hsn0.1)).mono ?_
  rintro e w1 ⟨rfl, hb1⟩
  have hsn1 := hsn0.keep hb1
  have HS1 := Lib.hid (HS0.out.keep hb1)
  have HA1 := Lib.hid (HA0.out.keep hb1)
  clear c0 c1 c2 c3 c4 c5 c6 c7 c8 HS0 HA0 hsn0 hb1
  by_cases hc : (chk s).2.2 = 0
  · have hc' : ((chk s).2.2 == 0) = true := by simpa using hc
    have HC := Lib.hid hc
    have hs := chk_ok hc
    have ht1 := hs.t1
    have ht3 := hs.t3
    rw [hc']
    clear hc hc'
    obtain ⟨tl, htl⟩ : ∃ tl, a0 % s.tools.length = tl := ⟨_, rfl⟩
    obtain ⟨mi, hmi⟩ : ∃ mi, a3 % 61 = mi := ⟨_, rfl⟩
    obtain ⟨sh, hsh⟩ : ∃ sh, a1 % 251 = sh := ⟨_, rfl⟩
    have htl2 : tl < s.tools.length := by rw [← htl]; exact Nat.mod_lt _ (by omega)
    have hmi2 : mi < 61 := by rw [← hmi]; exact Nat.mod_lt _ (by omega)
    have hsh2 : sh < 251 := by rw [← hsh]; exact Nat.mod_lt _ (by omega)
    have HNE : Hid (¬ s.tools = []) := fun h => by rw [h] at ht1; simp at ht1
    have HZ : Hid (((s.tools.length : Int) == 0) = false) := beq_eq_false_iff_ne.2 (by omega)
    have hem : ((a0 : Int) % (s.tools.length : Int)) = (tl : Int) := by rw [← htl]; rfl
    have HEM := Lib.hid hem
    have HTM : Hid ((a0 : Int).tmod (s.tools.length : Int) = (tl : Int)) := by show _ = _; rw [Int.tmod_eq_emod_of_nonneg (by omega)]; exact hem
    have hem2 : ((a3 : Int) % (61 : Int)) = (mi : Int) := by omega
    have HEM2 := Lib.hid hem2
    have HTM2 : Hid ((a3 : Int).tmod (61 : Int) = (mi : Int)) := by show _ = _; rw [Int.tmod_eq_emod_of_nonneg (by omega)]; exact hem2
    have hem3 : ((a1 : Int) % (251 : Int)) = (sh : Int) := by omega
    have HEM3 := Lib.hid hem3
    have HTM3 : Hid ((a1 : Int).tmod (251 : Int) = (sh : Int)) := by show _ = _; rw [Int.tmod_eq_emod_of_nonneg (by omega)]; exact hem3
    clear htl hmi hsh hem hem2 hem3
    go_wp2_with fail
    refine Vals6.regionAll (fun X => Blk X w.heap.size 27 (sV s m) ∧ Blk X (w.heap.size + 1) 82 #[.int .u8 (a0 : Int), .int .u8 (a1 : Int), .int .u8 (a2 : Int), .int .u8 (a3 : Int)] ∧ Since w X) [some 30, some 31, some 32, some 33, some 34, some 35, some 36, some 37, some 38, some 39, some 40, some 7] [.is (.pointer (some ⟨w.heap.size + 1, 0, none⟩)), .is (.int .u8 (a0 : Int)), .is (.int .i64 (a0 : Int)), .is (.pointer (some ⟨w.heap.size, 8, none⟩)), .is (.slice m.T s.tools.length m.d), .is (.int .i64 (s.tools.length : Int)), .is (.int .i64 (tl : Int)), .is (.pointer (some ⟨w.heap.size + 1, 3, none⟩)), .is (.int .u8 (a3 : Int)), .is (.int .i64 (a3 : Int)), .is (.int .i64 (mi : Int)), .is (.int .i64 (tl : Int))] (by kernel_rfl) rfl rfl (by kernel_rfl) (by kernel_rfl) (by kernel_rfl) (by kernel_rfl) (by kernel_rfl) (by kernel_rfl) (by kernel_rfl) (⟨HS1.out.drew, HA1.out.drew, hsn1.drew⟩) ?_ ?_
    · refine Vals5.Steps.run (by kernel_rfl) (Vals5.Stable.is _) ?_ ?_
      · intro a W hS pre old K hK
        have e3 : a.tmps.getD 3 undef = .pointer (some ⟨w.heap.size + 1, 0, none⟩) := old 3 _ (by kernel_rfl) rfl
        clear pre old
        simp only [Array.getD_eq_getD_getElem?] at e3
        go_simp
        exact hK _ _ hS (Below.refl _ _) rfl
      refine Vals5.Steps.run (by kernel_rfl) (Vals5.Stable.is _) ?_ ?_
      · intro a W hS pre old K hK
        have e30 : a.tmps.getD 30 undef = .pointer (some ⟨w.heap.size + 1, 0, none⟩) := pre 0 30 _ (by kernel_rfl) rfl rfl
        clear pre old
        simp only [Array.getD_eq_getD_getElem?] at e30
        have hS9 := hS
        obtain ⟨l1, l2, _⟩ := hS9
        obtain ⟨c0, c1, c2, c3, c4, c5, c6, c7, c8⟩ := l1.space
        have x0 := l2.cell 0
        have x3 := l2.cell 3
        simp only [List.getElem?_toArray, List.getElem?_cons_zero, List.getElem?_cons_succ] at x0 x3
        go_simp
        exact hK _ _ hS (Below.refl _ _) rfl
      refine Vals5.Steps.run (by kernel_rfl) (Vals5.Stable.is _) ?_ ?_
      · intro a W hS pre old K hK
        have e31 : a.tmps.getD 31 undef = .int .u8 (a0 : Int) := pre 1 31 _ (by kernel_rfl) rfl rfl
        clear pre old
        simp only [Array.getD_eq_getD_getElem?] at e31
        have hw8 : IntKind.i64.wrap (a0 : Int) = (a0 : Int) := IntWalk.i64_in _ (by omega)
        go_simp
        exact hK _ _ hS (Below.refl _ _) rfl
      refine Vals5.Steps.run (by kernel_rfl) (Vals5.Stable.is _) ?_ ?_
      · intro a W hS pre old K hK
        have e2 : a.tmps.getD 2 undef = .pointer (some ⟨w.heap.size, 0, none⟩) := old 2 _ (by kernel_rfl) rfl
        clear pre old
        simp only [Array.getD_eq_getD_getElem?] at e2
        go_simp
        exact hK _ _ hS (Below.refl _ _) rfl
      refine Vals5.Steps.run (by kernel_rfl) (Vals5.Stable.is _) ?_ ?_
      · intro a W hS pre old K hK
        have e33 : a.tmps.getD 33 undef = .pointer (some ⟨w.heap.size, 8, none⟩) := pre 3 33 _ (by kernel_rfl) rfl rfl
        clear pre old
        simp only [Array.getD_eq_getD_getElem?] at e33
        have hS9 := hS
        obtain ⟨l1, l2, _⟩ := hS9
        obtain ⟨c0, c1, c2, c3, c4, c5, c6, c7, c8⟩ := l1.space
        have x0 := l2.cell 0
        have x3 := l2.cell 3
        simp only [List.getElem?_toArray, List.getElem?_cons_zero, List.getElem?_cons_succ] at x0 x3
        go_simp
        exact hK _ _ hS (Below.refl _ _) rfl
      refine Vals5.Steps.run (by kernel_rfl) (Vals5.Stable.is _) ?_ ?_
      · intro a W hS pre old K hK
        have e34 : a.tmps.getD 34 undef = .slice m.T s.tools.length m.d := pre 4 34 _ (by kernel_rfl) rfl rfl
        clear pre old
        simp only [Array.getD_eq_getD_getElem?] at e34
        go_simp
        exact hK _ _ hS (Below.refl _ _) rfl
      refine Vals5.Steps.run (by kernel_rfl) (Vals5.Stable.is _) ?_ ?_
      · intro a W hS pre old K hK
        have e32 : a.tmps.getD 32 undef = .int .i64 (a0 : Int) := pre 2 32 _ (by kernel_rfl) rfl rfl
        have e35 : a.tmps.getD 35 undef = .int .i64 (s.tools.length : Int) := pre 5 35 _ (by kernel_rfl) rfl rfl
        clear pre old
        simp only [Array.getD_eq_getD_getElem?] at e32 e35
        have hne := HNE.out
        have hz := HZ.out
        have htm := HTM.out
        have hem := HEM.out
        go_simp
        first | (exact hK _ _ hS (Below.refl _ _) rfl) | (rw [if_neg hne]; exact hK _ _ hS (Below.refl _ _) rfl)
      refine Vals5.Steps.run (by kernel_rfl) (Vals5.Stable.is _) ?_ ?_
      · intro a W hS pre old K hK
        have e3 : a.tmps.getD 3 undef = .pointer (some ⟨w.heap.size + 1, 0, none⟩) := old 3 _ (by kernel_rfl) rfl
        clear pre old
        simp only [Array.getD_eq_getD_getElem?] at e3
        go_simp
        exact hK _ _ hS (Below.refl _ _) rfl
      refine Vals5.Steps.run (by kernel_rfl) (Vals5.Stable.is _) ?_ ?_
      · intro a W hS pre old K hK
        have e37 : a.tmps.getD 37 undef = .pointer (some ⟨w.heap.size + 1, 3, none⟩) := pre 7 37 _ (by kernel_rfl) rfl rfl
        clear pre old
        simp only [Array.getD_eq_getD_getElem?] at e37
        have hS9 := hS
        obtain ⟨l1, l2, _⟩ := hS9
        obtain ⟨c0, c1, c2, c3, c4, c5, c6, c7, c8⟩ := l1.space
        have x0 := l2.cell 0
        have x3 := l2.cell 3
        simp only [List.getElem?_toArray, List.getElem?_cons_zero, List.getElem?_cons_succ] at x0 x3
        go_simp
        exact hK _ _ hS (Below.refl _ _) rfl
      refine Vals5.Steps.run (by kernel_rfl) (Vals5.Stable.is _) ?_ ?_
      · intro a W hS pre old K hK
        have e38 : a.tmps.getD 38 undef = .int .u8 (a3 : Int) := pre 8 38 _ (by kernel_rfl) rfl rfl
        clear pre old
        simp only [Array.getD_eq_getD_getElem?] at e38
        have hw8 : IntKind.i64.wrap (a3 : Int) = (a3 : Int) := IntWalk.i64_in _ (by omega)
        go_simp
        exact hK _ _ hS (Below.refl _ _) rfl
      refine Vals5.Steps.run (by kernel_rfl) (Vals5.Stable.is _) ?_ ?_
      · intro a W hS pre old K hK
        have e39 : a.tmps.getD 39 undef = .int .i64 (a3 : Int) := pre 9 39 _ (by kernel_rfl) rfl rfl
        clear pre old
        simp only [Array.getD_eq_getD_getElem?] at e39
        have htm := HTM2.out
        have hem := HEM2.out
        go_simp
        exact hK _ _ hS (Below.refl _ _) rfl
      refine Vals5.Steps.run (by kernel_rfl) (Vals5.Stable.is _) ?_ ?_
      · intro a W hS pre old K hK
        have e36 : a.tmps.getD 36 undef = .int .i64 (tl : Int) := pre 6 36 _ (by kernel_rfl) rfl rfl
        clear pre old
        simp only [Array.getD_eq_getD_getElem?] at e36
        go_simp
        exact hK _ _ hS (Below.refl _ _) rfl
      exact Vals5.Steps.nil
    rintro X ⟨HS2, HA2, hsn2⟩
    simp only [Vals5.All, List.getLast_cons_cons, List.getLast_singleton]
    simp only [Vals.putAll, List.setIfInBounds_toArray, List.set_cons_zero, List.set_cons_succ]
    intro K hK
    go_simp
    refine hK _ _ ?_
    clear hK K
    obtain ⟨mo, hmo⟩ : ∃ mo : Int, min 250 ((sh : Int) + (a2 : Int)) = mo := ⟨_, rfl⟩
    have hmo1 : (sh : Int) ≤ mo := by omega
    have hmo2 : mo ≤ 250 := by omega
    have hr := rok_any hs (mi := mi) (tl := tl) (sh := sh) (by omega) (by omega) (by omega) (by omega) (by omega) (by omega)
    have hr2 := rok_any hs (mi := mi) (tl := tl) (sh := mo) (by omega) (by omega) (by omega) (by omega) (by omega) (by omega)
    have hin := hol_in (s := s) (r := ⟨(mi : Int), (tl : Int), (sh : Int)⟩) hr.m0 hr.m1
    have hle := hol_less (s := s) (r := ⟨(mi : Int), (tl : Int), (sh : Int)⟩) (r' := ⟨(mi : Int), (tl : Int), mo⟩) hs (show (0 : Int) ≤ sh by omega) rfl rfl hmo1 hr.m0
    obtain ⟨hi0, hi1, _⟩ := hin
    have hUC := untilA_one HC.out hr
    have hUH : ∀ x, now s [⟨(mi : Int), (tl : Int), (sh : Int)⟩] (mi : Int) = some x → hol s ⟨(mi : Int), (tl : Int), (sh : Int)⟩ ≤ untl s (kno [⟨(mi : Int), (tl : Int), (sh : Int)⟩] (mi : Int)) (mi : Int) (some x) := fun x hx => hol_until hs hr (show (0 : Int) ≤ sh by omega) hx
    have hH1 := fun W (hW : SAt W m s) => holds2_c s m ⟨(mi : Int), (tl : Int), (sh : Int)⟩ W hW
    have hH2 := fun W (hW : SAt W m s) => holds2_c s m ⟨(mi : Int), (tl : Int), mo⟩ W hW
    rw [holdsA_ok HC.out hr] at hH1
    rw [holdsA_ok HC.out hr2] at hH2
    have hU := fun W (hW : SAt W m s) (g : Nat) (hg : Blk W g 61 (rV ⟨(mi : Int), (tl : Int), (sh : Int)⟩)) => until2_c s m (some ⟨g, 0, none⟩) [⟨(mi : Int), (tl : Int), (sh : Int)⟩] 1 (mi : Int) W hW (Nat.le_refl _) (by decide) (RdAt.one hg)
    obtain ⟨n, hn⟩ : ∃ n, hol s ⟨(mi : Int), (tl : Int), (sh : Int)⟩ = n := ⟨_, rfl⟩
    obtain ⟨q, hq⟩ : ∃ q, hol s ⟨(mi : Int), (tl : Int), mo⟩ = q := ⟨_, rfl⟩
    rw [hn] at hH1 hi0 hi1 hle hUH
    rw [hq] at hH2 hle
    have HH1 := Lib.hid hH1
    have HH2 := Lib.hid hH2
    have HU := Lib.hid hU
    have HUC := Lib.hid hUC
    have HUH := Lib.hid hUH
    have HMO := Lib.hid hmo
    clear hn hq hr hr2 hH1 hH2 hU hUC hUH HNE HZ HEM HTM HEM2 HTM2
    have htm := HTM3.out
    have hem := HEM3.out
    have hw1 : IntKind.i64.wrap (a1 : Int) = (a1 : Int) := IntWalk.i64_in _ (by omega)
    have hw2 : IntKind.i64.wrap (a2 : Int) = (a2 : Int) := IntWalk.i64_in _ (by omega)
    have hw3 : IntKind.i64.wrap ((sh : Int) + (a2 : Int)) = (sh : Int) + (a2 : Int) := IntWalk.i64_in _ (by omega)
    have x1 := HA2.cell 1
    have x2 := HA2.cell 2
    simp only [List.getElem?_toArray, List.getElem?_cons_zero, List.getElem?_cons_succ] at x1 x2
    obtain ⟨c0, c1, c2, c3, c4, c5, c6, c7, c8⟩ := HS2.space
    rcases (by omega : ((sh : Int) + (a2 : Int) < 250 ∧ mo = (sh : Int) + (a2 : Int)) ∨ (¬ (sh : Int) + (a2 : Int) < 250 ∧ mo = 250)) with ⟨h2, hn2⟩ | ⟨h2, hn2⟩
    all_goals
      subst hn2
      clear hmo
      go_wp2_with fail
      refine (HH1.out _ (hsa.keep hsn2.1)).mono ?_
      rintro e w3 ⟨rfl, hb3⟩
      have hsn3 := hsn2.keep hb3
      have HS3 := HS2.keep hb3
      clear c0 c1 c2 c3 c4 c5 c6 c7 c8 HS2 hsn2 x1 x2 HA2 hb3
      obtain ⟨c0, c1, c2, c3, c4, c5, c6, c7, c8⟩ := HS3.space
      go_wp2_with fail
      refine (HH2.out _ (hsa.keep hsn3.1)).mono ?_
      rintro e w4 ⟨rfl, hb4⟩
      have hsn4 := (hsn3.keep hb4).alloc (.cells (rV ⟨(mi : Int), (tl : Int), (sh : Int)⟩) 61)
      have HS4 := HS3.keep hb4
      clear c0 c1 c2 c3 c4 c5 c6 c7 c8 HS3 hsn3 hb4
      have HU4 := HU.out _ (hsa.keep hsn4.1) w4.heap.size (Blk.new w4 _ _)
      obtain ⟨c0, c1, c2, c3, c4, c5, c6, c7, c8⟩ := HS4.space
      have g1 : ¬ n < q := by omega
      have g2 : ¬ n < -1 := by omega
      have g3 : ¬ 60 < n := by omega
      have htl0 := ht1
      rcases HUC.out with ⟨_, hua⟩ | ⟨x, hx, hua⟩
      · rw [hua] at HU4
        clear hua HUC HUH HU hle hi0 hi1
        go_wp2_with fail
        refine HU4.mono ?_
        rintro e w5 ⟨rfl, hb5⟩
        have hsn5 := hsn4.keep hb5
        clear HU4 c0 c1 c2 c3 c4 c5 c6 c7 c8
        go_wp2_with fail
        refine (awake_c _).mono ?_
        rintro e w6 ⟨rfl, hb6⟩
        go_wp2_with fail
        go_ret
        exact ⟨rfl, (hsn5.keep hb6).1⟩
      · have hun := HUH.out x hx
        obtain ⟨u, hu⟩ : ∃ u, untl s (kno [⟨(mi : Int), (tl : Int), (sh : Int)⟩] (mi : Int)) (mi : Int) (some x) = u := ⟨_, rfl⟩
        rw [hua] at HU4
        dsimp only at HU4
        rw [hu] at HU4 hun
        clear hua HUC HUH HU hle hi0 hi1 hu hx
        go_wp2_with fail
        refine HU4.mono ?_
        rintro e w5 ⟨rfl, hb5⟩
        have hsn5 := hsn4.keep hb5
        clear HU4 c0 c1 c2 c3 c4 c5 c6 c7 c8
        go_wp2_with fail
        refine (awake_c _).mono ?_
        rintro e w6 ⟨rfl, hb6⟩
        go_wp2_with fail
        go_ret
        exact ⟨rfl, (hsn5.keep hb6).1⟩
  · have hc' : ((chk s).2.2 == 0) = false := by simpa using hc
    have hv : holdsA s ⟨0, 0, 0⟩ = (0, (chk s).2.2) := by simp [holdsA, toolE2, hc]
    have hcn : ((chk s).2.2 != 0) = true := by simpa using hc
    rw [hc']
    obtain ⟨c0, c1, c2, c3, c4, c5, c6, c7, c8⟩ := HS1.out.space
    have hH := holds2_c s m ⟨0, 0, 0⟩ w1 (hsa.keep hsn1.1)
    rw [hv] at hH
    clear hv hc hc'
    go_wp2_with fail
    refine hH.mono ?_
    rintro e w2 ⟨rfl, hb2⟩
    have hsn2 := hsn1.keep hb2
    clear hH c0 c1 c2 c3 c4 c5 c6 c7 c8
    go_wp2_with fail
    refine (awake_c _).mono ?_
    rintro e w3 ⟨rfl, hb3⟩
    go_wp2_with fail
    go_ret
    exact ⟨rfl, (hsn2.keep hb3).1⟩
end Td
end Go.Proofs.Ytccacinnelmnpaa
