import Derived.Test.YthdcklonamgpiaaJop
import Derived.Deep.MidRow
/- The law StandJoined: what it returns. -/
namespace Go.Proofs.Ythdcklonamgpiaa
open Go.RowKit
namespace Td
set_option linter.unusedSimpArgs false
set_option linter.unusedVariables false
attribute [local go_sem] Oper.semAt_some
def zzN : ByteArray := ⟨#[122, 122]⟩
abbrev u4 (n0 n1 n2 n3 : Nat) : Array Value := #[.int .u16 n0, .int .u16 n1, .int .u16 n2, .int .u16 n3]
set_option maxRecDepth 100000 in
set_option maxHeartbeats 8000000 in
theorem standJoined_c (h : Hul) (m : Sl) (n0 n1 n2 n3 : Nat) (w : World) (hp : HAt w m h) (c0' : n0 ≤ 65535) (c1' : n1 ≤ 65535) (c2' : n2 ≤ 65535) (c3' : n3 ≤ 65535) :
    Calls Try.prog 14 #[.agg (hV h m), .agg (u4 n0 n1 n2 n3)] w fun e w' => e = .returned (.bool true) ∧ Below w.heap.size w w' := by
  have hs := ((Since.refl w).alloc (.cells (hV h m) 24)).alloc (.cells (u4 n0 n1 n2 n3) 80)
  have HB := Lib.hid ((Blk.new w 24 (hV h m)).alloc (.cells (u4 n0 n1 n2 n3) 80))
  have HX := Lib.hid (Blk.new1 w (.cells (hV h m) 24) 80 (u4 n0 n1 n2 n3))
  have HP := Lib.hid hp
  clear hp
  obtain ⟨c0, c1, c2⟩ := HB.out.hull
  go_enter Try.func14, Try.ntmps14
  go_wp2_with fail
  refine (valid_c h m _ (HP.out.keep hs.1)).mono ?_
  rintro e w1 ⟨rfl, hb⟩
  replace hs := hs.keep hb
  replace HB := Lib.hid (HB.out.keep hb)
  replace HX := Lib.hid (HX.out.keep hb)
  clear hb c0 c1 c2
  by_cases hc : (chk h).2.2 = 0
  · rw [decide_eq_true hc]
    have HC := Lib.hid hc
    have hh := chk_ok hc
    have HH := Lib.hid hh
    have hn1 := hh.n1
    have hn10 := hh.n10
    clear hc
    obtain ⟨c0, c1, c2⟩ := HB.out.hull
    by_cases h10 : h.parts.length = 10
    · have hl : ((h.parts.length : Int) == 10) = true := by rw [beq_iff_eq]; omega
      go_wp2_with fail
      clear c0 c1 c2 hl
      refine (awake_c _).mono ?_
      rintro e w9 ⟨rfl, hb⟩
      replace hs := hs.keep hb
      go_wp2_with fail
      go_ret
      exact ⟨rfl, hs.1⟩
    have hl : ((h.parts.length : Int) == 10) = false := by rw [beq_eq_false_iff_ne]; omega
    obtain ⟨q, hq⟩ : ∃ q, n0 % h.parts.length = q := ⟨_, rfl⟩
    have hlt : q < h.parts.length := by rw [← hq]; exact Nat.mod_lt _ (by omega)
    obtain ⟨wt, hwt⟩ : ∃ wt, (n1 : Int) % 1001 = wt := ⟨_, rfl⟩
    have w0 : 0 ≤ wt := by rw [← hwt]; exact Int.emod_nonneg _ (by decide)
    have w1' : wt ≤ 1000 := by have := Int.emod_lt_of_pos (n1 : Int) (show (0 : Int) < 1001 by decide); omega
    have e0 : IntKind.i64.wrap (n0 : Int) = n0 := IntWalk.i64_in _ (by omega)
    have e1 : IntKind.i64.wrap (n1 : Int) = n1 := IntWalk.i64_in _ (by omega)
    have e2 : IntKind.i64.wrap (n2 : Int) = n2 := IntWalk.i64_in _ (by omega)
    have e3 : IntKind.i64.wrap (n3 : Int) = n3 := IntWalk.i64_in _ (by omega)
    have e4 : (n0 : Int).tmod (h.parts.length : Int) = q := by rw [Int.tmod_eq_emod_of_nonneg (by omega), ← hq]; exact (Int.natCast_emod _ _).symm
    have e5 : IntKind.i64.wrap (q : Int) = q := IntWalk.i64_in _ (by omega)
    have e6 : (n1 : Int).tmod 1001 = wt := by rw [Int.tmod_eq_emod_of_nonneg (by omega)]; exact hwt
    have e7 : IntKind.i64.wrap wt = wt := IntWalk.i64_in _ (by omega)
    have n3' : ((h.parts.length : Int) == 0) = false := by rw [beq_eq_false_iff_ne]; omega
    have n4' : (h.parts.length : Int) ≠ 0 := by omega
    have n5' : ¬ h.parts = [] := fun e => by rw [e] at hn1; simp at hn1
    have E0 := Lib.hid e0
    have E1 := Lib.hid e1
    have E2 := Lib.hid e2
    have E3 := Lib.hid e3
    have E4 := Lib.hid e4
    have E5 := Lib.hid e5
    have E6 := Lib.hid e6
    have E7 := Lib.hid e7
    have N3 := Lib.hid n3'
    have N4 := Lib.hid n4'
    have N5 := Lib.hid n5'
    clear hq hwt e0 e1 e2 e3 e4 e5 e6 e7 n3' n4' n5'
    go_wp2_with fail
    clear hl c0 c1 c2
    obtain ⟨ad, hA, -⟩ := (HP.out.ps).get hlt
    obtain ⟨mA, mc⟩ := m
    replace hA : mA = some ad := hA
    subst hA
    refine Vals9.region (fun σ Z => Since w Z ∧ Blk Z w.heap.size 24 (hV h ⟨some ad, mc⟩) ∧ Blk Z (w.heap.size + 1) 80 (u4 n0 n1 n2 n3)) [some 30, some 31, some 32, some 33, some 34, some 35, some 36, some 37, some 38, some 39, some 40, some 5, some 6] [.is ?_, .is ?_, .is (.int .i64 n0), .is ?_, .is ?_, .is ?_, .is (.int .i64 q), .is ?_, .is ?_, .is (.int .i64 n1), .is (.int .i64 wt), .is ?_, .is ?_] (by kernel_rfl) (by kernel_rfl) (by kernel_rfl) (by kernel_rfl) (by kernel_rfl) (by kernel_rfl) (⟨hs.drew, HB.out.drew, HX.out.drew⟩) ?hsteps ?hfin
    case hsteps =>
      refine Vals9.Steps.run rfl ?_ ?_
      · intro a W σ hJ pre K hK
        have e3 := pre.2.2 3 _ (by kernel_rfl) rfl
        clear pre
        simp only [Array.getD_eq_getD_getElem?, List.getElem?_toArray, List.getElem?_cons_zero, List.getElem?_cons_succ, Option.getD_some] at e3
        go_simp
        exact hK _ hJ
      refine Vals9.Steps.run rfl ?_ ?_
      · intro a W σ hJ pre K hK
        have e30 := pre.1 0 30 _ (by kernel_rfl) rfl rfl
        clear pre
        simp only [Array.getD_eq_getD_getElem?, List.getElem?_toArray, List.getElem?_cons_zero, List.getElem?_cons_succ, Option.getD_some] at e30
        have hS9 := hJ
        obtain ⟨r1, r2, r3⟩ := hS9
        obtain ⟨c0, c1, c2⟩ := r2.hull
        have y0 := r3.cell 0
        have y1 := r3.cell 1
        simp only [List.getElem?_toArray, List.getElem?_cons_zero, List.getElem?_cons_succ] at y0 y1
        go_simp
        exact hK _ hJ
      refine Vals9.Steps.run rfl ?_ ?_
      · intro a W σ hJ pre K hK
        have e31 := pre.1 1 31 _ (by kernel_rfl) rfl rfl
        clear pre
        simp only [Array.getD_eq_getD_getElem?, List.getElem?_toArray, List.getElem?_cons_zero, List.getElem?_cons_succ, Option.getD_some] at e31
        have x0 := E0.out
        go_simp
        exact hK _ hJ
      refine Vals9.Steps.run rfl ?_ ?_
      · intro a W σ hJ pre K hK
        have e2 := pre.2.2 2 _ (by kernel_rfl) rfl
        clear pre
        simp only [Array.getD_eq_getD_getElem?, List.getElem?_toArray, List.getElem?_cons_zero, List.getElem?_cons_succ, Option.getD_some] at e2
        go_simp
        exact hK _ hJ
      refine Vals9.Steps.run rfl ?_ ?_
      · intro a W σ hJ pre K hK
        have e33 := pre.1 3 33 _ (by kernel_rfl) rfl rfl
        clear pre
        simp only [Array.getD_eq_getD_getElem?, List.getElem?_toArray, List.getElem?_cons_zero, List.getElem?_cons_succ, Option.getD_some] at e33
        have hS9 := hJ
        obtain ⟨r1, r2, r3⟩ := hS9
        obtain ⟨c0, c1, c2⟩ := r2.hull
        have y0 := r3.cell 0
        have y1 := r3.cell 1
        simp only [List.getElem?_toArray, List.getElem?_cons_zero, List.getElem?_cons_succ] at y0 y1
        go_simp
        exact hK _ hJ
      refine Vals9.Steps.run rfl ?_ ?_
      · intro a W σ hJ pre K hK
        have e34 := pre.1 4 34 _ (by kernel_rfl) rfl rfl
        clear pre
        simp only [Array.getD_eq_getD_getElem?, List.getElem?_toArray, List.getElem?_cons_zero, List.getElem?_cons_succ, Option.getD_some] at e34
        go_simp
        exact hK _ hJ
      refine Vals9.Steps.run rfl ?_ ?_
      · intro a W σ hJ pre K hK
        have e32 := pre.1 2 32 _ (by kernel_rfl) rfl rfl
        have e35 := pre.1 5 35 _ (by kernel_rfl) rfl rfl
        clear pre
        simp only [Array.getD_eq_getD_getElem?, List.getElem?_toArray, List.getElem?_cons_zero, List.getElem?_cons_succ, Option.getD_some] at e32 e35
        have x0 := E4.out
        have x1 := E5.out
        have x2 := N3.out
        have x3 := N4.out
        have x4 := N5.out
        go_simp
        exact hK _ hJ
      refine Vals9.Steps.run rfl ?_ ?_
      · intro a W σ hJ pre K hK
        have e3 := pre.2.2 3 _ (by kernel_rfl) rfl
        clear pre
        simp only [Array.getD_eq_getD_getElem?, List.getElem?_toArray, List.getElem?_cons_zero, List.getElem?_cons_succ, Option.getD_some] at e3
        go_simp
        exact hK _ hJ
      refine Vals9.Steps.run rfl ?_ ?_
      · intro a W σ hJ pre K hK
        have e37 := pre.1 7 37 _ (by kernel_rfl) rfl rfl
        clear pre
        simp only [Array.getD_eq_getD_getElem?, List.getElem?_toArray, List.getElem?_cons_zero, List.getElem?_cons_succ, Option.getD_some] at e37
        have hS9 := hJ
        obtain ⟨r1, r2, r3⟩ := hS9
        obtain ⟨c0, c1, c2⟩ := r2.hull
        have y0 := r3.cell 0
        have y1 := r3.cell 1
        simp only [List.getElem?_toArray, List.getElem?_cons_zero, List.getElem?_cons_succ] at y0 y1
        go_simp
        exact hK _ hJ
      refine Vals9.Steps.run rfl ?_ ?_
      · intro a W σ hJ pre K hK
        have e38 := pre.1 8 38 _ (by kernel_rfl) rfl rfl
        clear pre
        simp only [Array.getD_eq_getD_getElem?, List.getElem?_toArray, List.getElem?_cons_zero, List.getElem?_cons_succ, Option.getD_some] at e38
        have x0 := E1.out
        go_simp
        exact hK _ hJ
      refine Vals9.Steps.run rfl ?_ ?_
      · intro a W σ hJ pre K hK
        have e39 := pre.1 9 39 _ (by kernel_rfl) rfl rfl
        clear pre
        simp only [Array.getD_eq_getD_getElem?, List.getElem?_toArray, List.getElem?_cons_zero, List.getElem?_cons_succ, Option.getD_some] at e39
        have x0 := E6.out
        have x1 := E7.out
        go_simp
        exact hK _ hJ
      refine Vals9.Steps.run rfl ?_ ?_
      · intro a W σ hJ pre K hK
        have e36 := pre.1 6 36 _ (by kernel_rfl) rfl rfl
        clear pre
        simp only [Array.getD_eq_getD_getElem?, List.getElem?_toArray, List.getElem?_cons_zero, List.getElem?_cons_succ, Option.getD_some] at e36
        go_simp
        exact hK _ hJ
      refine Vals9.Steps.run rfl ?_ ?_
      · intro a W σ hJ pre K hK
        have e40 := pre.1 10 40 _ (by kernel_rfl) rfl rfl
        clear pre
        simp only [Array.getD_eq_getD_getElem?, List.getElem?_toArray, List.getElem?_cons_zero, List.getElem?_cons_succ, Option.getD_some] at e40
        go_simp
        exact hK _ hJ
      exact Vals9.Steps.nil
    case hfin =>
      rintro X σ ⟨hs2, HB2, HX2⟩
      simp only [Vals9.All]
      simp only [Vals.putAll, List.setIfInBounds_toArray, List.set_cons_zero, List.set_cons_succ]
      replace hs := hs2
      replace HB := Lib.hid HB2
      replace HX := Lib.hid HX2
      clear hs2 HB2 HX2 E0 E1 E4 E5 E6 E7 N3 N4 N5
      obtain ⟨ad2, hA2, d0, d1, d2, d3, d4, d5, d6⟩ := (HP.out.keep hs.1).ps.get hlt
      cases hA2
      have hqi : (q : Int) < (h.parts.length : Int) := by omega
      have hx := HH.out.ps _ (List.getElem_mem hlt)
      have HPA := Lib.hid (pa_at hlt)
      have HNM := Lib.hid (HP.out.nm _ (List.getElem_mem hlt))
      obtain ⟨c0, c1, c2⟩ := HB.out.hull
      have hs5 := Lib.hid ((hs.alloc (.cells (pV h.parts[q]) 74)).alloc (.cells #[.string zzN, .int .i64 h.parts[q].pt, .int .i64 h.parts[q].w0, .int .i64 h.parts[q].w1, .int .i64 h.parts[q].kl, .int .i64 h.parts[q].l0, .int .i64 h.parts[q].l1] 74))
      have HB5 := Lib.hid ((HB.out.alloc (.cells (pV h.parts[q]) 74)).alloc (.cells #[.string zzN, .int .i64 h.parts[q].pt, .int .i64 h.parts[q].w0, .int .i64 h.parts[q].w1, .int .i64 h.parts[q].kl, .int .i64 h.parts[q].l0, .int .i64 h.parts[q].l1] 74))
      have HX5 := Lib.hid ((HX.out.alloc (.cells (pV h.parts[q]) 74)).alloc (.cells #[.string zzN, .int .i64 h.parts[q].pt, .int .i64 h.parts[q].w0, .int .i64 h.parts[q].w1, .int .i64 h.parts[q].kl, .int .i64 h.parts[q].l0, .int .i64 h.parts[q].l1] 74))
      have HP5 := Lib.hid ((Blk.new X 74 (pV h.parts[q])).alloc (.cells #[.string zzN, .int .i64 h.parts[q].pt, .int .i64 h.parts[q].w0, .int .i64 h.parts[q].w1, .int .i64 h.parts[q].kl, .int .i64 h.parts[q].l0, .int .i64 h.parts[q].l1] 74))
      have HQ5 := Lib.hid (Blk.new1 X (.cells (pV h.parts[q]) 74) 74 #[.string zzN, .int .i64 h.parts[q].pt, .int .i64 h.parts[q].w0, .int .i64 h.parts[q].w1, .int .i64 h.parts[q].kl, .int .i64 h.parts[q].l0, .int .i64 h.parts[q].l1])
      have hwl : w.heap.size + 1 < X.heap.size := HX.out.lt
      go_wp2_with fail
      clear c0 c1 c2 d0 d1 d2 d3 d4 d5 d6
      obtain ⟨gP, hgP⟩ : ∃ g, X.heap.size = g := ⟨_, rfl⟩
      rw [hgP] at HP5 HQ5 hwl ⊢
      obtain ⟨p, hpp⟩ : ∃ p, h.parts[q] = p := ⟨_, rfl⟩
      rw [hpp] at hs5 HB5 HX5 HP5 HQ5 hx HPA HNM ⊢
      obtain ⟨X2, hX2⟩ : ∃ X2, (X.alloc (.cells (pV p) 74)).alloc (.cells #[.string zzN, .int .i64 p.pt, .int .i64 p.w0, .int .i64 p.w1, .int .i64 p.kl, .int .i64 p.l0, .int .i64 p.l1] 74) = X2 := ⟨_, rfl⟩
      have hX2' : (X.alloc (.cells (pV p) 74)).alloc (.cells #[.string { data := #[122, 122] }, .int .i64 p.pt, .int .i64 p.w0, .int .i64 p.w1, .int .i64 p.kl, .int .i64 p.l0, .int .i64 p.l1] 74) = X2 := hX2
      rw [hX2] at hs5 HB5 HX5 HP5 HQ5
      rw [hX2']
      clear hX2 hX2' hgP hpp
      replace hs : Since w X2 := hs5.out
      replace HB := HB5
      replace HX := HX5
      have HG := HP5
      have HQ : Hid (Blk X2 (gP + 1) 74 (pV { p with name := zzN })) := HQ5
      clear hs5 HB5 HX5 HP5 HQ5
      have hx5 := hx.w0
      have hx6 := hx.w01
      have hx7 := hx.w1
      have hx8 := hx.l0
      have hx9 := hx.l01
      have hx10 := hx.l1
      obtain ⟨wl, hwl2⟩ : ∃ r, (n2 : Int) % (p.w0 + 1) = r := ⟨_, rfl⟩
      obtain ⟨ll, hll2⟩ : ∃ r, (n3 : Int) % (p.l0 + 1) = r := ⟨_, rfl⟩
      have wl0 : 0 ≤ wl := by rw [← hwl2]; exact Int.emod_nonneg _ (by omega)
      have wl1 : wl < p.w0 + 1 := by rw [← hwl2]; exact Int.emod_lt_of_pos _ (by omega)
      have ll0 : 0 ≤ ll := by rw [← hll2]; exact Int.emod_nonneg _ (by omega)
      have ll1 : ll < p.l0 + 1 := by rw [← hll2]; exact Int.emod_lt_of_pos _ (by omega)
      have e1 : IntKind.i64.wrap (p.w0 + 1) = p.w0 + 1 := IntWalk.i64_in _ (by omega)
      have e4 : (n2 : Int).tmod (p.w0 + 1) = wl := by rw [Int.tmod_eq_emod_of_nonneg (by omega)]; exact hwl2
      have e5 : IntKind.i64.wrap wl = wl := IntWalk.i64_in _ (by omega)
      have e6 : IntKind.i64.wrap (p.l0 + 1) = p.l0 + 1 := IntWalk.i64_in _ (by omega)
      have e7 : (n3 : Int).tmod (p.l0 + 1) = ll := by rw [Int.tmod_eq_emod_of_nonneg (by omega)]; exact hll2
      have e8 : IntKind.i64.wrap ll = ll := IntWalk.i64_in _ (by omega)
      have n1' : ((p.w0 + 1) == 0) = false := by rw [beq_eq_false_iff_ne]; omega
      have n2' : p.w0 + 1 ≠ 0 := by omega
      have n3' : ((p.l0 + 1) == 0) = false := by rw [beq_eq_false_iff_ne]; omega
      have n4' : p.l0 + 1 ≠ 0 := by omega
      have F1 := Lib.hid e1
      have F4 := Lib.hid e4
      have F5 := Lib.hid e5
      have F6 := Lib.hid e6
      have F7 := Lib.hid e7
      have F8 := Lib.hid e8
      have M1 := Lib.hid n1'
      have M2 := Lib.hid n2'
      have M3 := Lib.hid n3'
      have M4 := Lib.hid n4'
      clear hwl2 hll2 e1 e4 e5 e6 e7 e8 n1' n2' n3' n4'
      refine Vals9.region (fun σ Z => N2 w [(w.heap.size, 24, hV h ⟨some ad, mc⟩), (w.heap.size + 1, 80, u4 n0 n1 n2 n3), (gP, 74, pV p), (gP + 1, 74, pV { p with name := zzN })] 48 s0V #[.int .i64 wl, .int .i64 0] #[.int .i64 ll, .int .i64 0] (σ 18) (σ 20) (σ 19) (σ 21) Z) [some 48, some 49, some 50, some 51, some 52, some 53, some 54, some 55, some 56, some 57, some 58, some 59, some 60, some 61, some 62, some 63, some 64, some 65, some 9, some 10, none, none] [.is ?_, .is ?_, .is (.int .i64 n2), .is ?_, .is ?_, .is ?_, .is (.int .i64 (p.w0 + 1)), .is (.int .i64 wl), .is ?_, .is ?_, .is ?_, .is (.int .i64 n3), .is ?_, .is ?_, .is ?_, .is (.int .i64 (p.l0 + 1)), .is (.int .i64 ll), .is ?_, .any, .any, .any, .any] (by kernel_rfl) (by kernel_rfl) (by kernel_rfl) (by kernel_rfl) (by kernel_rfl) (by kernel_rfl) (⟨hs.drew, (fun b hb => by simp only [List.mem_cons, List.not_mem_nil, or_false] at hb; rcases hb with rfl | rfl | rfl | rfl; exact HB.out.drew; exact HX.out.drew; exact HG.out.drew; exact HQ.out.drew), (fun v hv => by cases hv), (fun v hv => by cases hv), (fun _ _ e => by cases e), (fun k => absurd rfl k), (fun k => absurd rfl k)⟩) ?hsteps ?hfin
      case hsteps =>
        refine Vals9.Steps.run rfl ?_ ?_
        · intro a W σ hJ pre K hK
          have e3 := pre.2.2 3 _ (by kernel_rfl) rfl
          clear pre
          simp only [Array.getD_eq_getD_getElem?, List.getElem?_toArray, List.getElem?_cons_zero, List.getElem?_cons_succ, Option.getD_some] at e3
          go_simp
          exact hK _ hJ
        refine Vals9.Steps.run rfl ?_ ?_
        · intro a W σ hJ pre K hK
          have e48 := pre.1 0 48 _ (by kernel_rfl) rfl rfl
          clear pre
          simp only [Array.getD_eq_getD_getElem?, List.getElem?_toArray, List.getElem?_cons_zero, List.getElem?_cons_succ, Option.getD_some] at e48
          have hJ2 : N2 w [(w.heap.size, 24, hV h ⟨some ad, mc⟩), (w.heap.size + 1, 80, u4 n0 n1 n2 n3), (gP, 74, pV p), (gP + 1, 74, pV { p with name := zzN })] 48 s0V #[.int .i64 wl, .int .i64 0] #[.int .i64 ll, .int .i64 0] (σ 18) (σ 20) (σ 19) (σ 21) W := hJ
          have hX2 := (show Blk W (w.heap.size + 1) 80 (u4 n0 n1 n2 n3) from hJ2.bl (w.heap.size + 1, 80, u4 n0 n1 n2 n3) (by simp))
          have y2 := hX2.cell 2
          have y3 := hX2.cell 3
          simp only [List.getElem?_toArray, List.getElem?_cons_zero, List.getElem?_cons_succ] at y2 y3
          go_simp
          exact hK _ hJ
        refine Vals9.Steps.run rfl ?_ ?_
        · intro a W σ hJ pre K hK
          have e49 := pre.1 1 49 _ (by kernel_rfl) rfl rfl
          clear pre
          simp only [Array.getD_eq_getD_getElem?, List.getElem?_toArray, List.getElem?_cons_zero, List.getElem?_cons_succ, Option.getD_some] at e49
          have x0 := E2.out
          go_simp
          exact hK _ hJ
        refine Vals9.Steps.run rfl ?_ ?_
        · intro a W σ hJ pre K hK
          have e7 := pre.2.2 7 _ (by kernel_rfl) rfl
          clear pre
          simp only [Array.getD_eq_getD_getElem?, List.getElem?_toArray, List.getElem?_cons_zero, List.getElem?_cons_succ, Option.getD_some] at e7
          go_simp
          exact hK _ hJ
        refine Vals9.Steps.run rfl ?_ ?_
        · intro a W σ hJ pre K hK
          have e51 := pre.1 3 51 _ (by kernel_rfl) rfl rfl
          clear pre
          simp only [Array.getD_eq_getD_getElem?, List.getElem?_toArray, List.getElem?_cons_zero, List.getElem?_cons_succ, Option.getD_some] at e51
          go_simp
          exact hK _ hJ
        refine Vals9.Steps.run rfl ?_ ?_
        · intro a W σ hJ pre K hK
          have e52 := pre.1 4 52 _ (by kernel_rfl) rfl rfl
          clear pre
          simp only [Array.getD_eq_getD_getElem?, List.getElem?_toArray, List.getElem?_cons_zero, List.getElem?_cons_succ, Option.getD_some] at e52
          have hJ2 : N2 w [(w.heap.size, 24, hV h ⟨some ad, mc⟩), (w.heap.size + 1, 80, u4 n0 n1 n2 n3), (gP, 74, pV p), (gP + 1, 74, pV { p with name := zzN })] 48 s0V #[.int .i64 wl, .int .i64 0] #[.int .i64 ll, .int .i64 0] (σ 18) (σ 20) (σ 19) (σ 21) W := hJ
          obtain ⟨p0, p1, p2, p3, p4, p5, p6⟩ := (show Blk W gP 74 (pV p) from hJ2.bl (gP, 74, pV p) (by simp)).part
          go_simp
          exact hK _ hJ
        refine Vals9.Steps.run rfl ?_ ?_
        · intro a W σ hJ pre K hK
          have e53 := pre.1 5 53 _ (by kernel_rfl) rfl rfl
          clear pre
          simp only [Array.getD_eq_getD_getElem?, List.getElem?_toArray, List.getElem?_cons_zero, List.getElem?_cons_succ, Option.getD_some] at e53
          have x0 := F1.out
          go_simp
          exact hK _ hJ
        refine Vals9.Steps.run rfl ?_ ?_
        · intro a W σ hJ pre K hK
          have e50 := pre.1 2 50 _ (by kernel_rfl) rfl rfl
          have e54 := pre.1 6 54 _ (by kernel_rfl) rfl rfl
          clear pre
          simp only [Array.getD_eq_getD_getElem?, List.getElem?_toArray, List.getElem?_cons_zero, List.getElem?_cons_succ, Option.getD_some] at e50 e54
          have x0 := F4.out
          have x1 := F5.out
          have x2 := M1.out
          have x3 := M2.out
          go_simp
          exact hK _ hJ
        refine Vals9.Steps.run rfl ?_ ?_
        · intro a W σ hJ pre K hK
          have e55 := pre.1 7 55 _ (by kernel_rfl) rfl rfl
          clear pre
          simp only [Array.getD_eq_getD_getElem?, List.getElem?_toArray, List.getElem?_cons_zero, List.getElem?_cons_succ, Option.getD_some] at e55
          have hJ2 : N2 w [(w.heap.size, 24, hV h ⟨some ad, mc⟩), (w.heap.size + 1, 80, u4 n0 n1 n2 n3), (gP, 74, pV p), (gP + 1, 74, pV { p with name := zzN })] 48 s0V #[.int .i64 wl, .int .i64 0] #[.int .i64 ll, .int .i64 0] (σ 18) (σ 20) (σ 19) (σ 21) W := hJ
          have hC := span_c wl 0 W
          go_simp
          refine hC.mono ?_
          rintro e w' ⟨rfl, hb'⟩
          exact hK _ (hJ2.keep hb')
        refine Vals9.Steps.run rfl ?_ ?_
        · intro a W σ hJ pre K hK
          have e3 := pre.2.2 3 _ (by kernel_rfl) rfl
          clear pre
          simp only [Array.getD_eq_getD_getElem?, List.getElem?_toArray, List.getElem?_cons_zero, List.getElem?_cons_succ, Option.getD_some] at e3
          go_simp
          exact hK _ hJ
        refine Vals9.Steps.run rfl ?_ ?_
        · intro a W σ hJ pre K hK
          have e57 := pre.1 9 57 _ (by kernel_rfl) rfl rfl
          clear pre
          simp only [Array.getD_eq_getD_getElem?, List.getElem?_toArray, List.getElem?_cons_zero, List.getElem?_cons_succ, Option.getD_some] at e57
          have hJ2 : N2 w [(w.heap.size, 24, hV h ⟨some ad, mc⟩), (w.heap.size + 1, 80, u4 n0 n1 n2 n3), (gP, 74, pV p), (gP + 1, 74, pV { p with name := zzN })] 48 s0V #[.int .i64 wl, .int .i64 0] #[.int .i64 ll, .int .i64 0] (σ 18) (σ 20) (σ 19) (σ 21) W := hJ
          have hX2 := (show Blk W (w.heap.size + 1) 80 (u4 n0 n1 n2 n3) from hJ2.bl (w.heap.size + 1, 80, u4 n0 n1 n2 n3) (by simp))
          have y2 := hX2.cell 2
          have y3 := hX2.cell 3
          simp only [List.getElem?_toArray, List.getElem?_cons_zero, List.getElem?_cons_succ] at y2 y3
          go_simp
          exact hK _ hJ
        refine Vals9.Steps.run rfl ?_ ?_
        · intro a W σ hJ pre K hK
          have e58 := pre.1 10 58 _ (by kernel_rfl) rfl rfl
          clear pre
          simp only [Array.getD_eq_getD_getElem?, List.getElem?_toArray, List.getElem?_cons_zero, List.getElem?_cons_succ, Option.getD_some] at e58
          have x0 := E3.out
          go_simp
          exact hK _ hJ
        refine Vals9.Steps.run rfl ?_ ?_
        · intro a W σ hJ pre K hK
          have e7 := pre.2.2 7 _ (by kernel_rfl) rfl
          clear pre
          simp only [Array.getD_eq_getD_getElem?, List.getElem?_toArray, List.getElem?_cons_zero, List.getElem?_cons_succ, Option.getD_some] at e7
          go_simp
          exact hK _ hJ
        refine Vals9.Steps.run rfl ?_ ?_
        · intro a W σ hJ pre K hK
          have e60 := pre.1 12 60 _ (by kernel_rfl) rfl rfl
          clear pre
          simp only [Array.getD_eq_getD_getElem?, List.getElem?_toArray, List.getElem?_cons_zero, List.getElem?_cons_succ, Option.getD_some] at e60
          go_simp
          exact hK _ hJ
        refine Vals9.Steps.run rfl ?_ ?_
        · intro a W σ hJ pre K hK
          have e61 := pre.1 13 61 _ (by kernel_rfl) rfl rfl
          clear pre
          simp only [Array.getD_eq_getD_getElem?, List.getElem?_toArray, List.getElem?_cons_zero, List.getElem?_cons_succ, Option.getD_some] at e61
          have hJ2 : N2 w [(w.heap.size, 24, hV h ⟨some ad, mc⟩), (w.heap.size + 1, 80, u4 n0 n1 n2 n3), (gP, 74, pV p), (gP + 1, 74, pV { p with name := zzN })] 48 s0V #[.int .i64 wl, .int .i64 0] #[.int .i64 ll, .int .i64 0] (σ 18) (σ 20) (σ 19) (σ 21) W := hJ
          obtain ⟨p0, p1, p2, p3, p4, p5, p6⟩ := (show Blk W gP 74 (pV p) from hJ2.bl (gP, 74, pV p) (by simp)).part
          go_simp
          exact hK _ hJ
        refine Vals9.Steps.run rfl ?_ ?_
        · intro a W σ hJ pre K hK
          have e62 := pre.1 14 62 _ (by kernel_rfl) rfl rfl
          clear pre
          simp only [Array.getD_eq_getD_getElem?, List.getElem?_toArray, List.getElem?_cons_zero, List.getElem?_cons_succ, Option.getD_some] at e62
          have x0 := F6.out
          go_simp
          exact hK _ hJ
        refine Vals9.Steps.run rfl ?_ ?_
        · intro a W σ hJ pre K hK
          have e59 := pre.1 11 59 _ (by kernel_rfl) rfl rfl
          have e63 := pre.1 15 63 _ (by kernel_rfl) rfl rfl
          clear pre
          simp only [Array.getD_eq_getD_getElem?, List.getElem?_toArray, List.getElem?_cons_zero, List.getElem?_cons_succ, Option.getD_some] at e59 e63
          have x0 := F7.out
          have x1 := F8.out
          have x2 := M3.out
          have x3 := M4.out
          go_simp
          exact hK _ hJ
        refine Vals9.Steps.run rfl ?_ ?_
        · intro a W σ hJ pre K hK
          have e64 := pre.1 16 64 _ (by kernel_rfl) rfl rfl
          clear pre
          simp only [Array.getD_eq_getD_getElem?, List.getElem?_toArray, List.getElem?_cons_zero, List.getElem?_cons_succ, Option.getD_some] at e64
          have hJ2 : N2 w [(w.heap.size, 24, hV h ⟨some ad, mc⟩), (w.heap.size + 1, 80, u4 n0 n1 n2 n3), (gP, 74, pV p), (gP + 1, 74, pV { p with name := zzN })] 48 s0V #[.int .i64 wl, .int .i64 0] #[.int .i64 ll, .int .i64 0] (σ 18) (σ 20) (σ 19) (σ 21) W := hJ
          have hC := span_c ll 0 W
          go_simp
          refine hC.mono ?_
          rintro e w' ⟨rfl, hb'⟩
          exact hK _ (hJ2.keep hb')
        refine Vals9.Steps.mark rfl ?_ ?_
        · intro a W σ hJ hn pre K hK
          have hJ2 : N2 w [(w.heap.size, 24, hV h ⟨some ad, mc⟩), (w.heap.size + 1, 80, u4 n0 n1 n2 n3), (gP, 74, pV p), (gP + 1, 74, pV { p with name := zzN })] 48 s0V #[.int .i64 wl, .int .i64 0] #[.int .i64 ll, .int .i64 0] (σ 18) (σ 20) (σ 19) (σ 21) W := hJ
          rw [hn] at hJ2
          go_simp
          exact hK _ _ hJ2.made1
        refine Vals9.Steps.mark rfl ?_ ?_
        · intro a W σ hJ hn pre K hK
          have hJ2 : N2 w [(w.heap.size, 24, hV h ⟨some ad, mc⟩), (w.heap.size + 1, 80, u4 n0 n1 n2 n3), (gP, 74, pV p), (gP + 1, 74, pV { p with name := zzN })] 48 s0V #[.int .i64 wl, .int .i64 0] #[.int .i64 ll, .int .i64 0] (σ 18) (σ 20) (σ 19) (σ 21) W := hJ
          rw [hn] at hJ2
          go_simp
          exact hK _ _ hJ2.made2
        refine Vals9.Steps.mark rfl ?_ ?_
        · intro a W σ hJ hn pre K hK
          obtain ⟨v9, s9, e9⟩ := pre.2.1 18 (by kernel_rfl) rfl
          replace e9 : a.tmps.getD 9 undef = v9 := e9 9 rfl
          have e56 := pre.1 8 56 _ (by kernel_rfl) rfl rfl
          simp only [Array.getD_eq_getD_getElem?, List.getElem?_toArray, List.getElem?_cons_zero, List.getElem?_cons_succ, Option.getD_some] at e9 e56
          have hJ2 : N2 w [(w.heap.size, 24, hV h ⟨some ad, mc⟩), (w.heap.size + 1, 80, u4 n0 n1 n2 n3), (gP, 74, pV p), (gP + 1, 74, pV { p with name := zzN })] 48 s0V #[.int .i64 wl, .int .i64 0] #[.int .i64 ll, .int .i64 0] (σ 18) (σ 20) (σ 19) (σ 21) W := hJ
          rw [hn, s9] at hJ2
          obtain ⟨g, eg, hb, h2⟩ := hJ2.put1 undef
          rw [← s9] at h2
          have hfin := hK undef _ h2
          rw [eg] at e9
          have hx1 : a.eval (.tmp 9) = .pointer (some ⟨g, 0, none⟩) := by go_simp
          have hy1 : a.eval (.tmp 56) = .agg #[.int .i64 wl, .int .i64 0] := by go_simp
          refine wp_store_row 48 _ _ rfl g #[.int .i64 wl, .int .i64 0] hx1 hy1 48 _ hb (by kernel_rfl) rfl (by simp [Value.oneCell']) ?_
          exact hfin
        refine Vals9.Steps.mark rfl ?_ ?_
        · intro a W σ hJ hn pre K hK
          obtain ⟨v10, s10, e10⟩ := pre.2.1 19 (by kernel_rfl) rfl
          replace e10 : a.tmps.getD 10 undef = v10 := e10 10 rfl
          have e65 := pre.1 17 65 _ (by kernel_rfl) rfl rfl
          simp only [Array.getD_eq_getD_getElem?, List.getElem?_toArray, List.getElem?_cons_zero, List.getElem?_cons_succ, Option.getD_some] at e10 e65
          have hJ2 : N2 w [(w.heap.size, 24, hV h ⟨some ad, mc⟩), (w.heap.size + 1, 80, u4 n0 n1 n2 n3), (gP, 74, pV p), (gP + 1, 74, pV { p with name := zzN })] 48 s0V #[.int .i64 wl, .int .i64 0] #[.int .i64 ll, .int .i64 0] (σ 18) (σ 20) (σ 19) (σ 21) W := hJ
          rw [hn, s10] at hJ2
          obtain ⟨g, eg, hb, h2⟩ := hJ2.put2 undef
          rw [← s10] at h2
          have hfin := hK undef _ h2
          rw [eg] at e10
          have hx1 : a.eval (.tmp 10) = .pointer (some ⟨g, 0, none⟩) := by go_simp
          have hy1 : a.eval (.tmp 65) = .agg #[.int .i64 ll, .int .i64 0] := by go_simp
          refine wp_store_row 48 _ _ rfl g #[.int .i64 ll, .int .i64 0] hx1 hy1 48 _ hb (by kernel_rfl) rfl (by simp [Value.oneCell']) ?_
          exact hfin
        exact Vals9.Steps.nil
      case hfin =>
        rintro Y σ hJ
        simp only [Vals9.All]
        rintro v18 s18 v19 s19 v20 s20 v21 s21
        simp only [Vals.putAll, List.setIfInBounds_toArray, List.set_cons_zero, List.set_cons_succ]
        have hJ2 : N2 w [(w.heap.size, 24, hV h ⟨some ad, mc⟩), (w.heap.size + 1, 80, u4 n0 n1 n2 n3), (gP, 74, pV p), (gP + 1, 74, pV { p with name := zzN })] 48 s0V #[.int .i64 wl, .int .i64 0] #[.int .i64 ll, .int .i64 0] (σ 18) (σ 20) (σ 19) (σ 21) Y := hJ
        rw [s18, s20, s19, s21] at hJ2
        obtain ⟨g9, g10, e9, e10, h910, hLg, hw9, hw10, hb9, hb10⟩ := hJ2.end_
        subst e9 e10
        have hs2 := hJ2.sn
        have HB2 := Lib.hid (show Blk Y w.heap.size 24 (hV h ⟨some ad, mc⟩) from hJ2.bl (w.heap.size, 24, hV h ⟨some ad, mc⟩) (by simp))
        have HG2 := Lib.hid (show Blk Y gP 74 (pV p) from hJ2.bl (gP, 74, pV p) (by simp))
        have HQ2 := Lib.hid (show Blk Y (gP + 1) 74 (pV { p with name := zzN }) from hJ2.bl (gP + 1, 74, pV { p with name := zzN }) (by simp))
        have hg9 : gP + 1 < g9 ∧ gP + 1 < g10 := hLg (gP + 1, 74, pV { p with name := zzN }) (by simp)
        have H9 := Lib.hid hb9
        have H10 := Lib.hid hb10
        clear hJ hJ2 hb9 hb10 hLg F1 F4 F5 F6 F7 F8 M1 M2 M3 M4 E2 E3 s18 s19 s20 s21
        replace hs := hs2
        replace HB := HB2
        replace HG := HG2
        replace HQ := HQ2
        clear hs2 HB2 HG2 HQ2 HX
        obtain ⟨dw, hdw⟩ : ∃ d, (p.w1 - p.w0) / 2 = d := ⟨_, rfl⟩
        obtain ⟨dl, hdl⟩ : ∃ d, (p.l1 - p.l0) / 2 = d := ⟨_, rfl⟩
        have a1 : IntKind.i64.wrap (p.w1 - p.w0) = p.w1 - p.w0 := IntWalk.i64_in _ (by omega)
        have a2 : (p.w1 - p.w0).tdiv 2 = dw := by rw [Int.tdiv_eq_ediv_of_nonneg (by omega)]; exact hdw
        have a3 : IntKind.i64.wrap dw = dw := IntWalk.i64_in _ (by omega)
        have a4 : IntKind.i64.wrap (wl + dw) = wl + dw := IntWalk.i64_in _ (by omega)
        have a5 : IntKind.i64.wrap (p.l1 - p.l0) = p.l1 - p.l0 := IntWalk.i64_in _ (by omega)
        have a6 : (p.l1 - p.l0).tdiv 2 = dl := by rw [Int.tdiv_eq_ediv_of_nonneg (by omega)]; exact hdl
        have a7 : IntKind.i64.wrap dl = dl := IntWalk.i64_in _ (by omega)
        have a8 : IntKind.i64.wrap (ll + dl) = ll + dl := IntWalk.i64_in _ (by omega)
        have K9 := H9.out.set 1 (.int .i64 (wl + dw))
        have K10 := (H10.out.far (g' := g9) h910 1 (.int .i64 (wl + dw)))
        have K11 := K10.set 1 (.int .i64 (ll + dl))
        have G9 := HG.out.far (g' := g9) (by omega) 1 (.int .i64 (wl + dw))
        have y0 := H9.out.cell 0
        have y1 := H9.out.cell 1
        have f1 := H9.out.frozen 1
        have y2 := K10.cell 0
        have y3 := K10.cell 1
        have f3 := K10.frozen 1
        simp only [List.getElem?_toArray, List.getElem?_cons_zero, List.getElem?_cons_succ] at y0 y1 y2 y3
        obtain ⟨p0, p1, p2, p3, p4, p5, p6⟩ := HG.out.part
        obtain ⟨t0, t1, t2, t3, t4, t5, t6⟩ := G9.part
        have Z9 := Lib.hid (K9.far (g' := g10) (Ne.symm h910) 1 (.int .i64 (ll + dl)))
        have Z10 := Lib.hid K11
        have ZG := Lib.hid (G9.far (g' := g10) (by omega) 1 (.int .i64 (ll + dl)))
        have ZQ := Lib.hid ((HQ.out.far (g' := g9) (by omega) 1 (.int .i64 (wl + dw))).far (g' := g10) (by omega) 1 (.int .i64 (ll + dl)))
        have ZB := Lib.hid ((HB.out.far (g' := g9) (by omega) 1 (.int .i64 (wl + dw))).far (g' := g10) (by omega) 1 (.int .i64 (ll + dl)))
        have ZS := Lib.hid ((hs.set (g := g9) hw9 1 (.int .i64 (wl + dw))).set (g := g10) hw10 1 (.int .i64 (ll + dl)))
        go_wp2_with fail
        clear K9 K10 K11 G9 y0 y1 y2 y3 f1 f3 p0 p1 p2 p3 p4 p5 p6 t0 t1 t2 t3 t4 t5 t6 a1 a2 a3 a4 a5 a6 a7 a8 H9 H10
        have HDW := Lib.hid hdw
        have HDL := Lib.hid hdl
        have b1 : IntKind.i64.wrap (p.w0 - wl) = p.w0 - wl := IntWalk.i64_in _ (by omega)
        have b2 : IntKind.i64.wrap (p.w1 - (wl + dw)) = p.w1 - (wl + dw) := IntWalk.i64_in _ (by omega)
        have b3 : IntKind.i64.wrap (p.l0 - ll) = p.l0 - ll := IntWalk.i64_in _ (by omega)
        have b4 : IntKind.i64.wrap (p.l1 - (ll + dl)) = p.l1 - (ll + dl) := IntWalk.i64_in _ (by omega)
        have B1 := Lib.hid b1
        have B2 := Lib.hid b2
        have B3 := Lib.hid b3
        have B4 := Lib.hid b4
        clear b1 b2 b3 b4 hx5 hx6 hx7 hx8 hx9 hx10 wl0 wl1 ll0 ll1 hdw hdl
        obtain ⟨wh, hwh⟩ : ∃ d, wl + dw = d := ⟨_, rfl⟩
        obtain ⟨lh, hlh⟩ : ∃ d, ll + dl = d := ⟨_, rfl⟩
        rw [hwh] at B2 Z9 Z10 ZG ZQ ZB ZS ⊢
        rw [hlh] at B4 Z9 Z10 ZG ZQ ZB ZS ⊢
        obtain ⟨Y2, hY2⟩ : ∃ Y2, (Y.setCell ⟨g9, 1, none⟩ (.int .i64 wh)).setCell ⟨g10, 1, none⟩ (.int .i64 lh) = Y2 := ⟨_, rfl⟩
        rw [hY2] at Z9 Z10 ZG ZQ ZB ZS ⊢
        clear hY2 HB HG HQ
        replace hs : Since w Y2 := ZS.out
        have HB := ZB
        have HG := ZG
        have HQ := ZQ
        have H9 : Hid (Blk Y2 g9 48 #[.int .i64 wl, .int .i64 wh]) := Z9
        have H10 : Hid (Blk Y2 g10 48 #[.int .i64 ll, .int .i64 lh]) := Z10
        clear ZS ZB ZG ZQ Z9 Z10
        have HWH := Lib.hid hwh
        have HLH := Lib.hid hlh
        clear hwh hlh
        have hgp0 : w.heap.size ≤ gP := by omega
        refine Vals9.region (fun σ Z => S4 w [(w.heap.size, 24, hV h ⟨some ad, mc⟩), (gP, 74, pV p), (g9, 48, #[.int .i64 wl, .int .i64 wh]), (g10, 48, #[.int .i64 ll, .int .i64 lh])] (gP + 1) { p with name := zzN } wl wh ll lh (some (.int .i64 p.w0)) (some (.int .i64 p.w1)) (some (.int .i64 p.l0)) (some (.int .i64 p.l1)) (σ 3) (σ 5) Z) [some 90, some 91, some 92, none, some 93, none] [.is ?_, .is ?_, .is ?_, .any, .is ?_, .any] (by kernel_rfl) (by kernel_rfl) (by kernel_rfl) (by kernel_rfl) (by kernel_rfl) (by kernel_rfl) (⟨hs.drew, (fun b hb => by simp only [List.mem_cons, List.not_mem_nil, or_false] at hb; rcases hb with rfl | rfl | rfl | rfl; exact HB.out.drew; exact HG.out.drew; exact H9.out.drew; exact H10.out.drew), (fun b hb => by simp only [List.mem_cons, List.not_mem_nil, or_false] at hb; rcases hb with rfl | rfl | rfl | rfl; (show gP + 1 ≠ w.heap.size; omega); (show gP + 1 ≠ gP; omega); (show gP + 1 ≠ g9; omega); (show gP + 1 ≠ g10; omega)), (by omega), HQ.out.drew, (fun v e => (Option.some.inj e).symm), (fun v e => (Option.some.inj e).symm), (fun v e => (Option.some.inj e).symm), (fun v e => (Option.some.inj e).symm), (fun k => absurd rfl k), (fun k => absurd rfl k)⟩) ?hsteps ?hfin
        case hsteps =>
          refine Vals9.Steps.run rfl ?_ ?_
          · intro a W σ hJ pre K hK
            have e9 := pre.2.2 9 _ (by kernel_rfl) rfl
            clear pre
            simp only [Array.getD_eq_getD_getElem?, List.getElem?_toArray, List.getElem?_cons_zero, List.getElem?_cons_succ, Option.getD_some] at e9
            have hJ2 : S4 w [(w.heap.size, 24, hV h ⟨some ad, mc⟩), (gP, 74, pV p), (g9, 48, #[.int .i64 wl, .int .i64 wh]), (g10, 48, #[.int .i64 ll, .int .i64 lh])] (gP + 1) { p with name := zzN } wl wh ll lh (some (.int .i64 p.w0)) (some (.int .i64 p.w1)) (some (.int .i64 p.l0)) (some (.int .i64 p.l1)) (σ 3) (σ 5) W := hJ
            obtain ⟨s0, s1⟩ := (show Blk W g9 48 #[.int .i64 wl, .int .i64 wh] from hJ2.bl (g9, 48, #[.int .i64 wl, .int .i64 wh]) (by simp)).span
            obtain ⟨s2, s3⟩ := (show Blk W g10 48 #[.int .i64 ll, .int .i64 lh] from hJ2.bl (g10, 48, #[.int .i64 ll, .int .i64 lh]) (by simp)).span
            go_simp
            exact hK _ hJ
          refine Vals9.Steps.run rfl ?_ ?_
          · intro a W σ hJ pre K hK
            have e10 := pre.2.2 10 _ (by kernel_rfl) rfl
            clear pre
            simp only [Array.getD_eq_getD_getElem?, List.getElem?_toArray, List.getElem?_cons_zero, List.getElem?_cons_succ, Option.getD_some] at e10
            have hJ2 : S4 w [(w.heap.size, 24, hV h ⟨some ad, mc⟩), (gP, 74, pV p), (g9, 48, #[.int .i64 wl, .int .i64 wh]), (g10, 48, #[.int .i64 ll, .int .i64 lh])] (gP + 1) { p with name := zzN } wl wh ll lh (some (.int .i64 p.w0)) (some (.int .i64 p.w1)) (some (.int .i64 p.l0)) (some (.int .i64 p.l1)) (σ 3) (σ 5) W := hJ
            obtain ⟨s0, s1⟩ := (show Blk W g9 48 #[.int .i64 wl, .int .i64 wh] from hJ2.bl (g9, 48, #[.int .i64 wl, .int .i64 wh]) (by simp)).span
            obtain ⟨s2, s3⟩ := (show Blk W g10 48 #[.int .i64 ll, .int .i64 lh] from hJ2.bl (g10, 48, #[.int .i64 ll, .int .i64 lh]) (by simp)).span
            go_simp
            exact hK _ hJ
          refine Vals9.Steps.run rfl ?_ ?_
          · intro a W σ hJ pre K hK
            have e8 := pre.2.2 8 _ (by kernel_rfl) rfl
            clear pre
            simp only [Array.getD_eq_getD_getElem?, List.getElem?_toArray, List.getElem?_cons_zero, List.getElem?_cons_succ, Option.getD_some] at e8
            go_simp
            exact hK _ hJ
          refine Vals9.Steps.mark rfl ?_ ?_
          · intro a W σ hJ hn pre K hK
            have e90 := pre.1 0 90 _ (by kernel_rfl) rfl rfl
            have e92 := pre.1 2 92 _ (by kernel_rfl) rfl rfl
            simp only [Array.getD_eq_getD_getElem?, List.getElem?_toArray, List.getElem?_cons_zero, List.getElem?_cons_succ, Option.getD_some] at e90 e92
            have hJ2 : S4 w [(w.heap.size, 24, hV h ⟨some ad, mc⟩), (gP, 74, pV p), (g9, 48, #[.int .i64 wl, .int .i64 wh]), (g10, 48, #[.int .i64 ll, .int .i64 lh])] (gP + 1) { p with name := zzN } wl wh ll lh (some (.int .i64 p.w0)) (some (.int .i64 p.w1)) (some (.int .i64 p.l0)) (some (.int .i64 p.l1)) (σ 3) (σ 5) W := hJ
            rw [hn] at hJ2
            obtain ⟨⟨_, p1⟩, ⟨_, p2⟩, f1, f2, hz⟩ := hJ2.putW undef
            have hfin := hK undef _ hz
            clear hK hz hJ2 hJ pre
            go_simp
            exact hfin
          refine Vals9.Steps.run rfl ?_ ?_
          · intro a W σ hJ pre K hK
            have e8 := pre.2.2 8 _ (by kernel_rfl) rfl
            clear pre
            simp only [Array.getD_eq_getD_getElem?, List.getElem?_toArray, List.getElem?_cons_zero, List.getElem?_cons_succ, Option.getD_some] at e8
            go_simp
            exact hK _ hJ
          refine Vals9.Steps.mark rfl ?_ ?_
          · intro a W σ hJ hn pre K hK
            have e91 := pre.1 1 91 _ (by kernel_rfl) rfl rfl
            have e93 := pre.1 4 93 _ (by kernel_rfl) rfl rfl
            simp only [Array.getD_eq_getD_getElem?, List.getElem?_toArray, List.getElem?_cons_zero, List.getElem?_cons_succ, Option.getD_some] at e91 e93
            have hJ2 : S4 w [(w.heap.size, 24, hV h ⟨some ad, mc⟩), (gP, 74, pV p), (g9, 48, #[.int .i64 wl, .int .i64 wh]), (g10, 48, #[.int .i64 ll, .int .i64 lh])] (gP + 1) { p with name := zzN } wl wh ll lh (some (.int .i64 p.w0)) (some (.int .i64 p.w1)) (some (.int .i64 p.l0)) (some (.int .i64 p.l1)) (σ 3) (σ 5) W := hJ
            rw [hn] at hJ2
            obtain ⟨⟨_, p1⟩, ⟨_, p2⟩, f1, f2, hz⟩ := hJ2.putL undef
            have hfin := hK undef _ hz
            clear hK hz hJ2 hJ pre
            go_simp
            exact hfin
          exact Vals9.Steps.nil
        case hfin =>
          rintro Z σ hJ
          simp only [Vals9.All]
          rintro v3 s3 v5 s5
          simp only [Vals.putAll, List.setIfInBounds_toArray, List.set_cons_zero, List.set_cons_succ]
          have hJ2 : S4 w [(w.heap.size, 24, hV h ⟨some ad, mc⟩), (gP, 74, pV p), (g9, 48, #[.int .i64 wl, .int .i64 wh]), (g10, 48, #[.int .i64 ll, .int .i64 lh])] (gP + 1) { p with name := zzN } wl wh ll lh (some (.int .i64 p.w0)) (some (.int .i64 p.w1)) (some (.int .i64 p.l0)) (some (.int .i64 p.l1)) (σ 3) (σ 5) Z := hJ
          rw [s3, s5] at hJ2
          have hs2 := hJ2.sn
          have HB2 := Lib.hid (show Blk Z w.heap.size 24 (hV h ⟨some ad, mc⟩) from hJ2.bl (w.heap.size, 24, hV h ⟨some ad, mc⟩) (by simp))
          have HG2 := Lib.hid (show Blk Z gP 74 (pV p) from hJ2.bl (gP, 74, pV p) (by simp))
          have H92 := Lib.hid (show Blk Z g9 48 #[.int .i64 wl, .int .i64 wh] from hJ2.bl (g9, 48, #[.int .i64 wl, .int .i64 wh]) (by simp))
          have H102 := Lib.hid (show Blk Z g10 48 #[.int .i64 ll, .int .i64 lh] from hJ2.bl (g10, 48, #[.int .i64 ll, .int .i64 lh]) (by simp))
          have HQ2 : Hid (Blk Z (gP + 1) 74 (pV (jnQ p zzN wl ll))) := by
            have k := hJ2.pb
            have e : stP { p with name := zzN } wl wh ll lh true true = jnQ p zzN wl ll := by unfold stP jnQ; rw [← HWH.out, ← HLH.out, ← HDW.out, ← HDL.out]; rfl
            exact (congrArg (fun y => Blk Z (gP + 1) 74 (pV y)) e).mp k
          clear hJ hJ2 s3 s5
          replace hs := hs2
          replace HB := HB2
          replace HG := HG2
          replace HQ := HQ2
          replace H9 := H92
          replace H10 := H102
          clear hs2 HB2 HG2 HQ2 H92 H102
          obtain ⟨qF, hqF⟩ : ∃ y, jnQ p zzN wl ll = y := ⟨_, rfl⟩
          rw [hqF] at HQ
          have HQF := Lib.hid hqF
          clear hqF
          go_wp2_with fail
          refine Vals9.region (fun σ Z => S4 w [(w.heap.size, 24, hV h ⟨some ad, mc⟩), (gP + 1, 74, pV qF), (g9, 48, #[.int .i64 wl, .int .i64 wh]), (g10, 48, #[.int .i64 ll, .int .i64 lh])] gP p (p.w0 - wl) (p.w1 - wh) (p.l0 - ll) (p.l1 - lh) (σ 2) (σ 8) (σ 15) (σ 21) (σ 27) (σ 29) Z) [some 94, some 95, some 96, some 97, some 98, some 99, some 100, some 101, some 102, some 103, some 104, some 105, some 106, some 107, some 108, some 109, some 110, some 111, some 112, some 113, some 114, some 115, some 116, some 117, some 118, some 119, some 120, none, some 121, none] [.is ?_, .is ?_, .any, .is ?_, .is ?_, .is (.int .i64 (p.w0 - wl)), .is ?_, .is ?_, .any, .is ?_, .is ?_, .is (.int .i64 (p.w1 - wh)), .is ?_, .is ?_, .is ?_, .any, .is ?_, .is ?_, .is (.int .i64 (p.l0 - ll)), .is ?_, .is ?_, .any, .is ?_, .is ?_, .is (.int .i64 (p.l1 - lh)), .is ?_, .is ?_, .any, .is ?_, .any] (by kernel_rfl) (by kernel_rfl) (by kernel_rfl) (by kernel_rfl) (by kernel_rfl) (by kernel_rfl) (⟨hs.drew, (fun b hb => by simp only [List.mem_cons, List.not_mem_nil, or_false] at hb; rcases hb with rfl | rfl | rfl | rfl; exact HB.out.drew; exact HQ.out.drew; exact H9.out.drew; exact H10.out.drew), (fun b hb => by simp only [List.mem_cons, List.not_mem_nil, or_false] at hb; rcases hb with rfl | rfl | rfl | rfl; (show gP ≠ w.heap.size; omega); (show gP ≠ gP + 1; omega); (show gP ≠ g9; omega); (show gP ≠ g10; omega)), hgp0, HG.out.drew, (fun v e => by cases e), (fun v e => by cases e), (fun v e => by cases e), (fun v e => by cases e), (fun k => absurd rfl k), (fun k => absurd rfl k)⟩) ?hsteps ?hfin
          case hsteps =>
            refine Vals9.Steps.run rfl ?_ ?_
            · intro a W σ hJ pre K hK
              have e7 := pre.2.2 7 _ (by kernel_rfl) rfl
              clear pre
              simp only [Array.getD_eq_getD_getElem?, List.getElem?_toArray, List.getElem?_cons_zero, List.getElem?_cons_succ, Option.getD_some] at e7
              go_simp
              exact hK _ hJ
            refine Vals9.Steps.run rfl ?_ ?_
            · intro a W σ hJ pre K hK
              have e94 := pre.1 0 94 _ (by kernel_rfl) rfl rfl
              clear pre
              simp only [Array.getD_eq_getD_getElem?, List.getElem?_toArray, List.getElem?_cons_zero, List.getElem?_cons_succ, Option.getD_some] at e94
              go_simp
              exact hK _ hJ
            refine Vals9.Steps.mark rfl ?_ ?_
            · intro a W σ hJ hn pre K hK
              have e95 := pre.1 1 95 _ (by kernel_rfl) rfl rfl
              simp only [Array.getD_eq_getD_getElem?, List.getElem?_toArray, List.getElem?_cons_zero, List.getElem?_cons_succ, Option.getD_some] at e95
              have hJ2 : S4 w [(w.heap.size, 24, hV h ⟨some ad, mc⟩), (gP + 1, 74, pV qF), (g9, 48, #[.int .i64 wl, .int .i64 wh]), (g10, 48, #[.int .i64 ll, .int .i64 lh])] gP p (p.w0 - wl) (p.w1 - wh) (p.l0 - ll) (p.l1 - lh) (σ 2) (σ 8) (σ 15) (σ 21) (σ 27) (σ 29) W := hJ
              rw [hn] at hJ2
              obtain ⟨p1, hz⟩ := hJ2.load1
              go_simp
              exact hK _ _ hz
            refine Vals9.Steps.run rfl ?_ ?_
            · intro a W σ hJ pre K hK
              have e9 := pre.2.2 9 _ (by kernel_rfl) rfl
              clear pre
              simp only [Array.getD_eq_getD_getElem?, List.getElem?_toArray, List.getElem?_cons_zero, List.getElem?_cons_succ, Option.getD_some] at e9
              go_simp
              exact hK _ hJ
            refine Vals9.Steps.run rfl ?_ ?_
            · intro a W σ hJ pre K hK
              have e97 := pre.1 3 97 _ (by kernel_rfl) rfl rfl
              clear pre
              simp only [Array.getD_eq_getD_getElem?, List.getElem?_toArray, List.getElem?_cons_zero, List.getElem?_cons_succ, Option.getD_some] at e97
              have hJ2 : S4 w [(w.heap.size, 24, hV h ⟨some ad, mc⟩), (gP + 1, 74, pV qF), (g9, 48, #[.int .i64 wl, .int .i64 wh]), (g10, 48, #[.int .i64 ll, .int .i64 lh])] gP p (p.w0 - wl) (p.w1 - wh) (p.l0 - ll) (p.l1 - lh) (σ 2) (σ 8) (σ 15) (σ 21) (σ 27) (σ 29) W := hJ
              obtain ⟨s0, s1⟩ := (show Blk W g9 48 #[.int .i64 wl, .int .i64 wh] from hJ2.bl (g9, 48, #[.int .i64 wl, .int .i64 wh]) (by simp)).span
              obtain ⟨s2, s3⟩ := (show Blk W g10 48 #[.int .i64 ll, .int .i64 lh] from hJ2.bl (g10, 48, #[.int .i64 ll, .int .i64 lh]) (by simp)).span
              go_simp
              exact hK _ hJ
            refine Vals9.Steps.run rfl ?_ ?_
            · intro a W σ hJ pre K hK
              obtain ⟨v96, s96, e96⟩ := pre.2.1 2 (by kernel_rfl) rfl
              replace e96 : a.tmps.getD 96 undef = v96 := e96 96 rfl
              have e98 := pre.1 4 98 _ (by kernel_rfl) rfl rfl
              clear pre
              simp only [Array.getD_eq_getD_getElem?, List.getElem?_toArray, List.getElem?_cons_zero, List.getElem?_cons_succ, Option.getD_some] at e96 e98
              have hJ2 : S4 w [(w.heap.size, 24, hV h ⟨some ad, mc⟩), (gP + 1, 74, pV qF), (g9, 48, #[.int .i64 wl, .int .i64 wh]), (g10, 48, #[.int .i64 ll, .int .i64 lh])] gP p (p.w0 - wl) (p.w1 - wh) (p.l0 - ll) (p.l1 - lh) (σ 2) (σ 8) (σ 15) (σ 21) (σ 27) (σ 29) W := hJ
              have e9 := hJ2.l1 _ s96
              rw [e9] at e96
              have x9 := B1.out
              go_simp
              exact hK _ hJ
            refine Vals9.Steps.run rfl ?_ ?_
            · intro a W σ hJ pre K hK
              have e7 := pre.2.2 7 _ (by kernel_rfl) rfl
              clear pre
              simp only [Array.getD_eq_getD_getElem?, List.getElem?_toArray, List.getElem?_cons_zero, List.getElem?_cons_succ, Option.getD_some] at e7
              go_simp
              exact hK _ hJ
            refine Vals9.Steps.run rfl ?_ ?_
            · intro a W σ hJ pre K hK
              have e100 := pre.1 6 100 _ (by kernel_rfl) rfl rfl
              clear pre
              simp only [Array.getD_eq_getD_getElem?, List.getElem?_toArray, List.getElem?_cons_zero, List.getElem?_cons_succ, Option.getD_some] at e100
              go_simp
              exact hK _ hJ
            refine Vals9.Steps.mark rfl ?_ ?_
            · intro a W σ hJ hn pre K hK
              have e101 := pre.1 7 101 _ (by kernel_rfl) rfl rfl
              simp only [Array.getD_eq_getD_getElem?, List.getElem?_toArray, List.getElem?_cons_zero, List.getElem?_cons_succ, Option.getD_some] at e101
              have hJ2 : S4 w [(w.heap.size, 24, hV h ⟨some ad, mc⟩), (gP + 1, 74, pV qF), (g9, 48, #[.int .i64 wl, .int .i64 wh]), (g10, 48, #[.int .i64 ll, .int .i64 lh])] gP p (p.w0 - wl) (p.w1 - wh) (p.l0 - ll) (p.l1 - lh) (σ 2) (σ 8) (σ 15) (σ 21) (σ 27) (σ 29) W := hJ
              rw [hn] at hJ2
              obtain ⟨p1, hz⟩ := hJ2.load2
              go_simp
              exact hK _ _ hz
            refine Vals9.Steps.run rfl ?_ ?_
            · intro a W σ hJ pre K hK
              have e9 := pre.2.2 9 _ (by kernel_rfl) rfl
              clear pre
              simp only [Array.getD_eq_getD_getElem?, List.getElem?_toArray, List.getElem?_cons_zero, List.getElem?_cons_succ, Option.getD_some] at e9
              go_simp
              exact hK _ hJ
            refine Vals9.Steps.run rfl ?_ ?_
            · intro a W σ hJ pre K hK
              have e103 := pre.1 9 103 _ (by kernel_rfl) rfl rfl
              clear pre
              simp only [Array.getD_eq_getD_getElem?, List.getElem?_toArray, List.getElem?_cons_zero, List.getElem?_cons_succ, Option.getD_some] at e103
              have hJ2 : S4 w [(w.heap.size, 24, hV h ⟨some ad, mc⟩), (gP + 1, 74, pV qF), (g9, 48, #[.int .i64 wl, .int .i64 wh]), (g10, 48, #[.int .i64 ll, .int .i64 lh])] gP p (p.w0 - wl) (p.w1 - wh) (p.l0 - ll) (p.l1 - lh) (σ 2) (σ 8) (σ 15) (σ 21) (σ 27) (σ 29) W := hJ
              obtain ⟨s0, s1⟩ := (show Blk W g9 48 #[.int .i64 wl, .int .i64 wh] from hJ2.bl (g9, 48, #[.int .i64 wl, .int .i64 wh]) (by simp)).span
              obtain ⟨s2, s3⟩ := (show Blk W g10 48 #[.int .i64 ll, .int .i64 lh] from hJ2.bl (g10, 48, #[.int .i64 ll, .int .i64 lh]) (by simp)).span
              go_simp
              exact hK _ hJ
            refine Vals9.Steps.run rfl ?_ ?_
            · intro a W σ hJ pre K hK
              obtain ⟨v102, s102, e102⟩ := pre.2.1 8 (by kernel_rfl) rfl
              replace e102 : a.tmps.getD 102 undef = v102 := e102 102 rfl
              have e104 := pre.1 10 104 _ (by kernel_rfl) rfl rfl
              clear pre
              simp only [Array.getD_eq_getD_getElem?, List.getElem?_toArray, List.getElem?_cons_zero, List.getElem?_cons_succ, Option.getD_some] at e102 e104
              have hJ2 : S4 w [(w.heap.size, 24, hV h ⟨some ad, mc⟩), (gP + 1, 74, pV qF), (g9, 48, #[.int .i64 wl, .int .i64 wh]), (g10, 48, #[.int .i64 ll, .int .i64 lh])] gP p (p.w0 - wl) (p.w1 - wh) (p.l0 - ll) (p.l1 - lh) (σ 2) (σ 8) (σ 15) (σ 21) (σ 27) (σ 29) W := hJ
              have e9 := hJ2.l2 _ s102
              rw [e9] at e102
              have x9 := B2.out
              go_simp
              exact hK _ hJ
            refine Vals9.Steps.run rfl ?_ ?_
            · intro a W σ hJ pre K hK
              have e99 := pre.1 5 99 _ (by kernel_rfl) rfl rfl
              have e105 := pre.1 11 105 _ (by kernel_rfl) rfl rfl
              clear pre
              simp only [Array.getD_eq_getD_getElem?, List.getElem?_toArray, List.getElem?_cons_zero, List.getElem?_cons_succ, Option.getD_some] at e99 e105
              have hJ2 : S4 w [(w.heap.size, 24, hV h ⟨some ad, mc⟩), (gP + 1, 74, pV qF), (g9, 48, #[.int .i64 wl, .int .i64 wh]), (g10, 48, #[.int .i64 ll, .int .i64 lh])] gP p (p.w0 - wl) (p.w1 - wh) (p.l0 - ll) (p.l1 - lh) (σ 2) (σ 8) (σ 15) (σ 21) (σ 27) (σ 29) W := hJ
              have hC := span_c (p.w0 - wl) (p.w1 - wh) W
              go_simp
              refine hC.mono ?_
              rintro e w' ⟨rfl, hb'⟩
              exact hK _ (hJ2.keep hb')
            refine Vals9.Steps.run rfl ?_ ?_
            · intro a W σ hJ pre K hK
              have e7 := pre.2.2 7 _ (by kernel_rfl) rfl
              clear pre
              simp only [Array.getD_eq_getD_getElem?, List.getElem?_toArray, List.getElem?_cons_zero, List.getElem?_cons_succ, Option.getD_some] at e7
              go_simp
              exact hK _ hJ
            refine Vals9.Steps.run rfl ?_ ?_
            · intro a W σ hJ pre K hK
              have e107 := pre.1 13 107 _ (by kernel_rfl) rfl rfl
              clear pre
              simp only [Array.getD_eq_getD_getElem?, List.getElem?_toArray, List.getElem?_cons_zero, List.getElem?_cons_succ, Option.getD_some] at e107
              go_simp
              exact hK _ hJ
            refine Vals9.Steps.mark rfl ?_ ?_
            · intro a W σ hJ hn pre K hK
              have e108 := pre.1 14 108 _ (by kernel_rfl) rfl rfl
              simp only [Array.getD_eq_getD_getElem?, List.getElem?_toArray, List.getElem?_cons_zero, List.getElem?_cons_succ, Option.getD_some] at e108
              have hJ2 : S4 w [(w.heap.size, 24, hV h ⟨some ad, mc⟩), (gP + 1, 74, pV qF), (g9, 48, #[.int .i64 wl, .int .i64 wh]), (g10, 48, #[.int .i64 ll, .int .i64 lh])] gP p (p.w0 - wl) (p.w1 - wh) (p.l0 - ll) (p.l1 - lh) (σ 2) (σ 8) (σ 15) (σ 21) (σ 27) (σ 29) W := hJ
              rw [hn] at hJ2
              obtain ⟨p1, hz⟩ := hJ2.load3
              go_simp
              exact hK _ _ hz
            refine Vals9.Steps.run rfl ?_ ?_
            · intro a W σ hJ pre K hK
              have e10 := pre.2.2 10 _ (by kernel_rfl) rfl
              clear pre
              simp only [Array.getD_eq_getD_getElem?, List.getElem?_toArray, List.getElem?_cons_zero, List.getElem?_cons_succ, Option.getD_some] at e10
              go_simp
              exact hK _ hJ
            refine Vals9.Steps.run rfl ?_ ?_
            · intro a W σ hJ pre K hK
              have e110 := pre.1 16 110 _ (by kernel_rfl) rfl rfl
              clear pre
              simp only [Array.getD_eq_getD_getElem?, List.getElem?_toArray, List.getElem?_cons_zero, List.getElem?_cons_succ, Option.getD_some] at e110
              have hJ2 : S4 w [(w.heap.size, 24, hV h ⟨some ad, mc⟩), (gP + 1, 74, pV qF), (g9, 48, #[.int .i64 wl, .int .i64 wh]), (g10, 48, #[.int .i64 ll, .int .i64 lh])] gP p (p.w0 - wl) (p.w1 - wh) (p.l0 - ll) (p.l1 - lh) (σ 2) (σ 8) (σ 15) (σ 21) (σ 27) (σ 29) W := hJ
              obtain ⟨s0, s1⟩ := (show Blk W g9 48 #[.int .i64 wl, .int .i64 wh] from hJ2.bl (g9, 48, #[.int .i64 wl, .int .i64 wh]) (by simp)).span
              obtain ⟨s2, s3⟩ := (show Blk W g10 48 #[.int .i64 ll, .int .i64 lh] from hJ2.bl (g10, 48, #[.int .i64 ll, .int .i64 lh]) (by simp)).span
              go_simp
              exact hK _ hJ
            refine Vals9.Steps.run rfl ?_ ?_
            · intro a W σ hJ pre K hK
              obtain ⟨v109, s109, e109⟩ := pre.2.1 15 (by kernel_rfl) rfl
              replace e109 : a.tmps.getD 109 undef = v109 := e109 109 rfl
              have e111 := pre.1 17 111 _ (by kernel_rfl) rfl rfl
              clear pre
              simp only [Array.getD_eq_getD_getElem?, List.getElem?_toArray, List.getElem?_cons_zero, List.getElem?_cons_succ, Option.getD_some] at e109 e111
              have hJ2 : S4 w [(w.heap.size, 24, hV h ⟨some ad, mc⟩), (gP + 1, 74, pV qF), (g9, 48, #[.int .i64 wl, .int .i64 wh]), (g10, 48, #[.int .i64 ll, .int .i64 lh])] gP p (p.w0 - wl) (p.w1 - wh) (p.l0 - ll) (p.l1 - lh) (σ 2) (σ 8) (σ 15) (σ 21) (σ 27) (σ 29) W := hJ
              have e9 := hJ2.l3 _ s109
              rw [e9] at e109
              have x9 := B3.out
              go_simp
              exact hK _ hJ
            refine Vals9.Steps.run rfl ?_ ?_
            · intro a W σ hJ pre K hK
              have e7 := pre.2.2 7 _ (by kernel_rfl) rfl
              clear pre
              simp only [Array.getD_eq_getD_getElem?, List.getElem?_toArray, List.getElem?_cons_zero, List.getElem?_cons_succ, Option.getD_some] at e7
              go_simp
              exact hK _ hJ
            refine Vals9.Steps.run rfl ?_ ?_
            · intro a W σ hJ pre K hK
              have e113 := pre.1 19 113 _ (by kernel_rfl) rfl rfl
              clear pre
              simp only [Array.getD_eq_getD_getElem?, List.getElem?_toArray, List.getElem?_cons_zero, List.getElem?_cons_succ, Option.getD_some] at e113
              go_simp
              exact hK _ hJ
            refine Vals9.Steps.mark rfl ?_ ?_
            · intro a W σ hJ hn pre K hK
              have e114 := pre.1 20 114 _ (by kernel_rfl) rfl rfl
              simp only [Array.getD_eq_getD_getElem?, List.getElem?_toArray, List.getElem?_cons_zero, List.getElem?_cons_succ, Option.getD_some] at e114
              have hJ2 : S4 w [(w.heap.size, 24, hV h ⟨some ad, mc⟩), (gP + 1, 74, pV qF), (g9, 48, #[.int .i64 wl, .int .i64 wh]), (g10, 48, #[.int .i64 ll, .int .i64 lh])] gP p (p.w0 - wl) (p.w1 - wh) (p.l0 - ll) (p.l1 - lh) (σ 2) (σ 8) (σ 15) (σ 21) (σ 27) (σ 29) W := hJ
              rw [hn] at hJ2
              obtain ⟨p1, hz⟩ := hJ2.load4
              go_simp
              exact hK _ _ hz
            refine Vals9.Steps.run rfl ?_ ?_
            · intro a W σ hJ pre K hK
              have e10 := pre.2.2 10 _ (by kernel_rfl) rfl
              clear pre
              simp only [Array.getD_eq_getD_getElem?, List.getElem?_toArray, List.getElem?_cons_zero, List.getElem?_cons_succ, Option.getD_some] at e10
              go_simp
              exact hK _ hJ
            refine Vals9.Steps.run rfl ?_ ?_
            · intro a W σ hJ pre K hK
              have e116 := pre.1 22 116 _ (by kernel_rfl) rfl rfl
              clear pre
              simp only [Array.getD_eq_getD_getElem?, List.getElem?_toArray, List.getElem?_cons_zero, List.getElem?_cons_succ, Option.getD_some] at e116
              have hJ2 : S4 w [(w.heap.size, 24, hV h ⟨some ad, mc⟩), (gP + 1, 74, pV qF), (g9, 48, #[.int .i64 wl, .int .i64 wh]), (g10, 48, #[.int .i64 ll, .int .i64 lh])] gP p (p.w0 - wl) (p.w1 - wh) (p.l0 - ll) (p.l1 - lh) (σ 2) (σ 8) (σ 15) (σ 21) (σ 27) (σ 29) W := hJ
              obtain ⟨s0, s1⟩ := (show Blk W g9 48 #[.int .i64 wl, .int .i64 wh] from hJ2.bl (g9, 48, #[.int .i64 wl, .int .i64 wh]) (by simp)).span
              obtain ⟨s2, s3⟩ := (show Blk W g10 48 #[.int .i64 ll, .int .i64 lh] from hJ2.bl (g10, 48, #[.int .i64 ll, .int .i64 lh]) (by simp)).span
              go_simp
              exact hK _ hJ
            refine Vals9.Steps.run rfl ?_ ?_
            · intro a W σ hJ pre K hK
              obtain ⟨v115, s115, e115⟩ := pre.2.1 21 (by kernel_rfl) rfl
              replace e115 : a.tmps.getD 115 undef = v115 := e115 115 rfl
              have e117 := pre.1 23 117 _ (by kernel_rfl) rfl rfl
              clear pre
              simp only [Array.getD_eq_getD_getElem?, List.getElem?_toArray, List.getElem?_cons_zero, List.getElem?_cons_succ, Option.getD_some] at e115 e117
              have hJ2 : S4 w [(w.heap.size, 24, hV h ⟨some ad, mc⟩), (gP + 1, 74, pV qF), (g9, 48, #[.int .i64 wl, .int .i64 wh]), (g10, 48, #[.int .i64 ll, .int .i64 lh])] gP p (p.w0 - wl) (p.w1 - wh) (p.l0 - ll) (p.l1 - lh) (σ 2) (σ 8) (σ 15) (σ 21) (σ 27) (σ 29) W := hJ
              have e9 := hJ2.l4 _ s115
              rw [e9] at e115
              have x9 := B4.out
              go_simp
              exact hK _ hJ
            refine Vals9.Steps.run rfl ?_ ?_
            · intro a W σ hJ pre K hK
              have e112 := pre.1 18 112 _ (by kernel_rfl) rfl rfl
              have e118 := pre.1 24 118 _ (by kernel_rfl) rfl rfl
              clear pre
              simp only [Array.getD_eq_getD_getElem?, List.getElem?_toArray, List.getElem?_cons_zero, List.getElem?_cons_succ, Option.getD_some] at e112 e118
              have hJ2 : S4 w [(w.heap.size, 24, hV h ⟨some ad, mc⟩), (gP + 1, 74, pV qF), (g9, 48, #[.int .i64 wl, .int .i64 wh]), (g10, 48, #[.int .i64 ll, .int .i64 lh])] gP p (p.w0 - wl) (p.w1 - wh) (p.l0 - ll) (p.l1 - lh) (σ 2) (σ 8) (σ 15) (σ 21) (σ 27) (σ 29) W := hJ
              have hC := span_c (p.l0 - ll) (p.l1 - lh) W
              go_simp
              refine hC.mono ?_
              rintro e w' ⟨rfl, hb'⟩
              exact hK _ (hJ2.keep hb')
            refine Vals9.Steps.run rfl ?_ ?_
            · intro a W σ hJ pre K hK
              have e7 := pre.2.2 7 _ (by kernel_rfl) rfl
              clear pre
              simp only [Array.getD_eq_getD_getElem?, List.getElem?_toArray, List.getElem?_cons_zero, List.getElem?_cons_succ, Option.getD_some] at e7
              go_simp
              exact hK _ hJ
            refine Vals9.Steps.mark rfl ?_ ?_
            · intro a W σ hJ hn pre K hK
              have e106 := pre.1 12 106 _ (by kernel_rfl) rfl rfl
              have e120 := pre.1 26 120 _ (by kernel_rfl) rfl rfl
              simp only [Array.getD_eq_getD_getElem?, List.getElem?_toArray, List.getElem?_cons_zero, List.getElem?_cons_succ, Option.getD_some] at e106 e120
              obtain ⟨va, sa, -⟩ := pre.2.1 2 (by kernel_rfl) rfl
              obtain ⟨vb, sb, -⟩ := pre.2.1 8 (by kernel_rfl) rfl
              have hJ2 : S4 w [(w.heap.size, 24, hV h ⟨some ad, mc⟩), (gP + 1, 74, pV qF), (g9, 48, #[.int .i64 wl, .int .i64 wh]), (g10, 48, #[.int .i64 ll, .int .i64 lh])] gP p (p.w0 - wl) (p.w1 - wh) (p.l0 - ll) (p.l1 - lh) (σ 2) (σ 8) (σ 15) (σ 21) (σ 27) (σ 29) W := hJ
              rw [hn, sa, sb] at hJ2
              obtain ⟨⟨_, p1⟩, ⟨_, p2⟩, f1, f2, hz⟩ := hJ2.putW undef
              rw [← sa, ← sb] at hz
              have hfin := hK undef _ hz
              clear hK hz hJ2 hJ pre sa sb
              go_simp
              exact hfin
            refine Vals9.Steps.run rfl ?_ ?_
            · intro a W σ hJ pre K hK
              have e7 := pre.2.2 7 _ (by kernel_rfl) rfl
              clear pre
              simp only [Array.getD_eq_getD_getElem?, List.getElem?_toArray, List.getElem?_cons_zero, List.getElem?_cons_succ, Option.getD_some] at e7
              go_simp
              exact hK _ hJ
            refine Vals9.Steps.mark rfl ?_ ?_
            · intro a W σ hJ hn pre K hK
              have e119 := pre.1 25 119 _ (by kernel_rfl) rfl rfl
              have e121 := pre.1 28 121 _ (by kernel_rfl) rfl rfl
              simp only [Array.getD_eq_getD_getElem?, List.getElem?_toArray, List.getElem?_cons_zero, List.getElem?_cons_succ, Option.getD_some] at e119 e121
              obtain ⟨va, sa, -⟩ := pre.2.1 15 (by kernel_rfl) rfl
              obtain ⟨vb, sb, -⟩ := pre.2.1 21 (by kernel_rfl) rfl
              have hJ2 : S4 w [(w.heap.size, 24, hV h ⟨some ad, mc⟩), (gP + 1, 74, pV qF), (g9, 48, #[.int .i64 wl, .int .i64 wh]), (g10, 48, #[.int .i64 ll, .int .i64 lh])] gP p (p.w0 - wl) (p.w1 - wh) (p.l0 - ll) (p.l1 - lh) (σ 2) (σ 8) (σ 15) (σ 21) (σ 27) (σ 29) W := hJ
              rw [hn, sa, sb] at hJ2
              obtain ⟨⟨_, p1⟩, ⟨_, p2⟩, f1, f2, hz⟩ := hJ2.putL undef
              rw [← sa, ← sb] at hz
              have hfin := hK undef _ hz
              clear hK hz hJ2 hJ pre sa sb
              go_simp
              exact hfin
            exact Vals9.Steps.nil
          case hfin =>
            rintro Z3 σ hJ
            simp only [Vals9.All]
            rintro v2 s2 v8 s8 v15 s15 v21 s21 v27 s27 v29 s29
            simp only [Vals.putAll, List.setIfInBounds_toArray, List.set_cons_zero, List.set_cons_succ]
            have hJ2 : S4 w [(w.heap.size, 24, hV h ⟨some ad, mc⟩), (gP + 1, 74, pV qF), (g9, 48, #[.int .i64 wl, .int .i64 wh]), (g10, 48, #[.int .i64 ll, .int .i64 lh])] gP p (p.w0 - wl) (p.w1 - wh) (p.l0 - ll) (p.l1 - lh) (σ 2) (σ 8) (σ 15) (σ 21) (σ 27) (σ 29) Z3 := hJ
            rw [s27, s29] at hJ2
            have hs2 := hJ2.sn
            have HB2 := Lib.hid (show Blk Z3 w.heap.size 24 (hV h ⟨some ad, mc⟩) from hJ2.bl (w.heap.size, 24, hV h ⟨some ad, mc⟩) (by simp))
            have HQ2 := Lib.hid (show Blk Z3 (gP + 1) 74 (pV qF) from hJ2.bl (gP + 1, 74, pV qF) (by simp))
            have HG2 : Hid (Blk Z3 gP 74 (pV (jnP p wl ll))) := by
              have k := hJ2.pb
              have e : stP p (p.w0 - wl) (p.w1 - wh) (p.l0 - ll) (p.l1 - lh) true true = jnP p wl ll := by unfold stP jnP; rw [← HWH.out, ← HLH.out, ← HDW.out, ← HDL.out]; rfl
              exact (congrArg (fun y => Blk Z3 gP 74 (pV y)) e).mp k
            clear hJ hJ2 H9 H10 B1 B2 B3 B4 s2 s8 s15 s21 s27 s29
            replace hs := hs2
            replace HB := HB2
            replace HG := HG2
            replace HQ := HQ2
            clear hs2 HB2 HG2 HQ2
            obtain ⟨pF, hpF⟩ : ∃ y, jnP p wl ll = y := ⟨_, rfl⟩
            rw [hpF] at HG
            have HPF := Lib.hid hpF
            clear hpF
            have hgq := HQ.out.lt
            have HAQ : Hid (Aq w (Z3.heap.size + 1) Z3.heap.size [(w.heap.size, 24, hV h ⟨some ad, mc⟩), (gP, 74, pV pF), (gP + 1, 74, pV qF)] h.parts qF (.slice (some ad) h.parts.length mc) h.aft h.fore none none none none none (Z3.alloc (.cells (hV h ⟨some ad, mc⟩) 24))) :=
              ⟨hs.alloc _, by simp, fun b hb => by simp only [List.mem_cons, List.not_mem_nil, or_false] at hb; rcases hb with rfl | rfl | rfl; exact HB.out.alloc _; exact HG.out.alloc _; exact HQ.out.alloc _, fun b hb => by simp only [List.mem_cons, List.not_mem_nil, or_false] at hb; rcases hb with rfl | rfl | rfl; (show w.heap.size < _; omega); (show gP < _; omega); (show gP + 1 < _; omega), fun b hb => by simp only [List.mem_cons, List.not_mem_nil, or_false] at hb; rcases hb with rfl | rfl | rfl; (show Z3.heap.size ≠ w.heap.size; omega); (show Z3.heap.size ≠ gP; omega); (show Z3.heap.size ≠ gP + 1; omega), by omega, hs.2, fun _ => Blk.new _ _ _, fun k => absurd rfl k, fun v e => (by cases e), fun v e => (by cases e), fun v e => (by cases e), fun v e => (by cases e), fun k => absurd rfl k, fun k => absurd rfl k, fun k => absurd rfl k⟩
            obtain ⟨c0, c1, c2⟩ := HB.out.hull
            have hgq2 := hs.2
            go_wp2_with fail
            clear c0 c1 c2
            obtain ⟨gT, hgT⟩ : ∃ g, Z3.heap.size = g := ⟨_, rfl⟩
            rw [hgT] at HAQ hgq hgq2 ⊢
            obtain ⟨Z4, hZ4⟩ : ∃ Z4, Z3.alloc (.cells (hV h ⟨some ad, mc⟩) 24) = Z4 := ⟨_, rfl⟩
            rw [hZ4] at HAQ ⊢
            clear hZ4 hgT HB HG HQ hs
            refine Vals9.region (fun σ Z => Aq w (gT + 1) gT [(w.heap.size, 24, hV h ⟨some ad, mc⟩), (gP, 74, pV pF), (gP + 1, 74, pV qF)] h.parts qF (.slice (some ad) h.parts.length mc) h.aft h.fore (σ 0) (σ 3) (σ 5) (σ 6) (σ 8) Z) [some 123, some 124, some 125, some 126, some 127, some 128, some 129, some 130, none] [.any, .is ?_, .is ?_, .any, .is ?_, .any, .any, .is ?_, .any] (by kernel_rfl) (by kernel_rfl) (by kernel_rfl) (by kernel_rfl) (by kernel_rfl) (by kernel_rfl) (HAQ.out.keep (Below.refl _ _).drew) ?hsteps ?hfin
            case hsteps =>
              refine Vals9.Steps.mark rfl ?_ ?_
              · intro a W σ hJ hn pre K hK
                have hJ2 : Aq w (gT + 1) gT [(w.heap.size, 24, hV h ⟨some ad, mc⟩), (gP, 74, pV pF), (gP + 1, 74, pV qF)] h.parts qF (.slice (some ad) h.parts.length mc) h.aft h.fore (σ 0) (σ 3) (σ 5) (σ 6) (σ 8) W := hJ
                rw [hn] at hJ2
                go_simp
                exact hK _ _ hJ2.lit0
              refine Vals9.Steps.run rfl ?_ ?_
              · intro a W σ hJ pre K hK
                have e2 := pre.2.2 2 _ (by kernel_rfl) rfl
                clear pre
                simp only [Array.getD_eq_getD_getElem?, List.getElem?_toArray, List.getElem?_cons_zero, List.getElem?_cons_succ, Option.getD_some] at e2
                go_simp
                exact hK _ hJ
              refine Vals9.Steps.run rfl ?_ ?_
              · intro a W σ hJ pre K hK
                have e124 := pre.1 1 124 _ (by kernel_rfl) rfl rfl
                clear pre
                simp only [Array.getD_eq_getD_getElem?, List.getElem?_toArray, List.getElem?_cons_zero, List.getElem?_cons_succ, Option.getD_some] at e124
                have hJ2 : Aq w (gT + 1) gT [(w.heap.size, 24, hV h ⟨some ad, mc⟩), (gP, 74, pV pF), (gP + 1, 74, pV qF)] h.parts qF (.slice (some ad) h.parts.length mc) h.aft h.fore (σ 0) (σ 3) (σ 5) (σ 6) (σ 8) W := hJ
                obtain ⟨c0, c1, c2⟩ := (show Blk W w.heap.size 24 (hV h ⟨some ad, mc⟩) from hJ2.bl (w.heap.size, 24, hV h ⟨some ad, mc⟩) (by simp)).hull
                go_simp
                exact hK _ hJ
              refine Vals9.Steps.mark rfl ?_ ?_
              · intro a W σ hJ hn pre K hK
                obtain ⟨v123, s123, e123⟩ := pre.2.1 0 (by kernel_rfl) rfl
                replace e123 : a.tmps.getD 123 undef = v123 := e123 123 rfl
                have e125 := pre.1 2 125 _ (by kernel_rfl) rfl rfl
                simp only [Array.getD_eq_getD_getElem?, List.getElem?_toArray, List.getElem?_cons_zero, List.getElem?_cons_succ, Option.getD_some] at e123 e125
                have hJ2 : Aq w (gT + 1) gT [(w.heap.size, 24, hV h ⟨some ad, mc⟩), (gP, 74, pV pF), (gP + 1, 74, pV qF)] h.parts qF (.slice (some ad) h.parts.length mc) h.aft h.fore (σ 0) (σ 3) (σ 5) (σ 6) (σ 8) W := hJ
                rw [hn, s123] at hJ2
                obtain ⟨v', w', hr, h2⟩ := hJ2.app1 (ad := ad) HP.out.ps (by omega) mc 22
                rw [← s123] at h2
                have hfin := hK _ _ h2
                clear hK h2 hJ2 hJ
                have hx1 : a.eval (.tmp 123) = v123 := by go_simp
                have hy1 : a.eval (.tmp 125) = .slice (some ad) h.parts.length mc := by go_simp
                unfold Oper.wp execOp
                simp only [resolve, invoke, builtin, Sem.run_bind, Sem.run_pure, Result.andThen_ok, List.map_toArray, List.map_cons, List.map_nil, hx1, hy1, hr]
                exact hfin
              refine Vals9.Steps.run rfl ?_ ?_
              · intro a W σ hJ pre K hK
                have e8 := pre.2.2 8 _ (by kernel_rfl) rfl
                clear pre
                simp only [Array.getD_eq_getD_getElem?, List.getElem?_toArray, List.getElem?_cons_zero, List.getElem?_cons_succ, Option.getD_some] at e8
                have hJ2 : Aq w (gT + 1) gT [(w.heap.size, 24, hV h ⟨some ad, mc⟩), (gP, 74, pV pF), (gP + 1, 74, pV qF)] h.parts qF (.slice (some ad) h.parts.length mc) h.aft h.fore (σ 0) (σ 3) (σ 5) (σ 6) (σ 8) W := hJ
                obtain ⟨p0, p1, p2, p3, p4, p5, p6⟩ := (show Blk W (gP + 1) 74 (pV qF) from hJ2.bl (gP + 1, 74, pV qF) (by simp)).part
                go_simp
                exact hK _ hJ
              refine Vals9.Steps.mark rfl ?_ ?_
              · intro a W σ hJ hn pre K hK
                have e127 := pre.1 4 127 _ (by kernel_rfl) rfl rfl
                simp only [Array.getD_eq_getD_getElem?, List.getElem?_toArray, List.getElem?_cons_zero, List.getElem?_cons_succ, Option.getD_some] at e127
                have hJ2 : Aq w (gT + 1) gT [(w.heap.size, 24, hV h ⟨some ad, mc⟩), (gP, 74, pV pF), (gP + 1, 74, pV qF)] h.parts qF (.slice (some ad) h.parts.length mc) h.aft h.fore (σ 0) (σ 3) (σ 5) (σ 6) (σ 8) W := hJ
                rw [hn] at hJ2
                go_simp
                exact hK _ _ hJ2.lit1
              refine Vals9.Steps.mark rfl ?_ ?_
              · intro a W σ hJ hn pre K hK
                obtain ⟨v126, s126, e126⟩ := pre.2.1 3 (by kernel_rfl) rfl
                replace e126 : a.tmps.getD 126 undef = v126 := e126 126 rfl
                obtain ⟨v128, s128, e128⟩ := pre.2.1 5 (by kernel_rfl) rfl
                replace e128 : a.tmps.getD 128 undef = v128 := e128 128 rfl
                simp only [Array.getD_eq_getD_getElem?, List.getElem?_toArray, List.getElem?_cons_zero, List.getElem?_cons_succ, Option.getD_some] at e126 e128
                have hJ2 : Aq w (gT + 1) gT [(w.heap.size, 24, hV h ⟨some ad, mc⟩), (gP, 74, pV pF), (gP + 1, 74, pV qF)] h.parts qF (.slice (some ad) h.parts.length mc) h.aft h.fore (σ 0) (σ 3) (σ 5) (σ 6) (σ 8) W := hJ
                rw [hn, s126, s128] at hJ2
                obtain ⟨A, c, w', hr, h2⟩ := hJ2.app2 (by omega) 22
                rw [← s126, ← s128] at h2
                have hfin := hK _ _ h2
                clear hK h2 hJ2 hJ
                have hx1 : a.eval (.tmp 126) = v126 := by go_simp
                have hy1 : a.eval (.tmp 128) = v128 := by go_simp
                unfold Oper.wp execOp
                simp only [resolve, invoke, builtin, Sem.run_bind, Sem.run_pure, Result.andThen_ok, List.map_toArray, List.map_cons, List.map_nil, hx1, hy1, hr]
                exact hfin
              refine Vals9.Steps.run rfl ?_ ?_
              · intro a W σ hJ pre K hK
                have e11 := pre.2.2 11 _ (by kernel_rfl) rfl
                clear pre
                simp only [Array.getD_eq_getD_getElem?, List.getElem?_toArray, List.getElem?_cons_zero, List.getElem?_cons_succ, Option.getD_some] at e11
                go_simp
                exact hK _ hJ
              refine Vals9.Steps.mark rfl ?_ ?_
              · intro a W σ hJ hn pre K hK
                obtain ⟨v129, s129, e129⟩ := pre.2.1 6 (by kernel_rfl) rfl
                replace e129 : a.tmps.getD 129 undef = v129 := e129 129 rfl
                have e130 := pre.1 7 130 _ (by kernel_rfl) rfl rfl
                simp only [Array.getD_eq_getD_getElem?, List.getElem?_toArray, List.getElem?_cons_zero, List.getElem?_cons_succ, Option.getD_some] at e129 e130
                have hJ2 : Aq w (gT + 1) gT [(w.heap.size, 24, hV h ⟨some ad, mc⟩), (gP, 74, pV pF), (gP + 1, 74, pV qF)] h.parts qF (.slice (some ad) h.parts.length mc) h.aft h.fore (σ 0) (σ 3) (σ 5) (σ 6) (σ 8) W := hJ
                rw [hn, s129] at hJ2
                obtain ⟨⟨A, c, hv⟩, ⟨b0, hb0⟩, f0, h2⟩ := hJ2.put undef
                rw [← s129] at h2
                have hfin := hK undef _ h2
                clear hK h2 hJ2 hJ s129 pre
                subst hv
                obtain ⟨n, hN⟩ : ∃ n, (h.parts ++ [qF]).length = n := ⟨_, rfl⟩
                rw [hN] at hfin e129
                clear hN
                go_simp
                exact hfin
              exact Vals9.Steps.nil
            case hfin =>
              rintro V σ hJ
              simp only [Vals9.All]
              rintro v0 s0 v3 s3 v5 s5 v6 s6 v8 s8
              simp only [Vals.putAll, List.setIfInBounds_toArray, List.set_cons_zero, List.set_cons_succ]
              have hJ2 : Aq w (gT + 1) gT [(w.heap.size, 24, hV h ⟨some ad, mc⟩), (gP, 74, pV pF), (gP + 1, 74, pV qF)] h.parts qF (.slice (some ad) h.parts.length mc) h.aft h.fore (σ 0) (σ 3) (σ 5) (σ 6) (σ 8) V := hJ
              rw [s6, s8] at hJ2
              obtain ⟨gN, c, cur, hbT, hbN, hC, hgN, hc1, hc2⟩ := hJ2.end_
              have hs := hJ2.sn
              have hB := (show Blk V w.heap.size 24 (hV h ⟨some ad, mc⟩) from hJ2.bl (w.heap.size, 24, hV h ⟨some ad, mc⟩) (by simp))
              have hG := (show Blk V gP 74 (pV pF) from hJ2.bl (gP, 74, pV pF) (by simp))
              have hQ := (show Blk V (gP + 1) 74 (pV qF) from hJ2.bl (gP + 1, 74, pV qF) (by simp))
              clear hJ hJ2 HAQ s0 s3 s5 s6 s8
              have hlt2 : q < (h.parts ++ [qF]).length := by simp; omega
              have hsz : q * 7 + 6 < cur.size := by have := hC q 6 _ (List.getElem?_eq_getElem hlt2) (by omega); exact (Array.getElem?_eq_some_iff.1 this).1
              have hC7 := hC.put7 hlt2 pF
              have hthere : V.there gN (q * 7) (pV pF).size := fun j hj => ⟨by rw [hbN.cell]; have : j < 7 := hj; rw [Array.getElem?_eq_getElem (by omega)]; rfl, hbN.frozen _⟩
              have b1 := hbN.set (q * 7) (.string pF.name)
              have b2 := b1.set (q * 7 + 1) (.int .i64 pF.pt)
              have b3 := b2.set (q * 7 + 2) (.int .i64 pF.w0)
              have b4 := b3.set (q * 7 + 3) (.int .i64 pF.w1)
              have b5 := b4.set (q * 7 + 4) (.int .i64 pF.kl)
              have b6 := b5.set (q * 7 + 5) (.int .i64 pF.l0)
              have b7 := b6.set (q * 7 + 6) (.int .i64 pF.l1)
              have NB : Hid (Blk (V.setCells gN (q * 7) (pV pF).toList) w.heap.size 24 (hV h ⟨some ad, mc⟩)) := (((((((hB.far (g' := gN) (by omega) (q * 7) (.string pF.name)).far (g' := gN) (by omega) (q * 7 + 1) (.int .i64 pF.pt)).far (g' := gN) (by omega) (q * 7 + 2) (.int .i64 pF.w0)).far (g' := gN) (by omega) (q * 7 + 3) (.int .i64 pF.w1)).far (g' := gN) (by omega) (q * 7 + 4) (.int .i64 pF.kl)).far (g' := gN) (by omega) (q * 7 + 5) (.int .i64 pF.l0)).far (g' := gN) (by omega) (q * 7 + 6) (.int .i64 pF.l1))
              have NQ : Hid (Blk (V.setCells gN (q * 7) (pV pF).toList) (gP + 1) 74 (pV qF)) := (((((((hQ.far (g' := gN) (by omega) (q * 7) (.string pF.name)).far (g' := gN) (by omega) (q * 7 + 1) (.int .i64 pF.pt)).far (g' := gN) (by omega) (q * 7 + 2) (.int .i64 pF.w0)).far (g' := gN) (by omega) (q * 7 + 3) (.int .i64 pF.w1)).far (g' := gN) (by omega) (q * 7 + 4) (.int .i64 pF.kl)).far (g' := gN) (by omega) (q * 7 + 5) (.int .i64 pF.l0)).far (g' := gN) (by omega) (q * 7 + 6) (.int .i64 pF.l1))
              have NT : Hid (Blk (V.setCells gN (q * 7) (pV pF).toList) gT 24 #[.slice (some ⟨gN, 0, none⟩) (h.parts.length + 1) c, .int .i64 h.aft, .int .i64 h.fore]) := (((((((hbT.far (g' := gN) (by omega) (q * 7) (.string pF.name)).far (g' := gN) (by omega) (q * 7 + 1) (.int .i64 pF.pt)).far (g' := gN) (by omega) (q * 7 + 2) (.int .i64 pF.w0)).far (g' := gN) (by omega) (q * 7 + 3) (.int .i64 pF.w1)).far (g' := gN) (by omega) (q * 7 + 4) (.int .i64 pF.kl)).far (g' := gN) (by omega) (q * 7 + 5) (.int .i64 pF.l0)).far (g' := gN) (by omega) (q * 7 + 6) (.int .i64 pF.l1))
              have NS : Hid (Since w (V.setCells gN (q * 7) (pV pF).toList)) := (((((((hs.set (g := gN) (by omega) (q * 7) (.string pF.name)).set (g := gN) (by omega) (q * 7 + 1) (.int .i64 pF.pt)).set (g := gN) (by omega) (q * 7 + 2) (.int .i64 pF.w0)).set (g := gN) (by omega) (q * 7 + 3) (.int .i64 pF.w1)).set (g := gN) (by omega) (q * 7 + 4) (.int .i64 pF.kl)).set (g := gN) (by omega) (q * 7 + 5) (.int .i64 pF.l0)).set (g := gN) (by omega) (q * 7 + 6) (.int .i64 pF.l1))
              have NN : Hid (Blk (V.setCells gN (q * 7) (pV pF).toList) gN 74 (put7 cur q pF)) := b7
              have NC := Lib.hid hC7
              obtain ⟨p0, p1, p2, p3, p4, p5, p6⟩ := hG.part
              have t0 := hbT.cell 0
              simp only [List.getElem?_toArray, List.getElem?_cons_zero] at t0
              have hqi2 : (q : Int) < ((h.parts.length + 1 : Nat) : Int) := by omega
              have hqi3 : (q : Int) < (h.parts.length : Int) + 1 := by omega
              have HTH := Lib.hid hthere
              clear b1 b2 b3 b4 b5 b6 b7 hthere hbN hC
              go_upto_region 14 with fail
              refine wp_region_list ?_
              refine wpList_plain rfl (fun K hK => ?_)
              go_simp
              refine hK _ _ ?_
              clear hK K
              refine wpList_plain rfl (fun K hK => ?_)
              go_simp
              refine hK _ _ ?_
              clear hK K
              refine wpList_plain rfl (fun K hK => ?_)
              go_simp
              refine hK _ _ ?_
              clear hK K
              refine wpList_plain rfl (fun K hK => ?_)
              go_simp
              refine hK _ _ ?_
              clear hK K
              refine wpList_plain rfl (fun K hK => ?_)
              go_simp
              refine hK _ _ ?_
              clear hK K
              refine wpList_store_mid rfl 74 _ _ rfl gN (q * 7) (pV pF) (by go_simp) (by go_simp) HTH.out (by kernel_rfl) (by simp [Value.oneCell']) ?_
              clear HTH p0 p1 p2 p3 p4 p5 p6 t0 hqi2 hqi3 hB hG hQ hbT hC7 hs hsz hlt2
              obtain ⟨V2, hV2⟩ : ∃ V2, (V.setCells gN (q * 7) (pV pF).toList) = V2 := ⟨_, rfl⟩
              rw [hV2] at NB NQ NT NS NN ⊢
              dsimp only [Act.put]
              clear hV2
              have hs : Since w V2 := NS.out
              have HB := NB
              have HQ := NQ
              clear NS NB NQ
              have HJP : Hid ((jnH h q zzN wl ll).parts = (h.parts ++ [qF]).set q pF) := by show _ = _; unfold jnH; dsimp only; rw [HPA.out, HQF.out, HPF.out]
              have HJL : Hid ((jnH h q zzN wl ll).parts.length = h.parts.length + 1) := by show _ = _; rw [HJP.out]; simp
              have HT : Hid (Blk V2 gT 24 (hV (jnH h q zzN wl ll) ⟨some ⟨gN, 0, none⟩, c⟩)) := by
                show Blk V2 gT 24 #[.slice (some ⟨gN, 0, none⟩) (jnH h q zzN wl ll).parts.length c, .int .i64 h.aft, .int .i64 h.fore]
                rw [HJL.out]
                exact NT.out
              have HTP : Hid (HAt V2 ⟨some ⟨gN, 0, none⟩, c⟩ (jnH h q zzN wl ll)) := ⟨by rw [HJP.out]; exact PtC.at NN.out NC.out, by rw [HJL.out]; exact hc1, hc2, fun x hx => by
                rw [HJP.out] at hx
                rcases List.mem_or_eq_of_mem_set hx with h2 | h2
                · rcases List.mem_append.1 h2 with h3 | h3
                  · exact HP.out.nm x h3
                  · obtain rfl : x = qF := by simpa using h3
                    rw [← HQF.out]; show zzN.size ≤ maxLen; decide +kernel
                · rw [h2, ← HPF.out]; exact HNM.out⟩
              have HZN : Hid (qF.name = zzN) := by show _ = _; rw [← HQF.out]; rfl
              have HLS : Hid (∀ hv : (chk (jnH h q zzN wl ll)).2.2 = 0, leastA (jnH h q zzN wl ll) wt = leastA h wt ∧ tideA (jnH h q zzN wl ll) = tideA h) := fun hv => ⟨least_jn hlt zzN wl ll HC.out hv wt, tide_jn hlt zzN wl ll HC.out hv⟩
              have HLG := Lib.hid (lea_good HC.out w0 w1')
              obtain ⟨F, hF⟩ : ∃ F, jnH h q zzN wl ll = F := ⟨_, rfl⟩
              rw [hF] at HT HTP HLS
              clear hF NT NN NC HJP HJL
              obtain ⟨k0, k1, k2⟩ := HT.out.hull
              go_wp2_with fail
              refine (valid_c F ⟨some ⟨gN, 0, none⟩, c⟩ _ HTP.out).mono ?_
              rintro e w3 ⟨rfl, hb⟩
              have hs3 := hs.keep hb
              clear hs
              have hs := hs3
              clear hs3
              replace HB := Lib.hid (HB.out.keep hb)
              replace HQ := Lib.hid (HQ.out.keep hb)
              replace HT := Lib.hid (HT.out.keep hb)
              replace HTP := Lib.hid (HTP.out.keep hb)
              clear hb k0 k1 k2
              by_cases hv : (chk F).2.2 = 0
              · rw [decide_eq_true hv]
                obtain ⟨hl1, hl2⟩ := HLS.out hv
                rw [HLG.out] at hl1
                have HL1 := Lib.hid hl1
                have HL2 := Lib.hid hl2
                clear hv hl1 hl2 HLS
                obtain ⟨u0, hu0⟩ : ∃ l, lst h 0 wt = l := ⟨_, rfl⟩
                obtain ⟨u1, hu1⟩ : ∃ l, lst h 1 wt = l := ⟨_, rfl⟩
                obtain ⟨u2, hu2⟩ : ∃ l, lst h 2 wt = l := ⟨_, rfl⟩
                rw [hu0, hu1, hu2] at HLG HL1
                clear hu0 hu1 hu2
                obtain ⟨⟨j1, j2⟩, hj⟩ : ∃ t, tideA h = t := ⟨_, rfl⟩
                rw [hj] at HL2
                have HJ := Lib.hid hj
                clear hj
                skip
                obtain ⟨HB_0, HB_1, HB_2⟩ := HB.out.hull
                go_wp2_with fail
                refine (leaC ⟨some ad, mc⟩ _ (HP.out.keep hs.1) HLG.out).mono ?_
                rintro e w4 ⟨rfl, hb⟩
                replace hs := hs.keep hb
                replace HB := Lib.hid (HB.out.keep hb)
                replace HQ := Lib.hid (HQ.out.keep hb)
                replace HT := Lib.hid (HT.out.keep hb)
                replace HTP := Lib.hid (HTP.out.keep hb)
                clear hb
                clear HB_0 HB_1 HB_2
                have hq : Below w4.heap.size w4 (w4.alloc (.cells #[.int .i64 u0, .int .i64 u1, .int .i64 u2] 32)) := (Below.refl _ _).alloc (Nat.le_refl _) _
                replace hs := hs.keep hq
                replace HB := Lib.hid (HB.out.keep hq)
                replace HQ := Lib.hid (HQ.out.keep hq)
                replace HT := Lib.hid (HT.out.keep hq)
                replace HTP := Lib.hid (HTP.out.keep hq)
                have HQ1 := Lib.hid (Blk.new w4 32 #[.int .i64 u0, .int .i64 u1, .int .i64 u2])
                clear hq
                obtain ⟨HT_0, HT_1, HT_2⟩ := HT.out.hull
                go_wp2_with fail
                refine (leaC ⟨some ⟨gN, 0, none⟩, c⟩ _ HTP.out HL1.out).mono ?_
                rintro e w5 ⟨rfl, hb⟩
                replace hs := hs.keep hb
                replace HB := Lib.hid (HB.out.keep hb)
                replace HQ := Lib.hid (HQ.out.keep hb)
                replace HT := Lib.hid (HT.out.keep hb)
                replace HTP := Lib.hid (HTP.out.keep hb)
                replace HQ1 := Lib.hid (HQ1.out.keep hb)
                clear hb
                clear HT_0 HT_1 HT_2
                obtain ⟨g1, hg1⟩ : ∃ g, w4.heap.size = g := ⟨_, rfl⟩
                rw [hg1] at HQ1 ⊢
                clear hg1
                have hq : Below w5.heap.size w5 (w5.alloc (.cells #[.int .i64 u0, .int .i64 u1, .int .i64 u2] 32)) := (Below.refl _ _).alloc (Nat.le_refl _) _
                replace hs := hs.keep hq
                replace HB := Lib.hid (HB.out.keep hq)
                replace HQ := Lib.hid (HQ.out.keep hq)
                replace HT := Lib.hid (HT.out.keep hq)
                replace HTP := Lib.hid (HTP.out.keep hq)
                replace HQ1 := Lib.hid (HQ1.out.keep hq)
                have HQ2 := Lib.hid (Blk.new w5 32 #[.int .i64 u0, .int .i64 u1, .int .i64 u2])
                clear hq
                obtain ⟨HB_0, HB_1, HB_2⟩ := HB.out.hull
                go_wp2_with fail
                have k1 := Tide_c h ⟨some ad, mc⟩ _ (HP.out.keep hs.1)
                rw [HJ.out] at k1
                refine (k1).mono ?_
                rintro e w6 ⟨rfl, hb⟩
                replace hs := hs.keep hb
                replace HB := Lib.hid (HB.out.keep hb)
                replace HQ := Lib.hid (HQ.out.keep hb)
                replace HT := Lib.hid (HT.out.keep hb)
                replace HTP := Lib.hid (HTP.out.keep hb)
                replace HQ1 := Lib.hid (HQ1.out.keep hb)
                replace HQ2 := Lib.hid (HQ2.out.keep hb)
                clear hb
                clear HB_0 HB_1 HB_2
                clear k1
                obtain ⟨g2, hg2⟩ : ∃ g, w5.heap.size = g := ⟨_, rfl⟩
                rw [hg2] at HQ2 ⊢
                clear hg2
                obtain ⟨HT_0, HT_1, HT_2⟩ := HT.out.hull
                go_wp2_with fail
                have k1 := Tide_c F ⟨some ⟨gN, 0, none⟩, c⟩ _ HTP.out
                rw [HL2.out] at k1
                refine (k1).mono ?_
                rintro e w7 ⟨rfl, hb⟩
                replace hs := hs.keep hb
                replace HB := Lib.hid (HB.out.keep hb)
                replace HQ := Lib.hid (HQ.out.keep hb)
                replace HT := Lib.hid (HT.out.keep hb)
                replace HTP := Lib.hid (HTP.out.keep hb)
                replace HQ1 := Lib.hid (HQ1.out.keep hb)
                replace HQ2 := Lib.hid (HQ2.out.keep hb)
                clear hb
                clear HT_0 HT_1 HT_2
                clear k1
                have HQZ : Hid (Blk w7 (gP + 1) 74 #[.string ⟨#[122, 122]⟩, .int .i64 qF.pt, .int .i64 qF.w0, .int .i64 qF.w1, .int .i64 qF.kl, .int .i64 qF.l0, .int .i64 qF.l1]) := by show Blk _ _ _ _; rw [show (⟨#[122, 122]⟩ : ByteArray) = qF.name from HZN.out.symm]; exact HQ.out
                have HQ1_0 := HQ1.out.cell 0
                have HQ1_1 := HQ1.out.cell 1
                have HQ1_2 := HQ1.out.cell 2
                simp only [List.getElem?_toArray, List.getElem?_cons_zero, List.getElem?_cons_succ] at HQ1_0 HQ1_1 HQ1_2
                have HQ2_0 := HQ2.out.cell 0
                have HQ2_1 := HQ2.out.cell 1
                have HQ2_2 := HQ2.out.cell 2
                simp only [List.getElem?_toArray, List.getElem?_cons_zero, List.getElem?_cons_succ] at HQ2_0 HQ2_1 HQ2_2
                have HQZ_0 := HQZ.out.cell 0
                have HQZ_1 := HQZ.out.cell 1
                have HQZ_2 := HQZ.out.cell 2
                have HQZ_3 := HQZ.out.cell 3
                have HQZ_4 := HQZ.out.cell 4
                have HQZ_5 := HQZ.out.cell 5
                have HQZ_6 := HQZ.out.cell 6
                simp only [List.getElem?_toArray, List.getElem?_cons_zero, List.getElem?_cons_succ] at HQZ_0 HQZ_1 HQZ_2 HQZ_3 HQZ_4 HQZ_5 HQZ_6
                have hq1 := eqBal u0 u1 u2
                have hj1 : (j1 == j1) = true := by simp
                have hj2 : (j2 == j2) = true := by simp
                go_wp2_with fail
                refine (rname_c ⟨#[122, 122]⟩ _ (by decide +kernel)).mono ?_
                rintro e w8 ⟨rfl, hb⟩
                rw [show isName ⟨#[122, 122]⟩ = true from by decide +kernel]
                (first | (subst hb) | (replace hs := hs.keep hb))
                go_wp2_with fail
                refine (awake_c _).mono ?_
                rintro e w9 ⟨rfl, hb⟩
                replace hs := hs.keep hb
                go_wp2_with fail
                go_ret
                exact ⟨rfl, hs.1⟩
              · rw [decide_eq_false hv]
                clear hv
                go_wp2_with fail
                refine (awake_c _).mono ?_
                rintro e w9 ⟨rfl, hb⟩
                replace hs := hs.keep hb
                go_wp2_with fail
                go_ret
                exact ⟨rfl, hs.1⟩
  · rw [decide_eq_false hc]
    clear hc
    go_wp2_with fail
    refine (awake_c _).mono ?_
    rintro e w9 ⟨rfl, hb⟩
    replace hs := hs.keep hb
    go_wp2_with fail
    go_ret
    exact ⟨rfl, hs.1⟩
end Td
end Go.Proofs.Ythdcklonamgpiaa
