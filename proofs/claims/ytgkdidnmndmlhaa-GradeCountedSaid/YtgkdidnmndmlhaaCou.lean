import Derived.Test.YtgkdidnmndmlhaaMathI
import Derived.Test.YtgkdidnmndmlhaaAll
/- The law GradeCounted: what it returns. -/
namespace Go.Proofs.Ytgkdidnmndmlhaa
open Go.RowKit
namespace Td
set_option linter.unusedSimpArgs false
set_option linter.unusedVariables false
attribute [local go_sem] Oper.semAt_some
set_option maxHeartbeats 2000000 in
theorem bits_c (s n : Nat) (w : World) (hs : s ≤ 100000) (hn : n ≤ 20) :
    Calls Try.prog 42 #[.int .i64 s, .int .i64 n] w fun e w' => e = .returned (.int .i64 (bt s n : Nat)) ∧ Below w.heap.size w w' := by
  have HS0 := Lib.hid (Since.refl w)
  have HB0 : Hid (0 + bt s (n - 0) = bt s n) := by show _ = _; rw [Nat.sub_zero, Nat.zero_add]
  go_enter Try.func42, Try.ntmps42
  go_wp2_with fail
  go_loopw [0, 5, 6] (fun a b i wr => ∃ x c k : Nat, k ≤ n ∧ x ≤ 100000 ∧ c ≤ k ∧ a = .int .i64 x ∧ b = .int .i64 c ∧ i = .int .i64 k ∧ Hid (c + bt x (n - k) = bt s n) ∧ Hid (Since w wr)) (fun _ _ i _ => n - (intOf i).toNat)
  case atStart => exact ⟨s, 0, 0, by omega, hs, by omega, rfl, rfl, rfl, HB0, HS0⟩
  case round =>
    obtain ⟨x, c, k, hk, hx, hc, rfl, rfl, rfl, HB, HS⟩ := hrel
    by_cases hlt : k < n
    · have q1 : (k : Int) < (n : Int) := by omega
      obtain ⟨r, hr⟩ : ∃ r, x % 2 = r := ⟨_, rfl⟩
      obtain ⟨y, hy⟩ : ∃ y, x / 2 = y := ⟨_, rfl⟩
      obtain ⟨c', hc'⟩ : ∃ m, c + r = m := ⟨_, rfl⟩
      have u1 : (x : Int).tmod 2 = (r : Int) := by rw [← hr]; rfl
      have u2 : (x : Int).tdiv 2 = (y : Int) := by rw [← hy]; rfl
      have u3 : IntKind.i64.wrap (r : Int) = (r : Int) := wrapI (by unfold I64; omega)
      have u4 : IntKind.i64.wrap (y : Int) = (y : Int) := wrapI (by unfold I64; omega)
      have u5 : IntKind.i64.wrap ((c : Int) + (r : Int)) = (c' : Int) := by rw [wrapI (by unfold I64; omega)]; omega
      have u6 : IntKind.i64.wrap ((k : Int) + 1) = ((k + 1 : Nat) : Int) := by rw [wrapI (by unfold I64; omega)]; omega
      have hr1 : r < 2 := by omega
      have hyx : y ≤ 100000 := by omega
      have HB' : Hid (c' + bt y (n - (k + 1)) = bt s n) := by
        have h := HB.out
        rw [show n - k = (n - (k + 1)) + 1 by omega, bt_succ, hr, hy] at h
        show _ = _
        omega
      clear hr hy
      go_wp2_with fail
      go_roundw
      case rel => exact ⟨y, c', k + 1, by omega, hyx, by omega, rfl, rfl, by go_num, HB', HS⟩
      case measure => simp [intOf]; omega
    · have q1 : ¬ (k : Int) < (n : Int) := by omega
      have hE : bt s n = c := by
        have h := HB.out
        rw [show n - k = 0 by omega] at h
        have e : bt x 0 = 0 := rfl
        omega
      go_wp2_with fail
      go_ret
      exact ⟨by first | rfl | (rw [hE]; rfl), HS.out.1⟩
theorem made_zeros : ∀ n : Nat, madeCells (Value.int .i64 0).cells n = zeros n := fun n => by
  unfold madeCells zeros
  apply Array.ext_getElem?
  intro i
  by_cases h : i < n
  · simp [h, Value.cells, Nat.mod_one]
  · simp [h]
theorem run_make_ints (n : Nat) (h : n ≤ 100) (W : World) : (Instr.makeSlice 51 (.int .i64 n) (.int .i64 n)).run Try.prog W = .ok (.slice (some ⟨W.heap.size, 0, none⟩) n n) (W.alloc (.cells (zeros n) 3)) := by
  have hT : (Try.prog.info? 3).map (fun i => (i.zero, i.size, i.bytes)) = some (some (.int .i64 0), 1, 8) := by kernel_rfl
  obtain ⟨i0, hi0, hi1⟩ := Option.map_eq_some_iff.1 hT
  simp only [Prod.mk.injEq] at hi1
  obtain ⟨hz0, hz1, hz2⟩ := hi1
  have := run_make (P := Try.prog) W 51 3 i0 _ Try.underlying51 hi0 hz0 .i64 .i64 n n (by omega) (Int.le_refl _) (by rw [hz2]; omega) (by omega)
  rw [this, hz1, Int.toNat_natCast, Nat.mul_one, made_zeros]
/-- a row of counts. -/
def cnV (n : Nat) (f : Nat → Nat) : Array Value := ((List.range n).map fun i => Value.int .i64 (f i : Nat)).toArray
theorem cnV_size (n : Nat) (f : Nat → Nat) : (cnV n f).size = n := by simp [cnV]
theorem cnV_get {n : Nat} (f : Nat → Nat) {k : Nat} (h : k < n) : (cnV n f)[k]? = some (.int .i64 (f k : Nat)) := by simp [cnV, h]
theorem cnV_zero (n : Nat) : zeros n = cnV n (fun _ => 0) := by
  apply Array.ext_getElem?
  intro i
  by_cases h : i < n
  · rw [cnV_get _ h]; simp [zeros, h]
  · rw [Array.getElem?_eq_none (by rw [zeros_size]; omega), Array.getElem?_eq_none (by rw [cnV_size]; omega)]
theorem cnV_set {n : Nat} (f : Nat → Nat) {k : Nat} (h : k < n) (v : Nat) : (cnV n f).setIfInBounds k (.int .i64 (v : Nat)) = cnV n (fun i => if i = k then v else f i) := by
  apply Array.ext_getElem?
  intro i
  rw [Array.getElem?_setIfInBounds, cnV_size]
  by_cases hi : i < n
  · rw [cnV_get _ hi, cnV_get _ hi]
    by_cases e : k = i
    · subst e; simp [h]
    · rw [if_neg e, if_neg (fun e' => e e'.symm)]
  · rw [Array.getElem?_eq_none (by rw [cnV_size]; omega), Array.getElem?_eq_none (by rw [cnV_size]; omega), if_neg (by omega)]
theorem cnV_congr {n : Nat} {f g : Nat → Nat} (h : ∀ k, k < n → f k = g k) : cnV n f = cnV n g := by
  unfold cnV
  congr 1
  exact List.map_congr_left fun k hk => by rw [h k (List.mem_range.1 hk)]
theorem FrB.far {w : World} {g g' : Nat} {l : List (Nat × Nat)} (h : FrB w g l) (hg : g' ≠ g) (i : Nat) (u : Value) : FrB (w.setCell ⟨g', i, none⟩ u) g l := fun j s hs => by
  have e : (w.setCell ⟨g', i, none⟩ u).heap[g]? = w.heap[g]? := heap_setCell_other w ⟨g', i, none⟩ g u (Ne.symm hg)
  have := h j s hs
  simp only [World.cell?] at this ⊢
  rw [e]
  exact this
theorem FrB.lt {w : World} {g : Nat} {l : List (Nat × Nat)} {k : Nat} {s : Nat × Nat} (h : FrB w g l) (hs : l[k]? = some s) : g < w.heap.size := cell_lt (h k s hs).1
set_option maxRecDepth 100000 in
set_option maxHeartbeats 8000000 in
theorem gradeCounted_c (xa xb xc : Nat) (w : World) (ha : xa ≤ 255) (hb0 : xb ≤ 255) (hc0 : xc ≤ 255) :
    Calls Try.prog 9 #[.agg #[.int .u8 xa, .int .u8 xb, .int .u8 xc]] w fun e w' => e = .returned (.bool true) ∧ Below w.heap.size w w' := by
  have hs := (Since.refl w).alloc (.cells #[.int .u8 xa, .int .u8 xb, .int .u8 xc] 58)
  have HX := Lib.hid (Blk.new w 58 #[.int .u8 xa, .int .u8 xb, .int .u8 xc])
  have d0 := HX.out.cell 0
  have d1 := HX.out.cell 1
  have d2 := HX.out.cell 2
  simp only [List.getElem?_toArray, List.getElem?_cons_zero, List.getElem?_cons_succ] at d0 d1 d2
  have HH : Hid (∀ W, Calls Try.prog 40 #[.agg #[.int .u8 xa, .int .u8 xb, .int .u8 xc], .int .i64 10] W _) := fun W => heap_c xa xb xc 10 W ha hb0 hc0 (by omega) (by omega)
  obtain ⟨P, hP⟩ : ∃ P, 1 + xa % 10 = P := ⟨_, rfl⟩
  rw [hP] at HH
  obtain ⟨bd, hbd⟩ : ∃ r, xb % (P + 1) = r := ⟨_, rfl⟩
  obtain ⟨sm, hsm⟩ : ∃ r, xc % (P + 1) = r := ⟨_, rfl⟩
  rw [hbd, hsm] at HH
  have hP1 : 1 ≤ P ∧ P ≤ 10 := by have := Nat.mod_lt xa (show 0 < 10 by omega); omega
  have hbP : bd ≤ P := by have := Nat.mod_lt xb (show 0 < P + 1 by omega); omega
  have hsP : sm ≤ P := by have := Nat.mod_lt xc (show 0 < P + 1 by omega); omega
  obtain ⟨n1, hn1⟩ : ∃ m, sm + 1 = m := ⟨_, rfl⟩
  obtain ⟨Wy, hWy⟩ : ∃ m, bn P sm = m := ⟨_, rfl⟩
  have hW2 : Wy ≤ 184756 := by rw [← hWy]; exact bn_le (by omega)
  have t1 : IntKind.i64.wrap ((sm : Int) + 1) = (n1 : Int) := by rw [wrapI (by unfold I64; omega)]; omega
  have HSA := Lib.hid (fun W => shows0 P bd sm n1 W hP1.1 (by omega) hbP hsP hn1)
  have HWY : Hid (∀ W, Calls Try.prog 19 #[.int .i64 P, .int .i64 sm] W fun e w' => e = .returned (.tuple #[.int .i64 (Wy : Nat), .int .i64 0]) ∧ Below W.heap.size W w') := fun W => by
    rw [← hWy]; exact ways0 P sm W (by omega) hsP
  obtain ⟨fa, hfa⟩ : ∃ S : Nat → Nat, S = fA P sm := ⟨_, rfl⟩
  obtain ⟨fb, hfb⟩ : ∃ S : Nat → Nat → Nat, S = fB P bd sm := ⟨_, rfl⟩
  obtain ⟨N2, hN2⟩ : ∃ m, 2 ^ P = m := ⟨_, rfl⟩
  have hN3 : N2 ≤ 1024 := by rw [← hN2]; exact Nat.le_trans (Nat.pow_le_pow_right (by omega) hP1.2) (by decide)
  have HPW : Hid (∀ k, k ≤ P → 2 ^ k ≤ 1024) := fun k hk => Nat.le_trans (Nat.pow_le_pow_right (by omega) (Nat.le_trans hk hP1.2)) (by decide)
  have HP2 : Hid (2 ^ P = N2) := hN2
  have HBI : Hid (∀ t, bt t P = sm → bt t bd < n1 ∧ fa t = 1 ∧ ∀ i, fb i t = if i = bt t bd then 1 else 0) := fun t h => ⟨by have := bt_mono t hbP; omega, by rw [hfa]; exact fA_yes h, fun i => by rw [hfb]; exact fB_yes h i⟩
  have HBN : Hid (∀ t, ¬ bt t P = sm → fa t = 0 ∧ ∀ i, fb i t = 0) := fun t h => ⟨by rw [hfa]; exact fA_no h, fun i => by rw [hfb]; exact fB_no h i⟩
  have HFA : Hid (sumN N2 fa = Wy) := by show _ = _; rw [← hN2, hfa, ← hWy]; exact allSets P sm
  have HFL : Hid (∀ t, sumN t fa ≤ t) := fun t => by rw [hfa]; exact fA_le P sm t
  have HFM : Hid (∀ t i, sumN t (fb i) ≤ t) := fun t i => by rw [hfb]; exact fB_le P bd sm i t
  have HEL : Hid (∀ k, k ≤ sm → ∃ s : Nat × Nat, ∃ c z : Nat, (shwL P bd sm)[k]? = some s ∧ s.2 ≤ Wy ∧ sumN N2 (fb k) = c ∧ c * s.2 = z ∧ Wy * s.1 = z) := fun k hk => by
    obtain ⟨s, e1, e2, e3⟩ := share_cross (b := bd) hsP hk
    rw [hWy] at e2 e3
    exact ⟨s, _, _, e1, e2, rfl, rfl, by rw [← hN2, hfb, badSets P bd sm k hbP hk]; exact e3.symm⟩
  clear hP hbd hsm hWy hfa hfb ha hb0 hc0 hN2
  go_enter Try.func9, Try.ntmps9
  go_wp2_with fail
  refine (HH.out _).mono ?_
  rintro e v1 ⟨rfl, hb⟩
  replace hs := (hs.keep hb).alloc (.cells #[.int .i64 P, .int .i64 0, .int .i64 P] 25)
  have HG := Lib.hid (Blk.new v1 25 (gV P 0 P))
  clear hb d0 d1 d2 HX
  obtain ⟨c0, c1, c2⟩ := HG.out.gcells
  obtain ⟨gh, hgh⟩ : ∃ k, v1.heap.size = k := ⟨_, rfl⟩
  go_wp2_with fail
  rw [hgh] at HG
  refine (HSA.out _).mono ?_
  rintro e v2 ⟨⟨gA, rfl, hF⟩, hb⟩
  replace hs := hs.keep hb
  replace HG := Lib.hid (HG.out.keep hb)
  have HA := Lib.hid hF
  clear hb hF c0 c1 c2
  obtain ⟨c0, c1, c2⟩ := HG.out.gcells
  go_wp2_with fail
  clear hgh
  refine (HWY.out _).mono ?_
  rintro e v4 ⟨rfl, hb⟩
  replace hs := hs.keep hb
  replace HG := Lib.hid (HG.out.keep hb)
  replace HA := Lib.hid (HA.out.keep hb)
  clear hb c0 c1 c2 HSA HWY HH
  have HS0 := Lib.hid (Since.refl v4)
  have hsw := Lib.hid hs
  clear hs
  go_wp2_with fail
  go_loopw [10, 11] (fun u i wr => ∃ k y : Nat, k ≤ P ∧ u = .int .i64 y ∧ i = .int .i64 k ∧ Hid (2 ^ k = y) ∧ Hid (Since v4 wr)) (fun _ i _ => P - (intOf i).toNat)
  case atStart => exact ⟨0, 1, by omega, rfl, rfl, rfl, HS0⟩
  case round =>
    obtain ⟨k, y, hk, rfl, rfl, HY, HS⟩ := hrel
    obtain ⟨c0, c1, c2⟩ := (HG.out.keep HS.out.1).gcells
    by_cases hlt : k < P
    · have q1 : (k : Int) < (P : Int) := by omega
      have by_ : y ≤ 1024 := by rw [← HY.out]; exact HPW.out k hk
      obtain ⟨y', hy'⟩ : ∃ m, 2 * y = m := ⟨_, rfl⟩
      have HY' : Hid (2 ^ (k + 1) = y') := by show _ = _; rw [Nat.pow_succ, HY.out]; omega
      have u1 : IntKind.i64.wrap (2 * (y : Int)) = (y' : Int) := by rw [wrapI (by unfold I64; omega)]; omega
      have u2 : IntKind.i64.wrap ((k : Int) + 1) = ((k + 1 : Nat) : Int) := by rw [wrapI (by unfold I64; omega)]; omega
      clear hy' HY
      go_wp2_with fail
      go_roundw
      case rel => exact ⟨k + 1, y', by omega, rfl, by go_num, HY', HS⟩
      case measure => simp [intOf]; omega
    · have q1 : ¬ (k : Int) < (P : Int) := by omega
      obtain rfl : k = P := by omega
      have hy2 : y = N2 := by rw [← HY.out]; exact HP2.out
      subst hy2
      clear HY HPW HP2
      replace HG := Lib.hid (HG.out.keep HS.out.1)
      replace HA := Lib.hid (HA.out.keep HS.out.1)
      replace hsw := Lib.hid (hsw.out.keep HS.out.1)
      clear HS HS0
      obtain ⟨w5, hw5⟩ : ∃ w5, wr = w5 := ⟨_, rfl⟩
      subst hw5
      have hmk := run_make_ints n1 (by omega)
      have hlA : gA < wr.heap.size := by obtain ⟨s, c, z, e, -⟩ := HEL.out 0 (Nat.zero_le _); exact HA.out.lt e
      have hlG : gh < wr.heap.size := HG.out.lt
      have hlw : w.heap.size ≤ wr.heap.size := hsw.out.2
      replace HG := Lib.hid (HG.out.alloc (.cells (zeros n1) 3))
      have hq : Below wr.heap.size wr (wr.alloc (.cells (zeros n1) 3)) := (Below.refl _ _).alloc (Nat.le_refl _) _
      replace HA := Lib.hid (HA.out.keep hq)
      replace hsw := Lib.hid (hsw.out.keep hq)
      have HC := Lib.hid (Blk.new wr 3 (zeros n1))
      rw [cnV_zero] at HC
      clear hq
      go_wp2_with fail
      rw [cnV_zero] at HG HA hsw
      first | rw [cnV_zero] | skip
      clear hmk c0 c1 c2
      obtain ⟨gC, hgC⟩ : ∃ m, wr.heap.size = m := ⟨_, rfl⟩
      rw [hgC] at HC hlA hlG hlw
      first | rw [hgC] | skip
      have hnA : gC ≠ gA := by omega
      have hnG : gC ≠ gh := by omega
      clear hgC
      have HC0 : Hid (Blk (wr.alloc (.cells (cnV n1 (fun _ => 0)) 3)) gC 3 (cnV n1 (fun i => sumN 0 (fb i)))) := HC
      clear HC
      go_loopw [13, 14] (fun u i wr => ∃ t al : Nat, t ≤ y ∧ u = .int .i64 al ∧ i = .int .i64 t ∧ Hid (sumN t fa = al) ∧ Hid (Blk wr gC 3 (cnV n1 (fun i => sumN t (fb i)))) ∧ Hid (Blk wr gh 25 (gV k 0 k)) ∧ Hid (FrB wr gA (shwL k bd sm)) ∧ Hid (Since w wr)) (fun _ i _ => y - (intOf i).toNat)
      case atStart => exact ⟨0, 0, by omega, rfl, rfl, rfl, HC0, HG, HA, hsw⟩
      case round =>
        clear HC0 HG HA hsw
        obtain ⟨t, al, ht, rfl, rfl, HAL, HC, HG, HA, HS⟩ := hrel
        obtain ⟨c0, c1, c2⟩ := HG.out.gcells
        have bal : al ≤ t := by rw [← HAL.out]; exact HFL.out t
        have u2 : IntKind.i64.wrap ((t : Int) + 1) = ((t + 1 : Nat) : Int) := by rw [wrapI (by unfold I64; omega)]; omega
        by_cases hlt2 : t < y
        · have r1 : (t : Int) < (y : Int) := by omega
          have HB1 := Lib.hid (fun W => bits_c t k W (by omega) (by omega))
          by_cases hu : bt t k = sm
          · rw [hu] at HB1
            obtain ⟨e1, e2, e3⟩ := HBI.out t hu
            obtain ⟨j, hj⟩ : ∃ j, bt t bd = j := ⟨_, rfl⟩
            rw [hj] at e1 e3
            have HB2 : Hid (∀ W, Calls Try.prog 42 #[.int .i64 t, .int .i64 bd] W fun e w' => e = .returned (.int .i64 (j : Nat)) ∧ Below W.heap.size W w') := fun W => by rw [← hj]; exact bits_c t bd W (by omega) (by omega)
            obtain ⟨cj, hcj⟩ : ∃ m, sumN t (fb j) = m := ⟨_, rfl⟩
            have bcj : cj ≤ t := by rw [← hcj]; exact HFM.out t j
            obtain ⟨cj', hcj'⟩ : ∃ m, cj + 1 = m := ⟨_, rfl⟩
            obtain ⟨al', hal'⟩ : ∃ m, al + 1 = m := ⟨_, rfl⟩
            have HAL' : Hid (sumN (t + 1) fa = al') := by show _ = _; rw [sumN_succ, HAL.out, e2, hal']
            have u3 : IntKind.i64.wrap ((cj : Int) + 1) = (cj' : Int) := by rw [wrapI (by unfold I64; omega)]; omega
            have u4 : IntKind.i64.wrap ((al : Int) + 1) = (al' : Int) := by rw [wrapI (by unfold I64; omega)]; omega
            have u5 : (j : Int) < (n1 : Int) := by omega
            have u6 : j < n1 := e1
            have HCS : Hid (cnV n1 (fun i => if i = j then cj' else sumN t (fb i)) = cnV n1 (fun i => sumN (t + 1) (fb i))) := by
              show _ = _
              refine cnV_congr fun i _ => ?_
              show (if i = j then cj' else sumN t (fb i)) = sumN (t + 1) (fb i)
              rw [sumN_succ, e3]
              by_cases e : i = j
              · rw [if_pos e, if_pos e, e, hcj, hcj']
              · rw [if_neg e, if_neg e, Nat.add_zero]
            have HCJ := Lib.hid hcj
            clear hj hcj hcj' hal' e2 e3 HAL bcj bal
            go_wp2_with fail
            refine (HB1.out _).mono ?_
            rintro e v5 ⟨rfl, hb⟩
            replace HC := Lib.hid (HC.out.keep hb)
            replace HG := Lib.hid (HG.out.keep hb)
            replace HA := Lib.hid (HA.out.keep hb)
            replace HS := Lib.hid (HS.out.keep hb)
            clear hb c0 c1 c2
            go_wp2_with fail
            refine (HB2.out _).mono ?_
            rintro e v6 ⟨rfl, hb⟩
            replace HC := Lib.hid (HC.out.keep hb)
            replace HG := Lib.hid (HG.out.keep hb)
            replace HA := Lib.hid (HA.out.keep hb)
            replace HS := Lib.hid (HS.out.keep hb)
            clear hb
            have g0 := HC.out.cell j
            have f0 := HC.out.frozen j
            rw [cnV_get _ u6, HCJ.out] at g0
            have HC2 := Lib.hid (HC.out.set j (.int .i64 (cj' : Nat)))
            rw [cnV_set _ u6, HCS.out] at HC2
            have HG2 := Lib.hid (HG.out.far (g' := gC) hnG j (.int .i64 (cj' : Nat)))
            have HA2 := Lib.hid (HA.out.far (g' := gC) hnA j (.int .i64 (cj' : Nat)))
            have HS2 : Hid (Since w (v6.setCell ⟨gC, j, none⟩ (.int .i64 (cj' : Nat)))) := ⟨HS.out.1.setCell (p := ⟨gC, j, none⟩) hlw _, by have := HS.out.2; simpa using this⟩
            clear HC HG HA HS HCJ HCS
            go_wp2_with fail
            clear g0 f0
            go_roundw
            case rel => exact ⟨t + 1, al', by omega, rfl, by go_num, HAL', HC2, HG2, HA2, HS2⟩
            case measure => simp [intOf]; omega
          · obtain ⟨e1, e2⟩ := HBN.out t hu
            obtain ⟨u, hu'⟩ : ∃ u, bt t k = u := ⟨_, rfl⟩
            rw [hu'] at HB1 hu
            have v1_ : ¬ (u : Int) = (sm : Int) := by omega
            have HAL' : Hid (sumN (t + 1) fa = al) := by show _ = _; rw [sumN_succ, HAL.out, e1, Nat.add_zero]
            have HCS : Hid (cnV n1 (fun i => sumN t (fb i)) = cnV n1 (fun i => sumN (t + 1) (fb i))) := by
              show _ = _
              refine cnV_congr fun i _ => ?_
              show sumN t (fb i) = sumN (t + 1) (fb i)
              rw [sumN_succ, e2, Nat.add_zero]
            rw [HCS.out] at HC
            clear hu' e1 e2 HAL HCS bal
            go_wp2_with fail
            refine (HB1.out _).mono ?_
            rintro e v5 ⟨rfl, hb⟩
            replace HC := Lib.hid (HC.out.keep hb)
            replace HG := Lib.hid (HG.out.keep hb)
            replace HA := Lib.hid (HA.out.keep hb)
            replace HS := Lib.hid (HS.out.keep hb)
            clear hb c0 c1 c2
            go_wp2_with fail
            go_roundw
            case rel => exact ⟨t + 1, al, by omega, rfl, by go_num, HAL', HC, HG, HA, HS⟩
            case measure => simp [intOf]; omega
        · have r1 : ¬ (t : Int) < (y : Int) := by omega
          obtain rfl : t = y := by omega
          have hal : al = Wy := by rw [← HAL.out]; exact HFA.out
          subst hal
          clear HAL HFA HFL HBI HBN HG bal u2 c0 c1 c2
          have hse := Lib.hid HS.out
          clear HS
          have HS0 := Lib.hid (Since.refl wr)
          go_wp2_with fail
          go_loopw [15] (fun i wr1 => ∃ k : Nat, k ≤ n1 ∧ i = .int .i64 k ∧ Hid (Since wr wr1)) (fun i _ => n1 - (intOf i).toNat)
          case atStart => exact ⟨0, by omega, rfl, HS0⟩
          case round =>
            obtain ⟨i, hi, rfl, HS⟩ := hrel
            by_cases hlt3 : i < n1
            · have q1 : (i : Int) ≤ (sm : Int) := by omega
              have q1' : i ≤ sm := by omega
              obtain ⟨s, c, z, eA, s2, ec, ez, ew⟩ := HEL.out i q1'
              have fA_ := (HA.out.keep HS.out.1) i s eA
              have fC := (HC.out.keep HS.out.1).cell i
              rw [cnV_get _ hlt3, ec] at fC
              have w2 : IntKind.i64.wrap ((i : Int) + 1) = ((i + 1 : Nat) : Int) := by rw [wrapI (by unfold I64; omega)]; omega
              have hz : z ≤ 1024 * 184756 := by rw [← ez]; exact Nat.mul_le_mul (by rw [← ec]; exact Nat.le_trans (HFM.out _ _) (by omega)) (by omega)
              have m1 : IntKind.i64.wrap ((c : Int) * ((s.2 : Nat) : Int)) = (z : Int) := by rw [← Int.natCast_mul, ez, wrapI (by unfold I64; omega)]
              have m2 : IntKind.i64.wrap ((al : Int) * ((s.1 : Nat) : Int)) = (z : Int) := by rw [← Int.natCast_mul, ew, wrapI (by unfold I64; omega)]
              have l2 : (i : Int) < (n1 : Int) := by omega
              have l1 : i < n1 := hlt3
              clear ec ez ew s2 hz
              clear eA
              go_wp2_with fail
              refine Vals6.regionAll (fun X => Below wr.drew.heap.size wr.drew X) [some 86, some 87, some 88, some 89, some 90, some 91, some 92, some 93, some 94, some 95, some 96, some 97, some 98, some 99, some 100, some 101, some 102] [.is (.slice (some ⟨gC, 0, none⟩) n1 n1), .is (.int .i64 (i : Nat)), .is (.pointer (some ⟨gC, i, none⟩)), .is (.int .i64 (c : Nat)), .is (.slice (some ⟨gA, 0, none⟩) n1 n1), .is (.int .i64 (i : Nat)), .is (.pointer (some ⟨gA, i * 2, none⟩)), .is (.pointer (some ⟨gA, i * 2 + 1, none⟩)), .is (.int .i64 (s.2 : Nat)), .is (.int .i64 (z : Nat)), .is (.int .i64 (al : Nat)), .is (.slice (some ⟨gA, 0, none⟩) n1 n1), .is (.int .i64 (i : Nat)), .is (.pointer (some ⟨gA, i * 2, none⟩)), .is (.pointer (some ⟨gA, i * 2, none⟩)), .is (.int .i64 (s.1 : Nat)), .is (.int .i64 (z : Nat))] (by kernel_rfl) rfl rfl (by kernel_rfl) (by kernel_rfl) (by kernel_rfl) (by kernel_rfl) (by kernel_rfl) (by kernel_rfl) rfl (Below.refl _ _) ?hsteps ?hend
              case hsteps =>
                refine Vals5.Steps.run rfl (Vals5.Stable.is _) ?_ ?_
                · intro a W hS pre old K hK
                  have e12 := old 12 _ (by kernel_rfl) rfl
                  clear pre old
                  simp only [Vals5.fits, Array.getD_eq_getD_getElem?, List.getElem?_toArray, List.getElem?_cons_zero, List.getElem?_cons_succ, Option.getD_some] at e12
                  go_simp
                  refine hK _ _ hS (Below.refl _ _) ?_
                  exact fits_is _ _
                refine Vals5.Steps.run rfl (Vals5.Stable.is _) ?_ ?_
                · intro a W hS pre old K hK
                  have e15 := old 15 _ (by kernel_rfl) rfl
                  clear pre old
                  simp only [Vals5.fits, Array.getD_eq_getD_getElem?, List.getElem?_toArray, List.getElem?_cons_zero, List.getElem?_cons_succ, Option.getD_some] at e15
                  go_simp
                  refine hK _ _ hS (Below.refl _ _) ?_
                  exact fits_is _ _
                refine Vals5.Steps.run rfl (Vals5.Stable.is _) ?_ ?_
                · intro a W hS pre old K hK
                  have e86 := pre 0 86 _ (by kernel_rfl) rfl rfl
                  have e87 := pre 1 87 _ (by kernel_rfl) rfl rfl
                  clear pre old
                  simp only [Vals5.fits, Array.getD_eq_getD_getElem?, List.getElem?_toArray, List.getElem?_cons_zero, List.getElem?_cons_succ, Option.getD_some] at e86 e87
                  go_simp
                  refine hK _ _ hS (Below.refl _ _) ?_
                  exact fits_is _ _
                refine Vals5.Steps.run rfl (Vals5.Stable.is _) ?_ ?_
                · intro a W hS pre old K hK
                  have e88 := pre 2 88 _ (by kernel_rfl) rfl rfl
                  clear pre old
                  simp only [Vals5.fits, Array.getD_eq_getD_getElem?, List.getElem?_toArray, List.getElem?_cons_zero, List.getElem?_cons_succ, Option.getD_some] at e88
                  have hS9 := hS
                  have bw9 : Below wr.heap.size wr W := (Below.drew (Below.refl _ _)).trans (hS9.mono (by first | exact Nat.le_refl _ | (simp; done)))
                  have a0 := keep_cell bw9 fA_.1
                  have a1 := keep_cell bw9 fA_.2
                  have a2 := keep_cell bw9 fC
                  go_simp
                  refine hK _ _ hS (Below.refl _ _) ?_
                  exact fits_is _ _
                refine Vals5.Steps.run rfl (Vals5.Stable.is _) ?_ ?_
                · intro a W hS pre old K hK
                  have e6 := old 6 _ (by kernel_rfl) rfl
                  clear pre old
                  simp only [Vals5.fits, Array.getD_eq_getD_getElem?, List.getElem?_toArray, List.getElem?_cons_zero, List.getElem?_cons_succ, Option.getD_some] at e6
                  go_simp
                  refine hK _ _ hS (Below.refl _ _) ?_
                  exact fits_is _ _
                refine Vals5.Steps.run rfl (Vals5.Stable.is _) ?_ ?_
                · intro a W hS pre old K hK
                  have e15 := old 15 _ (by kernel_rfl) rfl
                  clear pre old
                  simp only [Vals5.fits, Array.getD_eq_getD_getElem?, List.getElem?_toArray, List.getElem?_cons_zero, List.getElem?_cons_succ, Option.getD_some] at e15
                  go_simp
                  refine hK _ _ hS (Below.refl _ _) ?_
                  exact fits_is _ _
                refine Vals5.Steps.run rfl (Vals5.Stable.is _) ?_ ?_
                · intro a W hS pre old K hK
                  have e90 := pre 4 90 _ (by kernel_rfl) rfl rfl
                  have e91 := pre 5 91 _ (by kernel_rfl) rfl rfl
                  clear pre old
                  simp only [Vals5.fits, Array.getD_eq_getD_getElem?, List.getElem?_toArray, List.getElem?_cons_zero, List.getElem?_cons_succ, Option.getD_some] at e90 e91
                  go_simp
                  refine hK _ _ hS (Below.refl _ _) ?_
                  exact fits_is _ _
                refine Vals5.Steps.run rfl (Vals5.Stable.is _) ?_ ?_
                · intro a W hS pre old K hK
                  have e92 := pre 6 92 _ (by kernel_rfl) rfl rfl
                  clear pre old
                  simp only [Vals5.fits, Array.getD_eq_getD_getElem?, List.getElem?_toArray, List.getElem?_cons_zero, List.getElem?_cons_succ, Option.getD_some] at e92
                  go_simp
                  refine hK _ _ hS (Below.refl _ _) ?_
                  exact fits_is _ _
                refine Vals5.Steps.run rfl (Vals5.Stable.is _) ?_ ?_
                · intro a W hS pre old K hK
                  have e93 := pre 7 93 _ (by kernel_rfl) rfl rfl
                  clear pre old
                  simp only [Vals5.fits, Array.getD_eq_getD_getElem?, List.getElem?_toArray, List.getElem?_cons_zero, List.getElem?_cons_succ, Option.getD_some] at e93
                  have hS9 := hS
                  have bw9 : Below wr.heap.size wr W := (Below.drew (Below.refl _ _)).trans (hS9.mono (by first | exact Nat.le_refl _ | (simp; done)))
                  have a0 := keep_cell bw9 fA_.1
                  have a1 := keep_cell bw9 fA_.2
                  have a2 := keep_cell bw9 fC
                  go_simp
                  refine hK _ _ hS (Below.refl _ _) ?_
                  exact fits_is _ _
                refine Vals5.Steps.run rfl (Vals5.Stable.is _) ?_ ?_
                · intro a W hS pre old K hK
                  have e89 := pre 3 89 _ (by kernel_rfl) rfl rfl
                  have e94 := pre 8 94 _ (by kernel_rfl) rfl rfl
                  clear pre old
                  simp only [Vals5.fits, Array.getD_eq_getD_getElem?, List.getElem?_toArray, List.getElem?_cons_zero, List.getElem?_cons_succ, Option.getD_some] at e89 e94
                  go_simp
                  refine hK _ _ hS (Below.refl _ _) ?_
                  exact fits_is _ _
                refine Vals5.Steps.run rfl (Vals5.Stable.is _) ?_ ?_
                · intro a W hS pre old K hK
                  have e13 := old 13 _ (by kernel_rfl) rfl
                  clear pre old
                  simp only [Vals5.fits, Array.getD_eq_getD_getElem?, List.getElem?_toArray, List.getElem?_cons_zero, List.getElem?_cons_succ, Option.getD_some] at e13
                  go_simp
                  refine hK _ _ hS (Below.refl _ _) ?_
                  exact fits_is _ _
                refine Vals5.Steps.run rfl (Vals5.Stable.is _) ?_ ?_
                · intro a W hS pre old K hK
                  have e6 := old 6 _ (by kernel_rfl) rfl
                  clear pre old
                  simp only [Vals5.fits, Array.getD_eq_getD_getElem?, List.getElem?_toArray, List.getElem?_cons_zero, List.getElem?_cons_succ, Option.getD_some] at e6
                  go_simp
                  refine hK _ _ hS (Below.refl _ _) ?_
                  exact fits_is _ _
                refine Vals5.Steps.run rfl (Vals5.Stable.is _) ?_ ?_
                · intro a W hS pre old K hK
                  have e15 := old 15 _ (by kernel_rfl) rfl
                  clear pre old
                  simp only [Vals5.fits, Array.getD_eq_getD_getElem?, List.getElem?_toArray, List.getElem?_cons_zero, List.getElem?_cons_succ, Option.getD_some] at e15
                  go_simp
                  refine hK _ _ hS (Below.refl _ _) ?_
                  exact fits_is _ _
                refine Vals5.Steps.run rfl (Vals5.Stable.is _) ?_ ?_
                · intro a W hS pre old K hK
                  have e97 := pre 11 97 _ (by kernel_rfl) rfl rfl
                  have e98 := pre 12 98 _ (by kernel_rfl) rfl rfl
                  clear pre old
                  simp only [Vals5.fits, Array.getD_eq_getD_getElem?, List.getElem?_toArray, List.getElem?_cons_zero, List.getElem?_cons_succ, Option.getD_some] at e97 e98
                  go_simp
                  refine hK _ _ hS (Below.refl _ _) ?_
                  exact fits_is _ _
                refine Vals5.Steps.run rfl (Vals5.Stable.is _) ?_ ?_
                · intro a W hS pre old K hK
                  have e99 := pre 13 99 _ (by kernel_rfl) rfl rfl
                  clear pre old
                  simp only [Vals5.fits, Array.getD_eq_getD_getElem?, List.getElem?_toArray, List.getElem?_cons_zero, List.getElem?_cons_succ, Option.getD_some] at e99
                  go_simp
                  refine hK _ _ hS (Below.refl _ _) ?_
                  exact fits_is _ _
                refine Vals5.Steps.run rfl (Vals5.Stable.is _) ?_ ?_
                · intro a W hS pre old K hK
                  have e100 := pre 14 100 _ (by kernel_rfl) rfl rfl
                  clear pre old
                  simp only [Vals5.fits, Array.getD_eq_getD_getElem?, List.getElem?_toArray, List.getElem?_cons_zero, List.getElem?_cons_succ, Option.getD_some] at e100
                  have hS9 := hS
                  have bw9 : Below wr.heap.size wr W := (Below.drew (Below.refl _ _)).trans (hS9.mono (by first | exact Nat.le_refl _ | (simp; done)))
                  have a0 := keep_cell bw9 fA_.1
                  have a1 := keep_cell bw9 fA_.2
                  have a2 := keep_cell bw9 fC
                  go_simp
                  refine hK _ _ hS (Below.refl _ _) ?_
                  exact fits_is _ _
                refine Vals5.Steps.run rfl (Vals5.Stable.is _) ?_ ?_
                · intro a W hS pre old K hK
                  have e96 := pre 10 96 _ (by kernel_rfl) rfl rfl
                  have e101 := pre 15 101 _ (by kernel_rfl) rfl rfl
                  clear pre old
                  simp only [Vals5.fits, Array.getD_eq_getD_getElem?, List.getElem?_toArray, List.getElem?_cons_zero, List.getElem?_cons_succ, Option.getD_some] at e96 e101
                  go_simp
                  refine hK _ _ hS (Below.refl _ _) ?_
                  exact fits_is _ _
                exact Vals5.Steps.nil
              case hend =>
              rintro X hX
              have hsX := Lib.hid (HS.out.keep (Below.drew (Below.refl _ _)) |>.keep hX)
              simp only [Vals5.All, List.getLast_cons_cons, List.getLast_singleton]
              simp only [Vals.putAll, List.setIfInBounds_toArray, List.set_cons_zero, List.set_cons_succ]
              intro K hK
              go_simp
              refine hK _ _ ?_
              clear hK K
              go_wp2_with fail
              go_roundw
              case rel => exact ⟨i + 1, by omega, by go_num, hsX⟩
              case measure => simp [intOf]; omega
            · have q1 : ¬ (i : Int) ≤ (sm : Int) := by omega
              have q1' : ¬ i ≤ sm := by omega
              go_wp2_with fail
              refine (awake_c _).mono ?_
              rintro e v5 ⟨rfl, hb⟩
              have hsf := (hse.out.keep HS.out.1).keep hb
              clear hb
              go_wp2_with fail
              go_ret
              exact ⟨rfl, hsf.1⟩
end Td
end Go.Proofs.Ytgkdidnmndmlhaa
