import Derived.Test.YtgkdidnmndmlhaaMathH
import Derived.Test.YtgkdidnmndmlhaaTur
import Derived.Test.YtgkdidnmndmlhaaWho
/- The law GradeAll: what it returns. -/
namespace Go.Proofs.Ytgkdidnmndmlhaa
open Go.RowKit
namespace Td
set_option linter.unusedSimpArgs false
set_option linter.unusedVariables false
attribute [local go_sem] Oper.semAt_some
theorem ways0 (P n : Nat) (w : World) (h2 : P ≤ 20) (hn : n ≤ P) :
    Calls Try.prog 19 #[.int .i64 P, .int .i64 n] w fun e w' => e = .returned (.tuple #[.int .i64 (bn P n : Nat), .int .i64 0]) ∧ Below w.heap.size w w' := by
  have e : wayA (P : Int) (n : Int) = (((bn P n : Nat) : Int), 0) := by
    unfold wayA
    rw [if_pos ⟨wi_iff.2 (by omega), wi_iff.2 (by omega)⟩]
    rfl
  have := Ways_c P n w
  rw [e] at this
  exact this
theorem neSh (a b c d : Int) (h : ¬ (a = c ∧ b = d)) (w : World) : (Op.equalIn 10000 41 (.agg #[.int .i64 a, .int .i64 b]) (.agg #[.int .i64 c, .int .i64 d])).run Try.prog w = .ok false w := by
  by_cases e : a = c
  · have e2 : ¬ b = d := fun e2 => h ⟨e, e2⟩
    go_simp
  · go_simp
set_option maxRecDepth 100000 in
set_option maxHeartbeats 8000000 in
theorem gradeAll_c (xa xb xc : Nat) (w : World) (ha : xa ≤ 255) (hb0 : xb ≤ 255) (hc0 : xc ≤ 255) :
    Calls Try.prog 8 #[.agg #[.int .u8 xa, .int .u8 xb, .int .u8 xc]] w fun e w' => e = .returned (.bool true) ∧ Below w.heap.size w w' := by
  have hs := (Since.refl w).alloc (.cells #[.int .u8 xa, .int .u8 xb, .int .u8 xc] 58)
  have HX := Lib.hid (Blk.new w 58 #[.int .u8 xa, .int .u8 xb, .int .u8 xc])
  have d0 := HX.out.cell 0
  have d1 := HX.out.cell 1
  have d2 := HX.out.cell 2
  simp only [List.getElem?_toArray, List.getElem?_cons_zero, List.getElem?_cons_succ] at d0 d1 d2
  have HH : Hid (∀ W, Calls Try.prog 40 #[.agg #[.int .u8 xa, .int .u8 xb, .int .u8 xc], .int .i64 20] W _) := fun W => heap_c xa xb xc 20 W ha hb0 hc0 (by omega) (by omega)
  obtain ⟨P, hP⟩ : ∃ P, 1 + xa % 20 = P := ⟨_, rfl⟩
  rw [hP] at HH
  obtain ⟨bd, hbd⟩ : ∃ r, xb % (P + 1) = r := ⟨_, rfl⟩
  obtain ⟨sm, hsm⟩ : ∃ r, xc % (P + 1) = r := ⟨_, rfl⟩
  rw [hbd, hsm] at HH
  have hP1 : 1 ≤ P ∧ P ≤ 20 := by have := Nat.mod_lt xa (show 0 < 20 by omega); omega
  have hbP : bd ≤ P := by have := Nat.mod_lt xb (show 0 < P + 1 by omega); omega
  have hsP : sm ≤ P := by have := Nat.mod_lt xc (show 0 < P + 1 by omega); omega
  obtain ⟨n1, hn1⟩ : ∃ m, sm + 1 = m := ⟨_, rfl⟩
  obtain ⟨p1, hp1⟩ : ∃ m, P + 1 = m := ⟨_, rfl⟩
  obtain ⟨Wy, hWy⟩ : ∃ m, bn P sm = m := ⟨_, rfl⟩
  have hW1 : 1 ≤ Wy := by rw [← hWy]; exact bn_pos hsP
  have hW2 : Wy ≤ 184756 := by rw [← hWy]; exact bn_le hP1.2
  have t1 : IntKind.i64.wrap ((sm : Int) + 1) = (n1 : Int) := by rw [wrapI (by unfold I64; omega)]; omega
  have t2 : IntKind.i64.wrap ((P : Int) + 1) = (p1 : Int) := by rw [wrapI (by unfold I64; omega)]; omega
  have t3 : ¬ (Wy : Int) < 1 := by omega
  have HSA := Lib.hid (fun W => shows0 P bd sm n1 W hP1.1 hP1.2 hbP hsP hn1)
  have HSB := Lib.hid (fun W => shows0 P bd P p1 W hP1.1 hP1.2 hbP (Nat.le_refl P) hp1)
  have HWY : Hid (∀ W, Calls Try.prog 19 #[.int .i64 P, .int .i64 sm] W fun e w' => e = .returned (.tuple #[.int .i64 (Wy : Nat), .int .i64 0]) ∧ Below W.heap.size W w') := fun W => by
    rw [← hWy]; exact ways0 P sm W hP1.2 hsP
  obtain ⟨S, hS⟩ : ∃ S : Nat → Nat, S = sh P bd sm := ⟨_, rfl⟩
  obtain ⟨T, hT⟩ : ∃ T : Nat → Nat, T = fun i => i * S i := ⟨_, rfl⟩
  have HEL : Hid (∀ k, k ≤ sm → ∃ s : Nat × Nat, ∃ q : Nat, (shwL P bd sm)[k]? = some s ∧ 0 < s.2 ∧ s.1 ≤ s.2 ∧ s.2 ≤ Wy ∧ Nat.gcd s.1 s.2 = 1 ∧ Wy % s.2 = 0 ∧ Wy / s.2 = q ∧ s.1 * q = S k) := fun k hk => by
    rw [← hWy, hS]; exact share_all hbP hsP hk
  have HEB : Hid (∀ k, k ≤ P → (shwL P bd P)[k]? = some (if k = bd then (1, 1) else (0, 1))) := fun k hk => shw_full hbP hk
  have HSX : Hid (∀ k, k ≤ n1 → sumN k S ≤ Wy) := fun k hk => by rw [hS, ← hWy]; exact part_le hbP (by omega)
  have HSY : Hid (∀ k, k ≤ n1 → sumN k T ≤ 20 * Wy) := fun k hk => by rw [hT, hS, ← hWy]; exact mean_le hbP (by omega) (by omega)
  have HSS : Hid (sumN n1 S = Wy) := by show _ = _; rw [hS, ← hWy, ← hn1]; exact sh_sum hbP
  have HST : Hid (sumN n1 T * P = sm * bd * Wy) := by show _ = _; rw [hT, hS, ← hWy, ← hn1]; exact mean_sh hbP hP1.1
  have HTS : Hid (∀ k, T k = k * S k) := fun k => by rw [hT]
  clear hP hbd hsm hWy hS hT ha hb0 hc0
  go_enter Try.func8, Try.ntmps8
  go_wp2_with fail
  refine (HH.out _).mono ?_
  rintro e v1 ⟨rfl, hb⟩
  replace hs := (hs.keep hb).alloc (.cells #[.int .i64 P, .int .i64 0, .int .i64 P] 25)
  have HG := Lib.hid (Blk.new v1 25 (gV P 0 P))
  clear hb d0 d1 d2 HX
  obtain ⟨c0, c1, c2⟩ := HG.out.gcells
  obtain ⟨gh, hgh⟩ : ∃ k, v1.heap.size = k := ⟨_, rfl⟩
  go_wp2_with fail
  rw [hgh] at HG
  refine (HSA.out _).mono ?_
  rintro e v2 ⟨⟨gA, rfl, hF⟩, hb⟩
  replace hs := hs.keep hb
  replace HG := Lib.hid (HG.out.keep hb)
  have HA := Lib.hid hF
  clear hb hF c0 c1 c2
  obtain ⟨c0, c1, c2⟩ := HG.out.gcells
  go_wp2_with fail
  clear hgh
  refine (HSB.out _).mono ?_
  rintro e v3 ⟨⟨gB, rfl, hF⟩, hb⟩
  replace hs := hs.keep hb
  replace HG := Lib.hid (HG.out.keep hb)
  replace HA := Lib.hid (HA.out.keep hb)
  have HB := Lib.hid hF
  clear hb hF c0 c1 c2
  obtain ⟨c0, c1, c2⟩ := HG.out.gcells
  go_wp2_with fail
  refine (HWY.out _).mono ?_
  rintro e v4 ⟨rfl, hb⟩
  replace hs := hs.keep hb
  replace HG := Lib.hid (HG.out.keep hb)
  replace HA := Lib.hid (HA.out.keep hb)
  replace HB := Lib.hid (HB.out.keep hb)
  clear hb c0 c1 c2 HSA HSB HWY HH
  obtain ⟨c0, c1, c2⟩ := HG.out.gcells
  have HS0 := Lib.hid (Since.refl v4)
  have hsw := Lib.hid hs
  clear hs
  go_wp2_with fail
  clear c0 c1 c2
  go_loopw [12, 13, 14, 15] (fun u v i _ wr => ∃ k x y : Nat, k ≤ n1 ∧ u = .int .i64 x ∧ v = .int .i64 y ∧ i = .int .i64 k ∧ Hid (sumN k S = x) ∧ Hid (sumN k T = y) ∧ Hid (Since v4 wr)) (fun _ _ i _ _ => n1 - (intOf i).toNat)
  case atStart => exact ⟨0, 0, 0, by omega, rfl, rfl, rfl, rfl, rfl, HS0⟩
  case round =>
    obtain ⟨k, x, y, hk, rfl, rfl, rfl, HX, HY, HS⟩ := hrel
    by_cases hlt : k < n1
    · have q1 : (k : Int) ≤ (sm : Int) := by omega
      have q1' : k ≤ sm := by omega
      obtain ⟨s, q, eA, s0, s1, s2, sg, sr, sq, sc⟩ := HEL.out k q1'
      have fA := (HA.out.keep HS.out.1) k s eA
      have HWH : Hid (∀ W, Calls Try.prog 41 #[.agg (fV (ip s))] W fun e w' => e = .returned (.bool true) ∧ Below W.heap.size W w') := fun W => whole_c s W (by omega) (by omega) s0 sg
      obtain ⟨c, hc⟩ : ∃ c, S k = c := ⟨_, rfl⟩
      obtain ⟨x', hx'⟩ : ∃ m, x + c = m := ⟨_, rfl⟩
      obtain ⟨kc, hkc⟩ : ∃ m, k * c = m := ⟨_, rfl⟩
      obtain ⟨y', hy'⟩ : ∃ m, y + kc = m := ⟨_, rfl⟩
      have HX' : Hid (sumN (k + 1) S = x') := by show _ = _; rw [sumN_succ, HX.out, hc, hx']
      have HY' : Hid (sumN (k + 1) T = y') := by show _ = _; rw [sumN_succ, HY.out, HTS.out, hc, hkc, hy']
      have bx : x' ≤ Wy := by rw [← HX'.out]; exact HSX.out _ (by omega)
      have by_ : y' ≤ 20 * Wy := by rw [← HY'.out]; exact HSY.out _ (by omega)
      have qW : q ≤ Wy := by rw [← sq]; exact Nat.div_le_self _ _
      rw [hc] at sc
      have u1 : ((Wy : Nat) : Int).tmod ((s.2 : Nat) : Int) = 0 := by
        have : ((Wy : Nat) : Int).tmod ((s.2 : Nat) : Int) = ((Wy % s.2 : Nat) : Int) := rfl
        rw [this, sr]; rfl
      have u2 : ((Wy : Nat) : Int).tdiv ((s.2 : Nat) : Int) = (q : Int) := by
        have : ((Wy : Nat) : Int).tdiv ((s.2 : Nat) : Int) = ((Wy / s.2 : Nat) : Int) := rfl
        rw [this, sq]
      have u3 : IntKind.i64.wrap (q : Int) = (q : Int) := wrapI (by unfold I64; omega)
      have u4 : IntKind.i64.wrap ((s.1 : Nat) * (q : Nat) : Int) = (c : Int) := by rw [← Int.natCast_mul, sc, wrapI (by unfold I64; omega)]
      have u5 : IntKind.i64.wrap ((x : Int) + (c : Int)) = (x' : Int) := by rw [← Int.natCast_add, hx', wrapI (by unfold I64; omega)]
      have u6 : IntKind.i64.wrap ((k : Int) * (c : Int)) = (kc : Int) := by rw [← Int.natCast_mul, hkc, wrapI (by unfold I64; omega)]
      have u7 : IntKind.i64.wrap ((y : Int) + (kc : Int)) = (y' : Int) := by rw [← Int.natCast_add, hy', wrapI (by unfold I64; omega)]
      have w2 : IntKind.i64.wrap ((k : Int) + 1) = ((k + 1 : Nat) : Int) := by rw [wrapI (by unfold I64; omega)]; omega
      have z1 : ¬ s.2 = 0 := by omega
      have z2 : ¬ (s.2 : Int) = 0 := by omega
      have z3 : ¬ (s.2 : Int) < (s.1 : Int) := by omega
      have z4 : ¬ s.2 < s.1 := by omega
      have l1 : k < n1 := hlt
      have l2 : (k : Int) < (n1 : Int) := by omega
      clear eA hc hx' hkc hy' HX HY bx by_ qW sc sr sq sg s0 s1 s2
      go_wp2_with fail
      refine Vals6.regionAll (fun X => Below wr.drew.heap.size wr.drew X) [some 79, some 80, some 81, some 82, some 83, some 84, some 85, some 86, some 87, some 88, some 89, some 90, some 91, some 92, some 93, some 94, some 95, some 96, some 97, some 98, some 99, some 100, some 101, some 102, some 103, some 104, some 105, some 106] [.is (.slice (some ⟨gA, 0, none⟩) n1 n1), .is (.int .i64 (k : Nat)), .is (.pointer (some ⟨gA, k * 2, none⟩)), .is (.agg (fV (ip s))), .is (.bool true), .is (.bool false), .is (.bool false), .is (.int .i64 (Wy : Nat)), .is (.slice (some ⟨gA, 0, none⟩) n1 n1), .is (.int .i64 (k : Nat)), .is (.pointer (some ⟨gA, k * 2, none⟩)), .is (.pointer (some ⟨gA, k * 2 + 1, none⟩)), .is (.int .i64 (s.2 : Nat)), .is (.int .i64 0), .is (.bool false), .is (.bool false), .is (.bool false), .is (.slice (some ⟨gA, 0, none⟩) n1 n1), .is (.int .i64 (k : Nat)), .is (.pointer (some ⟨gA, k * 2, none⟩)), .is (.pointer (some ⟨gA, k * 2, none⟩)), .is (.int .i64 (s.1 : Nat)), .is (.slice (some ⟨gA, 0, none⟩) n1 n1), .is (.int .i64 (k : Nat)), .is (.pointer (some ⟨gA, k * 2, none⟩)), .is (.pointer (some ⟨gA, k * 2 + 1, none⟩)), .is (.int .i64 (s.2 : Nat)), .is (.bool false)] (by kernel_rfl) rfl rfl (by kernel_rfl) (by kernel_rfl) (by kernel_rfl) (by kernel_rfl) (by kernel_rfl) (by kernel_rfl) rfl (Below.refl _ _) ?hsteps ?hend
      case hsteps =>
        refine Vals5.Steps.run rfl (Vals5.Stable.is _) ?_ ?_
        · intro a W hS pre old K hK
          have e6 := old 6 _ (by kernel_rfl) rfl
          clear pre old
          simp only [Vals5.fits, Array.getD_eq_getD_getElem?, List.getElem?_toArray, List.getElem?_cons_zero, List.getElem?_cons_succ, Option.getD_some] at e6
          go_simp
          refine hK _ _ hS (Below.refl _ _) ?_
          exact fits_is _ _
        refine Vals5.Steps.run rfl (Vals5.Stable.is _) ?_ ?_
        · intro a W hS pre old K hK
          have e14 := old 14 _ (by kernel_rfl) rfl
          clear pre old
          simp only [Vals5.fits, Array.getD_eq_getD_getElem?, List.getElem?_toArray, List.getElem?_cons_zero, List.getElem?_cons_succ, Option.getD_some] at e14
          go_simp
          refine hK _ _ hS (Below.refl _ _) ?_
          exact fits_is _ _
        refine Vals5.Steps.run rfl (Vals5.Stable.is _) ?_ ?_
        · intro a W hS pre old K hK
          have e79 := pre 0 79 _ (by kernel_rfl) rfl rfl
          have e80 := pre 1 80 _ (by kernel_rfl) rfl rfl
          clear pre old
          simp only [Vals5.fits, Array.getD_eq_getD_getElem?, List.getElem?_toArray, List.getElem?_cons_zero, List.getElem?_cons_succ, Option.getD_some] at e79 e80
          go_simp
          refine hK _ _ hS (Below.refl _ _) ?_
          exact fits_is _ _
        refine Vals5.Steps.run rfl (Vals5.Stable.is _) ?_ ?_
        · intro a W hS pre old K hK
          have e81 := pre 2 81 _ (by kernel_rfl) rfl rfl
          clear pre old
          simp only [Vals5.fits, Array.getD_eq_getD_getElem?, List.getElem?_toArray, List.getElem?_cons_zero, List.getElem?_cons_succ, Option.getD_some] at e81
          have hS9 := hS
          have bw9 : Below wr.heap.size wr W := (Below.drew (Below.refl _ _)).trans (hS9.mono (by first | exact Nat.le_refl _ | (simp; done)))
          have a0 := keep_cell bw9 fA.1
          have a1 := keep_cell bw9 fA.2
          go_simp
          refine hK _ _ hS (Below.refl _ _) ?_
          exact fits_is _ _
        refine Vals5.Steps.run rfl (Vals5.Stable.is _) ?_ ?_
        · intro a W hS pre old K hK
          have e82 := pre 3 82 _ (by kernel_rfl) rfl rfl
          clear pre old
          simp only [Vals5.fits, Array.getD_eq_getD_getElem?, List.getElem?_toArray, List.getElem?_cons_zero, List.getElem?_cons_succ, Option.getD_some] at e82
          go_simp
          refine (HWH.out _).mono ?_
          rintro e w' ⟨rfl, hb'⟩
          refine hK _ _ (hS.trans (hb'.mono hS.size)) hb' ?_
          exact fits_is _ _
        refine Vals5.Steps.run rfl (Vals5.Stable.is _) ?_ ?_
        · intro a W hS pre old K hK
          have e83 := pre 4 83 _ (by kernel_rfl) rfl rfl
          clear pre old
          simp only [Vals5.fits, Array.getD_eq_getD_getElem?, List.getElem?_toArray, List.getElem?_cons_zero, List.getElem?_cons_succ, Option.getD_some] at e83
          go_simp
          refine hK _ _ hS (Below.refl _ _) ?_
          exact fits_is _ _
        refine Vals5.Steps.run rfl (Vals5.Stable.is _) ?_ ?_
        · intro a W hS pre old K hK
          have e84 := pre 5 84 _ (by kernel_rfl) rfl rfl
          clear pre old
          simp only [Vals5.fits, Array.getD_eq_getD_getElem?, List.getElem?_toArray, List.getElem?_cons_zero, List.getElem?_cons_succ, Option.getD_some] at e84
          go_simp
          refine hK _ _ hS (Below.refl _ _) ?_
          exact fits_is _ _
        refine Vals5.Steps.run rfl (Vals5.Stable.is _) ?_ ?_
        · intro a W hS pre old K hK
          have e10 := old 10 _ (by kernel_rfl) rfl
          clear pre old
          simp only [Vals5.fits, Array.getD_eq_getD_getElem?, List.getElem?_toArray, List.getElem?_cons_zero, List.getElem?_cons_succ, Option.getD_some] at e10
          go_simp
          refine hK _ _ hS (Below.refl _ _) ?_
          exact fits_is _ _
        refine Vals5.Steps.run rfl (Vals5.Stable.is _) ?_ ?_
        · intro a W hS pre old K hK
          have e6 := old 6 _ (by kernel_rfl) rfl
          clear pre old
          simp only [Vals5.fits, Array.getD_eq_getD_getElem?, List.getElem?_toArray, List.getElem?_cons_zero, List.getElem?_cons_succ, Option.getD_some] at e6
          go_simp
          refine hK _ _ hS (Below.refl _ _) ?_
          exact fits_is _ _
        refine Vals5.Steps.run rfl (Vals5.Stable.is _) ?_ ?_
        · intro a W hS pre old K hK
          have e14 := old 14 _ (by kernel_rfl) rfl
          clear pre old
          simp only [Vals5.fits, Array.getD_eq_getD_getElem?, List.getElem?_toArray, List.getElem?_cons_zero, List.getElem?_cons_succ, Option.getD_some] at e14
          go_simp
          refine hK _ _ hS (Below.refl _ _) ?_
          exact fits_is _ _
        refine Vals5.Steps.run rfl (Vals5.Stable.is _) ?_ ?_
        · intro a W hS pre old K hK
          have e87 := pre 8 87 _ (by kernel_rfl) rfl rfl
          have e88 := pre 9 88 _ (by kernel_rfl) rfl rfl
          clear pre old
          simp only [Vals5.fits, Array.getD_eq_getD_getElem?, List.getElem?_toArray, List.getElem?_cons_zero, List.getElem?_cons_succ, Option.getD_some] at e87 e88
          go_simp
          refine hK _ _ hS (Below.refl _ _) ?_
          exact fits_is _ _
        refine Vals5.Steps.run rfl (Vals5.Stable.is _) ?_ ?_
        · intro a W hS pre old K hK
          have e89 := pre 10 89 _ (by kernel_rfl) rfl rfl
          clear pre old
          simp only [Vals5.fits, Array.getD_eq_getD_getElem?, List.getElem?_toArray, List.getElem?_cons_zero, List.getElem?_cons_succ, Option.getD_some] at e89
          go_simp
          refine hK _ _ hS (Below.refl _ _) ?_
          exact fits_is _ _
        refine Vals5.Steps.run rfl (Vals5.Stable.is _) ?_ ?_
        · intro a W hS pre old K hK
          have e90 := pre 11 90 _ (by kernel_rfl) rfl rfl
          clear pre old
          simp only [Vals5.fits, Array.getD_eq_getD_getElem?, List.getElem?_toArray, List.getElem?_cons_zero, List.getElem?_cons_succ, Option.getD_some] at e90
          have hS9 := hS
          have bw9 : Below wr.heap.size wr W := (Below.drew (Below.refl _ _)).trans (hS9.mono (by first | exact Nat.le_refl _ | (simp; done)))
          have a0 := keep_cell bw9 fA.1
          have a1 := keep_cell bw9 fA.2
          go_simp
          refine hK _ _ hS (Below.refl _ _) ?_
          exact fits_is _ _
        refine Vals5.Steps.run rfl (Vals5.Stable.is _) ?_ ?_
        · intro a W hS pre old K hK
          have e86 := pre 7 86 _ (by kernel_rfl) rfl rfl
          have e91 := pre 12 91 _ (by kernel_rfl) rfl rfl
          clear pre old
          simp only [Vals5.fits, Array.getD_eq_getD_getElem?, List.getElem?_toArray, List.getElem?_cons_zero, List.getElem?_cons_succ, Option.getD_some] at e86 e91
          go_simp
          refine hK _ _ hS (Below.refl _ _) ?_
          exact fits_is _ _
        refine Vals5.Steps.run rfl (Vals5.Stable.is _) ?_ ?_
        · intro a W hS pre old K hK
          have e92 := pre 13 92 _ (by kernel_rfl) rfl rfl
          clear pre old
          simp only [Vals5.fits, Array.getD_eq_getD_getElem?, List.getElem?_toArray, List.getElem?_cons_zero, List.getElem?_cons_succ, Option.getD_some] at e92
          go_simp
          refine hK _ _ hS (Below.refl _ _) ?_
          exact fits_is _ _
        refine Vals5.Steps.run rfl (Vals5.Stable.is _) ?_ ?_
        · intro a W hS pre old K hK
          have e85 := pre 6 85 _ (by kernel_rfl) rfl rfl
          have e93 := pre 14 93 _ (by kernel_rfl) rfl rfl
          clear pre old
          simp only [Vals5.fits, Array.getD_eq_getD_getElem?, List.getElem?_toArray, List.getElem?_cons_zero, List.getElem?_cons_succ, Option.getD_some] at e85 e93
          go_simp
          refine hK _ _ hS (Below.refl _ _) ?_
          exact fits_is _ _
        refine Vals5.Steps.run rfl (Vals5.Stable.is _) ?_ ?_
        · intro a W hS pre old K hK
          have e94 := pre 15 94 _ (by kernel_rfl) rfl rfl
          clear pre old
          simp only [Vals5.fits, Array.getD_eq_getD_getElem?, List.getElem?_toArray, List.getElem?_cons_zero, List.getElem?_cons_succ, Option.getD_some] at e94
          go_simp
          refine hK _ _ hS (Below.refl _ _) ?_
          exact fits_is _ _
        refine Vals5.Steps.run rfl (Vals5.Stable.is _) ?_ ?_
        · intro a W hS pre old K hK
          have e6 := old 6 _ (by kernel_rfl) rfl
          clear pre old
          simp only [Vals5.fits, Array.getD_eq_getD_getElem?, List.getElem?_toArray, List.getElem?_cons_zero, List.getElem?_cons_succ, Option.getD_some] at e6
          go_simp
          refine hK _ _ hS (Below.refl _ _) ?_
          exact fits_is _ _
        refine Vals5.Steps.run rfl (Vals5.Stable.is _) ?_ ?_
        · intro a W hS pre old K hK
          have e14 := old 14 _ (by kernel_rfl) rfl
          clear pre old
          simp only [Vals5.fits, Array.getD_eq_getD_getElem?, List.getElem?_toArray, List.getElem?_cons_zero, List.getElem?_cons_succ, Option.getD_some] at e14
          go_simp
          refine hK _ _ hS (Below.refl _ _) ?_
          exact fits_is _ _
        refine Vals5.Steps.run rfl (Vals5.Stable.is _) ?_ ?_
        · intro a W hS pre old K hK
          have e96 := pre 17 96 _ (by kernel_rfl) rfl rfl
          have e97 := pre 18 97 _ (by kernel_rfl) rfl rfl
          clear pre old
          simp only [Vals5.fits, Array.getD_eq_getD_getElem?, List.getElem?_toArray, List.getElem?_cons_zero, List.getElem?_cons_succ, Option.getD_some] at e96 e97
          go_simp
          refine hK _ _ hS (Below.refl _ _) ?_
          exact fits_is _ _
        refine Vals5.Steps.run rfl (Vals5.Stable.is _) ?_ ?_
        · intro a W hS pre old K hK
          have e98 := pre 19 98 _ (by kernel_rfl) rfl rfl
          clear pre old
          simp only [Vals5.fits, Array.getD_eq_getD_getElem?, List.getElem?_toArray, List.getElem?_cons_zero, List.getElem?_cons_succ, Option.getD_some] at e98
          go_simp
          refine hK _ _ hS (Below.refl _ _) ?_
          exact fits_is _ _
        refine Vals5.Steps.run rfl (Vals5.Stable.is _) ?_ ?_
        · intro a W hS pre old K hK
          have e99 := pre 20 99 _ (by kernel_rfl) rfl rfl
          clear pre old
          simp only [Vals5.fits, Array.getD_eq_getD_getElem?, List.getElem?_toArray, List.getElem?_cons_zero, List.getElem?_cons_succ, Option.getD_some] at e99
          have hS9 := hS
          have bw9 : Below wr.heap.size wr W := (Below.drew (Below.refl _ _)).trans (hS9.mono (by first | exact Nat.le_refl _ | (simp; done)))
          have a0 := keep_cell bw9 fA.1
          have a1 := keep_cell bw9 fA.2
          go_simp
          refine hK _ _ hS (Below.refl _ _) ?_
          exact fits_is _ _
        refine Vals5.Steps.run rfl (Vals5.Stable.is _) ?_ ?_
        · intro a W hS pre old K hK
          have e6 := old 6 _ (by kernel_rfl) rfl
          clear pre old
          simp only [Vals5.fits, Array.getD_eq_getD_getElem?, List.getElem?_toArray, List.getElem?_cons_zero, List.getElem?_cons_succ, Option.getD_some] at e6
          go_simp
          refine hK _ _ hS (Below.refl _ _) ?_
          exact fits_is _ _
        refine Vals5.Steps.run rfl (Vals5.Stable.is _) ?_ ?_
        · intro a W hS pre old K hK
          have e14 := old 14 _ (by kernel_rfl) rfl
          clear pre old
          simp only [Vals5.fits, Array.getD_eq_getD_getElem?, List.getElem?_toArray, List.getElem?_cons_zero, List.getElem?_cons_succ, Option.getD_some] at e14
          go_simp
          refine hK _ _ hS (Below.refl _ _) ?_
          exact fits_is _ _
        refine Vals5.Steps.run rfl (Vals5.Stable.is _) ?_ ?_
        · intro a W hS pre old K hK
          have e101 := pre 22 101 _ (by kernel_rfl) rfl rfl
          have e102 := pre 23 102 _ (by kernel_rfl) rfl rfl
          clear pre old
          simp only [Vals5.fits, Array.getD_eq_getD_getElem?, List.getElem?_toArray, List.getElem?_cons_zero, List.getElem?_cons_succ, Option.getD_some] at e101 e102
          go_simp
          refine hK _ _ hS (Below.refl _ _) ?_
          exact fits_is _ _
        refine Vals5.Steps.run rfl (Vals5.Stable.is _) ?_ ?_
        · intro a W hS pre old K hK
          have e103 := pre 24 103 _ (by kernel_rfl) rfl rfl
          clear pre old
          simp only [Vals5.fits, Array.getD_eq_getD_getElem?, List.getElem?_toArray, List.getElem?_cons_zero, List.getElem?_cons_succ, Option.getD_some] at e103
          go_simp
          refine hK _ _ hS (Below.refl _ _) ?_
          exact fits_is _ _
        refine Vals5.Steps.run rfl (Vals5.Stable.is _) ?_ ?_
        · intro a W hS pre old K hK
          have e104 := pre 25 104 _ (by kernel_rfl) rfl rfl
          clear pre old
          simp only [Vals5.fits, Array.getD_eq_getD_getElem?, List.getElem?_toArray, List.getElem?_cons_zero, List.getElem?_cons_succ, Option.getD_some] at e104
          have hS9 := hS
          have bw9 : Below wr.heap.size wr W := (Below.drew (Below.refl _ _)).trans (hS9.mono (by first | exact Nat.le_refl _ | (simp; done)))
          have a0 := keep_cell bw9 fA.1
          have a1 := keep_cell bw9 fA.2
          go_simp
          refine hK _ _ hS (Below.refl _ _) ?_
          exact fits_is _ _
        refine Vals5.Steps.run rfl (Vals5.Stable.is _) ?_ ?_
        · intro a W hS pre old K hK
          have e100 := pre 21 100 _ (by kernel_rfl) rfl rfl
          have e105 := pre 26 105 _ (by kernel_rfl) rfl rfl
          clear pre old
          simp only [Vals5.fits, Array.getD_eq_getD_getElem?, List.getElem?_toArray, List.getElem?_cons_zero, List.getElem?_cons_succ, Option.getD_some] at e100 e105
          go_simp
          refine hK _ _ hS (Below.refl _ _) ?_
          exact fits_is _ _
        exact Vals5.Steps.nil
      case hend =>
      rintro X hX
      have hsX := Lib.hid (HS.out.keep (Below.drew (Below.refl _ _)) |>.keep hX)
      have bX : Below wr.heap.size wr X := (Below.drew (Below.refl _ _)).trans (hX.mono (by first | exact Nat.le_refl _ | (simp; done)))
      have hA' := Lib.hid (fA.1)
      have a0 := keep_cell bX fA.1
      have a1 := keep_cell bX fA.2
      simp only [Vals5.All, List.getLast_cons_cons, List.getLast_singleton]
      simp only [Vals.putAll, List.setIfInBounds_toArray, List.set_cons_zero, List.set_cons_succ]
      intro K hK
      go_simp
      refine hK _ _ ?_
      clear hK K
      go_wp2_with fail
      refine Vals6.regionAll (fun Y => Below X.drew.heap.size X.drew Y) [some 108, some 109, some 110, some 111, some 112, some 113, some 114, some 115, some 116, some 117, some 118, some 119, some 120] [.is (.slice (some ⟨gA, 0, none⟩) n1 n1), .is (.int .i64 (k : Nat)), .is (.pointer (some ⟨gA, k * 2, none⟩)), .is (.pointer (some ⟨gA, k * 2, none⟩)), .is (.int .i64 (s.1 : Nat)), .is (.int .i64 (Wy : Nat)), .is (.slice (some ⟨gA, 0, none⟩) n1 n1), .is (.int .i64 (k : Nat)), .is (.pointer (some ⟨gA, k * 2, none⟩)), .is (.pointer (some ⟨gA, k * 2 + 1, none⟩)), .is (.int .i64 (s.2 : Nat)), .is (.int .i64 (q : Nat)), .is (.int .i64 (c : Nat))] (by kernel_rfl) rfl rfl (by kernel_rfl) (by kernel_rfl) (by kernel_rfl) (by kernel_rfl) (by kernel_rfl) (by kernel_rfl) rfl (Below.refl _ _) ?hsteps ?hend
      case hsteps =>
        refine Vals5.Steps.run rfl (Vals5.Stable.is _) ?_ ?_
        · intro a W hS pre old K hK
          have e6 := old 6 _ (by kernel_rfl) rfl
          clear pre old
          simp only [Vals5.fits, Array.getD_eq_getD_getElem?, List.getElem?_toArray, List.getElem?_cons_zero, List.getElem?_cons_succ, Option.getD_some] at e6
          go_simp
          refine hK _ _ hS (Below.refl _ _) ?_
          exact fits_is _ _
        refine Vals5.Steps.run rfl (Vals5.Stable.is _) ?_ ?_
        · intro a W hS pre old K hK
          have e14 := old 14 _ (by kernel_rfl) rfl
          clear pre old
          simp only [Vals5.fits, Array.getD_eq_getD_getElem?, List.getElem?_toArray, List.getElem?_cons_zero, List.getElem?_cons_succ, Option.getD_some] at e14
          go_simp
          refine hK _ _ hS (Below.refl _ _) ?_
          exact fits_is _ _
        refine Vals5.Steps.run rfl (Vals5.Stable.is _) ?_ ?_
        · intro a W hS pre old K hK
          have e108 := pre 0 108 _ (by kernel_rfl) rfl rfl
          have e109 := pre 1 109 _ (by kernel_rfl) rfl rfl
          clear pre old
          simp only [Vals5.fits, Array.getD_eq_getD_getElem?, List.getElem?_toArray, List.getElem?_cons_zero, List.getElem?_cons_succ, Option.getD_some] at e108 e109
          go_simp
          refine hK _ _ hS (Below.refl _ _) ?_
          exact fits_is _ _
        refine Vals5.Steps.run rfl (Vals5.Stable.is _) ?_ ?_
        · intro a W hS pre old K hK
          have e110 := pre 2 110 _ (by kernel_rfl) rfl rfl
          clear pre old
          simp only [Vals5.fits, Array.getD_eq_getD_getElem?, List.getElem?_toArray, List.getElem?_cons_zero, List.getElem?_cons_succ, Option.getD_some] at e110
          go_simp
          refine hK _ _ hS (Below.refl _ _) ?_
          exact fits_is _ _
        refine Vals5.Steps.run rfl (Vals5.Stable.is _) ?_ ?_
        · intro a W hS pre old K hK
          have e111 := pre 3 111 _ (by kernel_rfl) rfl rfl
          clear pre old
          simp only [Vals5.fits, Array.getD_eq_getD_getElem?, List.getElem?_toArray, List.getElem?_cons_zero, List.getElem?_cons_succ, Option.getD_some] at e111
          have hS9 := hS
          have bw9 : Below X.heap.size X W := (Below.drew (Below.refl _ _)).trans (hS9.mono (by first | exact Nat.le_refl _ | (simp; done)))
          have b0 := keep_cell bw9 a0
          have b1 := keep_cell bw9 a1
          go_simp
          refine hK _ _ hS (Below.refl _ _) ?_
          exact fits_is _ _
        refine Vals5.Steps.run rfl (Vals5.Stable.is _) ?_ ?_
        · intro a W hS pre old K hK
          have e10 := old 10 _ (by kernel_rfl) rfl
          clear pre old
          simp only [Vals5.fits, Array.getD_eq_getD_getElem?, List.getElem?_toArray, List.getElem?_cons_zero, List.getElem?_cons_succ, Option.getD_some] at e10
          go_simp
          refine hK _ _ hS (Below.refl _ _) ?_
          exact fits_is _ _
        refine Vals5.Steps.run rfl (Vals5.Stable.is _) ?_ ?_
        · intro a W hS pre old K hK
          have e6 := old 6 _ (by kernel_rfl) rfl
          clear pre old
          simp only [Vals5.fits, Array.getD_eq_getD_getElem?, List.getElem?_toArray, List.getElem?_cons_zero, List.getElem?_cons_succ, Option.getD_some] at e6
          go_simp
          refine hK _ _ hS (Below.refl _ _) ?_
          exact fits_is _ _
        refine Vals5.Steps.run rfl (Vals5.Stable.is _) ?_ ?_
        · intro a W hS pre old K hK
          have e14 := old 14 _ (by kernel_rfl) rfl
          clear pre old
          simp only [Vals5.fits, Array.getD_eq_getD_getElem?, List.getElem?_toArray, List.getElem?_cons_zero, List.getElem?_cons_succ, Option.getD_some] at e14
          go_simp
          refine hK _ _ hS (Below.refl _ _) ?_
          exact fits_is _ _
        refine Vals5.Steps.run rfl (Vals5.Stable.is _) ?_ ?_
        · intro a W hS pre old K hK
          have e114 := pre 6 114 _ (by kernel_rfl) rfl rfl
          have e115 := pre 7 115 _ (by kernel_rfl) rfl rfl
          clear pre old
          simp only [Vals5.fits, Array.getD_eq_getD_getElem?, List.getElem?_toArray, List.getElem?_cons_zero, List.getElem?_cons_succ, Option.getD_some] at e114 e115
          go_simp
          refine hK _ _ hS (Below.refl _ _) ?_
          exact fits_is _ _
        refine Vals5.Steps.run rfl (Vals5.Stable.is _) ?_ ?_
        · intro a W hS pre old K hK
          have e116 := pre 8 116 _ (by kernel_rfl) rfl rfl
          clear pre old
          simp only [Vals5.fits, Array.getD_eq_getD_getElem?, List.getElem?_toArray, List.getElem?_cons_zero, List.getElem?_cons_succ, Option.getD_some] at e116
          go_simp
          refine hK _ _ hS (Below.refl _ _) ?_
          exact fits_is _ _
        refine Vals5.Steps.run rfl (Vals5.Stable.is _) ?_ ?_
        · intro a W hS pre old K hK
          have e117 := pre 9 117 _ (by kernel_rfl) rfl rfl
          clear pre old
          simp only [Vals5.fits, Array.getD_eq_getD_getElem?, List.getElem?_toArray, List.getElem?_cons_zero, List.getElem?_cons_succ, Option.getD_some] at e117
          have hS9 := hS
          have bw9 : Below X.heap.size X W := (Below.drew (Below.refl _ _)).trans (hS9.mono (by first | exact Nat.le_refl _ | (simp; done)))
          have b0 := keep_cell bw9 a0
          have b1 := keep_cell bw9 a1
          go_simp
          refine hK _ _ hS (Below.refl _ _) ?_
          exact fits_is _ _
        refine Vals5.Steps.run rfl (Vals5.Stable.is _) ?_ ?_
        · intro a W hS pre old K hK
          have e113 := pre 5 113 _ (by kernel_rfl) rfl rfl
          have e118 := pre 10 118 _ (by kernel_rfl) rfl rfl
          clear pre old
          simp only [Vals5.fits, Array.getD_eq_getD_getElem?, List.getElem?_toArray, List.getElem?_cons_zero, List.getElem?_cons_succ, Option.getD_some] at e113 e118
          go_simp
          refine hK _ _ hS (Below.refl _ _) ?_
          exact fits_is _ _
        refine Vals5.Steps.run rfl (Vals5.Stable.is _) ?_ ?_
        · intro a W hS pre old K hK
          have e112 := pre 4 112 _ (by kernel_rfl) rfl rfl
          have e119 := pre 11 119 _ (by kernel_rfl) rfl rfl
          clear pre old
          simp only [Vals5.fits, Array.getD_eq_getD_getElem?, List.getElem?_toArray, List.getElem?_cons_zero, List.getElem?_cons_succ, Option.getD_some] at e112 e119
          go_simp
          refine hK _ _ hS (Below.refl _ _) ?_
          exact fits_is _ _
        exact Vals5.Steps.nil
      case hend =>
      rintro Y hY
      replace hsX := Lib.hid (hsX.out.keep (Below.drew (Below.refl _ _)) |>.keep hY)
      simp only [Vals5.All, List.getLast_cons_cons, List.getLast_singleton]
      simp only [Vals.putAll, List.setIfInBounds_toArray, List.set_cons_zero, List.set_cons_succ]
      intro K hK
      go_simp
      refine hK _ _ ?_
      clear hK K a0 a1
      go_wp2_with fail
      go_roundw
      case rel => exact ⟨k + 1, x', y', by omega, rfl, rfl, by go_num, HX', HY', hsX⟩
      case measure => simp [intOf]; omega
    · have q1 : ¬ (k : Int) ≤ (sm : Int) := by omega
      have q1' : ¬ k ≤ sm := by omega
      obtain rfl : k = n1 := by omega
      have hxW : x = Wy := by rw [← HX.out]; exact HSS.out
      subst hxW
      have HYP : Hid (y * P = sm * bd * x) := by show _ = _; rw [← HY.out]; exact HST.out
      have by_ : y ≤ 20 * x := by rw [← HY.out]; exact HSY.out _ (Nat.le_refl _)
      clear HX HY HSS HST HSX HSY HTS HEL
      replace HG := Lib.hid (HG.out.keep HS.out.1)
      replace HB := Lib.hid (HB.out.keep HS.out.1)
      replace hsw := Lib.hid (hsw.out.keep HS.out.1)
      clear HS HA HS0
      have HS0 := Lib.hid (Since.refl wr)
      go_wp2_with fail
      go_loopw [16] (fun i wr1 => ∃ k : Nat, k ≤ p1 ∧ i = .int .i64 k ∧ Hid (Since wr wr1)) (fun i _ => p1 - (intOf i).toNat)
      case atStart => exact ⟨0, by omega, rfl, HS0⟩
      case round =>
        obtain ⟨j, hj, rfl, HS⟩ := hrel
        obtain ⟨c0, c1, c2⟩ := (HG.out.keep HS.out.1).gcells
        by_cases hlt2 : j < p1
        · have r1 : (j : Int) ≤ (P : Int) := by omega
          have r1' : j ≤ P := by omega
          have l3 : (j : Int) < (p1 : Int) := by omega
          have w2 : IntKind.i64.wrap ((j : Int) + 1) = ((j + 1 : Nat) : Int) := by rw [wrapI (by unfold I64; omega)]; omega
          have eB := HEB.out j r1'
          by_cases hjb : j = bd
          · rw [if_pos hjb] at eB
            have fB := (HB.out.keep HS.out.1) j _ eB
            clear eB
            subst hjb
            go_wp2_with fail
            clear c0 c1 c2
            refine Vals6.regionAll (fun X => Below wr.drew.heap.size wr.drew X) [some 135, some 136, some 137, some 138, some 139, some 140, some 141, some 142, some 143, some 144, some 145, some 146, some 147, some 148, some 149, some 150, some 151, some 152, some 153, some 154, some 155, some 156] [.is (.slice (some ⟨gB, 0, none⟩) p1 p1), .is (.int .i64 (j : Nat)), .is (.pointer (some ⟨gB, j * 2, none⟩)), .is (.agg (fV (ip ((1, 1) : Nat × Nat)))), .is (.agg (fV (ip ((1, 1) : Nat × Nat)))), .is (.bool true), .is (.int .i64 (j : Nat)), .is (.int .i64 (j : Nat)), .is (.bool true), .is (.bool false), .is (.bool false), .is (.int .i64 (j : Nat)), .is (.int .i64 (j : Nat)), .is (.bool false), .is (.bool false), .is undef, .is undef, .is undef, .is undef, .is undef, .is undef, .is (.bool false)] (by kernel_rfl) rfl rfl (by kernel_rfl) (by kernel_rfl) (by kernel_rfl) (by kernel_rfl) (by kernel_rfl) (by kernel_rfl) rfl (Below.refl _ _) ?hsteps ?hend
            case hsteps =>
              refine Vals5.Steps.run rfl (Vals5.Stable.is _) ?_ ?_
              · intro a W hS pre old K hK
                have e8 := old 8 _ (by kernel_rfl) rfl
                clear pre old
                simp only [Vals5.fits, Array.getD_eq_getD_getElem?, List.getElem?_toArray, List.getElem?_cons_zero, List.getElem?_cons_succ, Option.getD_some] at e8
                go_simp
                refine hK _ _ hS (Below.refl _ _) ?_
                exact fits_is _ _
              refine Vals5.Steps.run rfl (Vals5.Stable.is _) ?_ ?_
              · intro a W hS pre old K hK
                have e16 := old 16 _ (by kernel_rfl) rfl
                clear pre old
                simp only [Vals5.fits, Array.getD_eq_getD_getElem?, List.getElem?_toArray, List.getElem?_cons_zero, List.getElem?_cons_succ, Option.getD_some] at e16
                go_simp
                refine hK _ _ hS (Below.refl _ _) ?_
                exact fits_is _ _
              refine Vals5.Steps.run rfl (Vals5.Stable.is _) ?_ ?_
              · intro a W hS pre old K hK
                have e135 := pre 0 135 _ (by kernel_rfl) rfl rfl
                have e136 := pre 1 136 _ (by kernel_rfl) rfl rfl
                clear pre old
                simp only [Vals5.fits, Array.getD_eq_getD_getElem?, List.getElem?_toArray, List.getElem?_cons_zero, List.getElem?_cons_succ, Option.getD_some] at e135 e136
                go_simp
                refine hK _ _ hS (Below.refl _ _) ?_
                exact fits_is _ _
              refine Vals5.Steps.run rfl (Vals5.Stable.is _) ?_ ?_
              · intro a W hS pre old K hK
                have e137 := pre 2 137 _ (by kernel_rfl) rfl rfl
                clear pre old
                simp only [Vals5.fits, Array.getD_eq_getD_getElem?, List.getElem?_toArray, List.getElem?_cons_zero, List.getElem?_cons_succ, Option.getD_some] at e137
                have hS9 := hS
                have bw9 : Below wr.heap.size wr W := (Below.drew (Below.refl _ _)).trans (hS9.mono (by first | exact Nat.le_refl _ | (simp; done)))
                have b0 := keep_cell bw9 fB.1
                have b1 := keep_cell bw9 fB.2
                go_simp
                refine hK _ _ hS (Below.refl _ _) ?_
                exact fits_is _ _
              refine Vals5.Steps.run rfl (Vals5.Stable.is _) ?_ ?_
              · intro a W hS pre old K hK
                clear pre old
                go_simp
                refine (share_c 1 1 _).mono ?_
                rintro e w' ⟨rfl, hb'⟩
                refine hK _ _ (hS.trans (hb'.mono hS.size)) hb' ?_
                exact fits_is _ _
              refine Vals5.Steps.run rfl (Vals5.Stable.is _) ?_ ?_
              · intro a W hS pre old K hK
                have e138 := pre 3 138 _ (by kernel_rfl) rfl rfl
                have e139 := pre 4 139 _ (by kernel_rfl) rfl rfl
                clear pre old
                simp only [Vals5.fits, Array.getD_eq_getD_getElem?, List.getElem?_toArray, List.getElem?_cons_zero, List.getElem?_cons_succ, Option.getD_some] at e138 e139
                have hq := eqSh (((1 : Nat)) : Int) (((1 : Nat)) : Int)
                go_simp
                refine hK _ _ hS (Below.refl _ _) ?_
                exact fits_is _ _
              refine Vals5.Steps.run rfl (Vals5.Stable.is _) ?_ ?_
              · intro a W hS pre old K hK
                have e16 := old 16 _ (by kernel_rfl) rfl
                clear pre old
                simp only [Vals5.fits, Array.getD_eq_getD_getElem?, List.getElem?_toArray, List.getElem?_cons_zero, List.getElem?_cons_succ, Option.getD_some] at e16
                go_simp
                refine hK _ _ hS (Below.refl _ _) ?_
                exact fits_is _ _
              refine Vals5.Steps.run rfl (Vals5.Stable.is _) ?_ ?_
              · intro a W hS pre old K hK
                have e4 := old 4 _ (by kernel_rfl) rfl
                clear pre old
                simp only [Vals5.fits, Array.getD_eq_getD_getElem?, List.getElem?_toArray, List.getElem?_cons_zero, List.getElem?_cons_succ, Option.getD_some] at e4
                go_simp
                refine hK _ _ hS (Below.refl _ _) ?_
                exact fits_is _ _
              refine Vals5.Steps.run rfl (Vals5.Stable.is _) ?_ ?_
              · intro a W hS pre old K hK
                have e141 := pre 6 141 _ (by kernel_rfl) rfl rfl
                have e142 := pre 7 142 _ (by kernel_rfl) rfl rfl
                clear pre old
                simp only [Vals5.fits, Array.getD_eq_getD_getElem?, List.getElem?_toArray, List.getElem?_cons_zero, List.getElem?_cons_succ, Option.getD_some] at e141 e142
                go_simp
                refine hK _ _ hS (Below.refl _ _) ?_
                exact fits_is _ _
              refine Vals5.Steps.run rfl (Vals5.Stable.is _) ?_ ?_
              · intro a W hS pre old K hK
                have e140 := pre 5 140 _ (by kernel_rfl) rfl rfl
                have e143 := pre 8 143 _ (by kernel_rfl) rfl rfl
                clear pre old
                simp only [Vals5.fits, Array.getD_eq_getD_getElem?, List.getElem?_toArray, List.getElem?_cons_zero, List.getElem?_cons_succ, Option.getD_some] at e140 e143
                go_simp
                refine hK _ _ hS (Below.refl _ _) ?_
                exact fits_is _ _
              refine Vals5.Steps.run rfl (Vals5.Stable.is _) ?_ ?_
              · intro a W hS pre old K hK
                have e144 := pre 9 144 _ (by kernel_rfl) rfl rfl
                clear pre old
                simp only [Vals5.fits, Array.getD_eq_getD_getElem?, List.getElem?_toArray, List.getElem?_cons_zero, List.getElem?_cons_succ, Option.getD_some] at e144
                go_simp
                refine hK _ _ hS (Below.refl _ _) ?_
                exact fits_is _ _
              refine Vals5.Steps.run rfl (Vals5.Stable.is _) ?_ ?_
              · intro a W hS pre old K hK
                have e16 := old 16 _ (by kernel_rfl) rfl
                clear pre old
                simp only [Vals5.fits, Array.getD_eq_getD_getElem?, List.getElem?_toArray, List.getElem?_cons_zero, List.getElem?_cons_succ, Option.getD_some] at e16
                go_simp
                refine hK _ _ hS (Below.refl _ _) ?_
                exact fits_is _ _
              refine Vals5.Steps.run rfl (Vals5.Stable.is _) ?_ ?_
              · intro a W hS pre old K hK
                have e4 := old 4 _ (by kernel_rfl) rfl
                clear pre old
                simp only [Vals5.fits, Array.getD_eq_getD_getElem?, List.getElem?_toArray, List.getElem?_cons_zero, List.getElem?_cons_succ, Option.getD_some] at e4
                go_simp
                refine hK _ _ hS (Below.refl _ _) ?_
                exact fits_is _ _
              refine Vals5.Steps.run rfl (Vals5.Stable.is _) ?_ ?_
              · intro a W hS pre old K hK
                have e146 := pre 11 146 _ (by kernel_rfl) rfl rfl
                have e147 := pre 12 147 _ (by kernel_rfl) rfl rfl
                clear pre old
                simp only [Vals5.fits, Array.getD_eq_getD_getElem?, List.getElem?_toArray, List.getElem?_cons_zero, List.getElem?_cons_succ, Option.getD_some] at e146 e147
                go_simp
                refine hK _ _ hS (Below.refl _ _) ?_
                exact fits_is _ _
              refine Vals5.Steps.run rfl (Vals5.Stable.is _) ?_ ?_
              · intro a W hS pre old K hK
                have e148 := pre 13 148 _ (by kernel_rfl) rfl rfl
                clear pre old
                simp only [Vals5.fits, Array.getD_eq_getD_getElem?, List.getElem?_toArray, List.getElem?_cons_zero, List.getElem?_cons_succ, Option.getD_some] at e148
                go_simp
                refine hK _ _ hS (Below.refl _ _) ?_
                exact fits_is _ _
              refine Vals5.Steps.skip rfl rfl ?_
              refine Vals5.Steps.skip rfl rfl ?_
              refine Vals5.Steps.skip rfl rfl ?_
              refine Vals5.Steps.skip rfl rfl ?_
              refine Vals5.Steps.skip rfl rfl ?_
              refine Vals5.Steps.skip rfl rfl ?_
              refine Vals5.Steps.run rfl (Vals5.Stable.is _) ?_ ?_
              · intro a W hS pre old K hK
                have e149 := pre 14 149 _ (by kernel_rfl) rfl rfl
                have e155 := pre 20 155 _ (by kernel_rfl) rfl rfl
                clear pre old
                simp only [Vals5.fits, Array.getD_eq_getD_getElem?, List.getElem?_toArray, List.getElem?_cons_zero, List.getElem?_cons_succ, Option.getD_some] at e149 e155
                go_simp
                refine hK _ _ hS (Below.refl _ _) ?_
                exact fits_is _ _
              exact Vals5.Steps.nil
            case hend =>
            rintro X hX
            have hsX := Lib.hid (HS.out.keep (Below.drew (Below.refl _ _)) |>.keep hX)
            simp only [Vals5.All, List.getLast_cons_cons, List.getLast_singleton]
            simp only [Vals.putAll, List.setIfInBounds_toArray, List.set_cons_zero, List.set_cons_succ]
            intro K hK
            go_simp
            refine hK _ _ ?_
            clear hK K
            go_wp2_with fail
            go_roundw
            case rel => exact ⟨j + 1, by omega, by go_num, hsX⟩
            case measure => simp [intOf]; omega
          · rw [if_neg hjb] at eB
            have fB := (HB.out.keep HS.out.1) j _ eB
            have v1_ : ¬ (j : Int) = (bd : Int) := by omega
            have v2_ : ((j : Int) == (bd : Int)) = false := by rw [beq_eq_false_iff_ne]; omega
            have v3_ : ((j : Int) != (bd : Int)) = true := by rw [bne_iff_ne]; omega
            clear eB
            go_wp2_with fail
            clear c0 c1 c2
            refine Vals6.regionAll (fun X => Below wr.drew.heap.size wr.drew X) [some 135, some 136, some 137, some 138, some 139, some 140, some 141, some 142, some 143, some 144, some 145, some 146, some 147, some 148, some 149, some 150, some 151, some 152, some 153, some 154, some 155, some 156] [.is (.slice (some ⟨gB, 0, none⟩) p1 p1), .is (.int .i64 (j : Nat)), .is (.pointer (some ⟨gB, j * 2, none⟩)), .is (.agg (fV (ip ((0, 1) : Nat × Nat)))), .is (.agg (fV (ip ((1, 1) : Nat × Nat)))), .is (.bool false), .is (.int .i64 (j : Nat)), .is (.int .i64 (bd : Nat)), .is (.bool false), .is (.bool false), .is (.bool false), .is (.int .i64 (j : Nat)), .is (.int .i64 (bd : Nat)), .is (.bool true), .is (.bool true), .is (.slice (some ⟨gB, 0, none⟩) p1 p1), .is (.int .i64 (j : Nat)), .is (.pointer (some ⟨gB, j * 2, none⟩)), .is (.agg (fV (ip ((0, 1) : Nat × Nat)))), .is (.agg (fV (ip ((0, 1) : Nat × Nat)))), .is (.bool false), .is (.bool false)] (by kernel_rfl) rfl rfl (by kernel_rfl) (by kernel_rfl) (by kernel_rfl) (by kernel_rfl) (by kernel_rfl) (by kernel_rfl) rfl (Below.refl _ _) ?hsteps ?hend
            case hsteps =>
              refine Vals5.Steps.run rfl (Vals5.Stable.is _) ?_ ?_
              · intro a W hS pre old K hK
                have e8 := old 8 _ (by kernel_rfl) rfl
                clear pre old
                simp only [Vals5.fits, Array.getD_eq_getD_getElem?, List.getElem?_toArray, List.getElem?_cons_zero, List.getElem?_cons_succ, Option.getD_some] at e8
                go_simp
                refine hK _ _ hS (Below.refl _ _) ?_
                exact fits_is _ _
              refine Vals5.Steps.run rfl (Vals5.Stable.is _) ?_ ?_
              · intro a W hS pre old K hK
                have e16 := old 16 _ (by kernel_rfl) rfl
                clear pre old
                simp only [Vals5.fits, Array.getD_eq_getD_getElem?, List.getElem?_toArray, List.getElem?_cons_zero, List.getElem?_cons_succ, Option.getD_some] at e16
                go_simp
                refine hK _ _ hS (Below.refl _ _) ?_
                exact fits_is _ _
              refine Vals5.Steps.run rfl (Vals5.Stable.is _) ?_ ?_
              · intro a W hS pre old K hK
                have e135 := pre 0 135 _ (by kernel_rfl) rfl rfl
                have e136 := pre 1 136 _ (by kernel_rfl) rfl rfl
                clear pre old
                simp only [Vals5.fits, Array.getD_eq_getD_getElem?, List.getElem?_toArray, List.getElem?_cons_zero, List.getElem?_cons_succ, Option.getD_some] at e135 e136
                go_simp
                refine hK _ _ hS (Below.refl _ _) ?_
                exact fits_is _ _
              refine Vals5.Steps.run rfl (Vals5.Stable.is _) ?_ ?_
              · intro a W hS pre old K hK
                have e137 := pre 2 137 _ (by kernel_rfl) rfl rfl
                clear pre old
                simp only [Vals5.fits, Array.getD_eq_getD_getElem?, List.getElem?_toArray, List.getElem?_cons_zero, List.getElem?_cons_succ, Option.getD_some] at e137
                have hS9 := hS
                have bw9 : Below wr.heap.size wr W := (Below.drew (Below.refl _ _)).trans (hS9.mono (by first | exact Nat.le_refl _ | (simp; done)))
                have b0 := keep_cell bw9 fB.1
                have b1 := keep_cell bw9 fB.2
                go_simp
                refine hK _ _ hS (Below.refl _ _) ?_
                exact fits_is _ _
              refine Vals5.Steps.run rfl (Vals5.Stable.is _) ?_ ?_
              · intro a W hS pre old K hK
                clear pre old
                go_simp
                refine (share_c 1 1 _).mono ?_
                rintro e w' ⟨rfl, hb'⟩
                refine hK _ _ (hS.trans (hb'.mono hS.size)) hb' ?_
                exact fits_is _ _
              refine Vals5.Steps.run rfl (Vals5.Stable.is _) ?_ ?_
              · intro a W hS pre old K hK
                have e138 := pre 3 138 _ (by kernel_rfl) rfl rfl
                have e139 := pre 4 139 _ (by kernel_rfl) rfl rfl
                clear pre old
                simp only [Vals5.fits, Array.getD_eq_getD_getElem?, List.getElem?_toArray, List.getElem?_cons_zero, List.getElem?_cons_succ, Option.getD_some] at e138 e139
                have hq := neSh 0 1 1 1 (by omega)
                go_simp
                refine hK _ _ hS (Below.refl _ _) ?_
                exact fits_is _ _
              refine Vals5.Steps.run rfl (Vals5.Stable.is _) ?_ ?_
              · intro a W hS pre old K hK
                have e16 := old 16 _ (by kernel_rfl) rfl
                clear pre old
                simp only [Vals5.fits, Array.getD_eq_getD_getElem?, List.getElem?_toArray, List.getElem?_cons_zero, List.getElem?_cons_succ, Option.getD_some] at e16
                go_simp
                refine hK _ _ hS (Below.refl _ _) ?_
                exact fits_is _ _
              refine Vals5.Steps.run rfl (Vals5.Stable.is _) ?_ ?_
              · intro a W hS pre old K hK
                have e4 := old 4 _ (by kernel_rfl) rfl
                clear pre old
                simp only [Vals5.fits, Array.getD_eq_getD_getElem?, List.getElem?_toArray, List.getElem?_cons_zero, List.getElem?_cons_succ, Option.getD_some] at e4
                go_simp
                refine hK _ _ hS (Below.refl _ _) ?_
                exact fits_is _ _
              refine Vals5.Steps.run rfl (Vals5.Stable.is _) ?_ ?_
              · intro a W hS pre old K hK
                have e141 := pre 6 141 _ (by kernel_rfl) rfl rfl
                have e142 := pre 7 142 _ (by kernel_rfl) rfl rfl
                clear pre old
                simp only [Vals5.fits, Array.getD_eq_getD_getElem?, List.getElem?_toArray, List.getElem?_cons_zero, List.getElem?_cons_succ, Option.getD_some] at e141 e142
                go_simp
                refine hK _ _ hS (Below.refl _ _) ?_
                exact fits_is _ _
              refine Vals5.Steps.run rfl (Vals5.Stable.is _) ?_ ?_
              · intro a W hS pre old K hK
                have e140 := pre 5 140 _ (by kernel_rfl) rfl rfl
                have e143 := pre 8 143 _ (by kernel_rfl) rfl rfl
                clear pre old
                simp only [Vals5.fits, Array.getD_eq_getD_getElem?, List.getElem?_toArray, List.getElem?_cons_zero, List.getElem?_cons_succ, Option.getD_some] at e140 e143
                go_simp
                refine hK _ _ hS (Below.refl _ _) ?_
                exact fits_is _ _
              refine Vals5.Steps.run rfl (Vals5.Stable.is _) ?_ ?_
              · intro a W hS pre old K hK
                have e144 := pre 9 144 _ (by kernel_rfl) rfl rfl
                clear pre old
                simp only [Vals5.fits, Array.getD_eq_getD_getElem?, List.getElem?_toArray, List.getElem?_cons_zero, List.getElem?_cons_succ, Option.getD_some] at e144
                go_simp
                refine hK _ _ hS (Below.refl _ _) ?_
                exact fits_is _ _
              refine Vals5.Steps.run rfl (Vals5.Stable.is _) ?_ ?_
              · intro a W hS pre old K hK
                have e16 := old 16 _ (by kernel_rfl) rfl
                clear pre old
                simp only [Vals5.fits, Array.getD_eq_getD_getElem?, List.getElem?_toArray, List.getElem?_cons_zero, List.getElem?_cons_succ, Option.getD_some] at e16
                go_simp
                refine hK _ _ hS (Below.refl _ _) ?_
                exact fits_is _ _
              refine Vals5.Steps.run rfl (Vals5.Stable.is _) ?_ ?_
              · intro a W hS pre old K hK
                have e4 := old 4 _ (by kernel_rfl) rfl
                clear pre old
                simp only [Vals5.fits, Array.getD_eq_getD_getElem?, List.getElem?_toArray, List.getElem?_cons_zero, List.getElem?_cons_succ, Option.getD_some] at e4
                go_simp
                refine hK _ _ hS (Below.refl _ _) ?_
                exact fits_is _ _
              refine Vals5.Steps.run rfl (Vals5.Stable.is _) ?_ ?_
              · intro a W hS pre old K hK
                have e146 := pre 11 146 _ (by kernel_rfl) rfl rfl
                have e147 := pre 12 147 _ (by kernel_rfl) rfl rfl
                clear pre old
                simp only [Vals5.fits, Array.getD_eq_getD_getElem?, List.getElem?_toArray, List.getElem?_cons_zero, List.getElem?_cons_succ, Option.getD_some] at e146 e147
                go_simp
                refine hK _ _ hS (Below.refl _ _) ?_
                exact fits_is _ _
              refine Vals5.Steps.run rfl (Vals5.Stable.is _) ?_ ?_
              · intro a W hS pre old K hK
                have e148 := pre 13 148 _ (by kernel_rfl) rfl rfl
                clear pre old
                simp only [Vals5.fits, Array.getD_eq_getD_getElem?, List.getElem?_toArray, List.getElem?_cons_zero, List.getElem?_cons_succ, Option.getD_some] at e148
                go_simp
                refine hK _ _ hS (Below.refl _ _) ?_
                exact fits_is _ _
              refine Vals5.Steps.run rfl (Vals5.Stable.is _) ?_ ?_
              · intro a W hS pre old K hK
                have e8 := old 8 _ (by kernel_rfl) rfl
                clear pre old
                simp only [Vals5.fits, Array.getD_eq_getD_getElem?, List.getElem?_toArray, List.getElem?_cons_zero, List.getElem?_cons_succ, Option.getD_some] at e8
                go_simp
                refine hK _ _ hS (Below.refl _ _) ?_
                exact fits_is _ _
              refine Vals5.Steps.run rfl (Vals5.Stable.is _) ?_ ?_
              · intro a W hS pre old K hK
                have e16 := old 16 _ (by kernel_rfl) rfl
                clear pre old
                simp only [Vals5.fits, Array.getD_eq_getD_getElem?, List.getElem?_toArray, List.getElem?_cons_zero, List.getElem?_cons_succ, Option.getD_some] at e16
                go_simp
                refine hK _ _ hS (Below.refl _ _) ?_
                exact fits_is _ _
              refine Vals5.Steps.run rfl (Vals5.Stable.is _) ?_ ?_
              · intro a W hS pre old K hK
                have e150 := pre 15 150 _ (by kernel_rfl) rfl rfl
                have e151 := pre 16 151 _ (by kernel_rfl) rfl rfl
                clear pre old
                simp only [Vals5.fits, Array.getD_eq_getD_getElem?, List.getElem?_toArray, List.getElem?_cons_zero, List.getElem?_cons_succ, Option.getD_some] at e150 e151
                go_simp
                refine hK _ _ hS (Below.refl _ _) ?_
                exact fits_is _ _
              refine Vals5.Steps.run rfl (Vals5.Stable.is _) ?_ ?_
              · intro a W hS pre old K hK
                have e152 := pre 17 152 _ (by kernel_rfl) rfl rfl
                clear pre old
                simp only [Vals5.fits, Array.getD_eq_getD_getElem?, List.getElem?_toArray, List.getElem?_cons_zero, List.getElem?_cons_succ, Option.getD_some] at e152
                have hS9 := hS
                have bw9 : Below wr.heap.size wr W := (Below.drew (Below.refl _ _)).trans (hS9.mono (by first | exact Nat.le_refl _ | (simp; done)))
                have b0 := keep_cell bw9 fB.1
                have b1 := keep_cell bw9 fB.2
                go_simp
                refine hK _ _ hS (Below.refl _ _) ?_
                exact fits_is _ _
              refine Vals5.Steps.run rfl (Vals5.Stable.is _) ?_ ?_
              · intro a W hS pre old K hK
                clear pre old
                go_simp
                refine (share_c 0 1 _).mono ?_
                rintro e w' ⟨rfl, hb'⟩
                refine hK _ _ (hS.trans (hb'.mono hS.size)) hb' ?_
                exact fits_is _ _
              refine Vals5.Steps.run rfl (Vals5.Stable.is _) ?_ ?_
              · intro a W hS pre old K hK
                have e153 := pre 18 153 _ (by kernel_rfl) rfl rfl
                have e154 := pre 19 154 _ (by kernel_rfl) rfl rfl
                clear pre old
                simp only [Vals5.fits, Array.getD_eq_getD_getElem?, List.getElem?_toArray, List.getElem?_cons_zero, List.getElem?_cons_succ, Option.getD_some] at e153 e154
                have hq := eqSh (((0 : Nat)) : Int) (((1 : Nat)) : Int)
                go_simp
                refine hK _ _ hS (Below.refl _ _) ?_
                exact fits_is _ _
              refine Vals5.Steps.run rfl (Vals5.Stable.is _) ?_ ?_
              · intro a W hS pre old K hK
                have e149 := pre 14 149 _ (by kernel_rfl) rfl rfl
                have e155 := pre 20 155 _ (by kernel_rfl) rfl rfl
                clear pre old
                simp only [Vals5.fits, Array.getD_eq_getD_getElem?, List.getElem?_toArray, List.getElem?_cons_zero, List.getElem?_cons_succ, Option.getD_some] at e149 e155
                go_simp
                refine hK _ _ hS (Below.refl _ _) ?_
                exact fits_is _ _
              exact Vals5.Steps.nil
            case hend =>
            rintro X hX
            have hsX := Lib.hid (HS.out.keep (Below.drew (Below.refl _ _)) |>.keep hX)
            simp only [Vals5.All, List.getLast_cons_cons, List.getLast_singleton]
            simp only [Vals.putAll, List.setIfInBounds_toArray, List.set_cons_zero, List.set_cons_succ]
            intro K hK
            go_simp
            refine hK _ _ ?_
            clear hK K
            go_wp2_with fail
            go_roundw
            case rel => exact ⟨j + 1, by omega, by go_num, hsX⟩
            case measure => simp [intOf]; omega
        · have r1 : ¬ (j : Int) ≤ (P : Int) := by omega
          have r1' : ¬ j ≤ P := by omega
          obtain ⟨yp, hyp⟩ : ∃ m, y * P = m := ⟨_, rfl⟩
          obtain ⟨sb, hsb⟩ : ∃ m, sm * bd = m := ⟨_, rfl⟩
          have hsb2 : sb * x = yp := by rw [← hyp, HYP.out, hsb]
          have byp : yp ≤ 20 * 184756 * 20 := by rw [← hyp]; exact Nat.mul_le_mul (by omega) hP1.2
          have bsb : sb ≤ 20 * 20 := by rw [← hsb]; exact Nat.mul_le_mul (by omega) (by omega)
          have o1 : IntKind.i64.wrap ((y : Int) * (P : Int)) = (yp : Int) := by rw [← Int.natCast_mul, hyp, wrapI (by unfold I64; omega)]
          have o2 : IntKind.i64.wrap ((sm : Int) * (bd : Int)) = (sb : Int) := by rw [← Int.natCast_mul, hsb, wrapI (by unfold I64; omega)]
          have o3 : IntKind.i64.wrap ((sb : Int) * (x : Int)) = (yp : Int) := by rw [← Int.natCast_mul, hsb2, wrapI (by unfold I64; omega)]
          clear hyp hsb hsb2 HYP byp bsb
          go_wp2_with fail
          refine (awake_c _).mono ?_
          rintro e v5 ⟨rfl, hb⟩
          have hse := (hsw.out.keep HS.out.1).keep hb
          clear hb
          go_wp2_with fail
          go_ret
          exact ⟨rfl, hse.1⟩
end Td
end Go.Proofs.Ytgkdidnmndmlhaa
