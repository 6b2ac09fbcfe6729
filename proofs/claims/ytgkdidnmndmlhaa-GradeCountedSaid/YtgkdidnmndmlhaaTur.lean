import Derived.Test.YtgkdidnmndmlhaaMathG
import Derived.Test.YtgkdidnmndmlhaaHea
import Derived.Test.YtgkdidnmndmlhaaRefA
import Derived.Test.YtgkdidnmndmlhaaAwk
/- The law GradeTurned: what it returns. -/
namespace Go.Proofs.Ytgkdidnmndmlhaa
open Go.RowKit
namespace Td
set_option linter.unusedSimpArgs false
set_option linter.unusedVariables false
attribute [local go_sem] Oper.semAt_some
theorem shows0 (P d n N : Nat) (w : World) (h1 : 1 ≤ P) (h2 : P ≤ 20) (hd : d ≤ P) (hn : n ≤ P) (hN : n + 1 = N) :
    Calls Try.prog 21 #[.agg (gV P 0 P), .int .i64 d, .int .i64 n] w fun e w' => (∃ g, e = .returned (.tuple #[.slice (some ⟨g, 0, none⟩) N N, .int .i64 0]) ∧ FrB w' g (shwL P d n)) ∧ Below w.heap.size w w' := by
  subst hN
  have hc : chkE P 0 P = 0 := chkE_ok.2 ⟨by omega, by omega, by omega, by omega, by omega⟩
  have he : shwE P 0 P d n = 0 := by
    unfold shwE
    rw [if_pos hc, if_pos ⟨wi_iff.2 (by omega), wi_iff.2 (by omega)⟩]
  refine (Shows_c P 0 P d n w).mono ?_
  rintro e w' ⟨hb, ⟨-, g, e1, -, hB⟩ | ⟨h, -⟩⟩
  · simp only [Int.toNat_natCast] at e1 hB
    exact ⟨⟨g, e1, FrB.of hB⟩, hb⟩
  · exact absurd he h
set_option maxRecDepth 100000 in
set_option maxHeartbeats 8000000 in
theorem gradeTurned_c (xa xb xc : Nat) (w : World) (ha : xa ≤ 255) (hb0 : xb ≤ 255) (hc0 : xc ≤ 255) :
    Calls Try.prog 10 #[.agg #[.int .u8 xa, .int .u8 xb, .int .u8 xc]] w fun e w' => e = .returned (.bool true) ∧ Below w.heap.size w w' := by
  have hs := (Since.refl w).alloc (.cells #[.int .u8 xa, .int .u8 xb, .int .u8 xc] 58)
  have HX := Lib.hid (Blk.new w 58 #[.int .u8 xa, .int .u8 xb, .int .u8 xc])
  have d0 := HX.out.cell 0
  have d1 := HX.out.cell 1
  have d2 := HX.out.cell 2
  simp only [List.getElem?_toArray, List.getElem?_cons_zero, List.getElem?_cons_succ] at d0 d1 d2
  have HH : Hid (∀ W, Calls Try.prog 40 #[.agg #[.int .u8 xa, .int .u8 xb, .int .u8 xc], .int .i64 20] W _) := fun W => heap_c xa xb xc 20 W ha hb0 hc0 (by omega) (by omega)
  obtain ⟨P, hP⟩ : ∃ P, 1 + xa % 20 = P := ⟨_, rfl⟩
  rw [hP] at HH
  obtain ⟨bd, hbd⟩ : ∃ r, xb % (P + 1) = r := ⟨_, rfl⟩
  obtain ⟨sm, hsm⟩ : ∃ r, xc % (P + 1) = r := ⟨_, rfl⟩
  rw [hbd, hsm] at HH
  have hP1 : 1 ≤ P ∧ P ≤ 20 := by have := Nat.mod_lt xa (show 0 < 20 by omega); omega
  have hbP : bd ≤ P := by have := Nat.mod_lt xb (show 0 < P + 1 by omega); omega
  have hsP : sm ≤ P := by have := Nat.mod_lt xc (show 0 < P + 1 by omega); omega
  obtain ⟨n1, hn1⟩ : ∃ m, sm + 1 = m := ⟨_, rfl⟩
  obtain ⟨m1, hm1⟩ : ∃ m, bd + 1 = m := ⟨_, rfl⟩
  obtain ⟨gd, hgd⟩ : ∃ m, P - bd = m := ⟨_, rfl⟩
  have t1 : IntKind.i64.wrap ((sm : Int) + 1) = (n1 : Int) := by rw [wrapI (by unfold I64; omega)]; omega
  have t2 : IntKind.i64.wrap ((bd : Int) + 1) = (m1 : Int) := by rw [wrapI (by unfold I64; omega)]; omega
  have t3 : IntKind.i64.wrap ((P : Int) - (bd : Int)) = (gd : Int) := by rw [wrapI (by unfold I64; omega)]; omega
  have HSA := Lib.hid (fun W => shows0 P bd sm n1 W hP1.1 hP1.2 hbP hsP hn1)
  have HSB := Lib.hid (fun W => shows0 P sm bd m1 W hP1.1 hP1.2 hsP hbP hm1)
  have HSC := Lib.hid (fun W => shows0 P gd sm n1 W hP1.1 hP1.2 (by omega) hsP hn1)
  have HEL : Hid (∀ k, k ≤ sm → ∃ s : Nat × Nat, (shwL P bd sm)[k]? = some s ∧ (k ≤ bd → (shwL P sm bd)[k]? = some s) ∧ (bd < k → s = (0, 1)) ∧ (shwL P gd sm)[sm - k]? = some s) := fun k hk => by
    refine ⟨_, shwL_get hk, fun h => ?_, fun h => ?_, ?_⟩
    · rw [shwL_get h, turned_shr hbP hsP h hk]
    · rw [sh_none (.inl h), shr_zero (bn_pos hsP)]
    · rw [shwL_get (Nat.sub_le _ _), ← hgd, good_sh hbP hk]
  clear hP hbd hsm hgd ha hb0 hc0
  go_enter Try.func10, Try.ntmps10
  go_wp2_with fail
  refine (HH.out _).mono ?_
  rintro e v1 ⟨rfl, hb⟩
  replace hs := (hs.keep hb).alloc (.cells #[.int .i64 P, .int .i64 0, .int .i64 P] 25)
  have HG := Lib.hid (Blk.new v1 25 (gV P 0 P))
  clear hb d0 d1 d2 HX
  obtain ⟨c0, c1, c2⟩ := HG.out.gcells
  obtain ⟨gh, hgh⟩ : ∃ k, v1.heap.size = k := ⟨_, rfl⟩
  go_wp2_with fail
  rw [hgh] at HG
  refine (HSA.out _).mono ?_
  rintro e v2 ⟨⟨gA, rfl, hF⟩, hb⟩
  replace hs := hs.keep hb
  replace HG := Lib.hid (HG.out.keep hb)
  have HA := Lib.hid hF
  clear hb hF c0 c1 c2
  obtain ⟨c0, c1, c2⟩ := HG.out.gcells
  go_wp2_with fail
  clear hgh
  refine (HSB.out _).mono ?_
  rintro e v3 ⟨⟨gB, rfl, hF⟩, hb⟩
  replace hs := hs.keep hb
  replace HG := Lib.hid (HG.out.keep hb)
  replace HA := Lib.hid (HA.out.keep hb)
  have HB := Lib.hid hF
  clear hb hF c0 c1 c2
  obtain ⟨c0, c1, c2⟩ := HG.out.gcells
  go_wp2_with fail
  refine (HSC.out _).mono ?_
  rintro e v4 ⟨⟨gC, rfl, hF⟩, hb⟩
  replace hs := hs.keep hb
  replace HA := Lib.hid (HA.out.keep hb)
  replace HB := Lib.hid (HB.out.keep hb)
  have HC := Lib.hid hF
  clear hb hF c0 c1 c2 HG HSA HSB HSC HH
  have HS0 := Lib.hid (Since.refl v4)
  have hsw := Lib.hid hs
  clear hs
  go_wp2_with fail
  go_loopw [12] (fun i wr => ∃ k : Nat, k ≤ n1 ∧ i = .int .i64 k ∧ Hid (Since v4 wr)) (fun i _ => n1 - (intOf i).toNat)
  case atStart => exact ⟨0, by omega, rfl, HS0⟩
  case round =>
    obtain ⟨k, hk, rfl, HS⟩ := hrel
    by_cases hlt : k < n1
    · have q1 : (k : Int) ≤ (sm : Int) := by omega
      have q1' : k ≤ sm := by omega
      obtain ⟨s, eA, eB, e0, eC⟩ := HEL.out k q1'
      have fA := (HA.out.keep HS.out.1) k s eA
      have fC := (HC.out.keep HS.out.1) (sm - k) s eC
      have w1 : IntKind.i64.wrap ((sm : Int) - (k : Int)) = ((sm - k : Nat) : Int) := by rw [wrapI (by unfold I64; omega)]; omega
      have w2 : IntKind.i64.wrap ((k : Int) + 1) = ((k + 1 : Nat) : Int) := by rw [wrapI (by unfold I64; omega)]; omega
      obtain ⟨r, hr⟩ : ∃ r, sm - k = r := ⟨_, rfl⟩
      rw [hr] at w1 fC
      have l1 : k < n1 := hlt
      have l2 : (k : Int) < (n1 : Int) := by omega
      have l3 : r < n1 := by omega
      have l4 : (r : Int) < (n1 : Int) := by omega
      clear eA eC hr
      by_cases hkb : k ≤ bd
      · have q2 : (k : Int) ≤ (bd : Int) := by omega
        have q3 : ¬ (bd : Int) < (k : Int) := by omega
        have q3n : ¬ bd < k := by omega
        have l5 : k < m1 := by omega
        have l6 : (k : Int) < (m1 : Int) := by omega
        have fB := (HB.out.keep HS.out.1) k s (eB hkb)
        clear eB e0
        go_wp2_with fail
        refine Vals6.regionAll (fun X => Below wr.drew.heap.size wr.drew X) [some 79, some 80, some 81, some 82, some 83, some 84, some 85, some 86, some 87, some 88, some 89, some 90, some 91, some 92, some 93, some 94, some 95, some 96, some 97, some 98, some 99, some 100, some 101, some 102, some 103, some 104, some 105, some 106, some 107, some 108, some 109, some 110, some 111, some 112, some 113, some 114, some 115, some 116, some 117] [.is (.int .i64 (k : Nat)), .is (.int .i64 (bd : Nat)), .is (.bool true), .is (.bool true), .is (.slice (some ⟨gA, 0, none⟩) n1 n1), .is (.int .i64 (k : Nat)), .is (.pointer (some ⟨gA, k * 2, none⟩)), .is (.agg (fV (ip s))), .is (.slice (some ⟨gB, 0, none⟩) m1 m1), .is (.int .i64 (k : Nat)), .is (.pointer (some ⟨gB, k * 2, none⟩)), .is (.agg (fV (ip s))), .is (.bool false), .is (.bool false), .is (.bool false), .is (.int .i64 (k : Nat)), .is (.int .i64 (bd : Nat)), .is (.bool false), .is (.bool false), .is undef, .is undef, .is undef, .is undef, .is undef, .is undef, .is (.bool false), .is (.bool false), .is (.bool false), .is (.slice (some ⟨gA, 0, none⟩) n1 n1), .is (.int .i64 (k : Nat)), .is (.pointer (some ⟨gA, k * 2, none⟩)), .is (.agg (fV (ip s))), .is (.slice (some ⟨gC, 0, none⟩) n1 n1), .is (.int .i64 (sm : Nat)), .is (.int .i64 (k : Nat)), .is (.int .i64 (r : Nat)), .is (.pointer (some ⟨gC, r * 2, none⟩)), .is (.agg (fV (ip s))), .is (.bool false)] (by kernel_rfl) rfl rfl (by kernel_rfl) (by kernel_rfl) (by kernel_rfl) (by kernel_rfl) (by kernel_rfl) (by kernel_rfl) rfl (Below.refl _ _) ?hsteps ?hend
        case hsteps =>
          refine Vals5.Steps.run rfl (Vals5.Stable.is _) ?_ ?_
          · intro a W hS pre old K hK
            have e12 := old 12 _ (by kernel_rfl) rfl
            clear pre old
            simp only [Vals5.fits, Array.getD_eq_getD_getElem?, List.getElem?_toArray, List.getElem?_cons_zero, List.getElem?_cons_succ, Option.getD_some] at e12
            go_simp
            refine hK _ _ hS (Below.refl _ _) ?_
            exact fits_is _ _
          refine Vals5.Steps.run rfl (Vals5.Stable.is _) ?_ ?_
          · intro a W hS pre old K hK
            have e4 := old 4 _ (by kernel_rfl) rfl
            clear pre old
            simp only [Vals5.fits, Array.getD_eq_getD_getElem?, List.getElem?_toArray, List.getElem?_cons_zero, List.getElem?_cons_succ, Option.getD_some] at e4
            go_simp
            refine hK _ _ hS (Below.refl _ _) ?_
            exact fits_is _ _
          refine Vals5.Steps.run rfl (Vals5.Stable.is _) ?_ ?_
          · intro a W hS pre old K hK
            have e79 := pre 0 79 _ (by kernel_rfl) rfl rfl
            have e80 := pre 1 80 _ (by kernel_rfl) rfl rfl
            clear pre old
            simp only [Vals5.fits, Array.getD_eq_getD_getElem?, List.getElem?_toArray, List.getElem?_cons_zero, List.getElem?_cons_succ, Option.getD_some] at e79 e80
            go_simp
            refine hK _ _ hS (Below.refl _ _) ?_
            exact fits_is _ _
          refine Vals5.Steps.run rfl (Vals5.Stable.is _) ?_ ?_
          · intro a W hS pre old K hK
            have e81 := pre 2 81 _ (by kernel_rfl) rfl rfl
            clear pre old
            simp only [Vals5.fits, Array.getD_eq_getD_getElem?, List.getElem?_toArray, List.getElem?_cons_zero, List.getElem?_cons_succ, Option.getD_some] at e81
            go_simp
            refine hK _ _ hS (Below.refl _ _) ?_
            exact fits_is _ _
          refine Vals5.Steps.run rfl (Vals5.Stable.is _) ?_ ?_
          · intro a W hS pre old K hK
            have e6 := old 6 _ (by kernel_rfl) rfl
            clear pre old
            simp only [Vals5.fits, Array.getD_eq_getD_getElem?, List.getElem?_toArray, List.getElem?_cons_zero, List.getElem?_cons_succ, Option.getD_some] at e6
            go_simp
            refine hK _ _ hS (Below.refl _ _) ?_
            exact fits_is _ _
          refine Vals5.Steps.run rfl (Vals5.Stable.is _) ?_ ?_
          · intro a W hS pre old K hK
            have e12 := old 12 _ (by kernel_rfl) rfl
            clear pre old
            simp only [Vals5.fits, Array.getD_eq_getD_getElem?, List.getElem?_toArray, List.getElem?_cons_zero, List.getElem?_cons_succ, Option.getD_some] at e12
            go_simp
            refine hK _ _ hS (Below.refl _ _) ?_
            exact fits_is _ _
          refine Vals5.Steps.run rfl (Vals5.Stable.is _) ?_ ?_
          · intro a W hS pre old K hK
            have e83 := pre 4 83 _ (by kernel_rfl) rfl rfl
            have e84 := pre 5 84 _ (by kernel_rfl) rfl rfl
            clear pre old
            simp only [Vals5.fits, Array.getD_eq_getD_getElem?, List.getElem?_toArray, List.getElem?_cons_zero, List.getElem?_cons_succ, Option.getD_some] at e83 e84
            go_simp
            refine hK _ _ hS (Below.refl _ _) ?_
            exact fits_is _ _
          refine Vals5.Steps.run rfl (Vals5.Stable.is _) ?_ ?_
          · intro a W hS pre old K hK
            have e85 := pre 6 85 _ (by kernel_rfl) rfl rfl
            clear pre old
            simp only [Vals5.fits, Array.getD_eq_getD_getElem?, List.getElem?_toArray, List.getElem?_cons_zero, List.getElem?_cons_succ, Option.getD_some] at e85
            have hS9 := hS
            have bw9 : Below wr.heap.size wr W := (Below.drew (Below.refl _ _)).trans (hS9.mono (by first | exact Nat.le_refl _ | (simp; done)))
            have a0 := keep_cell bw9 fA.1
            have a1 := keep_cell bw9 fA.2
            have b0 := keep_cell bw9 fC.1
            have b1 := keep_cell bw9 fC.2
            have m0 := keep_cell bw9 fB.1
            have m1 := keep_cell bw9 fB.2
            go_simp
            refine hK _ _ hS (Below.refl _ _) ?_
            exact fits_is _ _
          refine Vals5.Steps.run rfl (Vals5.Stable.is _) ?_ ?_
          · intro a W hS pre old K hK
            have e8 := old 8 _ (by kernel_rfl) rfl
            clear pre old
            simp only [Vals5.fits, Array.getD_eq_getD_getElem?, List.getElem?_toArray, List.getElem?_cons_zero, List.getElem?_cons_succ, Option.getD_some] at e8
            go_simp
            refine hK _ _ hS (Below.refl _ _) ?_
            exact fits_is _ _
          refine Vals5.Steps.run rfl (Vals5.Stable.is _) ?_ ?_
          · intro a W hS pre old K hK
            have e12 := old 12 _ (by kernel_rfl) rfl
            clear pre old
            simp only [Vals5.fits, Array.getD_eq_getD_getElem?, List.getElem?_toArray, List.getElem?_cons_zero, List.getElem?_cons_succ, Option.getD_some] at e12
            go_simp
            refine hK _ _ hS (Below.refl _ _) ?_
            exact fits_is _ _
          refine Vals5.Steps.run rfl (Vals5.Stable.is _) ?_ ?_
          · intro a W hS pre old K hK
            have e87 := pre 8 87 _ (by kernel_rfl) rfl rfl
            have e88 := pre 9 88 _ (by kernel_rfl) rfl rfl
            clear pre old
            simp only [Vals5.fits, Array.getD_eq_getD_getElem?, List.getElem?_toArray, List.getElem?_cons_zero, List.getElem?_cons_succ, Option.getD_some] at e87 e88
            go_simp
            refine hK _ _ hS (Below.refl _ _) ?_
            exact fits_is _ _
          refine Vals5.Steps.run rfl (Vals5.Stable.is _) ?_ ?_
          · intro a W hS pre old K hK
            have e89 := pre 10 89 _ (by kernel_rfl) rfl rfl
            clear pre old
            simp only [Vals5.fits, Array.getD_eq_getD_getElem?, List.getElem?_toArray, List.getElem?_cons_zero, List.getElem?_cons_succ, Option.getD_some] at e89
            have hS9 := hS
            have bw9 : Below wr.heap.size wr W := (Below.drew (Below.refl _ _)).trans (hS9.mono (by first | exact Nat.le_refl _ | (simp; done)))
            have a0 := keep_cell bw9 fA.1
            have a1 := keep_cell bw9 fA.2
            have b0 := keep_cell bw9 fC.1
            have b1 := keep_cell bw9 fC.2
            have m0 := keep_cell bw9 fB.1
            have m1 := keep_cell bw9 fB.2
            go_simp
            refine hK _ _ hS (Below.refl _ _) ?_
            exact fits_is _ _
          refine Vals5.Steps.run rfl (Vals5.Stable.is _) ?_ ?_
          · intro a W hS pre old K hK
            have e86 := pre 7 86 _ (by kernel_rfl) rfl rfl
            have e90 := pre 11 90 _ (by kernel_rfl) rfl rfl
            clear pre old
            simp only [Vals5.fits, Array.getD_eq_getD_getElem?, List.getElem?_toArray, List.getElem?_cons_zero, List.getElem?_cons_succ, Option.getD_some] at e86 e90
            have hq := eqSh ((s).1 : Nat) ((s).2 : Nat)
            go_simp
            refine hK _ _ hS (Below.refl _ _) ?_
            exact fits_is _ _
          refine Vals5.Steps.run rfl (Vals5.Stable.is _) ?_ ?_
          · intro a W hS pre old K hK
            have e82 := pre 3 82 _ (by kernel_rfl) rfl rfl
            have e91 := pre 12 91 _ (by kernel_rfl) rfl rfl
            clear pre old
            simp only [Vals5.fits, Array.getD_eq_getD_getElem?, List.getElem?_toArray, List.getElem?_cons_zero, List.getElem?_cons_succ, Option.getD_some] at e82 e91
            go_simp
            refine hK _ _ hS (Below.refl _ _) ?_
            exact fits_is _ _
          refine Vals5.Steps.run rfl (Vals5.Stable.is _) ?_ ?_
          · intro a W hS pre old K hK
            have e92 := pre 13 92 _ (by kernel_rfl) rfl rfl
            clear pre old
            simp only [Vals5.fits, Array.getD_eq_getD_getElem?, List.getElem?_toArray, List.getElem?_cons_zero, List.getElem?_cons_succ, Option.getD_some] at e92
            go_simp
            refine hK _ _ hS (Below.refl _ _) ?_
            exact fits_is _ _
          refine Vals5.Steps.run rfl (Vals5.Stable.is _) ?_ ?_
          · intro a W hS pre old K hK
            have e12 := old 12 _ (by kernel_rfl) rfl
            clear pre old
            simp only [Vals5.fits, Array.getD_eq_getD_getElem?, List.getElem?_toArray, List.getElem?_cons_zero, List.getElem?_cons_succ, Option.getD_some] at e12
            go_simp
            refine hK _ _ hS (Below.refl _ _) ?_
            exact fits_is _ _
          refine Vals5.Steps.run rfl (Vals5.Stable.is _) ?_ ?_
          · intro a W hS pre old K hK
            have e4 := old 4 _ (by kernel_rfl) rfl
            clear pre old
            simp only [Vals5.fits, Array.getD_eq_getD_getElem?, List.getElem?_toArray, List.getElem?_cons_zero, List.getElem?_cons_succ, Option.getD_some] at e4
            go_simp
            refine hK _ _ hS (Below.refl _ _) ?_
            exact fits_is _ _
          refine Vals5.Steps.run rfl (Vals5.Stable.is _) ?_ ?_
          · intro a W hS pre old K hK
            have e94 := pre 15 94 _ (by kernel_rfl) rfl rfl
            have e95 := pre 16 95 _ (by kernel_rfl) rfl rfl
            clear pre old
            simp only [Vals5.fits, Array.getD_eq_getD_getElem?, List.getElem?_toArray, List.getElem?_cons_zero, List.getElem?_cons_succ, Option.getD_some] at e94 e95
            go_simp
            refine hK _ _ hS (Below.refl _ _) ?_
            exact fits_is _ _
          refine Vals5.Steps.run rfl (Vals5.Stable.is _) ?_ ?_
          · intro a W hS pre old K hK
            have e96 := pre 17 96 _ (by kernel_rfl) rfl rfl
            clear pre old
            simp only [Vals5.fits, Array.getD_eq_getD_getElem?, List.getElem?_toArray, List.getElem?_cons_zero, List.getElem?_cons_succ, Option.getD_some] at e96
            go_simp
            refine hK _ _ hS (Below.refl _ _) ?_
            exact fits_is _ _
          refine Vals5.Steps.skip rfl rfl ?_
          refine Vals5.Steps.skip rfl rfl ?_
          refine Vals5.Steps.skip rfl rfl ?_
          refine Vals5.Steps.skip rfl rfl ?_
          refine Vals5.Steps.skip rfl rfl ?_
          refine Vals5.Steps.skip rfl rfl ?_
          refine Vals5.Steps.run rfl (Vals5.Stable.is _) ?_ ?_
          · intro a W hS pre old K hK
            have e97 := pre 18 97 _ (by kernel_rfl) rfl rfl
            have e103 := pre 24 103 _ (by kernel_rfl) rfl rfl
            clear pre old
            simp only [Vals5.fits, Array.getD_eq_getD_getElem?, List.getElem?_toArray, List.getElem?_cons_zero, List.getElem?_cons_succ, Option.getD_some] at e97 e103
            go_simp
            refine hK _ _ hS (Below.refl _ _) ?_
            exact fits_is _ _
          refine Vals5.Steps.run rfl (Vals5.Stable.is _) ?_ ?_
          · intro a W hS pre old K hK
            have e93 := pre 14 93 _ (by kernel_rfl) rfl rfl
            have e104 := pre 25 104 _ (by kernel_rfl) rfl rfl
            clear pre old
            simp only [Vals5.fits, Array.getD_eq_getD_getElem?, List.getElem?_toArray, List.getElem?_cons_zero, List.getElem?_cons_succ, Option.getD_some] at e93 e104
            go_simp
            refine hK _ _ hS (Below.refl _ _) ?_
            exact fits_is _ _
          refine Vals5.Steps.run rfl (Vals5.Stable.is _) ?_ ?_
          · intro a W hS pre old K hK
            have e105 := pre 26 105 _ (by kernel_rfl) rfl rfl
            clear pre old
            simp only [Vals5.fits, Array.getD_eq_getD_getElem?, List.getElem?_toArray, List.getElem?_cons_zero, List.getElem?_cons_succ, Option.getD_some] at e105
            go_simp
            refine hK _ _ hS (Below.refl _ _) ?_
            exact fits_is _ _
          refine Vals5.Steps.run rfl (Vals5.Stable.is _) ?_ ?_
          · intro a W hS pre old K hK
            have e6 := old 6 _ (by kernel_rfl) rfl
            clear pre old
            simp only [Vals5.fits, Array.getD_eq_getD_getElem?, List.getElem?_toArray, List.getElem?_cons_zero, List.getElem?_cons_succ, Option.getD_some] at e6
            go_simp
            refine hK _ _ hS (Below.refl _ _) ?_
            exact fits_is _ _
          refine Vals5.Steps.run rfl (Vals5.Stable.is _) ?_ ?_
          · intro a W hS pre old K hK
            have e12 := old 12 _ (by kernel_rfl) rfl
            clear pre old
            simp only [Vals5.fits, Array.getD_eq_getD_getElem?, List.getElem?_toArray, List.getElem?_cons_zero, List.getElem?_cons_succ, Option.getD_some] at e12
            go_simp
            refine hK _ _ hS (Below.refl _ _) ?_
            exact fits_is _ _
          refine Vals5.Steps.run rfl (Vals5.Stable.is _) ?_ ?_
          · intro a W hS pre old K hK
            have e107 := pre 28 107 _ (by kernel_rfl) rfl rfl
            have e108 := pre 29 108 _ (by kernel_rfl) rfl rfl
            clear pre old
            simp only [Vals5.fits, Array.getD_eq_getD_getElem?, List.getElem?_toArray, List.getElem?_cons_zero, List.getElem?_cons_succ, Option.getD_some] at e107 e108
            go_simp
            refine hK _ _ hS (Below.refl _ _) ?_
            exact fits_is _ _
          refine Vals5.Steps.run rfl (Vals5.Stable.is _) ?_ ?_
          · intro a W hS pre old K hK
            have e109 := pre 30 109 _ (by kernel_rfl) rfl rfl
            clear pre old
            simp only [Vals5.fits, Array.getD_eq_getD_getElem?, List.getElem?_toArray, List.getElem?_cons_zero, List.getElem?_cons_succ, Option.getD_some] at e109
            have hS9 := hS
            have bw9 : Below wr.heap.size wr W := (Below.drew (Below.refl _ _)).trans (hS9.mono (by first | exact Nat.le_refl _ | (simp; done)))
            have a0 := keep_cell bw9 fA.1
            have a1 := keep_cell bw9 fA.2
            have b0 := keep_cell bw9 fC.1
            have b1 := keep_cell bw9 fC.2
            have m0 := keep_cell bw9 fB.1
            have m1 := keep_cell bw9 fB.2
            go_simp
            refine hK _ _ hS (Below.refl _ _) ?_
            exact fits_is _ _
          refine Vals5.Steps.run rfl (Vals5.Stable.is _) ?_ ?_
          · intro a W hS pre old K hK
            have e10 := old 10 _ (by kernel_rfl) rfl
            clear pre old
            simp only [Vals5.fits, Array.getD_eq_getD_getElem?, List.getElem?_toArray, List.getElem?_cons_zero, List.getElem?_cons_succ, Option.getD_some] at e10
            go_simp
            refine hK _ _ hS (Below.refl _ _) ?_
            exact fits_is _ _
          refine Vals5.Steps.run rfl (Vals5.Stable.is _) ?_ ?_
          · intro a W hS pre old K hK
            have e5 := old 5 _ (by kernel_rfl) rfl
            clear pre old
            simp only [Vals5.fits, Array.getD_eq_getD_getElem?, List.getElem?_toArray, List.getElem?_cons_zero, List.getElem?_cons_succ, Option.getD_some] at e5
            go_simp
            refine hK _ _ hS (Below.refl _ _) ?_
            exact fits_is _ _
          refine Vals5.Steps.run rfl (Vals5.Stable.is _) ?_ ?_
          · intro a W hS pre old K hK
            have e12 := old 12 _ (by kernel_rfl) rfl
            clear pre old
            simp only [Vals5.fits, Array.getD_eq_getD_getElem?, List.getElem?_toArray, List.getElem?_cons_zero, List.getElem?_cons_succ, Option.getD_some] at e12
            go_simp
            refine hK _ _ hS (Below.refl _ _) ?_
            exact fits_is _ _
          refine Vals5.Steps.run rfl (Vals5.Stable.is _) ?_ ?_
          · intro a W hS pre old K hK
            have e112 := pre 33 112 _ (by kernel_rfl) rfl rfl
            have e113 := pre 34 113 _ (by kernel_rfl) rfl rfl
            clear pre old
            simp only [Vals5.fits, Array.getD_eq_getD_getElem?, List.getElem?_toArray, List.getElem?_cons_zero, List.getElem?_cons_succ, Option.getD_some] at e112 e113
            go_simp
            refine hK _ _ hS (Below.refl _ _) ?_
            exact fits_is _ _
          refine Vals5.Steps.run rfl (Vals5.Stable.is _) ?_ ?_
          · intro a W hS pre old K hK
            have e111 := pre 32 111 _ (by kernel_rfl) rfl rfl
            have e114 := pre 35 114 _ (by kernel_rfl) rfl rfl
            clear pre old
            simp only [Vals5.fits, Array.getD_eq_getD_getElem?, List.getElem?_toArray, List.getElem?_cons_zero, List.getElem?_cons_succ, Option.getD_some] at e111 e114
            go_simp
            refine hK _ _ hS (Below.refl _ _) ?_
            exact fits_is _ _
          refine Vals5.Steps.run rfl (Vals5.Stable.is _) ?_ ?_
          · intro a W hS pre old K hK
            have e115 := pre 36 115 _ (by kernel_rfl) rfl rfl
            clear pre old
            simp only [Vals5.fits, Array.getD_eq_getD_getElem?, List.getElem?_toArray, List.getElem?_cons_zero, List.getElem?_cons_succ, Option.getD_some] at e115
            have hS9 := hS
            have bw9 : Below wr.heap.size wr W := (Below.drew (Below.refl _ _)).trans (hS9.mono (by first | exact Nat.le_refl _ | (simp; done)))
            have a0 := keep_cell bw9 fA.1
            have a1 := keep_cell bw9 fA.2
            have b0 := keep_cell bw9 fC.1
            have b1 := keep_cell bw9 fC.2
            have m0 := keep_cell bw9 fB.1
            have m1 := keep_cell bw9 fB.2
            go_simp
            refine hK _ _ hS (Below.refl _ _) ?_
            exact fits_is _ _
          refine Vals5.Steps.run rfl (Vals5.Stable.is _) ?_ ?_
          · intro a W hS pre old K hK
            have e110 := pre 31 110 _ (by kernel_rfl) rfl rfl
            have e116 := pre 37 116 _ (by kernel_rfl) rfl rfl
            clear pre old
            simp only [Vals5.fits, Array.getD_eq_getD_getElem?, List.getElem?_toArray, List.getElem?_cons_zero, List.getElem?_cons_succ, Option.getD_some] at e110 e116
            have hq := eqSh ((s).1 : Nat) ((s).2 : Nat)
            go_simp
            refine hK _ _ hS (Below.refl _ _) ?_
            exact fits_is _ _
          exact Vals5.Steps.nil
        case hend =>
        rintro X hX
        have hsX := Lib.hid (HS.out.keep (Below.drew (Below.refl _ _)) |>.keep hX)
        simp only [Vals5.All, List.getLast_cons_cons, List.getLast_singleton]
        simp only [Vals.putAll, List.setIfInBounds_toArray, List.set_cons_zero, List.set_cons_succ]
        intro K hK
        go_simp
        refine hK _ _ ?_
        clear hK K
        go_wp2_with fail
        go_roundw
        case rel => exact ⟨k + 1, by omega, by go_num, hsX⟩
        case measure => simp [intOf]; omega
      · have q2 : ¬ (k : Int) ≤ (bd : Int) := by omega
        have q2' : ¬ k ≤ bd := hkb
        have q3 : (bd : Int) < (k : Int) := by omega
        have q3' : bd < k := by omega
        obtain rfl := e0 q3'
        clear eB e0
        go_wp2_with fail
        refine Vals6.regionAll (fun X => Below wr.drew.heap.size wr.drew X) [some 79, some 80, some 81, some 82, some 83, some 84, some 85, some 86, some 87, some 88, some 89, some 90, some 91, some 92, some 93, some 94, some 95, some 96, some 97, some 98, some 99, some 100, some 101, some 102, some 103, some 104, some 105, some 106, some 107, some 108, some 109, some 110, some 111, some 112, some 113, some 114, some 115, some 116, some 117] [.is (.int .i64 (k : Nat)), .is (.int .i64 (bd : Nat)), .is (.bool false), .is (.bool false), .is undef, .is undef, .is undef, .is undef, .is undef, .is undef, .is undef, .is undef, .is undef, .is (.bool false), .is (.bool false), .is (.int .i64 (k : Nat)), .is (.int .i64 (bd : Nat)), .is (.bool true), .is (.bool true), .is (.slice (some ⟨gA, 0, none⟩) n1 n1), .is (.int .i64 (k : Nat)), .is (.pointer (some ⟨gA, k * 2, none⟩)), .is (.agg (fV (ip ((0, 1) : Nat × Nat)))), .is (.agg (fV (ip ((0, 1) : Nat × Nat)))), .is (.bool false), .is (.bool false), .is (.bool false), .is (.bool false), .is (.slice (some ⟨gA, 0, none⟩) n1 n1), .is (.int .i64 (k : Nat)), .is (.pointer (some ⟨gA, k * 2, none⟩)), .is (.agg (fV (ip ((0, 1) : Nat × Nat)))), .is (.slice (some ⟨gC, 0, none⟩) n1 n1), .is (.int .i64 (sm : Nat)), .is (.int .i64 (k : Nat)), .is (.int .i64 (r : Nat)), .is (.pointer (some ⟨gC, r * 2, none⟩)), .is (.agg (fV (ip ((0, 1) : Nat × Nat)))), .is (.bool false)] (by kernel_rfl) rfl rfl (by kernel_rfl) (by kernel_rfl) (by kernel_rfl) (by kernel_rfl) (by kernel_rfl) (by kernel_rfl) rfl (Below.refl _ _) ?hsteps ?hend
        case hsteps =>
          refine Vals5.Steps.run rfl (Vals5.Stable.is _) ?_ ?_
          · intro a W hS pre old K hK
            have e12 := old 12 _ (by kernel_rfl) rfl
            clear pre old
            simp only [Vals5.fits, Array.getD_eq_getD_getElem?, List.getElem?_toArray, List.getElem?_cons_zero, List.getElem?_cons_succ, Option.getD_some] at e12
            go_simp
            refine hK _ _ hS (Below.refl _ _) ?_
            exact fits_is _ _
          refine Vals5.Steps.run rfl (Vals5.Stable.is _) ?_ ?_
          · intro a W hS pre old K hK
            have e4 := old 4 _ (by kernel_rfl) rfl
            clear pre old
            simp only [Vals5.fits, Array.getD_eq_getD_getElem?, List.getElem?_toArray, List.getElem?_cons_zero, List.getElem?_cons_succ, Option.getD_some] at e4
            go_simp
            refine hK _ _ hS (Below.refl _ _) ?_
            exact fits_is _ _
          refine Vals5.Steps.run rfl (Vals5.Stable.is _) ?_ ?_
          · intro a W hS pre old K hK
            have e79 := pre 0 79 _ (by kernel_rfl) rfl rfl
            have e80 := pre 1 80 _ (by kernel_rfl) rfl rfl
            clear pre old
            simp only [Vals5.fits, Array.getD_eq_getD_getElem?, List.getElem?_toArray, List.getElem?_cons_zero, List.getElem?_cons_succ, Option.getD_some] at e79 e80
            go_simp
            refine hK _ _ hS (Below.refl _ _) ?_
            exact fits_is _ _
          refine Vals5.Steps.run rfl (Vals5.Stable.is _) ?_ ?_
          · intro a W hS pre old K hK
            have e81 := pre 2 81 _ (by kernel_rfl) rfl rfl
            clear pre old
            simp only [Vals5.fits, Array.getD_eq_getD_getElem?, List.getElem?_toArray, List.getElem?_cons_zero, List.getElem?_cons_succ, Option.getD_some] at e81
            go_simp
            refine hK _ _ hS (Below.refl _ _) ?_
            exact fits_is _ _
          refine Vals5.Steps.skip rfl rfl ?_
          refine Vals5.Steps.skip rfl rfl ?_
          refine Vals5.Steps.skip rfl rfl ?_
          refine Vals5.Steps.skip rfl rfl ?_
          refine Vals5.Steps.skip rfl rfl ?_
          refine Vals5.Steps.skip rfl rfl ?_
          refine Vals5.Steps.skip rfl rfl ?_
          refine Vals5.Steps.skip rfl rfl ?_
          refine Vals5.Steps.skip rfl rfl ?_
          refine Vals5.Steps.run rfl (Vals5.Stable.is _) ?_ ?_
          · intro a W hS pre old K hK
            have e82 := pre 3 82 _ (by kernel_rfl) rfl rfl
            have e91 := pre 12 91 _ (by kernel_rfl) rfl rfl
            clear pre old
            simp only [Vals5.fits, Array.getD_eq_getD_getElem?, List.getElem?_toArray, List.getElem?_cons_zero, List.getElem?_cons_succ, Option.getD_some] at e82 e91
            go_simp
            refine hK _ _ hS (Below.refl _ _) ?_
            exact fits_is _ _
          refine Vals5.Steps.run rfl (Vals5.Stable.is _) ?_ ?_
          · intro a W hS pre old K hK
            have e92 := pre 13 92 _ (by kernel_rfl) rfl rfl
            clear pre old
            simp only [Vals5.fits, Array.getD_eq_getD_getElem?, List.getElem?_toArray, List.getElem?_cons_zero, List.getElem?_cons_succ, Option.getD_some] at e92
            go_simp
            refine hK _ _ hS (Below.refl _ _) ?_
            exact fits_is _ _
          refine Vals5.Steps.run rfl (Vals5.Stable.is _) ?_ ?_
          · intro a W hS pre old K hK
            have e12 := old 12 _ (by kernel_rfl) rfl
            clear pre old
            simp only [Vals5.fits, Array.getD_eq_getD_getElem?, List.getElem?_toArray, List.getElem?_cons_zero, List.getElem?_cons_succ, Option.getD_some] at e12
            go_simp
            refine hK _ _ hS (Below.refl _ _) ?_
            exact fits_is _ _
          refine Vals5.Steps.run rfl (Vals5.Stable.is _) ?_ ?_
          · intro a W hS pre old K hK
            have e4 := old 4 _ (by kernel_rfl) rfl
            clear pre old
            simp only [Vals5.fits, Array.getD_eq_getD_getElem?, List.getElem?_toArray, List.getElem?_cons_zero, List.getElem?_cons_succ, Option.getD_some] at e4
            go_simp
            refine hK _ _ hS (Below.refl _ _) ?_
            exact fits_is _ _
          refine Vals5.Steps.run rfl (Vals5.Stable.is _) ?_ ?_
          · intro a W hS pre old K hK
            have e94 := pre 15 94 _ (by kernel_rfl) rfl rfl
            have e95 := pre 16 95 _ (by kernel_rfl) rfl rfl
            clear pre old
            simp only [Vals5.fits, Array.getD_eq_getD_getElem?, List.getElem?_toArray, List.getElem?_cons_zero, List.getElem?_cons_succ, Option.getD_some] at e94 e95
            go_simp
            refine hK _ _ hS (Below.refl _ _) ?_
            exact fits_is _ _
          refine Vals5.Steps.run rfl (Vals5.Stable.is _) ?_ ?_
          · intro a W hS pre old K hK
            have e96 := pre 17 96 _ (by kernel_rfl) rfl rfl
            clear pre old
            simp only [Vals5.fits, Array.getD_eq_getD_getElem?, List.getElem?_toArray, List.getElem?_cons_zero, List.getElem?_cons_succ, Option.getD_some] at e96
            go_simp
            refine hK _ _ hS (Below.refl _ _) ?_
            exact fits_is _ _
          refine Vals5.Steps.run rfl (Vals5.Stable.is _) ?_ ?_
          · intro a W hS pre old K hK
            have e6 := old 6 _ (by kernel_rfl) rfl
            clear pre old
            simp only [Vals5.fits, Array.getD_eq_getD_getElem?, List.getElem?_toArray, List.getElem?_cons_zero, List.getElem?_cons_succ, Option.getD_some] at e6
            go_simp
            refine hK _ _ hS (Below.refl _ _) ?_
            exact fits_is _ _
          refine Vals5.Steps.run rfl (Vals5.Stable.is _) ?_ ?_
          · intro a W hS pre old K hK
            have e12 := old 12 _ (by kernel_rfl) rfl
            clear pre old
            simp only [Vals5.fits, Array.getD_eq_getD_getElem?, List.getElem?_toArray, List.getElem?_cons_zero, List.getElem?_cons_succ, Option.getD_some] at e12
            go_simp
            refine hK _ _ hS (Below.refl _ _) ?_
            exact fits_is _ _
          refine Vals5.Steps.run rfl (Vals5.Stable.is _) ?_ ?_
          · intro a W hS pre old K hK
            have e98 := pre 19 98 _ (by kernel_rfl) rfl rfl
            have e99 := pre 20 99 _ (by kernel_rfl) rfl rfl
            clear pre old
            simp only [Vals5.fits, Array.getD_eq_getD_getElem?, List.getElem?_toArray, List.getElem?_cons_zero, List.getElem?_cons_succ, Option.getD_some] at e98 e99
            go_simp
            refine hK _ _ hS (Below.refl _ _) ?_
            exact fits_is _ _
          refine Vals5.Steps.run rfl (Vals5.Stable.is _) ?_ ?_
          · intro a W hS pre old K hK
            have e100 := pre 21 100 _ (by kernel_rfl) rfl rfl
            clear pre old
            simp only [Vals5.fits, Array.getD_eq_getD_getElem?, List.getElem?_toArray, List.getElem?_cons_zero, List.getElem?_cons_succ, Option.getD_some] at e100
            have hS9 := hS
            have bw9 : Below wr.heap.size wr W := (Below.drew (Below.refl _ _)).trans (hS9.mono (by first | exact Nat.le_refl _ | (simp; done)))
            have a0 := keep_cell bw9 fA.1
            have a1 := keep_cell bw9 fA.2
            have b0 := keep_cell bw9 fC.1
            have b1 := keep_cell bw9 fC.2
            go_simp
            refine hK _ _ hS (Below.refl _ _) ?_
            exact fits_is _ _
          refine Vals5.Steps.run rfl (Vals5.Stable.is _) ?_ ?_
          · intro a W hS pre old K hK
            clear pre old
            go_simp
            refine (share_c 0 1 _).mono ?_
            rintro e w' ⟨rfl, hb'⟩
            refine hK _ _ (hS.trans (hb'.mono hS.size)) hb' ?_
            exact fits_is _ _
          refine Vals5.Steps.run rfl (Vals5.Stable.is _) ?_ ?_
          · intro a W hS pre old K hK
            have e101 := pre 22 101 _ (by kernel_rfl) rfl rfl
            have e102 := pre 23 102 _ (by kernel_rfl) rfl rfl
            clear pre old
            simp only [Vals5.fits, Array.getD_eq_getD_getElem?, List.getElem?_toArray, List.getElem?_cons_zero, List.getElem?_cons_succ, Option.getD_some] at e101 e102
            have hq := eqSh ((((0, 1) : Nat × Nat)).1 : Nat) ((((0, 1) : Nat × Nat)).2 : Nat)
            go_simp
            refine hK _ _ hS (Below.refl _ _) ?_
            exact fits_is _ _
          refine Vals5.Steps.run rfl (Vals5.Stable.is _) ?_ ?_
          · intro a W hS pre old K hK
            have e97 := pre 18 97 _ (by kernel_rfl) rfl rfl
            have e103 := pre 24 103 _ (by kernel_rfl) rfl rfl
            clear pre old
            simp only [Vals5.fits, Array.getD_eq_getD_getElem?, List.getElem?_toArray, List.getElem?_cons_zero, List.getElem?_cons_succ, Option.getD_some] at e97 e103
            go_simp
            refine hK _ _ hS (Below.refl _ _) ?_
            exact fits_is _ _
          refine Vals5.Steps.run rfl (Vals5.Stable.is _) ?_ ?_
          · intro a W hS pre old K hK
            have e93 := pre 14 93 _ (by kernel_rfl) rfl rfl
            have e104 := pre 25 104 _ (by kernel_rfl) rfl rfl
            clear pre old
            simp only [Vals5.fits, Array.getD_eq_getD_getElem?, List.getElem?_toArray, List.getElem?_cons_zero, List.getElem?_cons_succ, Option.getD_some] at e93 e104
            go_simp
            refine hK _ _ hS (Below.refl _ _) ?_
            exact fits_is _ _
          refine Vals5.Steps.run rfl (Vals5.Stable.is _) ?_ ?_
          · intro a W hS pre old K hK
            have e105 := pre 26 105 _ (by kernel_rfl) rfl rfl
            clear pre old
            simp only [Vals5.fits, Array.getD_eq_getD_getElem?, List.getElem?_toArray, List.getElem?_cons_zero, List.getElem?_cons_succ, Option.getD_some] at e105
            go_simp
            refine hK _ _ hS (Below.refl _ _) ?_
            exact fits_is _ _
          refine Vals5.Steps.run rfl (Vals5.Stable.is _) ?_ ?_
          · intro a W hS pre old K hK
            have e6 := old 6 _ (by kernel_rfl) rfl
            clear pre old
            simp only [Vals5.fits, Array.getD_eq_getD_getElem?, List.getElem?_toArray, List.getElem?_cons_zero, List.getElem?_cons_succ, Option.getD_some] at e6
            go_simp
            refine hK _ _ hS (Below.refl _ _) ?_
            exact fits_is _ _
          refine Vals5.Steps.run rfl (Vals5.Stable.is _) ?_ ?_
          · intro a W hS pre old K hK
            have e12 := old 12 _ (by kernel_rfl) rfl
            clear pre old
            simp only [Vals5.fits, Array.getD_eq_getD_getElem?, List.getElem?_toArray, List.getElem?_cons_zero, List.getElem?_cons_succ, Option.getD_some] at e12
            go_simp
            refine hK _ _ hS (Below.refl _ _) ?_
            exact fits_is _ _
          refine Vals5.Steps.run rfl (Vals5.Stable.is _) ?_ ?_
          · intro a W hS pre old K hK
            have e107 := pre 28 107 _ (by kernel_rfl) rfl rfl
            have e108 := pre 29 108 _ (by kernel_rfl) rfl rfl
            clear pre old
            simp only [Vals5.fits, Array.getD_eq_getD_getElem?, List.getElem?_toArray, List.getElem?_cons_zero, List.getElem?_cons_succ, Option.getD_some] at e107 e108
            go_simp
            refine hK _ _ hS (Below.refl _ _) ?_
            exact fits_is _ _
          refine Vals5.Steps.run rfl (Vals5.Stable.is _) ?_ ?_
          · intro a W hS pre old K hK
            have e109 := pre 30 109 _ (by kernel_rfl) rfl rfl
            clear pre old
            simp only [Vals5.fits, Array.getD_eq_getD_getElem?, List.getElem?_toArray, List.getElem?_cons_zero, List.getElem?_cons_succ, Option.getD_some] at e109
            have hS9 := hS
            have bw9 : Below wr.heap.size wr W := (Below.drew (Below.refl _ _)).trans (hS9.mono (by first | exact Nat.le_refl _ | (simp; done)))
            have a0 := keep_cell bw9 fA.1
            have a1 := keep_cell bw9 fA.2
            have b0 := keep_cell bw9 fC.1
            have b1 := keep_cell bw9 fC.2
            go_simp
            refine hK _ _ hS (Below.refl _ _) ?_
            exact fits_is _ _
          refine Vals5.Steps.run rfl (Vals5.Stable.is _) ?_ ?_
          · intro a W hS pre old K hK
            have e10 := old 10 _ (by kernel_rfl) rfl
            clear pre old
            simp only [Vals5.fits, Array.getD_eq_getD_getElem?, List.getElem?_toArray, List.getElem?_cons_zero, List.getElem?_cons_succ, Option.getD_some] at e10
            go_simp
            refine hK _ _ hS (Below.refl _ _) ?_
            exact fits_is _ _
          refine Vals5.Steps.run rfl (Vals5.Stable.is _) ?_ ?_
          · intro a W hS pre old K hK
            have e5 := old 5 _ (by kernel_rfl) rfl
            clear pre old
            simp only [Vals5.fits, Array.getD_eq_getD_getElem?, List.getElem?_toArray, List.getElem?_cons_zero, List.getElem?_cons_succ, Option.getD_some] at e5
            go_simp
            refine hK _ _ hS (Below.refl _ _) ?_
            exact fits_is _ _
          refine Vals5.Steps.run rfl (Vals5.Stable.is _) ?_ ?_
          · intro a W hS pre old K hK
            have e12 := old 12 _ (by kernel_rfl) rfl
            clear pre old
            simp only [Vals5.fits, Array.getD_eq_getD_getElem?, List.getElem?_toArray, List.getElem?_cons_zero, List.getElem?_cons_succ, Option.getD_some] at e12
            go_simp
            refine hK _ _ hS (Below.refl _ _) ?_
            exact fits_is _ _
          refine Vals5.Steps.run rfl (Vals5.Stable.is _) ?_ ?_
          · intro a W hS pre old K hK
            have e112 := pre 33 112 _ (by kernel_rfl) rfl rfl
            have e113 := pre 34 113 _ (by kernel_rfl) rfl rfl
            clear pre old
            simp only [Vals5.fits, Array.getD_eq_getD_getElem?, List.getElem?_toArray, List.getElem?_cons_zero, List.getElem?_cons_succ, Option.getD_some] at e112 e113
            go_simp
            refine hK _ _ hS (Below.refl _ _) ?_
            exact fits_is _ _
          refine Vals5.Steps.run rfl (Vals5.Stable.is _) ?_ ?_
          · intro a W hS pre old K hK
            have e111 := pre 32 111 _ (by kernel_rfl) rfl rfl
            have e114 := pre 35 114 _ (by kernel_rfl) rfl rfl
            clear pre old
            simp only [Vals5.fits, Array.getD_eq_getD_getElem?, List.getElem?_toArray, List.getElem?_cons_zero, List.getElem?_cons_succ, Option.getD_some] at e111 e114
            go_simp
            refine hK _ _ hS (Below.refl _ _) ?_
            exact fits_is _ _
          refine Vals5.Steps.run rfl (Vals5.Stable.is _) ?_ ?_
          · intro a W hS pre old K hK
            have e115 := pre 36 115 _ (by kernel_rfl) rfl rfl
            clear pre old
            simp only [Vals5.fits, Array.getD_eq_getD_getElem?, List.getElem?_toArray, List.getElem?_cons_zero, List.getElem?_cons_succ, Option.getD_some] at e115
            have hS9 := hS
            have bw9 : Below wr.heap.size wr W := (Below.drew (Below.refl _ _)).trans (hS9.mono (by first | exact Nat.le_refl _ | (simp; done)))
            have a0 := keep_cell bw9 fA.1
            have a1 := keep_cell bw9 fA.2
            have b0 := keep_cell bw9 fC.1
            have b1 := keep_cell bw9 fC.2
            go_simp
            refine hK _ _ hS (Below.refl _ _) ?_
            exact fits_is _ _
          refine Vals5.Steps.run rfl (Vals5.Stable.is _) ?_ ?_
          · intro a W hS pre old K hK
            have e110 := pre 31 110 _ (by kernel_rfl) rfl rfl
            have e116 := pre 37 116 _ (by kernel_rfl) rfl rfl
            clear pre old
            simp only [Vals5.fits, Array.getD_eq_getD_getElem?, List.getElem?_toArray, List.getElem?_cons_zero, List.getElem?_cons_succ, Option.getD_some] at e110 e116
            have hq := eqSh ((((0, 1) : Nat × Nat)).1 : Nat) ((((0, 1) : Nat × Nat)).2 : Nat)
            go_simp
            refine hK _ _ hS (Below.refl _ _) ?_
            exact fits_is _ _
          exact Vals5.Steps.nil
        case hend =>
        rintro X hX
        have hsX := Lib.hid (HS.out.keep (Below.drew (Below.refl _ _)) |>.keep hX)
        simp only [Vals5.All, List.getLast_cons_cons, List.getLast_singleton]
        simp only [Vals.putAll, List.setIfInBounds_toArray, List.set_cons_zero, List.set_cons_succ]
        intro K hK
        go_simp
        refine hK _ _ ?_
        clear hK K
        go_wp2_with fail
        go_roundw
        case rel => exact ⟨k + 1, by omega, by go_num, hsX⟩
        case measure => simp [intOf]; omega
    · have q1 : ¬ (k : Int) ≤ (sm : Int) := by omega
      have q1' : ¬ k ≤ sm := by omega
      go_wp2_with fail
      refine (awake_c _).mono ?_
      rintro e v5 ⟨rfl, hb⟩
      have hse := (hsw.out.keep HS.out.1).keep hb
      clear hb
      go_wp2_with fail
      go_ret
      exact ⟨rfl, hse.1⟩
end Td
end Go.Proofs.Ytgkdidnmndmlhaa
