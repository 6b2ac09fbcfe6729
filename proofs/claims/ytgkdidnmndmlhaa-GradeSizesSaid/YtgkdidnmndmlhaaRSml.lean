import Derived.Test.YtgkdidnmndmlhaaRCha
import Derived.Test.YtgkdidnmndmlhaaMathE
import Derived.Test.YtgkdidnmndmlhaaSms
/- The reference: Smallest. -/
namespace Go.Proofs.Ytgkdidnmndmlhaa
open Go.RowKit
namespace Td
set_option linter.unusedSimpArgs false
set_option linter.unusedVariables false
attribute [local go_sem] Oper.semAt_some
/-- does a sample do, for the first k numbers of bad pieces? -/
def okB (P lo pass : Nat) (most : Nat × Nat) (n k : Nat) : Bool := (List.range k).all fun j => !lt' most (chS P n pass (pass + 1) 0 0 (lo + j))
theorem okB_succ (P lo pass : Nat) (most : Nat × Nat) (n k : Nat) : okB P lo pass most n (k + 1) = (okB P lo pass most n k && !lt' most (chS P n pass (pass + 1) 0 0 (lo + k))) := by
  unfold okB
  rw [List.range_succ, List.all_append]
  simp
theorem okB_is {P lo hi pass a b n : Nat} (hb : 0 < b) (hn : n ≤ P) : okB P lo pass (a, b) n (hi + 1 - lo) = okS P lo hi pass (shr a b) n := by
  cases h : okS P lo hi pass (shr a b) n
  · obtain ⟨d, h1, h2, h3⟩ := ok_false hb hn h
    unfold okB
    rw [List.all_eq_false]
    refine ⟨d - lo, List.mem_range.2 (by omega), ?_⟩
    rw [show lo + (d - lo) = d by omega, lt_low hb, h3]
    simp
  · unfold okB
    rw [List.all_eq_true]
    intro j hj
    have := List.mem_range.1 hj
    rw [lt_low hb, ok_true hb hn h (by omega) (by omega)]
    rfl
theorem Bool.pick_and (a b : Bool) : (if a then b else false) = (a && b) := by cases a <;> rfl
set_option maxRecDepth 100000 in
set_option maxHeartbeats 8000000 in
theorem rSmallest_c (P lo hi pass : Int) (xm : Int × Int) (w : World) :
    Calls Try.prog 32 #[.agg (gV P lo hi), .int .i64 pass, .agg (fV xm)] w fun e w' => e = .returned (.tuple #[.int .i64 (smaA P lo hi pass xm).1, .int .i64 (smaA P lo hi pass xm).2]) ∧ Below w.heap.size w w' := by
  have hs := ((Since.refl w).alloc (.cells (gV P lo hi) 25)).alloc (.cells (fV xm) 41)
  have HG := Lib.hid ((Blk.new w 25 (gV P lo hi)).alloc (.cells (fV xm) 41))
  have HX := Lib.hid (Blk.new1 w (.cells (gV P lo hi) 25) 41 (fV xm))
  obtain ⟨c0, c1, c2⟩ := HG.out.gcells
  by_cases h1 : chkE P lo hi = 0
  · have HCE := Lib.hid h1
    cases h2 : wi 0 P pass
    · have HV : Hid (smaA P lo hi pass xm = (0, 7)) := by show _ = _; unfold smaA; rw [if_pos h1, if_neg (by rw [h2]; simp)]
      have H22 := Lib.hid h2
      rw [HV.out]
      clear h1 h2 HV
      go_enter Try.func32, Try.ntmps32
      go_wp2_with fail
      refine (rCheck_c P lo hi _).mono ?_
      rintro e v1 ⟨rfl, hb⟩
      rw [HCE.out]
      replace hs := hs.keep hb
      replace HG := Lib.hid (HG.out.keep hb)
      clear hb c0 c1 c2
      obtain ⟨c0, c1, c2⟩ := HG.out.gcells
      go_wp2_with fail
      refine (rin_c 0 P pass _).mono ?_
      rintro e w' ⟨rfl, rfl⟩
      rw [H22.out]
      go_wp2_with fail
      go_ret2
      exact ⟨rfl, hs.1⟩
    · cases h3 : shrE xm
      · have HV : Hid (smaA P lo hi pass xm = (0, 6)) := by show _ = _; unfold smaA; rw [if_pos h1, if_pos h2, if_neg (by rw [h3]; simp)]
        have H22 := Lib.hid h2
        have HSE : Hid (shaE xm = 6) := by show _ = _; unfold shaE; rw [h3]; rfl
        rw [HV.out]
        clear h1 h2 h3 HV
        go_enter Try.func32, Try.ntmps32
        go_wp2_with fail
        refine (rCheck_c P lo hi _).mono ?_
        rintro e v1 ⟨rfl, hb⟩
        rw [HCE.out]
        replace hs := hs.keep hb
        replace HG := Lib.hid (HG.out.keep hb)
        replace HX := Lib.hid (HX.out.keep hb)
        clear hb c0 c1 c2
        obtain ⟨c0, c1, c2⟩ := HG.out.gcells
        obtain ⟨x0, x1⟩ := HX.out.fcells
        go_wp2_with fail
        refine (rin_c 0 P pass _).mono ?_
        rintro e w' ⟨rfl, rfl⟩
        rw [H22.out]
        go_wp2_with fail
        refine (rShare_c xm _).mono ?_
        rintro e v2 ⟨rfl, hb⟩
        rw [HSE.out]
        replace hs := hs.keep hb
        clear hb c0 c1 c2 x0 x1
        go_wp2_with fail
        go_ret2
        exact ⟨rfl, hs.1⟩
      · have H22 := Lib.hid h2
        have HSE : Hid (shaE xm = 0) := by show _ = _; unfold shaE; rw [h3]; rfl
        obtain ⟨k1, k2, k3, k4, k5⟩ := chkE_ok.1 h1
        have hpp := wi_iff.1 h2
        have hsh := h3
        unfold shrE at hsh
        rw [Bool.and_eq_true, wi_iff, wi_iff] at hsh
        obtain ⟨P, rfl⟩ : ∃ n : Nat, P = n := ⟨P.toNat, by omega⟩
        obtain ⟨lo, rfl⟩ : ∃ n : Nat, lo = n := ⟨lo.toNat, by omega⟩
        obtain ⟨hi, rfl⟩ : ∃ n : Nat, hi = n := ⟨hi.toNat, by omega⟩
        obtain ⟨pass, rfl⟩ : ∃ n : Nat, pass = n := ⟨pass.toNat, by omega⟩
        obtain ⟨ya, yb⟩ := xm
        simp only at hsh
        obtain ⟨sa, rfl⟩ : ∃ n : Nat, ya = n := ⟨ya.toNat, by omega⟩
        obtain ⟨sb, rfl⟩ : ∃ n : Nat, yb = n := ⟨yb.toNat, by omega⟩
        have hsb : 0 < sb := by omega
        have sS : Sm (sa, sb) := ⟨by show sa < _; omega, by show sb < _; omega⟩
        obtain ⟨ok, hok⟩ : ∃ ok, okS P lo hi pass (shr sa sb) = ok := ⟨_, rfl⟩
        have hV : smaA P lo hi pass ((sa : Int), (sb : Int)) = if smF ok P = 0 then (0, 9) else ((smF ok P : Int), 0) := by
          unfold smaA
          rw [if_pos h1, if_pos h2, if_pos h3]
          simp only [Int.toNat_natCast, hok]
        rw [hV]
        obtain ⟨⟨V1, V2⟩, hV1⟩ : ∃ V : Int × Int, (if smF ok P = 0 then (0, 9) else ((smF ok P : Int), 0)) = V := ⟨_, rfl⟩
        rw [hV1]
        have HVY : Hid (∀ n, 1 ≤ n → n ≤ P → ok n = true → (∀ m, 1 ≤ m → m < n → ok m = false) → V1 = n ∧ V2 = 0) := fun n a b c d => by
          rw [smF_is a b c d, if_neg (by omega)] at hV1
          have e1 := congrArg Prod.fst hV1
          have e2 := congrArg Prod.snd hV1
          exact ⟨e1.symm, e2.symm⟩
        have HVN : Hid ((∀ m, 1 ≤ m → m ≤ P → ok m = false) → V1 = 0 ∧ V2 = 9) := fun d => by
          rw [smF_none d, if_pos rfl] at hV1
          have e1 := congrArg Prod.fst hV1
          have e2 := congrArg Prod.snd hV1
          exact ⟨e1.symm, e2.symm⟩
        obtain ⟨oB, hoB⟩ : ∃ f : Nat → Nat → Bool, okB P lo pass (sa, sb) = f := ⟨_, rfl⟩
        have HOB0 : Hid (∀ n, oB n 0 = true) := fun n => by rw [← hoB]; rfl
        have HOBS : Hid (∀ n k, oB n (k + 1) = (oB n k && !lt' (sa, sb) (chS P n pass (pass + 1) 0 0 (lo + k)))) := fun n k => by rw [← hoB]; exact okB_succ _ _ _ _ _ _
        have HOBE : Hid (∀ n, n ≤ P → oB n (hi + 1 - lo) = ok n) := fun n hn => by rw [← hoB, ← hok]; exact okB_is hsb hn
        have HONC : Hid (∀ n d, n ≤ P → d ≤ hi → Sm (chS P n pass (pass + 1) 0 0 d) ∧ ∀ W, Calls Try.prog 77 #[.agg (gV P lo hi), .int .i64 d, .int .i64 n, .int .i64 pass] W fun e w' => e = .returned (.agg (fV (ip (chS P n pass (pass + 1) 0 0 d)))) ∧ Below W.heap.size W w') := fun n d hn hd => ⟨chS_sm ⟨by omega, hn, Nat.zero_le _, by omega, Nat.le_refl _⟩, fun W => rOnce_c lo hi P d n pass W (by omega) hn (by omega) (by omega)⟩
        have hlh : lo ≤ hi := by omega
        have hP1 : 1 ≤ P ∧ P ≤ 20 ∧ hi ≤ P := by omega
        clear h1 h2 h3 hsh hpp hok hV hV1 hoB hsb k1 k2 k3 k4 k5
        go_enter Try.func32, Try.ntmps32
        go_wp2_with fail
        refine (rCheck_c P lo hi _).mono ?_
        rintro e v1 ⟨rfl, hb⟩
        rw [HCE.out]
        replace hs := hs.keep hb
        replace HG := Lib.hid (HG.out.keep hb)
        replace HX := Lib.hid (HX.out.keep hb)
        clear hb c0 c1 c2
        obtain ⟨c0, c1, c2⟩ := HG.out.gcells
        obtain ⟨x0, x1⟩ := HX.out.fcells
        go_wp2_with fail
        refine (rin_c 0 P pass _).mono ?_
        rintro e w' ⟨rfl, rfl⟩
        rw [H22.out]
        go_wp2_with fail
        refine (rShare_c ((sa : Int), (sb : Int)) _).mono ?_
        rintro e v2 ⟨rfl, hb⟩
        rw [HSE.out]
        replace hs := hs.keep hb
        replace HG := Lib.hid (HG.out.keep hb)
        replace HX := Lib.hid (HX.out.keep hb)
        clear hb c0 c1 c2 x0 x1 HCE H22 HSE
        have HS0 := Lib.hid (Since.refl v2)
        have hsw := Lib.hid hs
        clear hs
        go_wp2_with fail
        go_loopw [9, 10, 11] (fun i _ _ wr => ∃ n : Nat, 1 ≤ n ∧ n ≤ P + 1 ∧ i = .int .i64 n ∧ Hid (∀ m, 1 ≤ m → m < n → ok m = false) ∧ Hid (Since v2 wr)) (fun i _ _ _ => P + 1 - (intOf i).toNat)
        case atStart => exact ⟨1, by omega, by omega, rfl, fun m h1 h2 => by omega, HS0⟩
        case round =>
          clear HS0
          obtain ⟨n, hn1, hn, rfl, HNO, HS⟩ := hrel
          obtain ⟨c0, c1, c2⟩ := (HG.out.keep HS.out.1).gcells
          by_cases hlt : n ≤ P
          · have q1 : (n : Int) ≤ (P : Int) := by omega
            have u1 : IntKind.i64.wrap ((n : Int) + 1) = ((n + 1 : Nat) : Int) := by rw [wrapI (by unfold I64; omega)]; omega
            have HSt := Lib.hid HS.out
            clear HS
            go_wp2_with fail
            clear c0 c1 c2
            go_loopw [10, 11] (fun dv i wr => ∃ (k : Nat) (dz : Bool), k ≤ hi + 1 - lo ∧ i = .int .i64 ((lo + k : Nat) : Int) ∧ dv = .bool dz ∧ Hid (oB n k = dz) ∧ Hid (Since v2 wr)) (fun _ i _ => hi + 1 - (intOf i).toNat)
            case atStart => exact ⟨0, true, by omega, rfl, rfl, HOB0.out n, HSt⟩
            case round =>
              clear HSt
              obtain ⟨k, dz, hk, rfl, rfl, HD, HS⟩ := hrel
              obtain ⟨c0, c1, c2⟩ := (HG.out.keep HS.out.1).gcells
              obtain ⟨x0, x1⟩ := (HX.out.keep HS.out.1).fcells
              by_cases hkl : lo + k ≤ hi
              · obtain ⟨b, hb⟩ : ∃ b, lo + k = b := ⟨_, rfl⟩
                have HB := Lib.hid hb
                have hoS := HOBS.out n k
                rw [HD.out] at hoS
                rw [hb] at hkl hoS ⊢
                obtain ⟨sU, hON⟩ := HONC.out n b hlt hkl
                obtain ⟨u, hu⟩ : ∃ u, chS P n pass (pass + 1) 0 0 b = u := ⟨_, rfl⟩
                rw [hu] at sU hON hoS
                obtain ⟨v, hv⟩ : ∃ v, lt' (sa, sb) u = v := ⟨_, rfl⟩
                have HLE : Hid (∀ W, Calls Try.prog 44 #[.agg (fV ((sa : Int), (sb : Int))), .agg (fV (ip u))] W fun e w' => e = .returned (.bool v) ∧ Below W.heap.size W w') := fun W => by rw [← hv]; exact rLess_c (sa, sb) u W sS sU
                have HON := Lib.hid hON
                rw [hv] at hoS
                have t1 : (b : Int) ≤ (hi : Int) := by omega
                have w1 : IntKind.i64.wrap ((b : Int) + 1) = ((b + 1 : Nat) : Int) := by rw [wrapI (by unfold I64; omega)]; omega
                have HOS := Lib.hid hoS
                clear hb hu hv hON hoS sU
                cases dz
                · have HN2 : Hid (oB n (k + 1) = false) := HOS.out
                  go_wp2_with fail
                  refine Vals6.regionAll (fun X => Below wr.drew.heap.size wr.drew X) [some 46, some 47, some 48, some 49, some 50, some 51, some 52, some 53, some 54, some 55, some 56] [.is (.bool false), .is (.bool false), .is undef, .is undef, .is undef, .is undef, .is undef, .is undef, .is undef, .is undef, .is (.bool false)] (by kernel_rfl) rfl rfl (by kernel_rfl) (by kernel_rfl) (by kernel_rfl) (by kernel_rfl) (by kernel_rfl) (by kernel_rfl) rfl (Below.refl _ _) ?hsteps ?hend
                  case hsteps =>
                    refine Vals5.Steps.run rfl (Vals5.Stable.is _) ?_ ?_
                    · intro a W hS pre old K hK
                      have e10 := old 10 _ (by kernel_rfl) rfl
                      clear pre old
                      simp only [Vals5.fits, Array.getD_eq_getD_getElem?, List.getElem?_toArray, List.getElem?_cons_zero, List.getElem?_cons_succ, Option.getD_some] at e10
                      go_simp
                      refine hK _ _ hS (Below.refl _ _) ?_
                      exact fits_is _ _
                    refine Vals5.Steps.run rfl (Vals5.Stable.is _) ?_ ?_
                    · intro a W hS pre old K hK
                      have e46 := pre 0 46 _ (by kernel_rfl) rfl rfl
                      clear pre old
                      simp only [Vals5.fits, Array.getD_eq_getD_getElem?, List.getElem?_toArray, List.getElem?_cons_zero, List.getElem?_cons_succ, Option.getD_some] at e46
                      go_simp
                      refine hK _ _ hS (Below.refl _ _) ?_
                      exact fits_is _ _
                    refine Vals5.Steps.skip rfl rfl ?_
                    refine Vals5.Steps.skip rfl rfl ?_
                    refine Vals5.Steps.skip rfl rfl ?_
                    refine Vals5.Steps.skip rfl rfl ?_
                    refine Vals5.Steps.skip rfl rfl ?_
                    refine Vals5.Steps.skip rfl rfl ?_
                    refine Vals5.Steps.skip rfl rfl ?_
                    refine Vals5.Steps.skip rfl rfl ?_
                    refine Vals5.Steps.run rfl (Vals5.Stable.is _) ?_ ?_
                    · intro a W hS pre old K hK
                      have e47 := pre 1 47 _ (by kernel_rfl) rfl rfl
                      have e55 := pre 9 55 _ (by kernel_rfl) rfl rfl
                      clear pre old
                      simp only [Vals5.fits, Array.getD_eq_getD_getElem?, List.getElem?_toArray, List.getElem?_cons_zero, List.getElem?_cons_succ, Option.getD_some] at e47 e55
                      go_simp
                      refine hK _ _ hS (Below.refl _ _) ?_
                      exact fits_is _ _
                    exact Vals5.Steps.nil
                  case hend =>
                  rintro X hX
                  have hbX : Below wr.heap.size wr X := (Below.drew (Below.refl _ _)).trans (hX.mono (by first | exact Nat.le_refl _ | (simp; done)))
                  have HSX := Lib.hid (HS.out.keep hbX)
                  simp only [Vals5.All, List.getLast_cons_cons, List.getLast_singleton]
                  simp only [Vals.putAll, List.setIfInBounds_toArray, List.set_cons_zero, List.set_cons_succ]
                  intro K hK
                  go_simp
                  refine hK _ _ ?_
                  clear hK K hbX hX c0 c1 c2 x0 x1
                  go_wp2_with fail
                  go_roundw
                  case rel => exact ⟨k + 1, _, by have := HB.out; omega, by congr 1; have := HB.out; omega, rfl, HN2, HSX⟩
                  case measure => simp [intOf]; omega
                · have HN2 : Hid (oB n (k + 1) = !v) := by show _ = _; rw [HOS.out]; rfl
                  go_wp2_with fail
                  refine Vals6.regionAll (fun X => Below wr.drew.heap.size wr.drew X) [some 46, some 47, some 48, some 49, some 50, some 51, some 52, some 53, some 54, some 55, some 56] [.is (.bool true), .is (.bool true), .is (.agg (fV ((sa : Int), (sb : Int)))), .is (.agg (gV P lo hi)), .is (.int .i64 (b : Nat)), .is (.int .i64 (n : Nat)), .is (.int .i64 (pass : Nat)), .is (.agg (fV (ip u))), .is (.bool v), .is (.bool (!v)), .is (.bool (!v))] (by kernel_rfl) rfl rfl (by kernel_rfl) (by kernel_rfl) (by kernel_rfl) (by kernel_rfl) (by kernel_rfl) (by kernel_rfl) rfl (Below.refl _ _) ?hsteps ?hend
                  case hsteps =>
                    refine Vals5.Steps.run rfl (Vals5.Stable.is _) ?_ ?_
                    · intro a W hS pre old K hK
                      have e10 := old 10 _ (by kernel_rfl) rfl
                      clear pre old
                      simp only [Vals5.fits, Array.getD_eq_getD_getElem?, List.getElem?_toArray, List.getElem?_cons_zero, List.getElem?_cons_succ, Option.getD_some] at e10
                      go_simp
                      refine hK _ _ hS (Below.refl _ _) ?_
                      exact fits_is _ _
                    refine Vals5.Steps.run rfl (Vals5.Stable.is _) ?_ ?_
                    · intro a W hS pre old K hK
                      have e46 := pre 0 46 _ (by kernel_rfl) rfl rfl
                      clear pre old
                      simp only [Vals5.fits, Array.getD_eq_getD_getElem?, List.getElem?_toArray, List.getElem?_cons_zero, List.getElem?_cons_succ, Option.getD_some] at e46
                      go_simp
                      refine hK _ _ hS (Below.refl _ _) ?_
                      exact fits_is _ _
                    refine Vals5.Steps.run rfl (Vals5.Stable.is _) ?_ ?_
                    · intro a W hS pre old K hK
                      have e5 := old 5 _ (by kernel_rfl) rfl
                      clear pre old
                      simp only [Vals5.fits, Array.getD_eq_getD_getElem?, List.getElem?_toArray, List.getElem?_cons_zero, List.getElem?_cons_succ, Option.getD_some] at e5
                      have hS9 := hS
                      have bw9 : Below wr.heap.size wr W := (Below.drew (Below.refl _ _)).trans (hS9.mono (by first | exact Nat.le_refl _ | (simp; done)))
                      have e0_ := keep_cell bw9 c0
                      have e1_ := keep_cell bw9 c1
                      have e2_ := keep_cell bw9 c2
                      have g0_ := keep_cell bw9 x0
                      have g1_ := keep_cell bw9 x1
                      go_simp
                      refine hK _ _ hS (Below.refl _ _) ?_
                      exact fits_is _ _
                    refine Vals5.Steps.run rfl (Vals5.Stable.is _) ?_ ?_
                    · intro a W hS pre old K hK
                      have e3 := old 3 _ (by kernel_rfl) rfl
                      clear pre old
                      simp only [Vals5.fits, Array.getD_eq_getD_getElem?, List.getElem?_toArray, List.getElem?_cons_zero, List.getElem?_cons_succ, Option.getD_some] at e3
                      have hS9 := hS
                      have bw9 : Below wr.heap.size wr W := (Below.drew (Below.refl _ _)).trans (hS9.mono (by first | exact Nat.le_refl _ | (simp; done)))
                      have e0_ := keep_cell bw9 c0
                      have e1_ := keep_cell bw9 c1
                      have e2_ := keep_cell bw9 c2
                      have g0_ := keep_cell bw9 x0
                      have g1_ := keep_cell bw9 x1
                      go_simp
                      refine hK _ _ hS (Below.refl _ _) ?_
                      exact fits_is _ _
                    refine Vals5.Steps.run rfl (Vals5.Stable.is _) ?_ ?_
                    · intro a W hS pre old K hK
                      have e11 := old 11 _ (by kernel_rfl) rfl
                      clear pre old
                      simp only [Vals5.fits, Array.getD_eq_getD_getElem?, List.getElem?_toArray, List.getElem?_cons_zero, List.getElem?_cons_succ, Option.getD_some] at e11
                      go_simp
                      refine hK _ _ hS (Below.refl _ _) ?_
                      exact fits_is _ _
                    refine Vals5.Steps.run rfl (Vals5.Stable.is _) ?_ ?_
                    · intro a W hS pre old K hK
                      have e9 := old 9 _ (by kernel_rfl) rfl
                      clear pre old
                      simp only [Vals5.fits, Array.getD_eq_getD_getElem?, List.getElem?_toArray, List.getElem?_cons_zero, List.getElem?_cons_succ, Option.getD_some] at e9
                      go_simp
                      refine hK _ _ hS (Below.refl _ _) ?_
                      exact fits_is _ _
                    refine Vals5.Steps.run rfl (Vals5.Stable.is _) ?_ ?_
                    · intro a W hS pre old K hK
                      have e1 := old 1 _ (by kernel_rfl) rfl
                      clear pre old
                      simp only [Vals5.fits, Array.getD_eq_getD_getElem?, List.getElem?_toArray, List.getElem?_cons_zero, List.getElem?_cons_succ, Option.getD_some] at e1
                      go_simp
                      refine hK _ _ hS (Below.refl _ _) ?_
                      exact fits_is _ _
                    refine Vals5.Steps.run rfl (Vals5.Stable.is _) ?_ ?_
                    · intro a W hS pre old K hK
                      have e49 := pre 3 49 _ (by kernel_rfl) rfl rfl
                      have e50 := pre 4 50 _ (by kernel_rfl) rfl rfl
                      have e51 := pre 5 51 _ (by kernel_rfl) rfl rfl
                      have e52 := pre 6 52 _ (by kernel_rfl) rfl rfl
                      clear pre old
                      simp only [Vals5.fits, Array.getD_eq_getD_getElem?, List.getElem?_toArray, List.getElem?_cons_zero, List.getElem?_cons_succ, Option.getD_some] at e49 e50 e51 e52
                      go_simp
                      refine (HON.out _).mono ?_
                      rintro e w' ⟨rfl, hb'⟩
                      refine hK _ _ (hS.trans (hb'.mono hS.size)) hb' ?_
                      exact fits_is _ _
                    refine Vals5.Steps.run rfl (Vals5.Stable.is _) ?_ ?_
                    · intro a W hS pre old K hK
                      have e48 := pre 2 48 _ (by kernel_rfl) rfl rfl
                      have e53 := pre 7 53 _ (by kernel_rfl) rfl rfl
                      clear pre old
                      simp only [Vals5.fits, Array.getD_eq_getD_getElem?, List.getElem?_toArray, List.getElem?_cons_zero, List.getElem?_cons_succ, Option.getD_some] at e48 e53
                      go_simp
                      refine (HLE.out _).mono ?_
                      rintro e w' ⟨rfl, hb'⟩
                      refine hK _ _ (hS.trans (hb'.mono hS.size)) hb' ?_
                      exact fits_is _ _
                    refine Vals5.Steps.run rfl (Vals5.Stable.is _) ?_ ?_
                    · intro a W hS pre old K hK
                      have e54 := pre 8 54 _ (by kernel_rfl) rfl rfl
                      clear pre old
                      simp only [Vals5.fits, Array.getD_eq_getD_getElem?, List.getElem?_toArray, List.getElem?_cons_zero, List.getElem?_cons_succ, Option.getD_some] at e54
                      go_simp
                      refine hK _ _ hS (Below.refl _ _) ?_
                      exact fits_is _ _
                    refine Vals5.Steps.run rfl (Vals5.Stable.is _) ?_ ?_
                    · intro a W hS pre old K hK
                      have e47 := pre 1 47 _ (by kernel_rfl) rfl rfl
                      have e55 := pre 9 55 _ (by kernel_rfl) rfl rfl
                      clear pre old
                      simp only [Vals5.fits, Array.getD_eq_getD_getElem?, List.getElem?_toArray, List.getElem?_cons_zero, List.getElem?_cons_succ, Option.getD_some] at e47 e55
                      go_simp
                      refine hK _ _ hS (Below.refl _ _) ?_
                      exact fits_is _ _
                    exact Vals5.Steps.nil
                  case hend =>
                  rintro X hX
                  have hbX : Below wr.heap.size wr X := (Below.drew (Below.refl _ _)).trans (hX.mono (by first | exact Nat.le_refl _ | (simp; done)))
                  have HSX := Lib.hid (HS.out.keep hbX)
                  simp only [Vals5.All, List.getLast_cons_cons, List.getLast_singleton]
                  simp only [Vals.putAll, List.setIfInBounds_toArray, List.set_cons_zero, List.set_cons_succ]
                  intro K hK
                  go_simp
                  refine hK _ _ ?_
                  clear hK K hbX hX c0 c1 c2 x0 x1
                  go_wp2_with fail
                  go_roundw
                  case rel => exact ⟨k + 1, _, by have := HB.out; omega, by congr 1; have := HB.out; omega, rfl, HN2, HSX⟩
                  case measure => simp [intOf]; omega
              · have e : k = hi + 1 - lo := by omega
                have hE := HOBE.out n hlt
                rw [← e, HD.out] at hE
                have t1 : ¬ ((lo + k : Nat) : Int) ≤ (hi : Int) := by omega
                have t2 : ¬ lo + k ≤ hi := hkl
                clear e
                cases dz
                · have HNO2 : Hid (∀ m, 1 ≤ m → m < n + 1 → ok m = false) := fun m h1 h2 => by
                    rcases Nat.lt_or_ge m n with h | h
                    · exact HNO.out m h1 h
                    · obtain rfl : m = n := by omega
                      exact hE.symm
                  clear hE HD HNO
                  go_wp2_with fail
                  go_roundw
                  case rel => exact ⟨n + 1, by omega, by omega, by go_num, HNO2, HS⟩
                  case measure => simp [intOf]; omega
                · obtain ⟨rfl, rfl⟩ := HVY.out n hn1 hlt hE.symm HNO.out
                  have hs := hsw.out.keep HS.out.1
                  clear hE HD HNO
                  go_wp2_with fail
                  go_ret2
                  exact ⟨rfl, hs.1⟩
          · have q1 : ¬ (n : Int) ≤ (P : Int) := by omega
            obtain ⟨rfl, rfl⟩ := HVN.out fun m h1 h2 => HNO.out m h1 (by omega)
            have hs := hsw.out.keep HS.out.1
            go_wp2_with fail
            go_ret2
            exact ⟨rfl, hs.1⟩
  · have HV : Hid (smaA P lo hi pass xm = (0, chkE P lo hi)) := by show _ = _; unfold smaA; rw [if_neg h1]
    rw [HV.out]
    obtain ⟨E, hE⟩ : ∃ E, chkE P lo hi = E := ⟨_, rfl⟩
    have HCE := Lib.hid hE
    rw [hE] at h1 ⊢
    have e1 : (E == 0) = false := by rw [beq_eq_false_iff_ne]; exact h1
    have e2 : (E != 0) = true := by rw [bne_iff_ne]; exact h1
    clear HV hE
    go_enter Try.func32, Try.ntmps32
    go_wp2_with fail
    refine (rCheck_c P lo hi _).mono ?_
    rintro e v1 ⟨rfl, hb⟩
    rw [HCE.out]
    replace hs := hs.keep hb
    clear hb c0 c1 c2
    go_wp2_with fail
    go_ret2
    exact ⟨rfl, hs.1⟩
end Td
end Go.Proofs.Ytgkdidnmndmlhaa
