import Derived.Test.YtgkdidnmndmlhaaMathJ
import Derived.Test.YtgkdidnmndmlhaaSty
/- The law GradePasses: what it returns. -/
namespace Go.Proofs.Ytgkdidnmndmlhaa
open Go.RowKit
namespace Td
set_option linter.unusedSimpArgs false
set_option linter.unusedVariables false
attribute [local go_sem] Oper.semAt_some
set_option maxRecDepth 100000 in
set_option maxHeartbeats 8000000 in
theorem gradePasses_c (P lo hi fi pa fa se to : Int) (xa xb : Nat) (w : World) (hxa : xa ≤ 255) (hxb : xb ≤ 255) :
    Calls Try.prog 11 #[.agg (gV P lo hi), .agg (lV fi pa fa se to), .agg #[.int .u8 xa, .int .u8 xb]] w fun e w' => e = .returned (.bool true) ∧ Below w.heap.size w w' := by
  have hs := (((Since.refl w).alloc (.cells (gV P lo hi) 25)).alloc (.cells (lV fi pa fa se to) 38)).alloc (.cells #[.int .u8 xa, .int .u8 xb] 64)
  have HG := Lib.hid (((Blk.new w 25 (gV P lo hi)).alloc (.cells (lV fi pa fa se to) 38)).alloc (.cells #[.int .u8 xa, .int .u8 xb] 64))
  have HL := Lib.hid ((Blk.new1 w (.cells (gV P lo hi) 25) 38 (lV fi pa fa se to)).alloc (.cells #[.int .u8 xa, .int .u8 xb] 64))
  have HU := Lib.hid (Blk.new2 w (.cells (gV P lo hi) 25) (.cells (lV fi pa fa se to) 38) 64 #[.int .u8 xa, .int .u8 xb])
  obtain ⟨c0, c1, c2⟩ := HG.out.gcells
  obtain ⟨d0, d1, d2, d3, d4⟩ := HL.out.lcells
  by_cases hp : chkP P lo hi fi pa fa se to = 0
  · have hcc := (chkP_ok hp).1
    obtain ⟨P, lo, hi, F, pa, fa, S, to, rfl, rfl, rfl, rfl, rfl, rfl, rfl, rfl, hlh, hhi, hP, hfit⟩ := nats8 hp
    obtain ⟨m, hm⟩ : ∃ m, hi - lo + 1 = m := ⟨_, rfl⟩
    obtain ⟨r, hr⟩ : ∃ r, xa % m = r := ⟨_, rfl⟩
    obtain ⟨a, ha⟩ : ∃ d, lo + r = d := ⟨_, rfl⟩
    have hrm : r < m := by rw [← hr]; exact Nat.mod_lt _ (by omega)
    have hal : lo ≤ a ∧ a ≤ hi := by omega
    obtain ⟨m2, hm2⟩ : ∃ m, hi - a + 1 = m := ⟨_, rfl⟩
    obtain ⟨r2, hr2⟩ : ∃ r, xb % m2 = r := ⟨_, rfl⟩
    obtain ⟨b, hbd⟩ : ∃ d, a + r2 = d := ⟨_, rfl⟩
    have hrm2 : r2 < m2 := by rw [← hr2]; exact Nat.mod_lt _ (by omega)
    have hbl : a ≤ b ∧ b ≤ hi := by omega
    obtain ⟨dl, hdl0⟩ : ∃ dl, hi - lo = dl := ⟨_, rfl⟩
    obtain ⟨dl2, hdl2⟩ : ∃ dl, hi - a = dl := ⟨_, rfl⟩
    have t1 : IntKind.i64.wrap ((hi : Int) - (lo : Int)) = (dl : Int) := by rw [wrapI (by unfold I64; omega)]; omega
    have t2 : IntKind.i64.wrap ((dl : Int) + 1) = (m : Int) := by rw [wrapI (by unfold I64; omega)]; omega
    have t3 : IntKind.i64.wrap (xa : Int) = (xa : Int) := wrapI (by unfold I64; omega)
    have t4 : IntKind.i64.wrap ((lo : Int) + (r : Int)) = (a : Int) := by rw [wrapI (by unfold I64; omega)]; omega
    have t5 : (xa : Int).tmod (m : Int) = (r : Int) := by rw [← hr]; rfl
    have t6 : IntKind.i64.wrap (r : Int) = (r : Int) := wrapI (by unfold I64; omega)
    have t7 : ¬ (m : Int) = 0 := by omega
    have t7' : ¬ m = 0 := by omega
    have s1 : IntKind.i64.wrap ((hi : Int) - (a : Int)) = (dl2 : Int) := by rw [wrapI (by unfold I64; omega)]; omega
    have s2 : IntKind.i64.wrap ((dl2 : Int) + 1) = (m2 : Int) := by rw [wrapI (by unfold I64; omega)]; omega
    have s3 : IntKind.i64.wrap (xb : Int) = (xb : Int) := wrapI (by unfold I64; omega)
    have s4 : IntKind.i64.wrap ((a : Int) + (r2 : Int)) = (b : Int) := by rw [wrapI (by unfold I64; omega)]; omega
    have s5 : (xb : Int).tmod (m2 : Int) = (r2 : Int) := by rw [← hr2]; rfl
    have s6 : IntKind.i64.wrap (r2 : Int) = (r2 : Int) := wrapI (by unfold I64; omega)
    have s7 : ¬ (m2 : Int) = 0 := by omega
    have s7' : ¬ m2 = 0 := by omega
    obtain ⟨f, hf⟩ : ∃ f : Nat → Nat × Nat, f = fun d => chS P F pa fa S to d := ⟨_, rfl⟩
    have HONE : ∀ d, lo ≤ d → d ≤ hi → ∀ W, Calls Try.prog 27 #[.agg (gV P d d), .agg (lV F pa fa S to)] W fun e w' => e = .returned (.tuple #[.agg (fV (ip (f d))), .agg (fV (ip (f d))), .int .i64 0]) ∧ Below W.heap.size W w' := fun d h1 h2 W => by
      have := Passes_c P d d F pa fa S to W
      rw [pas_one (chkP_of (chkE_one hcc (d := d) (by omega) (by omega)) (chkP_ok hp).2)] at this
      rw [hf]
      exact this
    have hF : F ≤ P := (hfit P (Nat.le_refl P)).f
    have hS : S ≤ P - F := (hfit P (Nat.le_refl P)).s
    have hends := ch_ends (pa := pa) (fa := fa) (to := to) hlh hhi hF hS
    have HPH : Hid (∀ W, Calls Try.prog 27 #[.agg (gV P lo hi), .agg (lV F pa fa S to)] W fun e w' => e = .returned (.tuple #[.agg (fV (ip (f hi))), .agg (fV (ip (f lo))), .int .i64 0]) ∧ Below W.heap.size W w') := fun W => by
      have := Passes_c P lo hi F pa fa S to W
      rw [show pasA P lo hi F pa fa S to = (ip (f hi), ip (f lo), 0) by
        unfold pasA
        rw [if_pos hp]
        simp only [Int.toNat_natCast]
        rw [hends.1, hends.2, hf]] at this
      exact this
    have HPA := Lib.hid (HONE a hal.1 hal.2)
    have HPB := Lib.hid (HONE b (by omega) hbl.2)
    have HPL := Lib.hid (HONE lo (Nat.le_refl _) hlh)
    have HPI := Lib.hid (HONE hi hlh (Nat.le_refl _))
    have hsm : ∀ d, d ≤ hi → Sm (f d) := fun d hd => by rw [hf]; exact chS_sm (hfit d (by omega))
    have hmo : ∀ d e, d ≤ e → e ≤ hi → lt' (f d) (f e) = false := fun d e h1 h2 => by rw [hf]; exact ch_mono h1 (by omega) hF hS
    have HLA : Hid (∀ W, Calls Try.prog 44 #[.agg (fV (ip (f a))), .agg (fV (ip (f b)))] W fun e w' => e = .returned (.bool false) ∧ Below W.heap.size W w') := fun W => by have := rLess_c _ _ W (hsm a (by omega)) (hsm b (by omega)); rw [hmo a b hbl.1 hbl.2] at this; exact this
    have HLB : Hid (∀ W, Calls Try.prog 44 #[.agg (fV (ip (f a))), .agg (fV (ip (f hi)))] W fun e w' => e = .returned (.bool false) ∧ Below W.heap.size W w') := fun W => by have := rLess_c _ _ W (hsm a (by omega)) (hsm hi (by omega)); rw [hmo a hi hal.2 (Nat.le_refl _)] at this; exact this
    have HLC : Hid (∀ W, Calls Try.prog 44 #[.agg (fV (ip (f lo))), .agg (fV (ip (f a)))] W fun e w' => e = .returned (.bool false) ∧ Below W.heap.size W w') := fun W => by have := rLess_c _ _ W (hsm lo (by omega)) (hsm a (by omega)); rw [hmo lo a hal.1 hal.2] at this; exact this
    have hden := den_pos hF hS
    have hfa : 0 < (f a).2 ∧ Nat.gcd (f a).1 (f a).2 = 1 ∧ (f a).1 ≤ (f a).2 := by
      rw [hf]
      show 0 < (chS P F pa fa S to a).2 ∧ Nat.gcd (chS P F pa fa S to a).1 (chS P F pa fa S to a).2 = 1 ∧ (chS P F pa fa S to a).1 ≤ (chS P F pa fa S to a).2
      unfold chS
      obtain ⟨g, hg, e1, e2, e3⟩ := shr_spec (avgS P F pa fa S to a fun _ => 1) hden
      refine ⟨shr_pos _ hden, e3, ?_⟩
      have hle := avgS_le (P := P) (F := F) (pa := pa) (fa := fa) (S := S) (to := to) (b := a) (by omega) (wo := fun _ => 1) (m := 1) (fun _ _ => Nat.le_refl _)
      rw [Nat.mul_one] at hle
      exact Nat.le_of_mul_le_mul_left (by rw [← e1, ← e2]; exact hle) hg
    have HWO : Hid (∀ W, Calls Try.prog 41 #[.agg (fV (ip (f a)))] W fun e w' => e = .returned (.bool true) ∧ Below W.heap.size W w') := fun W => whole_c _ W (by have := (hsm a (by omega)).1; omega) (by have := (hsm a (by omega)).2; omega) hfa.1 hfa.2.1
    obtain ⟨uL, hL_⟩ : ∃ u, ip (f hi) = u := ⟨_, rfl⟩
    obtain ⟨uM, hM_⟩ : ∃ u, ip (f lo) = u := ⟨_, rfl⟩
    obtain ⟨uA, hA_⟩ : ∃ u, ip (f a) = u := ⟨_, rfl⟩
    obtain ⟨uB, hB_⟩ : ∃ u, ip (f b) = u := ⟨_, rfl⟩
    have hle : uA.1 ≤ uA.2 := by rw [← hA_]; show ((f a).1 : Int) ≤ ((f a).2 : Int); omega
    rw [hL_, hM_] at HPH
    rw [hA_] at HPA HLA HLB HLC HWO
    rw [hB_] at HPB HLA
    rw [hM_] at HPL HLC
    rw [hL_] at HPI HLB
    have HCE := Lib.hid hcc
    have HPE := Lib.hid hp
    have HEA := Lib.hid (eqSh uB.1 uB.2)
    have HEB := Lib.hid (eqSh uL.1 uL.2)
    have HEC := Lib.hid (eqSh uM.1 uM.2)
    clear hL_ hM_ hA_ hB_ hfa hden hmo hsm hends hF hS HONE hf hdl0 hdl2 hbl hrm2 hbd hr2 hm2 hal hrm ha hr hm hp hcc hlh hhi hP hfit hxa hxb f
    go_enter Try.func11, Try.ntmps11
    go_wp2_with fail
    refine (HPH.out _).mono ?_
    rintro e v1 ⟨rfl, hb⟩
    replace hs := hs.keep hb
    replace HG := Lib.hid (HG.out.keep hb)
    replace HL := Lib.hid (HL.out.keep hb)
    replace HU := Lib.hid (HU.out.keep hb)
    clear hb
    clear c0 c1 c2 d0 d1 d2 d3 d4
    have hz1 := Lib.hid ((Blk.new v1 41 (fV (0, 0))).alloc (.cells (fV (0, 0)) 41))
    have hz2 := Lib.hid ((Blk.new1 v1 (.cells (fV (0, 0)) 41) 41 (fV (0, 0))).rowFar (g' := v1.heap.size) (by omega) (fV uL))
    have hq : Below v1.heap.size v1 ((((v1.alloc (.cells (fV (0, 0)) 41)).alloc (.cells (fV (0, 0)) 41)).setRow v1.heap.size (fV uL)).setRow (v1.heap.size + 1) (fV uM)) := (((((Since.refl v1).alloc (.cells (fV (0, 0)) 41)).alloc (.cells (fV (0, 0)) 41)).row (g := v1.heap.size) (Nat.le_refl _) (fV uL)).row (g := v1.heap.size + 1) (by omega) (fV uM)).1
    have H7 := Lib.hid ((hz1.out.row (fV uL)).rowFar (g' := v1.heap.size + 1) (by omega) (fV uM))
    have H8 := Lib.hid (hz2.out.row (fV uM))
    replace hs := hs.keep hq
    replace HG := Lib.hid (HG.out.keep hq)
    replace HL := Lib.hid (HL.out.keep hq)
    replace HU := Lib.hid (HU.out.keep hq)
    obtain ⟨c0, c1, c2⟩ := HG.out.gcells
    go_wp2_with (first | (refine wpList_store_row rfl 41 _ _ rfl (v1.heap.size) _ rfl rfl 41 _ hz1.out (by kernel_rfl) rfl (by simp [Value.oneCell']) ?_) | (refine wpList_store_row rfl 41 _ _ rfl (v1.heap.size + 1) _ rfl rfl 41 _ hz2.out (by kernel_rfl) rfl (by simp [Value.oneCell']) ?_))
    obtain ⟨kH7, hk⟩ : ∃ k, v1.heap.size = k := ⟨_, rfl⟩
    obtain ⟨v2, hu⟩ : ∃ u, (((v1.alloc (.cells (fV (0, 0)) 41)).alloc (.cells (fV (0, 0)) 41)).setRow v1.heap.size (fV uL)).setRow (v1.heap.size + 1) (fV uM) = u := ⟨_, rfl⟩
    rw [hu] at hs HG HL HU H7 H8 ⊢
    rw [hk] at H7 H8 ⊢
    clear hu hk hq hz1 hz2 c0 c1 c2
    refine (rCheck_c P lo hi _).mono ?_
    rintro e v3 ⟨rfl, hb⟩
    replace hs := hs.keep hb
    replace HG := Lib.hid (HG.out.keep hb)
    replace HL := Lib.hid (HL.out.keep hb)
    replace HU := Lib.hid (HU.out.keep hb)
    replace H7 := Lib.hid (H7.out.keep hb)
    replace H8 := Lib.hid (H8.out.keep hb)
    clear hb
    rw [HCE.out]
    obtain ⟨c0, c1, c2⟩ := HG.out.gcells
    obtain ⟨d0, d1, d2, d3, d4⟩ := HL.out.lcells
    go_wp2_with fail
    refine (rPlan_c P lo hi F pa fa S to _).mono ?_
    rintro e v4 ⟨rfl, hb⟩
    replace hs := hs.keep hb
    replace HG := Lib.hid (HG.out.keep hb)
    replace HL := Lib.hid (HL.out.keep hb)
    replace HU := Lib.hid (HU.out.keep hb)
    replace H7 := Lib.hid (H7.out.keep hb)
    replace H8 := Lib.hid (H8.out.keep hb)
    clear hb
    rw [HPE.out]
    clear c0 c1 c2 d0 d1 d2 d3 d4
    obtain ⟨c0, c1, c2⟩ := HG.out.gcells
    have x0 := HU.out.cell 0
    have x1 := HU.out.cell 1
    simp only [List.getElem?_toArray, List.getElem?_cons_zero, List.getElem?_cons_succ] at x0 x1
    have HGd : Hid (∀ k, (((Blk (v4.drewN k) w.heap.size 25 (gV P lo hi) ∧ Blk (v4.drewN k) (w.heap.size + 1) 38 (lV F pa fa S to)) ∧ Blk (v4.drewN k) (w.heap.size + 1 + 1) 64 #[.int .u8 xa, .int .u8 xb]) ∧ Blk (v4.drewN k) kH7 41 (fV uL)) ∧ Blk (v4.drewN k) (kH7 + 1) 41 (fV uM)) := fun k => ⟨⟨⟨⟨HG.out, HL.out⟩, HU.out⟩, H7.out⟩, H8.out⟩
    have HSd : Hid (∀ k, Since w (v4.drewN k)) := fun k => ⟨bdrew hs.1 k, hs.2⟩
    go_wp2_with fail
    go_quiet (fail)
    obtain ⟨v5, hv5⟩ : ∃ v5, v4.drewN nq = v5 := ⟨_, rfl⟩
    have hs5 := HSd.out nq
    have HI := Lib.hid (HGd.out nq)
    rw [hv5] at hs5 HI ⊢
    clear hv5 c0 c1 c2 x0 x1 HGd HSd hs HG HL HU H7 H8
    have HG := Lib.hid HI.out.1.1.1.1
    have HL := Lib.hid HI.out.1.1.1.2
    have HU := Lib.hid HI.out.1.1.2
    have H7 := Lib.hid HI.out.1.2
    have H8 := Lib.hid HI.out.2
    clear HI
    obtain ⟨c0, c1, c2⟩ := HG.out.gcells
    have x0 := HU.out.cell 0
    have x1 := HU.out.cell 1
    simp only [List.getElem?_toArray, List.getElem?_cons_zero, List.getElem?_cons_succ] at x0 x1
    go_wp2_with fail
    clear c0 c1 c2 x0 x1 HU
    obtain ⟨z, hz⟩ : ∃ z, v5.heap.size = z := ⟨_, rfl⟩
    obtain ⟨I, hI⟩ : ∃ I : Unit → World → Prop, I = fun _ X => ((Blk X w.heap.size 25 (gV P lo hi) ∧ Blk X (w.heap.size + 1) 38 (lV F pa fa S to)) ∧ Blk X kH7 41 (fV uL)) ∧ Blk X (kH7 + 1) 41 (fV uM) := ⟨_, rfl⟩
    have hA : AllFrom z I := by
      rw [hI]
      have b0 := HG.out.lt
      have b1 := HL.out.lt
      have b2 := H7.out.lt
      have b3 := H8.out.lt
      exact ((((AllFrom.blk (by omega) _ _).and (AllFrom.blk (by omega) _ _)).and (AllFrom.blk (by omega) _ _)).and (AllFrom.blk (by omega) _ _))
    have hw : w.heap.size ≤ z := by rw [← hz]; exact hs5.2
    have hI0 : I () v5 := by rw [hI]; exact ⟨⟨⟨HG.out, HL.out⟩, H7.out⟩, H8.out⟩
    have hIo : ∀ X, I () X → ((Blk X w.heap.size 25 (gV P lo hi) ∧ Blk X (w.heap.size + 1) 38 (lV F pa fa S to)) ∧ Blk X kH7 41 (fV uL)) ∧ Blk X (kH7 + 1) 41 (fV uM) := fun X h => by rw [hI] at h; exact h
    clear hI HG HL H7 H8
    have hzz : z ≤ v5.heap.size := Nat.le_of_eq hz.symm
    clear hz
    try dsimp only [Act.put]
    refine Vals9.region (fun σ X => J6 w z I uA (σ 9) (σ 10) (σ 11) (σ 12) X) [some 84, some 85, some 86, some 87, some 88, some 83, some 89, some 90, some 91, some 12, some 13, none, none, some 14] [.is (.agg (gV P lo hi)), .is (.int .i64 (a : Nat)), .is (.agg (gV P a a)), .is (.agg (lV F pa fa S to)), .is (.tuple #[.agg (fV uA), .agg (fV uA), .int .i64 0]), .is (.tuple #[.agg (fV uA), .agg (fV uA), .int .i64 0]), .is (.agg (fV uA)), .is (.agg (fV uA)), .is (.int .i64 0), .any, .any, .any, .any, .is (.int .i64 0)] (by kernel_rfl) (by kernel_rfl) (by kernel_rfl) (by kernel_rfl) (by kernel_rfl) (by kernel_rfl) (⟨B1.start hzz hs5.drew (hA.keep hI0 (Below.refl _ _).drew), B1.start hzz hs5.drew (hA.keep hI0 (Below.refl _ _).drew), fun v v1 hv => by cases hv⟩) ?hsteps ?hfin
    case hsteps =>
      refine Vals9.Steps.run rfl ?_ ?_
      · intro a W σ hJ pre K hK
        have e3 := pre.2.2 3 _ (by kernel_rfl) rfl
        clear pre
        simp only [Array.getD_eq_getD_getElem?, List.getElem?_toArray, List.getElem?_cons_zero, List.getElem?_cons_succ, Option.getD_some] at e3
        have hS9 := hJ
        have hW9 : J6 w z I uA (σ 9) (σ 10) (σ 11) (σ 12) W := hS9
        obtain ⟨⟨⟨q0, q1⟩, q2⟩, q3⟩ := hIo W hW9.a.inv
        obtain ⟨c0, c1, c2⟩ := q0.gcells
        obtain ⟨d0, d1, d2, d3, d4⟩ := q1.lcells
        go_simp
        exact hK _ hJ
      refine Vals9.Steps.run rfl ?_ ?_
      · intro a W σ hJ pre K hK
        have e10 := pre.2.2 10 _ (by kernel_rfl) rfl
        clear pre
        simp only [Array.getD_eq_getD_getElem?, List.getElem?_toArray, List.getElem?_cons_zero, List.getElem?_cons_succ, Option.getD_some] at e10
        go_simp
        exact hK _ hJ
      refine Vals9.Steps.run rfl ?_ ?_
      · intro a W σ hJ pre K hK
        have e84 := pre.1 0 84 _ (by kernel_rfl) rfl rfl
        have e85 := pre.1 1 85 _ (by kernel_rfl) rfl rfl
        clear pre
        simp only [Array.getD_eq_getD_getElem?, List.getElem?_toArray, List.getElem?_cons_zero, List.getElem?_cons_succ, Option.getD_some] at e84 e85
        go_simp
        refine (at_c _ _ _ _ _).mono ?_
        rintro e w' ⟨rfl, hb'⟩
        have hJ2 : J6 w z I uA (σ 9) (σ 10) (σ 11) (σ 12) W := hJ
        exact hK _ ⟨hJ2.a.keep hA hb', hJ2.b.keep hA hb', hJ2.ne⟩
      refine Vals9.Steps.run rfl ?_ ?_
      · intro a W σ hJ pre K hK
        have e4 := pre.2.2 4 _ (by kernel_rfl) rfl
        clear pre
        simp only [Array.getD_eq_getD_getElem?, List.getElem?_toArray, List.getElem?_cons_zero, List.getElem?_cons_succ, Option.getD_some] at e4
        have hS9 := hJ
        have hW9 : J6 w z I uA (σ 9) (σ 10) (σ 11) (σ 12) W := hS9
        obtain ⟨⟨⟨q0, q1⟩, q2⟩, q3⟩ := hIo W hW9.a.inv
        obtain ⟨c0, c1, c2⟩ := q0.gcells
        obtain ⟨d0, d1, d2, d3, d4⟩ := q1.lcells
        go_simp
        exact hK _ hJ
      refine Vals9.Steps.run rfl ?_ ?_
      · intro a W σ hJ pre K hK
        have e86 := pre.1 2 86 _ (by kernel_rfl) rfl rfl
        have e87 := pre.1 3 87 _ (by kernel_rfl) rfl rfl
        clear pre
        simp only [Array.getD_eq_getD_getElem?, List.getElem?_toArray, List.getElem?_cons_zero, List.getElem?_cons_succ, Option.getD_some] at e86 e87
        go_simp
        refine (HPA.out _).mono ?_
        rintro e w' ⟨rfl, hb'⟩
        have hJ2 : J6 w z I uA (σ 9) (σ 10) (σ 11) (σ 12) W := hJ
        exact hK _ ⟨hJ2.a.keep hA hb', hJ2.b.keep hA hb', hJ2.ne⟩
      refine Vals9.Steps.run rfl ?_ ?_
      · intro a W σ hJ pre K hK
        have e88 := pre.1 4 88 _ (by kernel_rfl) rfl rfl
        clear pre
        simp only [Array.getD_eq_getD_getElem?, List.getElem?_toArray, List.getElem?_cons_zero, List.getElem?_cons_succ, Option.getD_some] at e88
        go_simp
        exact hK _ hJ
      refine Vals9.Steps.run rfl ?_ ?_
      · intro a W σ hJ pre K hK
        have e83 := pre.1 5 83 _ (by kernel_rfl) rfl rfl
        clear pre
        simp only [Array.getD_eq_getD_getElem?, List.getElem?_toArray, List.getElem?_cons_zero, List.getElem?_cons_succ, Option.getD_some] at e83
        go_simp
        exact hK _ hJ
      refine Vals9.Steps.run rfl ?_ ?_
      · intro a W σ hJ pre K hK
        have e83 := pre.1 5 83 _ (by kernel_rfl) rfl rfl
        clear pre
        simp only [Array.getD_eq_getD_getElem?, List.getElem?_toArray, List.getElem?_cons_zero, List.getElem?_cons_succ, Option.getD_some] at e83
        go_simp
        exact hK _ hJ
      refine Vals9.Steps.run rfl ?_ ?_
      · intro a W σ hJ pre K hK
        have e83 := pre.1 5 83 _ (by kernel_rfl) rfl rfl
        clear pre
        simp only [Array.getD_eq_getD_getElem?, List.getElem?_toArray, List.getElem?_cons_zero, List.getElem?_cons_succ, Option.getD_some] at e83
        go_simp
        exact hK _ hJ
      refine Vals9.Steps.mark rfl ?_ ?_
      · intro a W σ hJ hn pre K hK
        have hJ2 : J6 w z I uA (σ 9) (σ 10) (σ 11) (σ 12) W := hJ
        rw [hn] at hJ2
        have hb9 : Below W.heap.size W (W.alloc (.cells (fV (0, 0)) 41)) := (Below.refl _ _).alloc (Nat.le_refl _) _
        have hfr := hJ2.b.fresh
        go_simp
        exact hK _ _ ⟨hJ2.a.mk1 hA, hJ2.b.keep hA hb9, fun v v1 h1 h2 e => hfr v1 h2 (by rw [← e]; exact (Option.some.inj h1).symm)⟩
      refine Vals9.Steps.mark rfl ?_ ?_
      · intro a W σ hJ hn pre K hK
        have hJ2 : J6 w z I uA (σ 9) (σ 10) (σ 11) (σ 12) W := hJ
        rw [hn] at hJ2
        have hb9 : Below W.heap.size W (W.alloc (.cells (fV (0, 0)) 41)) := (Below.refl _ _).alloc (Nat.le_refl _) _
        have hfr := hJ2.a.fresh
        go_simp
        exact hK _ _ ⟨hJ2.a.keep hA hb9, hJ2.b.mk1 hA, fun v v1 h1 h2 e => hfr v h1 (by rw [e]; exact (Option.some.inj h2).symm)⟩
      refine Vals9.Steps.mark rfl ?_ ?_
      · intro a W σ hJ hn pre K hK
        obtain ⟨v12, s12, e12⟩ := pre.2.1 9 (by kernel_rfl) rfl
        replace e12 : a.tmps.getD 12 undef = v12 := e12 12 rfl
        have e89 := pre.1 6 89 _ (by kernel_rfl) rfl rfl
        simp only [Array.getD_eq_getD_getElem?, List.getElem?_toArray, List.getElem?_cons_zero, List.getElem?_cons_succ, Option.getD_some] at e12 e89
        have hJ2 : J6 w z I uA (σ 9) (σ 10) (σ 11) (σ 12) W := hJ
        rw [hn, s12] at hJ2
        obtain ⟨g7, hv7, hg7, ⟨-, hB⟩ | ⟨q, -⟩⟩ := hJ2.a.nw _ rfl
        · subst hv7
          refine wp_store_row 41 _ _ rfl g7 (fV uA) (by simpa [Act.eval] using e12) (by simpa [Act.eval] using e89) 41 _ hB (by kernel_rfl) rfl (by simp [Value.oneCell']) ?_
          have h2 := hJ2.a.put hw hA hg7 hB undef
          have h3 := hJ2.b.far hw hA hg7 (fun v hv e => hJ2.ne _ v rfl hv e.symm) (fV uA)
          have h4 := hJ2.ne
          rw [← s12] at h2 h4
          exact hK undef _ ⟨h2, h3, h4⟩
        · exact absurd rfl q
      refine Vals9.Steps.mark rfl ?_ ?_
      · intro a W σ hJ hn pre K hK
        obtain ⟨v13, s13, e13⟩ := pre.2.1 10 (by kernel_rfl) rfl
        replace e13 : a.tmps.getD 13 undef = v13 := e13 13 rfl
        have e90 := pre.1 7 90 _ (by kernel_rfl) rfl rfl
        simp only [Array.getD_eq_getD_getElem?, List.getElem?_toArray, List.getElem?_cons_zero, List.getElem?_cons_succ, Option.getD_some] at e13 e90
        have hJ2 : J6 w z I uA (σ 9) (σ 10) (σ 11) (σ 12) W := hJ
        rw [hn, s13] at hJ2
        obtain ⟨g7, hv7, hg7, ⟨-, hB⟩ | ⟨q, -⟩⟩ := hJ2.b.nw _ rfl
        · subst hv7
          refine wp_store_row 41 _ _ rfl g7 (fV uA) (by simpa [Act.eval] using e13) (by simpa [Act.eval] using e90) 41 _ hB (by kernel_rfl) rfl (by simp [Value.oneCell']) ?_
          have h2 := hJ2.b.put hw hA hg7 hB undef
          have h3 := hJ2.a.far hw hA hg7 (fun v hv e => hJ2.ne v _ hv rfl e) (fV uA)
          have h4 := hJ2.ne
          rw [← s13] at h2 h4
          exact hK undef _ ⟨h3, h2, h4⟩
        · exact absurd rfl q
      refine Vals9.Steps.run rfl ?_ ?_
      · intro a W σ hJ pre K hK
        have e91 := pre.1 8 91 _ (by kernel_rfl) rfl rfl
        clear pre
        simp only [Array.getD_eq_getD_getElem?, List.getElem?_toArray, List.getElem?_cons_zero, List.getElem?_cons_succ, Option.getD_some] at e91
        go_simp
        exact hK _ hJ
      exact Vals9.Steps.nil
    case hfin =>
    rintro X6 σ hJ
    simp only [Vals9.All]
    intro va hva vb hvb vc hvc vd hvd
    have hJ2 : J6 w z I uA (σ 9) (σ 10) (σ 11) (σ 12) X6 := hJ
    rw [hvc, hvd] at hJ2
    obtain ⟨g6a, rfl, -, ⟨q, -⟩ | ⟨-, hBa⟩⟩ := hJ2.a.nw _ hva
    · cases q
    obtain ⟨g6b, rfl, -, ⟨q, -⟩ | ⟨-, hBb⟩⟩ := hJ2.b.nw _ hvb
    · cases q
    have hs6 := hJ2.a.sn
    have HI := Lib.hid (hIo X6 hJ2.a.inv)
    have HG := Lib.hid HI.out.1.1.1
    have HL := Lib.hid HI.out.1.1.2
    have H7 := Lib.hid HI.out.1.2
    have H8 := Lib.hid HI.out.2
    have HA6 := Lib.hid hBa
    clear hJ hJ2 hva hvb hvc hvd hBa hBb HI hs5 hI0 hA hIo hzz hw I z
    simp only [Vals.putAll, List.setIfInBounds_toArray, List.set_cons_zero, List.set_cons_succ]
    go_wp2_with fail
    obtain ⟨z, hz⟩ : ∃ z, X6.heap.size = z := ⟨_, rfl⟩
    obtain ⟨I, hI⟩ : ∃ I : Unit → World → Prop, I = fun _ X => (((Blk X w.heap.size 25 (gV P lo hi) ∧ Blk X (w.heap.size + 1) 38 (lV F pa fa S to)) ∧ Blk X kH7 41 (fV uL)) ∧ Blk X (kH7 + 1) 41 (fV uM)) ∧ Blk X g6a 41 (fV uA) := ⟨_, rfl⟩
    have hA : AllFrom z I := by
      rw [hI]
      have b0 := HG.out.lt
      have b1 := HL.out.lt
      have b2 := H7.out.lt
      have b3 := H8.out.lt
      have b4 := HA6.out.lt
      exact (((((AllFrom.blk (by omega) _ _).and (AllFrom.blk (by omega) _ _)).and (AllFrom.blk (by omega) _ _)).and (AllFrom.blk (by omega) _ _)).and (AllFrom.blk (by omega) _ _))
    have hw : w.heap.size ≤ z := by rw [← hz]; exact hs6.2
    have hI0 : I () X6 := by rw [hI]; exact ⟨⟨⟨⟨HG.out, HL.out⟩, H7.out⟩, H8.out⟩, HA6.out⟩
    have hIo : ∀ X, I () X → (((Blk X w.heap.size 25 (gV P lo hi) ∧ Blk X (w.heap.size + 1) 38 (lV F pa fa S to)) ∧ Blk X kH7 41 (fV uL)) ∧ Blk X (kH7 + 1) 41 (fV uM)) ∧ Blk X g6a 41 (fV uA) := fun X h => by rw [hI] at h; exact h
    clear hI HG HL H7 H8 HA6
    have hzz : z ≤ X6.heap.size := Nat.le_of_eq hz.symm
    clear hz
    try dsimp only [Act.put]
    refine Vals9.region (fun σ X => J6 w z I uB (σ 9) (σ 10) (σ 11) (σ 12) X) [some 93, some 94, some 95, some 96, some 97, some 92, some 98, some 99, some 100, some 15, some 16, none, none, some 17] [.is (.agg (gV P lo hi)), .is (.int .i64 (b : Nat)), .is (.agg (gV P b b)), .is (.agg (lV F pa fa S to)), .is (.tuple #[.agg (fV uB), .agg (fV uB), .int .i64 0]), .is (.tuple #[.agg (fV uB), .agg (fV uB), .int .i64 0]), .is (.agg (fV uB)), .is (.agg (fV uB)), .is (.int .i64 0), .any, .any, .any, .any, .is (.int .i64 0)] (by kernel_rfl) (by kernel_rfl) (by kernel_rfl) (by kernel_rfl) (by kernel_rfl) (by kernel_rfl) (⟨B1.start hzz hs6.drew (hA.keep hI0 (Below.refl _ _).drew), B1.start hzz hs6.drew (hA.keep hI0 (Below.refl _ _).drew), fun v v1 hv => by cases hv⟩) ?hsteps ?hfin
    case hsteps =>
      refine Vals9.Steps.run rfl ?_ ?_
      · intro a W σ hJ pre K hK
        have e3 := pre.2.2 3 _ (by kernel_rfl) rfl
        clear pre
        simp only [Array.getD_eq_getD_getElem?, List.getElem?_toArray, List.getElem?_cons_zero, List.getElem?_cons_succ, Option.getD_some] at e3
        have hS9 := hJ
        have hW9 : J6 w z I uB (σ 9) (σ 10) (σ 11) (σ 12) W := hS9
        obtain ⟨⟨⟨⟨q0, q1⟩, q2⟩, q3⟩, q4⟩ := hIo W hW9.a.inv
        obtain ⟨c0, c1, c2⟩ := q0.gcells
        obtain ⟨d0, d1, d2, d3, d4⟩ := q1.lcells
        go_simp
        exact hK _ hJ
      refine Vals9.Steps.run rfl ?_ ?_
      · intro a W σ hJ pre K hK
        have e11 := pre.2.2 11 _ (by kernel_rfl) rfl
        clear pre
        simp only [Array.getD_eq_getD_getElem?, List.getElem?_toArray, List.getElem?_cons_zero, List.getElem?_cons_succ, Option.getD_some] at e11
        go_simp
        exact hK _ hJ
      refine Vals9.Steps.run rfl ?_ ?_
      · intro a W σ hJ pre K hK
        have e93 := pre.1 0 93 _ (by kernel_rfl) rfl rfl
        have e94 := pre.1 1 94 _ (by kernel_rfl) rfl rfl
        clear pre
        simp only [Array.getD_eq_getD_getElem?, List.getElem?_toArray, List.getElem?_cons_zero, List.getElem?_cons_succ, Option.getD_some] at e93 e94
        go_simp
        refine (at_c _ _ _ _ _).mono ?_
        rintro e w' ⟨rfl, hb'⟩
        have hJ2 : J6 w z I uB (σ 9) (σ 10) (σ 11) (σ 12) W := hJ
        exact hK _ ⟨hJ2.a.keep hA hb', hJ2.b.keep hA hb', hJ2.ne⟩
      refine Vals9.Steps.run rfl ?_ ?_
      · intro a W σ hJ pre K hK
        have e4 := pre.2.2 4 _ (by kernel_rfl) rfl
        clear pre
        simp only [Array.getD_eq_getD_getElem?, List.getElem?_toArray, List.getElem?_cons_zero, List.getElem?_cons_succ, Option.getD_some] at e4
        have hS9 := hJ
        have hW9 : J6 w z I uB (σ 9) (σ 10) (σ 11) (σ 12) W := hS9
        obtain ⟨⟨⟨⟨q0, q1⟩, q2⟩, q3⟩, q4⟩ := hIo W hW9.a.inv
        obtain ⟨c0, c1, c2⟩ := q0.gcells
        obtain ⟨d0, d1, d2, d3, d4⟩ := q1.lcells
        go_simp
        exact hK _ hJ
      refine Vals9.Steps.run rfl ?_ ?_
      · intro a W σ hJ pre K hK
        have e95 := pre.1 2 95 _ (by kernel_rfl) rfl rfl
        have e96 := pre.1 3 96 _ (by kernel_rfl) rfl rfl
        clear pre
        simp only [Array.getD_eq_getD_getElem?, List.getElem?_toArray, List.getElem?_cons_zero, List.getElem?_cons_succ, Option.getD_some] at e95 e96
        go_simp
        refine (HPB.out _).mono ?_
        rintro e w' ⟨rfl, hb'⟩
        have hJ2 : J6 w z I uB (σ 9) (σ 10) (σ 11) (σ 12) W := hJ
        exact hK _ ⟨hJ2.a.keep hA hb', hJ2.b.keep hA hb', hJ2.ne⟩
      refine Vals9.Steps.run rfl ?_ ?_
      · intro a W σ hJ pre K hK
        have e97 := pre.1 4 97 _ (by kernel_rfl) rfl rfl
        clear pre
        simp only [Array.getD_eq_getD_getElem?, List.getElem?_toArray, List.getElem?_cons_zero, List.getElem?_cons_succ, Option.getD_some] at e97
        go_simp
        exact hK _ hJ
      refine Vals9.Steps.run rfl ?_ ?_
      · intro a W σ hJ pre K hK
        have e92 := pre.1 5 92 _ (by kernel_rfl) rfl rfl
        clear pre
        simp only [Array.getD_eq_getD_getElem?, List.getElem?_toArray, List.getElem?_cons_zero, List.getElem?_cons_succ, Option.getD_some] at e92
        go_simp
        exact hK _ hJ
      refine Vals9.Steps.run rfl ?_ ?_
      · intro a W σ hJ pre K hK
        have e92 := pre.1 5 92 _ (by kernel_rfl) rfl rfl
        clear pre
        simp only [Array.getD_eq_getD_getElem?, List.getElem?_toArray, List.getElem?_cons_zero, List.getElem?_cons_succ, Option.getD_some] at e92
        go_simp
        exact hK _ hJ
      refine Vals9.Steps.run rfl ?_ ?_
      · intro a W σ hJ pre K hK
        have e92 := pre.1 5 92 _ (by kernel_rfl) rfl rfl
        clear pre
        simp only [Array.getD_eq_getD_getElem?, List.getElem?_toArray, List.getElem?_cons_zero, List.getElem?_cons_succ, Option.getD_some] at e92
        go_simp
        exact hK _ hJ
      refine Vals9.Steps.mark rfl ?_ ?_
      · intro a W σ hJ hn pre K hK
        have hJ2 : J6 w z I uB (σ 9) (σ 10) (σ 11) (σ 12) W := hJ
        rw [hn] at hJ2
        have hb9 : Below W.heap.size W (W.alloc (.cells (fV (0, 0)) 41)) := (Below.refl _ _).alloc (Nat.le_refl _) _
        have hfr := hJ2.b.fresh
        go_simp
        exact hK _ _ ⟨hJ2.a.mk1 hA, hJ2.b.keep hA hb9, fun v v1 h1 h2 e => hfr v1 h2 (by rw [← e]; exact (Option.some.inj h1).symm)⟩
      refine Vals9.Steps.mark rfl ?_ ?_
      · intro a W σ hJ hn pre K hK
        have hJ2 : J6 w z I uB (σ 9) (σ 10) (σ 11) (σ 12) W := hJ
        rw [hn] at hJ2
        have hb9 : Below W.heap.size W (W.alloc (.cells (fV (0, 0)) 41)) := (Below.refl _ _).alloc (Nat.le_refl _) _
        have hfr := hJ2.a.fresh
        go_simp
        exact hK _ _ ⟨hJ2.a.keep hA hb9, hJ2.b.mk1 hA, fun v v1 h1 h2 e => hfr v h1 (by rw [e]; exact (Option.some.inj h2).symm)⟩
      refine Vals9.Steps.mark rfl ?_ ?_
      · intro a W σ hJ hn pre K hK
        obtain ⟨v15, s15, e15⟩ := pre.2.1 9 (by kernel_rfl) rfl
        replace e15 : a.tmps.getD 15 undef = v15 := e15 15 rfl
        have e98 := pre.1 6 98 _ (by kernel_rfl) rfl rfl
        simp only [Array.getD_eq_getD_getElem?, List.getElem?_toArray, List.getElem?_cons_zero, List.getElem?_cons_succ, Option.getD_some] at e15 e98
        have hJ2 : J6 w z I uB (σ 9) (σ 10) (σ 11) (σ 12) W := hJ
        rw [hn, s15] at hJ2
        obtain ⟨g7, hv7, hg7, ⟨-, hB⟩ | ⟨q, -⟩⟩ := hJ2.a.nw _ rfl
        · subst hv7
          refine wp_store_row 41 _ _ rfl g7 (fV uB) (by simpa [Act.eval] using e15) (by simpa [Act.eval] using e98) 41 _ hB (by kernel_rfl) rfl (by simp [Value.oneCell']) ?_
          have h2 := hJ2.a.put hw hA hg7 hB undef
          have h3 := hJ2.b.far hw hA hg7 (fun v hv e => hJ2.ne _ v rfl hv e.symm) (fV uB)
          have h4 := hJ2.ne
          rw [← s15] at h2 h4
          exact hK undef _ ⟨h2, h3, h4⟩
        · exact absurd rfl q
      refine Vals9.Steps.mark rfl ?_ ?_
      · intro a W σ hJ hn pre K hK
        obtain ⟨v16, s16, e16⟩ := pre.2.1 10 (by kernel_rfl) rfl
        replace e16 : a.tmps.getD 16 undef = v16 := e16 16 rfl
        have e99 := pre.1 7 99 _ (by kernel_rfl) rfl rfl
        simp only [Array.getD_eq_getD_getElem?, List.getElem?_toArray, List.getElem?_cons_zero, List.getElem?_cons_succ, Option.getD_some] at e16 e99
        have hJ2 : J6 w z I uB (σ 9) (σ 10) (σ 11) (σ 12) W := hJ
        rw [hn, s16] at hJ2
        obtain ⟨g7, hv7, hg7, ⟨-, hB⟩ | ⟨q, -⟩⟩ := hJ2.b.nw _ rfl
        · subst hv7
          refine wp_store_row 41 _ _ rfl g7 (fV uB) (by simpa [Act.eval] using e16) (by simpa [Act.eval] using e99) 41 _ hB (by kernel_rfl) rfl (by simp [Value.oneCell']) ?_
          have h2 := hJ2.b.put hw hA hg7 hB undef
          have h3 := hJ2.a.far hw hA hg7 (fun v hv e => hJ2.ne v _ hv rfl e) (fV uB)
          have h4 := hJ2.ne
          rw [← s16] at h2 h4
          exact hK undef _ ⟨h3, h2, h4⟩
        · exact absurd rfl q
      refine Vals9.Steps.run rfl ?_ ?_
      · intro a W σ hJ pre K hK
        have e100 := pre.1 8 100 _ (by kernel_rfl) rfl rfl
        clear pre
        simp only [Array.getD_eq_getD_getElem?, List.getElem?_toArray, List.getElem?_cons_zero, List.getElem?_cons_succ, Option.getD_some] at e100
        go_simp
        exact hK _ hJ
      exact Vals9.Steps.nil
    case hfin =>
    rintro X7 σ hJ
    simp only [Vals9.All]
    intro va hva vb hvb vc hvc vd hvd
    have hJ2 : J6 w z I uB (σ 9) (σ 10) (σ 11) (σ 12) X7 := hJ
    rw [hvc, hvd] at hJ2
    obtain ⟨g7a, rfl, -, ⟨q, -⟩ | ⟨-, hBa⟩⟩ := hJ2.a.nw _ hva
    · cases q
    obtain ⟨g7b, rfl, -, ⟨q, -⟩ | ⟨-, hBb⟩⟩ := hJ2.b.nw _ hvb
    · cases q
    have hs7 := hJ2.a.sn
    have HI := Lib.hid (hIo X7 hJ2.a.inv)
    have HG := Lib.hid HI.out.1.1.1.1
    have HL := Lib.hid HI.out.1.1.1.2
    have H7 := Lib.hid HI.out.1.1.2
    have H8 := Lib.hid HI.out.1.2
    have HA6 := Lib.hid HI.out.2
    have HB7 := Lib.hid hBa
    have HC7 := Lib.hid hBb
    clear hJ hJ2 hva hvb hvc hvd hBa hBb HI hs6 hI0 hA hIo hzz hw I z
    simp only [Vals.putAll, List.setIfInBounds_toArray, List.set_cons_zero, List.set_cons_succ]
    go_wp2_with fail
    obtain ⟨z, hz⟩ : ∃ z, X7.heap.size = z := ⟨_, rfl⟩
    obtain ⟨I, hI⟩ : ∃ I : Unit → World → Prop, I = fun _ X => (((((Blk X w.heap.size 25 (gV P lo hi) ∧ Blk X (w.heap.size + 1) 38 (lV F pa fa S to)) ∧ Blk X kH7 41 (fV uL)) ∧ Blk X (kH7 + 1) 41 (fV uM)) ∧ Blk X g6a 41 (fV uA)) ∧ Blk X g7a 41 (fV uB)) ∧ Blk X g7b 41 (fV uB) := ⟨_, rfl⟩
    have hA : AllFrom z I := by
      rw [hI]
      have b0 := HG.out.lt
      have b1 := HL.out.lt
      have b2 := H7.out.lt
      have b3 := H8.out.lt
      have b4 := HA6.out.lt
      have b5 := HB7.out.lt
      have b6 := HC7.out.lt
      exact (((((((AllFrom.blk (by omega) _ _).and (AllFrom.blk (by omega) _ _)).and (AllFrom.blk (by omega) _ _)).and (AllFrom.blk (by omega) _ _)).and (AllFrom.blk (by omega) _ _)).and (AllFrom.blk (by omega) _ _)).and (AllFrom.blk (by omega) _ _))
    have hw : w.heap.size ≤ z := by rw [← hz]; exact hs7.2
    have hI0 : I () X7 := by rw [hI]; exact ⟨⟨⟨⟨⟨⟨HG.out, HL.out⟩, H7.out⟩, H8.out⟩, HA6.out⟩, HB7.out⟩, HC7.out⟩
    have hIo : ∀ X, I () X → (((((Blk X w.heap.size 25 (gV P lo hi) ∧ Blk X (w.heap.size + 1) 38 (lV F pa fa S to)) ∧ Blk X kH7 41 (fV uL)) ∧ Blk X (kH7 + 1) 41 (fV uM)) ∧ Blk X g6a 41 (fV uA)) ∧ Blk X g7a 41 (fV uB)) ∧ Blk X g7b 41 (fV uB) := fun X h => by rw [hI] at h; exact h
    clear hI HG HL H7 H8 HA6 HB7 HC7
    have hzz : z ≤ X7.heap.size := Nat.le_of_eq hz.symm
    clear hz
    try dsimp only [Act.put]
    refine Vals9.region (fun σ X => J6 w z I uM (σ 11) (σ 12) (σ 13) (σ 14) X) [some 102, some 103, some 104, some 105, some 106, some 107, some 108, some 101, some 109, some 110, some 111, some 18, some 19, none, none, some 20] [.is (.agg (gV P lo hi)), .is ?_, .is ?_, .is (.int .i64 (lo : Nat)), .is (.agg (gV P lo lo)), .is (.agg (lV F pa fa S to)), .is (.tuple #[.agg (fV uM), .agg (fV uM), .int .i64 0]), .is (.tuple #[.agg (fV uM), .agg (fV uM), .int .i64 0]), .is (.agg (fV uM)), .is (.agg (fV uM)), .is (.int .i64 0), .any, .any, .any, .any, .is (.int .i64 0)] (by kernel_rfl) (by kernel_rfl) (by kernel_rfl) (by kernel_rfl) (by kernel_rfl) (by kernel_rfl) (⟨B1.start hzz hs7.drew (hA.keep hI0 (Below.refl _ _).drew), B1.start hzz hs7.drew (hA.keep hI0 (Below.refl _ _).drew), fun v v1 hv => by cases hv⟩) ?hsteps ?hfin
    case hsteps =>
      refine Vals9.Steps.run rfl ?_ ?_
      · intro a W σ hJ pre K hK
        have e3 := pre.2.2 3 _ (by kernel_rfl) rfl
        clear pre
        simp only [Array.getD_eq_getD_getElem?, List.getElem?_toArray, List.getElem?_cons_zero, List.getElem?_cons_succ, Option.getD_some] at e3
        have hS9 := hJ
        have hW9 : J6 w z I uM (σ 11) (σ 12) (σ 13) (σ 14) W := hS9
        obtain ⟨⟨⟨⟨⟨⟨q0, q1⟩, q2⟩, q3⟩, q4⟩, q5⟩, q6⟩ := hIo W hW9.a.inv
        obtain ⟨c0, c1, c2⟩ := q0.gcells
        obtain ⟨d0, d1, d2, d3, d4⟩ := q1.lcells
        go_simp
        exact hK _ hJ
      refine Vals9.Steps.run rfl ?_ ?_
      · intro a W σ hJ pre K hK
        have e3 := pre.2.2 3 _ (by kernel_rfl) rfl
        clear pre
        simp only [Array.getD_eq_getD_getElem?, List.getElem?_toArray, List.getElem?_cons_zero, List.getElem?_cons_succ, Option.getD_some] at e3
        go_simp
        exact hK _ hJ
      refine Vals9.Steps.run rfl ?_ ?_
      · intro a W σ hJ pre K hK
        have e103 := pre.1 1 103 _ (by kernel_rfl) rfl rfl
        clear pre
        simp only [Array.getD_eq_getD_getElem?, List.getElem?_toArray, List.getElem?_cons_zero, List.getElem?_cons_succ, Option.getD_some] at e103
        go_simp
        exact hK _ hJ
      refine Vals9.Steps.run rfl ?_ ?_
      · intro a W σ hJ pre K hK
        have e104 := pre.1 2 104 _ (by kernel_rfl) rfl rfl
        clear pre
        simp only [Array.getD_eq_getD_getElem?, List.getElem?_toArray, List.getElem?_cons_zero, List.getElem?_cons_succ, Option.getD_some] at e104
        have hS9 := hJ
        have hW9 : J6 w z I uM (σ 11) (σ 12) (σ 13) (σ 14) W := hS9
        obtain ⟨⟨⟨⟨⟨⟨q0, q1⟩, q2⟩, q3⟩, q4⟩, q5⟩, q6⟩ := hIo W hW9.a.inv
        obtain ⟨c0, c1, c2⟩ := q0.gcells
        obtain ⟨d0, d1, d2, d3, d4⟩ := q1.lcells
        go_simp
        exact hK _ hJ
      refine Vals9.Steps.run rfl ?_ ?_
      · intro a W σ hJ pre K hK
        have e102 := pre.1 0 102 _ (by kernel_rfl) rfl rfl
        have e105 := pre.1 3 105 _ (by kernel_rfl) rfl rfl
        clear pre
        simp only [Array.getD_eq_getD_getElem?, List.getElem?_toArray, List.getElem?_cons_zero, List.getElem?_cons_succ, Option.getD_some] at e102 e105
        go_simp
        refine (at_c _ _ _ _ _).mono ?_
        rintro e w' ⟨rfl, hb'⟩
        have hJ2 : J6 w z I uM (σ 11) (σ 12) (σ 13) (σ 14) W := hJ
        exact hK _ ⟨hJ2.a.keep hA hb', hJ2.b.keep hA hb', hJ2.ne⟩
      refine Vals9.Steps.run rfl ?_ ?_
      · intro a W σ hJ pre K hK
        have e4 := pre.2.2 4 _ (by kernel_rfl) rfl
        clear pre
        simp only [Array.getD_eq_getD_getElem?, List.getElem?_toArray, List.getElem?_cons_zero, List.getElem?_cons_succ, Option.getD_some] at e4
        have hS9 := hJ
        have hW9 : J6 w z I uM (σ 11) (σ 12) (σ 13) (σ 14) W := hS9
        obtain ⟨⟨⟨⟨⟨⟨q0, q1⟩, q2⟩, q3⟩, q4⟩, q5⟩, q6⟩ := hIo W hW9.a.inv
        obtain ⟨c0, c1, c2⟩ := q0.gcells
        obtain ⟨d0, d1, d2, d3, d4⟩ := q1.lcells
        go_simp
        exact hK _ hJ
      refine Vals9.Steps.run rfl ?_ ?_
      · intro a W σ hJ pre K hK
        have e106 := pre.1 4 106 _ (by kernel_rfl) rfl rfl
        have e107 := pre.1 5 107 _ (by kernel_rfl) rfl rfl
        clear pre
        simp only [Array.getD_eq_getD_getElem?, List.getElem?_toArray, List.getElem?_cons_zero, List.getElem?_cons_succ, Option.getD_some] at e106 e107
        go_simp
        refine (HPL.out _).mono ?_
        rintro e w' ⟨rfl, hb'⟩
        have hJ2 : J6 w z I uM (σ 11) (σ 12) (σ 13) (σ 14) W := hJ
        exact hK _ ⟨hJ2.a.keep hA hb', hJ2.b.keep hA hb', hJ2.ne⟩
      refine Vals9.Steps.run rfl ?_ ?_
      · intro a W σ hJ pre K hK
        have e108 := pre.1 6 108 _ (by kernel_rfl) rfl rfl
        clear pre
        simp only [Array.getD_eq_getD_getElem?, List.getElem?_toArray, List.getElem?_cons_zero, List.getElem?_cons_succ, Option.getD_some] at e108
        go_simp
        exact hK _ hJ
      refine Vals9.Steps.run rfl ?_ ?_
      · intro a W σ hJ pre K hK
        have e101 := pre.1 7 101 _ (by kernel_rfl) rfl rfl
        clear pre
        simp only [Array.getD_eq_getD_getElem?, List.getElem?_toArray, List.getElem?_cons_zero, List.getElem?_cons_succ, Option.getD_some] at e101
        go_simp
        exact hK _ hJ
      refine Vals9.Steps.run rfl ?_ ?_
      · intro a W σ hJ pre K hK
        have e101 := pre.1 7 101 _ (by kernel_rfl) rfl rfl
        clear pre
        simp only [Array.getD_eq_getD_getElem?, List.getElem?_toArray, List.getElem?_cons_zero, List.getElem?_cons_succ, Option.getD_some] at e101
        go_simp
        exact hK _ hJ
      refine Vals9.Steps.run rfl ?_ ?_
      · intro a W σ hJ pre K hK
        have e101 := pre.1 7 101 _ (by kernel_rfl) rfl rfl
        clear pre
        simp only [Array.getD_eq_getD_getElem?, List.getElem?_toArray, List.getElem?_cons_zero, List.getElem?_cons_succ, Option.getD_some] at e101
        go_simp
        exact hK _ hJ
      refine Vals9.Steps.mark rfl ?_ ?_
      · intro a W σ hJ hn pre K hK
        have hJ2 : J6 w z I uM (σ 11) (σ 12) (σ 13) (σ 14) W := hJ
        rw [hn] at hJ2
        have hb9 : Below W.heap.size W (W.alloc (.cells (fV (0, 0)) 41)) := (Below.refl _ _).alloc (Nat.le_refl _) _
        have hfr := hJ2.b.fresh
        go_simp
        exact hK _ _ ⟨hJ2.a.mk1 hA, hJ2.b.keep hA hb9, fun v v1 h1 h2 e => hfr v1 h2 (by rw [← e]; exact (Option.some.inj h1).symm)⟩
      refine Vals9.Steps.mark rfl ?_ ?_
      · intro a W σ hJ hn pre K hK
        have hJ2 : J6 w z I uM (σ 11) (σ 12) (σ 13) (σ 14) W := hJ
        rw [hn] at hJ2
        have hb9 : Below W.heap.size W (W.alloc (.cells (fV (0, 0)) 41)) := (Below.refl _ _).alloc (Nat.le_refl _) _
        have hfr := hJ2.a.fresh
        go_simp
        exact hK _ _ ⟨hJ2.a.keep hA hb9, hJ2.b.mk1 hA, fun v v1 h1 h2 e => hfr v h1 (by rw [e]; exact (Option.some.inj h2).symm)⟩
      refine Vals9.Steps.mark rfl ?_ ?_
      · intro a W σ hJ hn pre K hK
        obtain ⟨v18, s18, e18⟩ := pre.2.1 11 (by kernel_rfl) rfl
        replace e18 : a.tmps.getD 18 undef = v18 := e18 18 rfl
        have e109 := pre.1 8 109 _ (by kernel_rfl) rfl rfl
        simp only [Array.getD_eq_getD_getElem?, List.getElem?_toArray, List.getElem?_cons_zero, List.getElem?_cons_succ, Option.getD_some] at e18 e109
        have hJ2 : J6 w z I uM (σ 11) (σ 12) (σ 13) (σ 14) W := hJ
        rw [hn, s18] at hJ2
        obtain ⟨g7, hv7, hg7, ⟨-, hB⟩ | ⟨q, -⟩⟩ := hJ2.a.nw _ rfl
        · subst hv7
          refine wp_store_row 41 _ _ rfl g7 (fV uM) (by simpa [Act.eval] using e18) (by simpa [Act.eval] using e109) 41 _ hB (by kernel_rfl) rfl (by simp [Value.oneCell']) ?_
          have h2 := hJ2.a.put hw hA hg7 hB undef
          have h3 := hJ2.b.far hw hA hg7 (fun v hv e => hJ2.ne _ v rfl hv e.symm) (fV uM)
          have h4 := hJ2.ne
          rw [← s18] at h2 h4
          exact hK undef _ ⟨h2, h3, h4⟩
        · exact absurd rfl q
      refine Vals9.Steps.mark rfl ?_ ?_
      · intro a W σ hJ hn pre K hK
        obtain ⟨v19, s19, e19⟩ := pre.2.1 12 (by kernel_rfl) rfl
        replace e19 : a.tmps.getD 19 undef = v19 := e19 19 rfl
        have e110 := pre.1 9 110 _ (by kernel_rfl) rfl rfl
        simp only [Array.getD_eq_getD_getElem?, List.getElem?_toArray, List.getElem?_cons_zero, List.getElem?_cons_succ, Option.getD_some] at e19 e110
        have hJ2 : J6 w z I uM (σ 11) (σ 12) (σ 13) (σ 14) W := hJ
        rw [hn, s19] at hJ2
        obtain ⟨g7, hv7, hg7, ⟨-, hB⟩ | ⟨q, -⟩⟩ := hJ2.b.nw _ rfl
        · subst hv7
          refine wp_store_row 41 _ _ rfl g7 (fV uM) (by simpa [Act.eval] using e19) (by simpa [Act.eval] using e110) 41 _ hB (by kernel_rfl) rfl (by simp [Value.oneCell']) ?_
          have h2 := hJ2.b.put hw hA hg7 hB undef
          have h3 := hJ2.a.far hw hA hg7 (fun v hv e => hJ2.ne v _ hv rfl e) (fV uM)
          have h4 := hJ2.ne
          rw [← s19] at h2 h4
          exact hK undef _ ⟨h3, h2, h4⟩
        · exact absurd rfl q
      refine Vals9.Steps.run rfl ?_ ?_
      · intro a W σ hJ pre K hK
        have e111 := pre.1 10 111 _ (by kernel_rfl) rfl rfl
        clear pre
        simp only [Array.getD_eq_getD_getElem?, List.getElem?_toArray, List.getElem?_cons_zero, List.getElem?_cons_succ, Option.getD_some] at e111
        go_simp
        exact hK _ hJ
      exact Vals9.Steps.nil
    case hfin =>
    rintro X8 σ hJ
    simp only [Vals9.All]
    intro va hva vb hvb vc hvc vd hvd
    have hJ2 : J6 w z I uM (σ 11) (σ 12) (σ 13) (σ 14) X8 := hJ
    rw [hvc, hvd] at hJ2
    obtain ⟨g8a, rfl, -, ⟨q, -⟩ | ⟨-, hBa⟩⟩ := hJ2.a.nw _ hva
    · cases q
    obtain ⟨g8b, rfl, -, ⟨q, -⟩ | ⟨-, hBb⟩⟩ := hJ2.b.nw _ hvb
    · cases q
    have hs8 := hJ2.a.sn
    have HI := Lib.hid (hIo X8 hJ2.a.inv)
    have HG := Lib.hid HI.out.1.1.1.1.1.1
    have HL := Lib.hid HI.out.1.1.1.1.1.2
    have H7 := Lib.hid HI.out.1.1.1.1.2
    have H8 := Lib.hid HI.out.1.1.1.2
    have HA6 := Lib.hid HI.out.1.1.2
    have HB7 := Lib.hid HI.out.1.2
    have HC7 := Lib.hid HI.out.2
    have HD8 := Lib.hid hBb
    clear hJ hJ2 hva hvb hvc hvd hBa hBb HI hs7 hI0 hA hIo hzz hw I z
    simp only [Vals.putAll, List.setIfInBounds_toArray, List.set_cons_zero, List.set_cons_succ]
    go_wp2_with fail
    obtain ⟨z, hz⟩ : ∃ z, X8.heap.size = z := ⟨_, rfl⟩
    obtain ⟨I, hI⟩ : ∃ I : Unit → World → Prop, I = fun _ X => ((((((Blk X w.heap.size 25 (gV P lo hi) ∧ Blk X (w.heap.size + 1) 38 (lV F pa fa S to)) ∧ Blk X kH7 41 (fV uL)) ∧ Blk X (kH7 + 1) 41 (fV uM)) ∧ Blk X g6a 41 (fV uA)) ∧ Blk X g7a 41 (fV uB)) ∧ Blk X g7b 41 (fV uB)) ∧ Blk X g8b 41 (fV uM) := ⟨_, rfl⟩
    have hA : AllFrom z I := by
      rw [hI]
      have b0 := HG.out.lt
      have b1 := HL.out.lt
      have b2 := H7.out.lt
      have b3 := H8.out.lt
      have b4 := HA6.out.lt
      have b5 := HB7.out.lt
      have b6 := HC7.out.lt
      have b7 := HD8.out.lt
      exact ((((((((AllFrom.blk (by omega) _ _).and (AllFrom.blk (by omega) _ _)).and (AllFrom.blk (by omega) _ _)).and (AllFrom.blk (by omega) _ _)).and (AllFrom.blk (by omega) _ _)).and (AllFrom.blk (by omega) _ _)).and (AllFrom.blk (by omega) _ _)).and (AllFrom.blk (by omega) _ _))
    have hw : w.heap.size ≤ z := by rw [← hz]; exact hs8.2
    have hI0 : I () X8 := by rw [hI]; exact ⟨⟨⟨⟨⟨⟨⟨HG.out, HL.out⟩, H7.out⟩, H8.out⟩, HA6.out⟩, HB7.out⟩, HC7.out⟩, HD8.out⟩
    have hIo : ∀ X, I () X → ((((((Blk X w.heap.size 25 (gV P lo hi) ∧ Blk X (w.heap.size + 1) 38 (lV F pa fa S to)) ∧ Blk X kH7 41 (fV uL)) ∧ Blk X (kH7 + 1) 41 (fV uM)) ∧ Blk X g6a 41 (fV uA)) ∧ Blk X g7a 41 (fV uB)) ∧ Blk X g7b 41 (fV uB)) ∧ Blk X g8b 41 (fV uM) := fun X h => by rw [hI] at h; exact h
    clear hI HG HL H7 H8 HA6 HB7 HC7 HD8
    have hzz : z ≤ X8.heap.size := Nat.le_of_eq hz.symm
    clear hz
    try dsimp only [Act.put]
    refine Vals9.region (fun σ X => J6 w z I uL (σ 11) (σ 12) (σ 13) (σ 14) X) [some 113, some 114, some 115, some 116, some 117, some 118, some 119, some 112, some 120, some 121, some 122, some 21, some 22, none, none, some 23] [.is (.agg (gV P lo hi)), .is ?_, .is ?_, .is (.int .i64 (hi : Nat)), .is (.agg (gV P hi hi)), .is (.agg (lV F pa fa S to)), .is (.tuple #[.agg (fV uL), .agg (fV uL), .int .i64 0]), .is (.tuple #[.agg (fV uL), .agg (fV uL), .int .i64 0]), .is (.agg (fV uL)), .is (.agg (fV uL)), .is (.int .i64 0), .any, .any, .any, .any, .is (.int .i64 0)] (by kernel_rfl) (by kernel_rfl) (by kernel_rfl) (by kernel_rfl) (by kernel_rfl) (by kernel_rfl) (⟨B1.start hzz hs8.drew (hA.keep hI0 (Below.refl _ _).drew), B1.start hzz hs8.drew (hA.keep hI0 (Below.refl _ _).drew), fun v v1 hv => by cases hv⟩) ?hsteps ?hfin
    case hsteps =>
      refine Vals9.Steps.run rfl ?_ ?_
      · intro a W σ hJ pre K hK
        have e3 := pre.2.2 3 _ (by kernel_rfl) rfl
        clear pre
        simp only [Array.getD_eq_getD_getElem?, List.getElem?_toArray, List.getElem?_cons_zero, List.getElem?_cons_succ, Option.getD_some] at e3
        have hS9 := hJ
        have hW9 : J6 w z I uL (σ 11) (σ 12) (σ 13) (σ 14) W := hS9
        obtain ⟨⟨⟨⟨⟨⟨⟨q0, q1⟩, q2⟩, q3⟩, q4⟩, q5⟩, q6⟩, q7⟩ := hIo W hW9.a.inv
        obtain ⟨c0, c1, c2⟩ := q0.gcells
        obtain ⟨d0, d1, d2, d3, d4⟩ := q1.lcells
        go_simp
        exact hK _ hJ
      refine Vals9.Steps.run rfl ?_ ?_
      · intro a W σ hJ pre K hK
        have e3 := pre.2.2 3 _ (by kernel_rfl) rfl
        clear pre
        simp only [Array.getD_eq_getD_getElem?, List.getElem?_toArray, List.getElem?_cons_zero, List.getElem?_cons_succ, Option.getD_some] at e3
        go_simp
        exact hK _ hJ
      refine Vals9.Steps.run rfl ?_ ?_
      · intro a W σ hJ pre K hK
        have e114 := pre.1 1 114 _ (by kernel_rfl) rfl rfl
        clear pre
        simp only [Array.getD_eq_getD_getElem?, List.getElem?_toArray, List.getElem?_cons_zero, List.getElem?_cons_succ, Option.getD_some] at e114
        go_simp
        exact hK _ hJ
      refine Vals9.Steps.run rfl ?_ ?_
      · intro a W σ hJ pre K hK
        have e115 := pre.1 2 115 _ (by kernel_rfl) rfl rfl
        clear pre
        simp only [Array.getD_eq_getD_getElem?, List.getElem?_toArray, List.getElem?_cons_zero, List.getElem?_cons_succ, Option.getD_some] at e115
        have hS9 := hJ
        have hW9 : J6 w z I uL (σ 11) (σ 12) (σ 13) (σ 14) W := hS9
        obtain ⟨⟨⟨⟨⟨⟨⟨q0, q1⟩, q2⟩, q3⟩, q4⟩, q5⟩, q6⟩, q7⟩ := hIo W hW9.a.inv
        obtain ⟨c0, c1, c2⟩ := q0.gcells
        obtain ⟨d0, d1, d2, d3, d4⟩ := q1.lcells
        go_simp
        exact hK _ hJ
      refine Vals9.Steps.run rfl ?_ ?_
      · intro a W σ hJ pre K hK
        have e113 := pre.1 0 113 _ (by kernel_rfl) rfl rfl
        have e116 := pre.1 3 116 _ (by kernel_rfl) rfl rfl
        clear pre
        simp only [Array.getD_eq_getD_getElem?, List.getElem?_toArray, List.getElem?_cons_zero, List.getElem?_cons_succ, Option.getD_some] at e113 e116
        go_simp
        refine (at_c _ _ _ _ _).mono ?_
        rintro e w' ⟨rfl, hb'⟩
        have hJ2 : J6 w z I uL (σ 11) (σ 12) (σ 13) (σ 14) W := hJ
        exact hK _ ⟨hJ2.a.keep hA hb', hJ2.b.keep hA hb', hJ2.ne⟩
      refine Vals9.Steps.run rfl ?_ ?_
      · intro a W σ hJ pre K hK
        have e4 := pre.2.2 4 _ (by kernel_rfl) rfl
        clear pre
        simp only [Array.getD_eq_getD_getElem?, List.getElem?_toArray, List.getElem?_cons_zero, List.getElem?_cons_succ, Option.getD_some] at e4
        have hS9 := hJ
        have hW9 : J6 w z I uL (σ 11) (σ 12) (σ 13) (σ 14) W := hS9
        obtain ⟨⟨⟨⟨⟨⟨⟨q0, q1⟩, q2⟩, q3⟩, q4⟩, q5⟩, q6⟩, q7⟩ := hIo W hW9.a.inv
        obtain ⟨c0, c1, c2⟩ := q0.gcells
        obtain ⟨d0, d1, d2, d3, d4⟩ := q1.lcells
        go_simp
        exact hK _ hJ
      refine Vals9.Steps.run rfl ?_ ?_
      · intro a W σ hJ pre K hK
        have e117 := pre.1 4 117 _ (by kernel_rfl) rfl rfl
        have e118 := pre.1 5 118 _ (by kernel_rfl) rfl rfl
        clear pre
        simp only [Array.getD_eq_getD_getElem?, List.getElem?_toArray, List.getElem?_cons_zero, List.getElem?_cons_succ, Option.getD_some] at e117 e118
        go_simp
        refine (HPI.out _).mono ?_
        rintro e w' ⟨rfl, hb'⟩
        have hJ2 : J6 w z I uL (σ 11) (σ 12) (σ 13) (σ 14) W := hJ
        exact hK _ ⟨hJ2.a.keep hA hb', hJ2.b.keep hA hb', hJ2.ne⟩
      refine Vals9.Steps.run rfl ?_ ?_
      · intro a W σ hJ pre K hK
        have e119 := pre.1 6 119 _ (by kernel_rfl) rfl rfl
        clear pre
        simp only [Array.getD_eq_getD_getElem?, List.getElem?_toArray, List.getElem?_cons_zero, List.getElem?_cons_succ, Option.getD_some] at e119
        go_simp
        exact hK _ hJ
      refine Vals9.Steps.run rfl ?_ ?_
      · intro a W σ hJ pre K hK
        have e112 := pre.1 7 112 _ (by kernel_rfl) rfl rfl
        clear pre
        simp only [Array.getD_eq_getD_getElem?, List.getElem?_toArray, List.getElem?_cons_zero, List.getElem?_cons_succ, Option.getD_some] at e112
        go_simp
        exact hK _ hJ
      refine Vals9.Steps.run rfl ?_ ?_
      · intro a W σ hJ pre K hK
        have e112 := pre.1 7 112 _ (by kernel_rfl) rfl rfl
        clear pre
        simp only [Array.getD_eq_getD_getElem?, List.getElem?_toArray, List.getElem?_cons_zero, List.getElem?_cons_succ, Option.getD_some] at e112
        go_simp
        exact hK _ hJ
      refine Vals9.Steps.run rfl ?_ ?_
      · intro a W σ hJ pre K hK
        have e112 := pre.1 7 112 _ (by kernel_rfl) rfl rfl
        clear pre
        simp only [Array.getD_eq_getD_getElem?, List.getElem?_toArray, List.getElem?_cons_zero, List.getElem?_cons_succ, Option.getD_some] at e112
        go_simp
        exact hK _ hJ
      refine Vals9.Steps.mark rfl ?_ ?_
      · intro a W σ hJ hn pre K hK
        have hJ2 : J6 w z I uL (σ 11) (σ 12) (σ 13) (σ 14) W := hJ
        rw [hn] at hJ2
        have hb9 : Below W.heap.size W (W.alloc (.cells (fV (0, 0)) 41)) := (Below.refl _ _).alloc (Nat.le_refl _) _
        have hfr := hJ2.b.fresh
        go_simp
        exact hK _ _ ⟨hJ2.a.mk1 hA, hJ2.b.keep hA hb9, fun v v1 h1 h2 e => hfr v1 h2 (by rw [← e]; exact (Option.some.inj h1).symm)⟩
      refine Vals9.Steps.mark rfl ?_ ?_
      · intro a W σ hJ hn pre K hK
        have hJ2 : J6 w z I uL (σ 11) (σ 12) (σ 13) (σ 14) W := hJ
        rw [hn] at hJ2
        have hb9 : Below W.heap.size W (W.alloc (.cells (fV (0, 0)) 41)) := (Below.refl _ _).alloc (Nat.le_refl _) _
        have hfr := hJ2.a.fresh
        go_simp
        exact hK _ _ ⟨hJ2.a.keep hA hb9, hJ2.b.mk1 hA, fun v v1 h1 h2 e => hfr v h1 (by rw [e]; exact (Option.some.inj h2).symm)⟩
      refine Vals9.Steps.mark rfl ?_ ?_
      · intro a W σ hJ hn pre K hK
        obtain ⟨v21, s21, e21⟩ := pre.2.1 11 (by kernel_rfl) rfl
        replace e21 : a.tmps.getD 21 undef = v21 := e21 21 rfl
        have e120 := pre.1 8 120 _ (by kernel_rfl) rfl rfl
        simp only [Array.getD_eq_getD_getElem?, List.getElem?_toArray, List.getElem?_cons_zero, List.getElem?_cons_succ, Option.getD_some] at e21 e120
        have hJ2 : J6 w z I uL (σ 11) (σ 12) (σ 13) (σ 14) W := hJ
        rw [hn, s21] at hJ2
        obtain ⟨g7, hv7, hg7, ⟨-, hB⟩ | ⟨q, -⟩⟩ := hJ2.a.nw _ rfl
        · subst hv7
          refine wp_store_row 41 _ _ rfl g7 (fV uL) (by simpa [Act.eval] using e21) (by simpa [Act.eval] using e120) 41 _ hB (by kernel_rfl) rfl (by simp [Value.oneCell']) ?_
          have h2 := hJ2.a.put hw hA hg7 hB undef
          have h3 := hJ2.b.far hw hA hg7 (fun v hv e => hJ2.ne _ v rfl hv e.symm) (fV uL)
          have h4 := hJ2.ne
          rw [← s21] at h2 h4
          exact hK undef _ ⟨h2, h3, h4⟩
        · exact absurd rfl q
      refine Vals9.Steps.mark rfl ?_ ?_
      · intro a W σ hJ hn pre K hK
        obtain ⟨v22, s22, e22⟩ := pre.2.1 12 (by kernel_rfl) rfl
        replace e22 : a.tmps.getD 22 undef = v22 := e22 22 rfl
        have e121 := pre.1 9 121 _ (by kernel_rfl) rfl rfl
        simp only [Array.getD_eq_getD_getElem?, List.getElem?_toArray, List.getElem?_cons_zero, List.getElem?_cons_succ, Option.getD_some] at e22 e121
        have hJ2 : J6 w z I uL (σ 11) (σ 12) (σ 13) (σ 14) W := hJ
        rw [hn, s22] at hJ2
        obtain ⟨g7, hv7, hg7, ⟨-, hB⟩ | ⟨q, -⟩⟩ := hJ2.b.nw _ rfl
        · subst hv7
          refine wp_store_row 41 _ _ rfl g7 (fV uL) (by simpa [Act.eval] using e22) (by simpa [Act.eval] using e121) 41 _ hB (by kernel_rfl) rfl (by simp [Value.oneCell']) ?_
          have h2 := hJ2.b.put hw hA hg7 hB undef
          have h3 := hJ2.a.far hw hA hg7 (fun v hv e => hJ2.ne v _ hv rfl e) (fV uL)
          have h4 := hJ2.ne
          rw [← s22] at h2 h4
          exact hK undef _ ⟨h3, h2, h4⟩
        · exact absurd rfl q
      refine Vals9.Steps.run rfl ?_ ?_
      · intro a W σ hJ pre K hK
        have e122 := pre.1 10 122 _ (by kernel_rfl) rfl rfl
        clear pre
        simp only [Array.getD_eq_getD_getElem?, List.getElem?_toArray, List.getElem?_cons_zero, List.getElem?_cons_succ, Option.getD_some] at e122
        go_simp
        exact hK _ hJ
      exact Vals9.Steps.nil
    case hfin =>
    rintro X9 σ hJ
    simp only [Vals9.All]
    intro va hva vb hvb vc hvc vd hvd
    have hJ2 : J6 w z I uL (σ 11) (σ 12) (σ 13) (σ 14) X9 := hJ
    rw [hvc, hvd] at hJ2
    obtain ⟨g9a, rfl, -, ⟨q, -⟩ | ⟨-, hBa⟩⟩ := hJ2.a.nw _ hva
    · cases q
    obtain ⟨g9b, rfl, -, ⟨q, -⟩ | ⟨-, hBb⟩⟩ := hJ2.b.nw _ hvb
    · cases q
    have hs9 := hJ2.a.sn
    have HI := Lib.hid (hIo X9 hJ2.a.inv)
    have HG := Lib.hid HI.out.1.1.1.1.1.1.1
    have HL := Lib.hid HI.out.1.1.1.1.1.1.2
    have H7 := Lib.hid HI.out.1.1.1.1.1.2
    have H8 := Lib.hid HI.out.1.1.1.1.2
    have HA6 := Lib.hid HI.out.1.1.1.2
    have HB7 := Lib.hid HI.out.1.1.2
    have HC7 := Lib.hid HI.out.1.2
    have HD8 := Lib.hid HI.out.2
    have HE9 := Lib.hid hBa
    clear hJ hJ2 hva hvb hvc hvd hBa hBb HI hs8 hI0 hA hIo hzz hw I z
    simp only [Vals.putAll, List.setIfInBounds_toArray, List.set_cons_zero, List.set_cons_succ]
    clear HG HL
    have hq1 := HEA.out
    obtain ⟨a0, a1⟩ := HA6.out.fcells
    obtain ⟨b0, b1⟩ := HB7.out.fcells
    obtain ⟨e0, e1⟩ := HC7.out.fcells
    go_wp2_with fail
    clear hq1
    refine (HLA.out _).mono ?_
    rintro e y1 ⟨rfl, hb⟩
    replace hs9 := hs9.keep hb
    replace H7 := Lib.hid (H7.out.keep hb)
    replace H8 := Lib.hid (H8.out.keep hb)
    replace HA6 := Lib.hid (HA6.out.keep hb)
    replace HB7 := Lib.hid (HB7.out.keep hb)
    replace HC7 := Lib.hid (HC7.out.keep hb)
    replace HD8 := Lib.hid (HD8.out.keep hb)
    replace HE9 := Lib.hid (HE9.out.keep hb)
    clear hb
    clear a0 a1 b0 b1 e0 e1
    obtain ⟨a0, a1⟩ := HA6.out.fcells
    obtain ⟨l0, l1⟩ := H7.out.fcells
    go_wp2_with fail
    refine (HLB.out _).mono ?_
    rintro e y2 ⟨rfl, hb⟩
    replace hs9 := hs9.keep hb
    replace H7 := Lib.hid (H7.out.keep hb)
    replace H8 := Lib.hid (H8.out.keep hb)
    replace HA6 := Lib.hid (HA6.out.keep hb)
    replace HB7 := Lib.hid (HB7.out.keep hb)
    replace HC7 := Lib.hid (HC7.out.keep hb)
    replace HD8 := Lib.hid (HD8.out.keep hb)
    replace HE9 := Lib.hid (HE9.out.keep hb)
    clear hb
    clear a0 a1 l0 l1
    obtain ⟨a0, a1⟩ := HA6.out.fcells
    obtain ⟨l0, l1⟩ := H8.out.fcells
    go_wp2_with fail
    refine (HLC.out _).mono ?_
    rintro e y3 ⟨rfl, hb⟩
    replace hs9 := hs9.keep hb
    replace H7 := Lib.hid (H7.out.keep hb)
    replace H8 := Lib.hid (H8.out.keep hb)
    replace HA6 := Lib.hid (HA6.out.keep hb)
    replace HB7 := Lib.hid (HB7.out.keep hb)
    replace HC7 := Lib.hid (HC7.out.keep hb)
    replace HD8 := Lib.hid (HD8.out.keep hb)
    replace HE9 := Lib.hid (HE9.out.keep hb)
    clear hb
    clear a0 a1 l0 l1
    obtain ⟨a0, a1⟩ := HA6.out.fcells
    obtain ⟨l0, l1⟩ := H7.out.fcells
    obtain ⟨n0, n1⟩ := HE9.out.fcells
    obtain ⟨p0, p1⟩ := H8.out.fcells
    obtain ⟨q0, q1⟩ := HD8.out.fcells
    have hq1 := HEB.out
    have hq2 := HEC.out
    go_wp2_with fail
    refine (HWO.out _).mono ?_
    rintro e y4 ⟨rfl, hb⟩
    replace hs9 := hs9.keep hb
    replace HA6 := Lib.hid (HA6.out.keep hb)
    clear hb
    clear a0 a1 l0 l1 n0 n1 p0 p1 q0 q1 hq1 hq2
    obtain ⟨a0, a1⟩ := HA6.out.fcells
    go_wp2_with fail
    refine (awake_c _).mono ?_
    rintro e y5 ⟨rfl, hb⟩
    replace hs9 := hs9.keep hb
    clear hb
    clear a0 a1
    go_wp2_with fail
    go_ret
    exact ⟨rfl, hs9.1⟩
  · have hwo : pasA P lo hi fi pa fa se to = ((0, 0), (0, 0), chkP P lo hi fi pa fa se to) := by unfold pasA; rw [if_neg hp]
    have HW : Hid (∀ W, Calls Try.prog 27 #[.agg (gV P lo hi), .agg (lV fi pa fa se to)] W fun e w' => e = .returned (.tuple #[.agg (fV (0, 0)), .agg (fV (0, 0)), .int .i64 (chkP P lo hi fi pa fa se to)]) ∧ Below W.heap.size W w') := fun W => by have := Passes_c P lo hi fi pa fa se to W; rw [hwo] at this; exact this
    have HRP : Hid (∀ W, Calls Try.prog 26 #[.agg (gV P lo hi), .agg (lV fi pa fa se to)] W fun e w' => e = .returned (.int .i64 (chkP P lo hi fi pa fa se to)) ∧ Below W.heap.size W w') := fun W => rPlan_c P lo hi fi pa fa se to W
    obtain ⟨E, hE⟩ : ∃ E, chkP P lo hi fi pa fa se to = E := ⟨_, rfl⟩
    rw [hE] at HW HRP hp
    have hE' : (E != 0) = true := by simpa using hp
    clear hwo hE
    go_enter Try.func11, Try.ntmps11
    go_wp2_with fail
    refine (HW.out _).mono ?_
    rintro e v1 ⟨rfl, hb⟩
    replace hs := hs.keep hb
    replace HG := Lib.hid (HG.out.keep hb)
    replace HL := Lib.hid (HL.out.keep hb)
    replace HU := Lib.hid (HU.out.keep hb)
    clear hb
    clear c0 c1 c2 d0 d1 d2 d3 d4
    have hz1 := Lib.hid ((Blk.new v1 41 (fV (0, 0))).alloc (.cells (fV (0, 0)) 41))
    have hz2 := Lib.hid ((Blk.new1 v1 (.cells (fV (0, 0)) 41) 41 (fV (0, 0))).rowFar (g' := v1.heap.size) (by omega) (fV (0, 0)))
    have hq : Below v1.heap.size v1 ((((v1.alloc (.cells (fV (0, 0)) 41)).alloc (.cells (fV (0, 0)) 41)).setRow v1.heap.size (fV (0, 0))).setRow (v1.heap.size + 1) (fV (0, 0))) := (((((Since.refl v1).alloc (.cells (fV (0, 0)) 41)).alloc (.cells (fV (0, 0)) 41)).row (g := v1.heap.size) (Nat.le_refl _) (fV (0, 0))).row (g := v1.heap.size + 1) (by omega) (fV (0, 0))).1
    have H7 := Lib.hid ((hz1.out.row (fV (0, 0))).rowFar (g' := v1.heap.size + 1) (by omega) (fV (0, 0)))
    have H8 := Lib.hid (hz2.out.row (fV (0, 0)))
    replace hs := hs.keep hq
    replace HG := Lib.hid (HG.out.keep hq)
    replace HL := Lib.hid (HL.out.keep hq)
    replace HU := Lib.hid (HU.out.keep hq)
    obtain ⟨c0, c1, c2⟩ := HG.out.gcells
    go_wp2_with (first | (refine wpList_store_row rfl 41 _ _ rfl (v1.heap.size) _ rfl rfl 41 _ hz1.out (by kernel_rfl) rfl (by simp [Value.oneCell']) ?_) | (refine wpList_store_row rfl 41 _ _ rfl (v1.heap.size + 1) _ rfl rfl 41 _ hz2.out (by kernel_rfl) rfl (by simp [Value.oneCell']) ?_))
    obtain ⟨kH7, hk⟩ : ∃ k, v1.heap.size = k := ⟨_, rfl⟩
    obtain ⟨v2, hu⟩ : ∃ u, (((v1.alloc (.cells (fV (0, 0)) 41)).alloc (.cells (fV (0, 0)) 41)).setRow v1.heap.size (fV (0, 0))).setRow (v1.heap.size + 1) (fV (0, 0)) = u := ⟨_, rfl⟩
    rw [hu] at hs HG HL HU H7 H8 ⊢
    rw [hk] at H7 H8 ⊢
    clear hu hk hq hz1 hz2 c0 c1 c2
    refine (rCheck_c P lo hi _).mono ?_
    rintro e v3 ⟨rfl, hb⟩
    replace hs := hs.keep hb
    replace HG := Lib.hid (HG.out.keep hb)
    replace HL := Lib.hid (HL.out.keep hb)
    replace HU := Lib.hid (HU.out.keep hb)
    replace H7 := Lib.hid (H7.out.keep hb)
    replace H8 := Lib.hid (H8.out.keep hb)
    clear hb
    by_cases hc : chkE P lo hi = 0
    · rw [hc]
      obtain ⟨c0, c1, c2⟩ := HG.out.gcells
      obtain ⟨d0, d1, d2, d3, d4⟩ := HL.out.lcells
      clear hc
      go_wp2_with fail
      refine (HRP.out _).mono ?_
      rintro e v4 ⟨rfl, hb⟩
      replace hs := hs.keep hb
      replace H7 := Lib.hid (H7.out.keep hb)
      replace H8 := Lib.hid (H8.out.keep hb)
      clear hb
      clear c0 c1 c2 d0 d1 d2 d3 d4
      obtain ⟨m0, m1⟩ := Blk.fcells (s := (0, 0)) H7.out
      obtain ⟨n0, n1⟩ := Blk.fcells (s := (0, 0)) H8.out
      go_wp2_with fail
      refine (awake_c _).mono ?_
      rintro e v5 ⟨rfl, hb⟩
      replace hs := hs.keep hb
      clear hb
      clear m0 m1 n0 n1
      go_wp2_with fail
      go_ret
      exact ⟨rfl, hs.1⟩
    · have hc' : (chkE P lo hi != 0) = true := by simpa using hc
      obtain ⟨m0, m1⟩ := Blk.fcells (s := (0, 0)) H7.out
      obtain ⟨n0, n1⟩ := Blk.fcells (s := (0, 0)) H8.out
      clear hc
      go_wp2_with fail
      refine (awake_c _).mono ?_
      rintro e v5 ⟨rfl, hb⟩
      replace hs := hs.keep hb
      clear hb
      clear m0 m1 n0 n1
      go_wp2_with fail
      go_ret
      exact ⟨rfl, hs.1⟩
end Td
end Go.Proofs.Ytgkdidnmndmlhaa
