import Derived.Test.YtgkdidnmndmlhaaMathW
import Derived.Test.YtgkdidnmndmlhaaApr
import Derived.Test.YtgkdidnmndmlhaaVals10
import Derived.Test.YtgkdidnmndmlhaaSty
/- The law GradeWorth: what it returns. -/
namespace Go.Proofs.Ytgkdidnmndmlhaa
open Go.RowKit
namespace Td
set_option linter.unusedSimpArgs false
set_option linter.unusedVariables false
attribute [local go_sem] Oper.semAt_some
set_option maxRecDepth 100000 in
set_option maxHeartbeats 16000000 in
theorem gradeWorth_c (P lo hi : Int) (A : Option Addr) (xs : List Int) (c : Nat) (ya yb : Nat) (w : World) (hp : InAt w A xs) (hya : ya ≤ 65535) (hyb : yb ≤ 65535) :
    Calls Try.prog 14 #[.agg (gV P lo hi), .slice A xs.length c, .agg #[.int .u16 ya, .int .u16 yb]] w fun e w' => e = .returned (.bool true) ∧ Below w.heap.size w w' := by
  have hs := ((Since.refl w).alloc (.cells (gV P lo hi) 25)).alloc (.cells #[.int .u16 ya, .int .u16 yb] 74)
  have HG := Lib.hid ((Blk.new w 25 (gV P lo hi)).alloc (.cells #[.int .u16 ya, .int .u16 yb] 74))
  have HU := Lib.hid (Blk.new1 w (.cells (gV P lo hi) 25) 74 #[.int .u16 ya, .int .u16 yb])
  have HP := Lib.hid hp
  obtain ⟨c0, c1, c2⟩ := HG.out.gcells
  by_cases hv : chkE P lo hi = 0 ∧ wi 1 (P + 1) xs.length = true ∧ wl 0 100000 xs = true
  · obtain ⟨hcc, hlen, hwl⟩ := hv
    have hxb := wl_mem hwl
    obtain ⟨k1, k2, k3, k4, k5⟩ := chkE_ok.1 hcc
    have hlen' := wi_iff.1 hlen
    obtain ⟨P, rfl⟩ : ∃ n : Nat, P = n := ⟨P.toNat, by omega⟩
    obtain ⟨lo, rfl⟩ : ∃ n : Nat, lo = n := ⟨lo.toNat, by omega⟩
    obtain ⟨hi, rfl⟩ : ∃ n : Nat, hi = n := ⟨hi.toNat, by omega⟩
    obtain ⟨n, hn⟩ : ∃ n, xs.length = n + 1 := ⟨xs.length - 1, by omega⟩
    have hlh : lo ≤ hi := by omega
    have hhi : hi ≤ P := by omega
    have hP : P ≤ 20 ∧ 1 ≤ P := by omega
    have hnP : n ≤ P := by omega
    obtain ⟨pay, hpay⟩ : ∃ f : Nat → Nat, f = fun i => (xs[i]?.getD 0).toNat := ⟨_, rfl⟩
    have hxs : xs = mkL n pay (n + 1) := by rw [hpay]; exact pays_fn hn (fun x hx => (hxb x hx).1)
    have hpb : ∀ i, i ≤ n → pay i ≤ 100000 := fun i hi => by
      have := hxb _ (List.mem_of_getElem? (show xs[i]? = some ((pay i : Nat) : Int) by rw [hxs]; exact mkL_get (by omega)))
      omega
    clear hpay hxb hwl hlen hlen'
    subst hxs
    rw [mkL_len]
    obtain ⟨ad, rfl, hcx⟩ := hp (fun e => by have := congrArg List.length e; rw [mkL_len] at this; simp at this)
    have HCX : Hid (∀ i, i ≤ n → w.cell? (ad.add i) = some (.int .i64 (pay i : Nat))) := fun i hi => hcx i _ (mkL_get (by omega))
    obtain ⟨st, hst⟩ : ∃ s, yb % 5000 = s := ⟨_, rfl⟩
    have hstl : st < 5000 := by rw [← hst]; exact Nat.mod_lt _ (by omega)
    obtain ⟨sL, hsL⟩ : ∃ s, leastS (eachL (fG P n pay) lo hi) = s := ⟨_, rfl⟩
    obtain ⟨sM, hsM⟩ : ∃ s, mostS (eachL (fG P n pay) lo hi) = s := ⟨_, rfl⟩
    have hLmem : ∃ d, lo ≤ d ∧ d ≤ hi ∧ sL = fG P n pay d := by rw [← hsL]; exact eachL_mem (fore_mem _ (eachL_ne hlh))
    have hMmem : ∃ d, lo ≤ d ∧ d ≤ hi ∧ sM = fG P n pay d := by rw [← hsM]; exact eachL_mem (fore_mem _ (eachL_ne hlh))
    have hML : lt' sM sL = false := by
      rw [← hsM, ← hsL]
      exact most_max (fun y hy => by obtain ⟨b, h1, h2, rfl⟩ := eachL_mem hy; exact fG_pos hnP) (fore_mem _ (eachL_ne hlh))
    have hsm : ∀ (g : Nat → Nat), (∀ i, i ≤ n → g i ≤ 100000) → ∀ d, d ≤ hi → Sm (fG P n g d) := fun g hg d hd => by
      rw [← prS_fn d]
      exact prS_sm (fun x hx => by
        obtain ⟨i, hi'⟩ := List.getElem?_of_mem hx
        have hil := (List.getElem?_eq_some_iff.1 hi').1
        rw [mkL_len] at hil
        rw [mkL_get hil] at hi'
        have := hg i (by omega)
        cases hi'
        omega) (by omega) hP.1
    have sSL : Sm sL := by obtain ⟨d, h1, h2, rfl⟩ := hLmem; exact hsm _ hpb d h2
    have sSM : Sm sM := by obtain ⟨d, h1, h2, rfl⟩ := hMmem; exact hsm _ hpb d h2
    have HLOW : Hid (∀ low : Nat, low ≤ 100000 → (∀ i, i ≤ n → low ≤ pay i) → ∀ W, Calls Try.prog 44 #[.agg (fV (ip sL)), .agg (fV ((low : Int), 1))] W fun e w' => e = .returned (.bool false) ∧ Below W.heap.size W w') := fun low hb h W => by
      have := rLess_c sL (low, 1) W sSL ⟨by show low < _; omega, by show 1 < _; omega⟩
      rw [show lt' sL (low, 1) = false by obtain ⟨d, h1, h2, e⟩ := hLmem; rw [e]; exact fG_low (by omega) hnP h] at this
      exact this
    have HHIGH : Hid (∀ high : Nat, high ≤ 100000 → (∀ i, i ≤ n → pay i ≤ high) → ∀ W, Calls Try.prog 44 #[.agg (fV ((high : Int), 1)), .agg (fV (ip sM))] W fun e w' => e = .returned (.bool false) ∧ Below W.heap.size W w') := fun high hb h W => by
      have := rLess_c (high, 1) sM W ⟨by show high < _; omega, by show 1 < _; omega⟩ sSM
      rw [show lt' (high, 1) sM = false by obtain ⟨d, h1, h2, e⟩ := hMmem; rw [e]; exact fG_high (by omega) hnP h] at this
      exact this
    have HML : Hid (∀ W, Calls Try.prog 44 #[.agg (fV (ip sM)), .agg (fV (ip sL))] W fun e w' => e = .returned (.bool false) ∧ Below W.heap.size W w') := fun W => by
      have := rLess_c sM sL W sSM sSL
      rw [hML] at this
      exact this
    have hgc : ∀ d, Nat.gcd (fG P n pay d).1 (fG P n pay d).2 = 1 ∧ 0 < (fG P n pay d).2 := fun d => by
      unfold fG
      obtain ⟨_, _, _, _, h⟩ := shr_spec (prcS P d n pay) (bn_pos (n := P) (k := n) hnP)
      exact ⟨h, shr_pos _ (bn_pos hnP)⟩
    have HWL : Hid (∀ W, Calls Try.prog 41 #[.agg (fV (ip sL))] W fun e w' => e = .returned (.bool true) ∧ Below W.heap.size W w') := fun W => whole_c _ W (by have := sSL.1; omega) (by have := sSL.2; omega) (by obtain ⟨d, _, _, rfl⟩ := hLmem; exact (hgc d).2) (by obtain ⟨d, _, _, rfl⟩ := hLmem; exact (hgc d).1)
    have HWM : Hid (∀ W, Calls Try.prog 41 #[.agg (fV (ip sM))] W fun e w' => e = .returned (.bool true) ∧ Below W.heap.size W w') := fun W => whole_c _ W (by have := sSM.1; omega) (by have := sSM.2; omega) (by obtain ⟨d, _, _, rfl⟩ := hMmem; exact (hgc d).2) (by obtain ⟨d, _, _, rfl⟩ := hMmem; exact (hgc d).1)
    have HP1 : Hid (∀ W, InAt W (some ad) (mkL n pay (n + 1)) → Calls Try.prog 35 #[.agg (gV P lo hi), .slice (some ad) (n + 1) c] W fun e w' => e = .returned (.tuple #[.agg (fV (ip sL)), .agg (fV (ip sM)), .int .i64 0]) ∧ Below W.heap.size W w') := fun W h => by
      have := Price_c P lo hi (some ad) (mkL n pay (n + 1)) c W h
      rw [pri_fn hcc hnP hpb, mkL_len, hsL, hsM] at this
      exact this
    have HP2 : Hid ((∀ i, i ≤ n → pay i + ya ≤ 100000) → ∀ W A' c', InAt W A' (mkL n (fun i => pay i + ya) (n + 1)) → Calls Try.prog 35 #[.agg (gV P lo hi), .slice A' (n + 1) c'] W fun e w' => e = .returned (.tuple #[.agg (fV (((sL.1 + ya * sL.2 : Nat) : Int), (sL.2 : Int))), .agg (fV (((sM.1 + ya * sM.2 : Nat) : Int), (sM.2 : Int))), .int .i64 0]) ∧ Below W.heap.size W w') := fun hb W A' c' h => by
      have := Price_c P lo hi A' (mkL n (fun i => pay i + ya) (n + 1)) c' W h
      rw [pri_fn hcc hnP hb, mkL_len, (ends_up hlh hhi hnP).1, (ends_up hlh hhi hnP).2, hsL, hsM] at this
      exact this
    obtain ⟨fh, hfh⟩ : ∃ s, fG P n (fun i => st * (n - i)) hi = s := ⟨_, rfl⟩
    obtain ⟨fl, hfl⟩ : ∃ s, fG P n (fun i => st * (n - i)) lo = s := ⟨_, rfl⟩
    obtain ⟨sn, hsn⟩ : ∃ q, st * n = q := ⟨_, rfl⟩
    have HP3 : Hid (sn ≤ 100000 → ∀ W A' c', InAt W A' (mkL n (fun i => st * (n - i)) (n + 1)) → Calls Try.prog 35 #[.agg (gV P lo hi), .slice A' (n + 1) c'] W fun e w' => e = .returned (.tuple #[.agg (fV (ip fh)), .agg (fV (ip fl)), .int .i64 0]) ∧ Below W.heap.size W w') := fun hb W A' c' h => by
      have := Price_c P lo hi A' (mkL n (fun i => st * (n - i)) (n + 1)) c' W h
      rw [pri_fn hcc hnP (fun i hi' => Nat.le_trans (Nat.mul_le_mul_left _ (Nat.sub_le n i)) (by rw [hsn]; exact hb)), mkL_len, (fall_ends hlh hhi hP.2 hnP).1, (fall_ends hlh hhi hP.2 hnP).2, hfh, hfl] at this
      exact this
    have HP4 : Hid (100000 < sn → ∀ W A' c', InAt W A' (mkL n (fun i => st * (n - i)) (n + 1)) → Calls Try.prog 35 #[.agg (gV P lo hi), .slice A' (n + 1) c'] W fun e w' => e = .returned (.tuple #[.agg (fV (0, 0)), .agg (fV (0, 0)), .int .i64 7]) ∧ Below W.heap.size W w') := fun hb W A' c' h => by
      have := Price_c P lo hi A' (mkL n (fun i => st * (n - i)) (n + 1)) c' W h
      rw [pri_no hcc hnP (Nat.zero_le n) (by show 100000 < st * (n - 0); rw [Nat.sub_zero, hsn]; exact hb), mkL_len] at this
      exact this
    have HFV : Hid (sn ≤ 100000 → (fh.1 * P = sn * (P - hi) * fh.2 ∧ fl.1 * P = sn * (P - lo) * fl.2) ∧ Sm fh ∧ Sm fl) := fun hb => by
      have hg : ∀ i, i ≤ n → (fun i => st * (n - i)) i ≤ 100000 := fun i hi' => Nat.le_trans (Nat.mul_le_mul_left _ (Nat.sub_le n i)) (by rw [hsn]; exact hb)
      rw [← hfh, ← hfl, ← hsn]
      exact ⟨⟨fall_val hhi hP.2 hnP, fall_val (by omega) hP.2 hnP⟩, hsm _ hg hi (Nat.le_refl _), hsm _ hg lo hlh⟩
    have hsnl : sn ≤ 100000 ∨ 100000 < sn := by omega
    have hsnb : sn ≤ 5000 * 20 := by rw [← hsn]; exact Nat.mul_le_mul (by omega) (by omega)
    obtain ⟨mo, hmo⟩ : ∃ f : Nat → Nat, f = fun i => pay i + ya := ⟨_, rfl⟩
    obtain ⟨fa, hfa⟩ : ∃ f : Nat → Nat, f = fun i => st * (n - i) := ⟨_, rfl⟩
    have HMO : Hid (∀ i, mo i = pay i + ya) := fun i => by rw [hmo]
    have HFA : Hid (∀ i, fa i = st * (n - i)) := fun i => by rw [hfa]
    rw [← hmo] at HP2
    rw [← hfa] at HP3 HP4
    obtain ⟨n1, hn1⟩ : ∃ m, n + 1 = m := ⟨_, rfl⟩
    rw [hn1] at HP HP1 HP2 HP3 HP4 ⊢
    have HPB := Lib.hid hpb
    have HN1 := Lib.hid hn1
    have HCE := Lib.hid hcc
    obtain ⟨l1, l2⟩ := sL
    obtain ⟨m1, m2⟩ := sM
    have e0 : IntKind.i64.wrap ((n1 : Int) - 1) = (n : Int) := by rw [wrapI (by unfold I64; omega)]; omega
    have e1 : IntKind.i64.wrap ((P : Int) + 1) = ((P + 1 : Nat) : Int) := by rw [wrapI (by unfold I64; omega)]; omega
    obtain ⟨p1, hp1⟩ : ∃ q, P + 1 = q := ⟨_, rfl⟩
    rw [hp1] at e1
    have e2 : ¬ (n1 : Int) < 1 := by omega
    have e3 : ¬ (p1 : Int) < (n1 : Int) := by omega
    have e4 : IntKind.i64.wrap (ya : Int) = (ya : Int) := wrapI (by unfold I64; omega)
    have e5 : IntKind.i64.wrap (yb : Int) = (yb : Int) := wrapI (by unfold I64; omega)
    have e6 : (yb : Int).tmod 5000 = (st : Int) := by rw [← hst]; rfl
    have e7 : IntKind.i64.wrap (st : Int) = (st : Int) := wrapI (by unfold I64; omega)
    have e8 : (0 : Int) < (n1 : Int) := by omega
    have e9 : 0 < n1 := by omega
    have hsb := sSL
    have hsb2 := sSM
    have hsnr : st * n = sn := hsn
    have HSNR := Lib.hid hsnr
    have HYA := Lib.hid hya
    have HST := Lib.hid hstl
    have HNP := Lib.hid hnP
    have HB4 := Lib.hid hsb
    have HB5 := Lib.hid hsb2
    clear hcc hn hpb hcx hst hstl hsL hsM hLmem hMmem hML hsm sSL sSM hgc hfh hfl hsn hsnr hmo hfa hn1 hp1 k1 k2 k3 k4 k5 hya hyb hsb hsb2 hnP hp
    go_enter Try.func14, Try.ntmps14
    go_wp2_with fail
    refine (HP1.out _ (HP.out.keep hs.1)).mono ?_
    rintro e v1 ⟨rfl, hb⟩
    replace hs := hs.keep hb
    replace HG := Lib.hid (HG.out.keep hb)
    replace HU := Lib.hid (HU.out.keep hb)
    clear hb
    clear c0 c1 c2
    have hz1 := Lib.hid ((Blk.new v1 41 (fV (0, 0))).alloc (.cells (fV (0, 0)) 41))
    have hz2 := Lib.hid ((Blk.new1 v1 (.cells (fV (0, 0)) 41) 41 (fV (0, 0))).rowFar (g' := v1.heap.size) (by omega) (fV ((l1 : Int), (l2 : Int))))
    have hq : Below v1.heap.size v1 ((((v1.alloc (.cells (fV (0, 0)) 41)).alloc (.cells (fV (0, 0)) 41)).setRow v1.heap.size (fV ((l1 : Int), (l2 : Int)))).setRow (v1.heap.size + 1) (fV ((m1 : Int), (m2 : Int)))) := (((((Since.refl v1).alloc (.cells (fV (0, 0)) 41)).alloc (.cells (fV (0, 0)) 41)).row (g := v1.heap.size) (Nat.le_refl _) (fV ((l1 : Int), (l2 : Int)))).row (g := v1.heap.size + 1) (by omega) (fV ((m1 : Int), (m2 : Int)))).1
    have H7 := Lib.hid ((hz1.out.row (fV ((l1 : Int), (l2 : Int)))).rowFar (g' := v1.heap.size + 1) (by omega) (fV ((m1 : Int), (m2 : Int))))
    have H8 := Lib.hid (hz2.out.row (fV ((m1 : Int), (m2 : Int))))
    replace hs := hs.keep hq
    replace HG := Lib.hid (HG.out.keep hq)
    replace HU := Lib.hid (HU.out.keep hq)
    obtain ⟨c0, c1, c2⟩ := HG.out.gcells
    obtain ⟨a0, a1⟩ := H7.out.fcells
    go_wp2_with (first | (refine wpList_store_row rfl 41 _ _ rfl (v1.heap.size) _ rfl rfl 41 _ hz1.out (by kernel_rfl) rfl (by simp [Value.oneCell']) ?_) | (refine wpList_store_row rfl 41 _ _ rfl (v1.heap.size + 1) _ rfl rfl 41 _ hz2.out (by kernel_rfl) rfl (by simp [Value.oneCell']) ?_))
    obtain ⟨v2, hu⟩ : ∃ u, (((v1.alloc (.cells (fV (0, 0)) 41)).alloc (.cells (fV (0, 0)) 41)).setRow v1.heap.size (fV ((l1 : Int), (l2 : Int)))).setRow (v1.heap.size + 1) (fV ((m1 : Int), (m2 : Int))) = u := ⟨_, rfl⟩
    rw [hu] at hs HG HU H7 H8 ⊢
    clear hu hq hz1 hz2 c0 c1 c2 a0 a1
    obtain ⟨k7, hk7⟩ : ∃ k, v1.heap.size = k := ⟨_, rfl⟩
    rw [hk7] at H7 H8 ⊢
    clear hk7
    refine (HWL.out _).mono ?_
    rintro e v3 ⟨rfl, hb⟩
    replace hs := hs.keep hb
    replace HG := Lib.hid (HG.out.keep hb)
    replace HU := Lib.hid (HU.out.keep hb)
    replace H7 := Lib.hid (H7.out.keep hb)
    replace H8 := Lib.hid (H8.out.keep hb)
    clear hb
    obtain ⟨b0, b1⟩ := H8.out.fcells
    go_wp2_with fail
    refine (HWM.out _).mono ?_
    rintro e v4 ⟨rfl, hb⟩
    replace hs := hs.keep hb
    replace HG := Lib.hid (HG.out.keep hb)
    replace HU := Lib.hid (HU.out.keep hb)
    replace H7 := Lib.hid (H7.out.keep hb)
    replace H8 := Lib.hid (H8.out.keep hb)
    clear hb
    clear b0 b1
    have x0 : v4.cell? ad = some (.int .i64 (pay 0 : Nat)) := keep_cell hs.1 (HCX.out 0 (Nat.zero_le _))
    have HFd : Hid (∀ k, ((Blk (v4.drewN k) w.heap.size 25 (gV P lo hi) ∧ Blk (v4.drewN k) (w.heap.size + 1) 74 #[.int .u16 ya, .int .u16 yb]) ∧ Blk (v4.drewN k) k7 41 (fV ((l1 : Int), (l2 : Int)))) ∧ Blk (v4.drewN k) (k7 + 1) 41 (fV ((m1 : Int), (m2 : Int)))) := fun k => ⟨⟨⟨HG.out, HU.out⟩, H7.out⟩, H8.out⟩
    have HSd : Hid (∀ k, Since w (v4.drewN k)) := fun k => ⟨bdrew hs.1 k, hs.2⟩
    go_wp2_with fail
    go_quiet (fail)
    obtain ⟨v5, hv5⟩ : ∃ v5, v4.drewN nq = v5 := ⟨_, rfl⟩
    have hs5 := Lib.hid (HSd.out nq)
    have HI := Lib.hid (HFd.out nq)
    rw [hv5] at hs5 HI ⊢
    clear hv5 x0 HFd HSd hs HG HU H7 H8
    have HG := Lib.hid HI.out.1.1.1
    have HU := Lib.hid HI.out.1.1.2
    have H7 := Lib.hid HI.out.1.2
    have H8 := Lib.hid HI.out.2
    clear HI
    have z0 := HU.out.cell 0
    have z1 := HU.out.cell 1
    simp only [List.getElem?_toArray, List.getElem?_cons_zero, List.getElem?_cons_succ] at z0 z1
    have HS0 := Lib.hid (Since.refl v5)
    have HO1 : Hid (v5.ownsRow v5.heap.size 3 1 (.slice none 0 0) (mkL n mo 0).length ((mkL n mo 0).map fun x => .int .i64 x)) := World.ownsRow_nil _ _ _ _
    have HO2 : Hid (v5.ownsRow v5.heap.size 3 1 (.slice none 0 0) (mkL n fa 0).length ((mkL n fa 0).map fun x => .int .i64 x)) := World.ownsRow_nil _ _ _ _
    have hpay0 := HPB.out 0 (Nat.zero_le _)
    go_wp2_with fail
    clear z0 z1
    go_loopw [11, 12, 13, 14, 16] (fun lv hv mv fv i wr => ∃ k low high : Nat, k ≤ n1 ∧ lv = .int .i64 low ∧ hv = .int .i64 high ∧ i = .int .i64 k ∧ low ≤ 100000 ∧ high ≤ 100000 ∧ Hid (∀ j, j < k → low ≤ pay j ∧ pay j ≤ high) ∧ Hid (wr.ownsRow v5.heap.size 3 1 mv (mkL n mo k).length ((mkL n mo k).map fun x => .int .i64 x)) ∧ Hid (wr.ownsRow v5.heap.size 3 1 fv (mkL n fa k).length ((mkL n fa k).map fun x => .int .i64 x)) ∧ Hid (∀ g, mv.ownBlock = some g → fv.ownBlock ≠ some g) ∧ Hid (Since v5 wr)) (fun _ _ _ _ i _ => n1 - (intOf i).toNat)
    case atStart => exact ⟨0, pay 0, pay 0, by omega, rfl, rfl, rfl, hpay0, hpay0, (fun j h => by omega), HO1, HO2, (fun g h => by cases h), HS0⟩
    case round =>
      clear HO1 HO2 HS0 hpay0
      obtain ⟨k, low, high, hk, rfl, rfl, rfl, hlow, hhigh, HLH, HOA, HOB, HNE, HS⟩ := hrel
      by_cases hlt : k < n1
      · have hkn : k ≤ n := by have := HN1.out; omega
        have q1 : (k : Int) ≤ (n : Int) := by omega
        have l1_ : (k : Int) < (n1 : Int) := by omega
        have l2_ : k < n1 := hlt
        have u1 : IntKind.i64.wrap ((k : Int) + 1) = ((k + 1 : Nat) : Int) := by rw [wrapI (by have := HNP.out; unfold I64; omega)]; omega
        have hcell := HCX.out k hkn
        have hpk := HPB.out k hkn
        obtain ⟨x, hx⟩ : ∃ x, pay k = x := ⟨_, rfl⟩
        have HXK := Lib.hid hx
        rw [hx] at hcell hpk
        have cx := keep_cell (hs5.out.keep HS.out.1).1 hcell
        obtain ⟨low2, hlow2⟩ : ∃ q, min low x = q := ⟨_, rfl⟩
        obtain ⟨high2, hhigh2⟩ : ∃ q, max high x = q := ⟨_, rfl⟩
        have hmin : min (low : Int) (x : Int) = (low2 : Int) := by omega
        have hmax : max (high : Int) (x : Int) = (high2 : Int) := by omega
        have hl2 : low2 ≤ 100000 ∧ high2 ≤ 100000 := by omega
        have HLH2 : Hid (∀ j, j < k + 1 → low2 ≤ pay j ∧ pay j ≤ high2) := fun j hj => by
          rcases Nat.lt_or_ge j k with h | h
          · have := HLH.out j h; omega
          · obtain rfl : j = k := by omega
            omega
        obtain ⟨A1, c1_, rfl, -, -, -⟩ := own_int HOA.out
        obtain ⟨A2_, c2_, rfl, -, -, -⟩ := own_int HOB.out
        have HWd : Hid (∀ q, ((wr.drewN q).ownsRow v5.heap.size 3 1 (.slice A1 (mkL n mo k).length c1_) (mkL n mo k).length ((mkL n mo k).map fun x => .int .i64 x) ∧ (wr.drewN q).ownsRow v5.heap.size 3 1 (.slice A2_ (mkL n fa k).length c2_) (mkL n fa k).length ((mkL n fa k).map fun x => .int .i64 x)) ∧ Since v5 (wr.drewN q)) := fun q => ⟨⟨HOA.out, HOB.out⟩, bdrew HS.out.1 q, HS.out.2⟩
        have HX5 := Lib.hid hcell
        clear hx hlow2 hhigh2 hcell HLH HOA HOB HS
        go_wp2_with fail
        go_quiet (fail)
        obtain ⟨wq, hwq⟩ : ∃ wq, wr.drewN nq = wq := ⟨_, rfl⟩
        have HQ := Lib.hid (HWd.out nq)
        rw [hwq] at HQ ⊢
        clear hwq HWd cx hmin hmax
        have HOA := Lib.hid HQ.out.1.1
        have HOB := Lib.hid HQ.out.1.2
        have HS := Lib.hid HQ.out.2
        obtain ⟨y1, hy1⟩ : ∃ q, x + ya = q := ⟨_, rfl⟩
        obtain ⟨nk, hnk⟩ : ∃ q, n - k = q := ⟨_, rfl⟩
        obtain ⟨y2, hy2⟩ : ∃ q, st * nk = q := ⟨_, rfl⟩
        have hnkb : nk ≤ 20 := by have := HNP.out; omega
        have hy2b : y2 ≤ 5000 * 20 := by rw [← hy2]; exact Nat.mul_le_mul (by have := HST.out; omega) hnkb
        have w1 : IntKind.i64.wrap ((x : Int) + (ya : Int)) = (y1 : Int) := by rw [wrapI (by have := HYA.out; unfold I64; omega)]; omega
        have w2 : IntKind.i64.wrap ((n : Int) - (k : Int)) = (nk : Int) := by rw [wrapI (by have := HNP.out; unfold I64; omega)]; omega
        have w3 : IntKind.i64.wrap ((st : Int) * (nk : Int)) = (y2 : Int) := by rw [← Int.natCast_mul, hy2, wrapI (by unfold I64; omega)]
        have HF1 : Hid (mkL n mo (k + 1) = mkL n mo k ++ [(y1 : Int)]) := by show _ = _; rw [mkL_succ, HMO.out, HXK.out, hy1]
        have HF2 : Hid (mkL n fa (k + 1) = mkL n fa k ++ [(y2 : Int)]) := by show _ = _; rw [mkL_succ, HFA.out, hnk, hy2]
        have HL1 : Hid ((mkL n mo k).length ≤ 1000) := by show _ ≤ _; rw [mkL_len]; have := HNP.out; omega
        have HL2 : Hid ((mkL n fa k).length ≤ 1000) := by show _ ≤ _; rw [mkL_len]; have := HNP.out; omega
        clear hy1 hnk hy2 HXK HQ hpk
        go_wp2_with fail
        refine Vals10.region (fun σ X => A2 v5 v5.heap.size (.slice A1 (mkL n mo k).length c1_) (mkL n mo k) (y1 : Int) (.slice A2_ (mkL n fa k).length c2_) (mkL n fa k) (y2 : Int) (σ 7) (σ 8) (σ 18) (σ 19) X ∧ (∀ z, σ 20 = some z → σ 8 = some z) ∧ (∀ z, σ 21 = some z → σ 19 = some z)) [some 94, some 95, some 96, some 97, some 98, some 99, some 100, some 101, some 102, some 103, some 104, some 105, some 106, some 107, some 108, some 109, some 110, some 111, some 112, some 113, some 13, some 14] [.is (.slice A1 (mkL n mo k).length c1_), .is ?_, .is ?_, .is ?_, .is (.int .i64 (x : Nat)), .is (.int .i64 (ya : Nat)), .is (.int .i64 (y1 : Nat)), .any, .any, .is (.slice A2_ (mkL n fa k).length c2_), .is ?_, .is (.int .u16 (yb : Nat)), .is (.int .i64 (yb : Nat)), .is (.int .i64 (st : Nat)), .is (.int .i64 (n : Nat)), .is (.int .i64 (k : Nat)), .is (.int .i64 (nk : Nat)), .is (.int .i64 (y2 : Nat)), .any, .any, .any, .any] (by kernel_rfl) (by kernel_rfl) (by kernel_rfl) (by kernel_rfl) (by kernel_rfl) (by kernel_rfl) (⟨A2.start HS.out.drew HS.out.2 HOA.out HOB.out HNE.out, (fun z hz => by cases hz), (fun z hz => by cases hz)⟩) ?hsteps ?hfin
        case hsteps =>
          refine Vals10.Steps.run rfl ?_ ?_
          · intro a W σ hJ pre K hK
            have e13 := pre.2.2 13 _ (by kernel_rfl) rfl
            clear pre
            simp only [Array.getD_eq_getD_getElem?, List.getElem?_toArray, List.getElem?_cons_zero, List.getElem?_cons_succ, Option.getD_some] at e13
            go_simp
            exact hK _ hJ
          refine Vals10.Steps.run rfl ?_ ?_
          · intro a W σ hJ pre K hK
            have e1 := pre.2.2 1 _ (by kernel_rfl) rfl
            clear pre
            simp only [Array.getD_eq_getD_getElem?, List.getElem?_toArray, List.getElem?_cons_zero, List.getElem?_cons_succ, Option.getD_some] at e1
            go_simp
            exact hK _ hJ
          refine Vals10.Steps.run rfl ?_ ?_
          · intro a W σ hJ pre K hK
            have e16 := pre.2.2 16 _ (by kernel_rfl) rfl
            clear pre
            simp only [Array.getD_eq_getD_getElem?, List.getElem?_toArray, List.getElem?_cons_zero, List.getElem?_cons_succ, Option.getD_some] at e16
            go_simp
            exact hK _ hJ
          refine Vals10.Steps.run rfl ?_ ?_
          · intro a W σ hJ pre K hK
            have e95 := pre.1 1 95 _ (by kernel_rfl) rfl rfl
            have e96 := pre.1 2 96 _ (by kernel_rfl) rfl rfl
            clear pre
            simp only [Array.getD_eq_getD_getElem?, List.getElem?_toArray, List.getElem?_cons_zero, List.getElem?_cons_succ, Option.getD_some] at e95 e96
            go_simp
            exact hK _ hJ
          refine Vals10.Steps.run rfl ?_ ?_
          · intro a W σ hJ pre K hK
            have e97 := pre.1 3 97 _ (by kernel_rfl) rfl rfl
            clear pre
            simp only [Array.getD_eq_getD_getElem?, List.getElem?_toArray, List.getElem?_cons_zero, List.getElem?_cons_succ, Option.getD_some] at e97
            have hS9 := hJ
            have hW9 : A2 v5 v5.heap.size (.slice A1 (mkL n mo k).length c1_) (mkL n mo k) (y1 : Int) (.slice A2_ (mkL n fa k).length c2_) (mkL n fa k) (y2 : Int) (σ 7) (σ 8) (σ 18) (σ 19) W := hS9.1
            have cx := keep_cell hW9.sn.1 (keep_cell hs5.out.1 HX5.out)
            have hu9 := HU.out.keep hW9.sn.1
            have z1 := hu9.cell 1
            simp only [List.getElem?_toArray, List.getElem?_cons_zero, List.getElem?_cons_succ] at z1
            go_simp
            exact hK _ hJ
          refine Vals10.Steps.run rfl ?_ ?_
          · intro a W σ hJ pre K hK
            have e15 := pre.2.2 15 _ (by kernel_rfl) rfl
            clear pre
            simp only [Array.getD_eq_getD_getElem?, List.getElem?_toArray, List.getElem?_cons_zero, List.getElem?_cons_succ, Option.getD_some] at e15
            go_simp
            exact hK _ hJ
          refine Vals10.Steps.run rfl ?_ ?_
          · intro a W σ hJ pre K hK
            have e98 := pre.1 4 98 _ (by kernel_rfl) rfl rfl
            have e99 := pre.1 5 99 _ (by kernel_rfl) rfl rfl
            clear pre
            simp only [Array.getD_eq_getD_getElem?, List.getElem?_toArray, List.getElem?_cons_zero, List.getElem?_cons_succ, Option.getD_some] at e98 e99
            go_simp
            exact hK _ hJ
          refine Vals10.Steps.mark rfl ?_ ?_
          · intro a W σ hJ hn pre K hK
            have e100 := pre.1 6 100 _ (by kernel_rfl) rfl rfl
            simp only [Array.getD_eq_getD_getElem?, List.getElem?_toArray, List.getElem?_cons_zero, List.getElem?_cons_succ, Option.getD_some] at e100
            have hJ2 : A2 v5 v5.heap.size (.slice A1 (mkL n mo k).length c1_) (mkL n mo k) (y1 : Int) (.slice A2_ (mkL n fa k).length c2_) (mkL n fa k) (y2 : Int) (σ 7) (σ 8) (σ 18) (σ 19) W := hJ.1
            have hT1 : (∀ z, σ 20 = some z → σ 8 = some z) := hJ.2.1
            have hT2 : (∀ z, σ 21 = some z → σ 19 = some z) := hJ.2.2
            rw [hn] at hJ2
            go_simp
            exact hK _ _ ⟨hJ2.lit1, hT1, hT2⟩
          refine Vals10.Steps.mark rfl ?_ ?_
          · intro a W σ hJ hn pre K hK
            have e94 := pre.1 0 94 _ (by kernel_rfl) rfl rfl
            obtain ⟨v101, s101, e101⟩ := pre.2.1 7 (by kernel_rfl) rfl
            replace e101 : a.tmps.getD 101 undef = v101 := e101 101 rfl
            simp only [Array.getD_eq_getD_getElem?, List.getElem?_toArray, List.getElem?_cons_zero, List.getElem?_cons_succ, Option.getD_some] at e94 e101
            have hJ2 : A2 v5 v5.heap.size (.slice A1 (mkL n mo k).length c1_) (mkL n mo k) (y1 : Int) (.slice A2_ (mkL n fa k).length c2_) (mkL n fa k) (y2 : Int) (σ 7) (σ 8) (σ 18) (σ 19) W := hJ.1
            have hT1 : (∀ z, σ 20 = some z → σ 8 = some z) := hJ.2.1
            have hT2 : (∀ z, σ 21 = some z → σ 19 = some z) := hJ.2.2
            rw [hn, s101] at hJ2
            obtain ⟨v9, Y, hr, h2⟩ := hJ2.do1 (Nat.le_refl _) HL1.out 51
            have hx : a.eval (.tmp 94) = .slice A1 (mkL n mo k).length c1_ := by simpa [Act.eval] using e94
            have hy : a.eval (.tmp 101) = v101 := by simpa [Act.eval] using e101
            unfold Oper.wp execOp
            simp only [resolve, invoke, builtin, Sem.run_bind, Sem.run_pure, Result.andThen_ok, List.map_toArray, List.map_cons, List.map_nil, hx, hy, hr]
            rw [← s101] at h2
            exact hK _ _ ⟨h2, (fun z hz => by have := hT1 z hz; rw [hn] at this; cases this), hT2⟩
          refine Vals10.Steps.run rfl ?_ ?_
          · intro a W σ hJ pre K hK
            have e14 := pre.2.2 14 _ (by kernel_rfl) rfl
            clear pre
            simp only [Array.getD_eq_getD_getElem?, List.getElem?_toArray, List.getElem?_cons_zero, List.getElem?_cons_succ, Option.getD_some] at e14
            go_simp
            exact hK _ hJ
          refine Vals10.Steps.run rfl ?_ ?_
          · intro a W σ hJ pre K hK
            have e5 := pre.2.2 5 _ (by kernel_rfl) rfl
            clear pre
            simp only [Array.getD_eq_getD_getElem?, List.getElem?_toArray, List.getElem?_cons_zero, List.getElem?_cons_succ, Option.getD_some] at e5
            go_simp
            exact hK _ hJ
          refine Vals10.Steps.run rfl ?_ ?_
          · intro a W σ hJ pre K hK
            have e104 := pre.1 10 104 _ (by kernel_rfl) rfl rfl
            clear pre
            simp only [Array.getD_eq_getD_getElem?, List.getElem?_toArray, List.getElem?_cons_zero, List.getElem?_cons_succ, Option.getD_some] at e104
            have hS9 := hJ
            have hW9 : A2 v5 v5.heap.size (.slice A1 (mkL n mo k).length c1_) (mkL n mo k) (y1 : Int) (.slice A2_ (mkL n fa k).length c2_) (mkL n fa k) (y2 : Int) (σ 7) (σ 8) (σ 18) (σ 19) W := hS9.1
            have cx := keep_cell hW9.sn.1 (keep_cell hs5.out.1 HX5.out)
            have hu9 := HU.out.keep hW9.sn.1
            have z1 := hu9.cell 1
            simp only [List.getElem?_toArray, List.getElem?_cons_zero, List.getElem?_cons_succ] at z1
            go_simp
            exact hK _ hJ
          refine Vals10.Steps.run rfl ?_ ?_
          · intro a W σ hJ pre K hK
            have e105 := pre.1 11 105 _ (by kernel_rfl) rfl rfl
            clear pre
            simp only [Array.getD_eq_getD_getElem?, List.getElem?_toArray, List.getElem?_cons_zero, List.getElem?_cons_succ, Option.getD_some] at e105
            go_simp
            exact hK _ hJ
          refine Vals10.Steps.run rfl ?_ ?_
          · intro a W σ hJ pre K hK
            have e106 := pre.1 12 106 _ (by kernel_rfl) rfl rfl
            clear pre
            simp only [Array.getD_eq_getD_getElem?, List.getElem?_toArray, List.getElem?_cons_zero, List.getElem?_cons_succ, Option.getD_some] at e106
            go_simp
            exact hK _ hJ
          refine Vals10.Steps.run rfl ?_ ?_
          · intro a W σ hJ pre K hK
            have e10 := pre.2.2 10 _ (by kernel_rfl) rfl
            clear pre
            simp only [Array.getD_eq_getD_getElem?, List.getElem?_toArray, List.getElem?_cons_zero, List.getElem?_cons_succ, Option.getD_some] at e10
            go_simp
            exact hK _ hJ
          refine Vals10.Steps.run rfl ?_ ?_
          · intro a W σ hJ pre K hK
            have e16 := pre.2.2 16 _ (by kernel_rfl) rfl
            clear pre
            simp only [Array.getD_eq_getD_getElem?, List.getElem?_toArray, List.getElem?_cons_zero, List.getElem?_cons_succ, Option.getD_some] at e16
            go_simp
            exact hK _ hJ
          refine Vals10.Steps.run rfl ?_ ?_
          · intro a W σ hJ pre K hK
            have e108 := pre.1 14 108 _ (by kernel_rfl) rfl rfl
            have e109 := pre.1 15 109 _ (by kernel_rfl) rfl rfl
            clear pre
            simp only [Array.getD_eq_getD_getElem?, List.getElem?_toArray, List.getElem?_cons_zero, List.getElem?_cons_succ, Option.getD_some] at e108 e109
            go_simp
            exact hK _ hJ
          refine Vals10.Steps.run rfl ?_ ?_
          · intro a W σ hJ pre K hK
            have e107 := pre.1 13 107 _ (by kernel_rfl) rfl rfl
            have e110 := pre.1 16 110 _ (by kernel_rfl) rfl rfl
            clear pre
            simp only [Array.getD_eq_getD_getElem?, List.getElem?_toArray, List.getElem?_cons_zero, List.getElem?_cons_succ, Option.getD_some] at e107 e110
            go_simp
            exact hK _ hJ
          refine Vals10.Steps.mark rfl ?_ ?_
          · intro a W σ hJ hn pre K hK
            have e111 := pre.1 17 111 _ (by kernel_rfl) rfl rfl
            simp only [Array.getD_eq_getD_getElem?, List.getElem?_toArray, List.getElem?_cons_zero, List.getElem?_cons_succ, Option.getD_some] at e111
            have hJ2 : A2 v5 v5.heap.size (.slice A1 (mkL n mo k).length c1_) (mkL n mo k) (y1 : Int) (.slice A2_ (mkL n fa k).length c2_) (mkL n fa k) (y2 : Int) (σ 7) (σ 8) (σ 18) (σ 19) W := hJ.1
            have hT1 : (∀ z, σ 20 = some z → σ 8 = some z) := hJ.2.1
            have hT2 : (∀ z, σ 21 = some z → σ 19 = some z) := hJ.2.2
            rw [hn] at hJ2
            go_simp
            exact hK _ _ ⟨hJ2.lit2, hT1, hT2⟩
          refine Vals10.Steps.mark rfl ?_ ?_
          · intro a W σ hJ hn pre K hK
            have e103 := pre.1 9 103 _ (by kernel_rfl) rfl rfl
            obtain ⟨v112, s112, e112⟩ := pre.2.1 18 (by kernel_rfl) rfl
            replace e112 : a.tmps.getD 112 undef = v112 := e112 112 rfl
            simp only [Array.getD_eq_getD_getElem?, List.getElem?_toArray, List.getElem?_cons_zero, List.getElem?_cons_succ, Option.getD_some] at e103 e112
            have hJ2 : A2 v5 v5.heap.size (.slice A1 (mkL n mo k).length c1_) (mkL n mo k) (y1 : Int) (.slice A2_ (mkL n fa k).length c2_) (mkL n fa k) (y2 : Int) (σ 7) (σ 8) (σ 18) (σ 19) W := hJ.1
            have hT1 : (∀ z, σ 20 = some z → σ 8 = some z) := hJ.2.1
            have hT2 : (∀ z, σ 21 = some z → σ 19 = some z) := hJ.2.2
            rw [hn, s112] at hJ2
            obtain ⟨v9, Y, hr, h2⟩ := hJ2.do2 (Nat.le_refl _) HL2.out 51
            have hx : a.eval (.tmp 103) = .slice A2_ (mkL n fa k).length c2_ := by simpa [Act.eval] using e103
            have hy : a.eval (.tmp 112) = v112 := by simpa [Act.eval] using e112
            unfold Oper.wp execOp
            simp only [resolve, invoke, builtin, Sem.run_bind, Sem.run_pure, Result.andThen_ok, List.map_toArray, List.map_cons, List.map_nil, hx, hy, hr]
            rw [← s112] at h2
            exact hK _ _ ⟨h2, hT1, (fun z hz => by have := hT2 z hz; rw [hn] at this; cases this)⟩
          refine Vals10.Steps.mark rfl ?_ ?_
          · intro a W σ hJ hn pre K hK
            obtain ⟨v102, s102, e102⟩ := pre.2.1 8 (by kernel_rfl) rfl
            replace e102 : a.tmps.getD 102 undef = v102 := e102 102 rfl
            simp only [Array.getD_eq_getD_getElem?, List.getElem?_toArray, List.getElem?_cons_zero, List.getElem?_cons_succ, Option.getD_some] at e102
            have hJ2 : A2 v5 v5.heap.size (.slice A1 (mkL n mo k).length c1_) (mkL n mo k) (y1 : Int) (.slice A2_ (mkL n fa k).length c2_) (mkL n fa k) (y2 : Int) (σ 7) (σ 8) (σ 18) (σ 19) W := hJ.1
            have hT1 : (∀ z, σ 20 = some z → σ 8 = some z) := hJ.2.1
            have hT2 : (∀ z, σ 21 = some z → σ 19 = some z) := hJ.2.2
            go_simp
            exact hK _ _ ⟨hJ2, (fun z hz => by cases hz; exact s102), hT2⟩
          refine Vals10.Steps.mark rfl ?_ ?_
          · intro a W σ hJ hn pre K hK
            obtain ⟨v113, s113, e113⟩ := pre.2.1 19 (by kernel_rfl) rfl
            replace e113 : a.tmps.getD 113 undef = v113 := e113 113 rfl
            simp only [Array.getD_eq_getD_getElem?, List.getElem?_toArray, List.getElem?_cons_zero, List.getElem?_cons_succ, Option.getD_some] at e113
            have hJ2 : A2 v5 v5.heap.size (.slice A1 (mkL n mo k).length c1_) (mkL n mo k) (y1 : Int) (.slice A2_ (mkL n fa k).length c2_) (mkL n fa k) (y2 : Int) (σ 7) (σ 8) (σ 18) (σ 19) W := hJ.1
            have hT1 : (∀ z, σ 20 = some z → σ 8 = some z) := hJ.2.1
            have hT2 : (∀ z, σ 21 = some z → σ 19 = some z) := hJ.2.2
            go_simp
            exact hK _ _ ⟨hJ2, hT1, fun z hz => by cases hz; exact s113⟩
          exact Vals10.Steps.nil
        case hfin =>
        rintro X σ hJ
        simp only [Vals10.All]
        intro v101 h101 v102 h102 v112 h112 v113 h113 va hva vb hvb
        have hJ2 : A2 v5 v5.heap.size (.slice A1 (mkL n mo k).length c1_) (mkL n mo k) (y1 : Int) (.slice A2_ (mkL n fa k).length c2_) (mkL n fa k) (y2 : Int) (σ 7) (σ 8) (σ 18) (σ 19) X := hJ.1
        have hT1 : ∀ z, σ 20 = some z → σ 8 = some z := hJ.2.1
        have hT2 : ∀ z, σ 21 = some z → σ 19 = some z := hJ.2.2
        have r1 := hT1 va hva
        have r2 := hT2 vb hvb
        rw [h102] at r1
        rw [h113] at r2
        obtain rfl := Option.some.inj r1
        obtain rfl := Option.some.inj r2
        rw [h102, h113] at hJ2
        obtain ⟨-, -, c1', m1', c2', m2', k1, k2, k3, k4, k5, -, -⟩ := id hJ2
        have g1 : c1' = v102 ∧ m1' = mkL n mo k ++ [(y1 : Int)] := by
          rcases k4 with ⟨q, -⟩ | ⟨q, q2⟩
          · cases q
          · exact ⟨(Option.some.inj q).symm, q2⟩
        have g2 : c2' = v113 ∧ m2' = mkL n fa k ++ [(y2 : Int)] := by
          rcases k5 with ⟨q, -⟩ | ⟨q, q2⟩
          · cases q
          · exact ⟨(Option.some.inj q).symm, q2⟩
        obtain ⟨rfl, rfl⟩ := g1
        obtain ⟨rfl, rfl⟩ := g2
        rw [← HF1.out] at k1
        rw [← HF2.out] at k2
        have HOA2 := Lib.hid k1
        have HOB2 := Lib.hid k2
        have HNE2 := Lib.hid k3
        have HS2 := Lib.hid hJ2.sn
        clear hJ hJ2 hT1 hT2 r1 r2 h101 h102 h112 h113 hva hvb k1 k2 k3 k4 k5 HOA HOB HNE HS
        simp only [Vals.putAll, List.setIfInBounds_toArray, List.set_cons_zero, List.set_cons_succ]
        go_wp2_with fail
        go_roundw
        case rel => exact ⟨k + 1, low2, high2, by omega, rfl, rfl, by go_num, hl2.1, hl2.2, HLH2, HOA2, HOB2, HNE2, HS2⟩
        case measure => simp [intOf]; omega
      · obtain rfl : k = n1 := by omega
        have q1 : ¬ (k : Int) ≤ (n : Int) := by have := HN1.out; omega
        have hLO : ∀ i, i ≤ n → low ≤ pay i := fun i hi => (HLH.out i (by have := HN1.out; omega)).1
        have hHI : ∀ i, i ≤ n → pay i ≤ high := fun i hi => (HLH.out i (by have := HN1.out; omega)).2
        have HLA := Lib.hid (HLOW.out low hlow hLO)
        have HLB := Lib.hid (HHIGH.out high hhigh hHI)
        have HBY : Hid (high + ya ≤ 100000 → ∀ i, i ≤ n → pay i + ya ≤ 100000) := fun h i hi => by have := hHI i hi; omega
        obtain ⟨A3, c3, rfl, hI3, -, -⟩ := own_int HOA.out
        obtain ⟨A4, c4, rfl, hI4, -, -⟩ := own_int HOB.out
        have HI3 := Lib.hid hI3
        have HI4 := Lib.hid hI4
        first | rw [mkL_len, mkL_len] | rw [mkL_len] | skip
        have hs := Lib.hid (hs5.out.keep HS.out.1)
        replace HG := Lib.hid (HG.out.keep HS.out.1)
        replace HU := Lib.hid (HU.out.keep HS.out.1)
        replace H7 := Lib.hid (H7.out.keep HS.out.1)
        replace H8 := Lib.hid (H8.out.keep HS.out.1)
        obtain ⟨a0, a1⟩ := H7.out.fcells
        obtain ⟨b0, b1⟩ := H8.out.fcells
        clear hLO hHI HLH HLOW HHIGH hI3 hI4 HOA HOB HNE HS hs5
        go_wp2_with fail
        refine Vals6.regionAll (fun X => Below wr.drew.heap.size wr.drew X) [some 114, some 115, some 116, some 117, some 118, some 119, some 120, some 121, some 122, some 123, some 124, some 125, some 126, some 127] [.is (.agg (fV ((l1 : Int), (l2 : Int)))), .is (.int .i64 (low : Nat)), .is (.agg (fV ((low : Int), 1))), .is (.bool false), .is (.bool false), .is (.int .i64 (high : Nat)), .is (.agg (fV ((high : Int), 1))), .is (.agg (fV ((m1 : Int), (m2 : Int)))), .is (.bool false), .is (.bool false), .is (.bool false), .is (.agg (fV ((m1 : Int), (m2 : Int)))), .is (.agg (fV ((l1 : Int), (l2 : Int)))), .is (.bool false)] (by kernel_rfl) rfl rfl (by kernel_rfl) (by kernel_rfl) (by kernel_rfl) (by kernel_rfl) (by kernel_rfl) (by kernel_rfl) rfl (Below.refl _ _) ?hsteps ?hend
        case hsteps =>
          refine Vals5.Steps.run rfl (Vals5.Stable.is _) ?_ ?_
          · intro a W hS pre old K hK
            have e7 := old 7 _ (by kernel_rfl) rfl
            clear pre old
            simp only [Vals5.fits, Array.getD_eq_getD_getElem?, List.getElem?_toArray, List.getElem?_cons_zero, List.getElem?_cons_succ, Option.getD_some] at e7
            have hS9 := hS
            have bw9 : Below wr.heap.size wr W := (Below.drew (Below.refl _ _)).trans (hS9.mono (by first | exact Nat.le_refl _ | (simp; done)))
            have e0_ := keep_cell bw9 a0
            have e1_ := keep_cell bw9 a1
            have e2_ := keep_cell bw9 b0
            have e3_ := keep_cell bw9 b1
            go_simp
            refine hK _ _ hS (Below.refl _ _) ?_
            exact fits_is _ _
          refine Vals5.Steps.run rfl (Vals5.Stable.is _) ?_ ?_
          · intro a W hS pre old K hK
            have e11 := old 11 _ (by kernel_rfl) rfl
            clear pre old
            simp only [Vals5.fits, Array.getD_eq_getD_getElem?, List.getElem?_toArray, List.getElem?_cons_zero, List.getElem?_cons_succ, Option.getD_some] at e11
            go_simp
            refine hK _ _ hS (Below.refl _ _) ?_
            exact fits_is _ _
          refine Vals5.Steps.run rfl (Vals5.Stable.is _) ?_ ?_
          · intro a W hS pre old K hK
            have e115 := pre 1 115 _ (by kernel_rfl) rfl rfl
            clear pre old
            simp only [Vals5.fits, Array.getD_eq_getD_getElem?, List.getElem?_toArray, List.getElem?_cons_zero, List.getElem?_cons_succ, Option.getD_some] at e115
            go_simp
            refine (share_c low 1 _).mono ?_
            rintro e w' ⟨rfl, hb'⟩
            refine hK _ _ (hS.trans (hb'.mono hS.size)) hb' ?_
            exact fits_is _ _
          refine Vals5.Steps.run rfl (Vals5.Stable.is _) ?_ ?_
          · intro a W hS pre old K hK
            have e114 := pre 0 114 _ (by kernel_rfl) rfl rfl
            have e116 := pre 2 116 _ (by kernel_rfl) rfl rfl
            clear pre old
            simp only [Vals5.fits, Array.getD_eq_getD_getElem?, List.getElem?_toArray, List.getElem?_cons_zero, List.getElem?_cons_succ, Option.getD_some] at e114 e116
            go_simp
            refine (HLA.out _).mono ?_
            rintro e w' ⟨rfl, hb'⟩
            refine hK _ _ (hS.trans (hb'.mono hS.size)) hb' ?_
            exact fits_is _ _
          refine Vals5.Steps.run rfl (Vals5.Stable.is _) ?_ ?_
          · intro a W hS pre old K hK
            have e117 := pre 3 117 _ (by kernel_rfl) rfl rfl
            clear pre old
            simp only [Vals5.fits, Array.getD_eq_getD_getElem?, List.getElem?_toArray, List.getElem?_cons_zero, List.getElem?_cons_succ, Option.getD_some] at e117
            go_simp
            refine hK _ _ hS (Below.refl _ _) ?_
            exact fits_is _ _
          refine Vals5.Steps.run rfl (Vals5.Stable.is _) ?_ ?_
          · intro a W hS pre old K hK
            have e12 := old 12 _ (by kernel_rfl) rfl
            clear pre old
            simp only [Vals5.fits, Array.getD_eq_getD_getElem?, List.getElem?_toArray, List.getElem?_cons_zero, List.getElem?_cons_succ, Option.getD_some] at e12
            go_simp
            refine hK _ _ hS (Below.refl _ _) ?_
            exact fits_is _ _
          refine Vals5.Steps.run rfl (Vals5.Stable.is _) ?_ ?_
          · intro a W hS pre old K hK
            have e119 := pre 5 119 _ (by kernel_rfl) rfl rfl
            clear pre old
            simp only [Vals5.fits, Array.getD_eq_getD_getElem?, List.getElem?_toArray, List.getElem?_cons_zero, List.getElem?_cons_succ, Option.getD_some] at e119
            go_simp
            refine (share_c high 1 _).mono ?_
            rintro e w' ⟨rfl, hb'⟩
            refine hK _ _ (hS.trans (hb'.mono hS.size)) hb' ?_
            exact fits_is _ _
          refine Vals5.Steps.run rfl (Vals5.Stable.is _) ?_ ?_
          · intro a W hS pre old K hK
            have e8 := old 8 _ (by kernel_rfl) rfl
            clear pre old
            simp only [Vals5.fits, Array.getD_eq_getD_getElem?, List.getElem?_toArray, List.getElem?_cons_zero, List.getElem?_cons_succ, Option.getD_some] at e8
            have hS9 := hS
            have bw9 : Below wr.heap.size wr W := (Below.drew (Below.refl _ _)).trans (hS9.mono (by first | exact Nat.le_refl _ | (simp; done)))
            have e0_ := keep_cell bw9 a0
            have e1_ := keep_cell bw9 a1
            have e2_ := keep_cell bw9 b0
            have e3_ := keep_cell bw9 b1
            go_simp
            refine hK _ _ hS (Below.refl _ _) ?_
            exact fits_is _ _
          refine Vals5.Steps.run rfl (Vals5.Stable.is _) ?_ ?_
          · intro a W hS pre old K hK
            have e120 := pre 6 120 _ (by kernel_rfl) rfl rfl
            have e121 := pre 7 121 _ (by kernel_rfl) rfl rfl
            clear pre old
            simp only [Vals5.fits, Array.getD_eq_getD_getElem?, List.getElem?_toArray, List.getElem?_cons_zero, List.getElem?_cons_succ, Option.getD_some] at e120 e121
            go_simp
            refine (HLB.out _).mono ?_
            rintro e w' ⟨rfl, hb'⟩
            refine hK _ _ (hS.trans (hb'.mono hS.size)) hb' ?_
            exact fits_is _ _
          refine Vals5.Steps.run rfl (Vals5.Stable.is _) ?_ ?_
          · intro a W hS pre old K hK
            have e118 := pre 4 118 _ (by kernel_rfl) rfl rfl
            have e122 := pre 8 122 _ (by kernel_rfl) rfl rfl
            clear pre old
            simp only [Vals5.fits, Array.getD_eq_getD_getElem?, List.getElem?_toArray, List.getElem?_cons_zero, List.getElem?_cons_succ, Option.getD_some] at e118 e122
            go_simp
            refine hK _ _ hS (Below.refl _ _) ?_
            exact fits_is _ _
          refine Vals5.Steps.run rfl (Vals5.Stable.is _) ?_ ?_
          · intro a W hS pre old K hK
            have e123 := pre 9 123 _ (by kernel_rfl) rfl rfl
            clear pre old
            simp only [Vals5.fits, Array.getD_eq_getD_getElem?, List.getElem?_toArray, List.getElem?_cons_zero, List.getElem?_cons_succ, Option.getD_some] at e123
            go_simp
            refine hK _ _ hS (Below.refl _ _) ?_
            exact fits_is _ _
          refine Vals5.Steps.run rfl (Vals5.Stable.is _) ?_ ?_
          · intro a W hS pre old K hK
            have e8 := old 8 _ (by kernel_rfl) rfl
            clear pre old
            simp only [Vals5.fits, Array.getD_eq_getD_getElem?, List.getElem?_toArray, List.getElem?_cons_zero, List.getElem?_cons_succ, Option.getD_some] at e8
            have hS9 := hS
            have bw9 : Below wr.heap.size wr W := (Below.drew (Below.refl _ _)).trans (hS9.mono (by first | exact Nat.le_refl _ | (simp; done)))
            have e0_ := keep_cell bw9 a0
            have e1_ := keep_cell bw9 a1
            have e2_ := keep_cell bw9 b0
            have e3_ := keep_cell bw9 b1
            go_simp
            refine hK _ _ hS (Below.refl _ _) ?_
            exact fits_is _ _
          refine Vals5.Steps.run rfl (Vals5.Stable.is _) ?_ ?_
          · intro a W hS pre old K hK
            have e7 := old 7 _ (by kernel_rfl) rfl
            clear pre old
            simp only [Vals5.fits, Array.getD_eq_getD_getElem?, List.getElem?_toArray, List.getElem?_cons_zero, List.getElem?_cons_succ, Option.getD_some] at e7
            have hS9 := hS
            have bw9 : Below wr.heap.size wr W := (Below.drew (Below.refl _ _)).trans (hS9.mono (by first | exact Nat.le_refl _ | (simp; done)))
            have e0_ := keep_cell bw9 a0
            have e1_ := keep_cell bw9 a1
            have e2_ := keep_cell bw9 b0
            have e3_ := keep_cell bw9 b1
            go_simp
            refine hK _ _ hS (Below.refl _ _) ?_
            exact fits_is _ _
          refine Vals5.Steps.run rfl (Vals5.Stable.is _) ?_ ?_
          · intro a W hS pre old K hK
            have e125 := pre 11 125 _ (by kernel_rfl) rfl rfl
            have e126 := pre 12 126 _ (by kernel_rfl) rfl rfl
            clear pre old
            simp only [Vals5.fits, Array.getD_eq_getD_getElem?, List.getElem?_toArray, List.getElem?_cons_zero, List.getElem?_cons_succ, Option.getD_some] at e125 e126
            go_simp
            refine (HML.out _).mono ?_
            rintro e w' ⟨rfl, hb'⟩
            refine hK _ _ (hS.trans (hb'.mono hS.size)) hb' ?_
            exact fits_is _ _
          exact Vals5.Steps.nil
        case hend =>
        rintro X hX
        have hbX : Below wr.heap.size wr X := (Below.drew (Below.refl _ _)).trans (hX.mono (by first | exact Nat.le_refl _ | (simp; done)))
        replace hs := hs.out.keep hbX
        replace HG := Lib.hid (HG.out.keep hbX)
        replace HU := Lib.hid (HU.out.keep hbX)
        replace H7 := Lib.hid (H7.out.keep hbX)
        replace H8 := Lib.hid (H8.out.keep hbX)
        replace HI3 := Lib.hid (HI3.out.keep hbX)
        replace HI4 := Lib.hid (HI4.out.keep hbX)
        clear a0 a1 b0 b1 hbX hX HLA HLB HML
        simp only [Vals5.All, List.getLast_cons_cons, List.getLast_singleton]
        simp only [Vals.putAll, List.setIfInBounds_toArray, List.set_cons_zero, List.set_cons_succ]
        intro K hK
        go_simp
        refine hK _ _ ?_
        clear hK K
        obtain ⟨hb, hhb⟩ : ∃ q, high + ya = q := ⟨_, rfl⟩
        have w4 : IntKind.i64.wrap ((high : Int) + (ya : Int)) = (hb : Int) := by rw [wrapI (by have := HYA.out; unfold I64; omega)]; omega
        rw [hhb] at HBY
        clear hhb
        by_cases hh : hb ≤ 100000
        · have w5 : (hb : Int) ≤ 100000 := by omega
          have HPM := HP2.out (HBY.out hh)
          obtain ⟨c0, c1, c2⟩ := HG.out.gcells
          go_wp2_with fail
          refine (HPM _ A3 c3 HI3.out).mono ?_
          rintro e v6 ⟨rfl, hb⟩
          replace hs := hs.keep hb
          replace HG := Lib.hid (HG.out.keep hb)
          replace HU := Lib.hid (HU.out.keep hb)
          replace H7 := Lib.hid (H7.out.keep hb)
          replace H8 := Lib.hid (H8.out.keep hb)
          replace HI4 := Lib.hid (HI4.out.keep hb)
          clear hb
          clear c0 c1 c2
          obtain ⟨p7, hp7⟩ : ∃ q, l1 + ya * l2 = q := ⟨_, rfl⟩
          obtain ⟨p8, hp8⟩ : ∃ q, m1 + ya * m2 = q := ⟨_, rfl⟩
          obtain ⟨bl, hbl⟩ : ∃ q, ya * l2 = q := ⟨_, rfl⟩
          obtain ⟨bm, hbm⟩ : ∃ q, ya * m2 = q := ⟨_, rfl⟩
          have hB4 : l1 < 34359738368 ∧ l2 < 268435456 := HB4.out
          have hB5 : m1 < 34359738368 ∧ m2 < 268435456 := HB5.out
          have hbl2 : bl ≤ 65535 * 268435456 := by rw [← hbl]; exact Nat.mul_le_mul HYA.out (by omega)
          have hbm2 : bm ≤ 65535 * 268435456 := by rw [← hbm]; exact Nat.mul_le_mul HYA.out (by omega)
          have y1_ : IntKind.i64.wrap ((ya : Int) * (l2 : Int)) = (bl : Int) := by rw [← Int.natCast_mul, hbl, wrapI (by unfold I64; omega)]
          have y2_ : IntKind.i64.wrap ((ya : Int) * (m2 : Int)) = (bm : Int) := by rw [← Int.natCast_mul, hbm, wrapI (by unfold I64; omega)]
          have y3_ : IntKind.i64.wrap ((l1 : Int) + (bl : Int)) = (p7 : Int) := by rw [wrapI (by unfold I64; omega)]; omega
          have y4_ : IntKind.i64.wrap ((m1 : Int) + (bm : Int)) = (p8 : Int) := by rw [wrapI (by unfold I64; omega)]; omega
          have hc7 : (((l1 + ya * l2 : Nat) : Int)) = (p7 : Int) := by rw [hp7]
          have hc8 : (((m1 + ya * m2 : Nat) : Int)) = (p8 : Int) := by rw [hp8]
          try simp only [hp7, hp8]
          clear hp7 hp8 hbl hbm hbl2 hbm2 hB4 hB5 hc7 hc8
          have hz1 := Lib.hid ((Blk.new v6 41 (fV (0, 0))).alloc (.cells (fV (0, 0)) 41))
          have hz2 := Lib.hid ((Blk.new1 v6 (.cells (fV (0, 0)) 41) 41 (fV (0, 0))).rowFar (g' := v6.heap.size) (by omega) (fV ((p7 : Int), (l2 : Int))))
          have hq : Below v6.heap.size v6 ((((v6.alloc (.cells (fV (0, 0)) 41)).alloc (.cells (fV (0, 0)) 41)).setRow v6.heap.size (fV ((p7 : Int), (l2 : Int)))).setRow (v6.heap.size + 1) (fV ((p8 : Int), (m2 : Int)))) := (((((Since.refl v6).alloc (.cells (fV (0, 0)) 41)).alloc (.cells (fV (0, 0)) 41)).row (g := v6.heap.size) (Nat.le_refl _) (fV ((p7 : Int), (l2 : Int)))).row (g := v6.heap.size + 1) (by omega) (fV ((p8 : Int), (m2 : Int)))).1
          have H17 := Lib.hid ((hz1.out.row (fV ((p7 : Int), (l2 : Int)))).rowFar (g' := v6.heap.size + 1) (by omega) (fV ((p8 : Int), (m2 : Int))))
          have H18 := Lib.hid (hz2.out.row (fV ((p8 : Int), (m2 : Int))))
          replace hs := hs.keep hq
          replace HG := Lib.hid (HG.out.keep hq)
          replace HU := Lib.hid (HU.out.keep hq)
          replace H7 := Lib.hid (H7.out.keep hq)
          replace H8 := Lib.hid (H8.out.keep hq)
          replace HI4 := Lib.hid (HI4.out.keep hq)
          skip
          go_wp2_with (first | (refine wpList_store_row rfl 41 _ _ rfl (v6.heap.size) _ rfl rfl 41 _ hz1.out (by kernel_rfl) rfl (by simp [Value.oneCell']) ?_) | (refine wpList_store_row rfl 41 _ _ rfl (v6.heap.size + 1) _ rfl rfl 41 _ hz2.out (by kernel_rfl) rfl (by simp [Value.oneCell']) ?_))
          obtain ⟨v7, hu⟩ : ∃ u, (((v6.alloc (.cells (fV (0, 0)) 41)).alloc (.cells (fV (0, 0)) 41)).setRow v6.heap.size (fV ((p7 : Int), (l2 : Int)))).setRow (v6.heap.size + 1) (fV ((p8 : Int), (m2 : Int))) = u := ⟨_, rfl⟩
          rw [hu] at hs HG HU H7 H8 H17 H18 HI4 ⊢
          clear hu hq hz1 hz2 
          obtain ⟨k17, hk17⟩ : ∃ k, v6.heap.size = k := ⟨_, rfl⟩
          rw [hk17] at H17 H18 ⊢
          clear hk17
          obtain ⟨a0, a1⟩ := H7.out.fcells
          obtain ⟨b0, b1⟩ := H8.out.fcells
          obtain ⟨f0, f1⟩ := H17.out.fcells
          obtain ⟨i0, i1⟩ := H18.out.fcells
          refine Vals6.regionAll (fun X => Below v7.drew.heap.size v7.drew X) [some 140, some 141, some 142, some 143, some 144, some 145, some 146, some 147, some 148, some 149, some 150, some 151, some 152, some 153, some 154, some 155, some 156, some 157, some 158, some 159, some 160, some 161, some 162, some 163, some 164, some 165, some 166, some 167, some 168] [.is (.int .i64 0), .is (.bool false), .is (.bool false), .is (.agg (fV ((p7 : Int), (l2 : Int)))), .is ?_, .is (.int .i64 (l1 : Nat)), .is (.int .i64 (ya : Nat)), .is ?_, .is (.int .i64 (l2 : Nat)), .is (.int .i64 (bl : Nat)), .is (.int .i64 (p7 : Nat)), .is ?_, .is (.int .i64 (l2 : Nat)), .is (.agg (fV ((p7 : Int), (l2 : Int)))), .is (.bool false), .is (.bool false), .is (.bool false), .is (.agg (fV ((p8 : Int), (m2 : Int)))), .is ?_, .is (.int .i64 (m1 : Nat)), .is (.int .i64 (ya : Nat)), .is ?_, .is (.int .i64 (m2 : Nat)), .is (.int .i64 (bm : Nat)), .is (.int .i64 (p8 : Nat)), .is ?_, .is (.int .i64 (m2 : Nat)), .is (.agg (fV ((p8 : Int), (m2 : Int)))), .is (.bool false)] (by kernel_rfl) rfl rfl (by kernel_rfl) (by kernel_rfl) (by kernel_rfl) (by kernel_rfl) (by kernel_rfl) (by kernel_rfl) rfl (Below.refl _ _) ?hsteps ?hend
          case hsteps =>
            refine Vals5.Steps.run rfl (Vals5.Stable.is _) ?_ ?_
            · intro a W hS pre old K hK
              have e19 := old 19 _ (by kernel_rfl) rfl
              clear pre old
              simp only [Vals5.fits, Array.getD_eq_getD_getElem?, List.getElem?_toArray, List.getElem?_cons_zero, List.getElem?_cons_succ, Option.getD_some] at e19
              go_simp
              refine hK _ _ hS (Below.refl _ _) ?_
              exact fits_is _ _
            refine Vals5.Steps.run rfl (Vals5.Stable.is _) ?_ ?_
            · intro a W hS pre old K hK
              have e140 := pre 0 140 _ (by kernel_rfl) rfl rfl
              clear pre old
              simp only [Vals5.fits, Array.getD_eq_getD_getElem?, List.getElem?_toArray, List.getElem?_cons_zero, List.getElem?_cons_succ, Option.getD_some] at e140
              go_simp
              refine hK _ _ hS (Below.refl _ _) ?_
              exact fits_is _ _
            refine Vals5.Steps.run rfl (Vals5.Stable.is _) ?_ ?_
            · intro a W hS pre old K hK
              have e141 := pre 1 141 _ (by kernel_rfl) rfl rfl
              clear pre old
              simp only [Vals5.fits, Array.getD_eq_getD_getElem?, List.getElem?_toArray, List.getElem?_cons_zero, List.getElem?_cons_succ, Option.getD_some] at e141
              go_simp
              refine hK _ _ hS (Below.refl _ _) ?_
              exact fits_is _ _
            refine Vals5.Steps.run rfl (Vals5.Stable.is _) ?_ ?_
            · intro a W hS pre old K hK
              have e17 := old 17 _ (by kernel_rfl) rfl
              clear pre old
              simp only [Vals5.fits, Array.getD_eq_getD_getElem?, List.getElem?_toArray, List.getElem?_cons_zero, List.getElem?_cons_succ, Option.getD_some] at e17
              have hS9 := hS
              have bw9 : Below v7.heap.size v7 W := (Below.drew (Below.refl _ _)).trans (hS9.mono (by first | exact Nat.le_refl _ | (simp; done)))
              have e0_ := keep_cell bw9 a0
              have e1_ := keep_cell bw9 a1
              have e2_ := keep_cell bw9 b0
              have e3_ := keep_cell bw9 b1
              have e4_ := keep_cell bw9 f0
              have e5_ := keep_cell bw9 f1
              have e6_ := keep_cell bw9 i0
              have e7_ := keep_cell bw9 i1
              go_simp
              refine hK _ _ hS (Below.refl _ _) ?_
              exact fits_is _ _
            refine Vals5.Steps.run rfl (Vals5.Stable.is _) ?_ ?_
            · intro a W hS pre old K hK
              have e7 := old 7 _ (by kernel_rfl) rfl
              clear pre old
              simp only [Vals5.fits, Array.getD_eq_getD_getElem?, List.getElem?_toArray, List.getElem?_cons_zero, List.getElem?_cons_succ, Option.getD_some] at e7
              go_simp
              refine hK _ _ hS (Below.refl _ _) ?_
              exact fits_is _ _
            refine Vals5.Steps.run rfl (Vals5.Stable.is _) ?_ ?_
            · intro a W hS pre old K hK
              have e144 := pre 4 144 _ (by kernel_rfl) rfl rfl
              clear pre old
              simp only [Vals5.fits, Array.getD_eq_getD_getElem?, List.getElem?_toArray, List.getElem?_cons_zero, List.getElem?_cons_succ, Option.getD_some] at e144
              have hS9 := hS
              have bw9 : Below v7.heap.size v7 W := (Below.drew (Below.refl _ _)).trans (hS9.mono (by first | exact Nat.le_refl _ | (simp; done)))
              have e0_ := keep_cell bw9 a0
              have e1_ := keep_cell bw9 a1
              have e2_ := keep_cell bw9 b0
              have e3_ := keep_cell bw9 b1
              have e4_ := keep_cell bw9 f0
              have e5_ := keep_cell bw9 f1
              have e6_ := keep_cell bw9 i0
              have e7_ := keep_cell bw9 i1
              go_simp
              refine hK _ _ hS (Below.refl _ _) ?_
              exact fits_is _ _
            refine Vals5.Steps.run rfl (Vals5.Stable.is _) ?_ ?_
            · intro a W hS pre old K hK
              have e15 := old 15 _ (by kernel_rfl) rfl
              clear pre old
              simp only [Vals5.fits, Array.getD_eq_getD_getElem?, List.getElem?_toArray, List.getElem?_cons_zero, List.getElem?_cons_succ, Option.getD_some] at e15
              go_simp
              refine hK _ _ hS (Below.refl _ _) ?_
              exact fits_is _ _
            refine Vals5.Steps.run rfl (Vals5.Stable.is _) ?_ ?_
            · intro a W hS pre old K hK
              have e7 := old 7 _ (by kernel_rfl) rfl
              clear pre old
              simp only [Vals5.fits, Array.getD_eq_getD_getElem?, List.getElem?_toArray, List.getElem?_cons_zero, List.getElem?_cons_succ, Option.getD_some] at e7
              go_simp
              refine hK _ _ hS (Below.refl _ _) ?_
              exact fits_is _ _
            refine Vals5.Steps.run rfl (Vals5.Stable.is _) ?_ ?_
            · intro a W hS pre old K hK
              have e147 := pre 7 147 _ (by kernel_rfl) rfl rfl
              clear pre old
              simp only [Vals5.fits, Array.getD_eq_getD_getElem?, List.getElem?_toArray, List.getElem?_cons_zero, List.getElem?_cons_succ, Option.getD_some] at e147
              have hS9 := hS
              have bw9 : Below v7.heap.size v7 W := (Below.drew (Below.refl _ _)).trans (hS9.mono (by first | exact Nat.le_refl _ | (simp; done)))
              have e0_ := keep_cell bw9 a0
              have e1_ := keep_cell bw9 a1
              have e2_ := keep_cell bw9 b0
              have e3_ := keep_cell bw9 b1
              have e4_ := keep_cell bw9 f0
              have e5_ := keep_cell bw9 f1
              have e6_ := keep_cell bw9 i0
              have e7_ := keep_cell bw9 i1
              go_simp
              refine hK _ _ hS (Below.refl _ _) ?_
              exact fits_is _ _
            refine Vals5.Steps.run rfl (Vals5.Stable.is _) ?_ ?_
            · intro a W hS pre old K hK
              have e146 := pre 6 146 _ (by kernel_rfl) rfl rfl
              have e148 := pre 8 148 _ (by kernel_rfl) rfl rfl
              clear pre old
              simp only [Vals5.fits, Array.getD_eq_getD_getElem?, List.getElem?_toArray, List.getElem?_cons_zero, List.getElem?_cons_succ, Option.getD_some] at e146 e148
              go_simp
              refine hK _ _ hS (Below.refl _ _) ?_
              exact fits_is _ _
            refine Vals5.Steps.run rfl (Vals5.Stable.is _) ?_ ?_
            · intro a W hS pre old K hK
              have e145 := pre 5 145 _ (by kernel_rfl) rfl rfl
              have e149 := pre 9 149 _ (by kernel_rfl) rfl rfl
              clear pre old
              simp only [Vals5.fits, Array.getD_eq_getD_getElem?, List.getElem?_toArray, List.getElem?_cons_zero, List.getElem?_cons_succ, Option.getD_some] at e145 e149
              go_simp
              refine hK _ _ hS (Below.refl _ _) ?_
              exact fits_is _ _
            refine Vals5.Steps.run rfl (Vals5.Stable.is _) ?_ ?_
            · intro a W hS pre old K hK
              have e7 := old 7 _ (by kernel_rfl) rfl
              clear pre old
              simp only [Vals5.fits, Array.getD_eq_getD_getElem?, List.getElem?_toArray, List.getElem?_cons_zero, List.getElem?_cons_succ, Option.getD_some] at e7
              go_simp
              refine hK _ _ hS (Below.refl _ _) ?_
              exact fits_is _ _
            refine Vals5.Steps.run rfl (Vals5.Stable.is _) ?_ ?_
            · intro a W hS pre old K hK
              have e151 := pre 11 151 _ (by kernel_rfl) rfl rfl
              clear pre old
              simp only [Vals5.fits, Array.getD_eq_getD_getElem?, List.getElem?_toArray, List.getElem?_cons_zero, List.getElem?_cons_succ, Option.getD_some] at e151
              have hS9 := hS
              have bw9 : Below v7.heap.size v7 W := (Below.drew (Below.refl _ _)).trans (hS9.mono (by first | exact Nat.le_refl _ | (simp; done)))
              have e0_ := keep_cell bw9 a0
              have e1_ := keep_cell bw9 a1
              have e2_ := keep_cell bw9 b0
              have e3_ := keep_cell bw9 b1
              have e4_ := keep_cell bw9 f0
              have e5_ := keep_cell bw9 f1
              have e6_ := keep_cell bw9 i0
              have e7_ := keep_cell bw9 i1
              go_simp
              refine hK _ _ hS (Below.refl _ _) ?_
              exact fits_is _ _
            refine Vals5.Steps.run rfl (Vals5.Stable.is _) ?_ ?_
            · intro a W hS pre old K hK
              have e150 := pre 10 150 _ (by kernel_rfl) rfl rfl
              have e152 := pre 12 152 _ (by kernel_rfl) rfl rfl
              clear pre old
              simp only [Vals5.fits, Array.getD_eq_getD_getElem?, List.getElem?_toArray, List.getElem?_cons_zero, List.getElem?_cons_succ, Option.getD_some] at e150 e152
              go_simp
              refine (share_c _ _ _).mono ?_
              rintro e w' ⟨rfl, hb'⟩
              refine hK _ _ (hS.trans (hb'.mono hS.size)) hb' ?_
              exact fits_is _ _
            refine Vals5.Steps.run rfl (Vals5.Stable.is _) ?_ ?_
            · intro a W hS pre old K hK
              have e143 := pre 3 143 _ (by kernel_rfl) rfl rfl
              have e153 := pre 13 153 _ (by kernel_rfl) rfl rfl
              clear pre old
              simp only [Vals5.fits, Array.getD_eq_getD_getElem?, List.getElem?_toArray, List.getElem?_cons_zero, List.getElem?_cons_succ, Option.getD_some] at e143 e153
              have hq := eqSh (p7 : Int) (l2 : Int)
              go_simp
              refine hK _ _ hS (Below.refl _ _) ?_
              exact fits_is _ _
            refine Vals5.Steps.run rfl (Vals5.Stable.is _) ?_ ?_
            · intro a W hS pre old K hK
              have e142 := pre 2 142 _ (by kernel_rfl) rfl rfl
              have e154 := pre 14 154 _ (by kernel_rfl) rfl rfl
              clear pre old
              simp only [Vals5.fits, Array.getD_eq_getD_getElem?, List.getElem?_toArray, List.getElem?_cons_zero, List.getElem?_cons_succ, Option.getD_some] at e142 e154
              go_simp
              refine hK _ _ hS (Below.refl _ _) ?_
              exact fits_is _ _
            refine Vals5.Steps.run rfl (Vals5.Stable.is _) ?_ ?_
            · intro a W hS pre old K hK
              have e155 := pre 15 155 _ (by kernel_rfl) rfl rfl
              clear pre old
              simp only [Vals5.fits, Array.getD_eq_getD_getElem?, List.getElem?_toArray, List.getElem?_cons_zero, List.getElem?_cons_succ, Option.getD_some] at e155
              go_simp
              refine hK _ _ hS (Below.refl _ _) ?_
              exact fits_is _ _
            refine Vals5.Steps.run rfl (Vals5.Stable.is _) ?_ ?_
            · intro a W hS pre old K hK
              have e18 := old 18 _ (by kernel_rfl) rfl
              clear pre old
              simp only [Vals5.fits, Array.getD_eq_getD_getElem?, List.getElem?_toArray, List.getElem?_cons_zero, List.getElem?_cons_succ, Option.getD_some] at e18
              have hS9 := hS
              have bw9 : Below v7.heap.size v7 W := (Below.drew (Below.refl _ _)).trans (hS9.mono (by first | exact Nat.le_refl _ | (simp; done)))
              have e0_ := keep_cell bw9 a0
              have e1_ := keep_cell bw9 a1
              have e2_ := keep_cell bw9 b0
              have e3_ := keep_cell bw9 b1
              have e4_ := keep_cell bw9 f0
              have e5_ := keep_cell bw9 f1
              have e6_ := keep_cell bw9 i0
              have e7_ := keep_cell bw9 i1
              go_simp
              refine hK _ _ hS (Below.refl _ _) ?_
              exact fits_is _ _
            refine Vals5.Steps.run rfl (Vals5.Stable.is _) ?_ ?_
            · intro a W hS pre old K hK
              have e8 := old 8 _ (by kernel_rfl) rfl
              clear pre old
              simp only [Vals5.fits, Array.getD_eq_getD_getElem?, List.getElem?_toArray, List.getElem?_cons_zero, List.getElem?_cons_succ, Option.getD_some] at e8
              go_simp
              refine hK _ _ hS (Below.refl _ _) ?_
              exact fits_is _ _
            refine Vals5.Steps.run rfl (Vals5.Stable.is _) ?_ ?_
            · intro a W hS pre old K hK
              have e158 := pre 18 158 _ (by kernel_rfl) rfl rfl
              clear pre old
              simp only [Vals5.fits, Array.getD_eq_getD_getElem?, List.getElem?_toArray, List.getElem?_cons_zero, List.getElem?_cons_succ, Option.getD_some] at e158
              have hS9 := hS
              have bw9 : Below v7.heap.size v7 W := (Below.drew (Below.refl _ _)).trans (hS9.mono (by first | exact Nat.le_refl _ | (simp; done)))
              have e0_ := keep_cell bw9 a0
              have e1_ := keep_cell bw9 a1
              have e2_ := keep_cell bw9 b0
              have e3_ := keep_cell bw9 b1
              have e4_ := keep_cell bw9 f0
              have e5_ := keep_cell bw9 f1
              have e6_ := keep_cell bw9 i0
              have e7_ := keep_cell bw9 i1
              go_simp
              refine hK _ _ hS (Below.refl _ _) ?_
              exact fits_is _ _
            refine Vals5.Steps.run rfl (Vals5.Stable.is _) ?_ ?_
            · intro a W hS pre old K hK
              have e15 := old 15 _ (by kernel_rfl) rfl
              clear pre old
              simp only [Vals5.fits, Array.getD_eq_getD_getElem?, List.getElem?_toArray, List.getElem?_cons_zero, List.getElem?_cons_succ, Option.getD_some] at e15
              go_simp
              refine hK _ _ hS (Below.refl _ _) ?_
              exact fits_is _ _
            refine Vals5.Steps.run rfl (Vals5.Stable.is _) ?_ ?_
            · intro a W hS pre old K hK
              have e8 := old 8 _ (by kernel_rfl) rfl
              clear pre old
              simp only [Vals5.fits, Array.getD_eq_getD_getElem?, List.getElem?_toArray, List.getElem?_cons_zero, List.getElem?_cons_succ, Option.getD_some] at e8
              go_simp
              refine hK _ _ hS (Below.refl _ _) ?_
              exact fits_is _ _
            refine Vals5.Steps.run rfl (Vals5.Stable.is _) ?_ ?_
            · intro a W hS pre old K hK
              have e161 := pre 21 161 _ (by kernel_rfl) rfl rfl
              clear pre old
              simp only [Vals5.fits, Array.getD_eq_getD_getElem?, List.getElem?_toArray, List.getElem?_cons_zero, List.getElem?_cons_succ, Option.getD_some] at e161
              have hS9 := hS
              have bw9 : Below v7.heap.size v7 W := (Below.drew (Below.refl _ _)).trans (hS9.mono (by first | exact Nat.le_refl _ | (simp; done)))
              have e0_ := keep_cell bw9 a0
              have e1_ := keep_cell bw9 a1
              have e2_ := keep_cell bw9 b0
              have e3_ := keep_cell bw9 b1
              have e4_ := keep_cell bw9 f0
              have e5_ := keep_cell bw9 f1
              have e6_ := keep_cell bw9 i0
              have e7_ := keep_cell bw9 i1
              go_simp
              refine hK _ _ hS (Below.refl _ _) ?_
              exact fits_is _ _
            refine Vals5.Steps.run rfl (Vals5.Stable.is _) ?_ ?_
            · intro a W hS pre old K hK
              have e160 := pre 20 160 _ (by kernel_rfl) rfl rfl
              have e162 := pre 22 162 _ (by kernel_rfl) rfl rfl
              clear pre old
              simp only [Vals5.fits, Array.getD_eq_getD_getElem?, List.getElem?_toArray, List.getElem?_cons_zero, List.getElem?_cons_succ, Option.getD_some] at e160 e162
              go_simp
              refine hK _ _ hS (Below.refl _ _) ?_
              exact fits_is _ _
            refine Vals5.Steps.run rfl (Vals5.Stable.is _) ?_ ?_
            · intro a W hS pre old K hK
              have e159 := pre 19 159 _ (by kernel_rfl) rfl rfl
              have e163 := pre 23 163 _ (by kernel_rfl) rfl rfl
              clear pre old
              simp only [Vals5.fits, Array.getD_eq_getD_getElem?, List.getElem?_toArray, List.getElem?_cons_zero, List.getElem?_cons_succ, Option.getD_some] at e159 e163
              go_simp
              refine hK _ _ hS (Below.refl _ _) ?_
              exact fits_is _ _
            refine Vals5.Steps.run rfl (Vals5.Stable.is _) ?_ ?_
            · intro a W hS pre old K hK
              have e8 := old 8 _ (by kernel_rfl) rfl
              clear pre old
              simp only [Vals5.fits, Array.getD_eq_getD_getElem?, List.getElem?_toArray, List.getElem?_cons_zero, List.getElem?_cons_succ, Option.getD_some] at e8
              go_simp
              refine hK _ _ hS (Below.refl _ _) ?_
              exact fits_is _ _
            refine Vals5.Steps.run rfl (Vals5.Stable.is _) ?_ ?_
            · intro a W hS pre old K hK
              have e165 := pre 25 165 _ (by kernel_rfl) rfl rfl
              clear pre old
              simp only [Vals5.fits, Array.getD_eq_getD_getElem?, List.getElem?_toArray, List.getElem?_cons_zero, List.getElem?_cons_succ, Option.getD_some] at e165
              have hS9 := hS
              have bw9 : Below v7.heap.size v7 W := (Below.drew (Below.refl _ _)).trans (hS9.mono (by first | exact Nat.le_refl _ | (simp; done)))
              have e0_ := keep_cell bw9 a0
              have e1_ := keep_cell bw9 a1
              have e2_ := keep_cell bw9 b0
              have e3_ := keep_cell bw9 b1
              have e4_ := keep_cell bw9 f0
              have e5_ := keep_cell bw9 f1
              have e6_ := keep_cell bw9 i0
              have e7_ := keep_cell bw9 i1
              go_simp
              refine hK _ _ hS (Below.refl _ _) ?_
              exact fits_is _ _
            refine Vals5.Steps.run rfl (Vals5.Stable.is _) ?_ ?_
            · intro a W hS pre old K hK
              have e164 := pre 24 164 _ (by kernel_rfl) rfl rfl
              have e166 := pre 26 166 _ (by kernel_rfl) rfl rfl
              clear pre old
              simp only [Vals5.fits, Array.getD_eq_getD_getElem?, List.getElem?_toArray, List.getElem?_cons_zero, List.getElem?_cons_succ, Option.getD_some] at e164 e166
              go_simp
              refine (share_c _ _ _).mono ?_
              rintro e w' ⟨rfl, hb'⟩
              refine hK _ _ (hS.trans (hb'.mono hS.size)) hb' ?_
              exact fits_is _ _
            refine Vals5.Steps.run rfl (Vals5.Stable.is _) ?_ ?_
            · intro a W hS pre old K hK
              have e157 := pre 17 157 _ (by kernel_rfl) rfl rfl
              have e167 := pre 27 167 _ (by kernel_rfl) rfl rfl
              clear pre old
              simp only [Vals5.fits, Array.getD_eq_getD_getElem?, List.getElem?_toArray, List.getElem?_cons_zero, List.getElem?_cons_succ, Option.getD_some] at e157 e167
              have hq := eqSh (p8 : Int) (m2 : Int)
              go_simp
              refine hK _ _ hS (Below.refl _ _) ?_
              exact fits_is _ _
            exact Vals5.Steps.nil
          case hend =>
          rintro Y hY
          have hbY : Below v7.heap.size v7 Y := (Below.drew (Below.refl _ _)).trans (hY.mono (by first | exact Nat.le_refl _ | (simp; done)))
          replace hs := hs.keep hbY
          replace HG := Lib.hid (HG.out.keep hbY)
          replace HU := Lib.hid (HU.out.keep hbY)
          replace HI4 := Lib.hid (HI4.out.keep hbY)
          clear a0 a1 b0 b1 f0 f1 i0 i1 hbY hY y1_ y2_ y3_ y4_ H7 H8 H17 H18
          simp only [Vals5.All, List.getLast_cons_cons, List.getLast_singleton]
          simp only [Vals.putAll, List.setIfInBounds_toArray, List.set_cons_zero, List.set_cons_succ]
          intro K hK
          go_simp
          refine hK _ _ ?_
          clear hK K
          obtain ⟨c0, c1, c2⟩ := HG.out.gcells
          go_wp2_with fail
          clear c0 c1 c2
          rcases hsnl with hsl | hsl
          · have HPF := HP3.out hsl
            refine (HPF _ A4 c4 HI4.out).mono ?_
            rintro e z1_ ⟨rfl, hb⟩
            replace hs := hs.keep hb
            replace HG := Lib.hid (HG.out.keep hb)
            replace HU := Lib.hid (HU.out.keep hb)
            clear hb
            obtain ⟨⟨hf1, hf2⟩, hf3, hf4⟩ := HFV.out hsl
            obtain ⟨fa1, fa2⟩ := fh
            obtain ⟨fb1, fb2⟩ := fl
            have hf3' : fa1 < 34359738368 ∧ fa2 < 268435456 := hf3
            have hf4' : fb1 < 34359738368 ∧ fb2 < 268435456 := hf4
            obtain ⟨d1, hd1⟩ : ∃ q, P - hi = q := ⟨_, rfl⟩
            obtain ⟨d2, hd2⟩ : ∃ q, P - lo = q := ⟨_, rfl⟩
            rw [hd1] at hf1
            rw [hd2] at hf2
            obtain ⟨s1_, hs1_⟩ : ∃ q, sn * d1 = q := ⟨_, rfl⟩
            obtain ⟨s2_, hs2_⟩ : ∃ q, sn * d2 = q := ⟨_, rfl⟩
            have hf1' : fa1 * P = s1_ * fa2 := by rw [← hs1_]; exact hf1
            have hf2' : fb1 * P = s2_ * fb2 := by rw [← hs2_]; exact hf2
            obtain ⟨t1_, ht1_⟩ : ∃ q, fa1 * P = q := ⟨_, rfl⟩
            obtain ⟨t2_, ht2_⟩ : ∃ q, fb1 * P = q := ⟨_, rfl⟩
            have ht1b : t1_ ≤ 34359738368 * 20 := by rw [← ht1_]; exact Nat.mul_le_mul (by omega) hP.1
            have ht2b : t2_ ≤ 34359738368 * 20 := by rw [← ht2_]; exact Nat.mul_le_mul (by omega) hP.1
            have hs1b : s1_ ≤ 100000 * 20 := by rw [← hs1_]; exact Nat.mul_le_mul hsl (by omega)
            have hs2b : s2_ ≤ 100000 * 20 := by rw [← hs2_]; exact Nat.mul_le_mul hsl (by omega)
            have x1_ : IntKind.i64.wrap ((fa1 : Int) * (P : Int)) = (t1_ : Int) := by rw [← Int.natCast_mul, ht1_, wrapI (by unfold I64; omega)]
            have x2_ : IntKind.i64.wrap ((fb1 : Int) * (P : Int)) = (t2_ : Int) := by rw [← Int.natCast_mul, ht2_, wrapI (by unfold I64; omega)]
            have x3_ : IntKind.i64.wrap ((st : Int) * (n : Int)) = (sn : Int) := by rw [← Int.natCast_mul, HSNR.out, wrapI (by unfold I64; omega)]
            have x4_ : IntKind.i64.wrap ((P : Int) - (hi : Int)) = (d1 : Int) := by rw [wrapI (by unfold I64; omega)]; omega
            have x5_ : IntKind.i64.wrap ((P : Int) - (lo : Int)) = (d2 : Int) := by rw [wrapI (by unfold I64; omega)]; omega
            have x6_ : IntKind.i64.wrap ((sn : Int) * (d1 : Int)) = (s1_ : Int) := by rw [← Int.natCast_mul, hs1_, wrapI (by unfold I64; omega)]
            have x7_ : IntKind.i64.wrap ((sn : Int) * (d2 : Int)) = (s2_ : Int) := by rw [← Int.natCast_mul, hs2_, wrapI (by unfold I64; omega)]
            have x8_ : IntKind.i64.wrap ((s1_ : Int) * (fa2 : Int)) = (t1_ : Int) := by rw [← Int.natCast_mul, ← hf1', ht1_, wrapI (by unfold I64; omega)]
            have x9_ : IntKind.i64.wrap ((s2_ : Int) * (fb2 : Int)) = (t2_ : Int) := by rw [← Int.natCast_mul, ← hf2', ht2_, wrapI (by unfold I64; omega)]
            clear hf1 hf2 hf1' hf2' hf3 hf4 hf3' hf4' hd1 hd2 hs1_ hs2_ ht1_ ht2_ ht1b ht2b hs1b hs2b HFV HP3 HP4
            have hz1 := Lib.hid ((Blk.new z1_ 41 (fV (0, 0))).alloc (.cells (fV (0, 0)) 41))
            have hz2 := Lib.hid ((Blk.new1 z1_ (.cells (fV (0, 0)) 41) 41 (fV (0, 0))).rowFar (g' := z1_.heap.size) (by omega) (fV ((fa1 : Int), (fa2 : Int))))
            have hq : Below z1_.heap.size z1_ ((((z1_.alloc (.cells (fV (0, 0)) 41)).alloc (.cells (fV (0, 0)) 41)).setRow z1_.heap.size (fV ((fa1 : Int), (fa2 : Int)))).setRow (z1_.heap.size + 1) (fV ((fb1 : Int), (fb2 : Int)))) := (((((Since.refl z1_).alloc (.cells (fV (0, 0)) 41)).alloc (.cells (fV (0, 0)) 41)).row (g := z1_.heap.size) (Nat.le_refl _) (fV ((fa1 : Int), (fa2 : Int)))).row (g := z1_.heap.size + 1) (by omega) (fV ((fb1 : Int), (fb2 : Int)))).1
            have H20 := Lib.hid ((hz1.out.row (fV ((fa1 : Int), (fa2 : Int)))).rowFar (g' := z1_.heap.size + 1) (by omega) (fV ((fb1 : Int), (fb2 : Int))))
            have H21 := Lib.hid (hz2.out.row (fV ((fb1 : Int), (fb2 : Int))))
            replace hs := hs.keep hq
            replace HG := Lib.hid (HG.out.keep hq)
            replace HU := Lib.hid (HU.out.keep hq)
            go_upto_region 21 with (first | (refine wpList_store_row rfl 41 _ _ rfl (z1_.heap.size) _ rfl rfl 41 _ hz1.out (by kernel_rfl) rfl (by simp [Value.oneCell']) ?_) | (refine wpList_store_row rfl 41 _ _ rfl (z1_.heap.size + 1) _ rfl rfl 41 _ hz2.out (by kernel_rfl) rfl (by simp [Value.oneCell']) ?_))
            obtain ⟨z2_, hu⟩ : ∃ u, (((z1_.alloc (.cells (fV (0, 0)) 41)).alloc (.cells (fV (0, 0)) 41)).setRow z1_.heap.size (fV ((fa1 : Int), (fa2 : Int)))).setRow (z1_.heap.size + 1) (fV ((fb1 : Int), (fb2 : Int))) = u := ⟨_, rfl⟩
            rw [hu] at hs HG HU H20 H21 ⊢
            clear hu hq hz1 hz2 
            obtain ⟨k20, hk20⟩ : ∃ k, z1_.heap.size = k := ⟨_, rfl⟩
            rw [hk20] at H20 H21 ⊢
            clear hk20
            obtain ⟨c0, c1, c2⟩ := HG.out.gcells
            have z0 := HU.out.cell 0
            have z1 := HU.out.cell 1
            simp only [List.getElem?_toArray, List.getElem?_cons_zero, List.getElem?_cons_succ] at z0 z1
            obtain ⟨a0, a1⟩ := H20.out.fcells
            obtain ⟨b0, b1⟩ := H21.out.fcells
            go_wp2_with fail
            clear c0 c1 c2 z0 z1 a0 a1 b0 b1
            refine (awake_c _).mono ?_
            rintro e z3_ ⟨rfl, hb⟩
            replace hs := hs.keep hb
            clear hb
            go_wp2_with fail
            go_ret
            exact ⟨rfl, hs.1⟩
          · have HPF := HP4.out hsl
            refine (HPF _ A4 c4 HI4.out).mono ?_
            rintro e z1_ ⟨rfl, hb⟩
            replace hs := hs.keep hb
            replace HG := Lib.hid (HG.out.keep hb)
            replace HU := Lib.hid (HU.out.keep hb)
            clear hb
            have x3_ : IntKind.i64.wrap ((n : Int) * (st : Int)) = (sn : Int) := by rw [← Int.natCast_mul, Nat.mul_comm, HSNR.out, wrapI (by unfold I64; omega)]
            have x4_ : (100000 : Int) < (sn : Int) := by omega
            have hz1 := Lib.hid ((Blk.new z1_ 41 (fV (0, 0))).alloc (.cells (fV (0, 0)) 41))
            have hz2 := Lib.hid ((Blk.new1 z1_ (.cells (fV (0, 0)) 41) 41 (fV (0, 0))).rowFar (g' := z1_.heap.size) (by omega) (fV (0, 0)))
            have hq : Below z1_.heap.size z1_ ((((z1_.alloc (.cells (fV (0, 0)) 41)).alloc (.cells (fV (0, 0)) 41)).setRow z1_.heap.size (fV (0, 0))).setRow (z1_.heap.size + 1) (fV (0, 0))) := (((((Since.refl z1_).alloc (.cells (fV (0, 0)) 41)).alloc (.cells (fV (0, 0)) 41)).row (g := z1_.heap.size) (Nat.le_refl _) (fV (0, 0))).row (g := z1_.heap.size + 1) (by omega) (fV (0, 0))).1
            have H20 := Lib.hid ((hz1.out.row (fV (0, 0))).rowFar (g' := z1_.heap.size + 1) (by omega) (fV (0, 0)))
            have H21 := Lib.hid (hz2.out.row (fV (0, 0)))
            replace hs := hs.keep hq
            replace HG := Lib.hid (HG.out.keep hq)
            replace HU := Lib.hid (HU.out.keep hq)
            have z0 := HU.out.cell 0
            have z1 := HU.out.cell 1
            simp only [List.getElem?_toArray, List.getElem?_cons_zero, List.getElem?_cons_succ] at z0 z1
            go_wp2_with (first | (refine wpList_store_row rfl 41 _ _ rfl (z1_.heap.size) _ rfl rfl 41 _ hz1.out (by kernel_rfl) rfl (by simp [Value.oneCell']) ?_) | (refine wpList_store_row rfl 41 _ _ rfl (z1_.heap.size + 1) _ rfl rfl 41 _ hz2.out (by kernel_rfl) rfl (by simp [Value.oneCell']) ?_))
            obtain ⟨z2_, hu⟩ : ∃ u, (((z1_.alloc (.cells (fV (0, 0)) 41)).alloc (.cells (fV (0, 0)) 41)).setRow z1_.heap.size (fV (0, 0))).setRow (z1_.heap.size + 1) (fV (0, 0)) = u := ⟨_, rfl⟩
            rw [hu] at hs HG HU H20 H21 ⊢
            clear hu hq hz1 hz2 z0 z1
            refine (awake_c _).mono ?_
            rintro e z3_ ⟨rfl, hb⟩
            replace hs := hs.keep hb
            clear hb
            go_wp2_with fail
            go_ret
            exact ⟨rfl, hs.1⟩
        · have w5 : ¬ (hb : Int) ≤ 100000 := by omega
          obtain ⟨c0, c1, c2⟩ := HG.out.gcells
          go_wp2_with fail
          clear c0 c1 c2
          rcases hsnl with hsl | hsl
          · have HPF := HP3.out hsl
            refine (HPF _ A4 c4 HI4.out).mono ?_
            rintro e z1_ ⟨rfl, hb⟩
            replace hs := hs.keep hb
            replace HG := Lib.hid (HG.out.keep hb)
            replace HU := Lib.hid (HU.out.keep hb)
            clear hb
            obtain ⟨⟨hf1, hf2⟩, hf3, hf4⟩ := HFV.out hsl
            obtain ⟨fa1, fa2⟩ := fh
            obtain ⟨fb1, fb2⟩ := fl
            have hf3' : fa1 < 34359738368 ∧ fa2 < 268435456 := hf3
            have hf4' : fb1 < 34359738368 ∧ fb2 < 268435456 := hf4
            obtain ⟨d1, hd1⟩ : ∃ q, P - hi = q := ⟨_, rfl⟩
            obtain ⟨d2, hd2⟩ : ∃ q, P - lo = q := ⟨_, rfl⟩
            rw [hd1] at hf1
            rw [hd2] at hf2
            obtain ⟨s1_, hs1_⟩ : ∃ q, sn * d1 = q := ⟨_, rfl⟩
            obtain ⟨s2_, hs2_⟩ : ∃ q, sn * d2 = q := ⟨_, rfl⟩
            have hf1' : fa1 * P = s1_ * fa2 := by rw [← hs1_]; exact hf1
            have hf2' : fb1 * P = s2_ * fb2 := by rw [← hs2_]; exact hf2
            obtain ⟨t1_, ht1_⟩ : ∃ q, fa1 * P = q := ⟨_, rfl⟩
            obtain ⟨t2_, ht2_⟩ : ∃ q, fb1 * P = q := ⟨_, rfl⟩
            have ht1b : t1_ ≤ 34359738368 * 20 := by rw [← ht1_]; exact Nat.mul_le_mul (by omega) hP.1
            have ht2b : t2_ ≤ 34359738368 * 20 := by rw [← ht2_]; exact Nat.mul_le_mul (by omega) hP.1
            have hs1b : s1_ ≤ 100000 * 20 := by rw [← hs1_]; exact Nat.mul_le_mul hsl (by omega)
            have hs2b : s2_ ≤ 100000 * 20 := by rw [← hs2_]; exact Nat.mul_le_mul hsl (by omega)
            have x1_ : IntKind.i64.wrap ((fa1 : Int) * (P : Int)) = (t1_ : Int) := by rw [← Int.natCast_mul, ht1_, wrapI (by unfold I64; omega)]
            have x2_ : IntKind.i64.wrap ((fb1 : Int) * (P : Int)) = (t2_ : Int) := by rw [← Int.natCast_mul, ht2_, wrapI (by unfold I64; omega)]
            have x3_ : IntKind.i64.wrap ((st : Int) * (n : Int)) = (sn : Int) := by rw [← Int.natCast_mul, HSNR.out, wrapI (by unfold I64; omega)]
            have x4_ : IntKind.i64.wrap ((P : Int) - (hi : Int)) = (d1 : Int) := by rw [wrapI (by unfold I64; omega)]; omega
            have x5_ : IntKind.i64.wrap ((P : Int) - (lo : Int)) = (d2 : Int) := by rw [wrapI (by unfold I64; omega)]; omega
            have x6_ : IntKind.i64.wrap ((sn : Int) * (d1 : Int)) = (s1_ : Int) := by rw [← Int.natCast_mul, hs1_, wrapI (by unfold I64; omega)]
            have x7_ : IntKind.i64.wrap ((sn : Int) * (d2 : Int)) = (s2_ : Int) := by rw [← Int.natCast_mul, hs2_, wrapI (by unfold I64; omega)]
            have x8_ : IntKind.i64.wrap ((s1_ : Int) * (fa2 : Int)) = (t1_ : Int) := by rw [← Int.natCast_mul, ← hf1', ht1_, wrapI (by unfold I64; omega)]
            have x9_ : IntKind.i64.wrap ((s2_ : Int) * (fb2 : Int)) = (t2_ : Int) := by rw [← Int.natCast_mul, ← hf2', ht2_, wrapI (by unfold I64; omega)]
            clear hf1 hf2 hf1' hf2' hf3 hf4 hf3' hf4' hd1 hd2 hs1_ hs2_ ht1_ ht2_ ht1b ht2b hs1b hs2b HFV HP3 HP4
            have hz1 := Lib.hid ((Blk.new z1_ 41 (fV (0, 0))).alloc (.cells (fV (0, 0)) 41))
            have hz2 := Lib.hid ((Blk.new1 z1_ (.cells (fV (0, 0)) 41) 41 (fV (0, 0))).rowFar (g' := z1_.heap.size) (by omega) (fV ((fa1 : Int), (fa2 : Int))))
            have hq : Below z1_.heap.size z1_ ((((z1_.alloc (.cells (fV (0, 0)) 41)).alloc (.cells (fV (0, 0)) 41)).setRow z1_.heap.size (fV ((fa1 : Int), (fa2 : Int)))).setRow (z1_.heap.size + 1) (fV ((fb1 : Int), (fb2 : Int)))) := (((((Since.refl z1_).alloc (.cells (fV (0, 0)) 41)).alloc (.cells (fV (0, 0)) 41)).row (g := z1_.heap.size) (Nat.le_refl _) (fV ((fa1 : Int), (fa2 : Int)))).row (g := z1_.heap.size + 1) (by omega) (fV ((fb1 : Int), (fb2 : Int)))).1
            have H20 := Lib.hid ((hz1.out.row (fV ((fa1 : Int), (fa2 : Int)))).rowFar (g' := z1_.heap.size + 1) (by omega) (fV ((fb1 : Int), (fb2 : Int))))
            have H21 := Lib.hid (hz2.out.row (fV ((fb1 : Int), (fb2 : Int))))
            replace hs := hs.keep hq
            replace HG := Lib.hid (HG.out.keep hq)
            replace HU := Lib.hid (HU.out.keep hq)
            go_upto_region 21 with (first | (refine wpList_store_row rfl 41 _ _ rfl (z1_.heap.size) _ rfl rfl 41 _ hz1.out (by kernel_rfl) rfl (by simp [Value.oneCell']) ?_) | (refine wpList_store_row rfl 41 _ _ rfl (z1_.heap.size + 1) _ rfl rfl 41 _ hz2.out (by kernel_rfl) rfl (by simp [Value.oneCell']) ?_))
            obtain ⟨z2_, hu⟩ : ∃ u, (((z1_.alloc (.cells (fV (0, 0)) 41)).alloc (.cells (fV (0, 0)) 41)).setRow z1_.heap.size (fV ((fa1 : Int), (fa2 : Int)))).setRow (z1_.heap.size + 1) (fV ((fb1 : Int), (fb2 : Int))) = u := ⟨_, rfl⟩
            rw [hu] at hs HG HU H20 H21 ⊢
            clear hu hq hz1 hz2 
            obtain ⟨k20, hk20⟩ : ∃ k, z1_.heap.size = k := ⟨_, rfl⟩
            rw [hk20] at H20 H21 ⊢
            clear hk20
            obtain ⟨c0, c1, c2⟩ := HG.out.gcells
            have z0 := HU.out.cell 0
            have z1 := HU.out.cell 1
            simp only [List.getElem?_toArray, List.getElem?_cons_zero, List.getElem?_cons_succ] at z0 z1
            obtain ⟨a0, a1⟩ := H20.out.fcells
            obtain ⟨b0, b1⟩ := H21.out.fcells
            go_wp2_with fail
            clear c0 c1 c2 z0 z1 a0 a1 b0 b1
            refine (awake_c _).mono ?_
            rintro e z3_ ⟨rfl, hb⟩
            replace hs := hs.keep hb
            clear hb
            go_wp2_with fail
            go_ret
            exact ⟨rfl, hs.1⟩
          · have HPF := HP4.out hsl
            refine (HPF _ A4 c4 HI4.out).mono ?_
            rintro e z1_ ⟨rfl, hb⟩
            replace hs := hs.keep hb
            replace HG := Lib.hid (HG.out.keep hb)
            replace HU := Lib.hid (HU.out.keep hb)
            clear hb
            have x3_ : IntKind.i64.wrap ((n : Int) * (st : Int)) = (sn : Int) := by rw [← Int.natCast_mul, Nat.mul_comm, HSNR.out, wrapI (by unfold I64; omega)]
            have x4_ : (100000 : Int) < (sn : Int) := by omega
            have hz1 := Lib.hid ((Blk.new z1_ 41 (fV (0, 0))).alloc (.cells (fV (0, 0)) 41))
            have hz2 := Lib.hid ((Blk.new1 z1_ (.cells (fV (0, 0)) 41) 41 (fV (0, 0))).rowFar (g' := z1_.heap.size) (by omega) (fV (0, 0)))
            have hq : Below z1_.heap.size z1_ ((((z1_.alloc (.cells (fV (0, 0)) 41)).alloc (.cells (fV (0, 0)) 41)).setRow z1_.heap.size (fV (0, 0))).setRow (z1_.heap.size + 1) (fV (0, 0))) := (((((Since.refl z1_).alloc (.cells (fV (0, 0)) 41)).alloc (.cells (fV (0, 0)) 41)).row (g := z1_.heap.size) (Nat.le_refl _) (fV (0, 0))).row (g := z1_.heap.size + 1) (by omega) (fV (0, 0))).1
            have H20 := Lib.hid ((hz1.out.row (fV (0, 0))).rowFar (g' := z1_.heap.size + 1) (by omega) (fV (0, 0)))
            have H21 := Lib.hid (hz2.out.row (fV (0, 0)))
            replace hs := hs.keep hq
            replace HG := Lib.hid (HG.out.keep hq)
            replace HU := Lib.hid (HU.out.keep hq)
            have z0 := HU.out.cell 0
            have z1 := HU.out.cell 1
            simp only [List.getElem?_toArray, List.getElem?_cons_zero, List.getElem?_cons_succ] at z0 z1
            go_wp2_with (first | (refine wpList_store_row rfl 41 _ _ rfl (z1_.heap.size) _ rfl rfl 41 _ hz1.out (by kernel_rfl) rfl (by simp [Value.oneCell']) ?_) | (refine wpList_store_row rfl 41 _ _ rfl (z1_.heap.size + 1) _ rfl rfl 41 _ hz2.out (by kernel_rfl) rfl (by simp [Value.oneCell']) ?_))
            obtain ⟨z2_, hu⟩ : ∃ u, (((z1_.alloc (.cells (fV (0, 0)) 41)).alloc (.cells (fV (0, 0)) 41)).setRow z1_.heap.size (fV (0, 0))).setRow (z1_.heap.size + 1) (fV (0, 0)) = u := ⟨_, rfl⟩
            rw [hu] at hs HG HU H20 H21 ⊢
            clear hu hq hz1 hz2 z0 z1
            refine (awake_c _).mono ?_
            rintro e z3_ ⟨rfl, hb⟩
            replace hs := hs.keep hb
            clear hb
            go_wp2_with fail
            go_ret
            exact ⟨rfl, hs.1⟩
  · have HBAD : Hid (∃ E : Int, E ≠ 0 ∧ priA P lo hi xs = ((0, 0), (0, 0), E)) := by
      unfold priA
      by_cases h1 : chkE P lo hi = 0
      · by_cases h2 : wi 1 (P + 1) xs.length = true
        · by_cases h3 : wl 0 100000 xs = true
          · exact absurd ⟨h1, h2, h3⟩ hv
          · rw [if_pos h1, if_pos h2, if_neg h3]; exact ⟨7, by decide, rfl⟩
        · rw [if_pos h1, if_neg h2]; exact ⟨3, by decide, rfl⟩
      · rw [if_neg h1]; exact ⟨_, h1, rfl⟩
    obtain ⟨E, hE, hV⟩ := HBAD.out
    have HPC := Lib.hid (fun W (h : InAt W A xs) => Price_c P lo hi A xs c W h)
    rw [hV] at HPC
    have hE' : (E != 0) = true := by simpa using hE
    obtain ⟨n1, hn1⟩ : ∃ n, xs.length = n := ⟨_, rfl⟩
    rw [hn1] at HPC ⊢
    clear HBAD hV hv hn1 hp
    go_enter Try.func14, Try.ntmps14
    go_wp2_with fail
    refine (HPC.out _ (HP.out.keep hs.1)).mono ?_
    rintro e v1 ⟨rfl, hb⟩
    replace hs := hs.keep hb
    replace HG := Lib.hid (HG.out.keep hb)
    replace HU := Lib.hid (HU.out.keep hb)
    clear hb
    clear c0 c1 c2
    have hz1 := Lib.hid ((Blk.new v1 41 (fV (0, 0))).alloc (.cells (fV (0, 0)) 41))
    have hz2 := Lib.hid ((Blk.new1 v1 (.cells (fV (0, 0)) 41) 41 (fV (0, 0))).rowFar (g' := v1.heap.size) (by omega) (fV (0, 0)))
    have hq : Below v1.heap.size v1 ((((v1.alloc (.cells (fV (0, 0)) 41)).alloc (.cells (fV (0, 0)) 41)).setRow v1.heap.size (fV (0, 0))).setRow (v1.heap.size + 1) (fV (0, 0))) := (((((Since.refl v1).alloc (.cells (fV (0, 0)) 41)).alloc (.cells (fV (0, 0)) 41)).row (g := v1.heap.size) (Nat.le_refl _) (fV (0, 0))).row (g := v1.heap.size + 1) (by omega) (fV (0, 0))).1
    have H7 := Lib.hid ((hz1.out.row (fV (0, 0))).rowFar (g' := v1.heap.size + 1) (by omega) (fV (0, 0)))
    have H8 := Lib.hid (hz2.out.row (fV (0, 0)))
    replace hs := hs.keep hq
    obtain ⟨a0, a1⟩ := Blk.fcells (s := (0, 0)) H7.out
    obtain ⟨b0, b1⟩ := Blk.fcells (s := (0, 0)) H8.out
    go_wp2_with (first | (refine wpList_store_row rfl 41 _ _ rfl (v1.heap.size) _ rfl rfl 41 _ hz1.out (by kernel_rfl) rfl (by simp [Value.oneCell']) ?_) | (refine wpList_store_row rfl 41 _ _ rfl (v1.heap.size + 1) _ rfl rfl 41 _ hz2.out (by kernel_rfl) rfl (by simp [Value.oneCell']) ?_))
    obtain ⟨v2, hu⟩ : ∃ u, (((v1.alloc (.cells (fV (0, 0)) 41)).alloc (.cells (fV (0, 0)) 41)).setRow v1.heap.size (fV (0, 0))).setRow (v1.heap.size + 1) (fV (0, 0)) = u := ⟨_, rfl⟩
    rw [hu] at hs  H7 H8 ⊢
    clear hu hq hz1 hz2 a0 a1 b0 b1
    refine (awake_c _).mono ?_
    rintro e v3 ⟨rfl, hb⟩
    replace hs := hs.keep hb
    clear hb
    go_wp2_with fail
    go_ret
    exact ⟨rfl, hs.1⟩
end Td
end Go.Proofs.Ytgkdidnmndmlhaa
