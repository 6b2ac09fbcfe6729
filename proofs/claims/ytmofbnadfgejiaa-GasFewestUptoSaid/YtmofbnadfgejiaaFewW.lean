import Derived.Test.YtmofbnadfgejiaaCov
import Derived.Test.YtmofbnadfgejiaaMathS
import Derived.Test.YtmofbnadfgejiaaNb
import Derived.Test.YtmofbnadfgejiaaOpenR
import Derived.Test.YtmofbnadfgejiaaHldsW
/- GasFewest: the law's walk. -/
namespace Go.Proofs.Ytmofbnadfgejiaa
open Go.RowKit
namespace Td
set_option linter.unusedSimpArgs false
set_option linter.unusedVariables false
attribute [local go_sem] Oper.semAt_some
theorem fewest_zero {s : Spc} (h : (chk s).2.2 ≠ 0) : fewestA s ⟨0, 0, 0⟩ 0 = ([], (chk s).2.2) := by
  have h1 : fewestE s ⟨0, 0, 0⟩ 0 = (chk s).2.2 := by
    unfold fewestE toolE2
    simp [h]
  unfold fewestA
  rw [h1, if_neg h]
set_option maxRecDepth 100000 in
set_option maxHeartbeats 8000000 in
theorem gasFewest_c (s : Spc) (m : Sl) (a : Nat) (sh : Int) (f t : Nat) (OA : Option Addr) (Ot : List Int) (oc : Nat) (LA : Option Addr) (Lo : List Int) (lc : Nat) (P : Option Addr) (X : List Int) (pc : Nat) (w : World) (hsa : SAt w m s)
    (ha : a ≤ 255) (hsh : -32768 ≤ sh ∧ sh ≤ 32767) (hf : f ≤ 255) (ht : t ≤ 255) (ho : U8At w OA Ot) (hok : U8Ok Ot) (hoL : Ot.length ≤ 1048576) (hl : U8At w LA Lo) (hlk : U8Ok Lo) (hll : Lo.length ≤ 1048576) (hu : U16At w P X) (huk : U16Ok X) :
    Calls Try.prog 12 #[.agg (sV s m), .agg (rrV a sh f t OA Ot oc LA Lo lc P X pc)] w fun e w' => e = .returned (.bool true) ∧ Below w.heap.size w w' := by
  have hS0 := Sp2.start w s m 74 (rrV a sh f t OA Ot oc LA Lo lc P X pc)
  obtain ⟨c0, c1, c2, c3, c4, c5, c6, c7, c8⟩ := hS0.sp.bk.space
  go_enter Try.func12, Try.ntmps12
  go_wp2_with fail
  refine (valid_c s m _ (hsa.keep hS0.sp.sn.1)).mono ?_
  rintro e w1 ⟨rfl, hb1⟩
  have hS1 := hS0.keep hb1
  clear c0 c1 c2 c3 c4 c5 c6 c7 c8 hS0 hb1
  obtain ⟨c0, c1, c2, c3, c4, c5, c6, c7, c8⟩ := hS1.sp.bk.space
  by_cases h0 : (chk s).2.2 = 0
  · have hs := chk_ok h0
    have h0b : ((chk s).2.2 == 0) = true := by simpa using h0
    rw [h0b]
    have HCK := Lib.hid h0
    have hn := And.intro hs.t1 hs.t3
    obtain ⟨tl, htl⟩ : ∃ tl, a % s.tools.length = tl := ⟨_, rfl⟩
    have htl2 : tl < s.tools.length := by rw [← htl]; exact Nat.mod_lt _ (by omega)
    have hwu : IntKind.u16.wrap sh = sh % 65536 := by simp [IntKind.wrap, IntKind.bits, IntKind.signed]
    obtain ⟨us, hus⟩ : ∃ us : Nat, IntKind.u16.wrap sh = (us : Int) := ⟨(IntKind.u16.wrap sh).toNat, by omega⟩
    have hus2 : us ≤ 65535 := by omega
    clear hwu
    obtain ⟨xs, hxs⟩ : ∃ xs, us % 301 = xs := ⟨_, rfl⟩
    have hxs2 : xs < 301 := by rw [← hxs]; exact Nat.mod_lt _ (by omega)
    obtain ⟨fr, hfr⟩ : ∃ fr, f % 61 = fr := ⟨_, rfl⟩
    have hfr2 : fr < 61 := by rw [← hfr]; exact Nat.mod_lt _ (by omega)
    obtain ⟨dd, hdd⟩ : ∃ dd, 61 - fr = dd := ⟨_, rfl⟩
    obtain ⟨td, htd⟩ : ∃ td, t % dd = td := ⟨_, rfl⟩
    have htd2 : td < dd := by rw [← htd]; exact Nat.mod_lt _ (by omega)
    obtain ⟨tn, htn⟩ : ∃ tn, fr + td = tn := ⟨_, rfl⟩
    have htn2 : tn ≤ 60 := by omega
    obtain ⟨shn, hshn⟩ : ∃ shn, (-50 : Int) + (xs : Int) = shn := ⟨_, rfl⟩
    have k1 : IntKind.i64.wrap (a : Int) = (a : Int) := IntWalk.i64_in _ (by omega)
    have k2 : (a : Int).tmod (s.tools.length : Int) = (tl : Int) := by rw [Int.tmod_eq_emod_of_nonneg (by omega), ← Int.natCast_emod, htl]
    have k3 : IntKind.i64.wrap (tl : Int) = (tl : Int) := IntWalk.i64_in _ (by omega)
    have k4 : IntKind.i64.wrap (us : Int) = (us : Int) := IntWalk.i64_in _ (by omega)
    have k5 : (us : Int).tmod 301 = (xs : Int) := by rw [Int.tmod_eq_emod_of_nonneg (by omega)]; omega
    have k6 : IntKind.i64.wrap (xs : Int) = (xs : Int) := IntWalk.i64_in _ (by omega)
    have k7 : IntKind.i64.wrap (-50 + (xs : Int)) = shn := by rw [IntWalk.i64_in _ (by omega), hshn]
    have k8 : IntKind.i64.wrap (f : Int) = (f : Int) := IntWalk.i64_in _ (by omega)
    have k9 : (f : Int).tmod 61 = (fr : Int) := by rw [Int.tmod_eq_emod_of_nonneg (by omega)]; omega
    have k10 : IntKind.i64.wrap (fr : Int) = (fr : Int) := IntWalk.i64_in _ (by omega)
    have k11 : IntKind.i64.wrap (t : Int) = (t : Int) := IntWalk.i64_in _ (by omega)
    have k12 : IntKind.i64.wrap (61 - (fr : Int)) = (dd : Int) := by rw [IntWalk.i64_in _ (by omega)]; omega
    have k13 : (t : Int).tmod (dd : Int) = (td : Int) := by rw [Int.tmod_eq_emod_of_nonneg (by omega), ← Int.natCast_emod, htd]
    have k14 : IntKind.i64.wrap (td : Int) = (td : Int) := IntWalk.i64_in _ (by omega)
    have k15 : IntKind.i64.wrap ((fr : Int) + (td : Int)) = (tn : Int) := by rw [IntWalk.i64_in _ (by omega)]; omega
    have k16 : ¬ s.tools.length = 0 := by omega
    have k17 : ¬ dd = 0 := by omega
    have k18 : ((s.tools.length : Int) == 0) = false := by rw [beq_eq_false_iff_ne]; omega
    have k19 : ((dd : Int) == 0) = false := by simp; omega
    have y0 := hS1.bx.cell 0
    have y1 := hS1.bx.cell 1
    have y2 := hS1.bx.cell 2
    have y3 := hS1.bx.cell 3
    simp only [rrV, List.getElem?_toArray, List.getElem?_cons_zero, List.getElem?_cons_succ] at y0 y1 y2 y3
    obtain ⟨r, hr⟩ : ∃ r : Rd, r = ⟨(fr : Int), (tl : Int), shn⟩ := ⟨_, rfl⟩
    have hrok : ∀ x : Nat, x ≤ 60 → ROk s ⟨(x : Int), (tl : Int), shn⟩ := fun x hx => ⟨by show (0 : Int) ≤ (tl : Int); omega, by show (tl : Int) < (s.tools.length : Int); omega, by show (0 : Int) ≤ (x : Int); omega, by show (x : Int) ≤ 60; omega, by show (-50 : Int) ≤ shn; omega, by show shn ≤ 250; omega⟩
    have hF := fun (W : World) (hW : Sp2 w s m 74 (rrV a sh f t OA Ot oc LA Lo lc P X pc) W) => fewest2_c s m ⟨(fr : Int), (tl : Int), shn⟩ (tn : Int) W (hsa.keep hW.sp.sn.1)
    have hw9 := fewest_ways (s := s) (fr := fr) (tn := tn) (tl := (tl : Int)) (shn := shn) h0 hrok (by omega) htn2
    obtain ⟨FA, hFA⟩ : ∃ FA, fewestA s ⟨(fr : Int), (tl : Int), shn⟩ (tn : Int) = FA := ⟨_, rfl⟩
    have hfl := fewest_len s ⟨(fr : Int), (tl : Int), shn⟩ (tn : Int)
    rw [hFA] at hfl hw9
    simp only [hFA] at hF
    obtain ⟨fl, fe⟩ := FA
    have HW := Lib.hid hw9
    dsimp only at hF hfl
    have HH0 := Lib.hid h0
    have HRO := Lib.hid hrok
    have HS_ := Lib.hid hs
    clear htl hxs hfr h0 h0b hr hrok hFA hs hshn hdd hw9
    go_wp2_with fail
    go_quiet (fail)
    go_wp2_with fail
    have hS1d : ∀ n, Sp2 w s m 74 (rrV a sh f t OA Ot oc LA Lo lc P X pc) (w1.drewN n) := fun n => ⟨hS1.sp.dN n, hS1.bx⟩
    refine (hF _ (hS1d _)).mono ?_
    rintro e w2 ⟨⟨v, rfl, A1, k1_, rfl, hI1⟩, hb2⟩
    have hS2 := (hS1d _).keep hb2
    clear c0 c1 c2 c3 c4 c5 c6 c7 c8 y0 y1 y2 y3 hS1 hS1d hb2 hF k1 k2 k3 k4 k5 k6 k7 k8 k9 k10 k11 k12 k13 k14 k15 k16 k17 k18 k19
    have HI1 := Lib.hid hI1
    have HS2 := Lib.hid hS2
    have HAB := Lib.hid (InAt.lt hI1)
    obtain ⟨B, hB⟩ : ∃ B, w2.heap.size = B := ⟨_, rfl⟩
    rw [hB] at HAB
    have HBw : Hid (B ≤ w2.heap.size) := Nat.le_of_eq hB.symm
    have HO0 : Hid (w2.ownsRow B 3 1 (.slice none 0 0) ([] : List Int).length (([] : List Int).map fun x => .int .i64 x)) := ⟨rfl, .inl ⟨rfl, rfl⟩⟩
    have hgB : w.heap.size + 1 < B := by rw [← hB]; exact hS2.lt
    clear hS2 hI1 hB
    obtain ⟨d, hd⟩ : ∃ d, td + 1 = d := ⟨_, rfl⟩
    have HTD := Lib.hid htd
    have HHD := Lib.hid hd
    clear htd hd
    go_wp2_with fail
    go_loopw [13, 14] (fun ov i wr => ∃ k : Nat, k ≤ Ot.length ∧ i = .int .i64 k ∧ Hid (Sp2 w s m 74 (rrV a sh f t OA Ot oc LA Lo lc P X pc) wr) ∧ Hid (InAt wr A1 fl) ∧ Hid (B ≤ wr.heap.size) ∧ Hid (wr.ownsRow B 3 1 ov (nI (othN Ot fr d k)).length ((nI (othN Ot fr d k)).map fun x => .int .i64 x))) (fun _ i _ => Ot.length - (intOf i).toNat)
    case atStart => exact ⟨0, Nat.zero_le _, rfl, HS2, HI1, HBw, HO0⟩
    case round =>
      clear HS2 HI1 HBw HO0
      obtain ⟨k, hk, rfl, HS, HI, HB, HO⟩ := hrel
      have y4 := HS.out.bx.cell 4
      simp only [rrV, List.getElem?_toArray, List.getElem?_cons_zero, List.getElem?_cons_succ] at y4
      by_cases hkl : k < Ot.length
      · obtain ⟨ad, hA, q0⟩ := ho.get hkl
        subst hA
        have q0 := keep_cell HS.out.sp.sn.1 q0
        obtain ⟨b, hb⟩ : ∃ b : Nat, Ot[k] = (b : Int) := ⟨Ot[k].toNat, by have := hok k hkl; omega⟩
        rw [hb] at q0
        have hb2 : b ≤ 255 := by have := (hok k hkl).2; omega
        have hki : (k : Int) < (Ot.length : Int) := by omega
        have hnext := othN_next (fr := fr) (d := d) hkl
        rw [hb, Int.toNat_natCast] at hnext
        have hdp : 0 < d := by have := HHD.out; omega
        obtain ⟨q, hq⟩ : ∃ q, b % d = q := ⟨_, rfl⟩
        have hq2 : q < d := by rw [← hq]; exact Nat.mod_lt _ hdp
        rw [hq] at hnext
        obtain ⟨z, hz⟩ : ∃ z, fr + q = z := ⟨_, rfl⟩
        rw [hz] at hnext
        have hd2 := HHD.out
        have htn1 := HTD.out
        have e1 : IntKind.i64.wrap (b : Int) = (b : Int) := IntWalk.i64_in _ (by omega)
        have e2 : IntKind.i64.wrap ((tn : Int) - (fr : Int)) = (td : Int) := by rw [IntWalk.i64_in _ (by omega)]; omega
        have e3 : IntKind.i64.wrap ((td : Int) + 1) = (d : Int) := by rw [IntWalk.i64_in _ (by omega)]; omega
        have e4 : (b : Int).tmod (d : Int) = (q : Int) := by rw [Int.tmod_eq_emod_of_nonneg (by omega), ← Int.natCast_emod, hq]
        have e5 : IntKind.i64.wrap (q : Int) = (q : Int) := IntWalk.i64_in _ (by omega)
        have e6 : IntKind.i64.wrap ((fr : Int) + (q : Int)) = (z : Int) := by rw [IntWalk.i64_in _ (by omega)]; omega
        have e7 : ¬ d = 0 := by omega
        have e8 : ((d : Int) == 0) = false := by simp; omega
        have HNX := Lib.hid hnext
        have hbB := HB.out
        have hq3 : Below wr.heap.size wr (wr.alloc (.cells #[.int .i64 (z : Int)] 3)) := (Below.refl _ _).alloc (Nat.le_refl _) _
        have HO3 := Lib.hid (own_keep HO.out hq3)
        have HN3 := Lib.hid (Blk.new wr 3 #[.int .i64 (z : Int)])
        have hl1 : (nI (othN Ot fr d k)).length ≤ 1048576 := by rw [nI_len]; have := othN_len Ot fr d k; omega
        have hzB : B ≤ (wr.alloc (.cells #[.int .i64 (z : Int)] 3)).heap.size := by simp; omega
        clear hq hz hnext hb hd2 htn1 HO
        go_wp2_with (at_builtin; refine wpList_append_oneB rfl (.tmp 79) (.tmp 93) rfl B wr.heap.size _ (nI (othN Ot fr d k)) (z : Int) (by go_simp) (by go_simp) HO3.out HN3.out hl1 hzB ?_)
        intro v3 w3 ho3 hg3
        have hlt3 := HO3.out.lt
        have HS4 : Hid (Sp2 w s m 74 (rrV a sh f t (some ad) Ot oc LA Lo lc P X pc) w3) := (HS.out.keep hq3).grown hg3 (fun q h => by have := (hlt3 q h).1; omega)
        have HI4 : Hid (InAt w3 A1 fl) := (HI.out.keep hq3).grown hg3 (fun q h hne a ha => by have := (hlt3 q h).1; have := HAB.out hne a ha; omega)
        have HB4 : Hid (B ≤ w3.heap.size) := Nat.le_trans hzB hg3.size
        have HO4 : Hid (w3.ownsRow B 3 1 v3 (nI (othN Ot fr d (k + 1))).length ((nI (othN Ot fr d (k + 1))).map fun x => .int .i64 x)) := by
          show World.ownsRow _ _ _ _ _ _ _
          rw [HNX.out, nI_snoc, List.length_append, List.map_append]
          exact ho3
        clear ho3 hg3 hlt3 HO3 HN3 q0 hq3 hzB hl1 HS HI HB
        go_wp2_with fail
        go_roundw
        case rel => exact ⟨k + 1, by omega, by go_num, HS4, HI4, HB4, HO4⟩
        case measure => simp [intOf]; omega
      · have hki : ¬ (k : Int) < (Ot.length : Int) := by omega
        obtain rfl : k = Ot.length := by omega
        obtain ⟨W1, rfl⟩ : ∃ W1, W1 = wr := ⟨_, rfl⟩
        obtain ⟨OB, ob, hov, hIO⟩ := lv_own rfl HO.out
        subst hov
        have HIO := Lib.hid hIO
        have hdp : 0 < d := by have := HHD.out; omega
        have hmem : ∀ x ∈ othN Ot fr d Ot.length, fr ≤ x ∧ x ≤ tn := fun x hx => by
          have := othN_mem hdp hx
          have := HHD.out
          have := HTD.out
          omega
        have hlen := othN_len Ot fr d Ot.length
        obtain ⟨L, hL⟩ : ∃ L, othN Ot fr d Ot.length = L := ⟨_, rfl⟩
        rw [hL] at HIO hmem hlen ⊢
        rw [nI_len]
        have hCov := fun (W : World) (hW : Sp2 w s m 74 (rrV a sh f t OA Ot oc LA Lo lc P X pc) W) (hI : InAt W OB (nI L)) => rcovers_c s m (tl : Int) shn (fun x => hol s ⟨(x : Int), (tl : Int), shn⟩) fr tn L OB ob W HS_.out (hsa.keep hW.sp.sn.1) (fun x hx => ⟨HRO.out x hx, rfl, (hol_in (r := ⟨(x : Int), (tl : Int), shn⟩) (by show (0 : Int) ≤ (x : Int); omega) (by show (x : Int) ≤ 60; omega)).1, (hol_in (r := ⟨(x : Int), (tl : Int), shn⟩) (by show (0 : Int) ≤ (x : Int); omega) (by show (x : Int) ≤ 60; omega)).2.1⟩) (by have := HTD.out; omega) htn2 (fun x hx => by have := hmem x hx; omega) (by omega) hI
        have HCV := Lib.hid hCov
        have HMEM := Lib.hid hmem
        have hw9 := HW.out
        clear hL HO hIO hCov hmem HW
        rcases hw9 with ⟨hfa, hcn⟩ | ⟨l0, hfa, ⟨hpw, hbd⟩, hcov, hmin⟩
        · obtain ⟨hf1, hf2⟩ := Prod.mk.inj hfa
          subst hf1
          subst hf2
          have hcf := hcn L (fun x hx => (HMEM.out x hx).1)
          have hcv := HCV.out
          simp only [hcf] at hcv
          have HCV2 := Lib.hid hcv
          have HS9 := HS.out
          obtain ⟨c0, c1, c2, c3, c4, c5, c6, c7, c8⟩ := HS9.sp.bk.space
          clear hcn hcf hcv HCV hfa
          go_wp2_with fail
          refine (HCV2.out _ HS9 HIO.out).mono ?_
          rintro e w4 ⟨rfl, hb4⟩
          have HS10 := HS9.keep hb4
          clear c0 c1 c2 c3 c4 c5 c6 c7 c8 hb4 HS9
          go_wp2_with fail
          refine (awake_c _).mono ?_
          rintro e w5 ⟨rfl, hb5⟩
          go_wp2_with fail
          go_ret
          exact ⟨rfl, (HS10.keep hb5).sp.sn.1⟩
        · obtain ⟨hf1, hf2⟩ := Prod.mk.inj hfa
          subst hf1
          subst hf2
          have HPW := Lib.hid hpw
          have HBD := Lib.hid hbd
          have HCO := Lib.hid hcov
          have HMN := Lib.hid hmin
          clear hpw hbd hcov hmin hfa
          go_wp2_with fail
          go_loopw [15] (fun i wr => ∃ k : Nat, k ≤ fl.length ∧ i = .int .i64 k ∧ Hid (Since W1 wr)) (fun i _ => fl.length - (intOf i).toNat)
          case atStart => exact ⟨0, Nat.zero_le _, rfl, Since.refl _⟩
          case round =>
            obtain ⟨k, hk, rfl, HX⟩ := hrel
            by_cases hkl : k < fl.length
            · obtain ⟨ad, hA, q0⟩ := (HI.out.keep HX.out.1).get hkl
              have hki : (k : Int) < (fl.length : Int) := by omega
              have hb1 := HBD.out _ (List.getElem_mem hkl)
              subst hA
              obtain ⟨x, hx⟩ : ∃ x, fl[k] = x := ⟨_, rfl⟩
              have g1 : decide (x < (fr : Int)) = false := decide_eq_false (by rw [← hx]; omega)
              have g2 : decide ((tn : Int) < x) = false := decide_eq_false (by rw [← hx]; omega)
              by_cases hk0 : k = 0
              · rw [hx] at q0
                have g5 : decide ((0 : Int) < (k : Int)) = false := decide_eq_false (by omega)
                have g6 : decide (0 < k) = false := decide_eq_false (by omega)
                clear hx hk0 hb1
                go_wp2_with fail
                go_quiet (fail)
                go_wp2_with fail
                go_roundw
                case rel => exact ⟨k + 1, by omega, by go_num, ⟨bdrew HX.out.1 _, HX.out.2⟩⟩
                case measure => simp [intOf]; omega
              · obtain ⟨k1, hk1⟩ : ∃ k1, k = k1 + 1 := ⟨k - 1, by omega⟩
                have hk1l : k1 < fl.length := by omega
                obtain ⟨ad2, hA2, q1⟩ := (HI.out.keep HX.out.1).get hk1l
                obtain rfl : ad = ad2 := by simpa using hA2
                have hlt := List.pairwise_iff_getElem.1 HPW.out k1 k hk1l hkl (by omega)
                obtain ⟨y, hy⟩ : ∃ y, fl[k1] = y := ⟨_, rfl⟩
                rw [hx] at q0 hlt
                rw [hy] at q1 hlt
                have g3 : decide (x ≤ y) = false := decide_eq_false (by omega)
                have g4 : IntKind.i64.wrap ((k : Int) - 1) = (k1 : Int) := by rw [IntWalk.i64_in _ (by omega)]; omega
                have g5 : decide ((0 : Int) < (k : Int)) = true := decide_eq_true (by omega)
                have g6 : decide (0 < k) = true := decide_eq_true (by omega)
                have g7 : (k1 : Int) < (fl.length : Int) := by omega
                clear hx hy hA2 hk1 hk0 hlt hb1
                go_wp2_with fail
                go_quiet (fail)
                go_wp2_with fail
                go_roundw
                case rel => exact ⟨k + 1, by omega, by go_num, ⟨bdrew HX.out.1 _, HX.out.2⟩⟩
                case measure => simp [intOf]; omega
            · have hki : ¬ (k : Int) < (fl.length : Int) := by omega
              obtain rfl : k = fl.length := by omega
              obtain ⟨W2, rfl⟩ : ∃ W2, W2 = wr := ⟨_, rfl⟩
              have hSx := HS.out.keep HX.out.1
              have hIx := HI.out.keep HX.out.1
              have hIOx := HIO.out.keep HX.out.1
              have hBx : B ≤ W2.heap.size := Nat.le_trans HB.out HX.out.2
              have HMN2 : Hid (L.length < fl.length → covB (fun x => hol s ⟨(x : Int), (tl : Int), shn⟩) fr tn L = false) := fun h => HMN.out L (fun x hx => (HMEM.out x hx).1) h
              clear HX HS HI HIO HB HMN hki hk
              obtain ⟨c0, c1, c2, c3, c4, c5, c6, c7, c8⟩ := hSx.sp.bk.space
              have y6 := hSx.bx.cell 6
              simp only [rrV, List.getElem?_toArray, List.getElem?_cons_zero, List.getElem?_cons_succ] at y6
              by_cases hll2 : L.length < fl.length
              · have hcf := HMN2.out hll2
                have hcv := HCV.out
                simp only [hcf] at hcv
                have HCV2 := Lib.hid hcv
                have hll3 : (L.length : Int) < (fl.length : Int) := by omega
                clear hcf hcv HCV y6
                go_wp2_with fail
                refine (HCV2.out _ hSx hIOx).mono ?_
                rintro e w6 ⟨rfl, hb6⟩
                have hS6 := hSx.keep hb6
                have hI6 := hIx.keep hb6
                clear c0 c1 c2 c3 c4 c5 c6 c7 c8 hb6 hSx hIx hIOx HMN2 hll2 hll3 HCV2 HMEM
                obtain ⟨c0, c1, c2, c3, c4, c5, c6, c7, c8⟩ := hS6.sp.bk.space
                have y6 := hS6.bx.cell 6
                simp only [rrV, List.getElem?_toArray, List.getElem?_cons_zero, List.getElem?_cons_succ] at y6
                go_wp2_with fail
                refine (truth_c s m P X pc _ HS_.out (hsa.keep hS6.sp.sn.1) (hu.keep hS6.sp.sn.1) huk).mono ?_
                rintro e w7 ⟨⟨vt, rfl, TA, tc, rfl, hT7⟩, hb7⟩
                have HS7 := Lib.hid (hS6.keep hb7)
                have hI7 := Lib.hid (hI6.keep hb7)
                rw [show (truL s X 61).length = 61 by simp [truL]]
                obtain ⟨ta, hta, hcl⟩ := hT7 (by simp [truL])
                subst hta
                have HCL : Hid (∀ i, i < 61 → w7.cell? (ta.add i) = some (.int .i64 (truN s X i))) := fun i hi => hcl i (truN s X i) (by simp [truL, hi])
                have HTB0 : Hid (ta.block < w7.heap.size) := cell_lt (HCL.out 0 (by omega))
                have HAB2 := Lib.hid (InAt.lt hI7.out)
                obtain ⟨B2, hB2⟩ : ∃ B2, w7.heap.size = B2 := ⟨_, rfl⟩
                have HB2 : Hid (B2 ≤ w7.heap.size) := Nat.le_of_eq hB2.symm
                have hg2 : w.heap.size + 1 < B2 := by rw [← hB2]; exact HS7.out.lt
                have hRO0 : Hid (w7.ownsRow B2 61 3 (.slice none 0 0) ([] : List Rd).length (rowsC ([] : List Rd))) := ⟨rfl, .inl ⟨rfl, rfl⟩⟩
                rw [hB2] at HAB2
                have HTB : Hid (¬ B2 ≤ ta.block) := by show ¬ _; rw [← hB2]; have := HTB0.out; omega
                clear HTB0
                clear c0 c1 c2 c3 c4 c5 c6 c7 c8 y6 hS6 hI6 hb7 hcl hT7 hB2
                have htools := hsa.tl.get htl2
                obtain ⟨ae, hTae, _, ee1⟩ := htools
                have HTAE := Lib.hid hTae
                have heb := HS_.out.er _ (List.getElem_mem htl2)
                obtain ⟨er, her⟩ : ∃ er, s.tools[tl].err = er := ⟨_, rfl⟩
                rw [her] at heb ee1
                have HER := Lib.hid her
                have HEE := Lib.hid ee1
                clear hTae ee1 her
                go_wp2_with fail
                go_loopw [17, 18, 19, 20, 21] (fun rv i _ _ _ wr => ∃ k : Nat, k ≤ fl.length ∧ i = .int .i64 k ∧ Hid (Sp2 w s m 74 (rrV a sh f t OA Ot oc LA Lo lc P X pc) wr) ∧ Hid (InAt wr A1 fl) ∧ Hid (∀ i, i < 61 → wr.cell? (ta.add i) = some (.int .i64 (truN s X i))) ∧ Hid (B2 ≤ wr.heap.size) ∧ Hid (wr.ownsRow B2 61 3 rv ((List.range k).map (frd (truN s X) fl tl er (wrV Lo))).length (rowsC ((List.range k).map (frd (truN s X) fl tl er (wrV Lo))))) ∧ Hid (∀ i, i < k → (frd (truN s X) fl tl er (wrV Lo) i).shown ≤ shn)) (fun _ i _ _ _ _ => fl.length - (intOf i).toNat)
                case atStart => exact ⟨0, Nat.zero_le _, rfl, HS7, hI7, HCL, HB2, hRO0, fun i h => absurd h (Nat.not_lt_zero _)⟩
                case round =>
                  clear HS7 hI7 HCL HB2 hRO0
                  obtain ⟨k, hk, rfl, HS, HI, HCL, HB, HO, HSH⟩ := hrel
                  by_cases hkl : k < fl.length
                  · obtain ⟨ad, hA, q0⟩ := HI.out.get hkl
                    have hki : (k : Int) < (fl.length : Int) := by omega
                    have hb1 := HBD.out _ (List.getElem_mem hkl)
                    subst hA
                    obtain ⟨x, hx⟩ : ∃ x : Nat, fl[k] = (x : Int) := ⟨fl[k].toNat, by omega⟩
                    rw [hx] at q0 hb1
                    have hx61 : x < 61 := by omega
                    have hxi : (x : Int) < 61 := by omega
                    have q1 := HCL.out x hx61
                    have hTx := truN_in HS_.out X x
                    obtain ⟨lv, hlv⟩ : ∃ lv, truN s X x = lv := ⟨_, rfl⟩
                    rw [hlv] at q1 hTx
                    have HLD : Hid (∀ am, amongV (lv - er) (lv + er) (wrV Lo k) = am → frd (truN s X) fl tl er (wrV Lo) k = ⟨(x : Int), (tl : Int), am⟩) := fun am ham => by
                      simp only [frd, List.getElem?_eq_getElem hkl, Option.getD_some, hx, Int.toNat_natCast, hlv, ham]
                    obtain ⟨ws, hws⟩ : ∃ ws, wrV Lo k = ws := ⟨_, rfl⟩
                    have hwb := wrV_bd hlk k
                    rw [hws] at HLD hwb
                    have y5 := HS.out.bx.cell 5
                    simp only [rrV, List.getElem?_toArray, List.getElem?_cons_zero, List.getElem?_cons_succ] at y5
                    clear hx hlv
                    by_cases hW0 : Lo.length = 0
                    · have hLo := List.eq_nil_of_length_eq_zero hW0
                      have hws0 : ws = 0 := by rw [← hws, hLo]; rfl
                      subst hws0
                      have HWS := Lib.hid hws
                      have hW1 : ¬ (0 : Int) < (Lo.length : Int) := by omega
                      have hW2 := Lib.hid hLo
                      clear hws hLo
                      obtain ⟨LL, hLL⟩ : ∃ LL, Lo.length = LL := ⟨_, rfl⟩
                      rw [hLL] at hW0 hW1 y5
                      have HLL := Lib.hid hLL
                      clear hLL
                      obtain ⟨_, _, _, _, _, _, _, _, c8⟩ := HS.out.sp.bk.space
                      rw [HTAE.out] at c8
                      have ee1 := keep_cell HS.out.sp.sn.1 HEE.out
                      have htli : (tl : Int) < (s.tools.length : Int) := by omega
                      go_wp2_with fail
                      have Q0 := Lib.hid q0
                      have Q1 := Lib.hid q1
                      have HWB := Lib.hid hwb
                      obtain ⟨am, ham⟩ : ∃ am, amongV (lv - er) (lv + er) 0 = am := ⟨_, rfl⟩
                      have HAM := Lib.hid ham
                      have HRD := Lib.hid (HLD.out am ham)
                      have hzW : w.heap.size + 1 < wr.heap.size := HS.out.sp.sn.2 |> fun _ => HS.out.lt
                      clear q0 q1 c8 ee1 ham hwb
                      refine Vals9.region (Nb 27 28 wr 61 3 #[.int .i64 (x : Int), .int .i64 (tl : Int), .int .i64 am]) [some 197, some 198, some 199, some 200, some 201, some 202, some 203, some 204, some 205, some 206, some 207, some 208, some 209, some 210, some 211, some 212, some 213, some 214, some 215, some 216, some 217, some 218, some 219, some 220, some 221, some 222, some 223, some 21, none] [.is ?_, .is ?_, .is ?_, .is ?_, .is ?_, .is ?_, .is ?_, .is ?_, .is ?_, .is ?_, .is ?_, .is ?_, .is ?_, .is ?_, .is ?_, .is ?_, .is ?_, .is ?_, .is ?_, .is ?_, .is ?_, .is ?_, .is ?_, .is ?_, .is ?_, .is (.int .i64 am), .is ?_, .any, .any] (by kernel_rfl) (by kernel_rfl) (by kernel_rfl) (by kernel_rfl) (by kernel_rfl) (by kernel_rfl) (Nb.start ((Since.refl wr).drew)) ?hst1 ?hfi1
                      case hst1 =>
                        refine Vals9.Steps.run rfl ?_ ?_
                        · intro a W σ hJ pre K hK
                          have e11 := pre.2.2 11 _ (by kernel_rfl) rfl
                          clear pre
                          simp only [Array.getD_eq_getD_getElem?, List.getElem?_toArray, List.getElem?_cons_zero, List.getElem?_cons_succ, Option.getD_some] at e11
                          go_simp
                          exact hK _ hJ
                        refine Vals9.Steps.run rfl ?_ ?_
                        · intro a W σ hJ pre K hK
                          have e18 := pre.2.2 18 _ (by kernel_rfl) rfl
                          clear pre
                          simp only [Array.getD_eq_getD_getElem?, List.getElem?_toArray, List.getElem?_cons_zero, List.getElem?_cons_succ, Option.getD_some] at e18
                          go_simp
                          exact hK _ hJ
                        refine Vals9.Steps.run rfl ?_ ?_
                        · intro a W σ hJ pre K hK
                          have e197 := pre.1 0 197 _ (by kernel_rfl) rfl rfl
                          have e198 := pre.1 1 198 _ (by kernel_rfl) rfl rfl
                          clear pre
                          simp only [Array.getD_eq_getD_getElem?, List.getElem?_toArray, List.getElem?_cons_zero, List.getElem?_cons_succ, Option.getD_some] at e197 e198
                          go_simp
                          exact hK _ hJ
                        refine Vals9.Steps.run rfl ?_ ?_
                        · intro a W σ hJ pre K hK
                          have e199 := pre.1 2 199 _ (by kernel_rfl) rfl rfl
                          clear pre
                          simp only [Array.getD_eq_getD_getElem?, List.getElem?_toArray, List.getElem?_cons_zero, List.getElem?_cons_succ, Option.getD_some] at e199
                          have hS9 := hJ
                          have q0 := keep_cell hJ.sn.1 Q0.out
                          have q1 := keep_cell hJ.sn.1 Q1.out
                          go_simp
                          exact hK _ hJ
                        refine Vals9.Steps.run rfl ?_ ?_
                        · intro a W σ hJ pre K hK
                          have e7 := pre.2.2 7 _ (by kernel_rfl) rfl
                          clear pre
                          simp only [Array.getD_eq_getD_getElem?, List.getElem?_toArray, List.getElem?_cons_zero, List.getElem?_cons_succ, Option.getD_some] at e7
                          go_simp
                          exact hK _ hJ
                        refine Vals9.Steps.run rfl ?_ ?_
                        · intro a W σ hJ pre K hK
                          have e16 := pre.2.2 16 _ (by kernel_rfl) rfl
                          clear pre
                          simp only [Array.getD_eq_getD_getElem?, List.getElem?_toArray, List.getElem?_cons_zero, List.getElem?_cons_succ, Option.getD_some] at e16
                          go_simp
                          exact hK _ hJ
                        refine Vals9.Steps.run rfl ?_ ?_
                        · intro a W σ hJ pre K hK
                          have e11 := pre.2.2 11 _ (by kernel_rfl) rfl
                          clear pre
                          simp only [Array.getD_eq_getD_getElem?, List.getElem?_toArray, List.getElem?_cons_zero, List.getElem?_cons_succ, Option.getD_some] at e11
                          go_simp
                          exact hK _ hJ
                        refine Vals9.Steps.run rfl ?_ ?_
                        · intro a W σ hJ pre K hK
                          have e18 := pre.2.2 18 _ (by kernel_rfl) rfl
                          clear pre
                          simp only [Array.getD_eq_getD_getElem?, List.getElem?_toArray, List.getElem?_cons_zero, List.getElem?_cons_succ, Option.getD_some] at e18
                          go_simp
                          exact hK _ hJ
                        refine Vals9.Steps.run rfl ?_ ?_
                        · intro a W σ hJ pre K hK
                          have e203 := pre.1 6 203 _ (by kernel_rfl) rfl rfl
                          have e204 := pre.1 7 204 _ (by kernel_rfl) rfl rfl
                          clear pre
                          simp only [Array.getD_eq_getD_getElem?, List.getElem?_toArray, List.getElem?_cons_zero, List.getElem?_cons_succ, Option.getD_some] at e203 e204
                          go_simp
                          exact hK _ hJ
                        refine Vals9.Steps.run rfl ?_ ?_
                        · intro a W σ hJ pre K hK
                          have e205 := pre.1 8 205 _ (by kernel_rfl) rfl rfl
                          clear pre
                          simp only [Array.getD_eq_getD_getElem?, List.getElem?_toArray, List.getElem?_cons_zero, List.getElem?_cons_succ, Option.getD_some] at e205
                          have hS9 := hJ
                          have q0 := keep_cell hJ.sn.1 Q0.out
                          have q1 := keep_cell hJ.sn.1 Q1.out
                          go_simp
                          exact hK _ hJ
                        refine Vals9.Steps.run rfl ?_ ?_
                        · intro a W σ hJ pre K hK
                          have e202 := pre.1 5 202 _ (by kernel_rfl) rfl rfl
                          have e206 := pre.1 9 206 _ (by kernel_rfl) rfl rfl
                          clear pre
                          simp only [Array.getD_eq_getD_getElem?, List.getElem?_toArray, List.getElem?_cons_zero, List.getElem?_cons_succ, Option.getD_some] at e202 e206
                          go_simp
                          exact hK _ hJ
                        refine Vals9.Steps.run rfl ?_ ?_
                        · intro a W σ hJ pre K hK
                          have e207 := pre.1 10 207 _ (by kernel_rfl) rfl rfl
                          clear pre
                          simp only [Array.getD_eq_getD_getElem?, List.getElem?_toArray, List.getElem?_cons_zero, List.getElem?_cons_succ, Option.getD_some] at e207
                          have hS9 := hJ
                          have q0 := keep_cell hJ.sn.1 Q0.out
                          have q1 := keep_cell hJ.sn.1 Q1.out
                          go_simp
                          exact hK _ hJ
                        refine Vals9.Steps.run rfl ?_ ?_
                        · intro a W σ hJ pre K hK
                          have e20 := pre.2.2 20 _ (by kernel_rfl) rfl
                          clear pre
                          simp only [Array.getD_eq_getD_getElem?, List.getElem?_toArray, List.getElem?_cons_zero, List.getElem?_cons_succ, Option.getD_some] at e20
                          go_simp
                          exact hK _ hJ
                        refine Vals9.Steps.run rfl ?_ ?_
                        · intro a W σ hJ pre K hK
                          have e208 := pre.1 11 208 _ (by kernel_rfl) rfl rfl
                          have e209 := pre.1 12 209 _ (by kernel_rfl) rfl rfl
                          clear pre
                          simp only [Array.getD_eq_getD_getElem?, List.getElem?_toArray, List.getElem?_cons_zero, List.getElem?_cons_succ, Option.getD_some] at e208 e209
                          have hw9 : IntKind.i64.wrap (lv - er) = lv - er := IntWalk.i64_in _ (by omega)
                          go_simp
                          exact hK _ hJ
                        refine Vals9.Steps.run rfl ?_ ?_
                        · intro a W σ hJ pre K hK
                          have e16 := pre.2.2 16 _ (by kernel_rfl) rfl
                          clear pre
                          simp only [Array.getD_eq_getD_getElem?, List.getElem?_toArray, List.getElem?_cons_zero, List.getElem?_cons_succ, Option.getD_some] at e16
                          go_simp
                          exact hK _ hJ
                        refine Vals9.Steps.run rfl ?_ ?_
                        · intro a W σ hJ pre K hK
                          have e11 := pre.2.2 11 _ (by kernel_rfl) rfl
                          clear pre
                          simp only [Array.getD_eq_getD_getElem?, List.getElem?_toArray, List.getElem?_cons_zero, List.getElem?_cons_succ, Option.getD_some] at e11
                          go_simp
                          exact hK _ hJ
                        refine Vals9.Steps.run rfl ?_ ?_
                        · intro a W σ hJ pre K hK
                          have e18 := pre.2.2 18 _ (by kernel_rfl) rfl
                          clear pre
                          simp only [Array.getD_eq_getD_getElem?, List.getElem?_toArray, List.getElem?_cons_zero, List.getElem?_cons_succ, Option.getD_some] at e18
                          go_simp
                          exact hK _ hJ
                        refine Vals9.Steps.run rfl ?_ ?_
                        · intro a W σ hJ pre K hK
                          have e212 := pre.1 15 212 _ (by kernel_rfl) rfl rfl
                          have e213 := pre.1 16 213 _ (by kernel_rfl) rfl rfl
                          clear pre
                          simp only [Array.getD_eq_getD_getElem?, List.getElem?_toArray, List.getElem?_cons_zero, List.getElem?_cons_succ, Option.getD_some] at e212 e213
                          go_simp
                          exact hK _ hJ
                        refine Vals9.Steps.run rfl ?_ ?_
                        · intro a W σ hJ pre K hK
                          have e214 := pre.1 17 214 _ (by kernel_rfl) rfl rfl
                          clear pre
                          simp only [Array.getD_eq_getD_getElem?, List.getElem?_toArray, List.getElem?_cons_zero, List.getElem?_cons_succ, Option.getD_some] at e214
                          have hS9 := hJ
                          have q0 := keep_cell hJ.sn.1 Q0.out
                          have q1 := keep_cell hJ.sn.1 Q1.out
                          go_simp
                          exact hK _ hJ
                        refine Vals9.Steps.run rfl ?_ ?_
                        · intro a W σ hJ pre K hK
                          have e211 := pre.1 14 211 _ (by kernel_rfl) rfl rfl
                          have e215 := pre.1 18 215 _ (by kernel_rfl) rfl rfl
                          clear pre
                          simp only [Array.getD_eq_getD_getElem?, List.getElem?_toArray, List.getElem?_cons_zero, List.getElem?_cons_succ, Option.getD_some] at e211 e215
                          go_simp
                          exact hK _ hJ
                        refine Vals9.Steps.run rfl ?_ ?_
                        · intro a W σ hJ pre K hK
                          have e216 := pre.1 19 216 _ (by kernel_rfl) rfl rfl
                          clear pre
                          simp only [Array.getD_eq_getD_getElem?, List.getElem?_toArray, List.getElem?_cons_zero, List.getElem?_cons_succ, Option.getD_some] at e216
                          have hS9 := hJ
                          have q0 := keep_cell hJ.sn.1 Q0.out
                          have q1 := keep_cell hJ.sn.1 Q1.out
                          go_simp
                          exact hK _ hJ
                        refine Vals9.Steps.run rfl ?_ ?_
                        · intro a W σ hJ pre K hK
                          have e20 := pre.2.2 20 _ (by kernel_rfl) rfl
                          clear pre
                          simp only [Array.getD_eq_getD_getElem?, List.getElem?_toArray, List.getElem?_cons_zero, List.getElem?_cons_succ, Option.getD_some] at e20
                          go_simp
                          exact hK _ hJ
                        refine Vals9.Steps.run rfl ?_ ?_
                        · intro a W σ hJ pre K hK
                          have e217 := pre.1 20 217 _ (by kernel_rfl) rfl rfl
                          have e218 := pre.1 21 218 _ (by kernel_rfl) rfl rfl
                          clear pre
                          simp only [Array.getD_eq_getD_getElem?, List.getElem?_toArray, List.getElem?_cons_zero, List.getElem?_cons_succ, Option.getD_some] at e217 e218
                          have hw9 : IntKind.i64.wrap (lv + er) = lv + er := IntWalk.i64_in _ (by omega)
                          go_simp
                          exact hK _ hJ
                        refine Vals9.Steps.run rfl ?_ ?_
                        · intro a W σ hJ pre K hK
                          have e210 := pre.1 13 210 _ (by kernel_rfl) rfl rfl
                          have e219 := pre.1 22 219 _ (by kernel_rfl) rfl rfl
                          clear pre
                          simp only [Array.getD_eq_getD_getElem?, List.getElem?_toArray, List.getElem?_cons_zero, List.getElem?_cons_succ, Option.getD_some] at e210 e219
                          go_simp
                          refine (span_c (lv - er) (lv + er) _).mono ?_
                          rintro e w' ⟨rfl, hb'⟩
                          exact hK _ (hJ.keep hb')
                        refine Vals9.Steps.run rfl ?_ ?_
                        · intro a W σ hJ pre K hK
                          have e19 := pre.2.2 19 _ (by kernel_rfl) rfl
                          clear pre
                          simp only [Array.getD_eq_getD_getElem?, List.getElem?_toArray, List.getElem?_cons_zero, List.getElem?_cons_succ, Option.getD_some] at e19
                          go_simp
                          exact hK _ hJ
                        refine Vals9.Steps.run rfl ?_ ?_
                        · intro a W σ hJ pre K hK
                          have e220 := pre.1 23 220 _ (by kernel_rfl) rfl rfl
                          have e221 := pre.1 24 221 _ (by kernel_rfl) rfl rfl
                          clear pre
                          simp only [Array.getD_eq_getD_getElem?, List.getElem?_toArray, List.getElem?_cons_zero, List.getElem?_cons_succ, Option.getD_some] at e220 e221
                          go_simp
                          have hwb := HWB.out
                          refine (among_c (lv - er) (lv + er) (0) _ (by omega) (by omega) (by omega) (by omega) (by omega)).mono ?_
                          rintro e w' ⟨rfl, hb'⟩
                          rw [HAM.out]
                          exact hK _ (hJ.keep hb')
                        refine Vals9.Steps.run rfl ?_ ?_
                        · intro a W σ hJ pre K hK
                          have e200 := pre.1 3 200 _ (by kernel_rfl) rfl rfl
                          have e201 := pre.1 4 201 _ (by kernel_rfl) rfl rfl
                          have e222 := pre.1 25 222 _ (by kernel_rfl) rfl rfl
                          clear pre
                          simp only [Array.getD_eq_getD_getElem?, List.getElem?_toArray, List.getElem?_cons_zero, List.getElem?_cons_succ, Option.getD_some] at e200 e201 e222
                          go_simp
                          exact hK _ hJ
                        refine Vals9.Steps.mark rfl ?_ ?_
                        · intro a W σ hJ hn pre K hK
                          go_simp
                          exact hK _ _ (hJ.new hn)
                        refine Vals9.Steps.mark rfl ?_ ?_
                        · intro a W σ hJ hn pre K hK
                          obtain ⟨v21, s21, e21⟩ := pre.2.1 27 (by kernel_rfl) rfl
                          replace e21 : a.tmps.getD 21 undef = v21 := e21 21 rfl
                          have e223 := pre.1 26 223 _ (by kernel_rfl) rfl rfl
                          simp only [Array.getD_eq_getD_getElem?, List.getElem?_toArray, List.getElem?_cons_zero, List.getElem?_cons_succ, Option.getD_some] at e21 e223
                          obtain ⟨g, cs, h1, h2, h3, h4, _⟩ := hJ.a _ s21
                          subst h1
                          refine wp_store_row 61 _ _ rfl g #[.int .i64 (x : Int), .int .i64 (tl : Int), .int .i64 am] (by go_simp) (by go_simp) 61 cs h4 (by kernel_rfl) h3 (by simp [Value.oneCell']) ?_
                          exact hK _ _ (hJ.store s21 rfl)
                        exact Vals9.Steps.nil
                      case hfi1 =>
                        intro Y σ hJ
                        simp only [Vals9.All]
                        intro v21 h21 v25 h25
                        simp only [Vals.putAll, List.setIfInBounds_toArray, List.set_cons_zero, List.set_cons_succ]
                        obtain ⟨g, cs, rfl, hgB, _, hg, hcs⟩ := hJ.a _ h21
                        obtain rfl := hcs _ h25
                        have HSY := Lib.hid (HS.out.keep hJ.sn.1)
                        have HIY := Lib.hid (HI.out.keep hJ.sn.1)
                        have HCY : Hid (∀ i, i < 61 → Y.cell? (ta.add i) = some (.int .i64 (truN s X i))) := fun i hi => keep_cell hJ.sn.1 (HCL.out i hi)
                        have HBY : Hid (B2 ≤ Y.heap.size) := Nat.le_trans HB.out hJ.sn.2
                        have HOY := Lib.hid (own_keep HO.out hJ.sn.1)
                        have g0 := hg.cell 0
                        have g1 := hg.cell 1
                        have g2 := hg.cell 2
                        simp only [List.getElem?_toArray, List.getElem?_cons_zero, List.getElem?_cons_succ] at g0 g1 g2
                        clear hJ h21 h25 hg HS HI HCL HB HO
                        by_cases hsl : shn < am
                        · have hsd : decide (shn < am) = true := decide_eq_true hsl
                          go_wp2_with fail
                          refine (awake_c _).mono ?_
                          rintro e w9 ⟨rfl, hb9⟩
                          go_wp2_with fail
                          go_ret
                          exact ⟨rfl, (HSY.out.keep hb9).sp.sn.1⟩
                        · have hsd : decide (shn < am) = false := decide_eq_false hsl
                          have hq : Below Y.heap.size Y (Y.alloc (.cells (rV ⟨(x : Int), (tl : Int), am⟩) 61)) := (Below.refl _ _).alloc (Nat.le_refl _) _
                          have HO11 := Lib.hid (own_keep HOY.out hq)
                          have HN11 := Lib.hid (Blk.new Y 61 (rV ⟨(x : Int), (tl : Int), am⟩))
                          have hzB : B2 ≤ (Y.alloc (.cells (rV ⟨(x : Int), (tl : Int), am⟩) 61)).heap.size := by have := HBY.out; simp; omega
                          have hll : ((List.range k).map (frd (truN s X) fl tl er (wrV Lo))).length ≤ 1000 := by simp; omega
                          go_wp2_with (at_builtin; refine wpList_append_read rfl (.tmp 229) (.tmp 231) rfl B2 Y.heap.size _ ((List.range k).map (frd (truN s X) fl tl er (wrV Lo))) ⟨(x : Int), (tl : Int), am⟩ (by go_simp) (by go_simp) HO11.out HN11.out hll hzB ?_)
                          intro v3 w3 ho3 hg3 _
                          have hlt3 := HO11.out.lt
                          have HS12 : Hid (Sp2 w s m 74 (rrV a sh f t OA Ot oc LA Lo lc P X pc) w3) := (HSY.out.keep hq).grown hg3 (fun q h => by have := (hlt3 q h).1; omega)
                          have HI12 : Hid (InAt w3 (some ad) fl) := (HIY.out.keep hq).grown hg3 (fun q h hne a ha => by have := (hlt3 q h).1; have := HAB2.out hne a ha; omega)
                          have HB12 : Hid (B2 ≤ w3.heap.size) := Nat.le_trans hzB hg3.size
                          have HC12 : Hid (∀ i, i < 61 → w3.cell? (ta.add i) = some (.int .i64 (truN s X i))) := fun i hi => grown_cell (keep_cell hq (HCY.out i hi)) hg3 (fun q h e => HTB.out (by have := (hlt3 q h).1; rw [add_block] at e; rw [← e]; exact this))
                          have HO12 : Hid (w3.ownsRow B2 61 3 v3 ((List.range (k + 1)).map (frd (truN s X) fl tl er (wrV Lo))).length (rowsC ((List.range (k + 1)).map (frd (truN s X) fl tl er (wrV Lo))))) := by
                            show World.ownsRow _ _ _ _ _ _ _
                            rw [show (List.range (k + 1)).map (frd (truN s X) fl tl er (wrV Lo)) = (List.range k).map (frd (truN s X) fl tl er (wrV Lo)) ++ [⟨(x : Int), (tl : Int), am⟩] by rw [List.range_succ, List.map_append, List.map_singleton, HRD.out], List.length_append, List.length_map, List.length_range]
                            exact ho3
                          have HSH2 : Hid (∀ i, i < k + 1 → (frd (truN s X) fl tl er (wrV Lo) i).shown ≤ shn) := fun i hi => by
                            rcases Nat.lt_or_ge i k with h | h
                            · exact HSH.out i h
                            · obtain rfl : i = k := by omega
                              rw [HRD.out]
                              show am ≤ shn
                              omega
                          clear ho3 hg3 hlt3 hq HO11 HN11 g0 g1 g2 HOY HSY HIY HCY HBY HSH HRD hsd hzB hll
                          go_wp2_with fail
                          go_roundw
                          case rel => exact ⟨k + 1, by omega, by go_num, HS12, HI12, HC12, HB12, HO12, HSH2⟩
                          case measure => simp [intOf]; omega
                    · have hW1 : (0 : Int) < (Lo.length : Int) := by omega
                      have hm := Nat.mod_lt k (Nat.pos_of_ne_zero hW0)
                      obtain ⟨ld, hLA, q2⟩ := hl.get hm
                      subst hLA
                      have q2 := keep_cell HS.out.sp.sn.1 q2
                      have hwe : Lo[k % Lo.length] = ws := by rw [← hws]; simp [wrV, List.getElem?_eq_getElem hm]
                      rw [hwe] at q2
                      have HWS := Lib.hid hws
                      clear hwe hws
                      obtain ⟨LL, hLL⟩ : ∃ LL, Lo.length = LL := ⟨_, rfl⟩
                      rw [hLL] at hW0 hW1 y5 hm q2
                      have HLL := Lib.hid hLL
                      clear hLL
                      obtain ⟨km, hkm⟩ : ∃ km, k % LL = km := ⟨_, rfl⟩
                      have e1 : (k : Int).tmod (LL : Int) = (km : Int) := by rw [Int.tmod_eq_emod_of_nonneg (by omega), ← Int.natCast_emod, hkm]
                      have e2 : IntKind.i64.wrap (km : Int) = (km : Int) := IntWalk.i64_in _ (by have := Nat.mod_le k LL; omega)
                      rw [hkm] at hm q2
                      have e3 : (km : Int) < (LL : Int) := by omega
                      have e4 : ¬ LL = 0 := hW0
                      have e5 : ((LL : Int) == 0) = false := by simp; omega
                      have e6 : IntKind.i64.wrap ws = ws := IntWalk.i64_in _ (by omega)
                      clear hkm
                      go_wp2_with fail
                      go_quiet (fail)
                      obtain ⟨_, _, _, _, _, _, _, _, c8⟩ := HS.out.sp.bk.space
                      rw [HTAE.out] at c8
                      have ee1 := keep_cell HS.out.sp.sn.1 HEE.out
                      have htli : (tl : Int) < (s.tools.length : Int) := by omega
                      go_wp2_with fail
                      have Q0 := Lib.hid q0
                      have Q1 := Lib.hid q1
                      have HWB := Lib.hid hwb
                      clear e1 e2 e3 e4 e5 e6 q2 hm
                      obtain ⟨am, ham⟩ : ∃ am, amongV (lv - er) (lv + er) ws = am := ⟨_, rfl⟩
                      have HAM := Lib.hid ham
                      have HRD := Lib.hid (HLD.out am ham)
                      have hzW : w.heap.size + 1 < wr.heap.size := HS.out.sp.sn.2 |> fun _ => HS.out.lt
                      clear q0 q1 c8 ee1 ham hwb
                      refine Vals9.region (Nb 27 28 wr 61 3 #[.int .i64 (x : Int), .int .i64 (tl : Int), .int .i64 am]) [some 197, some 198, some 199, some 200, some 201, some 202, some 203, some 204, some 205, some 206, some 207, some 208, some 209, some 210, some 211, some 212, some 213, some 214, some 215, some 216, some 217, some 218, some 219, some 220, some 221, some 222, some 223, some 21, none] [.is ?_, .is ?_, .is ?_, .is ?_, .is ?_, .is ?_, .is ?_, .is ?_, .is ?_, .is ?_, .is ?_, .is ?_, .is ?_, .is ?_, .is ?_, .is ?_, .is ?_, .is ?_, .is ?_, .is ?_, .is ?_, .is ?_, .is ?_, .is ?_, .is ?_, .is (.int .i64 am), .is ?_, .any, .any] (by kernel_rfl) (by kernel_rfl) (by kernel_rfl) (by kernel_rfl) (by kernel_rfl) (by kernel_rfl) (Nb.start ((sdN (Since.refl wr) _).drew)) ?hst2 ?hfi2
                      case hst2 =>
                        refine Vals9.Steps.run rfl ?_ ?_
                        · intro a W σ hJ pre K hK
                          have e11 := pre.2.2 11 _ (by kernel_rfl) rfl
                          clear pre
                          simp only [Array.getD_eq_getD_getElem?, List.getElem?_toArray, List.getElem?_cons_zero, List.getElem?_cons_succ, Option.getD_some] at e11
                          go_simp
                          exact hK _ hJ
                        refine Vals9.Steps.run rfl ?_ ?_
                        · intro a W σ hJ pre K hK
                          have e18 := pre.2.2 18 _ (by kernel_rfl) rfl
                          clear pre
                          simp only [Array.getD_eq_getD_getElem?, List.getElem?_toArray, List.getElem?_cons_zero, List.getElem?_cons_succ, Option.getD_some] at e18
                          go_simp
                          exact hK _ hJ
                        refine Vals9.Steps.run rfl ?_ ?_
                        · intro a W σ hJ pre K hK
                          have e197 := pre.1 0 197 _ (by kernel_rfl) rfl rfl
                          have e198 := pre.1 1 198 _ (by kernel_rfl) rfl rfl
                          clear pre
                          simp only [Array.getD_eq_getD_getElem?, List.getElem?_toArray, List.getElem?_cons_zero, List.getElem?_cons_succ, Option.getD_some] at e197 e198
                          go_simp
                          exact hK _ hJ
                        refine Vals9.Steps.run rfl ?_ ?_
                        · intro a W σ hJ pre K hK
                          have e199 := pre.1 2 199 _ (by kernel_rfl) rfl rfl
                          clear pre
                          simp only [Array.getD_eq_getD_getElem?, List.getElem?_toArray, List.getElem?_cons_zero, List.getElem?_cons_succ, Option.getD_some] at e199
                          have hS9 := hJ
                          have q0 := keep_cell hJ.sn.1 Q0.out
                          have q1 := keep_cell hJ.sn.1 Q1.out
                          go_simp
                          exact hK _ hJ
                        refine Vals9.Steps.run rfl ?_ ?_
                        · intro a W σ hJ pre K hK
                          have e7 := pre.2.2 7 _ (by kernel_rfl) rfl
                          clear pre
                          simp only [Array.getD_eq_getD_getElem?, List.getElem?_toArray, List.getElem?_cons_zero, List.getElem?_cons_succ, Option.getD_some] at e7
                          go_simp
                          exact hK _ hJ
                        refine Vals9.Steps.run rfl ?_ ?_
                        · intro a W σ hJ pre K hK
                          have e16 := pre.2.2 16 _ (by kernel_rfl) rfl
                          clear pre
                          simp only [Array.getD_eq_getD_getElem?, List.getElem?_toArray, List.getElem?_cons_zero, List.getElem?_cons_succ, Option.getD_some] at e16
                          go_simp
                          exact hK _ hJ
                        refine Vals9.Steps.run rfl ?_ ?_
                        · intro a W σ hJ pre K hK
                          have e11 := pre.2.2 11 _ (by kernel_rfl) rfl
                          clear pre
                          simp only [Array.getD_eq_getD_getElem?, List.getElem?_toArray, List.getElem?_cons_zero, List.getElem?_cons_succ, Option.getD_some] at e11
                          go_simp
                          exact hK _ hJ
                        refine Vals9.Steps.run rfl ?_ ?_
                        · intro a W σ hJ pre K hK
                          have e18 := pre.2.2 18 _ (by kernel_rfl) rfl
                          clear pre
                          simp only [Array.getD_eq_getD_getElem?, List.getElem?_toArray, List.getElem?_cons_zero, List.getElem?_cons_succ, Option.getD_some] at e18
                          go_simp
                          exact hK _ hJ
                        refine Vals9.Steps.run rfl ?_ ?_
                        · intro a W σ hJ pre K hK
                          have e203 := pre.1 6 203 _ (by kernel_rfl) rfl rfl
                          have e204 := pre.1 7 204 _ (by kernel_rfl) rfl rfl
                          clear pre
                          simp only [Array.getD_eq_getD_getElem?, List.getElem?_toArray, List.getElem?_cons_zero, List.getElem?_cons_succ, Option.getD_some] at e203 e204
                          go_simp
                          exact hK _ hJ
                        refine Vals9.Steps.run rfl ?_ ?_
                        · intro a W σ hJ pre K hK
                          have e205 := pre.1 8 205 _ (by kernel_rfl) rfl rfl
                          clear pre
                          simp only [Array.getD_eq_getD_getElem?, List.getElem?_toArray, List.getElem?_cons_zero, List.getElem?_cons_succ, Option.getD_some] at e205
                          have hS9 := hJ
                          have q0 := keep_cell hJ.sn.1 Q0.out
                          have q1 := keep_cell hJ.sn.1 Q1.out
                          go_simp
                          exact hK _ hJ
                        refine Vals9.Steps.run rfl ?_ ?_
                        · intro a W σ hJ pre K hK
                          have e202 := pre.1 5 202 _ (by kernel_rfl) rfl rfl
                          have e206 := pre.1 9 206 _ (by kernel_rfl) rfl rfl
                          clear pre
                          simp only [Array.getD_eq_getD_getElem?, List.getElem?_toArray, List.getElem?_cons_zero, List.getElem?_cons_succ, Option.getD_some] at e202 e206
                          go_simp
                          exact hK _ hJ
                        refine Vals9.Steps.run rfl ?_ ?_
                        · intro a W σ hJ pre K hK
                          have e207 := pre.1 10 207 _ (by kernel_rfl) rfl rfl
                          clear pre
                          simp only [Array.getD_eq_getD_getElem?, List.getElem?_toArray, List.getElem?_cons_zero, List.getElem?_cons_succ, Option.getD_some] at e207
                          have hS9 := hJ
                          have q0 := keep_cell hJ.sn.1 Q0.out
                          have q1 := keep_cell hJ.sn.1 Q1.out
                          go_simp
                          exact hK _ hJ
                        refine Vals9.Steps.run rfl ?_ ?_
                        · intro a W σ hJ pre K hK
                          have e20 := pre.2.2 20 _ (by kernel_rfl) rfl
                          clear pre
                          simp only [Array.getD_eq_getD_getElem?, List.getElem?_toArray, List.getElem?_cons_zero, List.getElem?_cons_succ, Option.getD_some] at e20
                          go_simp
                          exact hK _ hJ
                        refine Vals9.Steps.run rfl ?_ ?_
                        · intro a W σ hJ pre K hK
                          have e208 := pre.1 11 208 _ (by kernel_rfl) rfl rfl
                          have e209 := pre.1 12 209 _ (by kernel_rfl) rfl rfl
                          clear pre
                          simp only [Array.getD_eq_getD_getElem?, List.getElem?_toArray, List.getElem?_cons_zero, List.getElem?_cons_succ, Option.getD_some] at e208 e209
                          have hw9 : IntKind.i64.wrap (lv - er) = lv - er := IntWalk.i64_in _ (by omega)
                          go_simp
                          exact hK _ hJ
                        refine Vals9.Steps.run rfl ?_ ?_
                        · intro a W σ hJ pre K hK
                          have e16 := pre.2.2 16 _ (by kernel_rfl) rfl
                          clear pre
                          simp only [Array.getD_eq_getD_getElem?, List.getElem?_toArray, List.getElem?_cons_zero, List.getElem?_cons_succ, Option.getD_some] at e16
                          go_simp
                          exact hK _ hJ
                        refine Vals9.Steps.run rfl ?_ ?_
                        · intro a W σ hJ pre K hK
                          have e11 := pre.2.2 11 _ (by kernel_rfl) rfl
                          clear pre
                          simp only [Array.getD_eq_getD_getElem?, List.getElem?_toArray, List.getElem?_cons_zero, List.getElem?_cons_succ, Option.getD_some] at e11
                          go_simp
                          exact hK _ hJ
                        refine Vals9.Steps.run rfl ?_ ?_
                        · intro a W σ hJ pre K hK
                          have e18 := pre.2.2 18 _ (by kernel_rfl) rfl
                          clear pre
                          simp only [Array.getD_eq_getD_getElem?, List.getElem?_toArray, List.getElem?_cons_zero, List.getElem?_cons_succ, Option.getD_some] at e18
                          go_simp
                          exact hK _ hJ
                        refine Vals9.Steps.run rfl ?_ ?_
                        · intro a W σ hJ pre K hK
                          have e212 := pre.1 15 212 _ (by kernel_rfl) rfl rfl
                          have e213 := pre.1 16 213 _ (by kernel_rfl) rfl rfl
                          clear pre
                          simp only [Array.getD_eq_getD_getElem?, List.getElem?_toArray, List.getElem?_cons_zero, List.getElem?_cons_succ, Option.getD_some] at e212 e213
                          go_simp
                          exact hK _ hJ
                        refine Vals9.Steps.run rfl ?_ ?_
                        · intro a W σ hJ pre K hK
                          have e214 := pre.1 17 214 _ (by kernel_rfl) rfl rfl
                          clear pre
                          simp only [Array.getD_eq_getD_getElem?, List.getElem?_toArray, List.getElem?_cons_zero, List.getElem?_cons_succ, Option.getD_some] at e214
                          have hS9 := hJ
                          have q0 := keep_cell hJ.sn.1 Q0.out
                          have q1 := keep_cell hJ.sn.1 Q1.out
                          go_simp
                          exact hK _ hJ
                        refine Vals9.Steps.run rfl ?_ ?_
                        · intro a W σ hJ pre K hK
                          have e211 := pre.1 14 211 _ (by kernel_rfl) rfl rfl
                          have e215 := pre.1 18 215 _ (by kernel_rfl) rfl rfl
                          clear pre
                          simp only [Array.getD_eq_getD_getElem?, List.getElem?_toArray, List.getElem?_cons_zero, List.getElem?_cons_succ, Option.getD_some] at e211 e215
                          go_simp
                          exact hK _ hJ
                        refine Vals9.Steps.run rfl ?_ ?_
                        · intro a W σ hJ pre K hK
                          have e216 := pre.1 19 216 _ (by kernel_rfl) rfl rfl
                          clear pre
                          simp only [Array.getD_eq_getD_getElem?, List.getElem?_toArray, List.getElem?_cons_zero, List.getElem?_cons_succ, Option.getD_some] at e216
                          have hS9 := hJ
                          have q0 := keep_cell hJ.sn.1 Q0.out
                          have q1 := keep_cell hJ.sn.1 Q1.out
                          go_simp
                          exact hK _ hJ
                        refine Vals9.Steps.run rfl ?_ ?_
                        · intro a W σ hJ pre K hK
                          have e20 := pre.2.2 20 _ (by kernel_rfl) rfl
                          clear pre
                          simp only [Array.getD_eq_getD_getElem?, List.getElem?_toArray, List.getElem?_cons_zero, List.getElem?_cons_succ, Option.getD_some] at e20
                          go_simp
                          exact hK _ hJ
                        refine Vals9.Steps.run rfl ?_ ?_
                        · intro a W σ hJ pre K hK
                          have e217 := pre.1 20 217 _ (by kernel_rfl) rfl rfl
                          have e218 := pre.1 21 218 _ (by kernel_rfl) rfl rfl
                          clear pre
                          simp only [Array.getD_eq_getD_getElem?, List.getElem?_toArray, List.getElem?_cons_zero, List.getElem?_cons_succ, Option.getD_some] at e217 e218
                          have hw9 : IntKind.i64.wrap (lv + er) = lv + er := IntWalk.i64_in _ (by omega)
                          go_simp
                          exact hK _ hJ
                        refine Vals9.Steps.run rfl ?_ ?_
                        · intro a W σ hJ pre K hK
                          have e210 := pre.1 13 210 _ (by kernel_rfl) rfl rfl
                          have e219 := pre.1 22 219 _ (by kernel_rfl) rfl rfl
                          clear pre
                          simp only [Array.getD_eq_getD_getElem?, List.getElem?_toArray, List.getElem?_cons_zero, List.getElem?_cons_succ, Option.getD_some] at e210 e219
                          go_simp
                          refine (span_c (lv - er) (lv + er) _).mono ?_
                          rintro e w' ⟨rfl, hb'⟩
                          exact hK _ (hJ.keep hb')
                        refine Vals9.Steps.run rfl ?_ ?_
                        · intro a W σ hJ pre K hK
                          have e19 := pre.2.2 19 _ (by kernel_rfl) rfl
                          clear pre
                          simp only [Array.getD_eq_getD_getElem?, List.getElem?_toArray, List.getElem?_cons_zero, List.getElem?_cons_succ, Option.getD_some] at e19
                          go_simp
                          exact hK _ hJ
                        refine Vals9.Steps.run rfl ?_ ?_
                        · intro a W σ hJ pre K hK
                          have e220 := pre.1 23 220 _ (by kernel_rfl) rfl rfl
                          have e221 := pre.1 24 221 _ (by kernel_rfl) rfl rfl
                          clear pre
                          simp only [Array.getD_eq_getD_getElem?, List.getElem?_toArray, List.getElem?_cons_zero, List.getElem?_cons_succ, Option.getD_some] at e220 e221
                          go_simp
                          have hwb := HWB.out
                          refine (among_c (lv - er) (lv + er) (ws) _ (by omega) (by omega) (by omega) (by omega) (by omega)).mono ?_
                          rintro e w' ⟨rfl, hb'⟩
                          rw [HAM.out]
                          exact hK _ (hJ.keep hb')
                        refine Vals9.Steps.run rfl ?_ ?_
                        · intro a W σ hJ pre K hK
                          have e200 := pre.1 3 200 _ (by kernel_rfl) rfl rfl
                          have e201 := pre.1 4 201 _ (by kernel_rfl) rfl rfl
                          have e222 := pre.1 25 222 _ (by kernel_rfl) rfl rfl
                          clear pre
                          simp only [Array.getD_eq_getD_getElem?, List.getElem?_toArray, List.getElem?_cons_zero, List.getElem?_cons_succ, Option.getD_some] at e200 e201 e222
                          go_simp
                          exact hK _ hJ
                        refine Vals9.Steps.mark rfl ?_ ?_
                        · intro a W σ hJ hn pre K hK
                          go_simp
                          exact hK _ _ (hJ.new hn)
                        refine Vals9.Steps.mark rfl ?_ ?_
                        · intro a W σ hJ hn pre K hK
                          obtain ⟨v21, s21, e21⟩ := pre.2.1 27 (by kernel_rfl) rfl
                          replace e21 : a.tmps.getD 21 undef = v21 := e21 21 rfl
                          have e223 := pre.1 26 223 _ (by kernel_rfl) rfl rfl
                          simp only [Array.getD_eq_getD_getElem?, List.getElem?_toArray, List.getElem?_cons_zero, List.getElem?_cons_succ, Option.getD_some] at e21 e223
                          obtain ⟨g, cs, h1, h2, h3, h4, _⟩ := hJ.a _ s21
                          subst h1
                          refine wp_store_row 61 _ _ rfl g #[.int .i64 (x : Int), .int .i64 (tl : Int), .int .i64 am] (by go_simp) (by go_simp) 61 cs h4 (by kernel_rfl) h3 (by simp [Value.oneCell']) ?_
                          exact hK _ _ (hJ.store s21 rfl)
                        exact Vals9.Steps.nil
                      case hfi2 =>
                        intro Y σ hJ
                        simp only [Vals9.All]
                        intro v21 h21 v25 h25
                        simp only [Vals.putAll, List.setIfInBounds_toArray, List.set_cons_zero, List.set_cons_succ]
                        obtain ⟨g, cs, rfl, hgB, _, hg, hcs⟩ := hJ.a _ h21
                        obtain rfl := hcs _ h25
                        have HSY := Lib.hid (HS.out.keep hJ.sn.1)
                        have HIY := Lib.hid (HI.out.keep hJ.sn.1)
                        have HCY : Hid (∀ i, i < 61 → Y.cell? (ta.add i) = some (.int .i64 (truN s X i))) := fun i hi => keep_cell hJ.sn.1 (HCL.out i hi)
                        have HBY : Hid (B2 ≤ Y.heap.size) := Nat.le_trans HB.out hJ.sn.2
                        have HOY := Lib.hid (own_keep HO.out hJ.sn.1)
                        have g0 := hg.cell 0
                        have g1 := hg.cell 1
                        have g2 := hg.cell 2
                        simp only [List.getElem?_toArray, List.getElem?_cons_zero, List.getElem?_cons_succ] at g0 g1 g2
                        clear hJ h21 h25 hg HS HI HCL HB HO
                        by_cases hsl : shn < am
                        · have hsd : decide (shn < am) = true := decide_eq_true hsl
                          go_wp2_with fail
                          refine (awake_c _).mono ?_
                          rintro e w9 ⟨rfl, hb9⟩
                          go_wp2_with fail
                          go_ret
                          exact ⟨rfl, (HSY.out.keep hb9).sp.sn.1⟩
                        · have hsd : decide (shn < am) = false := decide_eq_false hsl
                          have hq : Below Y.heap.size Y (Y.alloc (.cells (rV ⟨(x : Int), (tl : Int), am⟩) 61)) := (Below.refl _ _).alloc (Nat.le_refl _) _
                          have HO11 := Lib.hid (own_keep HOY.out hq)
                          have HN11 := Lib.hid (Blk.new Y 61 (rV ⟨(x : Int), (tl : Int), am⟩))
                          have hzB : B2 ≤ (Y.alloc (.cells (rV ⟨(x : Int), (tl : Int), am⟩) 61)).heap.size := by have := HBY.out; simp; omega
                          have hll : ((List.range k).map (frd (truN s X) fl tl er (wrV Lo))).length ≤ 1000 := by simp; omega
                          go_wp2_with (at_builtin; refine wpList_append_read rfl (.tmp 229) (.tmp 231) rfl B2 Y.heap.size _ ((List.range k).map (frd (truN s X) fl tl er (wrV Lo))) ⟨(x : Int), (tl : Int), am⟩ (by go_simp) (by go_simp) HO11.out HN11.out hll hzB ?_)
                          intro v3 w3 ho3 hg3 _
                          have hlt3 := HO11.out.lt
                          have HS12 : Hid (Sp2 w s m 74 (rrV a sh f t OA Ot oc (some ld) Lo lc P X pc) w3) := (HSY.out.keep hq).grown hg3 (fun q h => by have := (hlt3 q h).1; omega)
                          have HI12 : Hid (InAt w3 (some ad) fl) := (HIY.out.keep hq).grown hg3 (fun q h hne a ha => by have := (hlt3 q h).1; have := HAB2.out hne a ha; omega)
                          have HB12 : Hid (B2 ≤ w3.heap.size) := Nat.le_trans hzB hg3.size
                          have HC12 : Hid (∀ i, i < 61 → w3.cell? (ta.add i) = some (.int .i64 (truN s X i))) := fun i hi => grown_cell (keep_cell hq (HCY.out i hi)) hg3 (fun q h e => HTB.out (by have := (hlt3 q h).1; rw [add_block] at e; rw [← e]; exact this))
                          have HO12 : Hid (w3.ownsRow B2 61 3 v3 ((List.range (k + 1)).map (frd (truN s X) fl tl er (wrV Lo))).length (rowsC ((List.range (k + 1)).map (frd (truN s X) fl tl er (wrV Lo))))) := by
                            show World.ownsRow _ _ _ _ _ _ _
                            rw [show (List.range (k + 1)).map (frd (truN s X) fl tl er (wrV Lo)) = (List.range k).map (frd (truN s X) fl tl er (wrV Lo)) ++ [⟨(x : Int), (tl : Int), am⟩] by rw [List.range_succ, List.map_append, List.map_singleton, HRD.out], List.length_append, List.length_map, List.length_range]
                            exact ho3
                          have HSH2 : Hid (∀ i, i < k + 1 → (frd (truN s X) fl tl er (wrV Lo) i).shown ≤ shn) := fun i hi => by
                            rcases Nat.lt_or_ge i k with h | h
                            · exact HSH.out i h
                            · obtain rfl : i = k := by omega
                              rw [HRD.out]
                              show am ≤ shn
                              omega
                          clear ho3 hg3 hlt3 hq HO11 HN11 g0 g1 g2 HOY HSY HIY HCY HBY HSH HRD hsd hzB hll
                          go_wp2_with fail
                          go_roundw
                          case rel => exact ⟨k + 1, by omega, by go_num, HS12, HI12, HC12, HB12, HO12, HSH2⟩
                          case measure => simp [intOf]; omega
                  · have hki : ¬ (k : Int) < (fl.length : Int) := by omega
                    obtain rfl : k = fl.length := by omega
                    by_cases h12 : fl.length ≤ 12
                    · have hUT := fun t h1 h2 => few_until (X := X) HH0.out htl2 (shn := shn) (less := wrV Lo) htn2 HBD.out HCO.out (by rw [HER.out]; exact HSH.out) h12 t h1 h2
                      rw [HER.out] at hUT
                      obtain ⟨R, hR⟩ : ∃ R, (List.range fl.length).map (frd (truN s X) fl tl er (wrV Lo)) = R := ⟨_, rfl⟩
                      have hRl : R.length = fl.length := by rw [← hR]; simp
                      simp only [hR] at hUT HO
                      obtain ⟨RA, rc, hrv, hrd, hrc1, hrc2⟩ := own_rd2 HO.out
                      subst hrv
                      have HRD := Lib.hid hrd
                      have HUT := Lib.hid hUT
                      obtain ⟨rn, hrn⟩ : ∃ rn, R.length = rn := ⟨_, rfl⟩
                      have HRN := Lib.hid hrn
                      have h12b : ¬ (12 : Int) < (rn : Int) := by omega
                      rw [hrn]
                      obtain ⟨W3, rfl⟩ : ∃ W3, W3 = wr := ⟨_, rfl⟩
                      clear hR hUT hrd HO HSH hki hk hrn hRl
                      go_wp2_with fail
                      go_loopw [22, 23, 24] (fun tv _ _ wr => ∃ t : Nat, fr ≤ t ∧ t ≤ tn + 1 ∧ tv = .int .i64 t ∧ Hid (Since W3 wr)) (fun tv _ _ _ => tn + 1 - (intOf tv).toNat)
                      case atStart => exact ⟨fr, Nat.le_refl _, by have := HTD.out; omega, rfl, Since.refl _⟩
                      case round =>
                        obtain ⟨t, ht1, ht2, rfl, HX⟩ := hrel
                        have HSx := Lib.hid (HS.out.keep HX.out.1)
                        obtain ⟨c0, c1, c2, c3, c4, c5, c6, c7, c8⟩ := HSx.out.sp.bk.space
                        by_cases htt : t ≤ tn
                        · obtain ⟨u, hu1, hu2, hu3⟩ := HUT.out t ht1 htt
                          have htti : (t : Int) ≤ (tn : Int) := by omega
                          have ht61 : (t : Int) < 61 := by omega
                          have hUn := until2_c s m RA R rc (t : Int) wr (hsa.keep HSx.out.sp.sn.1) hrc1 hrc2 (HRD.out.keep HX.out.1)
                          rw [hu1] at hUn
                          dsimp only at hUn
                          rw [HRN.out] at hUn
                          have q0 := keep_cell HX.out.1 (HCL.out t (by omega))
                          obtain ⟨lt, hlt2⟩ : ∃ lt, truN s X t = lt := ⟨_, rfl⟩
                          rw [hlt2] at q0 hu3
                          have g1 : decide (u < t) = false := decide_eq_false (by omega)
                          have g2 : decide ((u : Int) < (t : Int)) = false := decide_eq_false (by omega)
                          have g3 : decide (s.lim < lt) = false := decide_eq_false (by omega)
                          have HU2 := Lib.hid hu2
                          clear hlt2 hu1 hu2 hu3
                          go_wp2_with fail
                          refine hUn.mono ?_
                          rintro e w8 ⟨rfl, hb8⟩
                          have q0 := keep_cell hb8 q0
                          have HS8 := Lib.hid (HSx.out.keep hb8)
                          have HX8 : Hid (Since W3 w8) := HX.out.keep hb8
                          clear c0 c1 c2 c3 c4 c5 c6 c7 c8 HSx hb8 hUn
                          obtain ⟨c0, c1, c2, c3, c4, c5, c6, c7, c8⟩ := HS8.out.sp.bk.space
                          go_wp2_with fail
                          go_quiet (fail)
                          go_wp2_with fail
                          go_roundw
                          case rel => exact ⟨t + 1, by omega, by omega, by go_num, sdN HX8.out _⟩
                          case measure => simp [intOf]; omega
                        · have htti : ¬ (t : Int) ≤ (tn : Int) := by omega
                          go_wp2_with fail
                          refine (awake_c _).mono ?_
                          rintro e w9 ⟨rfl, hb9⟩
                          go_wp2_with fail
                          go_ret
                          exact ⟨rfl, (HSx.out.keep hb9).sp.sn.1⟩
                    · have hfn : ((List.range fl.length).map (frd (truN s X) fl tl er (wrV Lo))).length = fl.length := by simp
                      obtain ⟨RA, rc, hrv, -, -, -⟩ := own_rd2 HO.out
                      rw [hfn] at hrv
                      subst hrv
                      have h12b : (12 : Int) < (fl.length : Int) := by omega
                      clear HO hfn
                      go_wp2_with fail
                      refine (awake_c _).mono ?_
                      rintro e w9 ⟨rfl, hb9⟩
                      go_wp2_with fail
                      go_ret
                      exact ⟨rfl, (HS.out.keep hb9).sp.sn.1⟩
              · have hll3 : ¬ (L.length : Int) < (fl.length : Int) := by omega
                have hS6 := hSx
                have hI6 := hIx
                clear hSx hIx hIOx HMN2 HCV HMEM hll2
                go_wp2_with fail
                refine (truth_c s m P X pc _ HS_.out (hsa.keep hS6.sp.sn.1) (hu.keep hS6.sp.sn.1) huk).mono ?_
                rintro e w7 ⟨⟨vt, rfl, TA, tc, rfl, hT7⟩, hb7⟩
                have HS7 := Lib.hid (hS6.keep hb7)
                have hI7 := Lib.hid (hI6.keep hb7)
                rw [show (truL s X 61).length = 61 by simp [truL]]
                obtain ⟨ta, hta, hcl⟩ := hT7 (by simp [truL])
                subst hta
                have HCL : Hid (∀ i, i < 61 → w7.cell? (ta.add i) = some (.int .i64 (truN s X i))) := fun i hi => hcl i (truN s X i) (by simp [truL, hi])
                have HTB0 : Hid (ta.block < w7.heap.size) := cell_lt (HCL.out 0 (by omega))
                have HAB2 := Lib.hid (InAt.lt hI7.out)
                obtain ⟨B2, hB2⟩ : ∃ B2, w7.heap.size = B2 := ⟨_, rfl⟩
                have HB2 : Hid (B2 ≤ w7.heap.size) := Nat.le_of_eq hB2.symm
                have hg2 : w.heap.size + 1 < B2 := by rw [← hB2]; exact HS7.out.lt
                have hRO0 : Hid (w7.ownsRow B2 61 3 (.slice none 0 0) ([] : List Rd).length (rowsC ([] : List Rd))) := ⟨rfl, .inl ⟨rfl, rfl⟩⟩
                rw [hB2] at HAB2
                have HTB : Hid (¬ B2 ≤ ta.block) := by show ¬ _; rw [← hB2]; have := HTB0.out; omega
                clear HTB0
                clear c0 c1 c2 c3 c4 c5 c6 c7 c8 y6 hS6 hI6 hb7 hcl hT7 hB2
                have htools := hsa.tl.get htl2
                obtain ⟨ae, hTae, _, ee1⟩ := htools
                have HTAE := Lib.hid hTae
                have heb := HS_.out.er _ (List.getElem_mem htl2)
                obtain ⟨er, her⟩ : ∃ er, s.tools[tl].err = er := ⟨_, rfl⟩
                rw [her] at heb ee1
                have HER := Lib.hid her
                have HEE := Lib.hid ee1
                clear hTae ee1 her
                go_wp2_with fail
                go_loopw [17, 18, 19, 20, 21] (fun rv i _ _ _ wr => ∃ k : Nat, k ≤ fl.length ∧ i = .int .i64 k ∧ Hid (Sp2 w s m 74 (rrV a sh f t OA Ot oc LA Lo lc P X pc) wr) ∧ Hid (InAt wr A1 fl) ∧ Hid (∀ i, i < 61 → wr.cell? (ta.add i) = some (.int .i64 (truN s X i))) ∧ Hid (B2 ≤ wr.heap.size) ∧ Hid (wr.ownsRow B2 61 3 rv ((List.range k).map (frd (truN s X) fl tl er (wrV Lo))).length (rowsC ((List.range k).map (frd (truN s X) fl tl er (wrV Lo))))) ∧ Hid (∀ i, i < k → (frd (truN s X) fl tl er (wrV Lo) i).shown ≤ shn)) (fun _ i _ _ _ _ => fl.length - (intOf i).toNat)
                case atStart => exact ⟨0, Nat.zero_le _, rfl, HS7, hI7, HCL, HB2, hRO0, fun i h => absurd h (Nat.not_lt_zero _)⟩
                case round =>
                  clear HS7 hI7 HCL HB2 hRO0
                  obtain ⟨k, hk, rfl, HS, HI, HCL, HB, HO, HSH⟩ := hrel
                  by_cases hkl : k < fl.length
                  · obtain ⟨ad, hA, q0⟩ := HI.out.get hkl
                    have hki : (k : Int) < (fl.length : Int) := by omega
                    have hb1 := HBD.out _ (List.getElem_mem hkl)
                    subst hA
                    obtain ⟨x, hx⟩ : ∃ x : Nat, fl[k] = (x : Int) := ⟨fl[k].toNat, by omega⟩
                    rw [hx] at q0 hb1
                    have hx61 : x < 61 := by omega
                    have hxi : (x : Int) < 61 := by omega
                    have q1 := HCL.out x hx61
                    have hTx := truN_in HS_.out X x
                    obtain ⟨lv, hlv⟩ : ∃ lv, truN s X x = lv := ⟨_, rfl⟩
                    rw [hlv] at q1 hTx
                    have HLD : Hid (∀ am, amongV (lv - er) (lv + er) (wrV Lo k) = am → frd (truN s X) fl tl er (wrV Lo) k = ⟨(x : Int), (tl : Int), am⟩) := fun am ham => by
                      simp only [frd, List.getElem?_eq_getElem hkl, Option.getD_some, hx, Int.toNat_natCast, hlv, ham]
                    obtain ⟨ws, hws⟩ : ∃ ws, wrV Lo k = ws := ⟨_, rfl⟩
                    have hwb := wrV_bd hlk k
                    rw [hws] at HLD hwb
                    have y5 := HS.out.bx.cell 5
                    simp only [rrV, List.getElem?_toArray, List.getElem?_cons_zero, List.getElem?_cons_succ] at y5
                    clear hx hlv
                    by_cases hW0 : Lo.length = 0
                    · have hLo := List.eq_nil_of_length_eq_zero hW0
                      have hws0 : ws = 0 := by rw [← hws, hLo]; rfl
                      subst hws0
                      have HWS := Lib.hid hws
                      have hW1 : ¬ (0 : Int) < (Lo.length : Int) := by omega
                      have hW2 := Lib.hid hLo
                      clear hws hLo
                      obtain ⟨LL, hLL⟩ : ∃ LL, Lo.length = LL := ⟨_, rfl⟩
                      rw [hLL] at hW0 hW1 y5
                      have HLL := Lib.hid hLL
                      clear hLL
                      obtain ⟨_, _, _, _, _, _, _, _, c8⟩ := HS.out.sp.bk.space
                      rw [HTAE.out] at c8
                      have ee1 := keep_cell HS.out.sp.sn.1 HEE.out
                      have htli : (tl : Int) < (s.tools.length : Int) := by omega
                      go_wp2_with fail
                      have Q0 := Lib.hid q0
                      have Q1 := Lib.hid q1
                      have HWB := Lib.hid hwb
                      obtain ⟨am, ham⟩ : ∃ am, amongV (lv - er) (lv + er) 0 = am := ⟨_, rfl⟩
                      have HAM := Lib.hid ham
                      have HRD := Lib.hid (HLD.out am ham)
                      have hzW : w.heap.size + 1 < wr.heap.size := HS.out.sp.sn.2 |> fun _ => HS.out.lt
                      clear q0 q1 c8 ee1 ham hwb
                      refine Vals9.region (Nb 27 28 wr 61 3 #[.int .i64 (x : Int), .int .i64 (tl : Int), .int .i64 am]) [some 197, some 198, some 199, some 200, some 201, some 202, some 203, some 204, some 205, some 206, some 207, some 208, some 209, some 210, some 211, some 212, some 213, some 214, some 215, some 216, some 217, some 218, some 219, some 220, some 221, some 222, some 223, some 21, none] [.is ?_, .is ?_, .is ?_, .is ?_, .is ?_, .is ?_, .is ?_, .is ?_, .is ?_, .is ?_, .is ?_, .is ?_, .is ?_, .is ?_, .is ?_, .is ?_, .is ?_, .is ?_, .is ?_, .is ?_, .is ?_, .is ?_, .is ?_, .is ?_, .is ?_, .is (.int .i64 am), .is ?_, .any, .any] (by kernel_rfl) (by kernel_rfl) (by kernel_rfl) (by kernel_rfl) (by kernel_rfl) (by kernel_rfl) (Nb.start ((Since.refl wr).drew)) ?hst3 ?hfi3
                      case hst3 =>
                        refine Vals9.Steps.run rfl ?_ ?_
                        · intro a W σ hJ pre K hK
                          have e11 := pre.2.2 11 _ (by kernel_rfl) rfl
                          clear pre
                          simp only [Array.getD_eq_getD_getElem?, List.getElem?_toArray, List.getElem?_cons_zero, List.getElem?_cons_succ, Option.getD_some] at e11
                          go_simp
                          exact hK _ hJ
                        refine Vals9.Steps.run rfl ?_ ?_
                        · intro a W σ hJ pre K hK
                          have e18 := pre.2.2 18 _ (by kernel_rfl) rfl
                          clear pre
                          simp only [Array.getD_eq_getD_getElem?, List.getElem?_toArray, List.getElem?_cons_zero, List.getElem?_cons_succ, Option.getD_some] at e18
                          go_simp
                          exact hK _ hJ
                        refine Vals9.Steps.run rfl ?_ ?_
                        · intro a W σ hJ pre K hK
                          have e197 := pre.1 0 197 _ (by kernel_rfl) rfl rfl
                          have e198 := pre.1 1 198 _ (by kernel_rfl) rfl rfl
                          clear pre
                          simp only [Array.getD_eq_getD_getElem?, List.getElem?_toArray, List.getElem?_cons_zero, List.getElem?_cons_succ, Option.getD_some] at e197 e198
                          go_simp
                          exact hK _ hJ
                        refine Vals9.Steps.run rfl ?_ ?_
                        · intro a W σ hJ pre K hK
                          have e199 := pre.1 2 199 _ (by kernel_rfl) rfl rfl
                          clear pre
                          simp only [Array.getD_eq_getD_getElem?, List.getElem?_toArray, List.getElem?_cons_zero, List.getElem?_cons_succ, Option.getD_some] at e199
                          have hS9 := hJ
                          have q0 := keep_cell hJ.sn.1 Q0.out
                          have q1 := keep_cell hJ.sn.1 Q1.out
                          go_simp
                          exact hK _ hJ
                        refine Vals9.Steps.run rfl ?_ ?_
                        · intro a W σ hJ pre K hK
                          have e7 := pre.2.2 7 _ (by kernel_rfl) rfl
                          clear pre
                          simp only [Array.getD_eq_getD_getElem?, List.getElem?_toArray, List.getElem?_cons_zero, List.getElem?_cons_succ, Option.getD_some] at e7
                          go_simp
                          exact hK _ hJ
                        refine Vals9.Steps.run rfl ?_ ?_
                        · intro a W σ hJ pre K hK
                          have e16 := pre.2.2 16 _ (by kernel_rfl) rfl
                          clear pre
                          simp only [Array.getD_eq_getD_getElem?, List.getElem?_toArray, List.getElem?_cons_zero, List.getElem?_cons_succ, Option.getD_some] at e16
                          go_simp
                          exact hK _ hJ
                        refine Vals9.Steps.run rfl ?_ ?_
                        · intro a W σ hJ pre K hK
                          have e11 := pre.2.2 11 _ (by kernel_rfl) rfl
                          clear pre
                          simp only [Array.getD_eq_getD_getElem?, List.getElem?_toArray, List.getElem?_cons_zero, List.getElem?_cons_succ, Option.getD_some] at e11
                          go_simp
                          exact hK _ hJ
                        refine Vals9.Steps.run rfl ?_ ?_
                        · intro a W σ hJ pre K hK
                          have e18 := pre.2.2 18 _ (by kernel_rfl) rfl
                          clear pre
                          simp only [Array.getD_eq_getD_getElem?, List.getElem?_toArray, List.getElem?_cons_zero, List.getElem?_cons_succ, Option.getD_some] at e18
                          go_simp
                          exact hK _ hJ
                        refine Vals9.Steps.run rfl ?_ ?_
                        · intro a W σ hJ pre K hK
                          have e203 := pre.1 6 203 _ (by kernel_rfl) rfl rfl
                          have e204 := pre.1 7 204 _ (by kernel_rfl) rfl rfl
                          clear pre
                          simp only [Array.getD_eq_getD_getElem?, List.getElem?_toArray, List.getElem?_cons_zero, List.getElem?_cons_succ, Option.getD_some] at e203 e204
                          go_simp
                          exact hK _ hJ
                        refine Vals9.Steps.run rfl ?_ ?_
                        · intro a W σ hJ pre K hK
                          have e205 := pre.1 8 205 _ (by kernel_rfl) rfl rfl
                          clear pre
                          simp only [Array.getD_eq_getD_getElem?, List.getElem?_toArray, List.getElem?_cons_zero, List.getElem?_cons_succ, Option.getD_some] at e205
                          have hS9 := hJ
                          have q0 := keep_cell hJ.sn.1 Q0.out
                          have q1 := keep_cell hJ.sn.1 Q1.out
                          go_simp
                          exact hK _ hJ
                        refine Vals9.Steps.run rfl ?_ ?_
                        · intro a W σ hJ pre K hK
                          have e202 := pre.1 5 202 _ (by kernel_rfl) rfl rfl
                          have e206 := pre.1 9 206 _ (by kernel_rfl) rfl rfl
                          clear pre
                          simp only [Array.getD_eq_getD_getElem?, List.getElem?_toArray, List.getElem?_cons_zero, List.getElem?_cons_succ, Option.getD_some] at e202 e206
                          go_simp
                          exact hK _ hJ
                        refine Vals9.Steps.run rfl ?_ ?_
                        · intro a W σ hJ pre K hK
                          have e207 := pre.1 10 207 _ (by kernel_rfl) rfl rfl
                          clear pre
                          simp only [Array.getD_eq_getD_getElem?, List.getElem?_toArray, List.getElem?_cons_zero, List.getElem?_cons_succ, Option.getD_some] at e207
                          have hS9 := hJ
                          have q0 := keep_cell hJ.sn.1 Q0.out
                          have q1 := keep_cell hJ.sn.1 Q1.out
                          go_simp
                          exact hK _ hJ
                        refine Vals9.Steps.run rfl ?_ ?_
                        · intro a W σ hJ pre K hK
                          have e20 := pre.2.2 20 _ (by kernel_rfl) rfl
                          clear pre
                          simp only [Array.getD_eq_getD_getElem?, List.getElem?_toArray, List.getElem?_cons_zero, List.getElem?_cons_succ, Option.getD_some] at e20
                          go_simp
                          exact hK _ hJ
                        refine Vals9.Steps.run rfl ?_ ?_
                        · intro a W σ hJ pre K hK
                          have e208 := pre.1 11 208 _ (by kernel_rfl) rfl rfl
                          have e209 := pre.1 12 209 _ (by kernel_rfl) rfl rfl
                          clear pre
                          simp only [Array.getD_eq_getD_getElem?, List.getElem?_toArray, List.getElem?_cons_zero, List.getElem?_cons_succ, Option.getD_some] at e208 e209
                          have hw9 : IntKind.i64.wrap (lv - er) = lv - er := IntWalk.i64_in _ (by omega)
                          go_simp
                          exact hK _ hJ
                        refine Vals9.Steps.run rfl ?_ ?_
                        · intro a W σ hJ pre K hK
                          have e16 := pre.2.2 16 _ (by kernel_rfl) rfl
                          clear pre
                          simp only [Array.getD_eq_getD_getElem?, List.getElem?_toArray, List.getElem?_cons_zero, List.getElem?_cons_succ, Option.getD_some] at e16
                          go_simp
                          exact hK _ hJ
                        refine Vals9.Steps.run rfl ?_ ?_
                        · intro a W σ hJ pre K hK
                          have e11 := pre.2.2 11 _ (by kernel_rfl) rfl
                          clear pre
                          simp only [Array.getD_eq_getD_getElem?, List.getElem?_toArray, List.getElem?_cons_zero, List.getElem?_cons_succ, Option.getD_some] at e11
                          go_simp
                          exact hK _ hJ
                        refine Vals9.Steps.run rfl ?_ ?_
                        · intro a W σ hJ pre K hK
                          have e18 := pre.2.2 18 _ (by kernel_rfl) rfl
                          clear pre
                          simp only [Array.getD_eq_getD_getElem?, List.getElem?_toArray, List.getElem?_cons_zero, List.getElem?_cons_succ, Option.getD_some] at e18
                          go_simp
                          exact hK _ hJ
                        refine Vals9.Steps.run rfl ?_ ?_
                        · intro a W σ hJ pre K hK
                          have e212 := pre.1 15 212 _ (by kernel_rfl) rfl rfl
                          have e213 := pre.1 16 213 _ (by kernel_rfl) rfl rfl
                          clear pre
                          simp only [Array.getD_eq_getD_getElem?, List.getElem?_toArray, List.getElem?_cons_zero, List.getElem?_cons_succ, Option.getD_some] at e212 e213
                          go_simp
                          exact hK _ hJ
                        refine Vals9.Steps.run rfl ?_ ?_
                        · intro a W σ hJ pre K hK
                          have e214 := pre.1 17 214 _ (by kernel_rfl) rfl rfl
                          clear pre
                          simp only [Array.getD_eq_getD_getElem?, List.getElem?_toArray, List.getElem?_cons_zero, List.getElem?_cons_succ, Option.getD_some] at e214
                          have hS9 := hJ
                          have q0 := keep_cell hJ.sn.1 Q0.out
                          have q1 := keep_cell hJ.sn.1 Q1.out
                          go_simp
                          exact hK _ hJ
                        refine Vals9.Steps.run rfl ?_ ?_
                        · intro a W σ hJ pre K hK
                          have e211 := pre.1 14 211 _ (by kernel_rfl) rfl rfl
                          have e215 := pre.1 18 215 _ (by kernel_rfl) rfl rfl
                          clear pre
                          simp only [Array.getD_eq_getD_getElem?, List.getElem?_toArray, List.getElem?_cons_zero, List.getElem?_cons_succ, Option.getD_some] at e211 e215
                          go_simp
                          exact hK _ hJ
                        refine Vals9.Steps.run rfl ?_ ?_
                        · intro a W σ hJ pre K hK
                          have e216 := pre.1 19 216 _ (by kernel_rfl) rfl rfl
                          clear pre
                          simp only [Array.getD_eq_getD_getElem?, List.getElem?_toArray, List.getElem?_cons_zero, List.getElem?_cons_succ, Option.getD_some] at e216
                          have hS9 := hJ
                          have q0 := keep_cell hJ.sn.1 Q0.out
                          have q1 := keep_cell hJ.sn.1 Q1.out
                          go_simp
                          exact hK _ hJ
                        refine Vals9.Steps.run rfl ?_ ?_
                        · intro a W σ hJ pre K hK
                          have e20 := pre.2.2 20 _ (by kernel_rfl) rfl
                          clear pre
                          simp only [Array.getD_eq_getD_getElem?, List.getElem?_toArray, List.getElem?_cons_zero, List.getElem?_cons_succ, Option.getD_some] at e20
                          go_simp
                          exact hK _ hJ
                        refine Vals9.Steps.run rfl ?_ ?_
                        · intro a W σ hJ pre K hK
                          have e217 := pre.1 20 217 _ (by kernel_rfl) rfl rfl
                          have e218 := pre.1 21 218 _ (by kernel_rfl) rfl rfl
                          clear pre
                          simp only [Array.getD_eq_getD_getElem?, List.getElem?_toArray, List.getElem?_cons_zero, List.getElem?_cons_succ, Option.getD_some] at e217 e218
                          have hw9 : IntKind.i64.wrap (lv + er) = lv + er := IntWalk.i64_in _ (by omega)
                          go_simp
                          exact hK _ hJ
                        refine Vals9.Steps.run rfl ?_ ?_
                        · intro a W σ hJ pre K hK
                          have e210 := pre.1 13 210 _ (by kernel_rfl) rfl rfl
                          have e219 := pre.1 22 219 _ (by kernel_rfl) rfl rfl
                          clear pre
                          simp only [Array.getD_eq_getD_getElem?, List.getElem?_toArray, List.getElem?_cons_zero, List.getElem?_cons_succ, Option.getD_some] at e210 e219
                          go_simp
                          refine (span_c (lv - er) (lv + er) _).mono ?_
                          rintro e w' ⟨rfl, hb'⟩
                          exact hK _ (hJ.keep hb')
                        refine Vals9.Steps.run rfl ?_ ?_
                        · intro a W σ hJ pre K hK
                          have e19 := pre.2.2 19 _ (by kernel_rfl) rfl
                          clear pre
                          simp only [Array.getD_eq_getD_getElem?, List.getElem?_toArray, List.getElem?_cons_zero, List.getElem?_cons_succ, Option.getD_some] at e19
                          go_simp
                          exact hK _ hJ
                        refine Vals9.Steps.run rfl ?_ ?_
                        · intro a W σ hJ pre K hK
                          have e220 := pre.1 23 220 _ (by kernel_rfl) rfl rfl
                          have e221 := pre.1 24 221 _ (by kernel_rfl) rfl rfl
                          clear pre
                          simp only [Array.getD_eq_getD_getElem?, List.getElem?_toArray, List.getElem?_cons_zero, List.getElem?_cons_succ, Option.getD_some] at e220 e221
                          go_simp
                          have hwb := HWB.out
                          refine (among_c (lv - er) (lv + er) (0) _ (by omega) (by omega) (by omega) (by omega) (by omega)).mono ?_
                          rintro e w' ⟨rfl, hb'⟩
                          rw [HAM.out]
                          exact hK _ (hJ.keep hb')
                        refine Vals9.Steps.run rfl ?_ ?_
                        · intro a W σ hJ pre K hK
                          have e200 := pre.1 3 200 _ (by kernel_rfl) rfl rfl
                          have e201 := pre.1 4 201 _ (by kernel_rfl) rfl rfl
                          have e222 := pre.1 25 222 _ (by kernel_rfl) rfl rfl
                          clear pre
                          simp only [Array.getD_eq_getD_getElem?, List.getElem?_toArray, List.getElem?_cons_zero, List.getElem?_cons_succ, Option.getD_some] at e200 e201 e222
                          go_simp
                          exact hK _ hJ
                        refine Vals9.Steps.mark rfl ?_ ?_
                        · intro a W σ hJ hn pre K hK
                          go_simp
                          exact hK _ _ (hJ.new hn)
                        refine Vals9.Steps.mark rfl ?_ ?_
                        · intro a W σ hJ hn pre K hK
                          obtain ⟨v21, s21, e21⟩ := pre.2.1 27 (by kernel_rfl) rfl
                          replace e21 : a.tmps.getD 21 undef = v21 := e21 21 rfl
                          have e223 := pre.1 26 223 _ (by kernel_rfl) rfl rfl
                          simp only [Array.getD_eq_getD_getElem?, List.getElem?_toArray, List.getElem?_cons_zero, List.getElem?_cons_succ, Option.getD_some] at e21 e223
                          obtain ⟨g, cs, h1, h2, h3, h4, _⟩ := hJ.a _ s21
                          subst h1
                          refine wp_store_row 61 _ _ rfl g #[.int .i64 (x : Int), .int .i64 (tl : Int), .int .i64 am] (by go_simp) (by go_simp) 61 cs h4 (by kernel_rfl) h3 (by simp [Value.oneCell']) ?_
                          exact hK _ _ (hJ.store s21 rfl)
                        exact Vals9.Steps.nil
                      case hfi3 =>
                        intro Y σ hJ
                        simp only [Vals9.All]
                        intro v21 h21 v25 h25
                        simp only [Vals.putAll, List.setIfInBounds_toArray, List.set_cons_zero, List.set_cons_succ]
                        obtain ⟨g, cs, rfl, hgB, _, hg, hcs⟩ := hJ.a _ h21
                        obtain rfl := hcs _ h25
                        have HSY := Lib.hid (HS.out.keep hJ.sn.1)
                        have HIY := Lib.hid (HI.out.keep hJ.sn.1)
                        have HCY : Hid (∀ i, i < 61 → Y.cell? (ta.add i) = some (.int .i64 (truN s X i))) := fun i hi => keep_cell hJ.sn.1 (HCL.out i hi)
                        have HBY : Hid (B2 ≤ Y.heap.size) := Nat.le_trans HB.out hJ.sn.2
                        have HOY := Lib.hid (own_keep HO.out hJ.sn.1)
                        have g0 := hg.cell 0
                        have g1 := hg.cell 1
                        have g2 := hg.cell 2
                        simp only [List.getElem?_toArray, List.getElem?_cons_zero, List.getElem?_cons_succ] at g0 g1 g2
                        clear hJ h21 h25 hg HS HI HCL HB HO
                        by_cases hsl : shn < am
                        · have hsd : decide (shn < am) = true := decide_eq_true hsl
                          go_wp2_with fail
                          refine (awake_c _).mono ?_
                          rintro e w9 ⟨rfl, hb9⟩
                          go_wp2_with fail
                          go_ret
                          exact ⟨rfl, (HSY.out.keep hb9).sp.sn.1⟩
                        · have hsd : decide (shn < am) = false := decide_eq_false hsl
                          have hq : Below Y.heap.size Y (Y.alloc (.cells (rV ⟨(x : Int), (tl : Int), am⟩) 61)) := (Below.refl _ _).alloc (Nat.le_refl _) _
                          have HO11 := Lib.hid (own_keep HOY.out hq)
                          have HN11 := Lib.hid (Blk.new Y 61 (rV ⟨(x : Int), (tl : Int), am⟩))
                          have hzB : B2 ≤ (Y.alloc (.cells (rV ⟨(x : Int), (tl : Int), am⟩) 61)).heap.size := by have := HBY.out; simp; omega
                          have hll : ((List.range k).map (frd (truN s X) fl tl er (wrV Lo))).length ≤ 1000 := by simp; omega
                          go_wp2_with (at_builtin; refine wpList_append_read rfl (.tmp 229) (.tmp 231) rfl B2 Y.heap.size _ ((List.range k).map (frd (truN s X) fl tl er (wrV Lo))) ⟨(x : Int), (tl : Int), am⟩ (by go_simp) (by go_simp) HO11.out HN11.out hll hzB ?_)
                          intro v3 w3 ho3 hg3 _
                          have hlt3 := HO11.out.lt
                          have HS12 : Hid (Sp2 w s m 74 (rrV a sh f t OA Ot oc LA Lo lc P X pc) w3) := (HSY.out.keep hq).grown hg3 (fun q h => by have := (hlt3 q h).1; omega)
                          have HI12 : Hid (InAt w3 (some ad) fl) := (HIY.out.keep hq).grown hg3 (fun q h hne a ha => by have := (hlt3 q h).1; have := HAB2.out hne a ha; omega)
                          have HB12 : Hid (B2 ≤ w3.heap.size) := Nat.le_trans hzB hg3.size
                          have HC12 : Hid (∀ i, i < 61 → w3.cell? (ta.add i) = some (.int .i64 (truN s X i))) := fun i hi => grown_cell (keep_cell hq (HCY.out i hi)) hg3 (fun q h e => HTB.out (by have := (hlt3 q h).1; rw [add_block] at e; rw [← e]; exact this))
                          have HO12 : Hid (w3.ownsRow B2 61 3 v3 ((List.range (k + 1)).map (frd (truN s X) fl tl er (wrV Lo))).length (rowsC ((List.range (k + 1)).map (frd (truN s X) fl tl er (wrV Lo))))) := by
                            show World.ownsRow _ _ _ _ _ _ _
                            rw [show (List.range (k + 1)).map (frd (truN s X) fl tl er (wrV Lo)) = (List.range k).map (frd (truN s X) fl tl er (wrV Lo)) ++ [⟨(x : Int), (tl : Int), am⟩] by rw [List.range_succ, List.map_append, List.map_singleton, HRD.out], List.length_append, List.length_map, List.length_range]
                            exact ho3
                          have HSH2 : Hid (∀ i, i < k + 1 → (frd (truN s X) fl tl er (wrV Lo) i).shown ≤ shn) := fun i hi => by
                            rcases Nat.lt_or_ge i k with h | h
                            · exact HSH.out i h
                            · obtain rfl : i = k := by omega
                              rw [HRD.out]
                              show am ≤ shn
                              omega
                          clear ho3 hg3 hlt3 hq HO11 HN11 g0 g1 g2 HOY HSY HIY HCY HBY HSH HRD hsd hzB hll
                          go_wp2_with fail
                          go_roundw
                          case rel => exact ⟨k + 1, by omega, by go_num, HS12, HI12, HC12, HB12, HO12, HSH2⟩
                          case measure => simp [intOf]; omega
                    · have hW1 : (0 : Int) < (Lo.length : Int) := by omega
                      have hm := Nat.mod_lt k (Nat.pos_of_ne_zero hW0)
                      obtain ⟨ld, hLA, q2⟩ := hl.get hm
                      subst hLA
                      have q2 := keep_cell HS.out.sp.sn.1 q2
                      have hwe : Lo[k % Lo.length] = ws := by rw [← hws]; simp [wrV, List.getElem?_eq_getElem hm]
                      rw [hwe] at q2
                      have HWS := Lib.hid hws
                      clear hwe hws
                      obtain ⟨LL, hLL⟩ : ∃ LL, Lo.length = LL := ⟨_, rfl⟩
                      rw [hLL] at hW0 hW1 y5 hm q2
                      have HLL := Lib.hid hLL
                      clear hLL
                      obtain ⟨km, hkm⟩ : ∃ km, k % LL = km := ⟨_, rfl⟩
                      have e1 : (k : Int).tmod (LL : Int) = (km : Int) := by rw [Int.tmod_eq_emod_of_nonneg (by omega), ← Int.natCast_emod, hkm]
                      have e2 : IntKind.i64.wrap (km : Int) = (km : Int) := IntWalk.i64_in _ (by have := Nat.mod_le k LL; omega)
                      rw [hkm] at hm q2
                      have e3 : (km : Int) < (LL : Int) := by omega
                      have e4 : ¬ LL = 0 := hW0
                      have e5 : ((LL : Int) == 0) = false := by simp; omega
                      have e6 : IntKind.i64.wrap ws = ws := IntWalk.i64_in _ (by omega)
                      clear hkm
                      go_wp2_with fail
                      go_quiet (fail)
                      obtain ⟨_, _, _, _, _, _, _, _, c8⟩ := HS.out.sp.bk.space
                      rw [HTAE.out] at c8
                      have ee1 := keep_cell HS.out.sp.sn.1 HEE.out
                      have htli : (tl : Int) < (s.tools.length : Int) := by omega
                      go_wp2_with fail
                      have Q0 := Lib.hid q0
                      have Q1 := Lib.hid q1
                      have HWB := Lib.hid hwb
                      clear e1 e2 e3 e4 e5 e6 q2 hm
                      obtain ⟨am, ham⟩ : ∃ am, amongV (lv - er) (lv + er) ws = am := ⟨_, rfl⟩
                      have HAM := Lib.hid ham
                      have HRD := Lib.hid (HLD.out am ham)
                      have hzW : w.heap.size + 1 < wr.heap.size := HS.out.sp.sn.2 |> fun _ => HS.out.lt
                      clear q0 q1 c8 ee1 ham hwb
                      refine Vals9.region (Nb 27 28 wr 61 3 #[.int .i64 (x : Int), .int .i64 (tl : Int), .int .i64 am]) [some 197, some 198, some 199, some 200, some 201, some 202, some 203, some 204, some 205, some 206, some 207, some 208, some 209, some 210, some 211, some 212, some 213, some 214, some 215, some 216, some 217, some 218, some 219, some 220, some 221, some 222, some 223, some 21, none] [.is ?_, .is ?_, .is ?_, .is ?_, .is ?_, .is ?_, .is ?_, .is ?_, .is ?_, .is ?_, .is ?_, .is ?_, .is ?_, .is ?_, .is ?_, .is ?_, .is ?_, .is ?_, .is ?_, .is ?_, .is ?_, .is ?_, .is ?_, .is ?_, .is ?_, .is (.int .i64 am), .is ?_, .any, .any] (by kernel_rfl) (by kernel_rfl) (by kernel_rfl) (by kernel_rfl) (by kernel_rfl) (by kernel_rfl) (Nb.start ((sdN (Since.refl wr) _).drew)) ?hst4 ?hfi4
                      case hst4 =>
                        refine Vals9.Steps.run rfl ?_ ?_
                        · intro a W σ hJ pre K hK
                          have e11 := pre.2.2 11 _ (by kernel_rfl) rfl
                          clear pre
                          simp only [Array.getD_eq_getD_getElem?, List.getElem?_toArray, List.getElem?_cons_zero, List.getElem?_cons_succ, Option.getD_some] at e11
                          go_simp
                          exact hK _ hJ
                        refine Vals9.Steps.run rfl ?_ ?_
                        · intro a W σ hJ pre K hK
                          have e18 := pre.2.2 18 _ (by kernel_rfl) rfl
                          clear pre
                          simp only [Array.getD_eq_getD_getElem?, List.getElem?_toArray, List.getElem?_cons_zero, List.getElem?_cons_succ, Option.getD_some] at e18
                          go_simp
                          exact hK _ hJ
                        refine Vals9.Steps.run rfl ?_ ?_
                        · intro a W σ hJ pre K hK
                          have e197 := pre.1 0 197 _ (by kernel_rfl) rfl rfl
                          have e198 := pre.1 1 198 _ (by kernel_rfl) rfl rfl
                          clear pre
                          simp only [Array.getD_eq_getD_getElem?, List.getElem?_toArray, List.getElem?_cons_zero, List.getElem?_cons_succ, Option.getD_some] at e197 e198
                          go_simp
                          exact hK _ hJ
                        refine Vals9.Steps.run rfl ?_ ?_
                        · intro a W σ hJ pre K hK
                          have e199 := pre.1 2 199 _ (by kernel_rfl) rfl rfl
                          clear pre
                          simp only [Array.getD_eq_getD_getElem?, List.getElem?_toArray, List.getElem?_cons_zero, List.getElem?_cons_succ, Option.getD_some] at e199
                          have hS9 := hJ
                          have q0 := keep_cell hJ.sn.1 Q0.out
                          have q1 := keep_cell hJ.sn.1 Q1.out
                          go_simp
                          exact hK _ hJ
                        refine Vals9.Steps.run rfl ?_ ?_
                        · intro a W σ hJ pre K hK
                          have e7 := pre.2.2 7 _ (by kernel_rfl) rfl
                          clear pre
                          simp only [Array.getD_eq_getD_getElem?, List.getElem?_toArray, List.getElem?_cons_zero, List.getElem?_cons_succ, Option.getD_some] at e7
                          go_simp
                          exact hK _ hJ
                        refine Vals9.Steps.run rfl ?_ ?_
                        · intro a W σ hJ pre K hK
                          have e16 := pre.2.2 16 _ (by kernel_rfl) rfl
                          clear pre
                          simp only [Array.getD_eq_getD_getElem?, List.getElem?_toArray, List.getElem?_cons_zero, List.getElem?_cons_succ, Option.getD_some] at e16
                          go_simp
                          exact hK _ hJ
                        refine Vals9.Steps.run rfl ?_ ?_
                        · intro a W σ hJ pre K hK
                          have e11 := pre.2.2 11 _ (by kernel_rfl) rfl
                          clear pre
                          simp only [Array.getD_eq_getD_getElem?, List.getElem?_toArray, List.getElem?_cons_zero, List.getElem?_cons_succ, Option.getD_some] at e11
                          go_simp
                          exact hK _ hJ
                        refine Vals9.Steps.run rfl ?_ ?_
                        · intro a W σ hJ pre K hK
                          have e18 := pre.2.2 18 _ (by kernel_rfl) rfl
                          clear pre
                          simp only [Array.getD_eq_getD_getElem?, List.getElem?_toArray, List.getElem?_cons_zero, List.getElem?_cons_succ, Option.getD_some] at e18
                          go_simp
                          exact hK _ hJ
                        refine Vals9.Steps.run rfl ?_ ?_
                        · intro a W σ hJ pre K hK
                          have e203 := pre.1 6 203 _ (by kernel_rfl) rfl rfl
                          have e204 := pre.1 7 204 _ (by kernel_rfl) rfl rfl
                          clear pre
                          simp only [Array.getD_eq_getD_getElem?, List.getElem?_toArray, List.getElem?_cons_zero, List.getElem?_cons_succ, Option.getD_some] at e203 e204
                          go_simp
                          exact hK _ hJ
                        refine Vals9.Steps.run rfl ?_ ?_
                        · intro a W σ hJ pre K hK
                          have e205 := pre.1 8 205 _ (by kernel_rfl) rfl rfl
                          clear pre
                          simp only [Array.getD_eq_getD_getElem?, List.getElem?_toArray, List.getElem?_cons_zero, List.getElem?_cons_succ, Option.getD_some] at e205
                          have hS9 := hJ
                          have q0 := keep_cell hJ.sn.1 Q0.out
                          have q1 := keep_cell hJ.sn.1 Q1.out
                          go_simp
                          exact hK _ hJ
                        refine Vals9.Steps.run rfl ?_ ?_
                        · intro a W σ hJ pre K hK
                          have e202 := pre.1 5 202 _ (by kernel_rfl) rfl rfl
                          have e206 := pre.1 9 206 _ (by kernel_rfl) rfl rfl
                          clear pre
                          simp only [Array.getD_eq_getD_getElem?, List.getElem?_toArray, List.getElem?_cons_zero, List.getElem?_cons_succ, Option.getD_some] at e202 e206
                          go_simp
                          exact hK _ hJ
                        refine Vals9.Steps.run rfl ?_ ?_
                        · intro a W σ hJ pre K hK
                          have e207 := pre.1 10 207 _ (by kernel_rfl) rfl rfl
                          clear pre
                          simp only [Array.getD_eq_getD_getElem?, List.getElem?_toArray, List.getElem?_cons_zero, List.getElem?_cons_succ, Option.getD_some] at e207
                          have hS9 := hJ
                          have q0 := keep_cell hJ.sn.1 Q0.out
                          have q1 := keep_cell hJ.sn.1 Q1.out
                          go_simp
                          exact hK _ hJ
                        refine Vals9.Steps.run rfl ?_ ?_
                        · intro a W σ hJ pre K hK
                          have e20 := pre.2.2 20 _ (by kernel_rfl) rfl
                          clear pre
                          simp only [Array.getD_eq_getD_getElem?, List.getElem?_toArray, List.getElem?_cons_zero, List.getElem?_cons_succ, Option.getD_some] at e20
                          go_simp
                          exact hK _ hJ
                        refine Vals9.Steps.run rfl ?_ ?_
                        · intro a W σ hJ pre K hK
                          have e208 := pre.1 11 208 _ (by kernel_rfl) rfl rfl
                          have e209 := pre.1 12 209 _ (by kernel_rfl) rfl rfl
                          clear pre
                          simp only [Array.getD_eq_getD_getElem?, List.getElem?_toArray, List.getElem?_cons_zero, List.getElem?_cons_succ, Option.getD_some] at e208 e209
                          have hw9 : IntKind.i64.wrap (lv - er) = lv - er := IntWalk.i64_in _ (by omega)
                          go_simp
                          exact hK _ hJ
                        refine Vals9.Steps.run rfl ?_ ?_
                        · intro a W σ hJ pre K hK
                          have e16 := pre.2.2 16 _ (by kernel_rfl) rfl
                          clear pre
                          simp only [Array.getD_eq_getD_getElem?, List.getElem?_toArray, List.getElem?_cons_zero, List.getElem?_cons_succ, Option.getD_some] at e16
                          go_simp
                          exact hK _ hJ
                        refine Vals9.Steps.run rfl ?_ ?_
                        · intro a W σ hJ pre K hK
                          have e11 := pre.2.2 11 _ (by kernel_rfl) rfl
                          clear pre
                          simp only [Array.getD_eq_getD_getElem?, List.getElem?_toArray, List.getElem?_cons_zero, List.getElem?_cons_succ, Option.getD_some] at e11
                          go_simp
                          exact hK _ hJ
                        refine Vals9.Steps.run rfl ?_ ?_
                        · intro a W σ hJ pre K hK
                          have e18 := pre.2.2 18 _ (by kernel_rfl) rfl
                          clear pre
                          simp only [Array.getD_eq_getD_getElem?, List.getElem?_toArray, List.getElem?_cons_zero, List.getElem?_cons_succ, Option.getD_some] at e18
                          go_simp
                          exact hK _ hJ
                        refine Vals9.Steps.run rfl ?_ ?_
                        · intro a W σ hJ pre K hK
                          have e212 := pre.1 15 212 _ (by kernel_rfl) rfl rfl
                          have e213 := pre.1 16 213 _ (by kernel_rfl) rfl rfl
                          clear pre
                          simp only [Array.getD_eq_getD_getElem?, List.getElem?_toArray, List.getElem?_cons_zero, List.getElem?_cons_succ, Option.getD_some] at e212 e213
                          go_simp
                          exact hK _ hJ
                        refine Vals9.Steps.run rfl ?_ ?_
                        · intro a W σ hJ pre K hK
                          have e214 := pre.1 17 214 _ (by kernel_rfl) rfl rfl
                          clear pre
                          simp only [Array.getD_eq_getD_getElem?, List.getElem?_toArray, List.getElem?_cons_zero, List.getElem?_cons_succ, Option.getD_some] at e214
                          have hS9 := hJ
                          have q0 := keep_cell hJ.sn.1 Q0.out
                          have q1 := keep_cell hJ.sn.1 Q1.out
                          go_simp
                          exact hK _ hJ
                        refine Vals9.Steps.run rfl ?_ ?_
                        · intro a W σ hJ pre K hK
                          have e211 := pre.1 14 211 _ (by kernel_rfl) rfl rfl
                          have e215 := pre.1 18 215 _ (by kernel_rfl) rfl rfl
                          clear pre
                          simp only [Array.getD_eq_getD_getElem?, List.getElem?_toArray, List.getElem?_cons_zero, List.getElem?_cons_succ, Option.getD_some] at e211 e215
                          go_simp
                          exact hK _ hJ
                        refine Vals9.Steps.run rfl ?_ ?_
                        · intro a W σ hJ pre K hK
                          have e216 := pre.1 19 216 _ (by kernel_rfl) rfl rfl
                          clear pre
                          simp only [Array.getD_eq_getD_getElem?, List.getElem?_toArray, List.getElem?_cons_zero, List.getElem?_cons_succ, Option.getD_some] at e216
                          have hS9 := hJ
                          have q0 := keep_cell hJ.sn.1 Q0.out
                          have q1 := keep_cell hJ.sn.1 Q1.out
                          go_simp
                          exact hK _ hJ
                        refine Vals9.Steps.run rfl ?_ ?_
                        · intro a W σ hJ pre K hK
                          have e20 := pre.2.2 20 _ (by kernel_rfl) rfl
                          clear pre
                          simp only [Array.getD_eq_getD_getElem?, List.getElem?_toArray, List.getElem?_cons_zero, List.getElem?_cons_succ, Option.getD_some] at e20
                          go_simp
                          exact hK _ hJ
                        refine Vals9.Steps.run rfl ?_ ?_
                        · intro a W σ hJ pre K hK
                          have e217 := pre.1 20 217 _ (by kernel_rfl) rfl rfl
                          have e218 := pre.1 21 218 _ (by kernel_rfl) rfl rfl
                          clear pre
                          simp only [Array.getD_eq_getD_getElem?, List.getElem?_toArray, List.getElem?_cons_zero, List.getElem?_cons_succ, Option.getD_some] at e217 e218
                          have hw9 : IntKind.i64.wrap (lv + er) = lv + er := IntWalk.i64_in _ (by omega)
                          go_simp
                          exact hK _ hJ
                        refine Vals9.Steps.run rfl ?_ ?_
                        · intro a W σ hJ pre K hK
                          have e210 := pre.1 13 210 _ (by kernel_rfl) rfl rfl
                          have e219 := pre.1 22 219 _ (by kernel_rfl) rfl rfl
                          clear pre
                          simp only [Array.getD_eq_getD_getElem?, List.getElem?_toArray, List.getElem?_cons_zero, List.getElem?_cons_succ, Option.getD_some] at e210 e219
                          go_simp
                          refine (span_c (lv - er) (lv + er) _).mono ?_
                          rintro e w' ⟨rfl, hb'⟩
                          exact hK _ (hJ.keep hb')
                        refine Vals9.Steps.run rfl ?_ ?_
                        · intro a W σ hJ pre K hK
                          have e19 := pre.2.2 19 _ (by kernel_rfl) rfl
                          clear pre
                          simp only [Array.getD_eq_getD_getElem?, List.getElem?_toArray, List.getElem?_cons_zero, List.getElem?_cons_succ, Option.getD_some] at e19
                          go_simp
                          exact hK _ hJ
                        refine Vals9.Steps.run rfl ?_ ?_
                        · intro a W σ hJ pre K hK
                          have e220 := pre.1 23 220 _ (by kernel_rfl) rfl rfl
                          have e221 := pre.1 24 221 _ (by kernel_rfl) rfl rfl
                          clear pre
                          simp only [Array.getD_eq_getD_getElem?, List.getElem?_toArray, List.getElem?_cons_zero, List.getElem?_cons_succ, Option.getD_some] at e220 e221
                          go_simp
                          have hwb := HWB.out
                          refine (among_c (lv - er) (lv + er) (ws) _ (by omega) (by omega) (by omega) (by omega) (by omega)).mono ?_
                          rintro e w' ⟨rfl, hb'⟩
                          rw [HAM.out]
                          exact hK _ (hJ.keep hb')
                        refine Vals9.Steps.run rfl ?_ ?_
                        · intro a W σ hJ pre K hK
                          have e200 := pre.1 3 200 _ (by kernel_rfl) rfl rfl
                          have e201 := pre.1 4 201 _ (by kernel_rfl) rfl rfl
                          have e222 := pre.1 25 222 _ (by kernel_rfl) rfl rfl
                          clear pre
                          simp only [Array.getD_eq_getD_getElem?, List.getElem?_toArray, List.getElem?_cons_zero, List.getElem?_cons_succ, Option.getD_some] at e200 e201 e222
                          go_simp
                          exact hK _ hJ
                        refine Vals9.Steps.mark rfl ?_ ?_
                        · intro a W σ hJ hn pre K hK
                          go_simp
                          exact hK _ _ (hJ.new hn)
                        refine Vals9.Steps.mark rfl ?_ ?_
                        · intro a W σ hJ hn pre K hK
                          obtain ⟨v21, s21, e21⟩ := pre.2.1 27 (by kernel_rfl) rfl
                          replace e21 : a.tmps.getD 21 undef = v21 := e21 21 rfl
                          have e223 := pre.1 26 223 _ (by kernel_rfl) rfl rfl
                          simp only [Array.getD_eq_getD_getElem?, List.getElem?_toArray, List.getElem?_cons_zero, List.getElem?_cons_succ, Option.getD_some] at e21 e223
                          obtain ⟨g, cs, h1, h2, h3, h4, _⟩ := hJ.a _ s21
                          subst h1
                          refine wp_store_row 61 _ _ rfl g #[.int .i64 (x : Int), .int .i64 (tl : Int), .int .i64 am] (by go_simp) (by go_simp) 61 cs h4 (by kernel_rfl) h3 (by simp [Value.oneCell']) ?_
                          exact hK _ _ (hJ.store s21 rfl)
                        exact Vals9.Steps.nil
                      case hfi4 =>
                        intro Y σ hJ
                        simp only [Vals9.All]
                        intro v21 h21 v25 h25
                        simp only [Vals.putAll, List.setIfInBounds_toArray, List.set_cons_zero, List.set_cons_succ]
                        obtain ⟨g, cs, rfl, hgB, _, hg, hcs⟩ := hJ.a _ h21
                        obtain rfl := hcs _ h25
                        have HSY := Lib.hid (HS.out.keep hJ.sn.1)
                        have HIY := Lib.hid (HI.out.keep hJ.sn.1)
                        have HCY : Hid (∀ i, i < 61 → Y.cell? (ta.add i) = some (.int .i64 (truN s X i))) := fun i hi => keep_cell hJ.sn.1 (HCL.out i hi)
                        have HBY : Hid (B2 ≤ Y.heap.size) := Nat.le_trans HB.out hJ.sn.2
                        have HOY := Lib.hid (own_keep HO.out hJ.sn.1)
                        have g0 := hg.cell 0
                        have g1 := hg.cell 1
                        have g2 := hg.cell 2
                        simp only [List.getElem?_toArray, List.getElem?_cons_zero, List.getElem?_cons_succ] at g0 g1 g2
                        clear hJ h21 h25 hg HS HI HCL HB HO
                        by_cases hsl : shn < am
                        · have hsd : decide (shn < am) = true := decide_eq_true hsl
                          go_wp2_with fail
                          refine (awake_c _).mono ?_
                          rintro e w9 ⟨rfl, hb9⟩
                          go_wp2_with fail
                          go_ret
                          exact ⟨rfl, (HSY.out.keep hb9).sp.sn.1⟩
                        · have hsd : decide (shn < am) = false := decide_eq_false hsl
                          have hq : Below Y.heap.size Y (Y.alloc (.cells (rV ⟨(x : Int), (tl : Int), am⟩) 61)) := (Below.refl _ _).alloc (Nat.le_refl _) _
                          have HO11 := Lib.hid (own_keep HOY.out hq)
                          have HN11 := Lib.hid (Blk.new Y 61 (rV ⟨(x : Int), (tl : Int), am⟩))
                          have hzB : B2 ≤ (Y.alloc (.cells (rV ⟨(x : Int), (tl : Int), am⟩) 61)).heap.size := by have := HBY.out; simp; omega
                          have hll : ((List.range k).map (frd (truN s X) fl tl er (wrV Lo))).length ≤ 1000 := by simp; omega
                          go_wp2_with (at_builtin; refine wpList_append_read rfl (.tmp 229) (.tmp 231) rfl B2 Y.heap.size _ ((List.range k).map (frd (truN s X) fl tl er (wrV Lo))) ⟨(x : Int), (tl : Int), am⟩ (by go_simp) (by go_simp) HO11.out HN11.out hll hzB ?_)
                          intro v3 w3 ho3 hg3 _
                          have hlt3 := HO11.out.lt
                          have HS12 : Hid (Sp2 w s m 74 (rrV a sh f t OA Ot oc (some ld) Lo lc P X pc) w3) := (HSY.out.keep hq).grown hg3 (fun q h => by have := (hlt3 q h).1; omega)
                          have HI12 : Hid (InAt w3 (some ad) fl) := (HIY.out.keep hq).grown hg3 (fun q h hne a ha => by have := (hlt3 q h).1; have := HAB2.out hne a ha; omega)
                          have HB12 : Hid (B2 ≤ w3.heap.size) := Nat.le_trans hzB hg3.size
                          have HC12 : Hid (∀ i, i < 61 → w3.cell? (ta.add i) = some (.int .i64 (truN s X i))) := fun i hi => grown_cell (keep_cell hq (HCY.out i hi)) hg3 (fun q h e => HTB.out (by have := (hlt3 q h).1; rw [add_block] at e; rw [← e]; exact this))
                          have HO12 : Hid (w3.ownsRow B2 61 3 v3 ((List.range (k + 1)).map (frd (truN s X) fl tl er (wrV Lo))).length (rowsC ((List.range (k + 1)).map (frd (truN s X) fl tl er (wrV Lo))))) := by
                            show World.ownsRow _ _ _ _ _ _ _
                            rw [show (List.range (k + 1)).map (frd (truN s X) fl tl er (wrV Lo)) = (List.range k).map (frd (truN s X) fl tl er (wrV Lo)) ++ [⟨(x : Int), (tl : Int), am⟩] by rw [List.range_succ, List.map_append, List.map_singleton, HRD.out], List.length_append, List.length_map, List.length_range]
                            exact ho3
                          have HSH2 : Hid (∀ i, i < k + 1 → (frd (truN s X) fl tl er (wrV Lo) i).shown ≤ shn) := fun i hi => by
                            rcases Nat.lt_or_ge i k with h | h
                            · exact HSH.out i h
                            · obtain rfl : i = k := by omega
                              rw [HRD.out]
                              show am ≤ shn
                              omega
                          clear ho3 hg3 hlt3 hq HO11 HN11 g0 g1 g2 HOY HSY HIY HCY HBY HSH HRD hsd hzB hll
                          go_wp2_with fail
                          go_roundw
                          case rel => exact ⟨k + 1, by omega, by go_num, HS12, HI12, HC12, HB12, HO12, HSH2⟩
                          case measure => simp [intOf]; omega
                  · have hki : ¬ (k : Int) < (fl.length : Int) := by omega
                    obtain rfl : k = fl.length := by omega
                    by_cases h12 : fl.length ≤ 12
                    · have hUT := fun t h1 h2 => few_until (X := X) HH0.out htl2 (shn := shn) (less := wrV Lo) htn2 HBD.out HCO.out (by rw [HER.out]; exact HSH.out) h12 t h1 h2
                      rw [HER.out] at hUT
                      obtain ⟨R, hR⟩ : ∃ R, (List.range fl.length).map (frd (truN s X) fl tl er (wrV Lo)) = R := ⟨_, rfl⟩
                      have hRl : R.length = fl.length := by rw [← hR]; simp
                      simp only [hR] at hUT HO
                      obtain ⟨RA, rc, hrv, hrd, hrc1, hrc2⟩ := own_rd2 HO.out
                      subst hrv
                      have HRD := Lib.hid hrd
                      have HUT := Lib.hid hUT
                      obtain ⟨rn, hrn⟩ : ∃ rn, R.length = rn := ⟨_, rfl⟩
                      have HRN := Lib.hid hrn
                      have h12b : ¬ (12 : Int) < (rn : Int) := by omega
                      rw [hrn]
                      obtain ⟨W3, rfl⟩ : ∃ W3, W3 = wr := ⟨_, rfl⟩
                      clear hR hUT hrd HO HSH hki hk hrn hRl
                      go_wp2_with fail
                      go_loopw [22, 23, 24] (fun tv _ _ wr => ∃ t : Nat, fr ≤ t ∧ t ≤ tn + 1 ∧ tv = .int .i64 t ∧ Hid (Since W3 wr)) (fun tv _ _ _ => tn + 1 - (intOf tv).toNat)
                      case atStart => exact ⟨fr, Nat.le_refl _, by have := HTD.out; omega, rfl, Since.refl _⟩
                      case round =>
                        obtain ⟨t, ht1, ht2, rfl, HX⟩ := hrel
                        have HSx := Lib.hid (HS.out.keep HX.out.1)
                        obtain ⟨c0, c1, c2, c3, c4, c5, c6, c7, c8⟩ := HSx.out.sp.bk.space
                        by_cases htt : t ≤ tn
                        · obtain ⟨u, hu1, hu2, hu3⟩ := HUT.out t ht1 htt
                          have htti : (t : Int) ≤ (tn : Int) := by omega
                          have ht61 : (t : Int) < 61 := by omega
                          have hUn := until2_c s m RA R rc (t : Int) wr (hsa.keep HSx.out.sp.sn.1) hrc1 hrc2 (HRD.out.keep HX.out.1)
                          rw [hu1] at hUn
                          dsimp only at hUn
                          rw [HRN.out] at hUn
                          have q0 := keep_cell HX.out.1 (HCL.out t (by omega))
                          obtain ⟨lt, hlt2⟩ : ∃ lt, truN s X t = lt := ⟨_, rfl⟩
                          rw [hlt2] at q0 hu3
                          have g1 : decide (u < t) = false := decide_eq_false (by omega)
                          have g2 : decide ((u : Int) < (t : Int)) = false := decide_eq_false (by omega)
                          have g3 : decide (s.lim < lt) = false := decide_eq_false (by omega)
                          have HU2 := Lib.hid hu2
                          clear hlt2 hu1 hu2 hu3
                          go_wp2_with fail
                          refine hUn.mono ?_
                          rintro e w8 ⟨rfl, hb8⟩
                          have q0 := keep_cell hb8 q0
                          have HS8 := Lib.hid (HSx.out.keep hb8)
                          have HX8 : Hid (Since W3 w8) := HX.out.keep hb8
                          clear c0 c1 c2 c3 c4 c5 c6 c7 c8 HSx hb8 hUn
                          obtain ⟨c0, c1, c2, c3, c4, c5, c6, c7, c8⟩ := HS8.out.sp.bk.space
                          go_wp2_with fail
                          go_quiet (fail)
                          go_wp2_with fail
                          go_roundw
                          case rel => exact ⟨t + 1, by omega, by omega, by go_num, sdN HX8.out _⟩
                          case measure => simp [intOf]; omega
                        · have htti : ¬ (t : Int) ≤ (tn : Int) := by omega
                          go_wp2_with fail
                          refine (awake_c _).mono ?_
                          rintro e w9 ⟨rfl, hb9⟩
                          go_wp2_with fail
                          go_ret
                          exact ⟨rfl, (HSx.out.keep hb9).sp.sn.1⟩
                    · have hfn : ((List.range fl.length).map (frd (truN s X) fl tl er (wrV Lo))).length = fl.length := by simp
                      obtain ⟨RA, rc, hrv, -, -, -⟩ := own_rd2 HO.out
                      rw [hfn] at hrv
                      subst hrv
                      have h12b : (12 : Int) < (fl.length : Int) := by omega
                      clear HO hfn
                      go_wp2_with fail
                      refine (awake_c _).mono ?_
                      rintro e w9 ⟨rfl, hb9⟩
                      go_wp2_with fail
                      go_ret
                      exact ⟨rfl, (HS.out.keep hb9).sp.sn.1⟩
  · have hfz := fewest2_c s m ⟨0, 0, 0⟩ 0 w1 (hsa.keep hS1.sp.sn.1)
    rw [fewest_zero h0] at hfz
    dsimp only at hfz
    have h0b : decide ((chk s).2.2 = 0) = false := decide_eq_false h0
    have h0c : ((chk s).2.2 == 0) = false := by simpa using h0
    have h0d : ((chk s).2.2 != 0) = true := by simpa using h0
    obtain ⟨E, hE⟩ : ∃ E, (chk s).2.2 = E := ⟨_, rfl⟩
    rw [hE] at hfz h0 h0b h0c h0d ⊢
    first | rw [h0b] | rw [h0c] | skip
    clear hE
    go_wp2_with fail
    refine hfz.mono ?_
    rintro e w2 ⟨⟨v, rfl, A1, k1, rfl, hI1⟩, hb2⟩
    have hS2 := hS1.keep hb2
    clear c0 c1 c2 c3 c4 c5 c6 c7 c8 hS1 hb2 hfz
    go_wp2_with fail
    refine (awake_c _).mono ?_
    rintro e w6 ⟨rfl, hb6⟩
    go_wp2_with fail
    go_ret
    exact ⟨rfl, (hS2.keep hb6).sp.sn.1⟩
end Td
end Go.Proofs.Ytmofbnadfgejiaa
