import Derived.Test.YtccacinnelmnpaaBun
/- GasRefused: Until is -1 just if Refusal has a truth; it is one; one minute behind that of Until there is too much gas. -/
namespace Go.Proofs.Ytccacinnelmnpaa
open Go.RowKit
namespace Td
set_option linter.unusedSimpArgs false
set_option linter.unusedVariables false
attribute [local go_sem] Oper.semAt_some
/-- the first n levels of a truth, in a row. -/
def Tr (W : World) (g : Option Addr) (T : Nat → Int) (n : Nat) : Prop := InAt W g ((List.range n).map T)
theorem Tr.keep {W W' : World} {g : Option Addr} {T : Nat → Int} {n : Nat} (h : Tr W g T n) (hb : Below W.heap.size W W') : Tr W' g T n := InAt.keep h hb
theorem Tr.at {W : World} {ad : Addr} {T : Nat → Int} {n k : Nat} (h : Tr W (some ad) T n) (hk : k < n) : W.cell? (ad.add k) = some (.int .i64 (T k)) := by
  obtain ⟨a, ha, hc⟩ := h (by intro e; have := congrArg List.length e; simp at this; omega)
  obtain rfl := Option.some.inj ha
  exact hc k (T k) (by simp [hk])
theorem rdg_ok {s : Spc} {l : List Rd} (h : rdgE s l = 0) : (chk s).2.2 = 0 ∧ rdsE s.tools.length l = 0 := by
  unfold rdgE at h
  split at h
  · rename_i h1; exact absurd h h1
  · rename_i h1; exact ⟨by simpa using h1, h⟩
theorem refusal_some {s : Spc} {l : List Rd} {mi : Int} {x : Int × Int} (hw : watE s l mi = 0) (hx : now s l mi = some x) (h : s.lim < x.2) : refusalA s l mi = (tru s (kno l mi) mi.toNat (max x.1 (s.lim + 1)), 0) := by
  unfold refusalA
  rw [if_pos hw, hx, Option.getD_some, if_neg (by omega)]
theorem refusal_none {s : Spc} {l : List Rd} {mi : Int} {x : Int × Int} (hw : watE s l mi = 0) (hx : now s l mi = some x) (h : x.2 ≤ s.lim) : refusalA s l mi = ([], 4) := by
  unfold refusalA
  rw [if_pos hw, hx, Option.getD_some, if_pos h]
set_option maxRecDepth 100000 in
set_option maxHeartbeats 8000000 in
theorem gasRefused_c (s : Spc) (m : Sl) (A : Option Addr) (l : List Rd) (c nw : Nat) (w : World) (hsa : SAt w m s) (hrd : RdAt w A l) (hc : l.length ≤ c) (hcM : c ≤ 9223372036854775807) (hnw : nw ≤ 255) :
    Calls Try.prog 8 #[.agg (sV s m), .slice A l.length c, .int .u8 nw] w fun e w' => e = .returned (.bool true) ∧ Below w.heap.size w w' := by
  have hS0 := Sp.start w s m
  obtain ⟨c0, c1, c2, c3, c4, c5, c6, c7, c8⟩ := hS0.bk.space
  go_enter Try.func8, Try.ntmps8
  go_wp2_with fail
  refine (readings_c s m A l c _ (hsa.keep hS0.sn.1) (hrd.keep hS0.sn.1) (by omega)).mono ?_
  rintro e w1 ⟨rfl, hb1⟩
  have hS := hS0.keep hb1
  clear c0 c1 c2 c3 c4 c5 c6 c7 c8 hS0 hb1
  by_cases hr0 : rdgE s l = 0
  · have hr0' : (rdgE s l != 0) = false := by simpa using hr0
    obtain ⟨hck, hrs⟩ := rdg_ok hr0
    have hs := chk_ok hck
    obtain ⟨h12, hro⟩ := rdsE_ok.1 hrs
    rw [hr0]
    obtain ⟨mi, hmi⟩ : ∃ mi, nw % 61 = mi := ⟨_, rfl⟩
    have hmi2 : mi < 61 := by rw [← hmi]; exact Nat.mod_lt _ (by omega)
    have hem : ((nw : Int) % (61 : Int)) = (mi : Int) := by omega
    have htm : ((nw : Int).tmod (61 : Int) = (mi : Int)) := by rw [Int.tmod_eq_emod_of_nonneg (by omega)]; exact hem
    have hw8 : IntKind.i64.wrap (nw : Int) = (nw : Int) := IntWalk.i64_in _ (by omega)
    have hwi : wi 0 60 (mi : Int) = true := wi_iff.2 (by omega)
    have hU := fun (W : World) (hW : Sp w s m W) => until2_c s m A l c (mi : Int) W (hsa.keep hW.sn.1) hc hcM (hrd.keep hW.sn.1)
    have hR := fun (W : World) (hW : Sp w s m W) => refusal_c s m A l c (mi : Int) W (hsa.keep hW.sn.1) hc hcM (hrd.keep hW.sn.1)
    clear hr0 hr0' hmi
    obtain ⟨c0, c1, c2, c3, c4, c5, c6, c7, c8⟩ := hS.bk.space
    cases hx : now s l (mi : Int) with
    | none =>
      have hwt : watE s l (mi : Int) = 9 := by simp [watE, hck, hrs, hwi, hx]
      have hu : untilA s l (mi : Int) = (0, 9) := by simp [untilA, hwt]
      have hrf : refusalA s l (mi : Int) = ([], 9) := by simp [refusalA, hwt]
      rw [hu] at hU
      rw [hrf] at hR
      clear hu hrf hwt hx
      go_wp2_with fail
      refine (hU _ hS).mono ?_
      rintro e w2 ⟨rfl, hb2⟩
      have hS2 := hS.keep hb2
      clear c0 c1 c2 c3 c4 c5 c6 c7 c8 hem htm hw8
      obtain ⟨c0, c1, c2, c3, c4, c5, c6, c7, c8⟩ := hS2.bk.space
      go_wp2_with fail
      refine (hR _ hS2).mono ?_
      rintro e w3 ⟨⟨g, n, rfl, hn, _⟩, hb3⟩
      obtain rfl : n = 0 := hn
      have hS3 := hS2.keep hb3
      clear c0 c1 c2 c3 c4 c5 c6 c7 c8 hU hR
      go_wp2_with fail
      refine (awake_c _).mono ?_
      rintro e w4 ⟨rfl, hb4⟩
      go_wp2_with fail
      go_ret
      exact ⟨rfl, (hS3.keep hb4).sn.1⟩
    | some x =>
      have hwt : watE s l (mi : Int) = 0 := by simp [watE, hck, hrs, hwi, hx]
      have hu : untilA s l (mi : Int) = (untl s (kno l (mi : Int)) (mi : Int) (some x), 0) := by simp [untilA, hwt, hx]
      rw [hu] at hU
      have hx' := hx
      unfold now at hx'
      rw [Int.toNat_natCast] at hx'
      have hv := vd_lv (s := s) (l := kno l (mi : Int)) (m := 0) (vd_start hs) mi x hx'
      have hge := untl_ge (s := s) (l := kno l (mi : Int)) (m := (mi : Int)) (o := some x) (by omega) (by omega)
      have hg0 : good s (kno l (mi : Int)) (mi : Int) (some x) 0 = decide (x.2 ≤ s.lim) := by
        have := lv_on hs (l := kno l (mi : Int)) (vd_start hs) (a := mi) 0
        rw [hx', Nat.add_zero, hx'] at this
        simp [good, this]
      rw [hg0, decide_eq_true_iff] at hge
      by_cases hlim : x.2 ≤ s.lim
      · have hrf := refusal_none hwt hx hlim
        rw [hrf] at hR
        obtain ⟨hge1, hge2, _, _⟩ := hge
        have hge3 := hge1.2 hlim
        obtain ⟨u, huu⟩ : ∃ u, untl s (kno l (mi : Int)) (mi : Int) (some x) = u := ⟨_, rfl⟩
        have hnx := fun h2 => until_next hs (l := l) (by omega) hx huu (by rw [huu] at hge3; exact hge3) h2
        rw [huu] at hU hge2 hge3
        obtain ⟨un, rfl⟩ : ∃ un : Nat, u = (un : Int) := ⟨u.toNat, by omega⟩
        clear hge1 hu huu hwt hrf hx hx' hg0 hv
        have HNX := Lib.hid hnx
        have HRO := Lib.hid hro
        have HRS := Lib.hid hrs
        have HCK := Lib.hid hck
        have HS_ := Lib.hid hs
        clear hnx hro hrs hck hs
        go_wp2_with fail
        refine (hU _ hS).mono ?_
        rintro e w2 ⟨rfl, hb2⟩
        have hS2 := hS.keep hb2
        clear c0 c1 c2 c3 c4 c5 c6 c7 c8 hem htm hw8 hS hb2 hU
        obtain ⟨c0, c1, c2, c3, c4, c5, c6, c7, c8⟩ := hS2.bk.space
        go_wp2_with fail
        refine (hR _ hS2).mono ?_
        rintro e w3 ⟨⟨g, n, rfl, hn, _⟩, hb3⟩
        obtain rfl : n = 0 := hn
        have hS3 := hS2.keep hb3
        clear c0 c1 c2 c3 c4 c5 c6 c7 c8 hR hS2 hb3
        have hk1 : ((un : Int) == -1) = false := beq_eq_false_iff_ne.2 (by omega)
        have hk2 : ¬ (un : Int) < (mi : Int) := by omega
        have hk2n : ¬ un < mi := by omega
        have hk3 : ¬ (60 : Int) < (un : Int) := by omega
        have hk3n : ¬ 60 < un := by omega
        by_cases h60 : un = 60
        · subst h60
          go_wp2_with fail
          refine (awake_c _).mono ?_
          rintro e w4 ⟨rfl, hb4⟩
          go_wp2_with fail
          go_ret
          exact ⟨rfl, (hS3.keep hb4).sn.1⟩
        · have h60' : ((un : Int) == 60) = false := beq_eq_false_iff_ne.2 (by omega)
          have hlt3 := hS3.lt
          go_wp2_with fail
          clear hk1 hk2 hk2n hk3 hk3n h60'
          go_loopw [12, 13] (fun ov i wr => ∃ k : Nat, k ≤ l.length ∧ i = .int .i64 k ∧ Sp w s m wr ∧ Hid (wr.ownsRow (w.heap.size + 1) 61 3 ov (kno (l.take k) (mi : Int)).length (rowsC (kno (l.take k) (mi : Int))))) (fun _ i _ => l.length - (intOf i).toNat)
          case atStart => exact ⟨0, Nat.zero_le _, rfl, hS3, ⟨rfl, .inl ⟨rfl, rfl⟩⟩⟩
          case round =>
            obtain ⟨k, hk, rfl, hSk, HO⟩ := hrel
            by_cases hkl : k < l.length
            · obtain ⟨ad, hA, q0, q1, q2⟩ := hrd.get hkl
              subst hA
              have q0 := keep_cell hSk.sn.1 q0
              have q1 := keep_cell hSk.sn.1 q1
              have q2 := keep_cell hSk.sn.1 q2
              have hki : (k : Int) < (l.length : Int) := by omega
              have hnext : kno (l.take (k + 1)) (mi : Int) = kno (l.take k) (mi : Int) ++ (if l[k].min ≤ (mi : Int) then [l[k]] else []) := by
                unfold kno
                rw [List.take_succ_eq_append_getElem hkl, List.filter_append]
                congr 1
                by_cases h : l[k].min ≤ (mi : Int) <;> simp [h]
              by_cases hle : l[k].min ≤ (mi : Int)
              · rw [if_pos hle] at hnext
                have HNE := Lib.hid hnext
                have HN3 := Lib.hid (Blk.new wr 61 (rV l[k]))
                have hq : Below wr.heap.size wr (wr.alloc (.cells (rV l[k]) 61)) := (Below.refl _ _).alloc (Nat.le_refl _) _
                have HO3 := Lib.hid (own_keep HO.out hq)
                have hzB : w.heap.size + 1 ≤ (wr.alloc (.cells (rV l[k]) 61)).heap.size := by have := hSk.lt; simp; omega
                have hll : (kno (l.take k) (mi : Int)).length ≤ 1000 := by have := List.length_filter_le (fun r => decide (r.min ≤ (mi : Int))) (l.take k); have h3 := List.length_take_le k l; unfold kno; omega
                have hSq := hSk.keep hq
                clear hnext hq
                go_wp2_with (at_builtin; refine wpList_append_read rfl (.tmp 121) (.tmp 126) rfl (w.heap.size + 1) wr.heap.size _ (kno (l.take k) (mi : Int)) l[k] (by go_simp) (by go_simp) HO3.out HN3.out hll hzB ?_)
                intro v3 w3 ho3 hg3 _
                have hlt3 := HO3.out.lt
                have hS4 := hSq.grown hg3 (fun q h => by have := (hlt3 q h).1; omega)
                have HO4 : Hid (w3.ownsRow (w.heap.size + 1) 61 3 v3 (kno (l.take (k + 1)) (mi : Int)).length (rowsC (kno (l.take (k + 1)) (mi : Int)))) := by
                  show World.ownsRow _ _ _ _ _ _ _
                  rw [HNE.out, List.length_append]
                  exact ho3
                clear ho3 hg3 hlt3 HO3 HN3 q0 q1 q2 hSq
                go_wp2_with fail
                go_roundw
                case rel => exact ⟨k + 1, by omega, by go_num, hS4, HO4⟩
                case measure => simp [intOf]; omega
              · rw [if_neg hle, List.append_nil] at hnext
                have HO4 : Hid (wr.ownsRow (w.heap.size + 1) 61 3 u12 (kno (l.take (k + 1)) (mi : Int)).length (rowsC (kno (l.take (k + 1)) (mi : Int)))) := by
                  show World.ownsRow _ _ _ _ _ _ _
                  rw [hnext]
                  exact HO.out
                clear hnext
                go_wp2_with fail
                go_roundw
                case rel => exact ⟨k + 1, by omega, by go_num, hSk, HO4⟩
                case measure => simp [intOf]; omega
            · have hki : ¬ (k : Int) < (l.length : Int) := by omega
              rw [List.take_of_length_le (by omega)] at HO
              obtain ⟨KA, kc, hv, hrdK, hc1, hc2⟩ := own_rd2 HO.out
              subst hv
              obtain ⟨y, hy, hy2⟩ := HNX.out (by omega)
              have hs := HS_.out
              have hKsub : ∀ r ∈ kno l (mi : Int), r ∈ l ∧ r.min ≤ (mi : Int) := fun r hr => by
                have := List.mem_filter.1 hr
                exact ⟨this.1, by simpa using this.2⟩
              have hKro : ∀ r ∈ kno l (mi : Int), ROk s r := fun r hr => HRO.out r (hKsub r hr).1
              have hKl : (kno l (mi : Int)).length ≤ 12 := Nat.le_trans (List.length_filter_le _ _) h12
              have hKrs : rdsE s.tools.length (kno l (mi : Int)) = 0 := rdsE_ok.2 ⟨hKl, hKro⟩
              have hwt : watE s (kno l (mi : Int)) ((un : Int) + 1) = 0 := by
                have hwi2 : wi 0 60 ((un : Int) + 1) = true := wi_iff.2 (by omega)
                simp [watE, HCK.out, hKrs, hwi2, hy]
              have hrf := refusal_some hwt hy hy2
              rw [kno_kno (by omega), show ((un : Int) + 1).toNat = un + 1 by omega] at hrf
              have hy' := hy
              unfold now at hy'
              rw [kno_kno (by omega), show ((un : Int) + 1).toNat = un + 1 by omega] at hy'
              have hyv := vd_lv (s := s) (l := kno l (mi : Int)) (m := 0) (vd_start hs) (un + 1) y hy'
              obtain ⟨T, hT, hT0, hTn, hTb, hTs, hTf⟩ := tru_ok hs (l := kno l (mi : Int)) (n := un + 1) (last := max y.1 (s.lim + 1)) ⟨y, hy', by omega, by omega⟩
              have hR := refusal_c s m KA (kno l (mi : Int)) kc ((un : Int) + 1) wr (hsa.keep hSk.sn.1) hc1 hc2 hrdK
              rw [hrf, hT] at hR
              have hw9 : IntKind.i64.wrap ((un : Int) + 1) = (un : Int) + 1 := IntWalk.i64_in _ (by omega)
              obtain ⟨c0, c1, c2, c3, c4, c5, c6, c7, c8⟩ := hSk.bk.space
              have HGT : Hid (decide (s.lim < T (un + 1)) = true) := by show _ = _; rw [hTn]; exact decide_eq_true (by omega)
              have HST : Hid (∀ (W : World) (ad : Addr), Sp w s m W → RdAt W KA (kno l (mi : Int)) → Tr W (some ad) T (un + 2) → Calls Try.prog 37 #[.agg (sV s m), .slice KA (kno l (mi : Int)).length kc, .slice (some ad) (un + 2) (un + 2), .int .i64 (mi : Int)] W fun e w' => e = .returned (.bool true) ∧ Below W.heap.size W w') := fun W ad hW hrW hTr =>
                steps_c s m KA (kno l (mi : Int)) kc (some ad) T (un + 2) (un + 2) (mi : Int) W hs (hsa.keep hW.sn.1) hrW hc1 hc2 hTr (by omega) hKl hKro (fun _ => hT0) (fun k hk => hTb k (by omega)) (fun k hk => hTs k (by omega)) (fun r hr h1 h2 => hTf r hr (hKro r hr).m0 (by omega))
              clear hT hT0 hTn hTb hTs hTf hrf hwt hKrs hy hy' hyv hy2 HO HNX HRO
              go_wp2_with fail
              refine hR.mono ?_
              rintro e w5 ⟨⟨g, n, rfl, hn, hI⟩, hb5⟩
              obtain rfl : n = un + 2 := by simpa using hn
              have hS := hSk.keep hb5
              have hrK5 := hrdK.keep hb5
              have hI : Tr w5 g T (un + 2) := hI
              clear c0 c1 c2 c3 c4 c5 c6 c7 c8 hR hn hSk hb5 hrdK
              obtain ⟨ad, rfl⟩ : ∃ ad, g = some ad := by
                obtain ⟨a, ha, _⟩ := hI (by intro e; have := congrArg List.length e; simp at this)
                exact ⟨a, ha⟩
              have HST : Hid (∀ W, Sp w s m W → RdAt W KA (kno l (mi : Int)) ∧ Tr W (some ad) T (un + 2) → Calls Try.prog 37 #[.agg (sV s m), .slice KA (kno l (mi : Int)).length kc, .slice (some ad) (un + 2) (un + 2), .int .i64 (mi : Int)] W fun e w' => e = .returned (.bool true) ∧ Below W.heap.size W w') := fun W hW hrW => HST.out W ad hW hrW.1 hrW.2
              have hI : RdAt w5 KA (kno l (mi : Int)) ∧ Tr w5 (some ad) T (un + 2) := ⟨hrK5, hI⟩
              have HWA : Hid (IntKind.i64.wrap ((un : Int) + 2) = ((un + 2 : Nat) : Int)) := by show _ = _; rw [IntWalk.i64_in _ (by omega)]; push_cast; rfl
              have HWB : Hid (IntKind.i64.wrap ((un : Int) + 1) = ((un + 1 : Nat) : Int)) := by show _ = _; rw [IntWalk.i64_in _ (by omega)]; push_cast; rfl
              have HMI : Hid (((un + 1 : Nat) : Int) < ((un + 2 : Nat) : Int)) := by show _ < _; omega
              have HT : Hid (un + 1 < un + 2) := by show _ < _; omega
              clear hw9
              go_wp2_with fail
              refine Vals9.region (fun _ Z => Sp w s m Z ∧ RdAt Z KA (kno l (mi : Int)) ∧ Tr Z (some ad) T (un + 2)) [some 136, some 137, some 138, some 139, some 140, some 141, some 142, some 143, some 144, some 145, some 146, some 147, some 148, some 149, some 150, some 151, some 152, some 153, some 154, some 155, some 156, some 157, some 158, some 159, some 160, some 161, some 162, some 163, some 164, some 6] [.is ?_, .is ?_, .is ?_, .is ?_, .is ?_, .is ?_, .is (.int .i64 ((un + 2 : Nat) : Int)), .is (.bool true), .is ?_, .is ?_, .is ?_, .is ?_, .is ?_, .is ?_, .is (.bool true), .is ?_, .is ?_, .is ?_, .is ?_, .is (.int .i64 ((un + 1 : Nat) : Int)), .is ?_, .is (.int .i64 (T (un + 1))), .is ?_, .is ?_, .is (.bool true), .is ?_, .is ?_, .is (.bool true), .is ?_, .is ?_] (by kernel_rfl) (by kernel_rfl) (by kernel_rfl) (by kernel_rfl) (by kernel_rfl) (by kernel_rfl) (⟨hS.drew, hI⟩) ?hsteps ?hfin
              case hsteps =>
                refine Vals9.Steps.run rfl ?_ ?_
                · intro a W σ hJ pre K hK
                  have e15 := pre.2.2 15 _ (by kernel_rfl) rfl
                  clear pre
                  simp only [Array.getD_eq_getD_getElem?, List.getElem?_toArray, List.getElem?_cons_zero, List.getElem?_cons_succ, Option.getD_some] at e15
                  go_simp
                  exact hK _ hJ
                refine Vals9.Steps.run rfl ?_ ?_
                · intro a W σ hJ pre K hK
                  have e136 := pre.1 0 136 _ (by kernel_rfl) rfl rfl
                  clear pre
                  simp only [Array.getD_eq_getD_getElem?, List.getElem?_toArray, List.getElem?_cons_zero, List.getElem?_cons_succ, Option.getD_some] at e136
                  go_simp
                  exact hK _ hJ
                refine Vals9.Steps.run rfl ?_ ?_
                · intro a W σ hJ pre K hK
                  have e137 := pre.1 1 137 _ (by kernel_rfl) rfl rfl
                  clear pre
                  simp only [Array.getD_eq_getD_getElem?, List.getElem?_toArray, List.getElem?_cons_zero, List.getElem?_cons_succ, Option.getD_some] at e137
                  go_simp
                  exact hK _ hJ
                refine Vals9.Steps.run rfl ?_ ?_
                · intro a W σ hJ pre K hK
                  have e14 := pre.2.2 14 _ (by kernel_rfl) rfl
                  clear pre
                  simp only [Array.getD_eq_getD_getElem?, List.getElem?_toArray, List.getElem?_cons_zero, List.getElem?_cons_succ, Option.getD_some] at e14
                  go_simp
                  exact hK _ hJ
                refine Vals9.Steps.run rfl ?_ ?_
                · intro a W σ hJ pre K hK
                  have e139 := pre.1 3 139 _ (by kernel_rfl) rfl rfl
                  clear pre
                  simp only [Array.getD_eq_getD_getElem?, List.getElem?_toArray, List.getElem?_cons_zero, List.getElem?_cons_succ, Option.getD_some] at e139
                  go_simp
                  exact hK _ hJ
                refine Vals9.Steps.run rfl ?_ ?_
                · intro a W σ hJ pre K hK
                  have e8 := pre.2.2 8 _ (by kernel_rfl) rfl
                  clear pre
                  simp only [Array.getD_eq_getD_getElem?, List.getElem?_toArray, List.getElem?_cons_zero, List.getElem?_cons_succ, Option.getD_some] at e8
                  go_simp
                  exact hK _ hJ
                refine Vals9.Steps.run rfl ?_ ?_
                · intro a W σ hJ pre K hK
                  have e141 := pre.1 5 141 _ (by kernel_rfl) rfl rfl
                  clear pre
                  simp only [Array.getD_eq_getD_getElem?, List.getElem?_toArray, List.getElem?_cons_zero, List.getElem?_cons_succ, Option.getD_some] at e141
                  have hw9 := HWA.out
                  go_simp
                  exact hK _ hJ
                refine Vals9.Steps.run rfl ?_ ?_
                · intro a W σ hJ pre K hK
                  have e140 := pre.1 4 140 _ (by kernel_rfl) rfl rfl
                  have e142 := pre.1 6 142 _ (by kernel_rfl) rfl rfl
                  clear pre
                  simp only [Array.getD_eq_getD_getElem?, List.getElem?_toArray, List.getElem?_cons_zero, List.getElem?_cons_succ, Option.getD_some] at e140 e142
                  go_simp
                  exact hK _ hJ
                refine Vals9.Steps.run rfl ?_ ?_
                · intro a W σ hJ pre K hK
                  have e138 := pre.1 2 138 _ (by kernel_rfl) rfl rfl
                  have e143 := pre.1 7 143 _ (by kernel_rfl) rfl rfl
                  clear pre
                  simp only [Array.getD_eq_getD_getElem?, List.getElem?_toArray, List.getElem?_cons_zero, List.getElem?_cons_succ, Option.getD_some] at e138 e143
                  go_simp
                  exact hK _ hJ
                refine Vals9.Steps.run rfl ?_ ?_
                · intro a W σ hJ pre K hK
                  have e144 := pre.1 8 144 _ (by kernel_rfl) rfl rfl
                  clear pre
                  simp only [Array.getD_eq_getD_getElem?, List.getElem?_toArray, List.getElem?_cons_zero, List.getElem?_cons_succ, Option.getD_some] at e144
                  go_simp
                  exact hK _ hJ
                refine Vals9.Steps.run rfl ?_ ?_
                · intro a W σ hJ pre K hK
                  have e3 := pre.2.2 3 _ (by kernel_rfl) rfl
                  clear pre
                  simp only [Array.getD_eq_getD_getElem?, List.getElem?_toArray, List.getElem?_cons_zero, List.getElem?_cons_succ, Option.getD_some] at e3
                  have hS9 := hJ
                  obtain ⟨l1, l2⟩ := hS9
                  obtain ⟨c0, c1, c2, c3, c4, c5, c6, c7, c8⟩ := l1.bk.space
                  go_simp
                  exact hK _ hJ
                refine Vals9.Steps.run rfl ?_ ?_
                · intro a W σ hJ pre K hK
                  have e12 := pre.2.2 12 _ (by kernel_rfl) rfl
                  clear pre
                  simp only [Array.getD_eq_getD_getElem?, List.getElem?_toArray, List.getElem?_cons_zero, List.getElem?_cons_succ, Option.getD_some] at e12
                  go_simp
                  exact hK _ hJ
                refine Vals9.Steps.run rfl ?_ ?_
                · intro a W σ hJ pre K hK
                  have e14 := pre.2.2 14 _ (by kernel_rfl) rfl
                  clear pre
                  simp only [Array.getD_eq_getD_getElem?, List.getElem?_toArray, List.getElem?_cons_zero, List.getElem?_cons_succ, Option.getD_some] at e14
                  go_simp
                  exact hK _ hJ
                refine Vals9.Steps.run rfl ?_ ?_
                · intro a W σ hJ pre K hK
                  have e7 := pre.2.2 7 _ (by kernel_rfl) rfl
                  clear pre
                  simp only [Array.getD_eq_getD_getElem?, List.getElem?_toArray, List.getElem?_cons_zero, List.getElem?_cons_succ, Option.getD_some] at e7
                  go_simp
                  exact hK _ hJ
                refine Vals9.Steps.run rfl ?_ ?_
                · intro a W σ hJ pre K hK
                  have e146 := pre.1 10 146 _ (by kernel_rfl) rfl rfl
                  have e147 := pre.1 11 147 _ (by kernel_rfl) rfl rfl
                  have e148 := pre.1 12 148 _ (by kernel_rfl) rfl rfl
                  have e149 := pre.1 13 149 _ (by kernel_rfl) rfl rfl
                  clear pre
                  simp only [Array.getD_eq_getD_getElem?, List.getElem?_toArray, List.getElem?_cons_zero, List.getElem?_cons_succ, Option.getD_some] at e146 e147 e148 e149
                  have hst := HST.out _ hJ.1 hJ.2
                  go_simp
                  refine hst.mono ?_
                  rintro e w' ⟨rfl, hb'⟩
                  exact hK _ ⟨hJ.1.keep hb', hJ.2.1.keep hb', hJ.2.2.keep hb'⟩
                refine Vals9.Steps.run rfl ?_ ?_
                · intro a W σ hJ pre K hK
                  have e145 := pre.1 9 145 _ (by kernel_rfl) rfl rfl
                  have e150 := pre.1 14 150 _ (by kernel_rfl) rfl rfl
                  clear pre
                  simp only [Array.getD_eq_getD_getElem?, List.getElem?_toArray, List.getElem?_cons_zero, List.getElem?_cons_succ, Option.getD_some] at e145 e150
                  go_simp
                  exact hK _ hJ
                refine Vals9.Steps.run rfl ?_ ?_
                · intro a W σ hJ pre K hK
                  have e151 := pre.1 15 151 _ (by kernel_rfl) rfl rfl
                  clear pre
                  simp only [Array.getD_eq_getD_getElem?, List.getElem?_toArray, List.getElem?_cons_zero, List.getElem?_cons_succ, Option.getD_some] at e151
                  go_simp
                  exact hK _ hJ
                refine Vals9.Steps.run rfl ?_ ?_
                · intro a W σ hJ pre K hK
                  have e14 := pre.2.2 14 _ (by kernel_rfl) rfl
                  clear pre
                  simp only [Array.getD_eq_getD_getElem?, List.getElem?_toArray, List.getElem?_cons_zero, List.getElem?_cons_succ, Option.getD_some] at e14
                  go_simp
                  exact hK _ hJ
                refine Vals9.Steps.run rfl ?_ ?_
                · intro a W σ hJ pre K hK
                  have e8 := pre.2.2 8 _ (by kernel_rfl) rfl
                  clear pre
                  simp only [Array.getD_eq_getD_getElem?, List.getElem?_toArray, List.getElem?_cons_zero, List.getElem?_cons_succ, Option.getD_some] at e8
                  go_simp
                  exact hK _ hJ
                refine Vals9.Steps.run rfl ?_ ?_
                · intro a W σ hJ pre K hK
                  have e154 := pre.1 18 154 _ (by kernel_rfl) rfl rfl
                  clear pre
                  simp only [Array.getD_eq_getD_getElem?, List.getElem?_toArray, List.getElem?_cons_zero, List.getElem?_cons_succ, Option.getD_some] at e154
                  have hw9 := HWB.out
                  go_simp
                  exact hK _ hJ
                refine Vals9.Steps.run rfl ?_ ?_
                · intro a W σ hJ pre K hK
                  have e153 := pre.1 17 153 _ (by kernel_rfl) rfl rfl
                  have e155 := pre.1 19 155 _ (by kernel_rfl) rfl rfl
                  clear pre
                  simp only [Array.getD_eq_getD_getElem?, List.getElem?_toArray, List.getElem?_cons_zero, List.getElem?_cons_succ, Option.getD_some] at e153 e155
                  have hmi := HMI.out
                  go_simp
                  exact hK _ hJ
                refine Vals9.Steps.run rfl ?_ ?_
                · intro a W σ hJ pre K hK
                  have e156 := pre.1 20 156 _ (by kernel_rfl) rfl rfl
                  clear pre
                  simp only [Array.getD_eq_getD_getElem?, List.getElem?_toArray, List.getElem?_cons_zero, List.getElem?_cons_succ, Option.getD_some] at e156
                  have q0 := hJ.2.2.at HT.out
                  have q1 : W.cell? { block := ad.block, off := ad.off + (un + 1) } = some (.int .i64 (T (un + 1))) := by have := q0; unfold Addr.add at this; rwa [if_neg (by omega)] at this
                  go_simp
                  exact hK _ hJ
                refine Vals9.Steps.run rfl ?_ ?_
                · intro a W σ hJ pre K hK
                  have e3 := pre.2.2 3 _ (by kernel_rfl) rfl
                  clear pre
                  simp only [Array.getD_eq_getD_getElem?, List.getElem?_toArray, List.getElem?_cons_zero, List.getElem?_cons_succ, Option.getD_some] at e3
                  go_simp
                  exact hK _ hJ
                refine Vals9.Steps.run rfl ?_ ?_
                · intro a W σ hJ pre K hK
                  have e158 := pre.1 22 158 _ (by kernel_rfl) rfl rfl
                  clear pre
                  simp only [Array.getD_eq_getD_getElem?, List.getElem?_toArray, List.getElem?_cons_zero, List.getElem?_cons_succ, Option.getD_some] at e158
                  have hS9 := hJ
                  obtain ⟨l1, l2⟩ := hS9
                  obtain ⟨c0, c1, c2, c3, c4, c5, c6, c7, c8⟩ := l1.bk.space
                  go_simp
                  exact hK _ hJ
                refine Vals9.Steps.run rfl ?_ ?_
                · intro a W σ hJ pre K hK
                  have e157 := pre.1 21 157 _ (by kernel_rfl) rfl rfl
                  have e159 := pre.1 23 159 _ (by kernel_rfl) rfl rfl
                  clear pre
                  simp only [Array.getD_eq_getD_getElem?, List.getElem?_toArray, List.getElem?_cons_zero, List.getElem?_cons_succ, Option.getD_some] at e157 e159
                  have hgt := HGT.out
                  go_simp
                  exact hK _ hJ
                refine Vals9.Steps.run rfl ?_ ?_
                · intro a W σ hJ pre K hK
                  have e152 := pre.1 16 152 _ (by kernel_rfl) rfl rfl
                  have e160 := pre.1 24 160 _ (by kernel_rfl) rfl rfl
                  clear pre
                  simp only [Array.getD_eq_getD_getElem?, List.getElem?_toArray, List.getElem?_cons_zero, List.getElem?_cons_succ, Option.getD_some] at e152 e160
                  go_simp
                  exact hK _ hJ
                refine Vals9.Steps.run rfl ?_ ?_
                · intro a W σ hJ pre K hK
                  have e161 := pre.1 25 161 _ (by kernel_rfl) rfl rfl
                  clear pre
                  simp only [Array.getD_eq_getD_getElem?, List.getElem?_toArray, List.getElem?_cons_zero, List.getElem?_cons_succ, Option.getD_some] at e161
                  go_simp
                  exact hK _ hJ
                refine Vals9.Steps.run rfl ?_ ?_
                · intro a W σ hJ pre K hK
                  clear pre
                  go_simp
                  refine (awake_c _).mono ?_
                  rintro e w' ⟨rfl, hb'⟩
                  exact hK _ ⟨hJ.1.keep hb', hJ.2.1.keep hb', hJ.2.2.keep hb'⟩
                refine Vals9.Steps.run rfl ?_ ?_
                · intro a W σ hJ pre K hK
                  have e162 := pre.1 26 162 _ (by kernel_rfl) rfl rfl
                  have e163 := pre.1 27 163 _ (by kernel_rfl) rfl rfl
                  clear pre
                  simp only [Array.getD_eq_getD_getElem?, List.getElem?_toArray, List.getElem?_cons_zero, List.getElem?_cons_succ, Option.getD_some] at e162 e163
                  go_simp
                  exact hK _ hJ
                refine Vals9.Steps.run rfl ?_ ?_
                · intro a W σ hJ pre K hK
                  have e164 := pre.1 28 164 _ (by kernel_rfl) rfl rfl
                  clear pre
                  simp only [Array.getD_eq_getD_getElem?, List.getElem?_toArray, List.getElem?_cons_zero, List.getElem?_cons_succ, Option.getD_some] at e164
                  go_simp
                  exact hK _ hJ
                exact Vals9.Steps.nil
              case hfin =>
                intro Y σ hJ
                simp only [Vals9.All]
                simp only [Vals.putAll, List.setIfInBounds_toArray, List.set_cons_zero, List.set_cons_succ]
                have hY := hJ.1
                clear hJ
                go_wp2_with fail
                go_ret
                exact ⟨rfl, hY.sn.1⟩
      · have hrf := refusal_some hwt hx (by omega)
        rw [Int.toNat_natCast] at hrf
        obtain ⟨T, hT, hT0, hTn, hTb, hTs, hTf⟩ := tru_ok hs (l := kno l (mi : Int)) (n := mi) (last := max x.1 (s.lim + 1)) ⟨x, hx', by omega, by omega⟩
        rw [hrf, hT] at hR
        have hun : untl s (kno l (mi : Int)) (mi : Int) (some x) = -1 := by
          obtain ⟨hge1, _, _, hge4⟩ := hge
          exact hge4 (by have := mt hge1.1 hlim; omega)
        rw [hun] at hU
        have HGT : Hid (decide (s.lim < T mi) = true) := by show _ = _; rw [hTn]; exact decide_eq_true (by omega)
        have HST : Hid (∀ (ad : Addr) (W : World), Sp w s m W → Tr W (some ad) T (mi + 1) → Calls Try.prog 37 #[.agg (sV s m), .slice A l.length c, .slice (some ad) (mi + 1) (mi + 1), .int .i64 (mi : Int)] W fun e w' => e = .returned (.bool true) ∧ Below W.heap.size W w') := fun ad W hW hTr =>
          steps_c s m A l c (some ad) T (mi + 1) (mi + 1) (mi : Int) W hs (hsa.keep hW.sn.1) (hrd.keep hW.sn.1) hc hcM hTr (by omega) h12 hro (fun _ => hT0) (fun k hk => hTb k (by omega)) (fun k hk => hTs k (by omega)) (fun r hr h1 h2 => hTf r (List.mem_filter.2 ⟨hr, by simpa using h2⟩) (hro r hr).m0 (by omega))
        clear hge hun hT hT0 hTn hTb hTs hTf hu hwt hx hx' hg0 hv hrf
        go_wp2_with fail
        refine (hU _ hS).mono ?_
        rintro e w2 ⟨rfl, hb2⟩
        have hS2 := hS.keep hb2
        clear c0 c1 c2 c3 c4 c5 c6 c7 c8 hem htm hw8 hS hb2 hU
        obtain ⟨c0, c1, c2, c3, c4, c5, c6, c7, c8⟩ := hS2.bk.space
        go_wp2_with fail
        refine (hR _ hS2).mono ?_
        rintro e w3 ⟨⟨g, n, rfl, hn, hI⟩, hb3⟩
        obtain rfl : n = mi + 1 := by simpa using hn
        have hS := hS2.keep hb3
        have hI : Tr w3 g T (mi + 1) := hI
        clear c0 c1 c2 c3 c4 c5 c6 c7 c8 hR hn hS2 hb3
        obtain ⟨ad, rfl⟩ : ∃ ad, g = some ad := by
          obtain ⟨a, ha, _⟩ := hI (by intro e; have := congrArg List.length e; simp at this)
          exact ⟨a, ha⟩
        have HST := Lib.hid (HST.out ad)
        have HWA : Hid (IntKind.i64.wrap ((mi : Int) + 1) = ((mi + 1 : Nat) : Int)) := by show _ = _; rw [IntWalk.i64_in _ (by omega)]; push_cast; rfl
        have HMI : Hid ((mi : Int) < ((mi + 1 : Nat) : Int)) := by show _ < _; omega
        have HT : Hid (mi < mi + 1) := Nat.lt_succ_self _
        go_wp2_with fail
        refine Vals9.region (fun _ Z => Sp w s m Z ∧ Tr Z (some ad) T (mi + 1)) [some 61, some 62, some 63, some 64, some 65, some 66, some 67, some 68, some 69, some 70, some 71, some 72, some 73, some 74, some 75, some 76, some 77, some 78, some 79, some 80, some 81, some 82, some 83, some 84, some 85, some 86, some 87, some 88, some 6] [.is ?_, .is ?_, .is ?_, .is ?_, .is ?_, .is ?_, .is (.int .i64 ((mi + 1 : Nat) : Int)), .is (.bool true), .is ?_, .is ?_, .is ?_, .is ?_, .is ?_, .is ?_, .is (.bool true), .is ?_, .is ?_, .is ?_, .is ?_, .is ?_, .is (.int .i64 (T mi)), .is ?_, .is ?_, .is (.bool true), .is ?_, .is ?_, .is (.bool true), .is ?_, .is ?_] (by kernel_rfl) (by kernel_rfl) (by kernel_rfl) (by kernel_rfl) (by kernel_rfl) (by kernel_rfl) (⟨hS.drew, hI⟩) ?hsteps ?hfin
        case hsteps =>
          refine Vals9.Steps.run rfl ?_ ?_
          · intro a W σ hJ pre K hK
            have e11 := pre.2.2 11 _ (by kernel_rfl) rfl
            clear pre
            simp only [Array.getD_eq_getD_getElem?, List.getElem?_toArray, List.getElem?_cons_zero, List.getElem?_cons_succ, Option.getD_some] at e11
            go_simp
            exact hK _ hJ
          refine Vals9.Steps.run rfl ?_ ?_
          · intro a W σ hJ pre K hK
            have e61 := pre.1 0 61 _ (by kernel_rfl) rfl rfl
            clear pre
            simp only [Array.getD_eq_getD_getElem?, List.getElem?_toArray, List.getElem?_cons_zero, List.getElem?_cons_succ, Option.getD_some] at e61
            go_simp
            exact hK _ hJ
          refine Vals9.Steps.run rfl ?_ ?_
          · intro a W σ hJ pre K hK
            have e62 := pre.1 1 62 _ (by kernel_rfl) rfl rfl
            clear pre
            simp only [Array.getD_eq_getD_getElem?, List.getElem?_toArray, List.getElem?_cons_zero, List.getElem?_cons_succ, Option.getD_some] at e62
            go_simp
            exact hK _ hJ
          refine Vals9.Steps.run rfl ?_ ?_
          · intro a W σ hJ pre K hK
            have e10 := pre.2.2 10 _ (by kernel_rfl) rfl
            clear pre
            simp only [Array.getD_eq_getD_getElem?, List.getElem?_toArray, List.getElem?_cons_zero, List.getElem?_cons_succ, Option.getD_some] at e10
            go_simp
            exact hK _ hJ
          refine Vals9.Steps.run rfl ?_ ?_
          · intro a W σ hJ pre K hK
            have e64 := pre.1 3 64 _ (by kernel_rfl) rfl rfl
            clear pre
            simp only [Array.getD_eq_getD_getElem?, List.getElem?_toArray, List.getElem?_cons_zero, List.getElem?_cons_succ, Option.getD_some] at e64
            go_simp
            exact hK _ hJ
          refine Vals9.Steps.run rfl ?_ ?_
          · intro a W σ hJ pre K hK
            have e7 := pre.2.2 7 _ (by kernel_rfl) rfl
            clear pre
            simp only [Array.getD_eq_getD_getElem?, List.getElem?_toArray, List.getElem?_cons_zero, List.getElem?_cons_succ, Option.getD_some] at e7
            go_simp
            exact hK _ hJ
          refine Vals9.Steps.run rfl ?_ ?_
          · intro a W σ hJ pre K hK
            have e66 := pre.1 5 66 _ (by kernel_rfl) rfl rfl
            clear pre
            simp only [Array.getD_eq_getD_getElem?, List.getElem?_toArray, List.getElem?_cons_zero, List.getElem?_cons_succ, Option.getD_some] at e66
            have hw9 := HWA.out
            go_simp
            exact hK _ hJ
          refine Vals9.Steps.run rfl ?_ ?_
          · intro a W σ hJ pre K hK
            have e65 := pre.1 4 65 _ (by kernel_rfl) rfl rfl
            have e67 := pre.1 6 67 _ (by kernel_rfl) rfl rfl
            clear pre
            simp only [Array.getD_eq_getD_getElem?, List.getElem?_toArray, List.getElem?_cons_zero, List.getElem?_cons_succ, Option.getD_some] at e65 e67
            go_simp
            exact hK _ hJ
          refine Vals9.Steps.run rfl ?_ ?_
          · intro a W σ hJ pre K hK
            have e63 := pre.1 2 63 _ (by kernel_rfl) rfl rfl
            have e68 := pre.1 7 68 _ (by kernel_rfl) rfl rfl
            clear pre
            simp only [Array.getD_eq_getD_getElem?, List.getElem?_toArray, List.getElem?_cons_zero, List.getElem?_cons_succ, Option.getD_some] at e63 e68
            go_simp
            exact hK _ hJ
          refine Vals9.Steps.run rfl ?_ ?_
          · intro a W σ hJ pre K hK
            have e69 := pre.1 8 69 _ (by kernel_rfl) rfl rfl
            clear pre
            simp only [Array.getD_eq_getD_getElem?, List.getElem?_toArray, List.getElem?_cons_zero, List.getElem?_cons_succ, Option.getD_some] at e69
            go_simp
            exact hK _ hJ
          refine Vals9.Steps.run rfl ?_ ?_
          · intro a W σ hJ pre K hK
            have e3 := pre.2.2 3 _ (by kernel_rfl) rfl
            clear pre
            simp only [Array.getD_eq_getD_getElem?, List.getElem?_toArray, List.getElem?_cons_zero, List.getElem?_cons_succ, Option.getD_some] at e3
            have hS9 := hJ
            obtain ⟨l1, l2⟩ := hS9
            obtain ⟨c0, c1, c2, c3, c4, c5, c6, c7, c8⟩ := l1.bk.space
            go_simp
            exact hK _ hJ
          refine Vals9.Steps.run rfl ?_ ?_
          · intro a W σ hJ pre K hK
            have e1 := pre.2.2 1 _ (by kernel_rfl) rfl
            clear pre
            simp only [Array.getD_eq_getD_getElem?, List.getElem?_toArray, List.getElem?_cons_zero, List.getElem?_cons_succ, Option.getD_some] at e1
            go_simp
            exact hK _ hJ
          refine Vals9.Steps.run rfl ?_ ?_
          · intro a W σ hJ pre K hK
            have e10 := pre.2.2 10 _ (by kernel_rfl) rfl
            clear pre
            simp only [Array.getD_eq_getD_getElem?, List.getElem?_toArray, List.getElem?_cons_zero, List.getElem?_cons_succ, Option.getD_some] at e10
            go_simp
            exact hK _ hJ
          refine Vals9.Steps.run rfl ?_ ?_
          · intro a W σ hJ pre K hK
            have e7 := pre.2.2 7 _ (by kernel_rfl) rfl
            clear pre
            simp only [Array.getD_eq_getD_getElem?, List.getElem?_toArray, List.getElem?_cons_zero, List.getElem?_cons_succ, Option.getD_some] at e7
            go_simp
            exact hK _ hJ
          refine Vals9.Steps.run rfl ?_ ?_
          · intro a W σ hJ pre K hK
            have e71 := pre.1 10 71 _ (by kernel_rfl) rfl rfl
            have e72 := pre.1 11 72 _ (by kernel_rfl) rfl rfl
            have e73 := pre.1 12 73 _ (by kernel_rfl) rfl rfl
            have e74 := pre.1 13 74 _ (by kernel_rfl) rfl rfl
            clear pre
            simp only [Array.getD_eq_getD_getElem?, List.getElem?_toArray, List.getElem?_cons_zero, List.getElem?_cons_succ, Option.getD_some] at e71 e72 e73 e74
            have hst := HST.out _ hJ.1 hJ.2
            go_simp
            refine hst.mono ?_
            rintro e w' ⟨rfl, hb'⟩
            exact hK _ ⟨hJ.1.keep hb', hJ.2.keep hb'⟩
          refine Vals9.Steps.run rfl ?_ ?_
          · intro a W σ hJ pre K hK
            have e70 := pre.1 9 70 _ (by kernel_rfl) rfl rfl
            have e75 := pre.1 14 75 _ (by kernel_rfl) rfl rfl
            clear pre
            simp only [Array.getD_eq_getD_getElem?, List.getElem?_toArray, List.getElem?_cons_zero, List.getElem?_cons_succ, Option.getD_some] at e70 e75
            go_simp
            exact hK _ hJ
          refine Vals9.Steps.run rfl ?_ ?_
          · intro a W σ hJ pre K hK
            have e76 := pre.1 15 76 _ (by kernel_rfl) rfl rfl
            clear pre
            simp only [Array.getD_eq_getD_getElem?, List.getElem?_toArray, List.getElem?_cons_zero, List.getElem?_cons_succ, Option.getD_some] at e76
            go_simp
            exact hK _ hJ
          refine Vals9.Steps.run rfl ?_ ?_
          · intro a W σ hJ pre K hK
            have e10 := pre.2.2 10 _ (by kernel_rfl) rfl
            clear pre
            simp only [Array.getD_eq_getD_getElem?, List.getElem?_toArray, List.getElem?_cons_zero, List.getElem?_cons_succ, Option.getD_some] at e10
            go_simp
            exact hK _ hJ
          refine Vals9.Steps.run rfl ?_ ?_
          · intro a W σ hJ pre K hK
            have e7 := pre.2.2 7 _ (by kernel_rfl) rfl
            clear pre
            simp only [Array.getD_eq_getD_getElem?, List.getElem?_toArray, List.getElem?_cons_zero, List.getElem?_cons_succ, Option.getD_some] at e7
            go_simp
            exact hK _ hJ
          refine Vals9.Steps.run rfl ?_ ?_
          · intro a W σ hJ pre K hK
            have e78 := pre.1 17 78 _ (by kernel_rfl) rfl rfl
            have e79 := pre.1 18 79 _ (by kernel_rfl) rfl rfl
            clear pre
            simp only [Array.getD_eq_getD_getElem?, List.getElem?_toArray, List.getElem?_cons_zero, List.getElem?_cons_succ, Option.getD_some] at e78 e79
            go_simp
            rw [if_pos (by omega)]
            go_simp
            exact hK _ hJ
          refine Vals9.Steps.run rfl ?_ ?_
          · intro a W σ hJ pre K hK
            have e80 := pre.1 19 80 _ (by kernel_rfl) rfl rfl
            clear pre
            simp only [Array.getD_eq_getD_getElem?, List.getElem?_toArray, List.getElem?_cons_zero, List.getElem?_cons_succ, Option.getD_some] at e80
            have q0 := hJ.2.at HT.out
            go_simp
            exact hK _ hJ
          refine Vals9.Steps.run rfl ?_ ?_
          · intro a W σ hJ pre K hK
            have e3 := pre.2.2 3 _ (by kernel_rfl) rfl
            clear pre
            simp only [Array.getD_eq_getD_getElem?, List.getElem?_toArray, List.getElem?_cons_zero, List.getElem?_cons_succ, Option.getD_some] at e3
            go_simp
            exact hK _ hJ
          refine Vals9.Steps.run rfl ?_ ?_
          · intro a W σ hJ pre K hK
            have e82 := pre.1 21 82 _ (by kernel_rfl) rfl rfl
            clear pre
            simp only [Array.getD_eq_getD_getElem?, List.getElem?_toArray, List.getElem?_cons_zero, List.getElem?_cons_succ, Option.getD_some] at e82
            have hS9 := hJ
            obtain ⟨l1, l2⟩ := hS9
            obtain ⟨c0, c1, c2, c3, c4, c5, c6, c7, c8⟩ := l1.bk.space
            go_simp
            exact hK _ hJ
          refine Vals9.Steps.run rfl ?_ ?_
          · intro a W σ hJ pre K hK
            have e81 := pre.1 20 81 _ (by kernel_rfl) rfl rfl
            have e83 := pre.1 22 83 _ (by kernel_rfl) rfl rfl
            clear pre
            simp only [Array.getD_eq_getD_getElem?, List.getElem?_toArray, List.getElem?_cons_zero, List.getElem?_cons_succ, Option.getD_some] at e81 e83
            have hgt := HGT.out
            go_simp
            exact hK _ hJ
          refine Vals9.Steps.run rfl ?_ ?_
          · intro a W σ hJ pre K hK
            have e77 := pre.1 16 77 _ (by kernel_rfl) rfl rfl
            have e84 := pre.1 23 84 _ (by kernel_rfl) rfl rfl
            clear pre
            simp only [Array.getD_eq_getD_getElem?, List.getElem?_toArray, List.getElem?_cons_zero, List.getElem?_cons_succ, Option.getD_some] at e77 e84
            go_simp
            exact hK _ hJ
          refine Vals9.Steps.run rfl ?_ ?_
          · intro a W σ hJ pre K hK
            have e85 := pre.1 24 85 _ (by kernel_rfl) rfl rfl
            clear pre
            simp only [Array.getD_eq_getD_getElem?, List.getElem?_toArray, List.getElem?_cons_zero, List.getElem?_cons_succ, Option.getD_some] at e85
            go_simp
            exact hK _ hJ
          refine Vals9.Steps.run rfl ?_ ?_
          · intro a W σ hJ pre K hK
            clear pre
            go_simp
            refine (awake_c _).mono ?_
            rintro e w' ⟨rfl, hb'⟩
            exact hK _ ⟨hJ.1.keep hb', hJ.2.keep hb'⟩
          refine Vals9.Steps.run rfl ?_ ?_
          · intro a W σ hJ pre K hK
            have e86 := pre.1 25 86 _ (by kernel_rfl) rfl rfl
            have e87 := pre.1 26 87 _ (by kernel_rfl) rfl rfl
            clear pre
            simp only [Array.getD_eq_getD_getElem?, List.getElem?_toArray, List.getElem?_cons_zero, List.getElem?_cons_succ, Option.getD_some] at e86 e87
            go_simp
            exact hK _ hJ
          refine Vals9.Steps.run rfl ?_ ?_
          · intro a W σ hJ pre K hK
            have e88 := pre.1 27 88 _ (by kernel_rfl) rfl rfl
            clear pre
            simp only [Array.getD_eq_getD_getElem?, List.getElem?_toArray, List.getElem?_cons_zero, List.getElem?_cons_succ, Option.getD_some] at e88
            go_simp
            exact hK _ hJ
          exact Vals9.Steps.nil
        case hfin =>
          intro Y σ hJ
          simp only [Vals9.All]
          simp only [Vals.putAll, List.setIfInBounds_toArray, List.set_cons_zero, List.set_cons_succ]
          have hY := hJ.1
          clear hJ
          go_wp2_with fail
          go_ret
          exact ⟨rfl, hY.sn.1⟩
  · have hr0' : (rdgE s l == 0) = false := by simpa using hr0
    have hr1 : (rdgE s l != 0) = true := by simpa using hr0
    go_wp2_with fail
    refine (awake_c _).mono ?_
    rintro e w2 ⟨rfl, hb2⟩
    go_wp2_with fail
    go_ret
    exact ⟨rfl, (hS.keep hb2).sn.1⟩
end Td
end Go.Proofs.Ytccacinnelmnpaa
