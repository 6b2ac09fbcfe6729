import Derived.Test.YtolkngbpmhdjkaaLrdF
/- GasTrue: in any truth whose readings are true the level is in the range of Level, and it is at most Limit as long as Until says. -/
namespace Go.Proofs.Ytolkngbpmhdjkaa
open Go.RowKit
namespace Td
set_option linter.unusedSimpArgs false
set_option linter.unusedVariables false
attribute [local go_sem] Oper.semAt_some
/-- a slice that holds readings, as a property of a value. -/
def RdP (R : List Rd) (v : Value) (Z : World) : Prop := ∃ A c, v = .slice A R.length c ∧ R.length ≤ c ∧ c ≤ 9223372036854775807 ∧ RdAt Z A R
theorem RdP.stable (R : List Rd) : Vals5.Stable (.has (RdP R)) := by
  rintro v w w' ⟨A, c, h1, h2, h3, h4⟩ hb
  exact ⟨A, c, h1, h2, h3, h4.keep hb⟩
set_option maxRecDepth 100000 in
set_option maxHeartbeats 8000000 in
theorem gasTrue_c (s : Spc) (m : Sl) (P : Option Addr) (X : List Int) (pc : Nat) (MA : Option Addr) (Mn : List Int) (mc : Nat) (WA : Option Addr) (Ws : List Int) (wc nw : Nat) (w : World) (hsa : SAt w m s)
    (hu : U16At w P X) (ho : U16Ok X) (hm : U8At w MA Mn) (hmo : U8Ok Mn) (hw : U8At w WA Ws) (hwo : U8Ok Ws) (hM : Mn.length ≤ maxLen) (hWl : Ws.length ≤ maxLen) (hnw : nw ≤ 255) :
    Calls Try.prog 7 #[.agg (sV s m), .agg (pV P X pc MA Mn mc WA Ws wc nw)] w fun e w' => e = .returned (.bool true) ∧ Below w.heap.size w w' := by
  have hsn0 := ((Since.refl w).alloc (.cells (sV s m) 27)).alloc (.cells (pV P X pc MA Mn mc WA Ws wc nw) 52)
  have HS0 := Lib.hid ((Blk.new w 27 (sV s m)).alloc (.cells (pV P X pc MA Mn mc WA Ws wc nw) 52))
  have HX0 := Lib.hid (Blk.new1 w (.cells (sV s m) 27) 52 (pV P X pc MA Mn mc WA Ws wc nw))
  obtain ⟨c0, c1, c2, c3, c4, c5, c6, c7, c8⟩ := HS0.out.space
  go_enter Try.func7, Try.ntmps7
  go_wp2_with fail
  refine (valid_c s m _ (hsa.keep hsn0.1)).mono ?_
  rintro e w1 ⟨rfl, hb1⟩
  have hsn1 := hsn0.keep hb1
  have HS1 := Lib.hid (HS0.out.keep hb1)
  have HX1 := Lib.hid (HX0.out.keep hb1)
  clear c0 c1 c2 c3 c4 c5 c6 c7 c8 HS0 HX0 hsn0 hb1
  by_cases hc : (chk s).2.2 = 0
  · have hc' : ((chk s).2.2 == 0) = true := by simpa using hc
    have HC := Lib.hid hc
    have hs := chk_ok hc
    rw [hc']
    clear hc hc'
    obtain ⟨mi, hmi⟩ : ∃ mi, nw % 61 = mi := ⟨_, rfl⟩
    have hmi2 : mi < 61 := by rw [← hmi]; exact Nat.mod_lt _ (by omega)
    have hem : ((nw : Int) % (61 : Int)) = (mi : Int) := by omega
    have HEM := Lib.hid hem
    have HTM : Hid ((nw : Int).tmod (61 : Int) = (mi : Int)) := by show _ = _; rw [Int.tmod_eq_emod_of_nonneg (by omega)]; exact hem
    clear hmi hem
    have hT := truN_in hs X
    have hst := fun n => truN_step hs X n
    have hT0 : s.s0 ≤ truN s X 0 ∧ truN s X 0 ≤ s.s1 := amongV_in hs.s01
    obtain ⟨R, hR⟩ : ∃ R, (List.range (min Mn.length 12)).map (lrd s (truN s X) Mn Ws) = R := ⟨_, rfl⟩
    have hRl : min Mn.length 12 = R.length := by rw [← hR]; simp
    have hRf : ∀ r ∈ R, ROk s r ∧ near s r (truN s X r.min.toNat) := fun r hr => by
      rw [← hR] at hr
      obtain ⟨i, _, rfl⟩ := List.mem_map.1 hr
      exact lrd_facts hs hT hmo hwo i
    have hR12 : R.length ≤ 12 := by omega
    obtain ⟨x, hx, hxa, hxb⟩ := true_now (mi := mi) hs hT0 hst (fun r hr => (hRf r hr).2)
    have hvx : Vd (some x) := by rw [← hx]; exact vd_lv (vd_start hs) _
    have hrds : rdsE s.tools.length R = 0 := rdsE_ok.2 ⟨hR12, fun r hr => (hRf r hr).1⟩
    have hwi : wi 0 60 (mi : Int) = true := wi_iff.2 (by omega)
    have hwat : watE s R (mi : Int) = 0 := by simp [watE, HC.out, hrds, hwi, hx]
    have hle : levelA s R (mi : Int) = (x, 0) := by simp [levelA, hwat, hx]
    have hun : untilA s R (mi : Int) = (untl s (kno R (mi : Int)) (mi : Int) (some x), 0) := by simp [untilA, hwat, hx]
    have hlim : ∀ t : Nat, mi ≤ t → (t : Int) ≤ untl s (kno R (mi : Int)) (mi : Int) (some x) → truN s X t ≤ s.lim := fun t h1 h2 => true_until hs hst (fun r hr => (hRf r hr).2) hvx ⟨hxa, hxb⟩ (by omega) h1 h2
    obtain ⟨_, hn60, hn1, _⟩ := untl_ge (s := s) (l := kno R (mi : Int)) (m := (mi : Int)) (o := some x) (by omega) (by omega)
    have hLR := fun (v0 : Value) (W : World) (hL : Lv W v0 ((List.range 61).map (truN s X))) (hW : Since w W) => lreadings_c s m v0 (truN s X) P X pc MA Mn mc WA Ws wc nw W hs (hsa.keep hW.1) hL hT (hm.keep hW.1) hmo (hw.keep hW.1) hwo hM hWl
    rw [hR, hRl] at hLR
    have hLe := fun (A : Option Addr) (c : Nat) (W : World) (hW : SAt W m s) (h1 : R.length ≤ c) (h2 : c ≤ 9223372036854775807) (hp : RdAt W A R) => level_c s m A R c (mi : Int) W hW h1 h2 hp
    rw [hle] at hLe
    have hUn := fun (A : Option Addr) (c : Nat) (W : World) (hW : SAt W m s) (h1 : R.length ≤ c) (h2 : c ≤ 9223372036854775807) (hp : RdAt W A R) => until2_c s m A R c (mi : Int) W hW h1 h2 hp
    rw [hun] at hUn
    obtain ⟨n, hn⟩ : ∃ n, untl s (kno R (mi : Int)) (mi : Int) (some x) = n := ⟨_, rfl⟩
    rw [hn] at hUn hlim hn60 hn1
    obtain ⟨x0, x1⟩ := x
    dsimp only at hxa hxb hLe hUn
    have hTr := fun (W : World) (hW : Since w W) => truth_c s m P X pc W hs (hsa.keep hW.1) (hu.keep hW.1) ho
    unfold truL at hTr
    have HLR0 := Lib.hid hLR
    have HLE := Lib.hid hLe
    have HUN := Lib.hid hUn
    have HTR := Lib.hid hTr
    have HLIM := Lib.hid hlim
    have HT := Lib.hid hT
    have HR := Lib.hid hR
    obtain ⟨lvx, hlvx⟩ : ∃ lvx, truN s X mi = lvx := ⟨_, rfl⟩
    have HLVX := Lib.hid hlvx
    rw [hlvx] at hxa hxb
    have HIN : Hid (wi x0 x1 lvx = true) := wi_iff.2 ⟨hxa, hxb⟩
    have HG1 : Hid (¬ n < -1) := fun h => by omega
    have HG2 : Hid (¬ 60 < n) := fun h => by omega
    clear hLR hLe hUn hTr hlim hT hst hT0 hR hRl hRf hvx hrds hwi hwat hle hun hn hx hlvx hxa hxb hR12
    obtain ⟨c0, c1, c2, c3, c4, c5, c6, c7, c8⟩ := HS1.out.space
    have z0 := HX1.out.cell 0
    simp only [List.getElem?_toArray, List.getElem?_cons_zero] at z0
    go_wp2_with fail
    refine (HTR.out _ hsn1).mono ?_
    rintro e w2 ⟨⟨vT, rfl, hvT⟩, hb2⟩
    have hsn2 := hsn1.keep hb2
    have HS2 := Lib.hid (HS1.out.keep hb2)
    have HX2 := Lib.hid (HX1.out.keep hb2)
    have HL2 := Lib.hid hvT
    have HLR : Hid (∀ W, Lv W vT ((List.range 61).map (truN s X)) → Since w W → _) := fun W => HLR0.out vT W
    clear c0 c1 c2 c3 c4 c5 c6 c7 c8 z0 HS1 HX1 hsn1 hb2 hvT
    go_wp2_with fail
    refine Vals6.regionAll (fun Z => Blk Z (w.heap.size) 27 (sV s m) ∧ Blk Z (w.heap.size + 1) 52 (pV P X pc MA Mn mc WA Ws wc nw) ∧ Lv Z vT ((List.range 61).map (truN s X)) ∧ Since w Z) [some 32, some 33, some 34, some 35, some 36, some 37, some 38, some 39, some 8] [.is (.agg (sV s m)), .is (vT), .is (.agg (pV P X pc MA Mn mc WA Ws wc nw)), .has (RdP R), .is (.pointer (some ⟨w.heap.size + 1, 3, none⟩)), .is (.int .u8 (nw : Int)), .is (.int .i64 (nw : Int)), .is (.int .i64 (mi : Int)), .has (RdP R)] (by kernel_rfl) rfl rfl (by kernel_rfl) (by kernel_rfl) (by kernel_rfl) (by kernel_rfl) (by kernel_rfl) (by kernel_rfl) (by kernel_rfl) (⟨HS2.out.drew, HX2.out.drew, HL2.out.keep (Below.refl _ _).drew, hsn2.drew⟩) ?_ ?_
    · refine Vals5.Steps.run (by kernel_rfl) (Vals5.Stable.is _) ?_ ?_
      · intro a W hS pre old K hK
        have e2 : a.tmps.getD 2 undef = .pointer (some ⟨w.heap.size, 0, none⟩) := old 2 _ (by kernel_rfl) rfl
        clear pre old
        simp only [Array.getD_eq_getD_getElem?] at e2
        have hS9 := hS
        obtain ⟨l1, l2, _⟩ := hS9
        obtain ⟨c0, c1, c2, c3, c4, c5, c6, c7, c8⟩ := l1.space
        have z0 := l2.cell 0
        have z1 := l2.cell 1
        have z2 := l2.cell 2
        have z3 := l2.cell 3
        simp only [List.getElem?_toArray, List.getElem?_cons_zero, List.getElem?_cons_succ] at z0 z1 z2 z3
        go_simp
        exact hK _ _ hS (Below.refl _ _) rfl
      refine Vals5.Steps.run (by kernel_rfl) (Vals5.Stable.is _) ?_ ?_
      · intro a W hS pre old K hK
        have e7 : a.tmps.getD 7 undef = vT := old 7 _ (by kernel_rfl) rfl
        clear pre old
        simp only [Array.getD_eq_getD_getElem?] at e7
        go_simp
        exact hK _ _ hS (Below.refl _ _) rfl
      refine Vals5.Steps.run (by kernel_rfl) (Vals5.Stable.is _) ?_ ?_
      · intro a W hS pre old K hK
        have e3 : a.tmps.getD 3 undef = .pointer (some ⟨w.heap.size + 1, 0, none⟩) := old 3 _ (by kernel_rfl) rfl
        clear pre old
        simp only [Array.getD_eq_getD_getElem?] at e3
        have hS9 := hS
        obtain ⟨l1, l2, _⟩ := hS9
        obtain ⟨c0, c1, c2, c3, c4, c5, c6, c7, c8⟩ := l1.space
        have z0 := l2.cell 0
        have z1 := l2.cell 1
        have z2 := l2.cell 2
        have z3 := l2.cell 3
        simp only [List.getElem?_toArray, List.getElem?_cons_zero, List.getElem?_cons_succ] at z0 z1 z2 z3
        go_simp
        exact hK _ _ hS (Below.refl _ _) rfl
      refine Vals5.Steps.run (by kernel_rfl) (RdP.stable _) ?_ ?_
      · intro a W hS pre old K hK
        have e32 : a.tmps.getD 32 undef = .agg (sV s m) := pre 0 32 _ (by kernel_rfl) rfl rfl
        have e33 : a.tmps.getD 33 undef = vT := pre 1 33 _ (by kernel_rfl) rfl rfl
        have e34 : a.tmps.getD 34 undef = .agg (pV P X pc MA Mn mc WA Ws wc nw) := pre 2 34 _ (by kernel_rfl) rfl rfl
        clear pre old
        simp only [Array.getD_eq_getD_getElem?] at e32 e33 e34
        obtain ⟨h1, h2, h3, h4⟩ := hS
        have hLR := HLR.out _ h3 h4
        go_simp
        refine hLR.mono ?_
        rintro e w' ⟨⟨A, c, rfl, hc1, hc2, hrd⟩, hb'⟩
        exact hK _ _ ⟨h1.keep hb', h2.keep hb', h3.keep hb', h4.keep hb'⟩ hb' ⟨A, c, rfl, hc1, hc2, hrd⟩
      refine Vals5.Steps.run (by kernel_rfl) (Vals5.Stable.is _) ?_ ?_
      · intro a W hS pre old K hK
        have e3 : a.tmps.getD 3 undef = .pointer (some ⟨w.heap.size + 1, 0, none⟩) := old 3 _ (by kernel_rfl) rfl
        clear pre old
        simp only [Array.getD_eq_getD_getElem?] at e3
        go_simp
        exact hK _ _ hS (Below.refl _ _) rfl
      refine Vals5.Steps.run (by kernel_rfl) (Vals5.Stable.is _) ?_ ?_
      · intro a W hS pre old K hK
        have e36 : a.tmps.getD 36 undef = .pointer (some ⟨w.heap.size + 1, 3, none⟩) := pre 4 36 _ (by kernel_rfl) rfl rfl
        clear pre old
        simp only [Array.getD_eq_getD_getElem?] at e36
        have hS9 := hS
        obtain ⟨l1, l2, _⟩ := hS9
        obtain ⟨c0, c1, c2, c3, c4, c5, c6, c7, c8⟩ := l1.space
        have z0 := l2.cell 0
        have z1 := l2.cell 1
        have z2 := l2.cell 2
        have z3 := l2.cell 3
        simp only [List.getElem?_toArray, List.getElem?_cons_zero, List.getElem?_cons_succ] at z0 z1 z2 z3
        go_simp
        exact hK _ _ hS (Below.refl _ _) rfl
      refine Vals5.Steps.run (by kernel_rfl) (Vals5.Stable.is _) ?_ ?_
      · intro a W hS pre old K hK
        have e37 : a.tmps.getD 37 undef = .int .u8 (nw : Int) := pre 5 37 _ (by kernel_rfl) rfl rfl
        clear pre old
        simp only [Array.getD_eq_getD_getElem?] at e37
        have hw8 : IntKind.i64.wrap (nw : Int) = (nw : Int) := IntWalk.i64_in _ (by omega)
        go_simp
        exact hK _ _ hS (Below.refl _ _) rfl
      refine Vals5.Steps.run (by kernel_rfl) (Vals5.Stable.is _) ?_ ?_
      · intro a W hS pre old K hK
        have e38 : a.tmps.getD 38 undef = .int .i64 (nw : Int) := pre 6 38 _ (by kernel_rfl) rfl rfl
        clear pre old
        simp only [Array.getD_eq_getD_getElem?] at e38
        have htm := HTM.out
        have hem := HEM.out
        go_simp
        exact hK _ _ hS (Below.refl _ _) rfl
      refine Vals5.Steps.run (by kernel_rfl) (RdP.stable _) ?_ ?_
      · intro a W hS pre old K hK
        have f35 := pre 3 35 _ (by kernel_rfl) rfl rfl
        clear pre old
        obtain ⟨y9, hy9⟩ : ∃ y, a.tmps.getD 35 undef = y := ⟨_, rfl⟩
        rw [hy9] at f35
        simp only [Array.getD_eq_getD_getElem?] at hy9
        go_simp
        exact hK _ _ hS (Below.refl _ _) f35
      exact Vals5.Steps.nil
    rintro Z ⟨HSZ, HXZ, HLZ, hsnZ⟩
    simp only [Vals5.All, List.getLast_cons_cons, List.getLast_singleton]
    rintro v35 - v8 ⟨A, c, rfl, hc1, hc2, hrd⟩
    simp only [Vals.putAll, List.setIfInBounds_toArray, List.set_cons_zero, List.set_cons_succ]
    intro K hK
    go_simp
    refine hK _ _ ?_
    clear hK K
    obtain ⟨TA, tc, hvt, hin⟩ := HLZ
    rw [show ((List.range 61).map (truN s X)).length = 61 by simp] at hvt
    obtain ⟨ta, hta, hcl⟩ := hin (by simp)
    subst hta
    subst hvt
    have HCL : Hid (∀ i, i < 61 → Z.cell? (ta.add i) = some (.int .i64 (truN s X i))) := fun i hi => hcl i (truN s X i) (by simp [hi])
    clear hin hcl HLR HL2 HLR0 HTR HS2 HX2 hsn2 HXZ HEM HTM
    obtain ⟨c0, c1, c2, c3, c4, c5, c6, c7, c8⟩ := HSZ.space
    go_wp2_with fail
    refine (HLE.out A c _ (hsa.keep hsnZ.1) hc1 hc2 hrd).mono ?_
    rintro e w3 ⟨rfl, hb3⟩
    have hq4 : Below w3.heap.size w3 (w3.alloc (.cells #[.int .i64 x0, .int .i64 x1] 23)) := (Below.refl _ _).alloc (Nat.le_refl _) _
    have hsn4 := (hsnZ.keep hb3).keep hq4
    have HS4 := (HSZ.keep hb3).keep hq4
    have hrd4 := (hrd.keep hb3).keep hq4
    have HCL4 : Hid (∀ i, i < 61 → (w3.alloc (.cells #[.int .i64 x0, .int .i64 x1] 23)).cell? (ta.add i) = some (.int .i64 (truN s X i))) := fun i hi => keep_cell hq4 (keep_cell hb3 (HCL.out i hi))
    have HB4 := Blk.new w3 23 #[.int .i64 x0, .int .i64 x1]
    clear c0 c1 c2 c3 c4 c5 c6 c7 c8 HSZ hsnZ hb3 hrd HCL
    obtain ⟨c0, c1, c2, c3, c4, c5, c6, c7, c8⟩ := HS4.space
    go_wp2_with fail
    refine (HUN.out A c _ (hsa.keep hsn4.1) hc1 hc2 hrd4).mono ?_
    rintro e W5 ⟨rfl, hb5⟩
    have hsn5 := hsn4.keep hb5
    have HS5 := Lib.hid (HS4.keep hb5)
    have HB5 := Lib.hid (HB4.keep hb5)
    have HCL5 : Hid (∀ i, i < 61 → W5.cell? (ta.add i) = some (.int .i64 (truN s X i))) := fun i hi => keep_cell hb5 (HCL4.out i hi)
    have HLC : Hid (W5.cell? (ta.add mi) = some (.int .i64 lvx)) := by
      have := HCL5.out mi hmi2
      rwa [HLVX.out] at this
    obtain ⟨kB, hkB⟩ : ∃ kB, w3.heap.size = kB := ⟨_, rfl⟩
    rw [hkB] at HB5 ⊢
    clear hkB c0 c1 c2 c3 c4 c5 c6 c7 c8 HS4 HB4 hsn4 hb5 hq4 HCL4 hrd4 HLE HUN
    go_wp2_with fail
    refine Vals9.region (fun _ Z => Blk Z kB 23 #[.int .i64 x0, .int .i64 x1] ∧ Since W5 Z) [some 54, some 55, some 56, some 57, some 58, some 59, some 60, some 61, some 62, some 63, some 64, some 65, some 66, some 67, some 68, some 69, some 70, some 71, some 72, some 73, some 74, some 75, some 76] [.is (.int .i64 0), .is (.bool false), .is (.bool false), .is (.int .i64 0), .is (.bool false), .is (.bool false), .is (.bool false), .is (.slice (some ta) 61 tc), .is (.int .i64 (mi : Int)), .is (.pointer (some (ta.add mi))), .is (.int .i64 lvx), .is (.agg #[.int .i64 x0, .int .i64 x1]), .is (.bool true), .is (.bool false), .is (.bool false), .is (.bool false), .is (.int .i64 n), .is (.bool false), .is (.bool false), .is (.bool false), .is (.int .i64 n), .is (.bool false), .is (.bool false)] (by kernel_rfl) (by kernel_rfl) (by kernel_rfl) (by kernel_rfl) (by kernel_rfl) (by kernel_rfl) (⟨HB5.out.drew, (Since.refl W5).drew⟩) ?_ ?_
    · refine Vals9.Steps.run (by kernel_rfl) ?_ ?_
      · intro a W σ hJ pre K hK
        have e11 : a.tmps.getD 11 undef = .int .i64 0 := pre.2.2 11 _ (by kernel_rfl) rfl
        clear pre
        simp only [Array.getD_eq_getD_getElem?] at e11
        go_simp
        exact hK _ hJ
      refine Vals9.Steps.run (by kernel_rfl) ?_ ?_
      · intro a W σ hJ pre K hK
        have e54 : a.tmps.getD 54 undef = .int .i64 0 := pre.1 0 54 _ (by kernel_rfl) rfl rfl
        clear pre
        simp only [Array.getD_eq_getD_getElem?] at e54
        go_simp
        exact hK _ hJ
      refine Vals9.Steps.run (by kernel_rfl) ?_ ?_
      · intro a W σ hJ pre K hK
        have e55 : a.tmps.getD 55 undef = .bool false := pre.1 1 55 _ (by kernel_rfl) rfl rfl
        clear pre
        simp only [Array.getD_eq_getD_getElem?] at e55
        go_simp
        exact hK _ hJ
      refine Vals9.Steps.run (by kernel_rfl) ?_ ?_
      · intro a W σ hJ pre K hK
        have e13 : a.tmps.getD 13 undef = .int .i64 0 := pre.2.2 13 _ (by kernel_rfl) rfl
        clear pre
        simp only [Array.getD_eq_getD_getElem?] at e13
        go_simp
        exact hK _ hJ
      refine Vals9.Steps.run (by kernel_rfl) ?_ ?_
      · intro a W σ hJ pre K hK
        have e57 : a.tmps.getD 57 undef = .int .i64 0 := pre.1 3 57 _ (by kernel_rfl) rfl rfl
        clear pre
        simp only [Array.getD_eq_getD_getElem?] at e57
        go_simp
        exact hK _ hJ
      refine Vals9.Steps.run (by kernel_rfl) ?_ ?_
      · intro a W σ hJ pre K hK
        have e56 : a.tmps.getD 56 undef = .bool false := pre.1 2 56 _ (by kernel_rfl) rfl rfl
        have e58 : a.tmps.getD 58 undef = .bool false := pre.1 4 58 _ (by kernel_rfl) rfl rfl
        clear pre
        simp only [Array.getD_eq_getD_getElem?] at e56 e58
        go_simp
        exact hK _ hJ
      refine Vals9.Steps.run (by kernel_rfl) ?_ ?_
      · intro a W σ hJ pre K hK
        have e59 : a.tmps.getD 59 undef = .bool false := pre.1 5 59 _ (by kernel_rfl) rfl rfl
        clear pre
        simp only [Array.getD_eq_getD_getElem?] at e59
        go_simp
        exact hK _ hJ
      refine Vals9.Steps.run (by kernel_rfl) ?_ ?_
      · intro a W σ hJ pre K hK
        have e7 : a.tmps.getD 7 undef = .slice (some ta) 61 tc := pre.2.2 7 _ (by kernel_rfl) rfl
        clear pre
        simp only [Array.getD_eq_getD_getElem?] at e7
        go_simp
        exact hK _ hJ
      refine Vals9.Steps.run (by kernel_rfl) ?_ ?_
      · intro a W σ hJ pre K hK
        have e9 : a.tmps.getD 9 undef = .int .i64 (mi : Int) := pre.2.2 9 _ (by kernel_rfl) rfl
        clear pre
        simp only [Array.getD_eq_getD_getElem?] at e9
        go_simp
        exact hK _ hJ
      refine Vals9.Steps.run (by kernel_rfl) ?_ ?_
      · intro a W σ hJ pre K hK
        have e61 : a.tmps.getD 61 undef = .slice (some ta) 61 tc := pre.1 7 61 _ (by kernel_rfl) rfl rfl
        have e62 : a.tmps.getD 62 undef = .int .i64 (mi : Int) := pre.1 8 62 _ (by kernel_rfl) rfl rfl
        clear pre
        simp only [Array.getD_eq_getD_getElem?] at e61 e62
        have hm61 : (mi : Int) < 61 := by omega
        go_simp
        exact hK _ hJ
      refine Vals9.Steps.run (by kernel_rfl) ?_ ?_
      · intro a W σ hJ pre K hK
        have e63 : a.tmps.getD 63 undef = .pointer (some (ta.add mi)) := pre.1 9 63 _ (by kernel_rfl) rfl rfl
        clear pre
        simp only [Array.getD_eq_getD_getElem?] at e63
        have hS9 := hJ
        obtain ⟨l1, l2⟩ := hS9
        have y0 := l1.cell 0
        have y1 := l1.cell 1
        simp only [List.getElem?_toArray, List.getElem?_cons_zero, List.getElem?_cons_succ] at y0 y1
        have q0 := keep_cell l2.1 HLC.out
        go_simp
        exact hK _ hJ
      refine Vals9.Steps.run (by kernel_rfl) ?_ ?_
      · intro a W σ hJ pre K hK
        have e10 : a.tmps.getD 10 undef = .pointer (some ⟨kB, 0, none⟩) := pre.2.2 10 _ (by kernel_rfl) rfl
        clear pre
        simp only [Array.getD_eq_getD_getElem?] at e10
        have hS9 := hJ
        obtain ⟨l1, l2⟩ := hS9
        have y0 := l1.cell 0
        have y1 := l1.cell 1
        simp only [List.getElem?_toArray, List.getElem?_cons_zero, List.getElem?_cons_succ] at y0 y1
        have q0 := keep_cell l2.1 HLC.out
        go_simp
        exact hK _ hJ
      refine Vals9.Steps.run (by kernel_rfl) ?_ ?_
      · intro a W σ hJ pre K hK
        have e64 : a.tmps.getD 64 undef = .int .i64 lvx := pre.1 10 64 _ (by kernel_rfl) rfl rfl
        have e65 : a.tmps.getD 65 undef = .agg #[.int .i64 x0, .int .i64 x1] := pre.1 11 65 _ (by kernel_rfl) rfl rfl
        clear pre
        simp only [Array.getD_eq_getD_getElem?] at e64 e65
        go_simp
        refine (inside_c lvx (x0, x1) _).mono ?_
        rintro e w' ⟨rfl, hb'⟩
        obtain ⟨h1, h2⟩ := hJ
        have hin := HIN.out
        dsimp only
        rw [hin]
        exact hK _ ⟨h1.keep hb', h2.keep hb'⟩
      refine Vals9.Steps.run (by kernel_rfl) ?_ ?_
      · intro a W σ hJ pre K hK
        have e66 : a.tmps.getD 66 undef = .bool true := pre.1 12 66 _ (by kernel_rfl) rfl rfl
        clear pre
        simp only [Array.getD_eq_getD_getElem?] at e66
        go_simp
        exact hK _ hJ
      refine Vals9.Steps.run (by kernel_rfl) ?_ ?_
      · intro a W σ hJ pre K hK
        have e60 : a.tmps.getD 60 undef = .bool false := pre.1 6 60 _ (by kernel_rfl) rfl rfl
        have e67 : a.tmps.getD 67 undef = .bool false := pre.1 13 67 _ (by kernel_rfl) rfl rfl
        clear pre
        simp only [Array.getD_eq_getD_getElem?] at e60 e67
        go_simp
        exact hK _ hJ
      refine Vals9.Steps.run (by kernel_rfl) ?_ ?_
      · intro a W σ hJ pre K hK
        have e68 : a.tmps.getD 68 undef = .bool false := pre.1 14 68 _ (by kernel_rfl) rfl rfl
        clear pre
        simp only [Array.getD_eq_getD_getElem?] at e68
        go_simp
        exact hK _ hJ
      refine Vals9.Steps.run (by kernel_rfl) ?_ ?_
      · intro a W σ hJ pre K hK
        have e12 : a.tmps.getD 12 undef = .int .i64 n := pre.2.2 12 _ (by kernel_rfl) rfl
        clear pre
        simp only [Array.getD_eq_getD_getElem?] at e12
        go_simp
        exact hK _ hJ
      refine Vals9.Steps.run (by kernel_rfl) ?_ ?_
      · intro a W σ hJ pre K hK
        have e70 : a.tmps.getD 70 undef = .int .i64 n := pre.1 16 70 _ (by kernel_rfl) rfl rfl
        clear pre
        simp only [Array.getD_eq_getD_getElem?] at e70
        have g1 : decide (n < -1) = false := by have := HG1.out; exact decide_eq_false (by omega)
        go_simp
        exact hK _ hJ
      refine Vals9.Steps.run (by kernel_rfl) ?_ ?_
      · intro a W σ hJ pre K hK
        have e69 : a.tmps.getD 69 undef = .bool false := pre.1 15 69 _ (by kernel_rfl) rfl rfl
        have e71 : a.tmps.getD 71 undef = .bool false := pre.1 17 71 _ (by kernel_rfl) rfl rfl
        clear pre
        simp only [Array.getD_eq_getD_getElem?] at e69 e71
        go_simp
        exact hK _ hJ
      refine Vals9.Steps.run (by kernel_rfl) ?_ ?_
      · intro a W σ hJ pre K hK
        have e72 : a.tmps.getD 72 undef = .bool false := pre.1 18 72 _ (by kernel_rfl) rfl rfl
        clear pre
        simp only [Array.getD_eq_getD_getElem?] at e72
        go_simp
        exact hK _ hJ
      refine Vals9.Steps.run (by kernel_rfl) ?_ ?_
      · intro a W σ hJ pre K hK
        have e12 : a.tmps.getD 12 undef = .int .i64 n := pre.2.2 12 _ (by kernel_rfl) rfl
        clear pre
        simp only [Array.getD_eq_getD_getElem?] at e12
        go_simp
        exact hK _ hJ
      refine Vals9.Steps.run (by kernel_rfl) ?_ ?_
      · intro a W σ hJ pre K hK
        have e74 : a.tmps.getD 74 undef = .int .i64 n := pre.1 20 74 _ (by kernel_rfl) rfl rfl
        clear pre
        simp only [Array.getD_eq_getD_getElem?] at e74
        have g2 : decide (60 < n) = false := by have := HG2.out; exact decide_eq_false (by omega)
        go_simp
        exact hK _ hJ
      refine Vals9.Steps.run (by kernel_rfl) ?_ ?_
      · intro a W σ hJ pre K hK
        have e73 : a.tmps.getD 73 undef = .bool false := pre.1 19 73 _ (by kernel_rfl) rfl rfl
        have e75 : a.tmps.getD 75 undef = .bool false := pre.1 21 75 _ (by kernel_rfl) rfl rfl
        clear pre
        simp only [Array.getD_eq_getD_getElem?] at e73 e75
        go_simp
        exact hK _ hJ
      exact Vals9.Steps.nil
    · intro Y σ hJ
      simp only [Vals9.All]
      simp only [Vals.putAll, List.setIfInBounds_toArray, List.set_cons_zero, List.set_cons_succ]
      obtain ⟨_, hs6⟩ := hJ
      have hsn6 := hsn5.keep hs6.1
      have HS6 := Lib.hid (HS5.out.keep hs6.1)
      have HCL6 : Hid (∀ i, i < 61 → Y.cell? (ta.add i) = some (.int .i64 (truN s X i))) := fun i hi => keep_cell hs6.1 (HCL5.out i hi)
      clear hs6 HS5 HB5 HCL5 HLC hsn5
      go_wp2_with fail
      go_loopw [14] (fun i wr => ∃ t : Nat, mi ≤ t ∧ t ≤ 61 ∧ i = .int .i64 t ∧ Since w wr ∧ Hid (Blk wr w.heap.size 27 (sV s m)) ∧ Hid (∀ i, i < 61 → wr.cell? (ta.add i) = some (.int .i64 (truN s X i)))) (fun i _ => 61 - (intOf i).toNat)
      case atStart => exact ⟨mi, Nat.le_refl _, by omega, rfl, hsn6, HS6, HCL6⟩
      case round =>
        obtain ⟨t, ht1, ht2, rfl, hsn, HS, HCL⟩ := hrel
        by_cases hle : (t : Int) ≤ n
        · have ht61 : t < 61 := by omega
          have hti : (t : Int) < 61 := by omega
          have q0 := HCL.out t ht61
          have hlt := HLIM.out t ht1 hle
          obtain ⟨lt, hlt2⟩ : ∃ lt, truN s X t = lt := ⟨_, rfl⟩
          rw [hlt2] at q0 hlt
          have hno : decide (s.lim < lt) = false := decide_eq_false (by omega)
          clear hlt2
          obtain ⟨_, _, _, _, _, _, c6, _, _⟩ := HS.out.space
          go_wp2_with fail
          go_quiet (fail)
          go_wp2_with fail
          go_roundw
          case rel => exact ⟨t + 1, by omega, by omega, by go_num, ⟨bdrew hsn.1 _, hsn.2⟩, HS, HCL⟩
          case measure => simp [intOf]; omega
        · have hle' : ¬ (t : Int) ≤ n := hle
          go_wp2_with fail
          refine (awake_c _).mono ?_
          rintro e w9 ⟨rfl, hb9⟩
          go_wp2_with fail
          go_ret
          exact ⟨rfl, (hsn.keep hb9).1⟩
  · have hc' : ((chk s).2.2 == 0) = false := by simpa using hc
    have hv : levelA s [] 0 = ((0, 0), (chk s).2.2) := by simp [levelA, watE, hc]
    have hcn : ((chk s).2.2 != 0) = true := by simpa using hc
    rw [hc']
    obtain ⟨c0, c1, c2, c3, c4, c5, c6, c7, c8⟩ := HS1.out.space
    have hH := level_c s m none [] 0 0 w1 (hsa.keep hsn1.1) (Nat.le_refl _) (by decide) (fun h => absurd rfl h)
    rw [hv] at hH
    dsimp only [List.length_nil] at hH
    clear hv hc hc'
    go_wp2_with fail
    refine hH.mono ?_
    rintro e w2 ⟨rfl, hb2⟩
    have hsn2 := (hsn1.keep hb2).alloc (.cells #[.int .i64 0, .int .i64 0] 23)
    clear hH c0 c1 c2 c3 c4 c5 c6 c7 c8
    go_wp2_with fail
    refine (awake_c _).mono ?_
    rintro e w3 ⟨rfl, hb3⟩
    go_wp2_with fail
    go_ret
    exact ⟨rfl, (hsn2.keep hb3).1⟩
end Td
end Go.Proofs.Ytolkngbpmhdjkaa
