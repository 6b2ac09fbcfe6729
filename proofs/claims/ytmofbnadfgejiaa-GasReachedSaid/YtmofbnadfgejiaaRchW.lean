import Derived.Test.YtmofbnadfgejiaaTlsA
import Derived.Test.YtmofbnadfgejiaaNb
import Derived.Test.YtmofbnadfgejiaaMoreW
/- GasReached: both ends of Level are reached, and what is beyond them is not. -/
namespace Go.Proofs.Ytmofbnadfgejiaa
open Go.RowKit
namespace Td
set_option linter.unusedSimpArgs false
set_option linter.unusedVariables false
attribute [local go_sem] Oper.semAt_some
/-- the copying of readings, and one more behind them: which operation makes which list, and which takes it up. -/
def rchL (l : List Rd) (x : Rd) (i : Nat) : Option (List Rd) := if i = 0 then some [] else if i = 2 then some l else if i = 9 then some [x] else if i = 10 then some (l ++ [x]) else if i = 11 then some (l ++ [x]) else none
def rchC (i : Nat) : Nat := if i = 0 then 2 else if i = 2 then 10 else if i = 9 then 10 else if i = 10 then 11 else 12
theorem rchC_0 (i : Nat) : rchC i ≠ 0 := by unfold rchC; (repeat' split) <;> omega
theorem rchC_9 (i : Nat) : rchC i ≠ 9 := by unfold rchC; (repeat' split) <;> omega
theorem rchC_2 {i : Nat} (h : rchC i = 2) : i = 0 := by unfold rchC at h; (repeat' split at h) <;> omega
theorem rchC_10 {i : Nat} (h : rchC i = 10) : i = 2 ∨ i = 9 := by unfold rchC at h; (repeat' split at h) <;> omega
theorem rchC_11 {i : Nat} (h : rchC i = 11) : i = 10 := by unfold rchC at h; (repeat' split at h) <;> omega
set_option maxRecDepth 100000 in
set_option maxHeartbeats 8000000 in
theorem gasReached_c (s : Spc) (m : Sl) (A : Option Addr) (l : List Rd) (c : Nat) (x0 x1 : Nat) (w : World) (hsa : SAt w m s) (hrd : RdAt w A l) (hc : l.length ≤ c) (hcM : c ≤ 9223372036854775807) (h0 : x0 ≤ 255) (h1 : x1 ≤ 255) :
    Calls Try.prog 9 #[.agg (sV s m), .slice A l.length c, .agg #[.int .u8 (x0 : Int), .int .u8 (x1 : Int)]] w fun e w' => e = .returned (.bool true) ∧ Below w.heap.size w w' := by
  have hS := Sp2.start w s m 63 #[.int .u8 (x0 : Int), .int .u8 (x1 : Int)]
  obtain ⟨c0, c1, c2, c3, c4, c5, c6, c7, c8⟩ := hS.sp.bk.space
  go_enter Try.func9, Try.ntmps9
  go_wp2_with fail
  refine (readings_c s m A l c _ (hsa.keep hS.sp.sn.1) (hrd.keep hS.sp.sn.1) (by omega)).mono ?_
  rintro e w1 ⟨rfl, hb1⟩
  have hS1 := hS.keep hb1
  clear c0 c1 c2 c3 c4 c5 c6 c7 c8 hb1 hS
  obtain ⟨c0, c1, c2, c3, c4, c5, c6, c7, c8⟩ := hS1.sp.bk.space
  by_cases hr0 : rdgE s l = 0
  · obtain ⟨hck, hrs⟩ := rdg_ok hr0
    have hs := chk_ok hck
    obtain ⟨h12, hro⟩ := rdsE_ok.1 hrs
    rw [hr0]
    have t1 := hs.t1
    have t3 := hs.t3
    by_cases ht : s.tools.length = 3
    · have g1 : ((s.tools.length : Int) == 3) = true := by simp; omega
      have g2 : (s.tools.length == 3) = true := by simp; omega
      have g3 : decide ((s.tools.length : Int) = 3) = true := decide_eq_true (by omega)
      clear ht t1 t3
      go_wp2_with fail
      refine (awake_c _).mono ?_
      rintro e w9 ⟨rfl, hb9⟩
      go_wp2_with fail
      go_ret
      exact ⟨rfl, (hS1.keep hb9).sp.sn.1⟩
    · by_cases hl : l.length = 12
      · have g1 : ((s.tools.length : Int) == 3) = false := by simp; omega
        have g2 : (s.tools.length == 3) = false := by simp; omega
        have g3 : decide ((s.tools.length : Int) = 3) = false := decide_eq_false (by omega)
        have g4 : ((l.length : Int) == 12) = true := by simp; omega
        have g5 : (l.length == 12) = true := by simp; omega
        have g6 : decide ((l.length : Int) = 12) = true := decide_eq_true (by omega)
        clear ht t1 t3 hl
        go_wp2_with fail
        refine (awake_c _).mono ?_
        rintro e w9 ⟨rfl, hb9⟩
        go_wp2_with fail
        go_ret
        exact ⟨rfl, (hS1.keep hb9).sp.sn.1⟩
      · have g1 : ((s.tools.length : Int) == 3) = false := by simp; omega
        have g2 : (s.tools.length == 3) = false := by simp; omega
        have g3 : decide ((s.tools.length : Int) = 3) = false := decide_eq_false (by omega)
        have g4 : ((l.length : Int) == 12) = false := by simp; omega
        have g5 : (l.length == 12) = false := by simp; omega
        have g6 : decide ((l.length : Int) = 12) = false := decide_eq_false (by omega)
        have hn2 : s.tools.length ≤ 2 := by omega
        have h11 : l.length ≤ 11 := by omega
        obtain ⟨mi, hmi⟩ : ∃ mi, x0 % 61 = mi := ⟨_, rfl⟩
        have hmi2 : mi < 61 := by rw [← hmi]; exact Nat.mod_lt _ (by omega)
        obtain ⟨b0, hb0⟩ : ∃ b0, x1 % 20 = b0 := ⟨_, rfl⟩
        have hb2 : b0 < 20 := by rw [← hb0]; exact Nat.mod_lt _ (by omega)
        obtain ⟨bb, hbb⟩ : ∃ bb, 1 + b0 = bb := ⟨_, rfl⟩
        have k1 : IntKind.i64.wrap (x0 : Int) = (x0 : Int) := IntWalk.i64_in _ (by omega)
        have k2 : (x0 : Int).tmod 61 = (mi : Int) := by rw [Int.tmod_eq_emod_of_nonneg (by omega)]; omega
        have k3 : IntKind.i64.wrap (mi : Int) = (mi : Int) := IntWalk.i64_in _ (by omega)
        have k4 : IntKind.i64.wrap (x1 : Int) = (x1 : Int) := IntWalk.i64_in _ (by omega)
        have k5 : (x1 : Int).tmod 20 = (b0 : Int) := by rw [Int.tmod_eq_emod_of_nonneg (by omega)]; omega
        have k6 : IntKind.i64.wrap (b0 : Int) = (b0 : Int) := IntWalk.i64_in _ (by omega)
        have k7 : IntKind.i64.wrap (1 + (b0 : Int)) = (bb : Int) := by rw [IntWalk.i64_in _ (by omega)]; omega
        have hbb2 : 1 ≤ bb ∧ bb ≤ 20 := by omega
        have HCK := Lib.hid hck
        have HRO := Lib.hid hro
        have HRS := Lib.hid hrs
        have HS_ := Lib.hid hs
        have y0 := hS1.bx.cell 0
        have y1 := hS1.bx.cell 1
        simp only [List.getElem?_toArray, List.getElem?_cons_zero, List.getElem?_cons_succ] at y0 y1
        have hLv := fun (W : World) (hW : Sp2 w s m 63 #[.int .u8 (x0 : Int), .int .u8 (x1 : Int)] W) => level_c s m A l c (mi : Int) W (hsa.keep hW.sp.sn.1) hc hcM (hrd.keep hW.sp.sn.1)
        clear hr0 hmi hb0 hbb hck hro hrs hs
        go_wp2_with fail
        go_quiet (fail)
        clear g1 g2 g3 g4 g5 g6 k1 k2 k3 k4 k5 k6 k7 y0 y1
        have hwi : wi 0 60 (mi : Int) = true := wi_iff.2 (by omega)
        cases hx : now s l (mi : Int) with
        | none =>
          have hwt : watE s l (mi : Int) = 9 := by simp [watE, HCK.out, HRS.out, hwi, hx]
          have hle : levelA s l (mi : Int) = ((0, 0), 9) := by simp [levelA, hwt]
          simp only [hle] at hLv
          clear hwt hle hx hwi
          go_wp2_with fail
          have hS1d : ∀ n, Sp2 w s m 63 #[.int .u8 (x0 : Int), .int .u8 (x1 : Int)] (w1.drewN n) := fun n => ⟨hS1.sp.dN n, hS1.bx⟩
          refine (hLv _ (hS1d _)).mono ?_
          rintro e w2 ⟨rfl, hb2⟩
          have hS2 := ((hS1d _).keep hb2).alloc (.cells #[.int .i64 0, .int .i64 0] 23)
          clear c0 c1 c2 c3 c4 c5 c6 c7 c8 hLv
          go_wp2_with fail
          refine (awake_c _).mono ?_
          rintro e w9 ⟨rfl, hb9⟩
          go_wp2_with fail
          go_ret
          exact ⟨rfl, (hS2.keep hb9).sp.sn.1⟩
        | some x =>
          have hwt : watE s l (mi : Int) = 0 := by simp [watE, HCK.out, HRS.out, hwi, hx]
          have hle : levelA s l (mi : Int) = (x, 0) := by simp [levelA, hwt, hx]
          have hx' := hx
          unfold now at hx'
          have hv := vd_lv (s := s) (l := kno l (mi : Int)) (m := 0) (vd_start HS_.out) (mi : Int).toNat x hx'
          simp only [hle] at hLv
          have HX := Lib.hid hx
          obtain ⟨lo, hi⟩ := x
          dsimp only at hv hLv
          clear hwt hle hx hx' hwi
          go_wp2_with fail
          have hS1d : ∀ n, Sp2 w s m 63 #[.int .u8 (x0 : Int), .int .u8 (x1 : Int)] (w1.drewN n) := fun n => ⟨hS1.sp.dN n, hS1.bx⟩
          refine (hLv _ (hS1d _)).mono ?_
          rintro e w2 ⟨rfl, hb2⟩
          have hS2 := (hS1d _).keep hb2
          have hR3 := Blk.new w2 23 #[.int .i64 lo, .int .i64 hi]
          have hS3 := hS2.alloc (.cells #[.int .i64 lo, .int .i64 hi] 23)
          obtain ⟨gR, hgR⟩ : ∃ gR, w2.heap.size = gR := ⟨_, rfl⟩
          have hgR2 := hS2.lt
          clear c0 c1 c2 c3 c4 c5 c6 c7 c8 hLv hb2 hS1 hS1d
          go_upto_region 7 with fail
          obtain ⟨W3, hW3⟩ : ∃ W3, w2.alloc (.cells #[.int .i64 lo, .int .i64 hi] 23) = W3 := ⟨_, rfl⟩
          rw [hW3] at hR3 hS3
          try rw [hW3]
          rw [hgR] at hR3 hgR2
          try rw [hgR]
          obtain ⟨c0, c1, c2, c3, c4, c5, c6, c7, c8⟩ := hS3.sp.bk.space
          have hM4 := Blk.new W3 27 (sV s m)
          have hS4 := hS3.alloc (.cells (sV s m) 27)
          have hR4 := hR3.alloc (.cells (sV s m) 27)
          obtain ⟨gM, hgM⟩ : ∃ gM, W3.heap.size = gM := ⟨_, rfl⟩
          have hgM2 : gR < gM := by rw [← hgM]; exact hR3.lt
          clear hW3 hgR hS2
          go_upto_region 8 with fail
          obtain ⟨W4, hW4⟩ : ∃ W4, W3.alloc (.cells (sV s m) 27) = W4 := ⟨_, rfl⟩
          rw [hW4] at hM4 hS4 hR4
          try rw [hW4]
          rw [hgM] at hM4
          try rw [hgM]
          clear c0 c1 c2 c3 c4 c5 c6 c7 c8 hS3 hR3 hW4 hgM
          have hNM := name_of HCK.out
          have HNM := Lib.hid hNM
          have hR4' := Lib.hid hR4
          have hM4' := Lib.hid hM4
          have hS4' := Lib.hid hS4
          clear hNM hR4 hM4 hS4
          go_wp2_with fail
          go_loopw [12, 13] (fun nv i wr => ∃ k : Nat, k ≤ s.tools.length ∧ nv = .string (zName s.tools k) ∧ i = .int .i64 k ∧ Hid (Sp2 w s m 63 #[.int .u8 (x0 : Int), .int .u8 (x1 : Int)] wr) ∧ Hid (Blk wr gR 23 #[.int .i64 lo, .int .i64 hi]) ∧ Hid (Blk wr gM 27 (sV s m))) (fun _ i _ => s.tools.length - (intOf i).toNat)
          case atStart => exact ⟨0, Nat.zero_le _, by rfl, rfl, hS4', hR4', hM4'⟩
          case round =>
            clear hS4' hR4' hM4'
            obtain ⟨k, hk, rfl, rfl, HS, HR, HM⟩ := hrel
            obtain ⟨c0, c1, c2, c3, c4, c5, c6, c7, c8⟩ := HS.out.sp.bk.space
            by_cases hkl : k < s.tools.length
            · obtain ⟨ad, hA, q0, q1⟩ := hsa.tl.get hkl
              rw [hA] at c8
              have q0 := keep_cell HS.out.sp.sn.1 q0
              have hki : (k : Int) < (s.tools.length : Int) := by omega
              obtain ⟨b, r, hbr, _⟩ := name_head (HNM.out _ (List.getElem_mem hkl))
              have hnx := zName_next hkl (b := b) (by rw [hbr]; rfl)
              have HNX := Lib.hid hnx
              have hsz : (zName s.tools k).size ≤ 4 := by show (zName s.tools k).data.size ≤ 4; simp [zName]; omega
              obtain ⟨nm, hnm⟩ : ∃ nm, s.tools[k].name = nm := ⟨_, rfl⟩
              rw [hnm] at q0 hbr
              have hn1 : 1 ≤ nm.size := by show 1 ≤ nm.data.size; rw [← Array.length_toList, hbr]; simp
              have hex : nm.extract 0 1 = ⟨#[b]⟩ := by
                apply ByteArray.ext
                rw [ByteArray.data_extract]
                apply Array.toList_inj.1
                rw [Array.toList_extract]
                rw [hbr]
                rfl
              obtain ⟨zn, hzn⟩ : ∃ zn, zName s.tools k = zn := ⟨_, rfl⟩
              rw [hzn] at HNX hsz ⊢
              clear hbr hnm hzn hnx
              go_wp2_with fail
              go_roundw
              case rel => exact ⟨k + 1, by omega, by first | rw [HNX.out] | rw [HNX.out, hex], by go_num, HS, HR, HM⟩
              case measure => simp [intOf]; omega
            · have hki : ¬ (k : Int) < (s.tools.length : Int) := by omega
              obtain rfl : k = s.tools.length := by omega
              obtain ⟨W5, rfl⟩ : ∃ W5, W5 = wr := ⟨_, rfl⟩
              have hzo := zName_ok (l := s.tools) (by omega) HNM.out
              have hzs : (zName s.tools s.tools.length).size ≤ 4 := by show (zName s.tools s.tools.length).data.size ≤ 4; simp [zName]; omega
              obtain ⟨nm, hnm⟩ : ∃ nm, zName s.tools s.tools.length = nm := ⟨_, rfl⟩
              rw [hnm] at hzo hzs ⊢
              have hmS := HS.out.lt
              have hmS1 : w.heap.size < W5.heap.size := by omega
              have hmM := HM.out.lt
              have hmR := HR.out.lt
              have hoE := own_nil (W := W5) (Nat.le_refl _)
              have hq5 : Below W5.heap.size W5 (W5.alloc (.cells #[] 65)) := (Below.refl _ _).alloc (Nat.le_refl _) _
              have hTl5 := hsa.tl.keep ((HS.out.keep hq5).sp.sn.1)
              have hlt5 := hoE.lt
              have HOE := Lib.hid hoE
              have HTL5 := Lib.hid hTl5
              have HLT5 := Lib.hid hlt5
              have hln : ([] : List Tl).length + s.tools.length ≤ 4000000 := by simp; omega
              clear hoE hTl5 hlt5 hnm
              go_wp2_with (at_builtin; refine wpList_append_tls rfl (.tmp 76) (.tmp 78) rfl (B := W5.heap.size) (l := []) (k := s.tools) (A := m.T) (c := m.d) (by go_simp) (by go_simp) HOE.out HTL5.out hln (by simp) ?_)
              intro v6 w6 ho6 hg6 _
              have hlt5 := HLT5.out
              have HS6 := Lib.hid ((HS.out.keep hq5).grown hg6 (fun q h => by have := (hlt5 q h).1; omega))
              have HR6 := Lib.hid ((HR.out.keep hq5).grown hg6 (fun h => by have := (hlt5 _ h.symm).1; omega))
              have HM6 := Lib.hid ((HM.out.keep hq5).grown hg6 (fun h => by have := (hlt5 _ h.symm).1; omega))
              have hz6 : W5.heap.size + 1 ≤ w6.heap.size := by have := hg6.size; simpa using this
              have hq6 : Below w6.heap.size w6 (w6.alloc (.cells #[.string nm, .int .i64 0] 65)) := (Below.refl _ _).alloc (Nat.le_refl _) _
              have HO6 := Lib.hid (own_keep ho6 hq6)
              have HN6 := Lib.hid (Blk.new w6 65 #[.string nm, .int .i64 0])
              have hzB : W5.heap.size ≤ (w6.alloc (.cells #[.string nm, .int .i64 0] 65)).heap.size := by simp; omega
              have hln2 : s.tools.length ≤ 1000 := by omega
              clear hlt5 hg6 ho6 HS HR HM HOE HTL5 HLT5 c0 c1 c2 c3 c4 c5 c6 c7 c8 hq5
              go_wp2_with (at_builtin; refine wpList_append_tl rfl (.tmp 79) (.tmp 82) rfl (B := W5.heap.size) (g := w6.heap.size) (l := s.tools) (t := ⟨nm, 0⟩) (by go_simp) (by go_simp) HO6.out HN6.out hln2 hzB ?_)
              intro v7 w7 ho7 hg7 _
              have hlt6 := HO6.out.lt
              have hS7 := (HS6.out.keep hq6).grown hg7 (fun q h => by have := (hlt6 q h).1; omega)
              have hR7 := (HR6.out.keep hq6).grown hg7 (fun h => by have := (hlt6 _ h.symm).1; omega)
              have hM7 := (HM6.out.keep hq6).grown hg7 (fun h => by have := (hlt6 _ h.symm).1; omega)
              have hgMw : w.heap.size + 1 < gM := by omega
              have hlt7 := ho7.lt
              obtain ⟨MA, mc, hv7, _, hmc1, hmc2⟩ := own_tl ho7
              subst hv7
              have hS8 := hS7.cell2 (g := gM) hgMw 8 (.slice MA (s.tools ++ [(⟨nm, 0⟩ : Tl)]).length mc)
              have hR8 := hR7.far (g' := gM) (by omega) 8 (.slice MA (s.tools ++ [(⟨nm, 0⟩ : Tl)]).length mc)
              have hM8 := hM7.set 8 (.slice MA (s.tools ++ [(⟨nm, 0⟩ : Tl)]).length mc)
              simp only [sV, List.setIfInBounds_toArray, List.set_cons_zero, List.set_cons_succ] at hM8
              have ho8 := own_far ho7 gM 8 (.slice MA (s.tools ++ [(⟨nm, 0⟩ : Tl)]).length mc) (fun q e => by have := (hlt7 q e).1; omega)
              obtain ⟨MA', mc', hv8, htl8, _, _⟩ := own_tl ho8
              cases hv8
              have hM9 : Blk (w7.setCell ⟨gM, 8, none⟩ (.slice MA (s.tools ++ [(⟨nm, 0⟩ : Tl)]).length mc)) gM 27 (sV (spZ s nm) ⟨m.A, m.c, MA, mc⟩) := hM8
              have hsz : SAt (w7.setCell ⟨gM, 8, none⟩ (.slice MA (s.tools ++ [(⟨nm, 0⟩ : Tl)]).length mc)) ⟨m.A, m.c, MA, mc⟩ (spZ s nm) := ⟨hsa.bl.keep hS8.sp.sn.1, htl8, hsa.bc, hmc1, hsa.cM, hmc2, fun t ht => by
                rcases List.mem_append.1 ht with h | h
                · exact hsa.nm t h
                · obtain rfl := List.mem_singleton.1 h
                  show nm.size ≤ maxLen
                  simp only [maxLen]
                  omega⟩
              have m8 := hM7.cell 8
              have f8 := hM7.frozen 8
              simp only [sV, List.getElem?_toArray, List.getElem?_cons_zero, List.getElem?_cons_succ] at m8
              clear hlt6 hlt7 hg7 ho7 ho8 HO6 HN6 HS6 HR6 HM6 hM7 hM8 htl8 hq6 hS7 hR7
              go_upto_region 14 with fail
              obtain ⟨W8, hW8⟩ : ∃ W8, w7.setCell ⟨gM, 8, none⟩ (.slice MA (s.tools ++ [(⟨nm, 0⟩ : Tl)]).length mc) = W8 := ⟨_, rfl⟩
              rw [hW8] at hS8 hR8 hM9 hsz
              have hsl : (s.tools ++ [(⟨nm, 0⟩ : Tl)]).length = s.tools.length + 1 := by simp
              try rw [hsl] at hW8
              try rw [hW8]
              obtain ⟨sz, hsz0⟩ : ∃ sz, spZ s nm = sz := ⟨_, rfl⟩
              obtain ⟨mz, hmz⟩ : ∃ mz : Sl, (⟨m.A, m.c, MA, mc⟩ : Sl) = mz := ⟨_, rfl⟩
              rw [hsz0, hmz] at hM9 hsz
              have HZ0 := Lib.hid hsz0
              clear hsz0 hmz
              have HS8 := Lib.hid hS8
              have HR8 := Lib.hid hR8
              have HM8 := Lib.hid hM9
              have HSZ := Lib.hid hsz
              clear hS8 hR8 hM9 hsz hW8 m8 f8 hsl
              go_wp2_with fail
              go_loopw [14] (fun i wr => ∃ k : Nat, k ≤ s.tools.length ∧ i = .int .i64 k ∧ Hid (Since W8 wr) ∧ Hid (∀ t ∈ s.tools.take k, eqS t.name nm = false)) (fun i _ => s.tools.length - (intOf i).toNat)
              case atStart => exact ⟨0, Nat.zero_le _, rfl, Since.refl _, fun t ht => by simp at ht⟩
              case round =>
                obtain ⟨k, hk, rfl, HX8, HE⟩ := hrel
                have hSx := HS8.out.keep HX8.out.1
                obtain ⟨c0, c1, c2, c3, c4, c5, c6, c7, c8⟩ := hSx.sp.bk.space
                by_cases hkl : k < s.tools.length
                · obtain ⟨ad, hA, q0, q1⟩ := hsa.tl.get hkl
                  rw [hA] at c8
                  have q0 := keep_cell hSx.sp.sn.1 q0
                  have hki : (k : Int) < (s.tools.length : Int) := by omega
                  rcases Bool.eq_false_or_eq_true (eqS s.tools[k].name nm) with he | he
                  · have he' : (s.tools[k].name.toList == nm.toList) = true := he
                    clear he
                    go_wp2_with fail
                    refine (awake_c _).mono ?_
                    rintro e w9 ⟨rfl, hb9⟩
                    go_wp2_with fail
                    go_ret
                    exact ⟨rfl, (hSx.keep hb9).sp.sn.1⟩
                  · have he' : (s.tools[k].name.toList == nm.toList) = false := he
                    have HE2 : Hid (∀ t ∈ s.tools.take (k + 1), eqS t.name nm = false) := fun t ht => by
                      rw [List.take_succ_eq_append_getElem hkl] at ht
                      rcases List.mem_append.1 ht with h | h
                      · exact HE.out t h
                      · obtain rfl := List.mem_singleton.1 h
                        exact he
                    clear he
                    go_wp2_with fail
                    go_roundw
                    case rel => exact ⟨k + 1, by omega, by go_num, HX8, HE2⟩
                    case measure => simp [intOf]; omega
                · have hki : ¬ (k : Int) < (s.tools.length : Int) := by omega
                  obtain rfl : k = s.tools.length := by omega
                  obtain ⟨W9, rfl⟩ : ∃ W9, W9 = wr := ⟨_, rfl⟩
                  have hnE := HE.out
                  rw [List.take_length] at hnE
                  have HS9 := Lib.hid hSx
                  have HR9 := Lib.hid (HR8.out.keep HX8.out.1)
                  have HM9 := Lib.hid (HM8.out.keep HX8.out.1)
                  have HSZ9 := Lib.hid (HSZ.out.keep HX8.out.1)
                  have HLZ : Hid (∀ n : Int, -50 ≤ n → n ≤ 250 → levelA sz (l ++ [⟨(mi : Int), (s.tools.length : Int), n⟩]) (mi : Int) = if lo ≤ n ∧ n ≤ hi then ((n, n), 0) else ((0, 0), 9)) := fun n n0 n1 => by rw [← HZ0.out]; exact levelZ HCK.out hn2 hzo hnE h11 HRO.out (by omega) n0 n1 HX.out
                  clear HS8 HR8 HM8 HSZ HX8 HE hnE hSx
                  go_wp2_with fail
                  go_loopw [15, 16, 17, 18, 19] (fun i _ _ _ _ wr => ∃ k : Nat, k ≤ 4 ∧ i = .int .i64 k ∧ Hid (Since W9 wr)) (fun i _ _ _ _ _ => 4 - (intOf i).toNat)
                  case atStart => exact ⟨0, by omega, rfl, Since.refl _⟩
                  case round =>
                    obtain ⟨k, hk, rfl, HX9⟩ := hrel
                    have HS := Lib.hid (HS9.out.keep HX9.out.1)
                    have HR := Lib.hid (HR9.out.keep HX9.out.1)
                    have HM := Lib.hid (HM9.out.keep HX9.out.1)
                    have HSZ := Lib.hid (HSZ9.out.keep HX9.out.1)
                    have r0 := HR.out.cell 0
                    have r1 := HR.out.cell 1
                    simp only [List.getElem?_toArray, List.getElem?_cons_zero, List.getElem?_cons_succ] at r0 r1
                    obtain ⟨dn, hdn⟩ : ∃ dn, lo - (bb : Int) = dn := ⟨_, rfl⟩
                    obtain ⟨up, hup⟩ : ∃ up, hi + (bb : Int) = up := ⟨_, rfl⟩
                    have b1 : IntKind.i64.wrap (lo - (bb : Int)) = dn := by rw [IntWalk.i64_in _ (by omega), hdn]
                    have b2 : IntKind.i64.wrap (hi + (bb : Int)) = up := by rw [IntWalk.i64_in _ (by omega), hup]
                    have HDN := Lib.hid hdn
                    have HUP := Lib.hid hup
                    have hzr := HS.out.lt
                    have hzR := HR.out.lt
                    clear hdn hup
                    rcases (by omega : k = 0 ∨ k = 1 ∨ k = 2 ∨ k = 3 ∨ k = 4) with rfl | rfl | rfl | rfl | rfl
                    · have hLZ := HLZ.out lo (by have := HDN.out; have := HUP.out; omega) (by have := HDN.out; have := HUP.out; omega)
                      rw [if_pos (by have := HDN.out; have := HUP.out; omega)] at hLZ
                      go_upto_region 23 with fail
                      obtain ⟨X0, hX0⟩ : ∃ X0, wr.alloc (.cells #[.int .i64 lo, .int .i64 hi, .int .i64 dn, .int .i64 up] 3) = X0 := ⟨_, rfl⟩
                      have hqx : Below wr.heap.size wr X0 := by rw [← hX0]; exact (Below.refl _ _).alloc (Nat.le_refl _) _
                      try rw [hX0]
                      have HSx := Lib.hid (HS.out.keep hqx)
                      have HMx := Lib.hid (HM.out.keep hqx)
                      have HZx := Lib.hid (HSZ.out.keep hqx)
                      have HXx := Lib.hid (HX9.out.keep hqx)
                      have hX0s := HSx.out.lt
                      clear hX0 hqx HS HM HSZ HX9 HR r0 r1 b1 b2 hzr hzR
                      refine Vals9.region (fun σ Z => Sp2 w s m 63 #[.int .u8 (x0 : Int), .int .u8 (x1 : Int)] Z ∧ Lin X0 (rchL l (⟨(mi : Int), (s.tools.length : Int), lo⟩ : Rd)) rchC σ Z) [some 121, some 122, some 123, some 124, some 125, some 126, some 127, some 128, some 129, some 130, some 131, some 17] [.any, .is ?_, .any, .is ?_, .is ?_, .is ?_, .is ?_, .is ?_, .is ?_, .any, .any, .any] (by kernel_rfl) (by kernel_rfl) (by kernel_rfl) (by kernel_rfl) (by kernel_rfl) (by kernel_rfl) (⟨HSx.out.drew, Lin.start X0 _ _⟩) ?hsA0 ?hfA0
                      case hsA0 =>
                        refine Vals9.Steps.mark rfl ?_ ?_
                        · intro a W σ hJ hn pre K hK
                          go_simp
                          exact hK _ _ ⟨hJ.1.alloc _, hJ.2.lay (k := 0) (L := []) hn (by decide) rfl (fun i L h => rchC_0 i) (by simp)⟩
                        refine Vals9.Steps.run rfl ?_ ?_
                        · intro a W σ hJ pre K hK
                          have e1 := pre.2.2 1 _ (by kernel_rfl) rfl
                          clear pre
                          simp only [Array.getD_eq_getD_getElem?, List.getElem?_toArray, List.getElem?_cons_zero, List.getElem?_cons_succ, Option.getD_some] at e1
                          go_simp
                          exact hK _ hJ
                        refine Vals9.Steps.mark rfl ?_ ?_
                        · intro a W σ hJ hn pre K hK
                          obtain ⟨v121, s121, e121⟩ := pre.2.1 0 (by kernel_rfl) rfl
                          replace e121 : a.tmps.getD 121 undef = v121 := e121 121 rfl
                          have e122 := pre.1 1 122 _ (by kernel_rfl) rfl rfl
                          simp only [Array.getD_eq_getD_getElem?, List.getElem?_toArray, List.getElem?_cons_zero, List.getElem?_cons_succ, Option.getD_some] at e121 e122
                          have ho := hJ.2.ow 0 [] _ rfl s121 hn
                          have hw2 : ∀ i L, rchL l (⟨(mi : Int), (s.tools.length : Int), lo⟩ : Rd) i = some L → rchC i = 2 → ∃ u, σ i = some u := fun i L h hc => by obtain rfl := rchC_2 hc; exact ⟨_, s121⟩
                          refine wp_append_rds (.tmp 121) (.tmp 122) rfl (B := X0.heap.size) (l := []) (k := l) (A := A) (c := c) (by go_simp) (by go_simp) ho (hrd.keep (hJ.1.sp.sn).1) (by simp; omega) hJ.2.sn.2 ?_
                          intro v' w' ho2 hg hn2
                          exact hK _ _ ⟨hJ.1.grown hg (fun q e => by have := (ho).lt q e; have := this.1; have := hX0s; omega), hJ.2.onto (k := 2) (d := 0) (D := []) (L := l) hn (by decide) hw2 rfl rfl s121 rfl (by decide) ho2 hg hn2⟩
                        refine Vals9.Steps.run rfl ?_ ?_
                        · intro a W σ hJ pre K hK
                          have e7 := pre.2.2 7 _ (by kernel_rfl) rfl
                          clear pre
                          simp only [Array.getD_eq_getD_getElem?, List.getElem?_toArray, List.getElem?_cons_zero, List.getElem?_cons_succ, Option.getD_some] at e7
                          go_simp
                          exact hK _ hJ
                        refine Vals9.Steps.run rfl ?_ ?_
                        · intro a W σ hJ pre K hK
                          have e3 := pre.2.2 3 _ (by kernel_rfl) rfl
                          clear pre
                          simp only [Array.getD_eq_getD_getElem?, List.getElem?_toArray, List.getElem?_cons_zero, List.getElem?_cons_succ, Option.getD_some] at e3
                          go_simp
                          exact hK _ hJ
                        refine Vals9.Steps.run rfl ?_ ?_
                        · intro a W σ hJ pre K hK
                          have e125 := pre.1 4 125 _ (by kernel_rfl) rfl rfl
                          clear pre
                          simp only [Array.getD_eq_getD_getElem?, List.getElem?_toArray, List.getElem?_cons_zero, List.getElem?_cons_succ, Option.getD_some] at e125
                          have hS9 := hJ
                          obtain ⟨l1, l2⟩ := hS9
                          obtain ⟨c0, c1, c2, c3, c4, c5, c6, c7, c8⟩ := l1.sp.bk.space
                          go_simp
                          exact hK _ hJ
                        refine Vals9.Steps.run rfl ?_ ?_
                        · intro a W σ hJ pre K hK
                          have e126 := pre.1 5 126 _ (by kernel_rfl) rfl rfl
                          clear pre
                          simp only [Array.getD_eq_getD_getElem?, List.getElem?_toArray, List.getElem?_cons_zero, List.getElem?_cons_succ, Option.getD_some] at e126
                          go_simp
                          exact hK _ hJ
                        refine Vals9.Steps.run rfl ?_ ?_
                        · intro a W σ hJ pre K hK
                          have e16 := pre.2.2 16 _ (by kernel_rfl) rfl
                          clear pre
                          simp only [Array.getD_eq_getD_getElem?, List.getElem?_toArray, List.getElem?_cons_zero, List.getElem?_cons_succ, Option.getD_some] at e16
                          go_simp
                          exact hK _ hJ
                        refine Vals9.Steps.run rfl ?_ ?_
                        · intro a W σ hJ pre K hK
                          have e124 := pre.1 3 124 _ (by kernel_rfl) rfl rfl
                          have e127 := pre.1 6 127 _ (by kernel_rfl) rfl rfl
                          have e128 := pre.1 7 128 _ (by kernel_rfl) rfl rfl
                          clear pre
                          simp only [Array.getD_eq_getD_getElem?, List.getElem?_toArray, List.getElem?_cons_zero, List.getElem?_cons_succ, Option.getD_some] at e124 e127 e128
                          go_simp
                          exact hK _ hJ
                        refine Vals9.Steps.mark rfl ?_ ?_
                        · intro a W σ hJ hn pre K hK
                          have e129 := pre.1 8 129 _ (by kernel_rfl) rfl rfl
                          simp only [Array.getD_eq_getD_getElem?, List.getElem?_toArray, List.getElem?_cons_zero, List.getElem?_cons_succ, Option.getD_some] at e129
                          go_simp
                          exact hK _ _ ⟨hJ.1.alloc _, hJ.2.lay (k := 9) (L := [(⟨(mi : Int), (s.tools.length : Int), lo⟩ : Rd)]) hn (by decide) rfl (fun i L h => rchC_9 i) (by simp)⟩
                        refine Vals9.Steps.mark rfl ?_ ?_
                        · intro a W σ hJ hn pre K hK
                          obtain ⟨v123, s123, e123⟩ := pre.2.1 2 (by kernel_rfl) rfl
                          replace e123 : a.tmps.getD 123 undef = v123 := e123 123 rfl
                          obtain ⟨v130, s130, e130⟩ := pre.2.1 9 (by kernel_rfl) rfl
                          replace e130 : a.tmps.getD 130 undef = v130 := e130 130 rfl
                          simp only [Array.getD_eq_getD_getElem?, List.getElem?_toArray, List.getElem?_cons_zero, List.getElem?_cons_succ, Option.getD_some] at e123 e130
                          have ho := hJ.2.ow 2 l _ rfl s123 hn
                          have ho1 := hJ.2.ow 9 [(⟨(mi : Int), (s.tools.length : Int), lo⟩ : Rd)] _ rfl s130 hn
                          obtain ⟨A1, c1, hv1, hr1, _, _⟩ := own_rd2 ho1
                          subst hv1
                          have hw2 : ∀ i L, rchL l (⟨(mi : Int), (s.tools.length : Int), lo⟩ : Rd) i = some L → rchC i = 10 → ∃ u, σ i = some u := fun i L h hc => by rcases rchC_10 hc with rfl | rfl; exact ⟨_, s123⟩; exact ⟨_, s130⟩
                          refine wp_append_rds (.tmp 123) (.tmp 130) rfl (B := X0.heap.size) (l := l) (k := [(⟨(mi : Int), (s.tools.length : Int), lo⟩ : Rd)]) (A := A1) (c := c1) (by go_simp) (by go_simp) ho hr1 (by simp; omega) hJ.2.sn.2 ?_
                          intro v' w' ho2 hg hn2
                          exact hK _ _ ⟨hJ.1.grown hg (fun q e => by have := (ho).lt q e; have := this.1; have := hX0s; omega), hJ.2.onto (k := 10) (d := 2) (D := l) (L := l ++ [(⟨(mi : Int), (s.tools.length : Int), lo⟩ : Rd)]) hn (by decide) hw2 rfl rfl s123 rfl (by decide) ho2 hg hn2⟩
                        refine Vals9.Steps.mark rfl ?_ ?_
                        · intro a W σ hJ hn pre K hK
                          obtain ⟨v131, s131, e131⟩ := pre.2.1 10 (by kernel_rfl) rfl
                          replace e131 : a.tmps.getD 131 undef = v131 := e131 131 rfl
                          simp only [Array.getD_eq_getD_getElem?, List.getElem?_toArray, List.getElem?_cons_zero, List.getElem?_cons_succ, Option.getD_some] at e131
                          have hw2 : ∀ i L, rchL l (⟨(mi : Int), (s.tools.length : Int), lo⟩ : Rd) i = some L → rchC i = 11 → ∃ u, σ i = some u := fun i L h hc => by obtain rfl := rchC_11 hc; exact ⟨_, s131⟩
                          go_simp
                          exact hK _ _ ⟨hJ.1, hJ.2.move (k := 11) (d := 10) (L := l ++ [(⟨(mi : Int), (s.tools.length : Int), lo⟩ : Rd)]) hn (by decide) hw2 rfl rfl s131 rfl (by decide)⟩
                        exact Vals9.Steps.nil
                      case hfA0 =>
                        intro Y σ hJ
                        simp only [Vals9.All]
                        intro v121 h121 v123 h123 v130 h130 v131 h131 v17 h17
                        simp only [Vals.putAll, List.setIfInBounds_toArray, List.set_cons_zero, List.set_cons_succ]
                        have ho := hJ.2.ow 11 _ v17 rfl h17 (hJ.2.no 12 rfl)
                        obtain ⟨QA, qc, hv17, hrQ, hq1, hq2⟩ := own_rd2 ho
                        subst hv17
                        have HMY := Lib.hid (HMx.out.keep hJ.2.sn.1)
                        have HXY := Lib.hid (HXx.out.keep hJ.2.sn.1)
                        have hLv := level_c sz mz QA _ qc (mi : Int) Y (HZx.out.keep hJ.2.sn.1) hq1 hq2 hrQ
                        rw [hLZ] at hLv
                        dsimp only at hLv
                        obtain ⟨L1, hL1⟩ : ∃ L1, l ++ [(⟨(mi : Int), (s.tools.length : Int), lo⟩ : Rd)] = L1 := ⟨_, rfl⟩
                        rw [hL1] at hLv ⊢
                        obtain ⟨n1, hn1⟩ : ∃ n1, L1.length = n1 := ⟨_, rfl⟩
                        rw [hn1] at hLv ⊢
                        have HL1 := Lib.hid hL1
                        clear hL1 hn1 hrQ hq1 hLZ
                        clear hJ ho h121 h123 h130 h131 h17 HSx HMx HZx HXx
                        obtain ⟨c0, c1, c2, c3, c4, c5, c6, c7, c8⟩ := HMY.out.space
                        go_wp2_with fail
                        refine hLv.mono ?_
                        rintro e w10 ⟨rfl, hb10⟩
                        have HX10 := HXY.out.keep hb10
                        have HX11 := Lib.hid (HX10.alloc (.cells #[.int .i64 lo, .int .i64 lo] 23))
                        have HT11 := Lib.hid (Blk.new w10 23 #[.int .i64 lo, .int .i64 lo])
                        clear c0 c1 c2 c3 c4 c5 c6 c7 c8 hLv hb10 HX10 HMY HXY
                        go_upto_region 25 with fail
                        obtain ⟨W11, hW11⟩ : ∃ W11, w10.alloc (.cells #[.int .i64 lo, .int .i64 lo] 23) = W11 := ⟨_, rfl⟩
                        obtain ⟨gT, hgT⟩ : ∃ gT, w10.heap.size = gT := ⟨_, rfl⟩
                        rw [hW11] at HX11 HT11
                        rw [hgT] at HT11
                        try rw [hW11]
                        try rw [hgT]
                        clear hW11 hgT
                        refine Vals9.region (fun _ Z => Since W11 Z ∧ Blk Z gT 23 #[.int .i64 lo, .int .i64 lo]) [some 139, some 140, some 141, some 142, some 143, some 144, some 145, some 146, some 147, some 148, some 149, some 150, some 151, some 152, some 153, some 154, some 155, some 156, some 157, some 158, some 159] [.is ?_, .is ?_, .is ?_, .is ?_, .is ?_, .is ?_, .is ?_, .is ?_, .is ?_, .is ?_, .is ?_, .is ?_, .is ?_, .is ?_, .is ?_, .is ?_, .is ?_, .is undef, .is undef, .is ?_, .is ?_] (by kernel_rfl) (by kernel_rfl) (by kernel_rfl) (by kernel_rfl) (by kernel_rfl) (by kernel_rfl) (⟨(Since.refl W11).drew, HT11.out.drew⟩) ?hsB0 ?hfB0
                        case hsB0 =>
                          refine Vals9.Steps.run rfl ?_ ?_
                          · intro a W σ hJ pre K hK
                            have e15 := pre.2.2 15 _ (by kernel_rfl) rfl
                            clear pre
                            simp only [Array.getD_eq_getD_getElem?, List.getElem?_toArray, List.getElem?_cons_zero, List.getElem?_cons_succ, Option.getD_some] at e15
                            go_simp
                            exact hK _ hJ
                          refine Vals9.Steps.run rfl ?_ ?_
                          · intro a W σ hJ pre K hK
                            have e139 := pre.1 0 139 _ (by kernel_rfl) rfl rfl
                            clear pre
                            simp only [Array.getD_eq_getD_getElem?, List.getElem?_toArray, List.getElem?_cons_zero, List.getElem?_cons_succ, Option.getD_some] at e139
                            go_simp
                            exact hK _ hJ
                          refine Vals9.Steps.run rfl ?_ ?_
                          · intro a W σ hJ pre K hK
                            have e140 := pre.1 1 140 _ (by kernel_rfl) rfl rfl
                            clear pre
                            simp only [Array.getD_eq_getD_getElem?, List.getElem?_toArray, List.getElem?_cons_zero, List.getElem?_cons_succ, Option.getD_some] at e140
                            go_simp
                            exact hK _ hJ
                          refine Vals9.Steps.run rfl ?_ ?_
                          · intro a W σ hJ pre K hK
                            have e19 := pre.2.2 19 _ (by kernel_rfl) rfl
                            clear pre
                            simp only [Array.getD_eq_getD_getElem?, List.getElem?_toArray, List.getElem?_cons_zero, List.getElem?_cons_succ, Option.getD_some] at e19
                            go_simp
                            exact hK _ hJ
                          refine Vals9.Steps.run rfl ?_ ?_
                          · intro a W σ hJ pre K hK
                            have e142 := pre.1 3 142 _ (by kernel_rfl) rfl rfl
                            clear pre
                            simp only [Array.getD_eq_getD_getElem?, List.getElem?_toArray, List.getElem?_cons_zero, List.getElem?_cons_succ, Option.getD_some] at e142
                            go_simp
                            exact hK _ hJ
                          refine Vals9.Steps.run rfl ?_ ?_
                          · intro a W σ hJ pre K hK
                            have e143 := pre.1 4 143 _ (by kernel_rfl) rfl rfl
                            clear pre
                            simp only [Array.getD_eq_getD_getElem?, List.getElem?_toArray, List.getElem?_cons_zero, List.getElem?_cons_succ, Option.getD_some] at e143
                            go_simp
                            exact hK _ hJ
                          refine Vals9.Steps.run rfl ?_ ?_
                          · intro a W σ hJ pre K hK
                            have e18 := pre.2.2 18 _ (by kernel_rfl) rfl
                            clear pre
                            simp only [Array.getD_eq_getD_getElem?, List.getElem?_toArray, List.getElem?_cons_zero, List.getElem?_cons_succ, Option.getD_some] at e18
                            have hS9 := hJ
                            have g0 := hJ.2.cell 0
                            have g1 := hJ.2.cell 1
                            simp only [List.getElem?_toArray, List.getElem?_cons_zero, List.getElem?_cons_succ] at g0 g1
                            go_simp
                            exact hK _ hJ
                          refine Vals9.Steps.run rfl ?_ ?_
                          · intro a W σ hJ pre K hK
                            have e16 := pre.2.2 16 _ (by kernel_rfl) rfl
                            clear pre
                            simp only [Array.getD_eq_getD_getElem?, List.getElem?_toArray, List.getElem?_cons_zero, List.getElem?_cons_succ, Option.getD_some] at e16
                            go_simp
                            exact hK _ hJ
                          refine Vals9.Steps.run rfl ?_ ?_
                          · intro a W σ hJ pre K hK
                            have e16 := pre.2.2 16 _ (by kernel_rfl) rfl
                            clear pre
                            simp only [Array.getD_eq_getD_getElem?, List.getElem?_toArray, List.getElem?_cons_zero, List.getElem?_cons_succ, Option.getD_some] at e16
                            go_simp
                            exact hK _ hJ
                          refine Vals9.Steps.run rfl ?_ ?_
                          · intro a W σ hJ pre K hK
                            have e146 := pre.1 7 146 _ (by kernel_rfl) rfl rfl
                            have e147 := pre.1 8 147 _ (by kernel_rfl) rfl rfl
                            clear pre
                            simp only [Array.getD_eq_getD_getElem?, List.getElem?_toArray, List.getElem?_cons_zero, List.getElem?_cons_succ, Option.getD_some] at e146 e147
                            go_simp
                            refine (span_c lo lo _).mono ?_
                            rintro e w' ⟨rfl, hb'⟩
                            exact hK _ ⟨hJ.1.keep hb', hJ.2.keep hb'⟩
                          refine Vals9.Steps.run rfl ?_ ?_
                          · intro a W σ hJ pre K hK
                            have e145 := pre.1 6 145 _ (by kernel_rfl) rfl rfl
                            have e148 := pre.1 9 148 _ (by kernel_rfl) rfl rfl
                            clear pre
                            simp only [Array.getD_eq_getD_getElem?, List.getElem?_toArray, List.getElem?_cons_zero, List.getElem?_cons_succ, Option.getD_some] at e145 e148
                            have heq := fun w => eqSpan lo lo w
                            go_simp
                            exact hK _ hJ
                          refine Vals9.Steps.run rfl ?_ ?_
                          · intro a W σ hJ pre K hK
                            have e144 := pre.1 5 144 _ (by kernel_rfl) rfl rfl
                            have e149 := pre.1 10 149 _ (by kernel_rfl) rfl rfl
                            clear pre
                            simp only [Array.getD_eq_getD_getElem?, List.getElem?_toArray, List.getElem?_cons_zero, List.getElem?_cons_succ, Option.getD_some] at e144 e149
                            go_simp
                            exact hK _ hJ
                          refine Vals9.Steps.run rfl ?_ ?_
                          · intro a W σ hJ pre K hK
                            have e141 := pre.1 2 141 _ (by kernel_rfl) rfl rfl
                            have e150 := pre.1 11 150 _ (by kernel_rfl) rfl rfl
                            clear pre
                            simp only [Array.getD_eq_getD_getElem?, List.getElem?_toArray, List.getElem?_cons_zero, List.getElem?_cons_succ, Option.getD_some] at e141 e150
                            go_simp
                            exact hK _ hJ
                          refine Vals9.Steps.run rfl ?_ ?_
                          · intro a W σ hJ pre K hK
                            have e151 := pre.1 12 151 _ (by kernel_rfl) rfl rfl
                            clear pre
                            simp only [Array.getD_eq_getD_getElem?, List.getElem?_toArray, List.getElem?_cons_zero, List.getElem?_cons_succ, Option.getD_some] at e151
                            go_simp
                            exact hK _ hJ
                          refine Vals9.Steps.run rfl ?_ ?_
                          · intro a W σ hJ pre K hK
                            have e15 := pre.2.2 15 _ (by kernel_rfl) rfl
                            clear pre
                            simp only [Array.getD_eq_getD_getElem?, List.getElem?_toArray, List.getElem?_cons_zero, List.getElem?_cons_succ, Option.getD_some] at e15
                            go_simp
                            exact hK _ hJ
                          refine Vals9.Steps.run rfl ?_ ?_
                          · intro a W σ hJ pre K hK
                            have e153 := pre.1 14 153 _ (by kernel_rfl) rfl rfl
                            clear pre
                            simp only [Array.getD_eq_getD_getElem?, List.getElem?_toArray, List.getElem?_cons_zero, List.getElem?_cons_succ, Option.getD_some] at e153
                            go_simp
                            exact hK _ hJ
                          refine Vals9.Steps.run rfl ?_ ?_
                          · intro a W σ hJ pre K hK
                            have e154 := pre.1 15 154 _ (by kernel_rfl) rfl rfl
                            clear pre
                            simp only [Array.getD_eq_getD_getElem?, List.getElem?_toArray, List.getElem?_cons_zero, List.getElem?_cons_succ, Option.getD_some] at e154
                            go_simp
                            exact hK _ hJ
                          refine Vals9.Steps.skip rfl rfl ?_
                          refine Vals9.Steps.skip rfl rfl ?_
                          refine Vals9.Steps.run rfl ?_ ?_
                          · intro a W σ hJ pre K hK
                            have e155 := pre.1 16 155 _ (by kernel_rfl) rfl rfl
                            have e157 := pre.1 18 157 _ (by kernel_rfl) rfl rfl
                            clear pre
                            simp only [Array.getD_eq_getD_getElem?, List.getElem?_toArray, List.getElem?_cons_zero, List.getElem?_cons_succ, Option.getD_some] at e155 e157
                            go_simp
                            exact hK _ hJ
                          refine Vals9.Steps.run rfl ?_ ?_
                          · intro a W σ hJ pre K hK
                            have e152 := pre.1 13 152 _ (by kernel_rfl) rfl rfl
                            have e158 := pre.1 19 158 _ (by kernel_rfl) rfl rfl
                            clear pre
                            simp only [Array.getD_eq_getD_getElem?, List.getElem?_toArray, List.getElem?_cons_zero, List.getElem?_cons_succ, Option.getD_some] at e152 e158
                            go_simp
                            exact hK _ hJ
                          exact Vals9.Steps.nil
                        case hfB0 =>
                          intro Y2 σ2 hJ2
                          simp only [Vals9.All]
                          simp only [Vals.putAll, List.setIfInBounds_toArray, List.set_cons_zero, List.set_cons_succ]
                          have HX12 := Lib.hid (HX11.out.keep hJ2.1.1)
                          clear hJ2 HX11 HT11
                          go_wp2_with fail
                          go_roundw
                          case rel => exact ⟨1, by omega, by go_num, HX12⟩
                          case measure => simp [intOf]
                    · have hLZ := HLZ.out hi (by have := HDN.out; have := HUP.out; omega) (by have := HDN.out; have := HUP.out; omega)
                      rw [if_pos (by have := HDN.out; have := HUP.out; omega)] at hLZ
                      go_upto_region 23 with fail
                      obtain ⟨X0, hX0⟩ : ∃ X0, wr.alloc (.cells #[.int .i64 lo, .int .i64 hi, .int .i64 dn, .int .i64 up] 3) = X0 := ⟨_, rfl⟩
                      have hqx : Below wr.heap.size wr X0 := by rw [← hX0]; exact (Below.refl _ _).alloc (Nat.le_refl _) _
                      try rw [hX0]
                      have HSx := Lib.hid (HS.out.keep hqx)
                      have HMx := Lib.hid (HM.out.keep hqx)
                      have HZx := Lib.hid (HSZ.out.keep hqx)
                      have HXx := Lib.hid (HX9.out.keep hqx)
                      have hX0s := HSx.out.lt
                      clear hX0 hqx HS HM HSZ HX9 HR r0 r1 b1 b2 hzr hzR
                      refine Vals9.region (fun σ Z => Sp2 w s m 63 #[.int .u8 (x0 : Int), .int .u8 (x1 : Int)] Z ∧ Lin X0 (rchL l (⟨(mi : Int), (s.tools.length : Int), hi⟩ : Rd)) rchC σ Z) [some 121, some 122, some 123, some 124, some 125, some 126, some 127, some 128, some 129, some 130, some 131, some 17] [.any, .is ?_, .any, .is ?_, .is ?_, .is ?_, .is ?_, .is ?_, .is ?_, .any, .any, .any] (by kernel_rfl) (by kernel_rfl) (by kernel_rfl) (by kernel_rfl) (by kernel_rfl) (by kernel_rfl) (⟨HSx.out.drew, Lin.start X0 _ _⟩) ?hsA1 ?hfA1
                      case hsA1 =>
                        refine Vals9.Steps.mark rfl ?_ ?_
                        · intro a W σ hJ hn pre K hK
                          go_simp
                          exact hK _ _ ⟨hJ.1.alloc _, hJ.2.lay (k := 0) (L := []) hn (by decide) rfl (fun i L h => rchC_0 i) (by simp)⟩
                        refine Vals9.Steps.run rfl ?_ ?_
                        · intro a W σ hJ pre K hK
                          have e1 := pre.2.2 1 _ (by kernel_rfl) rfl
                          clear pre
                          simp only [Array.getD_eq_getD_getElem?, List.getElem?_toArray, List.getElem?_cons_zero, List.getElem?_cons_succ, Option.getD_some] at e1
                          go_simp
                          exact hK _ hJ
                        refine Vals9.Steps.mark rfl ?_ ?_
                        · intro a W σ hJ hn pre K hK
                          obtain ⟨v121, s121, e121⟩ := pre.2.1 0 (by kernel_rfl) rfl
                          replace e121 : a.tmps.getD 121 undef = v121 := e121 121 rfl
                          have e122 := pre.1 1 122 _ (by kernel_rfl) rfl rfl
                          simp only [Array.getD_eq_getD_getElem?, List.getElem?_toArray, List.getElem?_cons_zero, List.getElem?_cons_succ, Option.getD_some] at e121 e122
                          have ho := hJ.2.ow 0 [] _ rfl s121 hn
                          have hw2 : ∀ i L, rchL l (⟨(mi : Int), (s.tools.length : Int), hi⟩ : Rd) i = some L → rchC i = 2 → ∃ u, σ i = some u := fun i L h hc => by obtain rfl := rchC_2 hc; exact ⟨_, s121⟩
                          refine wp_append_rds (.tmp 121) (.tmp 122) rfl (B := X0.heap.size) (l := []) (k := l) (A := A) (c := c) (by go_simp) (by go_simp) ho (hrd.keep (hJ.1.sp.sn).1) (by simp; omega) hJ.2.sn.2 ?_
                          intro v' w' ho2 hg hn2
                          exact hK _ _ ⟨hJ.1.grown hg (fun q e => by have := (ho).lt q e; have := this.1; have := hX0s; omega), hJ.2.onto (k := 2) (d := 0) (D := []) (L := l) hn (by decide) hw2 rfl rfl s121 rfl (by decide) ho2 hg hn2⟩
                        refine Vals9.Steps.run rfl ?_ ?_
                        · intro a W σ hJ pre K hK
                          have e7 := pre.2.2 7 _ (by kernel_rfl) rfl
                          clear pre
                          simp only [Array.getD_eq_getD_getElem?, List.getElem?_toArray, List.getElem?_cons_zero, List.getElem?_cons_succ, Option.getD_some] at e7
                          go_simp
                          exact hK _ hJ
                        refine Vals9.Steps.run rfl ?_ ?_
                        · intro a W σ hJ pre K hK
                          have e3 := pre.2.2 3 _ (by kernel_rfl) rfl
                          clear pre
                          simp only [Array.getD_eq_getD_getElem?, List.getElem?_toArray, List.getElem?_cons_zero, List.getElem?_cons_succ, Option.getD_some] at e3
                          go_simp
                          exact hK _ hJ
                        refine Vals9.Steps.run rfl ?_ ?_
                        · intro a W σ hJ pre K hK
                          have e125 := pre.1 4 125 _ (by kernel_rfl) rfl rfl
                          clear pre
                          simp only [Array.getD_eq_getD_getElem?, List.getElem?_toArray, List.getElem?_cons_zero, List.getElem?_cons_succ, Option.getD_some] at e125
                          have hS9 := hJ
                          obtain ⟨l1, l2⟩ := hS9
                          obtain ⟨c0, c1, c2, c3, c4, c5, c6, c7, c8⟩ := l1.sp.bk.space
                          go_simp
                          exact hK _ hJ
                        refine Vals9.Steps.run rfl ?_ ?_
                        · intro a W σ hJ pre K hK
                          have e126 := pre.1 5 126 _ (by kernel_rfl) rfl rfl
                          clear pre
                          simp only [Array.getD_eq_getD_getElem?, List.getElem?_toArray, List.getElem?_cons_zero, List.getElem?_cons_succ, Option.getD_some] at e126
                          go_simp
                          exact hK _ hJ
                        refine Vals9.Steps.run rfl ?_ ?_
                        · intro a W σ hJ pre K hK
                          have e16 := pre.2.2 16 _ (by kernel_rfl) rfl
                          clear pre
                          simp only [Array.getD_eq_getD_getElem?, List.getElem?_toArray, List.getElem?_cons_zero, List.getElem?_cons_succ, Option.getD_some] at e16
                          go_simp
                          exact hK _ hJ
                        refine Vals9.Steps.run rfl ?_ ?_
                        · intro a W σ hJ pre K hK
                          have e124 := pre.1 3 124 _ (by kernel_rfl) rfl rfl
                          have e127 := pre.1 6 127 _ (by kernel_rfl) rfl rfl
                          have e128 := pre.1 7 128 _ (by kernel_rfl) rfl rfl
                          clear pre
                          simp only [Array.getD_eq_getD_getElem?, List.getElem?_toArray, List.getElem?_cons_zero, List.getElem?_cons_succ, Option.getD_some] at e124 e127 e128
                          go_simp
                          exact hK _ hJ
                        refine Vals9.Steps.mark rfl ?_ ?_
                        · intro a W σ hJ hn pre K hK
                          have e129 := pre.1 8 129 _ (by kernel_rfl) rfl rfl
                          simp only [Array.getD_eq_getD_getElem?, List.getElem?_toArray, List.getElem?_cons_zero, List.getElem?_cons_succ, Option.getD_some] at e129
                          go_simp
                          exact hK _ _ ⟨hJ.1.alloc _, hJ.2.lay (k := 9) (L := [(⟨(mi : Int), (s.tools.length : Int), hi⟩ : Rd)]) hn (by decide) rfl (fun i L h => rchC_9 i) (by simp)⟩
                        refine Vals9.Steps.mark rfl ?_ ?_
                        · intro a W σ hJ hn pre K hK
                          obtain ⟨v123, s123, e123⟩ := pre.2.1 2 (by kernel_rfl) rfl
                          replace e123 : a.tmps.getD 123 undef = v123 := e123 123 rfl
                          obtain ⟨v130, s130, e130⟩ := pre.2.1 9 (by kernel_rfl) rfl
                          replace e130 : a.tmps.getD 130 undef = v130 := e130 130 rfl
                          simp only [Array.getD_eq_getD_getElem?, List.getElem?_toArray, List.getElem?_cons_zero, List.getElem?_cons_succ, Option.getD_some] at e123 e130
                          have ho := hJ.2.ow 2 l _ rfl s123 hn
                          have ho1 := hJ.2.ow 9 [(⟨(mi : Int), (s.tools.length : Int), hi⟩ : Rd)] _ rfl s130 hn
                          obtain ⟨A1, c1, hv1, hr1, _, _⟩ := own_rd2 ho1
                          subst hv1
                          have hw2 : ∀ i L, rchL l (⟨(mi : Int), (s.tools.length : Int), hi⟩ : Rd) i = some L → rchC i = 10 → ∃ u, σ i = some u := fun i L h hc => by rcases rchC_10 hc with rfl | rfl; exact ⟨_, s123⟩; exact ⟨_, s130⟩
                          refine wp_append_rds (.tmp 123) (.tmp 130) rfl (B := X0.heap.size) (l := l) (k := [(⟨(mi : Int), (s.tools.length : Int), hi⟩ : Rd)]) (A := A1) (c := c1) (by go_simp) (by go_simp) ho hr1 (by simp; omega) hJ.2.sn.2 ?_
                          intro v' w' ho2 hg hn2
                          exact hK _ _ ⟨hJ.1.grown hg (fun q e => by have := (ho).lt q e; have := this.1; have := hX0s; omega), hJ.2.onto (k := 10) (d := 2) (D := l) (L := l ++ [(⟨(mi : Int), (s.tools.length : Int), hi⟩ : Rd)]) hn (by decide) hw2 rfl rfl s123 rfl (by decide) ho2 hg hn2⟩
                        refine Vals9.Steps.mark rfl ?_ ?_
                        · intro a W σ hJ hn pre K hK
                          obtain ⟨v131, s131, e131⟩ := pre.2.1 10 (by kernel_rfl) rfl
                          replace e131 : a.tmps.getD 131 undef = v131 := e131 131 rfl
                          simp only [Array.getD_eq_getD_getElem?, List.getElem?_toArray, List.getElem?_cons_zero, List.getElem?_cons_succ, Option.getD_some] at e131
                          have hw2 : ∀ i L, rchL l (⟨(mi : Int), (s.tools.length : Int), hi⟩ : Rd) i = some L → rchC i = 11 → ∃ u, σ i = some u := fun i L h hc => by obtain rfl := rchC_11 hc; exact ⟨_, s131⟩
                          go_simp
                          exact hK _ _ ⟨hJ.1, hJ.2.move (k := 11) (d := 10) (L := l ++ [(⟨(mi : Int), (s.tools.length : Int), hi⟩ : Rd)]) hn (by decide) hw2 rfl rfl s131 rfl (by decide)⟩
                        exact Vals9.Steps.nil
                      case hfA1 =>
                        intro Y σ hJ
                        simp only [Vals9.All]
                        intro v121 h121 v123 h123 v130 h130 v131 h131 v17 h17
                        simp only [Vals.putAll, List.setIfInBounds_toArray, List.set_cons_zero, List.set_cons_succ]
                        have ho := hJ.2.ow 11 _ v17 rfl h17 (hJ.2.no 12 rfl)
                        obtain ⟨QA, qc, hv17, hrQ, hq1, hq2⟩ := own_rd2 ho
                        subst hv17
                        have HMY := Lib.hid (HMx.out.keep hJ.2.sn.1)
                        have HXY := Lib.hid (HXx.out.keep hJ.2.sn.1)
                        have hLv := level_c sz mz QA _ qc (mi : Int) Y (HZx.out.keep hJ.2.sn.1) hq1 hq2 hrQ
                        rw [hLZ] at hLv
                        dsimp only at hLv
                        obtain ⟨L1, hL1⟩ : ∃ L1, l ++ [(⟨(mi : Int), (s.tools.length : Int), hi⟩ : Rd)] = L1 := ⟨_, rfl⟩
                        rw [hL1] at hLv ⊢
                        obtain ⟨n1, hn1⟩ : ∃ n1, L1.length = n1 := ⟨_, rfl⟩
                        rw [hn1] at hLv ⊢
                        have HL1 := Lib.hid hL1
                        clear hL1 hn1 hrQ hq1 hLZ
                        clear hJ ho h121 h123 h130 h131 h17 HSx HMx HZx HXx
                        obtain ⟨c0, c1, c2, c3, c4, c5, c6, c7, c8⟩ := HMY.out.space
                        go_wp2_with fail
                        refine hLv.mono ?_
                        rintro e w10 ⟨rfl, hb10⟩
                        have HX10 := HXY.out.keep hb10
                        have HX11 := Lib.hid (HX10.alloc (.cells #[.int .i64 hi, .int .i64 hi] 23))
                        have HT11 := Lib.hid (Blk.new w10 23 #[.int .i64 hi, .int .i64 hi])
                        clear c0 c1 c2 c3 c4 c5 c6 c7 c8 hLv hb10 HX10 HMY HXY
                        go_upto_region 25 with fail
                        obtain ⟨W11, hW11⟩ : ∃ W11, w10.alloc (.cells #[.int .i64 hi, .int .i64 hi] 23) = W11 := ⟨_, rfl⟩
                        obtain ⟨gT, hgT⟩ : ∃ gT, w10.heap.size = gT := ⟨_, rfl⟩
                        rw [hW11] at HX11 HT11
                        rw [hgT] at HT11
                        try rw [hW11]
                        try rw [hgT]
                        clear hW11 hgT
                        refine Vals9.region (fun _ Z => Since W11 Z ∧ Blk Z gT 23 #[.int .i64 hi, .int .i64 hi]) [some 139, some 140, some 141, some 142, some 143, some 144, some 145, some 146, some 147, some 148, some 149, some 150, some 151, some 152, some 153, some 154, some 155, some 156, some 157, some 158, some 159] [.is ?_, .is ?_, .is ?_, .is ?_, .is ?_, .is ?_, .is ?_, .is ?_, .is ?_, .is ?_, .is ?_, .is ?_, .is ?_, .is ?_, .is ?_, .is ?_, .is ?_, .is undef, .is undef, .is ?_, .is ?_] (by kernel_rfl) (by kernel_rfl) (by kernel_rfl) (by kernel_rfl) (by kernel_rfl) (by kernel_rfl) (⟨(Since.refl W11).drew, HT11.out.drew⟩) ?hsB1 ?hfB1
                        case hsB1 =>
                          refine Vals9.Steps.run rfl ?_ ?_
                          · intro a W σ hJ pre K hK
                            have e15 := pre.2.2 15 _ (by kernel_rfl) rfl
                            clear pre
                            simp only [Array.getD_eq_getD_getElem?, List.getElem?_toArray, List.getElem?_cons_zero, List.getElem?_cons_succ, Option.getD_some] at e15
                            go_simp
                            exact hK _ hJ
                          refine Vals9.Steps.run rfl ?_ ?_
                          · intro a W σ hJ pre K hK
                            have e139 := pre.1 0 139 _ (by kernel_rfl) rfl rfl
                            clear pre
                            simp only [Array.getD_eq_getD_getElem?, List.getElem?_toArray, List.getElem?_cons_zero, List.getElem?_cons_succ, Option.getD_some] at e139
                            go_simp
                            exact hK _ hJ
                          refine Vals9.Steps.run rfl ?_ ?_
                          · intro a W σ hJ pre K hK
                            have e140 := pre.1 1 140 _ (by kernel_rfl) rfl rfl
                            clear pre
                            simp only [Array.getD_eq_getD_getElem?, List.getElem?_toArray, List.getElem?_cons_zero, List.getElem?_cons_succ, Option.getD_some] at e140
                            go_simp
                            exact hK _ hJ
                          refine Vals9.Steps.run rfl ?_ ?_
                          · intro a W σ hJ pre K hK
                            have e19 := pre.2.2 19 _ (by kernel_rfl) rfl
                            clear pre
                            simp only [Array.getD_eq_getD_getElem?, List.getElem?_toArray, List.getElem?_cons_zero, List.getElem?_cons_succ, Option.getD_some] at e19
                            go_simp
                            exact hK _ hJ
                          refine Vals9.Steps.run rfl ?_ ?_
                          · intro a W σ hJ pre K hK
                            have e142 := pre.1 3 142 _ (by kernel_rfl) rfl rfl
                            clear pre
                            simp only [Array.getD_eq_getD_getElem?, List.getElem?_toArray, List.getElem?_cons_zero, List.getElem?_cons_succ, Option.getD_some] at e142
                            go_simp
                            exact hK _ hJ
                          refine Vals9.Steps.run rfl ?_ ?_
                          · intro a W σ hJ pre K hK
                            have e143 := pre.1 4 143 _ (by kernel_rfl) rfl rfl
                            clear pre
                            simp only [Array.getD_eq_getD_getElem?, List.getElem?_toArray, List.getElem?_cons_zero, List.getElem?_cons_succ, Option.getD_some] at e143
                            go_simp
                            exact hK _ hJ
                          refine Vals9.Steps.run rfl ?_ ?_
                          · intro a W σ hJ pre K hK
                            have e18 := pre.2.2 18 _ (by kernel_rfl) rfl
                            clear pre
                            simp only [Array.getD_eq_getD_getElem?, List.getElem?_toArray, List.getElem?_cons_zero, List.getElem?_cons_succ, Option.getD_some] at e18
                            have hS9 := hJ
                            have g0 := hJ.2.cell 0
                            have g1 := hJ.2.cell 1
                            simp only [List.getElem?_toArray, List.getElem?_cons_zero, List.getElem?_cons_succ] at g0 g1
                            go_simp
                            exact hK _ hJ
                          refine Vals9.Steps.run rfl ?_ ?_
                          · intro a W σ hJ pre K hK
                            have e16 := pre.2.2 16 _ (by kernel_rfl) rfl
                            clear pre
                            simp only [Array.getD_eq_getD_getElem?, List.getElem?_toArray, List.getElem?_cons_zero, List.getElem?_cons_succ, Option.getD_some] at e16
                            go_simp
                            exact hK _ hJ
                          refine Vals9.Steps.run rfl ?_ ?_
                          · intro a W σ hJ pre K hK
                            have e16 := pre.2.2 16 _ (by kernel_rfl) rfl
                            clear pre
                            simp only [Array.getD_eq_getD_getElem?, List.getElem?_toArray, List.getElem?_cons_zero, List.getElem?_cons_succ, Option.getD_some] at e16
                            go_simp
                            exact hK _ hJ
                          refine Vals9.Steps.run rfl ?_ ?_
                          · intro a W σ hJ pre K hK
                            have e146 := pre.1 7 146 _ (by kernel_rfl) rfl rfl
                            have e147 := pre.1 8 147 _ (by kernel_rfl) rfl rfl
                            clear pre
                            simp only [Array.getD_eq_getD_getElem?, List.getElem?_toArray, List.getElem?_cons_zero, List.getElem?_cons_succ, Option.getD_some] at e146 e147
                            go_simp
                            refine (span_c hi hi _).mono ?_
                            rintro e w' ⟨rfl, hb'⟩
                            exact hK _ ⟨hJ.1.keep hb', hJ.2.keep hb'⟩
                          refine Vals9.Steps.run rfl ?_ ?_
                          · intro a W σ hJ pre K hK
                            have e145 := pre.1 6 145 _ (by kernel_rfl) rfl rfl
                            have e148 := pre.1 9 148 _ (by kernel_rfl) rfl rfl
                            clear pre
                            simp only [Array.getD_eq_getD_getElem?, List.getElem?_toArray, List.getElem?_cons_zero, List.getElem?_cons_succ, Option.getD_some] at e145 e148
                            have heq := fun w => eqSpan hi hi w
                            go_simp
                            exact hK _ hJ
                          refine Vals9.Steps.run rfl ?_ ?_
                          · intro a W σ hJ pre K hK
                            have e144 := pre.1 5 144 _ (by kernel_rfl) rfl rfl
                            have e149 := pre.1 10 149 _ (by kernel_rfl) rfl rfl
                            clear pre
                            simp only [Array.getD_eq_getD_getElem?, List.getElem?_toArray, List.getElem?_cons_zero, List.getElem?_cons_succ, Option.getD_some] at e144 e149
                            go_simp
                            exact hK _ hJ
                          refine Vals9.Steps.run rfl ?_ ?_
                          · intro a W σ hJ pre K hK
                            have e141 := pre.1 2 141 _ (by kernel_rfl) rfl rfl
                            have e150 := pre.1 11 150 _ (by kernel_rfl) rfl rfl
                            clear pre
                            simp only [Array.getD_eq_getD_getElem?, List.getElem?_toArray, List.getElem?_cons_zero, List.getElem?_cons_succ, Option.getD_some] at e141 e150
                            go_simp
                            exact hK _ hJ
                          refine Vals9.Steps.run rfl ?_ ?_
                          · intro a W σ hJ pre K hK
                            have e151 := pre.1 12 151 _ (by kernel_rfl) rfl rfl
                            clear pre
                            simp only [Array.getD_eq_getD_getElem?, List.getElem?_toArray, List.getElem?_cons_zero, List.getElem?_cons_succ, Option.getD_some] at e151
                            go_simp
                            exact hK _ hJ
                          refine Vals9.Steps.run rfl ?_ ?_
                          · intro a W σ hJ pre K hK
                            have e15 := pre.2.2 15 _ (by kernel_rfl) rfl
                            clear pre
                            simp only [Array.getD_eq_getD_getElem?, List.getElem?_toArray, List.getElem?_cons_zero, List.getElem?_cons_succ, Option.getD_some] at e15
                            go_simp
                            exact hK _ hJ
                          refine Vals9.Steps.run rfl ?_ ?_
                          · intro a W σ hJ pre K hK
                            have e153 := pre.1 14 153 _ (by kernel_rfl) rfl rfl
                            clear pre
                            simp only [Array.getD_eq_getD_getElem?, List.getElem?_toArray, List.getElem?_cons_zero, List.getElem?_cons_succ, Option.getD_some] at e153
                            go_simp
                            exact hK _ hJ
                          refine Vals9.Steps.run rfl ?_ ?_
                          · intro a W σ hJ pre K hK
                            have e154 := pre.1 15 154 _ (by kernel_rfl) rfl rfl
                            clear pre
                            simp only [Array.getD_eq_getD_getElem?, List.getElem?_toArray, List.getElem?_cons_zero, List.getElem?_cons_succ, Option.getD_some] at e154
                            go_simp
                            exact hK _ hJ
                          refine Vals9.Steps.skip rfl rfl ?_
                          refine Vals9.Steps.skip rfl rfl ?_
                          refine Vals9.Steps.run rfl ?_ ?_
                          · intro a W σ hJ pre K hK
                            have e155 := pre.1 16 155 _ (by kernel_rfl) rfl rfl
                            have e157 := pre.1 18 157 _ (by kernel_rfl) rfl rfl
                            clear pre
                            simp only [Array.getD_eq_getD_getElem?, List.getElem?_toArray, List.getElem?_cons_zero, List.getElem?_cons_succ, Option.getD_some] at e155 e157
                            go_simp
                            exact hK _ hJ
                          refine Vals9.Steps.run rfl ?_ ?_
                          · intro a W σ hJ pre K hK
                            have e152 := pre.1 13 152 _ (by kernel_rfl) rfl rfl
                            have e158 := pre.1 19 158 _ (by kernel_rfl) rfl rfl
                            clear pre
                            simp only [Array.getD_eq_getD_getElem?, List.getElem?_toArray, List.getElem?_cons_zero, List.getElem?_cons_succ, Option.getD_some] at e152 e158
                            go_simp
                            exact hK _ hJ
                          exact Vals9.Steps.nil
                        case hfB1 =>
                          intro Y2 σ2 hJ2
                          simp only [Vals9.All]
                          simp only [Vals.putAll, List.setIfInBounds_toArray, List.set_cons_zero, List.set_cons_succ]
                          have HX12 := Lib.hid (HX11.out.keep hJ2.1.1)
                          clear hJ2 HX11 HT11
                          go_wp2_with fail
                          go_roundw
                          case rel => exact ⟨2, by omega, by go_num, HX12⟩
                          case measure => simp [intOf]
                    · have hLZ := HLZ.out dn (by have := HDN.out; have := HUP.out; omega) (by have := HDN.out; have := HUP.out; omega)
                      rw [if_neg (by have := HDN.out; have := HUP.out; omega)] at hLZ
                      go_upto_region 23 with fail
                      obtain ⟨X0, hX0⟩ : ∃ X0, wr.alloc (.cells #[.int .i64 lo, .int .i64 hi, .int .i64 dn, .int .i64 up] 3) = X0 := ⟨_, rfl⟩
                      have hqx : Below wr.heap.size wr X0 := by rw [← hX0]; exact (Below.refl _ _).alloc (Nat.le_refl _) _
                      try rw [hX0]
                      have HSx := Lib.hid (HS.out.keep hqx)
                      have HMx := Lib.hid (HM.out.keep hqx)
                      have HZx := Lib.hid (HSZ.out.keep hqx)
                      have HXx := Lib.hid (HX9.out.keep hqx)
                      have hX0s := HSx.out.lt
                      clear hX0 hqx HS HM HSZ HX9 HR r0 r1 b1 b2 hzr hzR
                      refine Vals9.region (fun σ Z => Sp2 w s m 63 #[.int .u8 (x0 : Int), .int .u8 (x1 : Int)] Z ∧ Lin X0 (rchL l (⟨(mi : Int), (s.tools.length : Int), dn⟩ : Rd)) rchC σ Z) [some 121, some 122, some 123, some 124, some 125, some 126, some 127, some 128, some 129, some 130, some 131, some 17] [.any, .is ?_, .any, .is ?_, .is ?_, .is ?_, .is ?_, .is ?_, .is ?_, .any, .any, .any] (by kernel_rfl) (by kernel_rfl) (by kernel_rfl) (by kernel_rfl) (by kernel_rfl) (by kernel_rfl) (⟨HSx.out.drew, Lin.start X0 _ _⟩) ?hsA2 ?hfA2
                      case hsA2 =>
                        refine Vals9.Steps.mark rfl ?_ ?_
                        · intro a W σ hJ hn pre K hK
                          go_simp
                          exact hK _ _ ⟨hJ.1.alloc _, hJ.2.lay (k := 0) (L := []) hn (by decide) rfl (fun i L h => rchC_0 i) (by simp)⟩
                        refine Vals9.Steps.run rfl ?_ ?_
                        · intro a W σ hJ pre K hK
                          have e1 := pre.2.2 1 _ (by kernel_rfl) rfl
                          clear pre
                          simp only [Array.getD_eq_getD_getElem?, List.getElem?_toArray, List.getElem?_cons_zero, List.getElem?_cons_succ, Option.getD_some] at e1
                          go_simp
                          exact hK _ hJ
                        refine Vals9.Steps.mark rfl ?_ ?_
                        · intro a W σ hJ hn pre K hK
                          obtain ⟨v121, s121, e121⟩ := pre.2.1 0 (by kernel_rfl) rfl
                          replace e121 : a.tmps.getD 121 undef = v121 := e121 121 rfl
                          have e122 := pre.1 1 122 _ (by kernel_rfl) rfl rfl
                          simp only [Array.getD_eq_getD_getElem?, List.getElem?_toArray, List.getElem?_cons_zero, List.getElem?_cons_succ, Option.getD_some] at e121 e122
                          have ho := hJ.2.ow 0 [] _ rfl s121 hn
                          have hw2 : ∀ i L, rchL l (⟨(mi : Int), (s.tools.length : Int), dn⟩ : Rd) i = some L → rchC i = 2 → ∃ u, σ i = some u := fun i L h hc => by obtain rfl := rchC_2 hc; exact ⟨_, s121⟩
                          refine wp_append_rds (.tmp 121) (.tmp 122) rfl (B := X0.heap.size) (l := []) (k := l) (A := A) (c := c) (by go_simp) (by go_simp) ho (hrd.keep (hJ.1.sp.sn).1) (by simp; omega) hJ.2.sn.2 ?_
                          intro v' w' ho2 hg hn2
                          exact hK _ _ ⟨hJ.1.grown hg (fun q e => by have := (ho).lt q e; have := this.1; have := hX0s; omega), hJ.2.onto (k := 2) (d := 0) (D := []) (L := l) hn (by decide) hw2 rfl rfl s121 rfl (by decide) ho2 hg hn2⟩
                        refine Vals9.Steps.run rfl ?_ ?_
                        · intro a W σ hJ pre K hK
                          have e7 := pre.2.2 7 _ (by kernel_rfl) rfl
                          clear pre
                          simp only [Array.getD_eq_getD_getElem?, List.getElem?_toArray, List.getElem?_cons_zero, List.getElem?_cons_succ, Option.getD_some] at e7
                          go_simp
                          exact hK _ hJ
                        refine Vals9.Steps.run rfl ?_ ?_
                        · intro a W σ hJ pre K hK
                          have e3 := pre.2.2 3 _ (by kernel_rfl) rfl
                          clear pre
                          simp only [Array.getD_eq_getD_getElem?, List.getElem?_toArray, List.getElem?_cons_zero, List.getElem?_cons_succ, Option.getD_some] at e3
                          go_simp
                          exact hK _ hJ
                        refine Vals9.Steps.run rfl ?_ ?_
                        · intro a W σ hJ pre K hK
                          have e125 := pre.1 4 125 _ (by kernel_rfl) rfl rfl
                          clear pre
                          simp only [Array.getD_eq_getD_getElem?, List.getElem?_toArray, List.getElem?_cons_zero, List.getElem?_cons_succ, Option.getD_some] at e125
                          have hS9 := hJ
                          obtain ⟨l1, l2⟩ := hS9
                          obtain ⟨c0, c1, c2, c3, c4, c5, c6, c7, c8⟩ := l1.sp.bk.space
                          go_simp
                          exact hK _ hJ
                        refine Vals9.Steps.run rfl ?_ ?_
                        · intro a W σ hJ pre K hK
                          have e126 := pre.1 5 126 _ (by kernel_rfl) rfl rfl
                          clear pre
                          simp only [Array.getD_eq_getD_getElem?, List.getElem?_toArray, List.getElem?_cons_zero, List.getElem?_cons_succ, Option.getD_some] at e126
                          go_simp
                          exact hK _ hJ
                        refine Vals9.Steps.run rfl ?_ ?_
                        · intro a W σ hJ pre K hK
                          have e16 := pre.2.2 16 _ (by kernel_rfl) rfl
                          clear pre
                          simp only [Array.getD_eq_getD_getElem?, List.getElem?_toArray, List.getElem?_cons_zero, List.getElem?_cons_succ, Option.getD_some] at e16
                          go_simp
                          exact hK _ hJ
                        refine Vals9.Steps.run rfl ?_ ?_
                        · intro a W σ hJ pre K hK
                          have e124 := pre.1 3 124 _ (by kernel_rfl) rfl rfl
                          have e127 := pre.1 6 127 _ (by kernel_rfl) rfl rfl
                          have e128 := pre.1 7 128 _ (by kernel_rfl) rfl rfl
                          clear pre
                          simp only [Array.getD_eq_getD_getElem?, List.getElem?_toArray, List.getElem?_cons_zero, List.getElem?_cons_succ, Option.getD_some] at e124 e127 e128
                          go_simp
                          exact hK _ hJ
                        refine Vals9.Steps.mark rfl ?_ ?_
                        · intro a W σ hJ hn pre K hK
                          have e129 := pre.1 8 129 _ (by kernel_rfl) rfl rfl
                          simp only [Array.getD_eq_getD_getElem?, List.getElem?_toArray, List.getElem?_cons_zero, List.getElem?_cons_succ, Option.getD_some] at e129
                          go_simp
                          exact hK _ _ ⟨hJ.1.alloc _, hJ.2.lay (k := 9) (L := [(⟨(mi : Int), (s.tools.length : Int), dn⟩ : Rd)]) hn (by decide) rfl (fun i L h => rchC_9 i) (by simp)⟩
                        refine Vals9.Steps.mark rfl ?_ ?_
                        · intro a W σ hJ hn pre K hK
                          obtain ⟨v123, s123, e123⟩ := pre.2.1 2 (by kernel_rfl) rfl
                          replace e123 : a.tmps.getD 123 undef = v123 := e123 123 rfl
                          obtain ⟨v130, s130, e130⟩ := pre.2.1 9 (by kernel_rfl) rfl
                          replace e130 : a.tmps.getD 130 undef = v130 := e130 130 rfl
                          simp only [Array.getD_eq_getD_getElem?, List.getElem?_toArray, List.getElem?_cons_zero, List.getElem?_cons_succ, Option.getD_some] at e123 e130
                          have ho := hJ.2.ow 2 l _ rfl s123 hn
                          have ho1 := hJ.2.ow 9 [(⟨(mi : Int), (s.tools.length : Int), dn⟩ : Rd)] _ rfl s130 hn
                          obtain ⟨A1, c1, hv1, hr1, _, _⟩ := own_rd2 ho1
                          subst hv1
                          have hw2 : ∀ i L, rchL l (⟨(mi : Int), (s.tools.length : Int), dn⟩ : Rd) i = some L → rchC i = 10 → ∃ u, σ i = some u := fun i L h hc => by rcases rchC_10 hc with rfl | rfl; exact ⟨_, s123⟩; exact ⟨_, s130⟩
                          refine wp_append_rds (.tmp 123) (.tmp 130) rfl (B := X0.heap.size) (l := l) (k := [(⟨(mi : Int), (s.tools.length : Int), dn⟩ : Rd)]) (A := A1) (c := c1) (by go_simp) (by go_simp) ho hr1 (by simp; omega) hJ.2.sn.2 ?_
                          intro v' w' ho2 hg hn2
                          exact hK _ _ ⟨hJ.1.grown hg (fun q e => by have := (ho).lt q e; have := this.1; have := hX0s; omega), hJ.2.onto (k := 10) (d := 2) (D := l) (L := l ++ [(⟨(mi : Int), (s.tools.length : Int), dn⟩ : Rd)]) hn (by decide) hw2 rfl rfl s123 rfl (by decide) ho2 hg hn2⟩
                        refine Vals9.Steps.mark rfl ?_ ?_
                        · intro a W σ hJ hn pre K hK
                          obtain ⟨v131, s131, e131⟩ := pre.2.1 10 (by kernel_rfl) rfl
                          replace e131 : a.tmps.getD 131 undef = v131 := e131 131 rfl
                          simp only [Array.getD_eq_getD_getElem?, List.getElem?_toArray, List.getElem?_cons_zero, List.getElem?_cons_succ, Option.getD_some] at e131
                          have hw2 : ∀ i L, rchL l (⟨(mi : Int), (s.tools.length : Int), dn⟩ : Rd) i = some L → rchC i = 11 → ∃ u, σ i = some u := fun i L h hc => by obtain rfl := rchC_11 hc; exact ⟨_, s131⟩
                          go_simp
                          exact hK _ _ ⟨hJ.1, hJ.2.move (k := 11) (d := 10) (L := l ++ [(⟨(mi : Int), (s.tools.length : Int), dn⟩ : Rd)]) hn (by decide) hw2 rfl rfl s131 rfl (by decide)⟩
                        exact Vals9.Steps.nil
                      case hfA2 =>
                        intro Y σ hJ
                        simp only [Vals9.All]
                        intro v121 h121 v123 h123 v130 h130 v131 h131 v17 h17
                        simp only [Vals.putAll, List.setIfInBounds_toArray, List.set_cons_zero, List.set_cons_succ]
                        have ho := hJ.2.ow 11 _ v17 rfl h17 (hJ.2.no 12 rfl)
                        obtain ⟨QA, qc, hv17, hrQ, hq1, hq2⟩ := own_rd2 ho
                        subst hv17
                        have HMY := Lib.hid (HMx.out.keep hJ.2.sn.1)
                        have HXY := Lib.hid (HXx.out.keep hJ.2.sn.1)
                        have hLv := level_c sz mz QA _ qc (mi : Int) Y (HZx.out.keep hJ.2.sn.1) hq1 hq2 hrQ
                        rw [hLZ] at hLv
                        dsimp only at hLv
                        obtain ⟨L1, hL1⟩ : ∃ L1, l ++ [(⟨(mi : Int), (s.tools.length : Int), dn⟩ : Rd)] = L1 := ⟨_, rfl⟩
                        rw [hL1] at hLv ⊢
                        obtain ⟨n1, hn1⟩ : ∃ n1, L1.length = n1 := ⟨_, rfl⟩
                        rw [hn1] at hLv ⊢
                        have HL1 := Lib.hid hL1
                        clear hL1 hn1 hrQ hq1 hLZ
                        clear hJ ho h121 h123 h130 h131 h17 HSx HMx HZx HXx
                        obtain ⟨c0, c1, c2, c3, c4, c5, c6, c7, c8⟩ := HMY.out.space
                        go_wp2_with fail
                        refine hLv.mono ?_
                        rintro e w10 ⟨rfl, hb10⟩
                        have HX10 := HXY.out.keep hb10
                        have HX11 := Lib.hid (HX10.alloc (.cells #[.int .i64 0, .int .i64 0] 23))
                        have HT11 := Lib.hid (Blk.new w10 23 #[.int .i64 0, .int .i64 0])
                        clear c0 c1 c2 c3 c4 c5 c6 c7 c8 hLv hb10 HX10 HMY HXY
                        go_upto_region 25 with fail
                        obtain ⟨W11, hW11⟩ : ∃ W11, w10.alloc (.cells #[.int .i64 0, .int .i64 0] 23) = W11 := ⟨_, rfl⟩
                        obtain ⟨gT, hgT⟩ : ∃ gT, w10.heap.size = gT := ⟨_, rfl⟩
                        rw [hW11] at HX11 HT11
                        rw [hgT] at HT11
                        try rw [hW11]
                        try rw [hgT]
                        clear hW11 hgT
                        refine Vals9.region (fun _ Z => Since W11 Z ∧ Blk Z gT 23 #[.int .i64 0, .int .i64 0]) [some 139, some 140, some 141, some 142, some 143, some 144, some 145, some 146, some 147, some 148, some 149, some 150, some 151, some 152, some 153, some 154, some 155, some 156, some 157, some 158, some 159] [.is ?_, .is ?_, .is ?_, .is undef, .is undef, .is undef, .is undef, .is undef, .is undef, .is undef, .is undef, .is undef, .is ?_, .is ?_, .is ?_, .is ?_, .is ?_, .is ?_, .is ?_, .is ?_, .is ?_] (by kernel_rfl) (by kernel_rfl) (by kernel_rfl) (by kernel_rfl) (by kernel_rfl) (by kernel_rfl) (⟨(Since.refl W11).drew, HT11.out.drew⟩) ?hsB2 ?hfB2
                        case hsB2 =>
                          refine Vals9.Steps.run rfl ?_ ?_
                          · intro a W σ hJ pre K hK
                            have e15 := pre.2.2 15 _ (by kernel_rfl) rfl
                            clear pre
                            simp only [Array.getD_eq_getD_getElem?, List.getElem?_toArray, List.getElem?_cons_zero, List.getElem?_cons_succ, Option.getD_some] at e15
                            go_simp
                            exact hK _ hJ
                          refine Vals9.Steps.run rfl ?_ ?_
                          · intro a W σ hJ pre K hK
                            have e139 := pre.1 0 139 _ (by kernel_rfl) rfl rfl
                            clear pre
                            simp only [Array.getD_eq_getD_getElem?, List.getElem?_toArray, List.getElem?_cons_zero, List.getElem?_cons_succ, Option.getD_some] at e139
                            go_simp
                            exact hK _ hJ
                          refine Vals9.Steps.run rfl ?_ ?_
                          · intro a W σ hJ pre K hK
                            have e140 := pre.1 1 140 _ (by kernel_rfl) rfl rfl
                            clear pre
                            simp only [Array.getD_eq_getD_getElem?, List.getElem?_toArray, List.getElem?_cons_zero, List.getElem?_cons_succ, Option.getD_some] at e140
                            go_simp
                            exact hK _ hJ
                          refine Vals9.Steps.skip rfl rfl ?_
                          refine Vals9.Steps.skip rfl rfl ?_
                          refine Vals9.Steps.skip rfl rfl ?_
                          refine Vals9.Steps.skip rfl rfl ?_
                          refine Vals9.Steps.skip rfl rfl ?_
                          refine Vals9.Steps.skip rfl rfl ?_
                          refine Vals9.Steps.skip rfl rfl ?_
                          refine Vals9.Steps.skip rfl rfl ?_
                          refine Vals9.Steps.skip rfl rfl ?_
                          refine Vals9.Steps.run rfl ?_ ?_
                          · intro a W σ hJ pre K hK
                            have e141 := pre.1 2 141 _ (by kernel_rfl) rfl rfl
                            have e150 := pre.1 11 150 _ (by kernel_rfl) rfl rfl
                            clear pre
                            simp only [Array.getD_eq_getD_getElem?, List.getElem?_toArray, List.getElem?_cons_zero, List.getElem?_cons_succ, Option.getD_some] at e141 e150
                            go_simp
                            exact hK _ hJ
                          refine Vals9.Steps.run rfl ?_ ?_
                          · intro a W σ hJ pre K hK
                            have e151 := pre.1 12 151 _ (by kernel_rfl) rfl rfl
                            clear pre
                            simp only [Array.getD_eq_getD_getElem?, List.getElem?_toArray, List.getElem?_cons_zero, List.getElem?_cons_succ, Option.getD_some] at e151
                            go_simp
                            exact hK _ hJ
                          refine Vals9.Steps.run rfl ?_ ?_
                          · intro a W σ hJ pre K hK
                            have e15 := pre.2.2 15 _ (by kernel_rfl) rfl
                            clear pre
                            simp only [Array.getD_eq_getD_getElem?, List.getElem?_toArray, List.getElem?_cons_zero, List.getElem?_cons_succ, Option.getD_some] at e15
                            go_simp
                            exact hK _ hJ
                          refine Vals9.Steps.run rfl ?_ ?_
                          · intro a W σ hJ pre K hK
                            have e153 := pre.1 14 153 _ (by kernel_rfl) rfl rfl
                            clear pre
                            simp only [Array.getD_eq_getD_getElem?, List.getElem?_toArray, List.getElem?_cons_zero, List.getElem?_cons_succ, Option.getD_some] at e153
                            go_simp
                            exact hK _ hJ
                          refine Vals9.Steps.run rfl ?_ ?_
                          · intro a W σ hJ pre K hK
                            have e154 := pre.1 15 154 _ (by kernel_rfl) rfl rfl
                            clear pre
                            simp only [Array.getD_eq_getD_getElem?, List.getElem?_toArray, List.getElem?_cons_zero, List.getElem?_cons_succ, Option.getD_some] at e154
                            go_simp
                            exact hK _ hJ
                          refine Vals9.Steps.run rfl ?_ ?_
                          · intro a W σ hJ pre K hK
                            have e19 := pre.2.2 19 _ (by kernel_rfl) rfl
                            clear pre
                            simp only [Array.getD_eq_getD_getElem?, List.getElem?_toArray, List.getElem?_cons_zero, List.getElem?_cons_succ, Option.getD_some] at e19
                            go_simp
                            exact hK _ hJ
                          refine Vals9.Steps.run rfl ?_ ?_
                          · intro a W σ hJ pre K hK
                            have e156 := pre.1 17 156 _ (by kernel_rfl) rfl rfl
                            clear pre
                            simp only [Array.getD_eq_getD_getElem?, List.getElem?_toArray, List.getElem?_cons_zero, List.getElem?_cons_succ, Option.getD_some] at e156
                            go_simp
                            exact hK _ hJ
                          refine Vals9.Steps.run rfl ?_ ?_
                          · intro a W σ hJ pre K hK
                            have e155 := pre.1 16 155 _ (by kernel_rfl) rfl rfl
                            have e157 := pre.1 18 157 _ (by kernel_rfl) rfl rfl
                            clear pre
                            simp only [Array.getD_eq_getD_getElem?, List.getElem?_toArray, List.getElem?_cons_zero, List.getElem?_cons_succ, Option.getD_some] at e155 e157
                            go_simp
                            exact hK _ hJ
                          refine Vals9.Steps.run rfl ?_ ?_
                          · intro a W σ hJ pre K hK
                            have e152 := pre.1 13 152 _ (by kernel_rfl) rfl rfl
                            have e158 := pre.1 19 158 _ (by kernel_rfl) rfl rfl
                            clear pre
                            simp only [Array.getD_eq_getD_getElem?, List.getElem?_toArray, List.getElem?_cons_zero, List.getElem?_cons_succ, Option.getD_some] at e152 e158
                            go_simp
                            exact hK _ hJ
                          exact Vals9.Steps.nil
                        case hfB2 =>
                          intro Y2 σ2 hJ2
                          simp only [Vals9.All]
                          simp only [Vals.putAll, List.setIfInBounds_toArray, List.set_cons_zero, List.set_cons_succ]
                          have HX12 := Lib.hid (HX11.out.keep hJ2.1.1)
                          clear hJ2 HX11 HT11
                          go_wp2_with fail
                          go_roundw
                          case rel => exact ⟨3, by omega, by go_num, HX12⟩
                          case measure => simp [intOf]
                    · have hLZ := HLZ.out up (by have := HDN.out; have := HUP.out; omega) (by have := HDN.out; have := HUP.out; omega)
                      rw [if_neg (by have := HDN.out; have := HUP.out; omega)] at hLZ
                      go_upto_region 23 with fail
                      obtain ⟨X0, hX0⟩ : ∃ X0, wr.alloc (.cells #[.int .i64 lo, .int .i64 hi, .int .i64 dn, .int .i64 up] 3) = X0 := ⟨_, rfl⟩
                      have hqx : Below wr.heap.size wr X0 := by rw [← hX0]; exact (Below.refl _ _).alloc (Nat.le_refl _) _
                      try rw [hX0]
                      have HSx := Lib.hid (HS.out.keep hqx)
                      have HMx := Lib.hid (HM.out.keep hqx)
                      have HZx := Lib.hid (HSZ.out.keep hqx)
                      have HXx := Lib.hid (HX9.out.keep hqx)
                      have hX0s := HSx.out.lt
                      clear hX0 hqx HS HM HSZ HX9 HR r0 r1 b1 b2 hzr hzR
                      refine Vals9.region (fun σ Z => Sp2 w s m 63 #[.int .u8 (x0 : Int), .int .u8 (x1 : Int)] Z ∧ Lin X0 (rchL l (⟨(mi : Int), (s.tools.length : Int), up⟩ : Rd)) rchC σ Z) [some 121, some 122, some 123, some 124, some 125, some 126, some 127, some 128, some 129, some 130, some 131, some 17] [.any, .is ?_, .any, .is ?_, .is ?_, .is ?_, .is ?_, .is ?_, .is ?_, .any, .any, .any] (by kernel_rfl) (by kernel_rfl) (by kernel_rfl) (by kernel_rfl) (by kernel_rfl) (by kernel_rfl) (⟨HSx.out.drew, Lin.start X0 _ _⟩) ?hsA3 ?hfA3
                      case hsA3 =>
                        refine Vals9.Steps.mark rfl ?_ ?_
                        · intro a W σ hJ hn pre K hK
                          go_simp
                          exact hK _ _ ⟨hJ.1.alloc _, hJ.2.lay (k := 0) (L := []) hn (by decide) rfl (fun i L h => rchC_0 i) (by simp)⟩
                        refine Vals9.Steps.run rfl ?_ ?_
                        · intro a W σ hJ pre K hK
                          have e1 := pre.2.2 1 _ (by kernel_rfl) rfl
                          clear pre
                          simp only [Array.getD_eq_getD_getElem?, List.getElem?_toArray, List.getElem?_cons_zero, List.getElem?_cons_succ, Option.getD_some] at e1
                          go_simp
                          exact hK _ hJ
                        refine Vals9.Steps.mark rfl ?_ ?_
                        · intro a W σ hJ hn pre K hK
                          obtain ⟨v121, s121, e121⟩ := pre.2.1 0 (by kernel_rfl) rfl
                          replace e121 : a.tmps.getD 121 undef = v121 := e121 121 rfl
                          have e122 := pre.1 1 122 _ (by kernel_rfl) rfl rfl
                          simp only [Array.getD_eq_getD_getElem?, List.getElem?_toArray, List.getElem?_cons_zero, List.getElem?_cons_succ, Option.getD_some] at e121 e122
                          have ho := hJ.2.ow 0 [] _ rfl s121 hn
                          have hw2 : ∀ i L, rchL l (⟨(mi : Int), (s.tools.length : Int), up⟩ : Rd) i = some L → rchC i = 2 → ∃ u, σ i = some u := fun i L h hc => by obtain rfl := rchC_2 hc; exact ⟨_, s121⟩
                          refine wp_append_rds (.tmp 121) (.tmp 122) rfl (B := X0.heap.size) (l := []) (k := l) (A := A) (c := c) (by go_simp) (by go_simp) ho (hrd.keep (hJ.1.sp.sn).1) (by simp; omega) hJ.2.sn.2 ?_
                          intro v' w' ho2 hg hn2
                          exact hK _ _ ⟨hJ.1.grown hg (fun q e => by have := (ho).lt q e; have := this.1; have := hX0s; omega), hJ.2.onto (k := 2) (d := 0) (D := []) (L := l) hn (by decide) hw2 rfl rfl s121 rfl (by decide) ho2 hg hn2⟩
                        refine Vals9.Steps.run rfl ?_ ?_
                        · intro a W σ hJ pre K hK
                          have e7 := pre.2.2 7 _ (by kernel_rfl) rfl
                          clear pre
                          simp only [Array.getD_eq_getD_getElem?, List.getElem?_toArray, List.getElem?_cons_zero, List.getElem?_cons_succ, Option.getD_some] at e7
                          go_simp
                          exact hK _ hJ
                        refine Vals9.Steps.run rfl ?_ ?_
                        · intro a W σ hJ pre K hK
                          have e3 := pre.2.2 3 _ (by kernel_rfl) rfl
                          clear pre
                          simp only [Array.getD_eq_getD_getElem?, List.getElem?_toArray, List.getElem?_cons_zero, List.getElem?_cons_succ, Option.getD_some] at e3
                          go_simp
                          exact hK _ hJ
                        refine Vals9.Steps.run rfl ?_ ?_
                        · intro a W σ hJ pre K hK
                          have e125 := pre.1 4 125 _ (by kernel_rfl) rfl rfl
                          clear pre
                          simp only [Array.getD_eq_getD_getElem?, List.getElem?_toArray, List.getElem?_cons_zero, List.getElem?_cons_succ, Option.getD_some] at e125
                          have hS9 := hJ
                          obtain ⟨l1, l2⟩ := hS9
                          obtain ⟨c0, c1, c2, c3, c4, c5, c6, c7, c8⟩ := l1.sp.bk.space
                          go_simp
                          exact hK _ hJ
                        refine Vals9.Steps.run rfl ?_ ?_
                        · intro a W σ hJ pre K hK
                          have e126 := pre.1 5 126 _ (by kernel_rfl) rfl rfl
                          clear pre
                          simp only [Array.getD_eq_getD_getElem?, List.getElem?_toArray, List.getElem?_cons_zero, List.getElem?_cons_succ, Option.getD_some] at e126
                          go_simp
                          exact hK _ hJ
                        refine Vals9.Steps.run rfl ?_ ?_
                        · intro a W σ hJ pre K hK
                          have e16 := pre.2.2 16 _ (by kernel_rfl) rfl
                          clear pre
                          simp only [Array.getD_eq_getD_getElem?, List.getElem?_toArray, List.getElem?_cons_zero, List.getElem?_cons_succ, Option.getD_some] at e16
                          go_simp
                          exact hK _ hJ
                        refine Vals9.Steps.run rfl ?_ ?_
                        · intro a W σ hJ pre K hK
                          have e124 := pre.1 3 124 _ (by kernel_rfl) rfl rfl
                          have e127 := pre.1 6 127 _ (by kernel_rfl) rfl rfl
                          have e128 := pre.1 7 128 _ (by kernel_rfl) rfl rfl
                          clear pre
                          simp only [Array.getD_eq_getD_getElem?, List.getElem?_toArray, List.getElem?_cons_zero, List.getElem?_cons_succ, Option.getD_some] at e124 e127 e128
                          go_simp
                          exact hK _ hJ
                        refine Vals9.Steps.mark rfl ?_ ?_
                        · intro a W σ hJ hn pre K hK
                          have e129 := pre.1 8 129 _ (by kernel_rfl) rfl rfl
                          simp only [Array.getD_eq_getD_getElem?, List.getElem?_toArray, List.getElem?_cons_zero, List.getElem?_cons_succ, Option.getD_some] at e129
                          go_simp
                          exact hK _ _ ⟨hJ.1.alloc _, hJ.2.lay (k := 9) (L := [(⟨(mi : Int), (s.tools.length : Int), up⟩ : Rd)]) hn (by decide) rfl (fun i L h => rchC_9 i) (by simp)⟩
                        refine Vals9.Steps.mark rfl ?_ ?_
                        · intro a W σ hJ hn pre K hK
                          obtain ⟨v123, s123, e123⟩ := pre.2.1 2 (by kernel_rfl) rfl
                          replace e123 : a.tmps.getD 123 undef = v123 := e123 123 rfl
                          obtain ⟨v130, s130, e130⟩ := pre.2.1 9 (by kernel_rfl) rfl
                          replace e130 : a.tmps.getD 130 undef = v130 := e130 130 rfl
                          simp only [Array.getD_eq_getD_getElem?, List.getElem?_toArray, List.getElem?_cons_zero, List.getElem?_cons_succ, Option.getD_some] at e123 e130
                          have ho := hJ.2.ow 2 l _ rfl s123 hn
                          have ho1 := hJ.2.ow 9 [(⟨(mi : Int), (s.tools.length : Int), up⟩ : Rd)] _ rfl s130 hn
                          obtain ⟨A1, c1, hv1, hr1, _, _⟩ := own_rd2 ho1
                          subst hv1
                          have hw2 : ∀ i L, rchL l (⟨(mi : Int), (s.tools.length : Int), up⟩ : Rd) i = some L → rchC i = 10 → ∃ u, σ i = some u := fun i L h hc => by rcases rchC_10 hc with rfl | rfl; exact ⟨_, s123⟩; exact ⟨_, s130⟩
                          refine wp_append_rds (.tmp 123) (.tmp 130) rfl (B := X0.heap.size) (l := l) (k := [(⟨(mi : Int), (s.tools.length : Int), up⟩ : Rd)]) (A := A1) (c := c1) (by go_simp) (by go_simp) ho hr1 (by simp; omega) hJ.2.sn.2 ?_
                          intro v' w' ho2 hg hn2
                          exact hK _ _ ⟨hJ.1.grown hg (fun q e => by have := (ho).lt q e; have := this.1; have := hX0s; omega), hJ.2.onto (k := 10) (d := 2) (D := l) (L := l ++ [(⟨(mi : Int), (s.tools.length : Int), up⟩ : Rd)]) hn (by decide) hw2 rfl rfl s123 rfl (by decide) ho2 hg hn2⟩
                        refine Vals9.Steps.mark rfl ?_ ?_
                        · intro a W σ hJ hn pre K hK
                          obtain ⟨v131, s131, e131⟩ := pre.2.1 10 (by kernel_rfl) rfl
                          replace e131 : a.tmps.getD 131 undef = v131 := e131 131 rfl
                          simp only [Array.getD_eq_getD_getElem?, List.getElem?_toArray, List.getElem?_cons_zero, List.getElem?_cons_succ, Option.getD_some] at e131
                          have hw2 : ∀ i L, rchL l (⟨(mi : Int), (s.tools.length : Int), up⟩ : Rd) i = some L → rchC i = 11 → ∃ u, σ i = some u := fun i L h hc => by obtain rfl := rchC_11 hc; exact ⟨_, s131⟩
                          go_simp
                          exact hK _ _ ⟨hJ.1, hJ.2.move (k := 11) (d := 10) (L := l ++ [(⟨(mi : Int), (s.tools.length : Int), up⟩ : Rd)]) hn (by decide) hw2 rfl rfl s131 rfl (by decide)⟩
                        exact Vals9.Steps.nil
                      case hfA3 =>
                        intro Y σ hJ
                        simp only [Vals9.All]
                        intro v121 h121 v123 h123 v130 h130 v131 h131 v17 h17
                        simp only [Vals.putAll, List.setIfInBounds_toArray, List.set_cons_zero, List.set_cons_succ]
                        have ho := hJ.2.ow 11 _ v17 rfl h17 (hJ.2.no 12 rfl)
                        obtain ⟨QA, qc, hv17, hrQ, hq1, hq2⟩ := own_rd2 ho
                        subst hv17
                        have HMY := Lib.hid (HMx.out.keep hJ.2.sn.1)
                        have HXY := Lib.hid (HXx.out.keep hJ.2.sn.1)
                        have hLv := level_c sz mz QA _ qc (mi : Int) Y (HZx.out.keep hJ.2.sn.1) hq1 hq2 hrQ
                        rw [hLZ] at hLv
                        dsimp only at hLv
                        obtain ⟨L1, hL1⟩ : ∃ L1, l ++ [(⟨(mi : Int), (s.tools.length : Int), up⟩ : Rd)] = L1 := ⟨_, rfl⟩
                        rw [hL1] at hLv ⊢
                        obtain ⟨n1, hn1⟩ : ∃ n1, L1.length = n1 := ⟨_, rfl⟩
                        rw [hn1] at hLv ⊢
                        have HL1 := Lib.hid hL1
                        clear hL1 hn1 hrQ hq1 hLZ
                        clear hJ ho h121 h123 h130 h131 h17 HSx HMx HZx HXx
                        obtain ⟨c0, c1, c2, c3, c4, c5, c6, c7, c8⟩ := HMY.out.space
                        go_wp2_with fail
                        refine hLv.mono ?_
                        rintro e w10 ⟨rfl, hb10⟩
                        have HX10 := HXY.out.keep hb10
                        have HX11 := Lib.hid (HX10.alloc (.cells #[.int .i64 0, .int .i64 0] 23))
                        have HT11 := Lib.hid (Blk.new w10 23 #[.int .i64 0, .int .i64 0])
                        clear c0 c1 c2 c3 c4 c5 c6 c7 c8 hLv hb10 HX10 HMY HXY
                        go_upto_region 25 with fail
                        obtain ⟨W11, hW11⟩ : ∃ W11, w10.alloc (.cells #[.int .i64 0, .int .i64 0] 23) = W11 := ⟨_, rfl⟩
                        obtain ⟨gT, hgT⟩ : ∃ gT, w10.heap.size = gT := ⟨_, rfl⟩
                        rw [hW11] at HX11 HT11
                        rw [hgT] at HT11
                        try rw [hW11]
                        try rw [hgT]
                        clear hW11 hgT
                        refine Vals9.region (fun _ Z => Since W11 Z ∧ Blk Z gT 23 #[.int .i64 0, .int .i64 0]) [some 139, some 140, some 141, some 142, some 143, some 144, some 145, some 146, some 147, some 148, some 149, some 150, some 151, some 152, some 153, some 154, some 155, some 156, some 157, some 158, some 159] [.is ?_, .is ?_, .is ?_, .is undef, .is undef, .is undef, .is undef, .is undef, .is undef, .is undef, .is undef, .is undef, .is ?_, .is ?_, .is ?_, .is ?_, .is ?_, .is ?_, .is ?_, .is ?_, .is ?_] (by kernel_rfl) (by kernel_rfl) (by kernel_rfl) (by kernel_rfl) (by kernel_rfl) (by kernel_rfl) (⟨(Since.refl W11).drew, HT11.out.drew⟩) ?hsB3 ?hfB3
                        case hsB3 =>
                          refine Vals9.Steps.run rfl ?_ ?_
                          · intro a W σ hJ pre K hK
                            have e15 := pre.2.2 15 _ (by kernel_rfl) rfl
                            clear pre
                            simp only [Array.getD_eq_getD_getElem?, List.getElem?_toArray, List.getElem?_cons_zero, List.getElem?_cons_succ, Option.getD_some] at e15
                            go_simp
                            exact hK _ hJ
                          refine Vals9.Steps.run rfl ?_ ?_
                          · intro a W σ hJ pre K hK
                            have e139 := pre.1 0 139 _ (by kernel_rfl) rfl rfl
                            clear pre
                            simp only [Array.getD_eq_getD_getElem?, List.getElem?_toArray, List.getElem?_cons_zero, List.getElem?_cons_succ, Option.getD_some] at e139
                            go_simp
                            exact hK _ hJ
                          refine Vals9.Steps.run rfl ?_ ?_
                          · intro a W σ hJ pre K hK
                            have e140 := pre.1 1 140 _ (by kernel_rfl) rfl rfl
                            clear pre
                            simp only [Array.getD_eq_getD_getElem?, List.getElem?_toArray, List.getElem?_cons_zero, List.getElem?_cons_succ, Option.getD_some] at e140
                            go_simp
                            exact hK _ hJ
                          refine Vals9.Steps.skip rfl rfl ?_
                          refine Vals9.Steps.skip rfl rfl ?_
                          refine Vals9.Steps.skip rfl rfl ?_
                          refine Vals9.Steps.skip rfl rfl ?_
                          refine Vals9.Steps.skip rfl rfl ?_
                          refine Vals9.Steps.skip rfl rfl ?_
                          refine Vals9.Steps.skip rfl rfl ?_
                          refine Vals9.Steps.skip rfl rfl ?_
                          refine Vals9.Steps.skip rfl rfl ?_
                          refine Vals9.Steps.run rfl ?_ ?_
                          · intro a W σ hJ pre K hK
                            have e141 := pre.1 2 141 _ (by kernel_rfl) rfl rfl
                            have e150 := pre.1 11 150 _ (by kernel_rfl) rfl rfl
                            clear pre
                            simp only [Array.getD_eq_getD_getElem?, List.getElem?_toArray, List.getElem?_cons_zero, List.getElem?_cons_succ, Option.getD_some] at e141 e150
                            go_simp
                            exact hK _ hJ
                          refine Vals9.Steps.run rfl ?_ ?_
                          · intro a W σ hJ pre K hK
                            have e151 := pre.1 12 151 _ (by kernel_rfl) rfl rfl
                            clear pre
                            simp only [Array.getD_eq_getD_getElem?, List.getElem?_toArray, List.getElem?_cons_zero, List.getElem?_cons_succ, Option.getD_some] at e151
                            go_simp
                            exact hK _ hJ
                          refine Vals9.Steps.run rfl ?_ ?_
                          · intro a W σ hJ pre K hK
                            have e15 := pre.2.2 15 _ (by kernel_rfl) rfl
                            clear pre
                            simp only [Array.getD_eq_getD_getElem?, List.getElem?_toArray, List.getElem?_cons_zero, List.getElem?_cons_succ, Option.getD_some] at e15
                            go_simp
                            exact hK _ hJ
                          refine Vals9.Steps.run rfl ?_ ?_
                          · intro a W σ hJ pre K hK
                            have e153 := pre.1 14 153 _ (by kernel_rfl) rfl rfl
                            clear pre
                            simp only [Array.getD_eq_getD_getElem?, List.getElem?_toArray, List.getElem?_cons_zero, List.getElem?_cons_succ, Option.getD_some] at e153
                            go_simp
                            exact hK _ hJ
                          refine Vals9.Steps.run rfl ?_ ?_
                          · intro a W σ hJ pre K hK
                            have e154 := pre.1 15 154 _ (by kernel_rfl) rfl rfl
                            clear pre
                            simp only [Array.getD_eq_getD_getElem?, List.getElem?_toArray, List.getElem?_cons_zero, List.getElem?_cons_succ, Option.getD_some] at e154
                            go_simp
                            exact hK _ hJ
                          refine Vals9.Steps.run rfl ?_ ?_
                          · intro a W σ hJ pre K hK
                            have e19 := pre.2.2 19 _ (by kernel_rfl) rfl
                            clear pre
                            simp only [Array.getD_eq_getD_getElem?, List.getElem?_toArray, List.getElem?_cons_zero, List.getElem?_cons_succ, Option.getD_some] at e19
                            go_simp
                            exact hK _ hJ
                          refine Vals9.Steps.run rfl ?_ ?_
                          · intro a W σ hJ pre K hK
                            have e156 := pre.1 17 156 _ (by kernel_rfl) rfl rfl
                            clear pre
                            simp only [Array.getD_eq_getD_getElem?, List.getElem?_toArray, List.getElem?_cons_zero, List.getElem?_cons_succ, Option.getD_some] at e156
                            go_simp
                            exact hK _ hJ
                          refine Vals9.Steps.run rfl ?_ ?_
                          · intro a W σ hJ pre K hK
                            have e155 := pre.1 16 155 _ (by kernel_rfl) rfl rfl
                            have e157 := pre.1 18 157 _ (by kernel_rfl) rfl rfl
                            clear pre
                            simp only [Array.getD_eq_getD_getElem?, List.getElem?_toArray, List.getElem?_cons_zero, List.getElem?_cons_succ, Option.getD_some] at e155 e157
                            go_simp
                            exact hK _ hJ
                          refine Vals9.Steps.run rfl ?_ ?_
                          · intro a W σ hJ pre K hK
                            have e152 := pre.1 13 152 _ (by kernel_rfl) rfl rfl
                            have e158 := pre.1 19 158 _ (by kernel_rfl) rfl rfl
                            clear pre
                            simp only [Array.getD_eq_getD_getElem?, List.getElem?_toArray, List.getElem?_cons_zero, List.getElem?_cons_succ, Option.getD_some] at e152 e158
                            go_simp
                            exact hK _ hJ
                          exact Vals9.Steps.nil
                        case hfB3 =>
                          intro Y2 σ2 hJ2
                          simp only [Vals9.All]
                          simp only [Vals.putAll, List.setIfInBounds_toArray, List.set_cons_zero, List.set_cons_succ]
                          have HX12 := Lib.hid (HX11.out.keep hJ2.1.1)
                          clear hJ2 HX11 HT11
                          go_wp2_with fail
                          go_roundw
                          case rel => exact ⟨4, by omega, by go_num, HX12⟩
                          case measure => simp [intOf]
                    · have hki : ¬ ((4 : Nat) : Int) < 4 := by decide
                      clear b1 b2 r0 r1
                      go_wp2_with fail
                      refine (awake_c _).mono ?_
                      rintro e w9 ⟨rfl, hb9⟩
                      go_wp2_with fail
                      go_ret
                      exact ⟨rfl, (HS.out.keep hb9).sp.sn.1⟩
  · have hr0' : (rdgE s l == 0) = false := by simpa using hr0
    have hr1 : (rdgE s l != 0) = true := by simpa using hr0
    clear c8
    go_wp2_with fail
    refine (awake_c _).mono ?_
    rintro e w9 ⟨rfl, hb9⟩
    go_wp2_with fail
    go_ret
    exact ⟨rfl, (hS1.keep hb9).sp.sn.1⟩
end Td
end Go.Proofs.Ytmofbnadfgejiaa
