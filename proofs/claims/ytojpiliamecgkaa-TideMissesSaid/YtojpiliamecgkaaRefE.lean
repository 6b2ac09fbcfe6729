import Derived.Test.YtojpiliamecgkaaRefD
namespace Go.Proofs.Ytojpiliamecgkaa
open Go.RowKit
namespace Td
set_option linter.unusedSimpArgs false
set_option linter.unusedVariables false
theorem cell_far {w : World} {g g' : Nat} (hne : g' ≠ g) (i j : Nat) (v : Value) : (w.setCell ⟨g', j, none⟩ v).cell? ⟨g, i, none⟩ = w.cell? ⟨g, i, none⟩ :=
  World.cell?_of_block (w := w) (a := ⟨g, i, none⟩) (heap_setCell_other w ⟨g', j, none⟩ g v (Ne.symm hne))
theorem SB.far {g : Nat} {b : Bch} {A : Option Addr} {c : Nat} {w : World} (h : SB g b A c w) {g' : Nat} (hne : g' ≠ g) (j : Nat) (v : Value) : SB g b A c (w.setCell ⟨g', j, none⟩ v) := by
  refine ⟨?_, ?_, ?_, ?_, ?_, ?_⟩ <;> rw [cell_far hne]
  · exact h.1
  · exact h.2.1
  · exact h.2.2.1
  · exact h.2.2.2.1
  · exact h.2.2.2.2.1
  · exact h.2.2.2.2.2
theorem SS.far {g : Nat} {s : Shp} {w : World} (h : SS g s w) {g' : Nat} (hne : g' ≠ g) (j : Nat) (v : Value) : SS g s (w.setCell ⟨g', j, none⟩ v) := by
  refine ⟨?_, ?_, ?_⟩ <;> rw [cell_far hne]
  · exact h.1
  · exact h.2.1
  · exact h.2.2
theorem C4.row {g : Nat} {a c d e : Int} {w : World} (h : C4 g a c d e w) {g' : Nat} (hne : g' ≠ g) (new : Array Value) : C4 g a c d e (w.setRow g' new) := by
  refine ⟨?_, ?_, ?_, ?_⟩ <;> rw [cell_row hne]
  · exact h.1
  · exact h.2.1
  · exact h.2.2.1
  · exact h.2.2.2
set_option maxRecDepth 100000 in
set_option maxHeartbeats 16000000 in
theorem rMisses_c (b : Bch) (s : Shp) (A : Option Addr) (c : Nat) (tide bal : Int) (w : World) (hp : TsAt w A b.ts) :
    Calls Try.prog 29 #[.agg (bV b A c), .agg (sV s), .int .i64 tide, .int .i64 bal] w fun e w' => e = .returned (missesV b s tide bal) ∧ Below w.heap.size w w' := by
  have hs0 := (((Since.refl w).alloc (.cells (bV b A c) 26)).alloc (.cells (sV s) 28)).alloc (.cells (trV 0 0 0 0) 45)
  have HB0 := Lib.hid (((Blk.new w 26 (bV b A c)).alloc (.cells (sV s) 28)).alloc (.cells (trV 0 0 0 0) 45))
  have HS0 := Lib.hid ((Blk.new1 w (.cells (bV b A c) 26) 28 (sV s)).alloc (.cells (trV 0 0 0 0) 45))
  have HR0 := Lib.hid (Blk.new2 w (.cells (bV b A c) 26) (.cells (sV s) 28) 45 (trV 0 0 0 0))
  go_enter Try.func29, Try.ntmps29
  go_wp2_with fail
  refine (step_c b s A c tide bal _ (hp.keep hs0.1)).mono ?_
  rintro e w1 ⟨rfl, hb1⟩
  have hs1 := hs0.keep hb1
  have HB1 : Hid (SB w.heap.size b A c w1) := (HB0.out.keep hb1).beach
  have HS1 : Hid (SS (w.heap.size + 1) s w1) := (HS0.out.keep hb1).ship
  have HR1 := Lib.hid (HR0.out.keep hb1)
  clear HB0 HS0 HR0 hb1 hs0
  by_cases hc : stepE b s tide bal = 0
  · obtain ⟨hk, ⟨r0, r1⟩, r2, r3⟩ := stepE_ok hc
    obtain ⟨hB, hS⟩ := chk_ok.1 hk
    have HC := Lib.hid hc
    rw [hc]
    clear hc hk
    obtain ⟨i, rfl⟩ : ∃ i : Nat, tide = i := ⟨tide.toNat, by omega⟩
    have hi : i < b.ts.length := by omega
    have hl12 : b.ts.length ≤ 12 := hB.n1
    have HOK := Lib.hid (bx_ok hB hS hi)
    have HVs : Hid (missesV b s (i : Int) bal = if sur b.mlo b.mhi (bx b s i) (-s.sink * bal) then .tuple #[.agg (trV 0 0 0 0), .int .i64 0, .int .i64 9]
        else .tuple #[.agg (trV (m0 b.mlo b.mhi (bx b s i) (-s.sink * bal)) (m1 b.mlo b.mhi (bx b s i) (-s.sink * bal)) (m2 b.mlo b.mhi (bx b s i) (-s.sink * bal)) (m3 b.mlo b.mhi (bx b s i) (-s.sink * bal))), .int .i64 (mAt b.mlo b.mhi (bx b s i) (-s.sink * bal)), .int .i64 0]) := by
      show _ = _
      unfold missesV
      rw [if_pos HC.out, Int.toNat_natCast]
    obtain ⟨c0, c1, c2, c3, c4, c5⟩ := HB1.out
    obtain ⟨d0, d1, d2⟩ := HS1.out
    go_wp2_with fail
    refine (of_c b s A c i _ (hp.keep hs1.1) hi (by omega)).mono ?_
    rintro e w2 ⟨rfl, hb2⟩
    obtain ⟨x, hx⟩ : ∃ x, bx b s i = x := ⟨_, rfl⟩
    obtain ⟨lb, hlb⟩ : ∃ lb, -s.sink * bal = lb := ⟨_, rfl⟩
    rw [hx, hlb] at HVs
    rw [hx] at HOK ⊢
    have HLB := Lib.hid hlb
    clear hx hlb c0 c1 c2 c3 c4 c5 d0 d1 d2
    have hs2 := (hs1.keep hb2).alloc (.cells (boxV x) 107)
    have HB2 := Lib.hid (SB.alloc (SB.keep HB1.out hb2) (.cells (boxV x) 107))
    have HS2 := Lib.hid (SS.alloc (SS.keep HS1.out hb2) (.cells (boxV x) 107))
    have HR2 := Lib.hid ((HR1.out.keep hb2).alloc (.cells (boxV x) 107))
    have HX2 := Lib.hid (Blk.new w2 107 (boxV x))
    have hgw : w.heap.size + 1 + 1 < w2.heap.size := (HR1.out.keep hb2).lt
    clear HB1 HS1 HR1 hs1 hb2
    obtain ⟨c0, c1, c2, c3, c4, c5⟩ := HB2.out
    obtain ⟨d0, d1, d2⟩ := HS2.out
    obtain ⟨k0, k1, k2, k3, k4, k5, k6, k7⟩ := HX2.out.box
    go_wp2_with fail
    refine (rwithin2_c b A c s x bal _ HOK.out hS.k0 hS.k1 r2 (by omega)).mono ?_
    rintro e w3 ⟨rfl, hb3⟩
    rw [HLB.out]
    have hs3 := hs2.keep hb3
    have HB3 := Lib.hid (SB.keep HB2.out hb3)
    have HS3 := Lib.hid (SS.keep HS2.out hb3)
    have HR3 := Lib.hid (HR2.out.keep hb3)
    have HX3 := Lib.hid (HX2.out.keep hb3)
    clear c0 c1 c2 c3 c4 c5 d0 d1 d2 k0 k1 k2 k3 k4 k5 k6 k7 HB2 HS2 HR2 HX2 hs2 hb3
    obtain ⟨g, hg⟩ : ∃ g, w2.heap.size = g := ⟨_, rfl⟩
    rw [hg] at HX3 hgw ⊢
    clear hg
    cases hsu : sur b.mlo b.mhi x lb
    · have HE : Hid (missesV b s (i : Int) bal = .tuple #[.agg (trV (m0 b.mlo b.mhi x lb) (m1 b.mlo b.mhi x lb) (m2 b.mlo b.mhi x lb) (m3 b.mlo b.mhi x lb)), .int .i64 (mAt b.mlo b.mhi x lb), .int .i64 0]) := by show _ = _; rw [HVs.out, hsu]; rfl
      have HM := Lib.hid (mis_spec HOK.out hsu)
      have HIN := Lib.hid (mis_in HOK.out hsu)
      clear hsu HVs HC
      have hsn := hs3
      have HB := HB3
      have HS := HS3
      have HR := HR3
      have HX : Hid (Blk w3 g 107 (boxV (⟨x.slo, x.shi, x.dlo, x.dhi, x.hlo, x.hhi, x.wlo, x.whi⟩ : Box))) := HX3
      clear hs3 HB3 HS3 HR3 HX3
      go_wp2_with fail
      go_loopg [47] ((m0 b.mlo b.mhi x lb) - x.slo).toNat (fun gg sx wx => ∃ k : Int, x.slo ≤ k ∧ k + (gg : Int) = (m0 b.mlo b.mhi x lb) ∧ Since w wx ∧ Hid (SB (w.heap.size) b A c wx) ∧ Hid (SS (w.heap.size + 1) s wx) ∧ Hid (Blk wx g 107 (boxV (⟨k, x.shi, x.dlo, x.dhi, x.hlo, x.hhi, x.wlo, x.whi⟩ : Box))) ∧ Hid (Blk wx (w.heap.size + 1 + 1) 45 (trV 0 0 0 0)))
      case atStart => exact ⟨x.slo, Int.le_refl _, by have := HM.out.a0; omega, hsn, HB, HS, HX, HR⟩
      case round =>
        clear HB HS HX HR hsn
        obtain ⟨k, hk0, hkg, hsn, HB, HS, HX, HR⟩ := hrel
        have hkm : k ≤ (m0 b.mlo b.mhi x lb) := by omega
        have HO : Hid (BoxOk (x0 x k)) := x0_ok HOK.out hk0 (Int.le_trans hkm HM.out.a1)
        have hgl := HX.out.lt
        have hgr := HR.out.lt
        cases gk with
        | zero =>
          obtain rfl : k = (m0 b.mlo b.mhi x lb) := by omega
          have HDK : Hid (sur b.mlo b.mhi (x0 x (m0 b.mlo b.mhi x lb)) lb = false) := HM.out.a3
          go_wp2_with fail
          refine Vals.region (fun X => SB (w.heap.size) b A c X ∧ SS (w.heap.size + 1) s X ∧ (X.cell? ⟨g, 0, none⟩ = some (.int .i64 (m0 b.mlo b.mhi x lb)) ∧ X.cell? ⟨g, 1, none⟩ = some (.int .i64 x.shi) ∧ X.cell? ⟨g, 2, none⟩ = some (.int .i64 x.dlo) ∧ X.cell? ⟨g, 3, none⟩ = some (.int .i64 x.dhi) ∧ X.cell? ⟨g, 4, none⟩ = some (.int .i64 x.hlo) ∧ X.cell? ⟨g, 5, none⟩ = some (.int .i64 x.hhi) ∧ X.cell? ⟨g, 6, none⟩ = some (.int .i64 x.wlo) ∧ X.cell? ⟨g, 7, none⟩ = some (.int .i64 x.whi)) ∧ Hid (Blk X g 107 (boxV (⟨(m0 b.mlo b.mhi x lb), x.shi, x.dlo, x.dhi, x.hlo, x.hhi, x.wlo, x.whi⟩ : Box))) ∧ Hid (Blk X (w.heap.size + 1 + 1) 45 (trV 0 0 0 0)) ∧ Since w X) (fun X => SB (w.heap.size) b A c X ∧ SS (w.heap.size + 1) s X ∧ (X.cell? ⟨g, 0, none⟩ = some (.int .i64 (m0 b.mlo b.mhi x lb)) ∧ X.cell? ⟨g, 1, none⟩ = some (.int .i64 x.shi) ∧ X.cell? ⟨g, 2, none⟩ = some (.int .i64 x.dlo) ∧ X.cell? ⟨g, 3, none⟩ = some (.int .i64 x.dhi) ∧ X.cell? ⟨g, 4, none⟩ = some (.int .i64 x.hlo) ∧ X.cell? ⟨g, 5, none⟩ = some (.int .i64 x.hhi) ∧ X.cell? ⟨g, 6, none⟩ = some (.int .i64 x.wlo) ∧ X.cell? ⟨g, 7, none⟩ = some (.int .i64 x.whi)) ∧ Hid (Blk X g 107 (boxV (⟨(m0 b.mlo b.mhi x lb), x.shi, x.dlo, x.dhi, x.hlo, x.hhi, x.wlo, x.whi⟩ : Box))) ∧ Hid (Blk X (w.heap.size + 1 + 1) 45 (trV 0 0 0 0)) ∧ Since w X) [some 33, some 34, some 35, some 36, some 37, some 38, some 39, some 40, some 41, some 42, some 43, some 44, some 45, some 46, some 47] [.agg (bV b A c), .agg (sV s), .pointer (some ⟨g, 0, none⟩), .pointer (some ⟨g, 0, none⟩), .int .i64 (m0 b.mlo b.mhi x lb), .agg #[.int .i64 (m0 b.mlo b.mhi x lb), .int .i64 (m0 b.mlo b.mhi x lb)], .pointer (some ⟨g, 2, none⟩), .agg #[.int .i64 x.dlo, .int .i64 x.dhi], .pointer (some ⟨g, 4, none⟩), .agg #[.int .i64 x.hlo, .int .i64 x.hhi], .pointer (some ⟨g, 6, none⟩), .agg #[.int .i64 x.wlo, .int .i64 x.whi], .agg (boxV (x0 x (m0 b.mlo b.mhi x lb))), .int .i64 bal, .bool false] (by kernel_rfl) (by kernel_rfl) (by kernel_rfl) (by kernel_rfl) (by kernel_rfl) (by kernel_rfl) (by kernel_rfl) ⟨HB.out, HS.out, HX.out.box, HX.out, HR.out, hsn.drew⟩ ?_ ?_
          · refine Vals.Steps.run (by kernel_rfl) ?_ ?_
            · intro a W hSt pre old K hK
              have e4 : a.tmps.getD 4 undef = .pointer (some ⟨w.heap.size, 0, none⟩) := old 4 _ (by kernel_rfl) rfl
              clear pre old
              simp only [Array.getD_eq_getD_getElem?] at e4
              have hS9 := hSt
              obtain ⟨⟨s0, s1, s2, s3, s4, s5⟩, ⟨d0, d1, d2⟩, ⟨k0, k1, k2, k3, k4, k5, k6, k7⟩, _, _, sn⟩ := hS9
              go_simp
              exact hK _ hSt
            refine Vals.Steps.run (by kernel_rfl) ?_ ?_
            · intro a W hSt pre old K hK
              have e5 : a.tmps.getD 5 undef = .pointer (some ⟨w.heap.size + 1, 0, none⟩) := old 5 _ (by kernel_rfl) rfl
              clear pre old
              simp only [Array.getD_eq_getD_getElem?] at e5
              have hS9 := hSt
              obtain ⟨⟨s0, s1, s2, s3, s4, s5⟩, ⟨d0, d1, d2⟩, ⟨k0, k1, k2, k3, k4, k5, k6, k7⟩, _, _, sn⟩ := hS9
              go_simp
              exact hK _ hSt
            refine Vals.Steps.run (by kernel_rfl) ?_ ?_
            · intro a W hSt pre old K hK
              have e12 : a.tmps.getD 12 undef = .pointer (some ⟨g, 0, none⟩) := old 12 _ (by kernel_rfl) rfl
              clear pre old
              simp only [Array.getD_eq_getD_getElem?] at e12
              go_simp
              exact hK _ hSt
            refine Vals.Steps.run (by kernel_rfl) ?_ ?_
            · intro a W hSt pre old K hK
              have e35 : a.tmps.getD 35 undef = .pointer (some ⟨g, 0, none⟩) := pre 2 35 _ (by kernel_rfl) rfl rfl
              clear pre old
              simp only [Array.getD_eq_getD_getElem?] at e35
              go_simp
              exact hK _ hSt
            refine Vals.Steps.run (by kernel_rfl) ?_ ?_
            · intro a W hSt pre old K hK
              have e36 : a.tmps.getD 36 undef = .pointer (some ⟨g, 0, none⟩) := pre 3 36 _ (by kernel_rfl) rfl rfl
              clear pre old
              simp only [Array.getD_eq_getD_getElem?] at e36
              have hS9 := hSt
              obtain ⟨⟨s0, s1, s2, s3, s4, s5⟩, ⟨d0, d1, d2⟩, ⟨k0, k1, k2, k3, k4, k5, k6, k7⟩, _, _, sn⟩ := hS9
              go_simp
              exact hK _ hSt
            refine Vals.Steps.run (by kernel_rfl) ?_ ?_
            · intro a W hSt pre old K hK
              have e37 : a.tmps.getD 37 undef = .int .i64 (m0 b.mlo b.mhi x lb) := pre 4 37 _ (by kernel_rfl) rfl rfl
              clear pre old
              simp only [Array.getD_eq_getD_getElem?] at e37
              go_simp
              obtain ⟨sB, sS, _, hb, hr, sn⟩ := hSt
              refine (one_c (m0 b.mlo b.mhi x lb) _).mono ?_
              rintro e w' ⟨rfl, hb'⟩
              exact hK _ ⟨SB.keep sB hb', SS.keep sS hb', (hb.out.keep hb').box, hb.out.keep hb', hr.out.keep hb', sn.keep hb'⟩
            refine Vals.Steps.run (by kernel_rfl) ?_ ?_
            · intro a W hSt pre old K hK
              have e12 : a.tmps.getD 12 undef = .pointer (some ⟨g, 0, none⟩) := old 12 _ (by kernel_rfl) rfl
              clear pre old
              simp only [Array.getD_eq_getD_getElem?] at e12
              go_simp
              exact hK _ hSt
            refine Vals.Steps.run (by kernel_rfl) ?_ ?_
            · intro a W hSt pre old K hK
              have e39 : a.tmps.getD 39 undef = .pointer (some ⟨g, 2, none⟩) := pre 6 39 _ (by kernel_rfl) rfl rfl
              clear pre old
              simp only [Array.getD_eq_getD_getElem?] at e39
              have hS9 := hSt
              obtain ⟨⟨s0, s1, s2, s3, s4, s5⟩, ⟨d0, d1, d2⟩, ⟨k0, k1, k2, k3, k4, k5, k6, k7⟩, _, _, sn⟩ := hS9
              go_simp
              exact hK _ hSt
            refine Vals.Steps.run (by kernel_rfl) ?_ ?_
            · intro a W hSt pre old K hK
              have e12 : a.tmps.getD 12 undef = .pointer (some ⟨g, 0, none⟩) := old 12 _ (by kernel_rfl) rfl
              clear pre old
              simp only [Array.getD_eq_getD_getElem?] at e12
              go_simp
              exact hK _ hSt
            refine Vals.Steps.run (by kernel_rfl) ?_ ?_
            · intro a W hSt pre old K hK
              have e41 : a.tmps.getD 41 undef = .pointer (some ⟨g, 4, none⟩) := pre 8 41 _ (by kernel_rfl) rfl rfl
              clear pre old
              simp only [Array.getD_eq_getD_getElem?] at e41
              have hS9 := hSt
              obtain ⟨⟨s0, s1, s2, s3, s4, s5⟩, ⟨d0, d1, d2⟩, ⟨k0, k1, k2, k3, k4, k5, k6, k7⟩, _, _, sn⟩ := hS9
              go_simp
              exact hK _ hSt
            refine Vals.Steps.run (by kernel_rfl) ?_ ?_
            · intro a W hSt pre old K hK
              have e12 : a.tmps.getD 12 undef = .pointer (some ⟨g, 0, none⟩) := old 12 _ (by kernel_rfl) rfl
              clear pre old
              simp only [Array.getD_eq_getD_getElem?] at e12
              go_simp
              exact hK _ hSt
            refine Vals.Steps.run (by kernel_rfl) ?_ ?_
            · intro a W hSt pre old K hK
              have e43 : a.tmps.getD 43 undef = .pointer (some ⟨g, 6, none⟩) := pre 10 43 _ (by kernel_rfl) rfl rfl
              clear pre old
              simp only [Array.getD_eq_getD_getElem?] at e43
              have hS9 := hSt
              obtain ⟨⟨s0, s1, s2, s3, s4, s5⟩, ⟨d0, d1, d2⟩, ⟨k0, k1, k2, k3, k4, k5, k6, k7⟩, _, _, sn⟩ := hS9
              go_simp
              exact hK _ hSt
            refine Vals.Steps.run (by kernel_rfl) ?_ ?_
            · intro a W hSt pre old K hK
              have e38 : a.tmps.getD 38 undef = .agg #[.int .i64 (m0 b.mlo b.mhi x lb), .int .i64 (m0 b.mlo b.mhi x lb)] := pre 5 38 _ (by kernel_rfl) rfl rfl
              have e40 : a.tmps.getD 40 undef = .agg #[.int .i64 x.dlo, .int .i64 x.dhi] := pre 7 40 _ (by kernel_rfl) rfl rfl
              have e42 : a.tmps.getD 42 undef = .agg #[.int .i64 x.hlo, .int .i64 x.hhi] := pre 9 42 _ (by kernel_rfl) rfl rfl
              have e44 : a.tmps.getD 44 undef = .agg #[.int .i64 x.wlo, .int .i64 x.whi] := pre 11 44 _ (by kernel_rfl) rfl rfl
              clear pre old
              simp only [Array.getD_eq_getD_getElem?] at e38 e40 e42 e44
              go_simp
              exact hK _ hSt
            refine Vals.Steps.run (by kernel_rfl) ?_ ?_
            · intro a W hSt pre old K hK
              have e3 : a.tmps.getD 3 undef = .int .i64 bal := old 3 _ (by kernel_rfl) rfl
              clear pre old
              simp only [Array.getD_eq_getD_getElem?] at e3
              go_simp
              exact hK _ hSt
            refine Vals.Steps.last (by kernel_rfl) ?_
            · intro a W hSt pre old K hK
              have e33 : a.tmps.getD 33 undef = .agg (bV b A c) := pre 0 33 _ (by kernel_rfl) rfl rfl
              have e34 : a.tmps.getD 34 undef = .agg (sV s) := pre 1 34 _ (by kernel_rfl) rfl rfl
              have e45 : a.tmps.getD 45 undef = .agg (boxV (x0 x (m0 b.mlo b.mhi x lb))) := pre 12 45 _ (by kernel_rfl) rfl rfl
              have e46 : a.tmps.getD 46 undef = .int .i64 bal := pre 13 46 _ (by kernel_rfl) rfl rfl
              clear pre old
              simp only [Array.getD_eq_getD_getElem?] at e33 e34 e45 e46
              go_simp
              obtain ⟨sB, sS, _, hb, hr, sn⟩ := hSt
              refine (rwithin2_c b A c s (x0 x (m0 b.mlo b.mhi x lb)) bal _ HO.out hS.k0 hS.k1 r2 (by omega)).mono ?_
              rintro e w' ⟨rfl, hb'⟩
              rw [HLB.out, HDK.out]
              exact hK _ ⟨SB.keep sB hb', SS.keep sS hb', (hb.out.keep hb').box, hb.out.keep hb', hr.out.keep hb', sn.keep hb'⟩
          · rintro W ⟨sB, sS, _, hb, hr, sn⟩
            simp only [Vals.putAll, List.setIfInBounds_toArray, List.set_cons_zero, List.set_cons_succ]
            have HB2 := Lib.hid sB
            have HS2 := Lib.hid sS
            clear sB sS HB HS HX HR hsn
            obtain ⟨k0, k1, k2, k3, k4, k5, k6, k7⟩ := hb.out.box
            go_wp2_with fail
            refine (one_c (m0 b.mlo b.mhi x lb) _).mono ?_
            rintro e wz ⟨rfl, hbz⟩
            have hb3 := hb.out.keep hbz
            have f0 := hb3.frozen 0
            have f1 := hb3.frozen 1
            have e0 := hb3.cell 0
            have e1 := hb3.cell 1
            simp only [List.getElem?_toArray, List.getElem?_cons_zero, List.getElem?_cons_succ] at e0 e1
            have HX : Hid (Blk ((wz.setCell ⟨g, 0, none⟩ (.int .i64 (m0 b.mlo b.mhi x lb))).setCell ⟨g, 1, none⟩ (.int .i64 (m0 b.mlo b.mhi x lb))) g 107 (boxV (⟨(m0 b.mlo b.mhi x lb), (m0 b.mlo b.mhi x lb), x.dlo, x.dhi, x.hlo, x.hhi, x.wlo, x.whi⟩ : Box))) := (hb3.set 0 _).set 1 _
            have HR := Lib.hid (((hr.out.keep hbz).far (g' := g) (by omega) 0 (.int .i64 (m0 b.mlo b.mhi x lb))).far (g' := g) (by omega) 1 (.int .i64 (m0 b.mlo b.mhi x lb)))
            have HB : Hid (SB (w.heap.size) b A c ((wz.setCell ⟨g, 0, none⟩ (.int .i64 (m0 b.mlo b.mhi x lb))).setCell ⟨g, 1, none⟩ (.int .i64 (m0 b.mlo b.mhi x lb)))) := SB.far (SB.far (SB.keep HB2.out hbz) (by omega) _ _) (by omega) _ _
            have HS : Hid (SS (w.heap.size + 1) s ((wz.setCell ⟨g, 0, none⟩ (.int .i64 (m0 b.mlo b.mhi x lb))).setCell ⟨g, 1, none⟩ (.int .i64 (m0 b.mlo b.mhi x lb)))) := SS.far (SS.far (SS.keep HS2.out hbz) (by omega) _ _) (by omega) _ _
            have sn2 := sn.keep hbz
            have hsn : Since w ((wz.setCell ⟨g, 0, none⟩ (.int .i64 (m0 b.mlo b.mhi x lb))).setCell ⟨g, 1, none⟩ (.int .i64 (m0 b.mlo b.mhi x lb))) := ⟨(sn2.1.setCell (p := ⟨g, 0, none⟩) (show w.heap.size ≤ g by omega) _).setCell (p := ⟨g, 1, none⟩) (show w.heap.size ≤ g by omega) _, by simpa using sn2.2⟩
            clear k0 k1 k2 k3 k4 k5 k6 k7 hbz hb hr HB2 HS2 sn hb3 HO HDK
            go_wp2_with fail
            clear e0 e1 f0 f1 sn2 hgl hgr hkm hk0 hkg
            go_loopg [73] ((m1 b.mlo b.mhi x lb) - x.dlo).toNat (fun gg sx wx => ∃ k : Int, x.dlo ≤ k ∧ k + (gg : Int) = (m1 b.mlo b.mhi x lb) ∧ Since w wx ∧ Hid (SB (w.heap.size) b A c wx) ∧ Hid (SS (w.heap.size + 1) s wx) ∧ Hid (Blk wx g 107 (boxV (⟨(m0 b.mlo b.mhi x lb), (m0 b.mlo b.mhi x lb), k, x.dhi, x.hlo, x.hhi, x.wlo, x.whi⟩ : Box))) ∧ Hid (Blk wx (w.heap.size + 1 + 1) 45 (trV 0 0 0 0)))
            case atStart => exact ⟨x.dlo, Int.le_refl _, by have := HM.out.b0; omega, hsn, HB, HS, HX, HR⟩
            case round =>
              clear HB HS HX HR hsn
              obtain ⟨k, hk0, hkg, hsn, HB, HS, HX, HR⟩ := hrel
              have hkm : k ≤ (m1 b.mlo b.mhi x lb) := by omega
              have HO : Hid (BoxOk (x1 (y1 b.mlo b.mhi x lb) k)) := x1_ok HM.out.a2 hk0 (Int.le_trans hkm HM.out.b1)
              have hgl := HX.out.lt
              have hgr := HR.out.lt
              cases gk with
              | zero =>
                obtain rfl : k = (m1 b.mlo b.mhi x lb) := by omega
                have HDK : Hid (sur b.mlo b.mhi (x1 (y1 b.mlo b.mhi x lb) (m1 b.mlo b.mhi x lb)) lb = false) := HM.out.b3
                go_wp2_with fail
                refine Vals.region (fun X => SB (w.heap.size) b A c X ∧ SS (w.heap.size + 1) s X ∧ (X.cell? ⟨g, 0, none⟩ = some (.int .i64 (m0 b.mlo b.mhi x lb)) ∧ X.cell? ⟨g, 1, none⟩ = some (.int .i64 (m0 b.mlo b.mhi x lb)) ∧ X.cell? ⟨g, 2, none⟩ = some (.int .i64 (m1 b.mlo b.mhi x lb)) ∧ X.cell? ⟨g, 3, none⟩ = some (.int .i64 x.dhi) ∧ X.cell? ⟨g, 4, none⟩ = some (.int .i64 x.hlo) ∧ X.cell? ⟨g, 5, none⟩ = some (.int .i64 x.hhi) ∧ X.cell? ⟨g, 6, none⟩ = some (.int .i64 x.wlo) ∧ X.cell? ⟨g, 7, none⟩ = some (.int .i64 x.whi)) ∧ Hid (Blk X g 107 (boxV (⟨(m0 b.mlo b.mhi x lb), (m0 b.mlo b.mhi x lb), (m1 b.mlo b.mhi x lb), x.dhi, x.hlo, x.hhi, x.wlo, x.whi⟩ : Box))) ∧ Hid (Blk X (w.heap.size + 1 + 1) 45 (trV 0 0 0 0)) ∧ Since w X) (fun X => SB (w.heap.size) b A c X ∧ SS (w.heap.size + 1) s X ∧ (X.cell? ⟨g, 0, none⟩ = some (.int .i64 (m0 b.mlo b.mhi x lb)) ∧ X.cell? ⟨g, 1, none⟩ = some (.int .i64 (m0 b.mlo b.mhi x lb)) ∧ X.cell? ⟨g, 2, none⟩ = some (.int .i64 (m1 b.mlo b.mhi x lb)) ∧ X.cell? ⟨g, 3, none⟩ = some (.int .i64 x.dhi) ∧ X.cell? ⟨g, 4, none⟩ = some (.int .i64 x.hlo) ∧ X.cell? ⟨g, 5, none⟩ = some (.int .i64 x.hhi) ∧ X.cell? ⟨g, 6, none⟩ = some (.int .i64 x.wlo) ∧ X.cell? ⟨g, 7, none⟩ = some (.int .i64 x.whi)) ∧ Hid (Blk X g 107 (boxV (⟨(m0 b.mlo b.mhi x lb), (m0 b.mlo b.mhi x lb), (m1 b.mlo b.mhi x lb), x.dhi, x.hlo, x.hhi, x.wlo, x.whi⟩ : Box))) ∧ Hid (Blk X (w.heap.size + 1 + 1) 45 (trV 0 0 0 0)) ∧ Since w X) [some 59, some 60, some 61, some 62, some 63, some 64, some 65, some 66, some 67, some 68, some 69, some 70, some 71, some 72, some 73] [.agg (bV b A c), .agg (sV s), .pointer (some ⟨g, 0, none⟩), .agg #[.int .i64 (m0 b.mlo b.mhi x lb), .int .i64 (m0 b.mlo b.mhi x lb)], .pointer (some ⟨g, 2, none⟩), .pointer (some ⟨g, 2, none⟩), .int .i64 (m1 b.mlo b.mhi x lb), .agg #[.int .i64 (m1 b.mlo b.mhi x lb), .int .i64 (m1 b.mlo b.mhi x lb)], .pointer (some ⟨g, 4, none⟩), .agg #[.int .i64 x.hlo, .int .i64 x.hhi], .pointer (some ⟨g, 6, none⟩), .agg #[.int .i64 x.wlo, .int .i64 x.whi], .agg (boxV (x1 (y1 b.mlo b.mhi x lb) (m1 b.mlo b.mhi x lb))), .int .i64 bal, .bool false] (by kernel_rfl) (by kernel_rfl) (by kernel_rfl) (by kernel_rfl) (by kernel_rfl) (by kernel_rfl) (by kernel_rfl) ⟨HB.out, HS.out, HX.out.box, HX.out, HR.out, hsn.drew⟩ ?_ ?_
                · refine Vals.Steps.run (by kernel_rfl) ?_ ?_
                  · intro a W hSt pre old K hK
                    have e4 : a.tmps.getD 4 undef = .pointer (some ⟨w.heap.size, 0, none⟩) := old 4 _ (by kernel_rfl) rfl
                    clear pre old
                    simp only [Array.getD_eq_getD_getElem?] at e4
                    have hS9 := hSt
                    obtain ⟨⟨s0, s1, s2, s3, s4, s5⟩, ⟨d0, d1, d2⟩, ⟨k0, k1, k2, k3, k4, k5, k6, k7⟩, _, _, sn⟩ := hS9
                    go_simp
                    exact hK _ hSt
                  refine Vals.Steps.run (by kernel_rfl) ?_ ?_
                  · intro a W hSt pre old K hK
                    have e5 : a.tmps.getD 5 undef = .pointer (some ⟨w.heap.size + 1, 0, none⟩) := old 5 _ (by kernel_rfl) rfl
                    clear pre old
                    simp only [Array.getD_eq_getD_getElem?] at e5
                    have hS9 := hSt
                    obtain ⟨⟨s0, s1, s2, s3, s4, s5⟩, ⟨d0, d1, d2⟩, ⟨k0, k1, k2, k3, k4, k5, k6, k7⟩, _, _, sn⟩ := hS9
                    go_simp
                    exact hK _ hSt
                  refine Vals.Steps.run (by kernel_rfl) ?_ ?_
                  · intro a W hSt pre old K hK
                    have e12 : a.tmps.getD 12 undef = .pointer (some ⟨g, 0, none⟩) := old 12 _ (by kernel_rfl) rfl
                    clear pre old
                    simp only [Array.getD_eq_getD_getElem?] at e12
                    go_simp
                    exact hK _ hSt
                  refine Vals.Steps.run (by kernel_rfl) ?_ ?_
                  · intro a W hSt pre old K hK
                    have e61 : a.tmps.getD 61 undef = .pointer (some ⟨g, 0, none⟩) := pre 2 61 _ (by kernel_rfl) rfl rfl
                    clear pre old
                    simp only [Array.getD_eq_getD_getElem?] at e61
                    have hS9 := hSt
                    obtain ⟨⟨s0, s1, s2, s3, s4, s5⟩, ⟨d0, d1, d2⟩, ⟨k0, k1, k2, k3, k4, k5, k6, k7⟩, _, _, sn⟩ := hS9
                    go_simp
                    exact hK _ hSt
                  refine Vals.Steps.run (by kernel_rfl) ?_ ?_
                  · intro a W hSt pre old K hK
                    have e12 : a.tmps.getD 12 undef = .pointer (some ⟨g, 0, none⟩) := old 12 _ (by kernel_rfl) rfl
                    clear pre old
                    simp only [Array.getD_eq_getD_getElem?] at e12
                    go_simp
                    exact hK _ hSt
                  refine Vals.Steps.run (by kernel_rfl) ?_ ?_
                  · intro a W hSt pre old K hK
                    have e63 : a.tmps.getD 63 undef = .pointer (some ⟨g, 2, none⟩) := pre 4 63 _ (by kernel_rfl) rfl rfl
                    clear pre old
                    simp only [Array.getD_eq_getD_getElem?] at e63
                    go_simp
                    exact hK _ hSt
                  refine Vals.Steps.run (by kernel_rfl) ?_ ?_
                  · intro a W hSt pre old K hK
                    have e64 : a.tmps.getD 64 undef = .pointer (some ⟨g, 2, none⟩) := pre 5 64 _ (by kernel_rfl) rfl rfl
                    clear pre old
                    simp only [Array.getD_eq_getD_getElem?] at e64
                    have hS9 := hSt
                    obtain ⟨⟨s0, s1, s2, s3, s4, s5⟩, ⟨d0, d1, d2⟩, ⟨k0, k1, k2, k3, k4, k5, k6, k7⟩, _, _, sn⟩ := hS9
                    go_simp
                    exact hK _ hSt
                  refine Vals.Steps.run (by kernel_rfl) ?_ ?_
                  · intro a W hSt pre old K hK
                    have e65 : a.tmps.getD 65 undef = .int .i64 (m1 b.mlo b.mhi x lb) := pre 6 65 _ (by kernel_rfl) rfl rfl
                    clear pre old
                    simp only [Array.getD_eq_getD_getElem?] at e65
                    go_simp
                    obtain ⟨sB, sS, _, hb, hr, sn⟩ := hSt
                    refine (one_c (m1 b.mlo b.mhi x lb) _).mono ?_
                    rintro e w' ⟨rfl, hb'⟩
                    exact hK _ ⟨SB.keep sB hb', SS.keep sS hb', (hb.out.keep hb').box, hb.out.keep hb', hr.out.keep hb', sn.keep hb'⟩
                  refine Vals.Steps.run (by kernel_rfl) ?_ ?_
                  · intro a W hSt pre old K hK
                    have e12 : a.tmps.getD 12 undef = .pointer (some ⟨g, 0, none⟩) := old 12 _ (by kernel_rfl) rfl
                    clear pre old
                    simp only [Array.getD_eq_getD_getElem?] at e12
                    go_simp
                    exact hK _ hSt
                  refine Vals.Steps.run (by kernel_rfl) ?_ ?_
                  · intro a W hSt pre old K hK
                    have e67 : a.tmps.getD 67 undef = .pointer (some ⟨g, 4, none⟩) := pre 8 67 _ (by kernel_rfl) rfl rfl
                    clear pre old
                    simp only [Array.getD_eq_getD_getElem?] at e67
                    have hS9 := hSt
                    obtain ⟨⟨s0, s1, s2, s3, s4, s5⟩, ⟨d0, d1, d2⟩, ⟨k0, k1, k2, k3, k4, k5, k6, k7⟩, _, _, sn⟩ := hS9
                    go_simp
                    exact hK _ hSt
                  refine Vals.Steps.run (by kernel_rfl) ?_ ?_
                  · intro a W hSt pre old K hK
                    have e12 : a.tmps.getD 12 undef = .pointer (some ⟨g, 0, none⟩) := old 12 _ (by kernel_rfl) rfl
                    clear pre old
                    simp only [Array.getD_eq_getD_getElem?] at e12
                    go_simp
                    exact hK _ hSt
                  refine Vals.Steps.run (by kernel_rfl) ?_ ?_
                  · intro a W hSt pre old K hK
                    have e69 : a.tmps.getD 69 undef = .pointer (some ⟨g, 6, none⟩) := pre 10 69 _ (by kernel_rfl) rfl rfl
                    clear pre old
                    simp only [Array.getD_eq_getD_getElem?] at e69
                    have hS9 := hSt
                    obtain ⟨⟨s0, s1, s2, s3, s4, s5⟩, ⟨d0, d1, d2⟩, ⟨k0, k1, k2, k3, k4, k5, k6, k7⟩, _, _, sn⟩ := hS9
                    go_simp
                    exact hK _ hSt
                  refine Vals.Steps.run (by kernel_rfl) ?_ ?_
                  · intro a W hSt pre old K hK
                    have e62 : a.tmps.getD 62 undef = .agg #[.int .i64 (m0 b.mlo b.mhi x lb), .int .i64 (m0 b.mlo b.mhi x lb)] := pre 3 62 _ (by kernel_rfl) rfl rfl
                    have e66 : a.tmps.getD 66 undef = .agg #[.int .i64 (m1 b.mlo b.mhi x lb), .int .i64 (m1 b.mlo b.mhi x lb)] := pre 7 66 _ (by kernel_rfl) rfl rfl
                    have e68 : a.tmps.getD 68 undef = .agg #[.int .i64 x.hlo, .int .i64 x.hhi] := pre 9 68 _ (by kernel_rfl) rfl rfl
                    have e70 : a.tmps.getD 70 undef = .agg #[.int .i64 x.wlo, .int .i64 x.whi] := pre 11 70 _ (by kernel_rfl) rfl rfl
                    clear pre old
                    simp only [Array.getD_eq_getD_getElem?] at e62 e66 e68 e70
                    go_simp
                    exact hK _ hSt
                  refine Vals.Steps.run (by kernel_rfl) ?_ ?_
                  · intro a W hSt pre old K hK
                    have e3 : a.tmps.getD 3 undef = .int .i64 bal := old 3 _ (by kernel_rfl) rfl
                    clear pre old
                    simp only [Array.getD_eq_getD_getElem?] at e3
                    go_simp
                    exact hK _ hSt
                  refine Vals.Steps.last (by kernel_rfl) ?_
                  · intro a W hSt pre old K hK
                    have e59 : a.tmps.getD 59 undef = .agg (bV b A c) := pre 0 59 _ (by kernel_rfl) rfl rfl
                    have e60 : a.tmps.getD 60 undef = .agg (sV s) := pre 1 60 _ (by kernel_rfl) rfl rfl
                    have e71 : a.tmps.getD 71 undef = .agg (boxV (x1 (y1 b.mlo b.mhi x lb) (m1 b.mlo b.mhi x lb))) := pre 12 71 _ (by kernel_rfl) rfl rfl
                    have e72 : a.tmps.getD 72 undef = .int .i64 bal := pre 13 72 _ (by kernel_rfl) rfl rfl
                    clear pre old
                    simp only [Array.getD_eq_getD_getElem?] at e59 e60 e71 e72
                    go_simp
                    obtain ⟨sB, sS, _, hb, hr, sn⟩ := hSt
                    refine (rwithin2_c b A c s (x1 (y1 b.mlo b.mhi x lb) (m1 b.mlo b.mhi x lb)) bal _ HO.out hS.k0 hS.k1 r2 (by omega)).mono ?_
                    rintro e w' ⟨rfl, hb'⟩
                    rw [HLB.out, HDK.out]
                    exact hK _ ⟨SB.keep sB hb', SS.keep sS hb', (hb.out.keep hb').box, hb.out.keep hb', hr.out.keep hb', sn.keep hb'⟩
                · rintro W ⟨sB, sS, _, hb, hr, sn⟩
                  simp only [Vals.putAll, List.setIfInBounds_toArray, List.set_cons_zero, List.set_cons_succ]
                  have HB2 := Lib.hid sB
                  have HS2 := Lib.hid sS
                  clear sB sS HB HS HX HR hsn
                  obtain ⟨k0, k1, k2, k3, k4, k5, k6, k7⟩ := hb.out.box
                  go_wp2_with fail
                  refine (one_c (m1 b.mlo b.mhi x lb) _).mono ?_
                  rintro e wz ⟨rfl, hbz⟩
                  have hb3 := hb.out.keep hbz
                  have f0 := hb3.frozen 2
                  have f1 := hb3.frozen 3
                  have e0 := hb3.cell 2
                  have e1 := hb3.cell 3
                  simp only [List.getElem?_toArray, List.getElem?_cons_zero, List.getElem?_cons_succ] at e0 e1
                  have HX : Hid (Blk ((wz.setCell ⟨g, 2, none⟩ (.int .i64 (m1 b.mlo b.mhi x lb))).setCell ⟨g, 3, none⟩ (.int .i64 (m1 b.mlo b.mhi x lb))) g 107 (boxV (⟨(m0 b.mlo b.mhi x lb), (m0 b.mlo b.mhi x lb), (m1 b.mlo b.mhi x lb), (m1 b.mlo b.mhi x lb), x.hlo, x.hhi, x.wlo, x.whi⟩ : Box))) := (hb3.set 2 _).set 3 _
                  have HR := Lib.hid (((hr.out.keep hbz).far (g' := g) (by omega) 2 (.int .i64 (m1 b.mlo b.mhi x lb))).far (g' := g) (by omega) 3 (.int .i64 (m1 b.mlo b.mhi x lb)))
                  have HB : Hid (SB (w.heap.size) b A c ((wz.setCell ⟨g, 2, none⟩ (.int .i64 (m1 b.mlo b.mhi x lb))).setCell ⟨g, 3, none⟩ (.int .i64 (m1 b.mlo b.mhi x lb)))) := SB.far (SB.far (SB.keep HB2.out hbz) (by omega) _ _) (by omega) _ _
                  have HS : Hid (SS (w.heap.size + 1) s ((wz.setCell ⟨g, 2, none⟩ (.int .i64 (m1 b.mlo b.mhi x lb))).setCell ⟨g, 3, none⟩ (.int .i64 (m1 b.mlo b.mhi x lb)))) := SS.far (SS.far (SS.keep HS2.out hbz) (by omega) _ _) (by omega) _ _
                  have sn2 := sn.keep hbz
                  have hsn : Since w ((wz.setCell ⟨g, 2, none⟩ (.int .i64 (m1 b.mlo b.mhi x lb))).setCell ⟨g, 3, none⟩ (.int .i64 (m1 b.mlo b.mhi x lb))) := ⟨(sn2.1.setCell (p := ⟨g, 2, none⟩) (show w.heap.size ≤ g by omega) _).setCell (p := ⟨g, 3, none⟩) (show w.heap.size ≤ g by omega) _, by simpa using sn2.2⟩
                  clear k0 k1 k2 k3 k4 k5 k6 k7 hbz hb hr HB2 HS2 sn hb3 HO HDK
                  go_wp2_with fail
                  clear e0 e1 f0 f1 sn2 hgl hgr hkm hk0 hkg
                  go_loopg [99] ((m2 b.mlo b.mhi x lb) - x.hlo).toNat (fun gg sx wx => ∃ k : Int, x.hlo ≤ k ∧ k + (gg : Int) = (m2 b.mlo b.mhi x lb) ∧ Since w wx ∧ Hid (SB (w.heap.size) b A c wx) ∧ Hid (SS (w.heap.size + 1) s wx) ∧ Hid (Blk wx g 107 (boxV (⟨(m0 b.mlo b.mhi x lb), (m0 b.mlo b.mhi x lb), (m1 b.mlo b.mhi x lb), (m1 b.mlo b.mhi x lb), k, x.hhi, x.wlo, x.whi⟩ : Box))) ∧ Hid (Blk wx (w.heap.size + 1 + 1) 45 (trV 0 0 0 0)))
                  case atStart => exact ⟨x.hlo, Int.le_refl _, by have := HM.out.c0; omega, hsn, HB, HS, HX, HR⟩
                  case round =>
                    clear HB HS HX HR hsn
                    obtain ⟨k, hk0, hkg, hsn, HB, HS, HX, HR⟩ := hrel
                    have hkm : k ≤ (m2 b.mlo b.mhi x lb) := by omega
                    have HO : Hid (BoxOk (x2 (y2 b.mlo b.mhi x lb) k)) := x2_ok HM.out.b2 hk0 (Int.le_trans hkm HM.out.c1)
                    have hgl := HX.out.lt
                    have hgr := HR.out.lt
                    cases gk with
                    | zero =>
                      obtain rfl : k = (m2 b.mlo b.mhi x lb) := by omega
                      have HDK : Hid (sur b.mlo b.mhi (x2 (y2 b.mlo b.mhi x lb) (m2 b.mlo b.mhi x lb)) lb = false) := HM.out.c3
                      go_wp2_with fail
                      refine Vals.region (fun X => SB (w.heap.size) b A c X ∧ SS (w.heap.size + 1) s X ∧ (X.cell? ⟨g, 0, none⟩ = some (.int .i64 (m0 b.mlo b.mhi x lb)) ∧ X.cell? ⟨g, 1, none⟩ = some (.int .i64 (m0 b.mlo b.mhi x lb)) ∧ X.cell? ⟨g, 2, none⟩ = some (.int .i64 (m1 b.mlo b.mhi x lb)) ∧ X.cell? ⟨g, 3, none⟩ = some (.int .i64 (m1 b.mlo b.mhi x lb)) ∧ X.cell? ⟨g, 4, none⟩ = some (.int .i64 (m2 b.mlo b.mhi x lb)) ∧ X.cell? ⟨g, 5, none⟩ = some (.int .i64 x.hhi) ∧ X.cell? ⟨g, 6, none⟩ = some (.int .i64 x.wlo) ∧ X.cell? ⟨g, 7, none⟩ = some (.int .i64 x.whi)) ∧ Hid (Blk X g 107 (boxV (⟨(m0 b.mlo b.mhi x lb), (m0 b.mlo b.mhi x lb), (m1 b.mlo b.mhi x lb), (m1 b.mlo b.mhi x lb), (m2 b.mlo b.mhi x lb), x.hhi, x.wlo, x.whi⟩ : Box))) ∧ Hid (Blk X (w.heap.size + 1 + 1) 45 (trV 0 0 0 0)) ∧ Since w X) (fun X => SB (w.heap.size) b A c X ∧ SS (w.heap.size + 1) s X ∧ (X.cell? ⟨g, 0, none⟩ = some (.int .i64 (m0 b.mlo b.mhi x lb)) ∧ X.cell? ⟨g, 1, none⟩ = some (.int .i64 (m0 b.mlo b.mhi x lb)) ∧ X.cell? ⟨g, 2, none⟩ = some (.int .i64 (m1 b.mlo b.mhi x lb)) ∧ X.cell? ⟨g, 3, none⟩ = some (.int .i64 (m1 b.mlo b.mhi x lb)) ∧ X.cell? ⟨g, 4, none⟩ = some (.int .i64 (m2 b.mlo b.mhi x lb)) ∧ X.cell? ⟨g, 5, none⟩ = some (.int .i64 x.hhi) ∧ X.cell? ⟨g, 6, none⟩ = some (.int .i64 x.wlo) ∧ X.cell? ⟨g, 7, none⟩ = some (.int .i64 x.whi)) ∧ Hid (Blk X g 107 (boxV (⟨(m0 b.mlo b.mhi x lb), (m0 b.mlo b.mhi x lb), (m1 b.mlo b.mhi x lb), (m1 b.mlo b.mhi x lb), (m2 b.mlo b.mhi x lb), x.hhi, x.wlo, x.whi⟩ : Box))) ∧ Hid (Blk X (w.heap.size + 1 + 1) 45 (trV 0 0 0 0)) ∧ Since w X) [some 85, some 86, some 87, some 88, some 89, some 90, some 91, some 92, some 93, some 94, some 95, some 96, some 97, some 98, some 99] [.agg (bV b A c), .agg (sV s), .pointer (some ⟨g, 0, none⟩), .agg #[.int .i64 (m0 b.mlo b.mhi x lb), .int .i64 (m0 b.mlo b.mhi x lb)], .pointer (some ⟨g, 2, none⟩), .agg #[.int .i64 (m1 b.mlo b.mhi x lb), .int .i64 (m1 b.mlo b.mhi x lb)], .pointer (some ⟨g, 4, none⟩), .pointer (some ⟨g, 4, none⟩), .int .i64 (m2 b.mlo b.mhi x lb), .agg #[.int .i64 (m2 b.mlo b.mhi x lb), .int .i64 (m2 b.mlo b.mhi x lb)], .pointer (some ⟨g, 6, none⟩), .agg #[.int .i64 x.wlo, .int .i64 x.whi], .agg (boxV (x2 (y2 b.mlo b.mhi x lb) (m2 b.mlo b.mhi x lb))), .int .i64 bal, .bool false] (by kernel_rfl) (by kernel_rfl) (by kernel_rfl) (by kernel_rfl) (by kernel_rfl) (by kernel_rfl) (by kernel_rfl) ⟨HB.out, HS.out, HX.out.box, HX.out, HR.out, hsn.drew⟩ ?_ ?_
                      · refine Vals.Steps.run (by kernel_rfl) ?_ ?_
                        · intro a W hSt pre old K hK
                          have e4 : a.tmps.getD 4 undef = .pointer (some ⟨w.heap.size, 0, none⟩) := old 4 _ (by kernel_rfl) rfl
                          clear pre old
                          simp only [Array.getD_eq_getD_getElem?] at e4
                          have hS9 := hSt
                          obtain ⟨⟨s0, s1, s2, s3, s4, s5⟩, ⟨d0, d1, d2⟩, ⟨k0, k1, k2, k3, k4, k5, k6, k7⟩, _, _, sn⟩ := hS9
                          go_simp
                          exact hK _ hSt
                        refine Vals.Steps.run (by kernel_rfl) ?_ ?_
                        · intro a W hSt pre old K hK
                          have e5 : a.tmps.getD 5 undef = .pointer (some ⟨w.heap.size + 1, 0, none⟩) := old 5 _ (by kernel_rfl) rfl
                          clear pre old
                          simp only [Array.getD_eq_getD_getElem?] at e5
                          have hS9 := hSt
                          obtain ⟨⟨s0, s1, s2, s3, s4, s5⟩, ⟨d0, d1, d2⟩, ⟨k0, k1, k2, k3, k4, k5, k6, k7⟩, _, _, sn⟩ := hS9
                          go_simp
                          exact hK _ hSt
                        refine Vals.Steps.run (by kernel_rfl) ?_ ?_
                        · intro a W hSt pre old K hK
                          have e12 : a.tmps.getD 12 undef = .pointer (some ⟨g, 0, none⟩) := old 12 _ (by kernel_rfl) rfl
                          clear pre old
                          simp only [Array.getD_eq_getD_getElem?] at e12
                          go_simp
                          exact hK _ hSt
                        refine Vals.Steps.run (by kernel_rfl) ?_ ?_
                        · intro a W hSt pre old K hK
                          have e87 : a.tmps.getD 87 undef = .pointer (some ⟨g, 0, none⟩) := pre 2 87 _ (by kernel_rfl) rfl rfl
                          clear pre old
                          simp only [Array.getD_eq_getD_getElem?] at e87
                          have hS9 := hSt
                          obtain ⟨⟨s0, s1, s2, s3, s4, s5⟩, ⟨d0, d1, d2⟩, ⟨k0, k1, k2, k3, k4, k5, k6, k7⟩, _, _, sn⟩ := hS9
                          go_simp
                          exact hK _ hSt
                        refine Vals.Steps.run (by kernel_rfl) ?_ ?_
                        · intro a W hSt pre old K hK
                          have e12 : a.tmps.getD 12 undef = .pointer (some ⟨g, 0, none⟩) := old 12 _ (by kernel_rfl) rfl
                          clear pre old
                          simp only [Array.getD_eq_getD_getElem?] at e12
                          go_simp
                          exact hK _ hSt
                        refine Vals.Steps.run (by kernel_rfl) ?_ ?_
                        · intro a W hSt pre old K hK
                          have e89 : a.tmps.getD 89 undef = .pointer (some ⟨g, 2, none⟩) := pre 4 89 _ (by kernel_rfl) rfl rfl
                          clear pre old
                          simp only [Array.getD_eq_getD_getElem?] at e89
                          have hS9 := hSt
                          obtain ⟨⟨s0, s1, s2, s3, s4, s5⟩, ⟨d0, d1, d2⟩, ⟨k0, k1, k2, k3, k4, k5, k6, k7⟩, _, _, sn⟩ := hS9
                          go_simp
                          exact hK _ hSt
                        refine Vals.Steps.run (by kernel_rfl) ?_ ?_
                        · intro a W hSt pre old K hK
                          have e12 : a.tmps.getD 12 undef = .pointer (some ⟨g, 0, none⟩) := old 12 _ (by kernel_rfl) rfl
                          clear pre old
                          simp only [Array.getD_eq_getD_getElem?] at e12
                          go_simp
                          exact hK _ hSt
                        refine Vals.Steps.run (by kernel_rfl) ?_ ?_
                        · intro a W hSt pre old K hK
                          have e91 : a.tmps.getD 91 undef = .pointer (some ⟨g, 4, none⟩) := pre 6 91 _ (by kernel_rfl) rfl rfl
                          clear pre old
                          simp only [Array.getD_eq_getD_getElem?] at e91
                          go_simp
                          exact hK _ hSt
                        refine Vals.Steps.run (by kernel_rfl) ?_ ?_
                        · intro a W hSt pre old K hK
                          have e92 : a.tmps.getD 92 undef = .pointer (some ⟨g, 4, none⟩) := pre 7 92 _ (by kernel_rfl) rfl rfl
                          clear pre old
                          simp only [Array.getD_eq_getD_getElem?] at e92
                          have hS9 := hSt
                          obtain ⟨⟨s0, s1, s2, s3, s4, s5⟩, ⟨d0, d1, d2⟩, ⟨k0, k1, k2, k3, k4, k5, k6, k7⟩, _, _, sn⟩ := hS9
                          go_simp
                          exact hK _ hSt
                        refine Vals.Steps.run (by kernel_rfl) ?_ ?_
                        · intro a W hSt pre old K hK
                          have e93 : a.tmps.getD 93 undef = .int .i64 (m2 b.mlo b.mhi x lb) := pre 8 93 _ (by kernel_rfl) rfl rfl
                          clear pre old
                          simp only [Array.getD_eq_getD_getElem?] at e93
                          go_simp
                          obtain ⟨sB, sS, _, hb, hr, sn⟩ := hSt
                          refine (one_c (m2 b.mlo b.mhi x lb) _).mono ?_
                          rintro e w' ⟨rfl, hb'⟩
                          exact hK _ ⟨SB.keep sB hb', SS.keep sS hb', (hb.out.keep hb').box, hb.out.keep hb', hr.out.keep hb', sn.keep hb'⟩
                        refine Vals.Steps.run (by kernel_rfl) ?_ ?_
                        · intro a W hSt pre old K hK
                          have e12 : a.tmps.getD 12 undef = .pointer (some ⟨g, 0, none⟩) := old 12 _ (by kernel_rfl) rfl
                          clear pre old
                          simp only [Array.getD_eq_getD_getElem?] at e12
                          go_simp
                          exact hK _ hSt
                        refine Vals.Steps.run (by kernel_rfl) ?_ ?_
                        · intro a W hSt pre old K hK
                          have e95 : a.tmps.getD 95 undef = .pointer (some ⟨g, 6, none⟩) := pre 10 95 _ (by kernel_rfl) rfl rfl
                          clear pre old
                          simp only [Array.getD_eq_getD_getElem?] at e95
                          have hS9 := hSt
                          obtain ⟨⟨s0, s1, s2, s3, s4, s5⟩, ⟨d0, d1, d2⟩, ⟨k0, k1, k2, k3, k4, k5, k6, k7⟩, _, _, sn⟩ := hS9
                          go_simp
                          exact hK _ hSt
                        refine Vals.Steps.run (by kernel_rfl) ?_ ?_
                        · intro a W hSt pre old K hK
                          have e88 : a.tmps.getD 88 undef = .agg #[.int .i64 (m0 b.mlo b.mhi x lb), .int .i64 (m0 b.mlo b.mhi x lb)] := pre 3 88 _ (by kernel_rfl) rfl rfl
                          have e90 : a.tmps.getD 90 undef = .agg #[.int .i64 (m1 b.mlo b.mhi x lb), .int .i64 (m1 b.mlo b.mhi x lb)] := pre 5 90 _ (by kernel_rfl) rfl rfl
                          have e94 : a.tmps.getD 94 undef = .agg #[.int .i64 (m2 b.mlo b.mhi x lb), .int .i64 (m2 b.mlo b.mhi x lb)] := pre 9 94 _ (by kernel_rfl) rfl rfl
                          have e96 : a.tmps.getD 96 undef = .agg #[.int .i64 x.wlo, .int .i64 x.whi] := pre 11 96 _ (by kernel_rfl) rfl rfl
                          clear pre old
                          simp only [Array.getD_eq_getD_getElem?] at e88 e90 e94 e96
                          go_simp
                          exact hK _ hSt
                        refine Vals.Steps.run (by kernel_rfl) ?_ ?_
                        · intro a W hSt pre old K hK
                          have e3 : a.tmps.getD 3 undef = .int .i64 bal := old 3 _ (by kernel_rfl) rfl
                          clear pre old
                          simp only [Array.getD_eq_getD_getElem?] at e3
                          go_simp
                          exact hK _ hSt
                        refine Vals.Steps.last (by kernel_rfl) ?_
                        · intro a W hSt pre old K hK
                          have e85 : a.tmps.getD 85 undef = .agg (bV b A c) := pre 0 85 _ (by kernel_rfl) rfl rfl
                          have e86 : a.tmps.getD 86 undef = .agg (sV s) := pre 1 86 _ (by kernel_rfl) rfl rfl
                          have e97 : a.tmps.getD 97 undef = .agg (boxV (x2 (y2 b.mlo b.mhi x lb) (m2 b.mlo b.mhi x lb))) := pre 12 97 _ (by kernel_rfl) rfl rfl
                          have e98 : a.tmps.getD 98 undef = .int .i64 bal := pre 13 98 _ (by kernel_rfl) rfl rfl
                          clear pre old
                          simp only [Array.getD_eq_getD_getElem?] at e85 e86 e97 e98
                          go_simp
                          obtain ⟨sB, sS, _, hb, hr, sn⟩ := hSt
                          refine (rwithin2_c b A c s (x2 (y2 b.mlo b.mhi x lb) (m2 b.mlo b.mhi x lb)) bal _ HO.out hS.k0 hS.k1 r2 (by omega)).mono ?_
                          rintro e w' ⟨rfl, hb'⟩
                          rw [HLB.out, HDK.out]
                          exact hK _ ⟨SB.keep sB hb', SS.keep sS hb', (hb.out.keep hb').box, hb.out.keep hb', hr.out.keep hb', sn.keep hb'⟩
                      · rintro W ⟨sB, sS, _, hb, hr, sn⟩
                        simp only [Vals.putAll, List.setIfInBounds_toArray, List.set_cons_zero, List.set_cons_succ]
                        have HB2 := Lib.hid sB
                        have HS2 := Lib.hid sS
                        clear sB sS HB HS HX HR hsn
                        obtain ⟨k0, k1, k2, k3, k4, k5, k6, k7⟩ := hb.out.box
                        go_wp2_with fail
                        refine (one_c (m2 b.mlo b.mhi x lb) _).mono ?_
                        rintro e wz ⟨rfl, hbz⟩
                        have hb3 := hb.out.keep hbz
                        have f0 := hb3.frozen 4
                        have f1 := hb3.frozen 5
                        have e0 := hb3.cell 4
                        have e1 := hb3.cell 5
                        simp only [List.getElem?_toArray, List.getElem?_cons_zero, List.getElem?_cons_succ] at e0 e1
                        have HX : Hid (Blk ((wz.setCell ⟨g, 4, none⟩ (.int .i64 (m2 b.mlo b.mhi x lb))).setCell ⟨g, 5, none⟩ (.int .i64 (m2 b.mlo b.mhi x lb))) g 107 (boxV (⟨(m0 b.mlo b.mhi x lb), (m0 b.mlo b.mhi x lb), (m1 b.mlo b.mhi x lb), (m1 b.mlo b.mhi x lb), (m2 b.mlo b.mhi x lb), (m2 b.mlo b.mhi x lb), x.wlo, x.whi⟩ : Box))) := (hb3.set 4 _).set 5 _
                        have HR := Lib.hid (((hr.out.keep hbz).far (g' := g) (by omega) 4 (.int .i64 (m2 b.mlo b.mhi x lb))).far (g' := g) (by omega) 5 (.int .i64 (m2 b.mlo b.mhi x lb)))
                        have HB : Hid (SB (w.heap.size) b A c ((wz.setCell ⟨g, 4, none⟩ (.int .i64 (m2 b.mlo b.mhi x lb))).setCell ⟨g, 5, none⟩ (.int .i64 (m2 b.mlo b.mhi x lb)))) := SB.far (SB.far (SB.keep HB2.out hbz) (by omega) _ _) (by omega) _ _
                        have HS : Hid (SS (w.heap.size + 1) s ((wz.setCell ⟨g, 4, none⟩ (.int .i64 (m2 b.mlo b.mhi x lb))).setCell ⟨g, 5, none⟩ (.int .i64 (m2 b.mlo b.mhi x lb)))) := SS.far (SS.far (SS.keep HS2.out hbz) (by omega) _ _) (by omega) _ _
                        have sn2 := sn.keep hbz
                        have hsn : Since w ((wz.setCell ⟨g, 4, none⟩ (.int .i64 (m2 b.mlo b.mhi x lb))).setCell ⟨g, 5, none⟩ (.int .i64 (m2 b.mlo b.mhi x lb))) := ⟨(sn2.1.setCell (p := ⟨g, 4, none⟩) (show w.heap.size ≤ g by omega) _).setCell (p := ⟨g, 5, none⟩) (show w.heap.size ≤ g by omega) _, by simpa using sn2.2⟩
                        clear k0 k1 k2 k3 k4 k5 k6 k7 hbz hb hr HB2 HS2 sn hb3 HO HDK
                        go_wp2_with fail
                        clear e0 e1 f0 f1 sn2 hgl hgr hkm hk0 hkg
                        go_loopg [125] ((m3 b.mlo b.mhi x lb) - x.wlo).toNat (fun gg sx wx => ∃ k : Int, x.wlo ≤ k ∧ k + (gg : Int) = (m3 b.mlo b.mhi x lb) ∧ Since w wx ∧ Hid (SB (w.heap.size) b A c wx) ∧ Hid (SS (w.heap.size + 1) s wx) ∧ Hid (Blk wx g 107 (boxV (⟨(m0 b.mlo b.mhi x lb), (m0 b.mlo b.mhi x lb), (m1 b.mlo b.mhi x lb), (m1 b.mlo b.mhi x lb), (m2 b.mlo b.mhi x lb), (m2 b.mlo b.mhi x lb), k, x.whi⟩ : Box))) ∧ Hid (Blk wx (w.heap.size + 1 + 1) 45 (trV 0 0 0 0)))
                        case atStart => exact ⟨x.wlo, Int.le_refl _, by have := HM.out.d0; omega, hsn, HB, HS, HX, HR⟩
                        case round =>
                          clear HB HS HX HR hsn
                          obtain ⟨k, hk0, hkg, hsn, HB, HS, HX, HR⟩ := hrel
                          have hkm : k ≤ (m3 b.mlo b.mhi x lb) := by omega
                          have HO : Hid (BoxOk (x3 (y3 b.mlo b.mhi x lb) k)) := x3_ok HM.out.c2 hk0 (Int.le_trans hkm HM.out.d1)
                          have hgl := HX.out.lt
                          have hgr := HR.out.lt
                          cases gk with
                          | zero =>
                            obtain rfl : k = (m3 b.mlo b.mhi x lb) := by omega
                            have HDK : Hid (sur b.mlo b.mhi (x3 (y3 b.mlo b.mhi x lb) (m3 b.mlo b.mhi x lb)) lb = false) := HM.out.d3
                            go_wp2_with fail
                            refine Vals.region (fun X => SB (w.heap.size) b A c X ∧ SS (w.heap.size + 1) s X ∧ (X.cell? ⟨g, 0, none⟩ = some (.int .i64 (m0 b.mlo b.mhi x lb)) ∧ X.cell? ⟨g, 1, none⟩ = some (.int .i64 (m0 b.mlo b.mhi x lb)) ∧ X.cell? ⟨g, 2, none⟩ = some (.int .i64 (m1 b.mlo b.mhi x lb)) ∧ X.cell? ⟨g, 3, none⟩ = some (.int .i64 (m1 b.mlo b.mhi x lb)) ∧ X.cell? ⟨g, 4, none⟩ = some (.int .i64 (m2 b.mlo b.mhi x lb)) ∧ X.cell? ⟨g, 5, none⟩ = some (.int .i64 (m2 b.mlo b.mhi x lb)) ∧ X.cell? ⟨g, 6, none⟩ = some (.int .i64 (m3 b.mlo b.mhi x lb)) ∧ X.cell? ⟨g, 7, none⟩ = some (.int .i64 x.whi)) ∧ Hid (Blk X g 107 (boxV (⟨(m0 b.mlo b.mhi x lb), (m0 b.mlo b.mhi x lb), (m1 b.mlo b.mhi x lb), (m1 b.mlo b.mhi x lb), (m2 b.mlo b.mhi x lb), (m2 b.mlo b.mhi x lb), (m3 b.mlo b.mhi x lb), x.whi⟩ : Box))) ∧ Hid (Blk X (w.heap.size + 1 + 1) 45 (trV 0 0 0 0)) ∧ Since w X) (fun X => SB (w.heap.size) b A c X ∧ SS (w.heap.size + 1) s X ∧ (X.cell? ⟨g, 0, none⟩ = some (.int .i64 (m0 b.mlo b.mhi x lb)) ∧ X.cell? ⟨g, 1, none⟩ = some (.int .i64 (m0 b.mlo b.mhi x lb)) ∧ X.cell? ⟨g, 2, none⟩ = some (.int .i64 (m1 b.mlo b.mhi x lb)) ∧ X.cell? ⟨g, 3, none⟩ = some (.int .i64 (m1 b.mlo b.mhi x lb)) ∧ X.cell? ⟨g, 4, none⟩ = some (.int .i64 (m2 b.mlo b.mhi x lb)) ∧ X.cell? ⟨g, 5, none⟩ = some (.int .i64 (m2 b.mlo b.mhi x lb)) ∧ X.cell? ⟨g, 6, none⟩ = some (.int .i64 (m3 b.mlo b.mhi x lb)) ∧ X.cell? ⟨g, 7, none⟩ = some (.int .i64 x.whi)) ∧ Hid (Blk X g 107 (boxV (⟨(m0 b.mlo b.mhi x lb), (m0 b.mlo b.mhi x lb), (m1 b.mlo b.mhi x lb), (m1 b.mlo b.mhi x lb), (m2 b.mlo b.mhi x lb), (m2 b.mlo b.mhi x lb), (m3 b.mlo b.mhi x lb), x.whi⟩ : Box))) ∧ Hid (Blk X (w.heap.size + 1 + 1) 45 (trV 0 0 0 0)) ∧ Since w X) [some 111, some 112, some 113, some 114, some 115, some 116, some 117, some 118, some 119, some 120, some 121, some 122, some 123, some 124, some 125] [.agg (bV b A c), .agg (sV s), .pointer (some ⟨g, 0, none⟩), .agg #[.int .i64 (m0 b.mlo b.mhi x lb), .int .i64 (m0 b.mlo b.mhi x lb)], .pointer (some ⟨g, 2, none⟩), .agg #[.int .i64 (m1 b.mlo b.mhi x lb), .int .i64 (m1 b.mlo b.mhi x lb)], .pointer (some ⟨g, 4, none⟩), .agg #[.int .i64 (m2 b.mlo b.mhi x lb), .int .i64 (m2 b.mlo b.mhi x lb)], .pointer (some ⟨g, 6, none⟩), .pointer (some ⟨g, 6, none⟩), .int .i64 (m3 b.mlo b.mhi x lb), .agg #[.int .i64 (m3 b.mlo b.mhi x lb), .int .i64 (m3 b.mlo b.mhi x lb)], .agg (boxV (x3 (y3 b.mlo b.mhi x lb) (m3 b.mlo b.mhi x lb))), .int .i64 bal, .bool false] (by kernel_rfl) (by kernel_rfl) (by kernel_rfl) (by kernel_rfl) (by kernel_rfl) (by kernel_rfl) (by kernel_rfl) ⟨HB.out, HS.out, HX.out.box, HX.out, HR.out, hsn.drew⟩ ?_ ?_
                            · refine Vals.Steps.run (by kernel_rfl) ?_ ?_
                              · intro a W hSt pre old K hK
                                have e4 : a.tmps.getD 4 undef = .pointer (some ⟨w.heap.size, 0, none⟩) := old 4 _ (by kernel_rfl) rfl
                                clear pre old
                                simp only [Array.getD_eq_getD_getElem?] at e4
                                have hS9 := hSt
                                obtain ⟨⟨s0, s1, s2, s3, s4, s5⟩, ⟨d0, d1, d2⟩, ⟨k0, k1, k2, k3, k4, k5, k6, k7⟩, _, _, sn⟩ := hS9
                                go_simp
                                exact hK _ hSt
                              refine Vals.Steps.run (by kernel_rfl) ?_ ?_
                              · intro a W hSt pre old K hK
                                have e5 : a.tmps.getD 5 undef = .pointer (some ⟨w.heap.size + 1, 0, none⟩) := old 5 _ (by kernel_rfl) rfl
                                clear pre old
                                simp only [Array.getD_eq_getD_getElem?] at e5
                                have hS9 := hSt
                                obtain ⟨⟨s0, s1, s2, s3, s4, s5⟩, ⟨d0, d1, d2⟩, ⟨k0, k1, k2, k3, k4, k5, k6, k7⟩, _, _, sn⟩ := hS9
                                go_simp
                                exact hK _ hSt
                              refine Vals.Steps.run (by kernel_rfl) ?_ ?_
                              · intro a W hSt pre old K hK
                                have e12 : a.tmps.getD 12 undef = .pointer (some ⟨g, 0, none⟩) := old 12 _ (by kernel_rfl) rfl
                                clear pre old
                                simp only [Array.getD_eq_getD_getElem?] at e12
                                go_simp
                                exact hK _ hSt
                              refine Vals.Steps.run (by kernel_rfl) ?_ ?_
                              · intro a W hSt pre old K hK
                                have e113 : a.tmps.getD 113 undef = .pointer (some ⟨g, 0, none⟩) := pre 2 113 _ (by kernel_rfl) rfl rfl
                                clear pre old
                                simp only [Array.getD_eq_getD_getElem?] at e113
                                have hS9 := hSt
                                obtain ⟨⟨s0, s1, s2, s3, s4, s5⟩, ⟨d0, d1, d2⟩, ⟨k0, k1, k2, k3, k4, k5, k6, k7⟩, _, _, sn⟩ := hS9
                                go_simp
                                exact hK _ hSt
                              refine Vals.Steps.run (by kernel_rfl) ?_ ?_
                              · intro a W hSt pre old K hK
                                have e12 : a.tmps.getD 12 undef = .pointer (some ⟨g, 0, none⟩) := old 12 _ (by kernel_rfl) rfl
                                clear pre old
                                simp only [Array.getD_eq_getD_getElem?] at e12
                                go_simp
                                exact hK _ hSt
                              refine Vals.Steps.run (by kernel_rfl) ?_ ?_
                              · intro a W hSt pre old K hK
                                have e115 : a.tmps.getD 115 undef = .pointer (some ⟨g, 2, none⟩) := pre 4 115 _ (by kernel_rfl) rfl rfl
                                clear pre old
                                simp only [Array.getD_eq_getD_getElem?] at e115
                                have hS9 := hSt
                                obtain ⟨⟨s0, s1, s2, s3, s4, s5⟩, ⟨d0, d1, d2⟩, ⟨k0, k1, k2, k3, k4, k5, k6, k7⟩, _, _, sn⟩ := hS9
                                go_simp
                                exact hK _ hSt
                              refine Vals.Steps.run (by kernel_rfl) ?_ ?_
                              · intro a W hSt pre old K hK
                                have e12 : a.tmps.getD 12 undef = .pointer (some ⟨g, 0, none⟩) := old 12 _ (by kernel_rfl) rfl
                                clear pre old
                                simp only [Array.getD_eq_getD_getElem?] at e12
                                go_simp
                                exact hK _ hSt
                              refine Vals.Steps.run (by kernel_rfl) ?_ ?_
                              · intro a W hSt pre old K hK
                                have e117 : a.tmps.getD 117 undef = .pointer (some ⟨g, 4, none⟩) := pre 6 117 _ (by kernel_rfl) rfl rfl
                                clear pre old
                                simp only [Array.getD_eq_getD_getElem?] at e117
                                have hS9 := hSt
                                obtain ⟨⟨s0, s1, s2, s3, s4, s5⟩, ⟨d0, d1, d2⟩, ⟨k0, k1, k2, k3, k4, k5, k6, k7⟩, _, _, sn⟩ := hS9
                                go_simp
                                exact hK _ hSt
                              refine Vals.Steps.run (by kernel_rfl) ?_ ?_
                              · intro a W hSt pre old K hK
                                have e12 : a.tmps.getD 12 undef = .pointer (some ⟨g, 0, none⟩) := old 12 _ (by kernel_rfl) rfl
                                clear pre old
                                simp only [Array.getD_eq_getD_getElem?] at e12
                                go_simp
                                exact hK _ hSt
                              refine Vals.Steps.run (by kernel_rfl) ?_ ?_
                              · intro a W hSt pre old K hK
                                have e119 : a.tmps.getD 119 undef = .pointer (some ⟨g, 6, none⟩) := pre 8 119 _ (by kernel_rfl) rfl rfl
                                clear pre old
                                simp only [Array.getD_eq_getD_getElem?] at e119
                                go_simp
                                exact hK _ hSt
                              refine Vals.Steps.run (by kernel_rfl) ?_ ?_
                              · intro a W hSt pre old K hK
                                have e120 : a.tmps.getD 120 undef = .pointer (some ⟨g, 6, none⟩) := pre 9 120 _ (by kernel_rfl) rfl rfl
                                clear pre old
                                simp only [Array.getD_eq_getD_getElem?] at e120
                                have hS9 := hSt
                                obtain ⟨⟨s0, s1, s2, s3, s4, s5⟩, ⟨d0, d1, d2⟩, ⟨k0, k1, k2, k3, k4, k5, k6, k7⟩, _, _, sn⟩ := hS9
                                go_simp
                                exact hK _ hSt
                              refine Vals.Steps.run (by kernel_rfl) ?_ ?_
                              · intro a W hSt pre old K hK
                                have e121 : a.tmps.getD 121 undef = .int .i64 (m3 b.mlo b.mhi x lb) := pre 10 121 _ (by kernel_rfl) rfl rfl
                                clear pre old
                                simp only [Array.getD_eq_getD_getElem?] at e121
                                go_simp
                                obtain ⟨sB, sS, _, hb, hr, sn⟩ := hSt
                                refine (one_c (m3 b.mlo b.mhi x lb) _).mono ?_
                                rintro e w' ⟨rfl, hb'⟩
                                exact hK _ ⟨SB.keep sB hb', SS.keep sS hb', (hb.out.keep hb').box, hb.out.keep hb', hr.out.keep hb', sn.keep hb'⟩
                              refine Vals.Steps.run (by kernel_rfl) ?_ ?_
                              · intro a W hSt pre old K hK
                                have e114 : a.tmps.getD 114 undef = .agg #[.int .i64 (m0 b.mlo b.mhi x lb), .int .i64 (m0 b.mlo b.mhi x lb)] := pre 3 114 _ (by kernel_rfl) rfl rfl
                                have e116 : a.tmps.getD 116 undef = .agg #[.int .i64 (m1 b.mlo b.mhi x lb), .int .i64 (m1 b.mlo b.mhi x lb)] := pre 5 116 _ (by kernel_rfl) rfl rfl
                                have e118 : a.tmps.getD 118 undef = .agg #[.int .i64 (m2 b.mlo b.mhi x lb), .int .i64 (m2 b.mlo b.mhi x lb)] := pre 7 118 _ (by kernel_rfl) rfl rfl
                                have e122 : a.tmps.getD 122 undef = .agg #[.int .i64 (m3 b.mlo b.mhi x lb), .int .i64 (m3 b.mlo b.mhi x lb)] := pre 11 122 _ (by kernel_rfl) rfl rfl
                                clear pre old
                                simp only [Array.getD_eq_getD_getElem?] at e114 e116 e118 e122
                                go_simp
                                exact hK _ hSt
                              refine Vals.Steps.run (by kernel_rfl) ?_ ?_
                              · intro a W hSt pre old K hK
                                have e3 : a.tmps.getD 3 undef = .int .i64 bal := old 3 _ (by kernel_rfl) rfl
                                clear pre old
                                simp only [Array.getD_eq_getD_getElem?] at e3
                                go_simp
                                exact hK _ hSt
                              refine Vals.Steps.last (by kernel_rfl) ?_
                              · intro a W hSt pre old K hK
                                have e111 : a.tmps.getD 111 undef = .agg (bV b A c) := pre 0 111 _ (by kernel_rfl) rfl rfl
                                have e112 : a.tmps.getD 112 undef = .agg (sV s) := pre 1 112 _ (by kernel_rfl) rfl rfl
                                have e123 : a.tmps.getD 123 undef = .agg (boxV (x3 (y3 b.mlo b.mhi x lb) (m3 b.mlo b.mhi x lb))) := pre 12 123 _ (by kernel_rfl) rfl rfl
                                have e124 : a.tmps.getD 124 undef = .int .i64 bal := pre 13 124 _ (by kernel_rfl) rfl rfl
                                clear pre old
                                simp only [Array.getD_eq_getD_getElem?] at e111 e112 e123 e124
                                go_simp
                                obtain ⟨sB, sS, _, hb, hr, sn⟩ := hSt
                                refine (rwithin2_c b A c s (x3 (y3 b.mlo b.mhi x lb) (m3 b.mlo b.mhi x lb)) bal _ HO.out hS.k0 hS.k1 r2 (by omega)).mono ?_
                                rintro e w' ⟨rfl, hb'⟩
                                rw [HLB.out, HDK.out]
                                exact hK _ ⟨SB.keep sB hb', SS.keep sS hb', (hb.out.keep hb').box, hb.out.keep hb', hr.out.keep hb', sn.keep hb'⟩
                            · rintro W ⟨sB, sS, _, hb, hr, sn⟩
                              simp only [Vals.putAll, List.setIfInBounds_toArray, List.set_cons_zero, List.set_cons_succ]
                              have HB2 := Lib.hid sB
                              have HS2 := Lib.hid sS
                              clear sB sS HB HS HX HR hsn
                              obtain ⟨k0, k1, k2, k3, k4, k5, k6, k7⟩ := hb.out.box
                              have HR3 := Lib.hid (hr.out.alloc (.cells (trV (m0 b.mlo b.mhi x lb) (m1 b.mlo b.mhi x lb) (m2 b.mlo b.mhi x lb) (m3 b.mlo b.mhi x lb)) 45))
                              have HT3 := Lib.hid (Blk.new W 45 (trV (m0 b.mlo b.mhi x lb) (m1 b.mlo b.mhi x lb) (m2 b.mlo b.mhi x lb) (m3 b.mlo b.mhi x lb)))
                              have HB3 := Lib.hid (SB.alloc HB2.out (.cells (trV (m0 b.mlo b.mhi x lb) (m1 b.mlo b.mhi x lb) (m2 b.mlo b.mhi x lb) (m3 b.mlo b.mhi x lb)) 45))
                              have HS3 := Lib.hid (SS.alloc HS2.out (.cells (trV (m0 b.mlo b.mhi x lb) (m1 b.mlo b.mhi x lb) (m2 b.mlo b.mhi x lb) (m3 b.mlo b.mhi x lb)) 45))
                              have sn3 := sn.alloc (.cells (trV (m0 b.mlo b.mhi x lb) (m1 b.mlo b.mhi x lb) (m2 b.mlo b.mhi x lb) (m3 b.mlo b.mhi x lb)) 45)
                              have hgz := hr.out.lt
                              have HTr : Hid (TrOk (m0 b.mlo b.mhi x lb) (m1 b.mlo b.mhi x lb) (m2 b.mlo b.mhi x lb) (m3 b.mlo b.mhi x lb)) := inn_tr HOK.out HIN.out
                              go_wp2_with fail
                              clear k0 k1 k2 k3 k4 k5 k6 k7
                              obtain ⟨gt, hgt⟩ : ∃ gt, W.heap.size = gt := ⟨_, rfl⟩
                              obtain ⟨W3, hW3⟩ : ∃ W3, W.alloc (.cells (trV (m0 b.mlo b.mhi x lb) (m1 b.mlo b.mhi x lb) (m2 b.mlo b.mhi x lb) (m3 b.mlo b.mhi x lb)) 45) = W3 := ⟨_, rfl⟩
                              rw [hW3] at HR3 HT3 HB3 HS3 sn3 ⊢
                              rw [hgt] at HT3 hgz ⊢
                              clear hW3 hgt
                              have HAt : Hid (∀ W : World, Calls Try.prog 68 #[.agg (sV s), .agg (trV (m0 b.mlo b.mhi x lb) (m1 b.mlo b.mhi x lb) (m2 b.mlo b.mhi x lb) (m3 b.mlo b.mhi x lb)), .int .i64 bal, .int .i64 0] W fun e w' => e = .returned (.int .i64 (mAt b.mlo b.mhi x lb)) ∧ Below W.heap.size W w') := fun W => by
                                have h := at_c s (m0 b.mlo b.mhi x lb) (m1 b.mlo b.mhi x lb) (m2 b.mlo b.mhi x lb) (m3 b.mlo b.mhi x lb) bal 0 W HTr.out hS.k0 hS.k1 r2 (by omega) (by omega) (by omega)
                                rw [show -s.sink * bal + 0 = lb by rw [Int.add_zero]; exact HLB.out] at h
                                exact h
                              refine Vals2.region (fun tb X => SS (w.heap.size + 1) s X ∧ C4 gt (m0 b.mlo b.mhi x lb) (m1 b.mlo b.mhi x lb) (m2 b.mlo b.mhi x lb) (m3 b.mlo b.mhi x lb) X ∧ Hid (∃ z : Array Value, z.size = 4 ∧ Blk X (w.heap.size + 1 + 1) 45 z ∧ (tb = true → z = (trV (m0 b.mlo b.mhi x lb) (m1 b.mlo b.mhi x lb) (m2 b.mlo b.mhi x lb) (m3 b.mlo b.mhi x lb)))) ∧ Since w X) 5 [some 145, some 146, some 147, some 148, some 149, none, some 9, some 10] [.agg (trV (m0 b.mlo b.mhi x lb) (m1 b.mlo b.mhi x lb) (m2 b.mlo b.mhi x lb) (m3 b.mlo b.mhi x lb)), .agg (sV s), .agg (trV (m0 b.mlo b.mhi x lb) (m1 b.mlo b.mhi x lb) (m2 b.mlo b.mhi x lb) (m3 b.mlo b.mhi x lb)), .int .i64 bal, .int .i64 (mAt b.mlo b.mhi x lb), undef, .int .i64 (mAt b.mlo b.mhi x lb), .int .i64 0] (by kernel_rfl) (by kernel_rfl) (by kernel_rfl) (by kernel_rfl) (by kernel_rfl) (by kernel_rfl) (by kernel_rfl) ⟨HS3.out, HT3.out.tr, ⟨_, rfl, HR3.out, fun h => by cases h⟩, sn3.drew⟩ ?_ ?_
                              · refine Vals2.Steps.run (by decide) (by kernel_rfl) (fun tb => ?_) ?_
                                · intro a W hSt pre old K hK
                                  have e13 : a.tmps.getD 13 undef = .pointer (some ⟨gt, 0, none⟩) := old 13 _ (by kernel_rfl) rfl
                                  clear pre old
                                  simp only [Array.getD_eq_getD_getElem?] at e13
                                  have hS9 := hSt
                                  obtain ⟨⟨d0, d1, d2⟩, ⟨t0, t1, t2, t3⟩, hr, sn⟩ := hS9
                                  go_simp
                                  exact hK _ hSt
                                refine Vals2.Steps.run (by decide) (by kernel_rfl) (fun tb => ?_) ?_
                                · intro a W hSt pre old K hK
                                  have e5 : a.tmps.getD 5 undef = .pointer (some ⟨w.heap.size + 1, 0, none⟩) := old 5 _ (by kernel_rfl) rfl
                                  clear pre old
                                  simp only [Array.getD_eq_getD_getElem?] at e5
                                  have hS9 := hSt
                                  obtain ⟨⟨d0, d1, d2⟩, ⟨t0, t1, t2, t3⟩, hr, sn⟩ := hS9
                                  go_simp
                                  exact hK _ hSt
                                refine Vals2.Steps.run (by decide) (by kernel_rfl) (fun tb => ?_) ?_
                                · intro a W hSt pre old K hK
                                  have e13 : a.tmps.getD 13 undef = .pointer (some ⟨gt, 0, none⟩) := old 13 _ (by kernel_rfl) rfl
                                  clear pre old
                                  simp only [Array.getD_eq_getD_getElem?] at e13
                                  have hS9 := hSt
                                  obtain ⟨⟨d0, d1, d2⟩, ⟨t0, t1, t2, t3⟩, hr, sn⟩ := hS9
                                  go_simp
                                  exact hK _ hSt
                                refine Vals2.Steps.run (by decide) (by kernel_rfl) (fun tb => ?_) ?_
                                · intro a W hSt pre old K hK
                                  have e3 : a.tmps.getD 3 undef = .int .i64 bal := old 3 _ (by kernel_rfl) rfl
                                  clear pre old
                                  simp only [Array.getD_eq_getD_getElem?] at e3
                                  go_simp
                                  exact hK _ hSt
                                refine Vals2.Steps.run (by decide) (by kernel_rfl) (fun tb => ?_) ?_
                                · intro a W hSt pre old K hK
                                  have e146 : a.tmps.getD 146 undef = .agg (sV s) := pre 1 146 _ (by kernel_rfl) rfl rfl
                                  have e147 : a.tmps.getD 147 undef = .agg (trV (m0 b.mlo b.mhi x lb) (m1 b.mlo b.mhi x lb) (m2 b.mlo b.mhi x lb) (m3 b.mlo b.mhi x lb)) := pre 2 147 _ (by kernel_rfl) rfl rfl
                                  have e148 : a.tmps.getD 148 undef = .int .i64 bal := pre 3 148 _ (by kernel_rfl) rfl rfl
                                  clear pre old
                                  simp only [Array.getD_eq_getD_getElem?] at e146 e147 e148
                                  go_simp
                                  obtain ⟨sS, hT4, ⟨z, hz, hr, hzt⟩, sn⟩ := hSt
                                  refine (HAt.out _).mono ?_
                                  rintro e w' ⟨rfl, hb'⟩
                                  exact hK _ ⟨SS.keep sS hb', hT4.keep hb', ⟨z, hz, hr.keep hb', hzt⟩, sn.keep hb'⟩
                                refine Vals2.Steps.turn (by kernel_rfl) ?_ ?_
                                · intro a W hSt pre old K hK
                                  have e8 : a.tmps.getD 8 undef = .pointer (some ⟨w.heap.size + 1 + 1, 0, none⟩) := old 8 _ (by kernel_rfl) rfl
                                  have e145 : a.tmps.getD 145 undef = .agg (trV (m0 b.mlo b.mhi x lb) (m1 b.mlo b.mhi x lb) (m2 b.mlo b.mhi x lb) (m3 b.mlo b.mhi x lb)) := pre 0 145 _ (by kernel_rfl) rfl rfl
                                  clear pre old
                                  simp only [Array.getD_eq_getD_getElem?] at e8 e145
                                  obtain ⟨sS, hT4, ⟨z, hz, hr, hzt⟩, sn⟩ := hSt
                                  refine wp_store_row 45 (.tmp 8) (.tmp 145) rfl (w.heap.size + 1 + 1) (trV (m0 b.mlo b.mhi x lb) (m1 b.mlo b.mhi x lb) (m2 b.mlo b.mhi x lb) (m3 b.mlo b.mhi x lb)) ?_ ?_ 45 z hr (by kernel_rfl) hz (by simp [Value.oneCell']) ?_
                                  · simp only [Act.eval, Array.getD_eq_getD_getElem?]; exact e8
                                  · simp only [Act.eval, Array.getD_eq_getD_getElem?]; exact e145
                                  exact hK _ ⟨SS.row sS (by omega) _, C4.row hT4 (by omega) _, ⟨_, rfl, hr.row _, fun _ => rfl⟩, sn.row (by omega) _⟩
                                refine Vals2.Steps.run (by decide) (by kernel_rfl) (fun tb => ?_) ?_
                                · intro a W hSt pre old K hK
                                  have e149 : a.tmps.getD 149 undef = .int .i64 (mAt b.mlo b.mhi x lb) := pre 4 149 _ (by kernel_rfl) rfl rfl
                                  clear pre old
                                  simp only [Array.getD_eq_getD_getElem?] at e149
                                  go_simp
                                  exact hK _ hSt
                                refine Vals2.Steps.run (by decide) (by kernel_rfl) (fun tb => ?_) ?_
                                · intro a W hSt pre old K hK
                                  clear pre old
                                  go_simp
                                  exact hK _ hSt
                                exact Vals2.Steps.nil
                              · rintro X ⟨sS, hT4, ⟨z, hz, hr, hzt⟩, sn⟩
                                obtain rfl := hzt rfl
                                simp only [Vals.putAll, List.setIfInBounds_toArray, List.set_cons_zero, List.set_cons_succ]
                                go_wp2_with fail
                                refine bodyPost_ret (results_cell_tmp2 Try.results29 _ _ (w.heap.size + 1 + 1) 45 _ (0, 0) _ rfl hr Try.underlying45 rfl (by kernel_rfl)) rfl ⟨?_, sn.1⟩
                                rw [HE.out]; rfl
                          | succ gg =>
                            have hlt : k < (m3 b.mlo b.mhi x lb) := by omega
                            have HDK : Hid (sur b.mlo b.mhi (x3 (y3 b.mlo b.mhi x lb) k) lb = true) := HM.out.d4 k hk0 hlt
                            go_wp2_with fail
                            refine Vals.region (fun X => SB (w.heap.size) b A c X ∧ SS (w.heap.size + 1) s X ∧ (X.cell? ⟨g, 0, none⟩ = some (.int .i64 (m0 b.mlo b.mhi x lb)) ∧ X.cell? ⟨g, 1, none⟩ = some (.int .i64 (m0 b.mlo b.mhi x lb)) ∧ X.cell? ⟨g, 2, none⟩ = some (.int .i64 (m1 b.mlo b.mhi x lb)) ∧ X.cell? ⟨g, 3, none⟩ = some (.int .i64 (m1 b.mlo b.mhi x lb)) ∧ X.cell? ⟨g, 4, none⟩ = some (.int .i64 (m2 b.mlo b.mhi x lb)) ∧ X.cell? ⟨g, 5, none⟩ = some (.int .i64 (m2 b.mlo b.mhi x lb)) ∧ X.cell? ⟨g, 6, none⟩ = some (.int .i64 k) ∧ X.cell? ⟨g, 7, none⟩ = some (.int .i64 x.whi)) ∧ Hid (Blk X g 107 (boxV (⟨(m0 b.mlo b.mhi x lb), (m0 b.mlo b.mhi x lb), (m1 b.mlo b.mhi x lb), (m1 b.mlo b.mhi x lb), (m2 b.mlo b.mhi x lb), (m2 b.mlo b.mhi x lb), k, x.whi⟩ : Box))) ∧ Hid (Blk X (w.heap.size + 1 + 1) 45 (trV 0 0 0 0)) ∧ Since w X) (fun X => SB (w.heap.size) b A c X ∧ SS (w.heap.size + 1) s X ∧ (X.cell? ⟨g, 0, none⟩ = some (.int .i64 (m0 b.mlo b.mhi x lb)) ∧ X.cell? ⟨g, 1, none⟩ = some (.int .i64 (m0 b.mlo b.mhi x lb)) ∧ X.cell? ⟨g, 2, none⟩ = some (.int .i64 (m1 b.mlo b.mhi x lb)) ∧ X.cell? ⟨g, 3, none⟩ = some (.int .i64 (m1 b.mlo b.mhi x lb)) ∧ X.cell? ⟨g, 4, none⟩ = some (.int .i64 (m2 b.mlo b.mhi x lb)) ∧ X.cell? ⟨g, 5, none⟩ = some (.int .i64 (m2 b.mlo b.mhi x lb)) ∧ X.cell? ⟨g, 6, none⟩ = some (.int .i64 k) ∧ X.cell? ⟨g, 7, none⟩ = some (.int .i64 x.whi)) ∧ Hid (Blk X g 107 (boxV (⟨(m0 b.mlo b.mhi x lb), (m0 b.mlo b.mhi x lb), (m1 b.mlo b.mhi x lb), (m1 b.mlo b.mhi x lb), (m2 b.mlo b.mhi x lb), (m2 b.mlo b.mhi x lb), k, x.whi⟩ : Box))) ∧ Hid (Blk X (w.heap.size + 1 + 1) 45 (trV 0 0 0 0)) ∧ Since w X) [some 111, some 112, some 113, some 114, some 115, some 116, some 117, some 118, some 119, some 120, some 121, some 122, some 123, some 124, some 125] [.agg (bV b A c), .agg (sV s), .pointer (some ⟨g, 0, none⟩), .agg #[.int .i64 (m0 b.mlo b.mhi x lb), .int .i64 (m0 b.mlo b.mhi x lb)], .pointer (some ⟨g, 2, none⟩), .agg #[.int .i64 (m1 b.mlo b.mhi x lb), .int .i64 (m1 b.mlo b.mhi x lb)], .pointer (some ⟨g, 4, none⟩), .agg #[.int .i64 (m2 b.mlo b.mhi x lb), .int .i64 (m2 b.mlo b.mhi x lb)], .pointer (some ⟨g, 6, none⟩), .pointer (some ⟨g, 6, none⟩), .int .i64 k, .agg #[.int .i64 k, .int .i64 k], .agg (boxV (x3 (y3 b.mlo b.mhi x lb) k)), .int .i64 bal, .bool true] (by kernel_rfl) (by kernel_rfl) (by kernel_rfl) (by kernel_rfl) (by kernel_rfl) (by kernel_rfl) (by kernel_rfl) ⟨HB.out, HS.out, HX.out.box, HX.out, HR.out, hsn.drew⟩ ?_ ?_
                            · refine Vals.Steps.run (by kernel_rfl) ?_ ?_
                              · intro a W hSt pre old K hK
                                have e4 : a.tmps.getD 4 undef = .pointer (some ⟨w.heap.size, 0, none⟩) := old 4 _ (by kernel_rfl) rfl
                                clear pre old
                                simp only [Array.getD_eq_getD_getElem?] at e4
                                have hS9 := hSt
                                obtain ⟨⟨s0, s1, s2, s3, s4, s5⟩, ⟨d0, d1, d2⟩, ⟨k0, k1, k2, k3, k4, k5, k6, k7⟩, _, _, sn⟩ := hS9
                                go_simp
                                exact hK _ hSt
                              refine Vals.Steps.run (by kernel_rfl) ?_ ?_
                              · intro a W hSt pre old K hK
                                have e5 : a.tmps.getD 5 undef = .pointer (some ⟨w.heap.size + 1, 0, none⟩) := old 5 _ (by kernel_rfl) rfl
                                clear pre old
                                simp only [Array.getD_eq_getD_getElem?] at e5
                                have hS9 := hSt
                                obtain ⟨⟨s0, s1, s2, s3, s4, s5⟩, ⟨d0, d1, d2⟩, ⟨k0, k1, k2, k3, k4, k5, k6, k7⟩, _, _, sn⟩ := hS9
                                go_simp
                                exact hK _ hSt
                              refine Vals.Steps.run (by kernel_rfl) ?_ ?_
                              · intro a W hSt pre old K hK
                                have e12 : a.tmps.getD 12 undef = .pointer (some ⟨g, 0, none⟩) := old 12 _ (by kernel_rfl) rfl
                                clear pre old
                                simp only [Array.getD_eq_getD_getElem?] at e12
                                go_simp
                                exact hK _ hSt
                              refine Vals.Steps.run (by kernel_rfl) ?_ ?_
                              · intro a W hSt pre old K hK
                                have e113 : a.tmps.getD 113 undef = .pointer (some ⟨g, 0, none⟩) := pre 2 113 _ (by kernel_rfl) rfl rfl
                                clear pre old
                                simp only [Array.getD_eq_getD_getElem?] at e113
                                have hS9 := hSt
                                obtain ⟨⟨s0, s1, s2, s3, s4, s5⟩, ⟨d0, d1, d2⟩, ⟨k0, k1, k2, k3, k4, k5, k6, k7⟩, _, _, sn⟩ := hS9
                                go_simp
                                exact hK _ hSt
                              refine Vals.Steps.run (by kernel_rfl) ?_ ?_
                              · intro a W hSt pre old K hK
                                have e12 : a.tmps.getD 12 undef = .pointer (some ⟨g, 0, none⟩) := old 12 _ (by kernel_rfl) rfl
                                clear pre old
                                simp only [Array.getD_eq_getD_getElem?] at e12
                                go_simp
                                exact hK _ hSt
                              refine Vals.Steps.run (by kernel_rfl) ?_ ?_
                              · intro a W hSt pre old K hK
                                have e115 : a.tmps.getD 115 undef = .pointer (some ⟨g, 2, none⟩) := pre 4 115 _ (by kernel_rfl) rfl rfl
                                clear pre old
                                simp only [Array.getD_eq_getD_getElem?] at e115
                                have hS9 := hSt
                                obtain ⟨⟨s0, s1, s2, s3, s4, s5⟩, ⟨d0, d1, d2⟩, ⟨k0, k1, k2, k3, k4, k5, k6, k7⟩, _, _, sn⟩ := hS9
                                go_simp
                                exact hK _ hSt
                              refine Vals.Steps.run (by kernel_rfl) ?_ ?_
                              · intro a W hSt pre old K hK
                                have e12 : a.tmps.getD 12 undef = .pointer (some ⟨g, 0, none⟩) := old 12 _ (by kernel_rfl) rfl
                                clear pre old
                                simp only [Array.getD_eq_getD_getElem?] at e12
                                go_simp
                                exact hK _ hSt
                              refine Vals.Steps.run (by kernel_rfl) ?_ ?_
                              · intro a W hSt pre old K hK
                                have e117 : a.tmps.getD 117 undef = .pointer (some ⟨g, 4, none⟩) := pre 6 117 _ (by kernel_rfl) rfl rfl
                                clear pre old
                                simp only [Array.getD_eq_getD_getElem?] at e117
                                have hS9 := hSt
                                obtain ⟨⟨s0, s1, s2, s3, s4, s5⟩, ⟨d0, d1, d2⟩, ⟨k0, k1, k2, k3, k4, k5, k6, k7⟩, _, _, sn⟩ := hS9
                                go_simp
                                exact hK _ hSt
                              refine Vals.Steps.run (by kernel_rfl) ?_ ?_
                              · intro a W hSt pre old K hK
                                have e12 : a.tmps.getD 12 undef = .pointer (some ⟨g, 0, none⟩) := old 12 _ (by kernel_rfl) rfl
                                clear pre old
                                simp only [Array.getD_eq_getD_getElem?] at e12
                                go_simp
                                exact hK _ hSt
                              refine Vals.Steps.run (by kernel_rfl) ?_ ?_
                              · intro a W hSt pre old K hK
                                have e119 : a.tmps.getD 119 undef = .pointer (some ⟨g, 6, none⟩) := pre 8 119 _ (by kernel_rfl) rfl rfl
                                clear pre old
                                simp only [Array.getD_eq_getD_getElem?] at e119
                                go_simp
                                exact hK _ hSt
                              refine Vals.Steps.run (by kernel_rfl) ?_ ?_
                              · intro a W hSt pre old K hK
                                have e120 : a.tmps.getD 120 undef = .pointer (some ⟨g, 6, none⟩) := pre 9 120 _ (by kernel_rfl) rfl rfl
                                clear pre old
                                simp only [Array.getD_eq_getD_getElem?] at e120
                                have hS9 := hSt
                                obtain ⟨⟨s0, s1, s2, s3, s4, s5⟩, ⟨d0, d1, d2⟩, ⟨k0, k1, k2, k3, k4, k5, k6, k7⟩, _, _, sn⟩ := hS9
                                go_simp
                                exact hK _ hSt
                              refine Vals.Steps.run (by kernel_rfl) ?_ ?_
                              · intro a W hSt pre old K hK
                                have e121 : a.tmps.getD 121 undef = .int .i64 k := pre 10 121 _ (by kernel_rfl) rfl rfl
                                clear pre old
                                simp only [Array.getD_eq_getD_getElem?] at e121
                                go_simp
                                obtain ⟨sB, sS, _, hb, hr, sn⟩ := hSt
                                refine (one_c k _).mono ?_
                                rintro e w' ⟨rfl, hb'⟩
                                exact hK _ ⟨SB.keep sB hb', SS.keep sS hb', (hb.out.keep hb').box, hb.out.keep hb', hr.out.keep hb', sn.keep hb'⟩
                              refine Vals.Steps.run (by kernel_rfl) ?_ ?_
                              · intro a W hSt pre old K hK
                                have e114 : a.tmps.getD 114 undef = .agg #[.int .i64 (m0 b.mlo b.mhi x lb), .int .i64 (m0 b.mlo b.mhi x lb)] := pre 3 114 _ (by kernel_rfl) rfl rfl
                                have e116 : a.tmps.getD 116 undef = .agg #[.int .i64 (m1 b.mlo b.mhi x lb), .int .i64 (m1 b.mlo b.mhi x lb)] := pre 5 116 _ (by kernel_rfl) rfl rfl
                                have e118 : a.tmps.getD 118 undef = .agg #[.int .i64 (m2 b.mlo b.mhi x lb), .int .i64 (m2 b.mlo b.mhi x lb)] := pre 7 118 _ (by kernel_rfl) rfl rfl
                                have e122 : a.tmps.getD 122 undef = .agg #[.int .i64 k, .int .i64 k] := pre 11 122 _ (by kernel_rfl) rfl rfl
                                clear pre old
                                simp only [Array.getD_eq_getD_getElem?] at e114 e116 e118 e122
                                go_simp
                                exact hK _ hSt
                              refine Vals.Steps.run (by kernel_rfl) ?_ ?_
                              · intro a W hSt pre old K hK
                                have e3 : a.tmps.getD 3 undef = .int .i64 bal := old 3 _ (by kernel_rfl) rfl
                                clear pre old
                                simp only [Array.getD_eq_getD_getElem?] at e3
                                go_simp
                                exact hK _ hSt
                              refine Vals.Steps.last (by kernel_rfl) ?_
                              · intro a W hSt pre old K hK
                                have e111 : a.tmps.getD 111 undef = .agg (bV b A c) := pre 0 111 _ (by kernel_rfl) rfl rfl
                                have e112 : a.tmps.getD 112 undef = .agg (sV s) := pre 1 112 _ (by kernel_rfl) rfl rfl
                                have e123 : a.tmps.getD 123 undef = .agg (boxV (x3 (y3 b.mlo b.mhi x lb) k)) := pre 12 123 _ (by kernel_rfl) rfl rfl
                                have e124 : a.tmps.getD 124 undef = .int .i64 bal := pre 13 124 _ (by kernel_rfl) rfl rfl
                                clear pre old
                                simp only [Array.getD_eq_getD_getElem?] at e111 e112 e123 e124
                                go_simp
                                obtain ⟨sB, sS, _, hb, hr, sn⟩ := hSt
                                refine (rwithin2_c b A c s (x3 (y3 b.mlo b.mhi x lb) k) bal _ HO.out hS.k0 hS.k1 r2 (by omega)).mono ?_
                                rintro e w' ⟨rfl, hb'⟩
                                rw [HLB.out, HDK.out]
                                exact hK _ ⟨SB.keep sB hb', SS.keep sS hb', (hb.out.keep hb').box, hb.out.keep hb', hr.out.keep hb', sn.keep hb'⟩
                            · rintro W ⟨sB, sS, _, hb, hr, sn⟩
                              simp only [Vals.putAll, List.setIfInBounds_toArray, List.set_cons_zero, List.set_cons_succ]
                              have HB2 := Lib.hid sB
                              have HS2 := Lib.hid sS
                              clear sB sS HB HS HX HR hsn
                              have e0 := hb.out.cell 6
                              have f0 := hb.out.frozen 6
                              simp only [List.getElem?_toArray, List.getElem?_cons_zero, List.getElem?_cons_succ] at e0
                              have hkb : -100000 ≤ k ∧ k ≤ 100000 := by
                                have h1 := HM.out.d1
                                obtain ⟨_, _, _, _, _, _, _, _, _, _, _, _⟩ := HOK.out
                                omega
                              obtain ⟨hkb0, hkb1⟩ := hkb
                              have HX : Hid (Blk (W.setCell ⟨g, 6, none⟩ (.int .i64 (k + 1))) g 107 (boxV (⟨(m0 b.mlo b.mhi x lb), (m0 b.mlo b.mhi x lb), (m1 b.mlo b.mhi x lb), (m1 b.mlo b.mhi x lb), (m2 b.mlo b.mhi x lb), (m2 b.mlo b.mhi x lb), (k + 1), x.whi⟩ : Box))) := hb.out.set 6 _
                              have HR := Lib.hid (hr.out.far (g' := g) (by omega) 6 (.int .i64 (k + 1)))
                              have HB : Hid (SB (w.heap.size) b A c (W.setCell ⟨g, 6, none⟩ (.int .i64 (k + 1)))) := SB.far HB2.out (by omega) _ _
                              have HS : Hid (SS (w.heap.size + 1) s (W.setCell ⟨g, 6, none⟩ (.int .i64 (k + 1)))) := SS.far HS2.out (by omega) _ _
                              have hsn : Since w (W.setCell ⟨g, 6, none⟩ (.int .i64 (k + 1))) := ⟨sn.1.setCell (p := ⟨g, 6, none⟩) (show w.heap.size ≤ g by omega) _, by simpa using sn.2⟩
                              go_wp2_with fail
                              go_roundg gg
                              case measure => omega
                              case rel => exact ⟨k + 1, by omega, by omega, hsn, HB, HS, HX, HR⟩
                    | succ gg =>
                      have hlt : k < (m2 b.mlo b.mhi x lb) := by omega
                      have HDK : Hid (sur b.mlo b.mhi (x2 (y2 b.mlo b.mhi x lb) k) lb = true) := HM.out.c4 k hk0 hlt
                      go_wp2_with fail
                      refine Vals.region (fun X => SB (w.heap.size) b A c X ∧ SS (w.heap.size + 1) s X ∧ (X.cell? ⟨g, 0, none⟩ = some (.int .i64 (m0 b.mlo b.mhi x lb)) ∧ X.cell? ⟨g, 1, none⟩ = some (.int .i64 (m0 b.mlo b.mhi x lb)) ∧ X.cell? ⟨g, 2, none⟩ = some (.int .i64 (m1 b.mlo b.mhi x lb)) ∧ X.cell? ⟨g, 3, none⟩ = some (.int .i64 (m1 b.mlo b.mhi x lb)) ∧ X.cell? ⟨g, 4, none⟩ = some (.int .i64 k) ∧ X.cell? ⟨g, 5, none⟩ = some (.int .i64 x.hhi) ∧ X.cell? ⟨g, 6, none⟩ = some (.int .i64 x.wlo) ∧ X.cell? ⟨g, 7, none⟩ = some (.int .i64 x.whi)) ∧ Hid (Blk X g 107 (boxV (⟨(m0 b.mlo b.mhi x lb), (m0 b.mlo b.mhi x lb), (m1 b.mlo b.mhi x lb), (m1 b.mlo b.mhi x lb), k, x.hhi, x.wlo, x.whi⟩ : Box))) ∧ Hid (Blk X (w.heap.size + 1 + 1) 45 (trV 0 0 0 0)) ∧ Since w X) (fun X => SB (w.heap.size) b A c X ∧ SS (w.heap.size + 1) s X ∧ (X.cell? ⟨g, 0, none⟩ = some (.int .i64 (m0 b.mlo b.mhi x lb)) ∧ X.cell? ⟨g, 1, none⟩ = some (.int .i64 (m0 b.mlo b.mhi x lb)) ∧ X.cell? ⟨g, 2, none⟩ = some (.int .i64 (m1 b.mlo b.mhi x lb)) ∧ X.cell? ⟨g, 3, none⟩ = some (.int .i64 (m1 b.mlo b.mhi x lb)) ∧ X.cell? ⟨g, 4, none⟩ = some (.int .i64 k) ∧ X.cell? ⟨g, 5, none⟩ = some (.int .i64 x.hhi) ∧ X.cell? ⟨g, 6, none⟩ = some (.int .i64 x.wlo) ∧ X.cell? ⟨g, 7, none⟩ = some (.int .i64 x.whi)) ∧ Hid (Blk X g 107 (boxV (⟨(m0 b.mlo b.mhi x lb), (m0 b.mlo b.mhi x lb), (m1 b.mlo b.mhi x lb), (m1 b.mlo b.mhi x lb), k, x.hhi, x.wlo, x.whi⟩ : Box))) ∧ Hid (Blk X (w.heap.size + 1 + 1) 45 (trV 0 0 0 0)) ∧ Since w X) [some 85, some 86, some 87, some 88, some 89, some 90, some 91, some 92, some 93, some 94, some 95, some 96, some 97, some 98, some 99] [.agg (bV b A c), .agg (sV s), .pointer (some ⟨g, 0, none⟩), .agg #[.int .i64 (m0 b.mlo b.mhi x lb), .int .i64 (m0 b.mlo b.mhi x lb)], .pointer (some ⟨g, 2, none⟩), .agg #[.int .i64 (m1 b.mlo b.mhi x lb), .int .i64 (m1 b.mlo b.mhi x lb)], .pointer (some ⟨g, 4, none⟩), .pointer (some ⟨g, 4, none⟩), .int .i64 k, .agg #[.int .i64 k, .int .i64 k], .pointer (some ⟨g, 6, none⟩), .agg #[.int .i64 x.wlo, .int .i64 x.whi], .agg (boxV (x2 (y2 b.mlo b.mhi x lb) k)), .int .i64 bal, .bool true] (by kernel_rfl) (by kernel_rfl) (by kernel_rfl) (by kernel_rfl) (by kernel_rfl) (by kernel_rfl) (by kernel_rfl) ⟨HB.out, HS.out, HX.out.box, HX.out, HR.out, hsn.drew⟩ ?_ ?_
                      · refine Vals.Steps.run (by kernel_rfl) ?_ ?_
                        · intro a W hSt pre old K hK
                          have e4 : a.tmps.getD 4 undef = .pointer (some ⟨w.heap.size, 0, none⟩) := old 4 _ (by kernel_rfl) rfl
                          clear pre old
                          simp only [Array.getD_eq_getD_getElem?] at e4
                          have hS9 := hSt
                          obtain ⟨⟨s0, s1, s2, s3, s4, s5⟩, ⟨d0, d1, d2⟩, ⟨k0, k1, k2, k3, k4, k5, k6, k7⟩, _, _, sn⟩ := hS9
                          go_simp
                          exact hK _ hSt
                        refine Vals.Steps.run (by kernel_rfl) ?_ ?_
                        · intro a W hSt pre old K hK
                          have e5 : a.tmps.getD 5 undef = .pointer (some ⟨w.heap.size + 1, 0, none⟩) := old 5 _ (by kernel_rfl) rfl
                          clear pre old
                          simp only [Array.getD_eq_getD_getElem?] at e5
                          have hS9 := hSt
                          obtain ⟨⟨s0, s1, s2, s3, s4, s5⟩, ⟨d0, d1, d2⟩, ⟨k0, k1, k2, k3, k4, k5, k6, k7⟩, _, _, sn⟩ := hS9
                          go_simp
                          exact hK _ hSt
                        refine Vals.Steps.run (by kernel_rfl) ?_ ?_
                        · intro a W hSt pre old K hK
                          have e12 : a.tmps.getD 12 undef = .pointer (some ⟨g, 0, none⟩) := old 12 _ (by kernel_rfl) rfl
                          clear pre old
                          simp only [Array.getD_eq_getD_getElem?] at e12
                          go_simp
                          exact hK _ hSt
                        refine Vals.Steps.run (by kernel_rfl) ?_ ?_
                        · intro a W hSt pre old K hK
                          have e87 : a.tmps.getD 87 undef = .pointer (some ⟨g, 0, none⟩) := pre 2 87 _ (by kernel_rfl) rfl rfl
                          clear pre old
                          simp only [Array.getD_eq_getD_getElem?] at e87
                          have hS9 := hSt
                          obtain ⟨⟨s0, s1, s2, s3, s4, s5⟩, ⟨d0, d1, d2⟩, ⟨k0, k1, k2, k3, k4, k5, k6, k7⟩, _, _, sn⟩ := hS9
                          go_simp
                          exact hK _ hSt
                        refine Vals.Steps.run (by kernel_rfl) ?_ ?_
                        · intro a W hSt pre old K hK
                          have e12 : a.tmps.getD 12 undef = .pointer (some ⟨g, 0, none⟩) := old 12 _ (by kernel_rfl) rfl
                          clear pre old
                          simp only [Array.getD_eq_getD_getElem?] at e12
                          go_simp
                          exact hK _ hSt
                        refine Vals.Steps.run (by kernel_rfl) ?_ ?_
                        · intro a W hSt pre old K hK
                          have e89 : a.tmps.getD 89 undef = .pointer (some ⟨g, 2, none⟩) := pre 4 89 _ (by kernel_rfl) rfl rfl
                          clear pre old
                          simp only [Array.getD_eq_getD_getElem?] at e89
                          have hS9 := hSt
                          obtain ⟨⟨s0, s1, s2, s3, s4, s5⟩, ⟨d0, d1, d2⟩, ⟨k0, k1, k2, k3, k4, k5, k6, k7⟩, _, _, sn⟩ := hS9
                          go_simp
                          exact hK _ hSt
                        refine Vals.Steps.run (by kernel_rfl) ?_ ?_
                        · intro a W hSt pre old K hK
                          have e12 : a.tmps.getD 12 undef = .pointer (some ⟨g, 0, none⟩) := old 12 _ (by kernel_rfl) rfl
                          clear pre old
                          simp only [Array.getD_eq_getD_getElem?] at e12
                          go_simp
                          exact hK _ hSt
                        refine Vals.Steps.run (by kernel_rfl) ?_ ?_
                        · intro a W hSt pre old K hK
                          have e91 : a.tmps.getD 91 undef = .pointer (some ⟨g, 4, none⟩) := pre 6 91 _ (by kernel_rfl) rfl rfl
                          clear pre old
                          simp only [Array.getD_eq_getD_getElem?] at e91
                          go_simp
                          exact hK _ hSt
                        refine Vals.Steps.run (by kernel_rfl) ?_ ?_
                        · intro a W hSt pre old K hK
                          have e92 : a.tmps.getD 92 undef = .pointer (some ⟨g, 4, none⟩) := pre 7 92 _ (by kernel_rfl) rfl rfl
                          clear pre old
                          simp only [Array.getD_eq_getD_getElem?] at e92
                          have hS9 := hSt
                          obtain ⟨⟨s0, s1, s2, s3, s4, s5⟩, ⟨d0, d1, d2⟩, ⟨k0, k1, k2, k3, k4, k5, k6, k7⟩, _, _, sn⟩ := hS9
                          go_simp
                          exact hK _ hSt
                        refine Vals.Steps.run (by kernel_rfl) ?_ ?_
                        · intro a W hSt pre old K hK
                          have e93 : a.tmps.getD 93 undef = .int .i64 k := pre 8 93 _ (by kernel_rfl) rfl rfl
                          clear pre old
                          simp only [Array.getD_eq_getD_getElem?] at e93
                          go_simp
                          obtain ⟨sB, sS, _, hb, hr, sn⟩ := hSt
                          refine (one_c k _).mono ?_
                          rintro e w' ⟨rfl, hb'⟩
                          exact hK _ ⟨SB.keep sB hb', SS.keep sS hb', (hb.out.keep hb').box, hb.out.keep hb', hr.out.keep hb', sn.keep hb'⟩
                        refine Vals.Steps.run (by kernel_rfl) ?_ ?_
                        · intro a W hSt pre old K hK
                          have e12 : a.tmps.getD 12 undef = .pointer (some ⟨g, 0, none⟩) := old 12 _ (by kernel_rfl) rfl
                          clear pre old
                          simp only [Array.getD_eq_getD_getElem?] at e12
                          go_simp
                          exact hK _ hSt
                        refine Vals.Steps.run (by kernel_rfl) ?_ ?_
                        · intro a W hSt pre old K hK
                          have e95 : a.tmps.getD 95 undef = .pointer (some ⟨g, 6, none⟩) := pre 10 95 _ (by kernel_rfl) rfl rfl
                          clear pre old
                          simp only [Array.getD_eq_getD_getElem?] at e95
                          have hS9 := hSt
                          obtain ⟨⟨s0, s1, s2, s3, s4, s5⟩, ⟨d0, d1, d2⟩, ⟨k0, k1, k2, k3, k4, k5, k6, k7⟩, _, _, sn⟩ := hS9
                          go_simp
                          exact hK _ hSt
                        refine Vals.Steps.run (by kernel_rfl) ?_ ?_
                        · intro a W hSt pre old K hK
                          have e88 : a.tmps.getD 88 undef = .agg #[.int .i64 (m0 b.mlo b.mhi x lb), .int .i64 (m0 b.mlo b.mhi x lb)] := pre 3 88 _ (by kernel_rfl) rfl rfl
                          have e90 : a.tmps.getD 90 undef = .agg #[.int .i64 (m1 b.mlo b.mhi x lb), .int .i64 (m1 b.mlo b.mhi x lb)] := pre 5 90 _ (by kernel_rfl) rfl rfl
                          have e94 : a.tmps.getD 94 undef = .agg #[.int .i64 k, .int .i64 k] := pre 9 94 _ (by kernel_rfl) rfl rfl
                          have e96 : a.tmps.getD 96 undef = .agg #[.int .i64 x.wlo, .int .i64 x.whi] := pre 11 96 _ (by kernel_rfl) rfl rfl
                          clear pre old
                          simp only [Array.getD_eq_getD_getElem?] at e88 e90 e94 e96
                          go_simp
                          exact hK _ hSt
                        refine Vals.Steps.run (by kernel_rfl) ?_ ?_
                        · intro a W hSt pre old K hK
                          have e3 : a.tmps.getD 3 undef = .int .i64 bal := old 3 _ (by kernel_rfl) rfl
                          clear pre old
                          simp only [Array.getD_eq_getD_getElem?] at e3
                          go_simp
                          exact hK _ hSt
                        refine Vals.Steps.last (by kernel_rfl) ?_
                        · intro a W hSt pre old K hK
                          have e85 : a.tmps.getD 85 undef = .agg (bV b A c) := pre 0 85 _ (by kernel_rfl) rfl rfl
                          have e86 : a.tmps.getD 86 undef = .agg (sV s) := pre 1 86 _ (by kernel_rfl) rfl rfl
                          have e97 : a.tmps.getD 97 undef = .agg (boxV (x2 (y2 b.mlo b.mhi x lb) k)) := pre 12 97 _ (by kernel_rfl) rfl rfl
                          have e98 : a.tmps.getD 98 undef = .int .i64 bal := pre 13 98 _ (by kernel_rfl) rfl rfl
                          clear pre old
                          simp only [Array.getD_eq_getD_getElem?] at e85 e86 e97 e98
                          go_simp
                          obtain ⟨sB, sS, _, hb, hr, sn⟩ := hSt
                          refine (rwithin2_c b A c s (x2 (y2 b.mlo b.mhi x lb) k) bal _ HO.out hS.k0 hS.k1 r2 (by omega)).mono ?_
                          rintro e w' ⟨rfl, hb'⟩
                          rw [HLB.out, HDK.out]
                          exact hK _ ⟨SB.keep sB hb', SS.keep sS hb', (hb.out.keep hb').box, hb.out.keep hb', hr.out.keep hb', sn.keep hb'⟩
                      · rintro W ⟨sB, sS, _, hb, hr, sn⟩
                        simp only [Vals.putAll, List.setIfInBounds_toArray, List.set_cons_zero, List.set_cons_succ]
                        have HB2 := Lib.hid sB
                        have HS2 := Lib.hid sS
                        clear sB sS HB HS HX HR hsn
                        have e0 := hb.out.cell 4
                        have f0 := hb.out.frozen 4
                        simp only [List.getElem?_toArray, List.getElem?_cons_zero, List.getElem?_cons_succ] at e0
                        have hkb : -100000 ≤ k ∧ k ≤ 100000 := by
                          have h1 := HM.out.c1
                          obtain ⟨_, _, _, _, _, _, _, _, _, _, _, _⟩ := HOK.out
                          omega
                        obtain ⟨hkb0, hkb1⟩ := hkb
                        have HX : Hid (Blk (W.setCell ⟨g, 4, none⟩ (.int .i64 (k + 1))) g 107 (boxV (⟨(m0 b.mlo b.mhi x lb), (m0 b.mlo b.mhi x lb), (m1 b.mlo b.mhi x lb), (m1 b.mlo b.mhi x lb), (k + 1), x.hhi, x.wlo, x.whi⟩ : Box))) := hb.out.set 4 _
                        have HR := Lib.hid (hr.out.far (g' := g) (by omega) 4 (.int .i64 (k + 1)))
                        have HB : Hid (SB (w.heap.size) b A c (W.setCell ⟨g, 4, none⟩ (.int .i64 (k + 1)))) := SB.far HB2.out (by omega) _ _
                        have HS : Hid (SS (w.heap.size + 1) s (W.setCell ⟨g, 4, none⟩ (.int .i64 (k + 1)))) := SS.far HS2.out (by omega) _ _
                        have hsn : Since w (W.setCell ⟨g, 4, none⟩ (.int .i64 (k + 1))) := ⟨sn.1.setCell (p := ⟨g, 4, none⟩) (show w.heap.size ≤ g by omega) _, by simpa using sn.2⟩
                        go_wp2_with fail
                        go_roundg gg
                        case measure => omega
                        case rel => exact ⟨k + 1, by omega, by omega, hsn, HB, HS, HX, HR⟩
              | succ gg =>
                have hlt : k < (m1 b.mlo b.mhi x lb) := by omega
                have HDK : Hid (sur b.mlo b.mhi (x1 (y1 b.mlo b.mhi x lb) k) lb = true) := HM.out.b4 k hk0 hlt
                go_wp2_with fail
                refine Vals.region (fun X => SB (w.heap.size) b A c X ∧ SS (w.heap.size + 1) s X ∧ (X.cell? ⟨g, 0, none⟩ = some (.int .i64 (m0 b.mlo b.mhi x lb)) ∧ X.cell? ⟨g, 1, none⟩ = some (.int .i64 (m0 b.mlo b.mhi x lb)) ∧ X.cell? ⟨g, 2, none⟩ = some (.int .i64 k) ∧ X.cell? ⟨g, 3, none⟩ = some (.int .i64 x.dhi) ∧ X.cell? ⟨g, 4, none⟩ = some (.int .i64 x.hlo) ∧ X.cell? ⟨g, 5, none⟩ = some (.int .i64 x.hhi) ∧ X.cell? ⟨g, 6, none⟩ = some (.int .i64 x.wlo) ∧ X.cell? ⟨g, 7, none⟩ = some (.int .i64 x.whi)) ∧ Hid (Blk X g 107 (boxV (⟨(m0 b.mlo b.mhi x lb), (m0 b.mlo b.mhi x lb), k, x.dhi, x.hlo, x.hhi, x.wlo, x.whi⟩ : Box))) ∧ Hid (Blk X (w.heap.size + 1 + 1) 45 (trV 0 0 0 0)) ∧ Since w X) (fun X => SB (w.heap.size) b A c X ∧ SS (w.heap.size + 1) s X ∧ (X.cell? ⟨g, 0, none⟩ = some (.int .i64 (m0 b.mlo b.mhi x lb)) ∧ X.cell? ⟨g, 1, none⟩ = some (.int .i64 (m0 b.mlo b.mhi x lb)) ∧ X.cell? ⟨g, 2, none⟩ = some (.int .i64 k) ∧ X.cell? ⟨g, 3, none⟩ = some (.int .i64 x.dhi) ∧ X.cell? ⟨g, 4, none⟩ = some (.int .i64 x.hlo) ∧ X.cell? ⟨g, 5, none⟩ = some (.int .i64 x.hhi) ∧ X.cell? ⟨g, 6, none⟩ = some (.int .i64 x.wlo) ∧ X.cell? ⟨g, 7, none⟩ = some (.int .i64 x.whi)) ∧ Hid (Blk X g 107 (boxV (⟨(m0 b.mlo b.mhi x lb), (m0 b.mlo b.mhi x lb), k, x.dhi, x.hlo, x.hhi, x.wlo, x.whi⟩ : Box))) ∧ Hid (Blk X (w.heap.size + 1 + 1) 45 (trV 0 0 0 0)) ∧ Since w X) [some 59, some 60, some 61, some 62, some 63, some 64, some 65, some 66, some 67, some 68, some 69, some 70, some 71, some 72, some 73] [.agg (bV b A c), .agg (sV s), .pointer (some ⟨g, 0, none⟩), .agg #[.int .i64 (m0 b.mlo b.mhi x lb), .int .i64 (m0 b.mlo b.mhi x lb)], .pointer (some ⟨g, 2, none⟩), .pointer (some ⟨g, 2, none⟩), .int .i64 k, .agg #[.int .i64 k, .int .i64 k], .pointer (some ⟨g, 4, none⟩), .agg #[.int .i64 x.hlo, .int .i64 x.hhi], .pointer (some ⟨g, 6, none⟩), .agg #[.int .i64 x.wlo, .int .i64 x.whi], .agg (boxV (x1 (y1 b.mlo b.mhi x lb) k)), .int .i64 bal, .bool true] (by kernel_rfl) (by kernel_rfl) (by kernel_rfl) (by kernel_rfl) (by kernel_rfl) (by kernel_rfl) (by kernel_rfl) ⟨HB.out, HS.out, HX.out.box, HX.out, HR.out, hsn.drew⟩ ?_ ?_
                · refine Vals.Steps.run (by kernel_rfl) ?_ ?_
                  · intro a W hSt pre old K hK
                    have e4 : a.tmps.getD 4 undef = .pointer (some ⟨w.heap.size, 0, none⟩) := old 4 _ (by kernel_rfl) rfl
                    clear pre old
                    simp only [Array.getD_eq_getD_getElem?] at e4
                    have hS9 := hSt
                    obtain ⟨⟨s0, s1, s2, s3, s4, s5⟩, ⟨d0, d1, d2⟩, ⟨k0, k1, k2, k3, k4, k5, k6, k7⟩, _, _, sn⟩ := hS9
                    go_simp
                    exact hK _ hSt
                  refine Vals.Steps.run (by kernel_rfl) ?_ ?_
                  · intro a W hSt pre old K hK
                    have e5 : a.tmps.getD 5 undef = .pointer (some ⟨w.heap.size + 1, 0, none⟩) := old 5 _ (by kernel_rfl) rfl
                    clear pre old
                    simp only [Array.getD_eq_getD_getElem?] at e5
                    have hS9 := hSt
                    obtain ⟨⟨s0, s1, s2, s3, s4, s5⟩, ⟨d0, d1, d2⟩, ⟨k0, k1, k2, k3, k4, k5, k6, k7⟩, _, _, sn⟩ := hS9
                    go_simp
                    exact hK _ hSt
                  refine Vals.Steps.run (by kernel_rfl) ?_ ?_
                  · intro a W hSt pre old K hK
                    have e12 : a.tmps.getD 12 undef = .pointer (some ⟨g, 0, none⟩) := old 12 _ (by kernel_rfl) rfl
                    clear pre old
                    simp only [Array.getD_eq_getD_getElem?] at e12
                    go_simp
                    exact hK _ hSt
                  refine Vals.Steps.run (by kernel_rfl) ?_ ?_
                  · intro a W hSt pre old K hK
                    have e61 : a.tmps.getD 61 undef = .pointer (some ⟨g, 0, none⟩) := pre 2 61 _ (by kernel_rfl) rfl rfl
                    clear pre old
                    simp only [Array.getD_eq_getD_getElem?] at e61
                    have hS9 := hSt
                    obtain ⟨⟨s0, s1, s2, s3, s4, s5⟩, ⟨d0, d1, d2⟩, ⟨k0, k1, k2, k3, k4, k5, k6, k7⟩, _, _, sn⟩ := hS9
                    go_simp
                    exact hK _ hSt
                  refine Vals.Steps.run (by kernel_rfl) ?_ ?_
                  · intro a W hSt pre old K hK
                    have e12 : a.tmps.getD 12 undef = .pointer (some ⟨g, 0, none⟩) := old 12 _ (by kernel_rfl) rfl
                    clear pre old
                    simp only [Array.getD_eq_getD_getElem?] at e12
                    go_simp
                    exact hK _ hSt
                  refine Vals.Steps.run (by kernel_rfl) ?_ ?_
                  · intro a W hSt pre old K hK
                    have e63 : a.tmps.getD 63 undef = .pointer (some ⟨g, 2, none⟩) := pre 4 63 _ (by kernel_rfl) rfl rfl
                    clear pre old
                    simp only [Array.getD_eq_getD_getElem?] at e63
                    go_simp
                    exact hK _ hSt
                  refine Vals.Steps.run (by kernel_rfl) ?_ ?_
                  · intro a W hSt pre old K hK
                    have e64 : a.tmps.getD 64 undef = .pointer (some ⟨g, 2, none⟩) := pre 5 64 _ (by kernel_rfl) rfl rfl
                    clear pre old
                    simp only [Array.getD_eq_getD_getElem?] at e64
                    have hS9 := hSt
                    obtain ⟨⟨s0, s1, s2, s3, s4, s5⟩, ⟨d0, d1, d2⟩, ⟨k0, k1, k2, k3, k4, k5, k6, k7⟩, _, _, sn⟩ := hS9
                    go_simp
                    exact hK _ hSt
                  refine Vals.Steps.run (by kernel_rfl) ?_ ?_
                  · intro a W hSt pre old K hK
                    have e65 : a.tmps.getD 65 undef = .int .i64 k := pre 6 65 _ (by kernel_rfl) rfl rfl
                    clear pre old
                    simp only [Array.getD_eq_getD_getElem?] at e65
                    go_simp
                    obtain ⟨sB, sS, _, hb, hr, sn⟩ := hSt
                    refine (one_c k _).mono ?_
                    rintro e w' ⟨rfl, hb'⟩
                    exact hK _ ⟨SB.keep sB hb', SS.keep sS hb', (hb.out.keep hb').box, hb.out.keep hb', hr.out.keep hb', sn.keep hb'⟩
                  refine Vals.Steps.run (by kernel_rfl) ?_ ?_
                  · intro a W hSt pre old K hK
                    have e12 : a.tmps.getD 12 undef = .pointer (some ⟨g, 0, none⟩) := old 12 _ (by kernel_rfl) rfl
                    clear pre old
                    simp only [Array.getD_eq_getD_getElem?] at e12
                    go_simp
                    exact hK _ hSt
                  refine Vals.Steps.run (by kernel_rfl) ?_ ?_
                  · intro a W hSt pre old K hK
                    have e67 : a.tmps.getD 67 undef = .pointer (some ⟨g, 4, none⟩) := pre 8 67 _ (by kernel_rfl) rfl rfl
                    clear pre old
                    simp only [Array.getD_eq_getD_getElem?] at e67
                    have hS9 := hSt
                    obtain ⟨⟨s0, s1, s2, s3, s4, s5⟩, ⟨d0, d1, d2⟩, ⟨k0, k1, k2, k3, k4, k5, k6, k7⟩, _, _, sn⟩ := hS9
                    go_simp
                    exact hK _ hSt
                  refine Vals.Steps.run (by kernel_rfl) ?_ ?_
                  · intro a W hSt pre old K hK
                    have e12 : a.tmps.getD 12 undef = .pointer (some ⟨g, 0, none⟩) := old 12 _ (by kernel_rfl) rfl
                    clear pre old
                    simp only [Array.getD_eq_getD_getElem?] at e12
                    go_simp
                    exact hK _ hSt
                  refine Vals.Steps.run (by kernel_rfl) ?_ ?_
                  · intro a W hSt pre old K hK
                    have e69 : a.tmps.getD 69 undef = .pointer (some ⟨g, 6, none⟩) := pre 10 69 _ (by kernel_rfl) rfl rfl
                    clear pre old
                    simp only [Array.getD_eq_getD_getElem?] at e69
                    have hS9 := hSt
                    obtain ⟨⟨s0, s1, s2, s3, s4, s5⟩, ⟨d0, d1, d2⟩, ⟨k0, k1, k2, k3, k4, k5, k6, k7⟩, _, _, sn⟩ := hS9
                    go_simp
                    exact hK _ hSt
                  refine Vals.Steps.run (by kernel_rfl) ?_ ?_
                  · intro a W hSt pre old K hK
                    have e62 : a.tmps.getD 62 undef = .agg #[.int .i64 (m0 b.mlo b.mhi x lb), .int .i64 (m0 b.mlo b.mhi x lb)] := pre 3 62 _ (by kernel_rfl) rfl rfl
                    have e66 : a.tmps.getD 66 undef = .agg #[.int .i64 k, .int .i64 k] := pre 7 66 _ (by kernel_rfl) rfl rfl
                    have e68 : a.tmps.getD 68 undef = .agg #[.int .i64 x.hlo, .int .i64 x.hhi] := pre 9 68 _ (by kernel_rfl) rfl rfl
                    have e70 : a.tmps.getD 70 undef = .agg #[.int .i64 x.wlo, .int .i64 x.whi] := pre 11 70 _ (by kernel_rfl) rfl rfl
                    clear pre old
                    simp only [Array.getD_eq_getD_getElem?] at e62 e66 e68 e70
                    go_simp
                    exact hK _ hSt
                  refine Vals.Steps.run (by kernel_rfl) ?_ ?_
                  · intro a W hSt pre old K hK
                    have e3 : a.tmps.getD 3 undef = .int .i64 bal := old 3 _ (by kernel_rfl) rfl
                    clear pre old
                    simp only [Array.getD_eq_getD_getElem?] at e3
                    go_simp
                    exact hK _ hSt
                  refine Vals.Steps.last (by kernel_rfl) ?_
                  · intro a W hSt pre old K hK
                    have e59 : a.tmps.getD 59 undef = .agg (bV b A c) := pre 0 59 _ (by kernel_rfl) rfl rfl
                    have e60 : a.tmps.getD 60 undef = .agg (sV s) := pre 1 60 _ (by kernel_rfl) rfl rfl
                    have e71 : a.tmps.getD 71 undef = .agg (boxV (x1 (y1 b.mlo b.mhi x lb) k)) := pre 12 71 _ (by kernel_rfl) rfl rfl
                    have e72 : a.tmps.getD 72 undef = .int .i64 bal := pre 13 72 _ (by kernel_rfl) rfl rfl
                    clear pre old
                    simp only [Array.getD_eq_getD_getElem?] at e59 e60 e71 e72
                    go_simp
                    obtain ⟨sB, sS, _, hb, hr, sn⟩ := hSt
                    refine (rwithin2_c b A c s (x1 (y1 b.mlo b.mhi x lb) k) bal _ HO.out hS.k0 hS.k1 r2 (by omega)).mono ?_
                    rintro e w' ⟨rfl, hb'⟩
                    rw [HLB.out, HDK.out]
                    exact hK _ ⟨SB.keep sB hb', SS.keep sS hb', (hb.out.keep hb').box, hb.out.keep hb', hr.out.keep hb', sn.keep hb'⟩
                · rintro W ⟨sB, sS, _, hb, hr, sn⟩
                  simp only [Vals.putAll, List.setIfInBounds_toArray, List.set_cons_zero, List.set_cons_succ]
                  have HB2 := Lib.hid sB
                  have HS2 := Lib.hid sS
                  clear sB sS HB HS HX HR hsn
                  have e0 := hb.out.cell 2
                  have f0 := hb.out.frozen 2
                  simp only [List.getElem?_toArray, List.getElem?_cons_zero, List.getElem?_cons_succ] at e0
                  have hkb : -100000 ≤ k ∧ k ≤ 100000 := by
                    have h1 := HM.out.b1
                    obtain ⟨_, _, _, _, _, _, _, _, _, _, _, _⟩ := HOK.out
                    omega
                  obtain ⟨hkb0, hkb1⟩ := hkb
                  have HX : Hid (Blk (W.setCell ⟨g, 2, none⟩ (.int .i64 (k + 1))) g 107 (boxV (⟨(m0 b.mlo b.mhi x lb), (m0 b.mlo b.mhi x lb), (k + 1), x.dhi, x.hlo, x.hhi, x.wlo, x.whi⟩ : Box))) := hb.out.set 2 _
                  have HR := Lib.hid (hr.out.far (g' := g) (by omega) 2 (.int .i64 (k + 1)))
                  have HB : Hid (SB (w.heap.size) b A c (W.setCell ⟨g, 2, none⟩ (.int .i64 (k + 1)))) := SB.far HB2.out (by omega) _ _
                  have HS : Hid (SS (w.heap.size + 1) s (W.setCell ⟨g, 2, none⟩ (.int .i64 (k + 1)))) := SS.far HS2.out (by omega) _ _
                  have hsn : Since w (W.setCell ⟨g, 2, none⟩ (.int .i64 (k + 1))) := ⟨sn.1.setCell (p := ⟨g, 2, none⟩) (show w.heap.size ≤ g by omega) _, by simpa using sn.2⟩
                  go_wp2_with fail
                  go_roundg gg
                  case measure => omega
                  case rel => exact ⟨k + 1, by omega, by omega, hsn, HB, HS, HX, HR⟩
        | succ gg =>
          have hlt : k < (m0 b.mlo b.mhi x lb) := by omega
          have HDK : Hid (sur b.mlo b.mhi (x0 x k) lb = true) := HM.out.a4 k hk0 hlt
          go_wp2_with fail
          refine Vals.region (fun X => SB (w.heap.size) b A c X ∧ SS (w.heap.size + 1) s X ∧ (X.cell? ⟨g, 0, none⟩ = some (.int .i64 k) ∧ X.cell? ⟨g, 1, none⟩ = some (.int .i64 x.shi) ∧ X.cell? ⟨g, 2, none⟩ = some (.int .i64 x.dlo) ∧ X.cell? ⟨g, 3, none⟩ = some (.int .i64 x.dhi) ∧ X.cell? ⟨g, 4, none⟩ = some (.int .i64 x.hlo) ∧ X.cell? ⟨g, 5, none⟩ = some (.int .i64 x.hhi) ∧ X.cell? ⟨g, 6, none⟩ = some (.int .i64 x.wlo) ∧ X.cell? ⟨g, 7, none⟩ = some (.int .i64 x.whi)) ∧ Hid (Blk X g 107 (boxV (⟨k, x.shi, x.dlo, x.dhi, x.hlo, x.hhi, x.wlo, x.whi⟩ : Box))) ∧ Hid (Blk X (w.heap.size + 1 + 1) 45 (trV 0 0 0 0)) ∧ Since w X) (fun X => SB (w.heap.size) b A c X ∧ SS (w.heap.size + 1) s X ∧ (X.cell? ⟨g, 0, none⟩ = some (.int .i64 k) ∧ X.cell? ⟨g, 1, none⟩ = some (.int .i64 x.shi) ∧ X.cell? ⟨g, 2, none⟩ = some (.int .i64 x.dlo) ∧ X.cell? ⟨g, 3, none⟩ = some (.int .i64 x.dhi) ∧ X.cell? ⟨g, 4, none⟩ = some (.int .i64 x.hlo) ∧ X.cell? ⟨g, 5, none⟩ = some (.int .i64 x.hhi) ∧ X.cell? ⟨g, 6, none⟩ = some (.int .i64 x.wlo) ∧ X.cell? ⟨g, 7, none⟩ = some (.int .i64 x.whi)) ∧ Hid (Blk X g 107 (boxV (⟨k, x.shi, x.dlo, x.dhi, x.hlo, x.hhi, x.wlo, x.whi⟩ : Box))) ∧ Hid (Blk X (w.heap.size + 1 + 1) 45 (trV 0 0 0 0)) ∧ Since w X) [some 33, some 34, some 35, some 36, some 37, some 38, some 39, some 40, some 41, some 42, some 43, some 44, some 45, some 46, some 47] [.agg (bV b A c), .agg (sV s), .pointer (some ⟨g, 0, none⟩), .pointer (some ⟨g, 0, none⟩), .int .i64 k, .agg #[.int .i64 k, .int .i64 k], .pointer (some ⟨g, 2, none⟩), .agg #[.int .i64 x.dlo, .int .i64 x.dhi], .pointer (some ⟨g, 4, none⟩), .agg #[.int .i64 x.hlo, .int .i64 x.hhi], .pointer (some ⟨g, 6, none⟩), .agg #[.int .i64 x.wlo, .int .i64 x.whi], .agg (boxV (x0 x k)), .int .i64 bal, .bool true] (by kernel_rfl) (by kernel_rfl) (by kernel_rfl) (by kernel_rfl) (by kernel_rfl) (by kernel_rfl) (by kernel_rfl) ⟨HB.out, HS.out, HX.out.box, HX.out, HR.out, hsn.drew⟩ ?_ ?_
          · refine Vals.Steps.run (by kernel_rfl) ?_ ?_
            · intro a W hSt pre old K hK
              have e4 : a.tmps.getD 4 undef = .pointer (some ⟨w.heap.size, 0, none⟩) := old 4 _ (by kernel_rfl) rfl
              clear pre old
              simp only [Array.getD_eq_getD_getElem?] at e4
              have hS9 := hSt
              obtain ⟨⟨s0, s1, s2, s3, s4, s5⟩, ⟨d0, d1, d2⟩, ⟨k0, k1, k2, k3, k4, k5, k6, k7⟩, _, _, sn⟩ := hS9
              go_simp
              exact hK _ hSt
            refine Vals.Steps.run (by kernel_rfl) ?_ ?_
            · intro a W hSt pre old K hK
              have e5 : a.tmps.getD 5 undef = .pointer (some ⟨w.heap.size + 1, 0, none⟩) := old 5 _ (by kernel_rfl) rfl
              clear pre old
              simp only [Array.getD_eq_getD_getElem?] at e5
              have hS9 := hSt
              obtain ⟨⟨s0, s1, s2, s3, s4, s5⟩, ⟨d0, d1, d2⟩, ⟨k0, k1, k2, k3, k4, k5, k6, k7⟩, _, _, sn⟩ := hS9
              go_simp
              exact hK _ hSt
            refine Vals.Steps.run (by kernel_rfl) ?_ ?_
            · intro a W hSt pre old K hK
              have e12 : a.tmps.getD 12 undef = .pointer (some ⟨g, 0, none⟩) := old 12 _ (by kernel_rfl) rfl
              clear pre old
              simp only [Array.getD_eq_getD_getElem?] at e12
              go_simp
              exact hK _ hSt
            refine Vals.Steps.run (by kernel_rfl) ?_ ?_
            · intro a W hSt pre old K hK
              have e35 : a.tmps.getD 35 undef = .pointer (some ⟨g, 0, none⟩) := pre 2 35 _ (by kernel_rfl) rfl rfl
              clear pre old
              simp only [Array.getD_eq_getD_getElem?] at e35
              go_simp
              exact hK _ hSt
            refine Vals.Steps.run (by kernel_rfl) ?_ ?_
            · intro a W hSt pre old K hK
              have e36 : a.tmps.getD 36 undef = .pointer (some ⟨g, 0, none⟩) := pre 3 36 _ (by kernel_rfl) rfl rfl
              clear pre old
              simp only [Array.getD_eq_getD_getElem?] at e36
              have hS9 := hSt
              obtain ⟨⟨s0, s1, s2, s3, s4, s5⟩, ⟨d0, d1, d2⟩, ⟨k0, k1, k2, k3, k4, k5, k6, k7⟩, _, _, sn⟩ := hS9
              go_simp
              exact hK _ hSt
            refine Vals.Steps.run (by kernel_rfl) ?_ ?_
            · intro a W hSt pre old K hK
              have e37 : a.tmps.getD 37 undef = .int .i64 k := pre 4 37 _ (by kernel_rfl) rfl rfl
              clear pre old
              simp only [Array.getD_eq_getD_getElem?] at e37
              go_simp
              obtain ⟨sB, sS, _, hb, hr, sn⟩ := hSt
              refine (one_c k _).mono ?_
              rintro e w' ⟨rfl, hb'⟩
              exact hK _ ⟨SB.keep sB hb', SS.keep sS hb', (hb.out.keep hb').box, hb.out.keep hb', hr.out.keep hb', sn.keep hb'⟩
            refine Vals.Steps.run (by kernel_rfl) ?_ ?_
            · intro a W hSt pre old K hK
              have e12 : a.tmps.getD 12 undef = .pointer (some ⟨g, 0, none⟩) := old 12 _ (by kernel_rfl) rfl
              clear pre old
              simp only [Array.getD_eq_getD_getElem?] at e12
              go_simp
              exact hK _ hSt
            refine Vals.Steps.run (by kernel_rfl) ?_ ?_
            · intro a W hSt pre old K hK
              have e39 : a.tmps.getD 39 undef = .pointer (some ⟨g, 2, none⟩) := pre 6 39 _ (by kernel_rfl) rfl rfl
              clear pre old
              simp only [Array.getD_eq_getD_getElem?] at e39
              have hS9 := hSt
              obtain ⟨⟨s0, s1, s2, s3, s4, s5⟩, ⟨d0, d1, d2⟩, ⟨k0, k1, k2, k3, k4, k5, k6, k7⟩, _, _, sn⟩ := hS9
              go_simp
              exact hK _ hSt
            refine Vals.Steps.run (by kernel_rfl) ?_ ?_
            · intro a W hSt pre old K hK
              have e12 : a.tmps.getD 12 undef = .pointer (some ⟨g, 0, none⟩) := old 12 _ (by kernel_rfl) rfl
              clear pre old
              simp only [Array.getD_eq_getD_getElem?] at e12
              go_simp
              exact hK _ hSt
            refine Vals.Steps.run (by kernel_rfl) ?_ ?_
            · intro a W hSt pre old K hK
              have e41 : a.tmps.getD 41 undef = .pointer (some ⟨g, 4, none⟩) := pre 8 41 _ (by kernel_rfl) rfl rfl
              clear pre old
              simp only [Array.getD_eq_getD_getElem?] at e41
              have hS9 := hSt
              obtain ⟨⟨s0, s1, s2, s3, s4, s5⟩, ⟨d0, d1, d2⟩, ⟨k0, k1, k2, k3, k4, k5, k6, k7⟩, _, _, sn⟩ := hS9
              go_simp
              exact hK _ hSt
            refine Vals.Steps.run (by kernel_rfl) ?_ ?_
            · intro a W hSt pre old K hK
              have e12 : a.tmps.getD 12 undef = .pointer (some ⟨g, 0, none⟩) := old 12 _ (by kernel_rfl) rfl
              clear pre old
              simp only [Array.getD_eq_getD_getElem?] at e12
              go_simp
              exact hK _ hSt
            refine Vals.Steps.run (by kernel_rfl) ?_ ?_
            · intro a W hSt pre old K hK
              have e43 : a.tmps.getD 43 undef = .pointer (some ⟨g, 6, none⟩) := pre 10 43 _ (by kernel_rfl) rfl rfl
              clear pre old
              simp only [Array.getD_eq_getD_getElem?] at e43
              have hS9 := hSt
              obtain ⟨⟨s0, s1, s2, s3, s4, s5⟩, ⟨d0, d1, d2⟩, ⟨k0, k1, k2, k3, k4, k5, k6, k7⟩, _, _, sn⟩ := hS9
              go_simp
              exact hK _ hSt
            refine Vals.Steps.run (by kernel_rfl) ?_ ?_
            · intro a W hSt pre old K hK
              have e38 : a.tmps.getD 38 undef = .agg #[.int .i64 k, .int .i64 k] := pre 5 38 _ (by kernel_rfl) rfl rfl
              have e40 : a.tmps.getD 40 undef = .agg #[.int .i64 x.dlo, .int .i64 x.dhi] := pre 7 40 _ (by kernel_rfl) rfl rfl
              have e42 : a.tmps.getD 42 undef = .agg #[.int .i64 x.hlo, .int .i64 x.hhi] := pre 9 42 _ (by kernel_rfl) rfl rfl
              have e44 : a.tmps.getD 44 undef = .agg #[.int .i64 x.wlo, .int .i64 x.whi] := pre 11 44 _ (by kernel_rfl) rfl rfl
              clear pre old
              simp only [Array.getD_eq_getD_getElem?] at e38 e40 e42 e44
              go_simp
              exact hK _ hSt
            refine Vals.Steps.run (by kernel_rfl) ?_ ?_
            · intro a W hSt pre old K hK
              have e3 : a.tmps.getD 3 undef = .int .i64 bal := old 3 _ (by kernel_rfl) rfl
              clear pre old
              simp only [Array.getD_eq_getD_getElem?] at e3
              go_simp
              exact hK _ hSt
            refine Vals.Steps.last (by kernel_rfl) ?_
            · intro a W hSt pre old K hK
              have e33 : a.tmps.getD 33 undef = .agg (bV b A c) := pre 0 33 _ (by kernel_rfl) rfl rfl
              have e34 : a.tmps.getD 34 undef = .agg (sV s) := pre 1 34 _ (by kernel_rfl) rfl rfl
              have e45 : a.tmps.getD 45 undef = .agg (boxV (x0 x k)) := pre 12 45 _ (by kernel_rfl) rfl rfl
              have e46 : a.tmps.getD 46 undef = .int .i64 bal := pre 13 46 _ (by kernel_rfl) rfl rfl
              clear pre old
              simp only [Array.getD_eq_getD_getElem?] at e33 e34 e45 e46
              go_simp
              obtain ⟨sB, sS, _, hb, hr, sn⟩ := hSt
              refine (rwithin2_c b A c s (x0 x k) bal _ HO.out hS.k0 hS.k1 r2 (by omega)).mono ?_
              rintro e w' ⟨rfl, hb'⟩
              rw [HLB.out, HDK.out]
              exact hK _ ⟨SB.keep sB hb', SS.keep sS hb', (hb.out.keep hb').box, hb.out.keep hb', hr.out.keep hb', sn.keep hb'⟩
          · rintro W ⟨sB, sS, _, hb, hr, sn⟩
            simp only [Vals.putAll, List.setIfInBounds_toArray, List.set_cons_zero, List.set_cons_succ]
            have HB2 := Lib.hid sB
            have HS2 := Lib.hid sS
            clear sB sS HB HS HX HR hsn
            have e0 := hb.out.cell 0
            have f0 := hb.out.frozen 0
            simp only [List.getElem?_toArray, List.getElem?_cons_zero, List.getElem?_cons_succ] at e0
            have hkb : -100000 ≤ k ∧ k ≤ 100000 := by
              have h1 := HM.out.a1
              obtain ⟨_, _, _, _, _, _, _, _, _, _, _, _⟩ := HOK.out
              omega
            obtain ⟨hkb0, hkb1⟩ := hkb
            have HX : Hid (Blk (W.setCell ⟨g, 0, none⟩ (.int .i64 (k + 1))) g 107 (boxV (⟨(k + 1), x.shi, x.dlo, x.dhi, x.hlo, x.hhi, x.wlo, x.whi⟩ : Box))) := hb.out.set 0 _
            have HR := Lib.hid (hr.out.far (g' := g) (by omega) 0 (.int .i64 (k + 1)))
            have HB : Hid (SB (w.heap.size) b A c (W.setCell ⟨g, 0, none⟩ (.int .i64 (k + 1)))) := SB.far HB2.out (by omega) _ _
            have HS : Hid (SS (w.heap.size + 1) s (W.setCell ⟨g, 0, none⟩ (.int .i64 (k + 1)))) := SS.far HS2.out (by omega) _ _
            have hsn : Since w (W.setCell ⟨g, 0, none⟩ (.int .i64 (k + 1))) := ⟨sn.1.setCell (p := ⟨g, 0, none⟩) (show w.heap.size ≤ g by omega) _, by simpa using sn.2⟩
            go_wp2_with fail
            go_roundg gg
            case measure => omega
            case rel => exact ⟨k + 1, by omega, by omega, hsn, HB, HS, HX, HR⟩
    · have HE : Hid (missesV b s (i : Int) bal = .tuple #[.agg (trV 0 0 0 0), .int .i64 0, .int .i64 9]) := by show _ = _; rw [HVs.out, hsu]; rfl
      clear hsu HVs
      go_wp2_with (refine wpList_store_row rfl 45 _ _ rfl (w.heap.size + 1 + 1) _ rfl rfl 45 _ HR3.out (by kernel_rfl) rfl (by simp [Value.oneCell']) ?_)
      refine bodyPost_ret (results_cell_tmp2 Try.results29 _ _ (w.heap.size + 1 + 1) 45 _ (0, 0) _ rfl (HR3.out.row _) Try.underlying45 rfl (by kernel_rfl)) rfl ⟨?_, ?_⟩
      · rw [HE.out]; rfl
      · exact (hs3.row (by omega) _).1
  · have HV : Hid (missesV b s tide bal = .tuple #[.agg (trV 0 0 0 0), .int .i64 0, .int .i64 (stepE b s tide bal)]) := by show _ = _; simp [missesV, hc]
    have hc' : (stepE b s tide bal != 0) = true := by simpa using hc
    clear hc
    go_wp2_with (refine wpList_store_row rfl 45 _ _ rfl (w.heap.size + 1 + 1) _ rfl rfl 45 _ HR1.out (by kernel_rfl) rfl (by simp [Value.oneCell']) ?_)
    refine bodyPost_ret (results_cell_tmp2 Try.results29 _ _ (w.heap.size + 1 + 1) 45 _ (0, 0) _ rfl (HR1.out.row _) Try.underlying45 rfl (by kernel_rfl)) rfl ⟨?_, ?_⟩
    · rw [HV.out]; rfl
    · exact (hs1.row (by omega) _).1
end Td
end Go.Proofs.Ytojpiliamecgkaa
