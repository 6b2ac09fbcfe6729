import Derived.Test.YtojpiliamecgkaaRefC
import Derived.Test.YtojpiliamecgkaaVals2
namespace Go.Proofs.Ytojpiliamecgkaa
open Go.RowKit
namespace Td
set_option linter.unusedSimpArgs false
set_option linter.unusedVariables false
theorem cell_row {w : World} {g g' : Nat} (hne : g' ≠ g) (i : Nat) (new : Array Value) : (w.setRow g' new).cell? ⟨g, i, none⟩ = w.cell? ⟨g, i, none⟩ :=
  World.cell?_of_block (w := w) (setRow_other w g' g new (Ne.symm hne))
theorem SB.row {g : Nat} {b : Bch} {A : Option Addr} {c : Nat} {w : World} (h : SB g b A c w) {g' : Nat} (hne : g' ≠ g) (new : Array Value) : SB g b A c (w.setRow g' new) := by
  refine ⟨?_, ?_, ?_, ?_, ?_, ?_⟩ <;> rw [cell_row hne]
  · exact h.1
  · exact h.2.1
  · exact h.2.2.1
  · exact h.2.2.2.1
  · exact h.2.2.2.2.1
  · exact h.2.2.2.2.2
theorem SS.row {g : Nat} {s : Shp} {w : World} (h : SS g s w) {g' : Nat} (hne : g' ≠ g) (new : Array Value) : SS g s (w.setRow g' new) := by
  refine ⟨?_, ?_, ?_⟩ <;> rw [cell_row hne]
  · exact h.1
  · exact h.2.1
  · exact h.2.2
theorem cell_grown {w w' : World} {row : Option Nat} {g : Nat} {i : Nat} {v : Value} (h : w.cell? ⟨g, i, none⟩ = some v) (hg : w.grownBy w' row) (hne : some g ≠ row) : w'.cell? ⟨g, i, none⟩ = some v :=
  (World.cell?_of_block (w := w) (a := ⟨g, i, none⟩) (hg.block g (cell_lt h) hne)).trans h
theorem SB.grown {g : Nat} {b : Bch} {A : Option Addr} {c : Nat} {w w' : World} {o : Obj} {row : Option Nat} (h : SB g b A c w) (hg : (w.alloc o).grownBy w' row) (hr : ∀ q, row = some q → g < q) : SB g b A c w' := by
  have h2 := SB.alloc h o
  have hne : some g ≠ row := fun e => by have := hr g e.symm; omega
  exact ⟨cell_grown h2.1 hg hne, cell_grown h2.2.1 hg hne, cell_grown h2.2.2.1 hg hne, cell_grown h2.2.2.2.1 hg hne, cell_grown h2.2.2.2.2.1 hg hne, cell_grown h2.2.2.2.2.2 hg hne⟩
theorem SS.grown {g : Nat} {s : Shp} {w w' : World} {o : Obj} {row : Option Nat} (h : SS g s w) (hg : (w.alloc o).grownBy w' row) (hr : ∀ q, row = some q → g < q) : SS g s w' := by
  have h2 := SS.alloc h o
  have hne : some g ≠ row := fun e => by have := hr g e.symm; omega
  exact ⟨cell_grown h2.1 hg hne, cell_grown h2.2.1 hg hne, cell_grown h2.2.2 hg hne⟩
theorem TsAt.since {w X : World} {A : Option Addr} {ts : List Tid} (h : TsAt w A ts) (hs : Since w X) : TsAt X A ts := h.keep hs.1
set_option maxRecDepth 100000 in
set_option maxHeartbeats 4000000 in
theorem rStops_c (b : Bch) (s : Shp) (A : Option Addr) (c : Nat) (tide bal : Int) (w : World) (hp : TsAt w A b.ts) :
    Calls Try.prog 19 #[.agg (bV b A c), .agg (sV s), .int .i64 tide, .int .i64 bal] w fun e w' => e = .returned (stopsV b s tide bal) ∧ Below w.heap.size w w' := by
  have hs0 := (((Since.refl w).alloc (.cells (bV b A c) 26)).alloc (.cells (sV s) 28)).alloc (.cells #[.int .i64 0, .int .i64 0] 23)
  have HB0 := Lib.hid (((Blk.new w 26 (bV b A c)).alloc (.cells (sV s) 28)).alloc (.cells #[.int .i64 0, .int .i64 0] 23))
  have HS0 := Lib.hid ((Blk.new1 w (.cells (bV b A c) 26) 28 (sV s)).alloc (.cells #[.int .i64 0, .int .i64 0] 23))
  have HR0 := Lib.hid (Blk.new2 w (.cells (bV b A c) 26) (.cells (sV s) 28) 23 #[.int .i64 0, .int .i64 0])
  go_enter Try.func19, Try.ntmps19
  go_wp2_with fail
  refine (step_c b s A c tide bal _ (hp.keep hs0.1)).mono ?_
  rintro e w1 ⟨rfl, hb1⟩
  have hs1 := hs0.keep hb1
  have HB1 : Hid (SB w.heap.size b A c w1) := (HB0.out.keep hb1).beach
  have HS1 : Hid (SS (w.heap.size + 1) s w1) := (HS0.out.keep hb1).ship
  have HR1 := Lib.hid (HR0.out.keep hb1)
  clear HB0 HS0 HR0 hb1 hs0
  by_cases hc : stepE b s tide bal = 0
  · obtain ⟨hk, ⟨r0, r1⟩, r2, r3⟩ := stepE_ok hc
    obtain ⟨hB, hS⟩ := chk_ok.1 hk
    have HV : Hid (stopsV b s tide bal = .tuple #[.agg #[.int .i64 (rlo (bx b s tide.toNat) (-s.sink * bal)), .int .i64 (rhi (bx b s tide.toNat) (-s.sink * bal))], .int .i64 0]) := by show _ = _; simp [stopsV, hc]
    rw [hc]
    clear hc hk
    obtain ⟨i, rfl⟩ : ∃ i : Nat, tide = i := ⟨tide.toNat, by omega⟩
    rw [Int.toNat_natCast] at HV
    have hi : i < b.ts.length := by omega
    have hl12 : b.ts.length ≤ 12 := hB.n1
    have HOK := Lib.hid (bx_ok hB hS hi)
    have hz : -s.sink * bal + 0 = -s.sink * bal := by omega
    have HC0 := rreach_c s (bx b s i) bal 0
    rw [hz] at HC0
    have HC := Lib.hid HC0
    clear HC0 hz
    go_wp2_with fail
    refine Vals2.region (fun tb X => SB (w.heap.size) b A c X ∧ SS (w.heap.size + 1) s X ∧ TsAt X A b.ts ∧ Hid (∃ z : Array Value, z.size = 2 ∧ Blk X (w.heap.size + 1 + 1) 23 z ∧ (tb = true → z = #[.int .i64 (rlo (bx b s i) (-s.sink * bal)), .int .i64 (rhi (bx b s i) (-s.sink * bal))])) ∧ Since w X) 7 [some 20, some 21, some 22, some 23, some 24, some 25, some 26, none, some 9] [.agg (sV s), .agg (bV b A c), .agg (sV s), .int .i64 (i : Int), .agg (boxV (bx b s i)), .int .i64 bal, .agg #[.int .i64 (rlo (bx b s i) (-s.sink * bal)), .int .i64 (rhi (bx b s i) (-s.sink * bal))], undef, .int .i64 0] (by kernel_rfl) (by kernel_rfl) (by kernel_rfl) (by kernel_rfl) (by kernel_rfl) (by kernel_rfl) (by kernel_rfl) ⟨HB1.out, HS1.out, (hp.keep hs1.1).keep ((Below.refl _ _).drew), ⟨_, rfl, HR1.out, fun h => by cases h⟩, hs1.drew⟩ ?_ ?_
    · refine Vals2.Steps.run (by decide) (by kernel_rfl) (fun tb => ?_) ?_
      · intro a W hSt pre old K hK
        have e5 : a.tmps.getD 5 undef = .pointer (some ⟨w.heap.size + 1, 0, none⟩) := old 5 _ (by kernel_rfl) rfl
        clear pre old
        simp only [Array.getD_eq_getD_getElem?] at e5
        have hS9 := hSt
        obtain ⟨⟨s0, s1, s2, s3, s4, s5⟩, ⟨d0, d1, d2⟩, ts, hr, sn⟩ := hS9
        go_simp
        exact hK _ hSt
      refine Vals2.Steps.run (by decide) (by kernel_rfl) (fun tb => ?_) ?_
      · intro a W hSt pre old K hK
        have e4 : a.tmps.getD 4 undef = .pointer (some ⟨w.heap.size, 0, none⟩) := old 4 _ (by kernel_rfl) rfl
        clear pre old
        simp only [Array.getD_eq_getD_getElem?] at e4
        have hS9 := hSt
        obtain ⟨⟨s0, s1, s2, s3, s4, s5⟩, ⟨d0, d1, d2⟩, ts, hr, sn⟩ := hS9
        go_simp
        exact hK _ hSt
      refine Vals2.Steps.run (by decide) (by kernel_rfl) (fun tb => ?_) ?_
      · intro a W hSt pre old K hK
        have e5 : a.tmps.getD 5 undef = .pointer (some ⟨w.heap.size + 1, 0, none⟩) := old 5 _ (by kernel_rfl) rfl
        clear pre old
        simp only [Array.getD_eq_getD_getElem?] at e5
        have hS9 := hSt
        obtain ⟨⟨s0, s1, s2, s3, s4, s5⟩, ⟨d0, d1, d2⟩, ts, hr, sn⟩ := hS9
        go_simp
        exact hK _ hSt
      refine Vals2.Steps.run (by decide) (by kernel_rfl) (fun tb => ?_) ?_
      · intro a W hSt pre old K hK
        have e2 : a.tmps.getD 2 undef = .int .i64 (i : Int) := old 2 _ (by kernel_rfl) rfl
        clear pre old
        simp only [Array.getD_eq_getD_getElem?] at e2
        go_simp
        exact hK _ hSt
      refine Vals2.Steps.run (by decide) (by kernel_rfl) (fun tb => ?_) ?_
      · intro a W hSt pre old K hK
        have e21 : a.tmps.getD 21 undef = .agg (bV b A c) := pre 1 21 _ (by kernel_rfl) rfl rfl
        have e22 : a.tmps.getD 22 undef = .agg (sV s) := pre 2 22 _ (by kernel_rfl) rfl rfl
        have e23 : a.tmps.getD 23 undef = .int .i64 (i : Int) := pre 3 23 _ (by kernel_rfl) rfl rfl
        clear pre old
        simp only [Array.getD_eq_getD_getElem?] at e21 e22 e23
        go_simp
        obtain ⟨sB, sS, ts, ⟨z, hz, hr, hzt⟩, sn⟩ := hSt
        refine (of_c b s A c i _ ts hi (by omega)).mono ?_
        rintro e w' ⟨rfl, hb'⟩
        exact hK _ ⟨SB.keep sB hb', SS.keep sS hb', ts.keep hb', ⟨z, hz, hr.keep hb', hzt⟩, sn.keep hb'⟩
      refine Vals2.Steps.run (by decide) (by kernel_rfl) (fun tb => ?_) ?_
      · intro a W hSt pre old K hK
        have e3 : a.tmps.getD 3 undef = .int .i64 bal := old 3 _ (by kernel_rfl) rfl
        clear pre old
        simp only [Array.getD_eq_getD_getElem?] at e3
        go_simp
        exact hK _ hSt
      refine Vals2.Steps.run (by decide) (by kernel_rfl) (fun tb => ?_) ?_
      · intro a W hSt pre old K hK
        have e20 : a.tmps.getD 20 undef = .agg (sV s) := pre 0 20 _ (by kernel_rfl) rfl rfl
        have e24 : a.tmps.getD 24 undef = .agg (boxV (bx b s i)) := pre 4 24 _ (by kernel_rfl) rfl rfl
        have e25 : a.tmps.getD 25 undef = .int .i64 bal := pre 5 25 _ (by kernel_rfl) rfl rfl
        clear pre old
        simp only [Array.getD_eq_getD_getElem?] at e20 e24 e25
        go_simp
        obtain ⟨sB, sS, ts, ⟨z, hz, hr, hzt⟩, sn⟩ := hSt
        refine (HC.out _ HOK.out hS.k0 hS.k1 r2 (by omega) (by omega) (by omega)).mono ?_
        rintro e w' ⟨rfl, hb'⟩
        exact hK _ ⟨SB.keep sB hb', SS.keep sS hb', ts.keep hb', ⟨z, hz, hr.keep hb', hzt⟩, sn.keep hb'⟩
      refine Vals2.Steps.turn (by kernel_rfl) ?_ ?_
      · intro a W hSt pre old K hK
        have e8 : a.tmps.getD 8 undef = .pointer (some ⟨w.heap.size + 1 + 1, 0, none⟩) := old 8 _ (by kernel_rfl) rfl
        have e26 : a.tmps.getD 26 undef = .agg #[.int .i64 (rlo (bx b s i) (-s.sink * bal)), .int .i64 (rhi (bx b s i) (-s.sink * bal))] := pre 6 26 _ (by kernel_rfl) rfl rfl
        clear pre old
        simp only [Array.getD_eq_getD_getElem?] at e8 e26
        obtain ⟨sB, sS, ts, ⟨z, hz, hr, hzt⟩, sn⟩ := hSt
        refine wp_store_row 23 (.tmp 8) (.tmp 26) rfl (w.heap.size + 1 + 1) #[.int .i64 (rlo (bx b s i) (-s.sink * bal)), .int .i64 (rhi (bx b s i) (-s.sink * bal))] ?_ ?_ 23 z hr (by kernel_rfl) hz (by simp [Value.oneCell']) ?_
        · simp only [Act.eval, Array.getD_eq_getD_getElem?]; exact e8
        · simp only [Act.eval, Array.getD_eq_getD_getElem?]; exact e26
        exact hK _ ⟨SB.row sB (by omega) _, SS.row sS (by omega) _, TsAt.since hp (sn.row (by omega) _), ⟨_, rfl, hr.row _, fun _ => rfl⟩, sn.row (by omega) _⟩
      refine Vals2.Steps.run (by decide) (by kernel_rfl) (fun tb => ?_) ?_
      · intro a W hSt pre old K hK
        clear pre old
        go_simp
        exact hK _ hSt
      exact Vals2.Steps.nil
    · rintro W ⟨sB, sS, ts, ⟨z, hz, hr, hzt⟩, sn⟩
      obtain rfl := hzt rfl
      simp only [Vals.putAll, List.setIfInBounds_toArray, List.set_cons_zero, List.set_cons_succ]
      go_wp2_with fail
      refine bodyPost_ret (results_cell_tmp Try.results19 _ _ (w.heap.size + 1 + 1) 23 _ (0, 0) _ rfl hr Try.underlying23 rfl (by kernel_rfl)) rfl ⟨?_, sn.1⟩
      rw [HV.out]; rfl
  · have HV : Hid (stopsV b s tide bal = .tuple #[.agg #[.int .i64 0, .int .i64 0], .int .i64 (stepE b s tide bal)]) := by show _ = _; simp [stopsV, hc]
    have hc' : (stepE b s tide bal != 0) = true := by simpa using hc
    clear hc
    go_wp2_with (refine wpList_store_row rfl 23 _ _ rfl (w.heap.size + 1 + 1) _ rfl rfl 23 _ HR1.out (by kernel_rfl) rfl (by simp [Value.oneCell']) ?_)
    refine bodyPost_ret (results_cell_tmp Try.results19 _ _ (w.heap.size + 1 + 1) 23 _ (0, 0) _ rfl (HR1.out.row _) Try.underlying23 rfl (by kernel_rfl)) rfl ⟨?_, ?_⟩
    · rw [HV.out]; rfl
    · exact (hs1.row (by omega) _).1
set_option maxRecDepth 100000 in
set_option maxHeartbeats 8000000 in
theorem rAshore_c (b : Bch) (s : Shp) (A : Option Addr) (c : Nat) (bal : Int) (w : World) (hp : TsAt w A b.ts) :
    Calls Try.prog 21 #[.agg (bV b A c), .agg (sV s), .int .i64 bal] w fun e w' => AshV b s bal e w' ∧ Below w.heap.size w w' := by
  have hs0 := ((Since.refl w).alloc (.cells (bV b A c) 26)).alloc (.cells (sV s) 28)
  have HB0 := Lib.hid ((Blk.new w 26 (bV b A c)).alloc (.cells (sV s) 28))
  have HS0 := Lib.hid (Blk.new1 w (.cells (bV b A c) 26) 28 (sV s))
  obtain ⟨i0, hi, hz0, hz1, hz2⟩ := info_parts Try.infoInt
  have HI := Lib.hid hi
  have HZ0 := Lib.hid hz0
  have HZ1 := Lib.hid hz1
  have HZ2 := Lib.hid hz2
  clear hi hz0 hz1 hz2
  go_enter Try.func21, Try.ntmps21
  go_wp2_with fail
  refine (step_c b s A c 0 bal _ (hp.keep hs0.1)).mono ?_
  rintro e w1 ⟨rfl, hb1⟩
  have hs1 := hs0.keep hb1
  have HB1 : Hid (SB w.heap.size b A c w1) := (HB0.out.keep hb1).beach
  have HS1 : Hid (SS (w.heap.size + 1) s w1) := (HS0.out.keep hb1).ship
  have hz1 : w.heap.size + 1 < w1.heap.size := (HS0.out.keep hb1).lt
  clear HB0 HS0 hb1 hs0
  by_cases hc : stepE b s 0 bal = 0
  · obtain ⟨hk, hr1, hr2, hr3⟩ := stepE_ok hc
    obtain ⟨hB, hS⟩ := chk_ok.1 hk
    have hl : b.ts.length ≤ 12 := hB.n1
    have HC := Lib.hid hc
    rw [hc]
    clear hc hk hr1
    obtain ⟨n, rfl⟩ : ∃ n : Nat, bal = n := ⟨bal.toNat, by omega⟩
    have hn40 : n ≤ 40 := by omega
    go_wp2_with fail
    have hsz := hs1.2
    go_loopw [9, 10] (fun v i wr => ∃ k : Nat, k ≤ b.ts.length ∧ i = .int .i64 k ∧ Since w1 wr ∧ Hid (SB w.heap.size b A c wr) ∧ Hid (SS (w.heap.size + 1) s wr) ∧ Hid (wr.ownsRow w1.heap.size 3 1 v (ashL b s n k).length ((ashL b s n k).map (Value.int .i64))) ∧ Hid (ashL b s n k = [] → v = .slice none 0 0)) (fun _ i _ => b.ts.length - (intOf i).toNat)
    case atStart => exact ⟨0, Nat.zero_le _, rfl, Since.refl _, HB1, HS1, World.ownsRow_nil _ _ _ _, fun _ => rfl⟩
    case round =>
      clear HB1 HS1
      obtain ⟨k, hk, rfl, hsn, HB2, HS2, HO, HN⟩ := hrel
      have hsw := hs1.keep hsn.1
      obtain ⟨c0, c1, c2, c3, c4, c5⟩ := HB2.out
      by_cases hlt : k < b.ts.length
      · have hal := ashL_len b s n k
        have HOK := Lib.hid (bx_ok hB hS hlt)
        cases hd : doesB b s k n
        · have HE : Hid (ashL b s n (k + 1) = ashL b s n k) := by show _ = _; rw [ashL_succ, hd]; rfl
          have HDK : Hid (sur b.mlo b.mhi (bx b s k) (-s.sink * (n : Int)) = false) := hd
          clear hd
          go_wp2_with fail
          refine Vals.region (fun X => SB (w.heap.size) b A c X ∧ SS (w.heap.size + 1) s X ∧ TsAt X A b.ts ∧ Since w1 X ∧ Hid (X.ownsRow w1.heap.size 3 1 u9 (ashL b s n k).length ((ashL b s n k).map (Value.int .i64)))) (fun X => SB (w.heap.size) b A c X ∧ SS (w.heap.size + 1) s X ∧ TsAt X A b.ts ∧ Since w1 X ∧ Hid (X.ownsRow w1.heap.size 3 1 u9 (ashL b s n k).length ((ashL b s n k).map (Value.int .i64)))) [some 25, some 26, some 27, some 28, some 29, some 30, some 31, some 32] [.agg (bV b A c), .agg (sV s), .agg (bV b A c), .agg (sV s), .int .i64 (k : Int), .agg (boxV (bx b s k)), .int .i64 (n : Int), .bool false] (by kernel_rfl) (by kernel_rfl) (by kernel_rfl) (by kernel_rfl) (by kernel_rfl) (by kernel_rfl) (by kernel_rfl) ⟨HB2.out, HS2.out, (hp.keep hsw.1).keep ((Below.refl _ _).drew), hsn.drew, HO.out⟩ ?_ ?_
          · refine Vals.Steps.run (by kernel_rfl) ?_ ?_
            · intro a W hSt pre old K hK
              have e3 : a.tmps.getD 3 undef = .pointer (some ⟨w.heap.size, 0, none⟩) := old 3 _ (by kernel_rfl) rfl
              clear pre old
              simp only [Array.getD_eq_getD_getElem?] at e3
              have hS9 := hSt
              obtain ⟨⟨s0, s1, s2, s3, s4, s5⟩, ⟨d0, d1, d2⟩, ts, sn, ow⟩ := hS9
              go_simp
              exact hK _ hSt
            refine Vals.Steps.run (by kernel_rfl) ?_ ?_
            · intro a W hSt pre old K hK
              have e4 : a.tmps.getD 4 undef = .pointer (some ⟨w.heap.size + 1, 0, none⟩) := old 4 _ (by kernel_rfl) rfl
              clear pre old
              simp only [Array.getD_eq_getD_getElem?] at e4
              have hS9 := hSt
              obtain ⟨⟨s0, s1, s2, s3, s4, s5⟩, ⟨d0, d1, d2⟩, ts, sn, ow⟩ := hS9
              go_simp
              exact hK _ hSt
            refine Vals.Steps.run (by kernel_rfl) ?_ ?_
            · intro a W hSt pre old K hK
              have e3 : a.tmps.getD 3 undef = .pointer (some ⟨w.heap.size, 0, none⟩) := old 3 _ (by kernel_rfl) rfl
              clear pre old
              simp only [Array.getD_eq_getD_getElem?] at e3
              have hS9 := hSt
              obtain ⟨⟨s0, s1, s2, s3, s4, s5⟩, ⟨d0, d1, d2⟩, ts, sn, ow⟩ := hS9
              go_simp
              exact hK _ hSt
            refine Vals.Steps.run (by kernel_rfl) ?_ ?_
            · intro a W hSt pre old K hK
              have e4 : a.tmps.getD 4 undef = .pointer (some ⟨w.heap.size + 1, 0, none⟩) := old 4 _ (by kernel_rfl) rfl
              clear pre old
              simp only [Array.getD_eq_getD_getElem?] at e4
              have hS9 := hSt
              obtain ⟨⟨s0, s1, s2, s3, s4, s5⟩, ⟨d0, d1, d2⟩, ts, sn, ow⟩ := hS9
              go_simp
              exact hK _ hSt
            refine Vals.Steps.run (by kernel_rfl) ?_ ?_
            · intro a W hSt pre old K hK
              have e10 : a.tmps.getD 10 undef = .int .i64 (k : Int) := old 10 _ (by kernel_rfl) rfl
              clear pre old
              simp only [Array.getD_eq_getD_getElem?] at e10
              go_simp
              exact hK _ hSt
            refine Vals.Steps.run (by kernel_rfl) ?_ ?_
            · intro a W hSt pre old K hK
              have e27 : a.tmps.getD 27 undef = .agg (bV b A c) := pre 2 27 _ (by kernel_rfl) rfl rfl
              have e28 : a.tmps.getD 28 undef = .agg (sV s) := pre 3 28 _ (by kernel_rfl) rfl rfl
              have e29 : a.tmps.getD 29 undef = .int .i64 (k : Int) := pre 4 29 _ (by kernel_rfl) rfl rfl
              clear pre old
              simp only [Array.getD_eq_getD_getElem?] at e27 e28 e29
              go_simp
              obtain ⟨sB, sS, ts, sn, ow⟩ := hSt
              refine (of_c b s A c k _ ts hlt (by omega)).mono ?_
              rintro e w' ⟨rfl, hb'⟩
              exact hK _ ⟨SB.keep sB hb', SS.keep sS hb', ts.keep hb', sn.keep hb', own_keep ow.out hb'⟩
            refine Vals.Steps.run (by kernel_rfl) ?_ ?_
            · intro a W hSt pre old K hK
              have e2 : a.tmps.getD 2 undef = .int .i64 (n : Int) := old 2 _ (by kernel_rfl) rfl
              clear pre old
              simp only [Array.getD_eq_getD_getElem?] at e2
              go_simp
              exact hK _ hSt
            refine Vals.Steps.last (by kernel_rfl) ?_
            · intro a W hSt pre old K hK
              have e25 : a.tmps.getD 25 undef = .agg (bV b A c) := pre 0 25 _ (by kernel_rfl) rfl rfl
              have e26 : a.tmps.getD 26 undef = .agg (sV s) := pre 1 26 _ (by kernel_rfl) rfl rfl
              have e30 : a.tmps.getD 30 undef = .agg (boxV (bx b s k)) := pre 5 30 _ (by kernel_rfl) rfl rfl
              have e31 : a.tmps.getD 31 undef = .int .i64 (n : Int) := pre 6 31 _ (by kernel_rfl) rfl rfl
              clear pre old
              simp only [Array.getD_eq_getD_getElem?] at e25 e26 e30 e31
              go_simp
              obtain ⟨sB, sS, ts, sn, ow⟩ := hSt
              refine (rwithin2_c b A c s (bx b s k) (n : Int) _ HOK.out hS.k0 hS.k1 (by omega) (by omega)).mono ?_
              rintro e w' ⟨rfl, hb'⟩
              rw [HDK.out]
              exact hK _ ⟨SB.keep sB hb', SS.keep sS hb', ts.keep hb', sn.keep hb', own_keep ow.out hb'⟩
          · rintro W ⟨sB, sS, ts, sn, ow⟩
            simp only [Vals.putAll, List.setIfInBounds_toArray, List.set_cons_zero, List.set_cons_succ]
            have HSB := Lib.hid sB
            have HSS := Lib.hid sS
            clear sB sS c0 c1 c2 c3 c4 c5
            go_wp2_with fail
            go_roundw
            case rel => exact ⟨k + 1, by omega, by go_num, sn, HSB, HSS, by rw [HE.out]; exact ow, by rw [HE.out]; exact HN⟩
            case measure => simp [intOf]; omega
        · have HE : Hid (ashL b s n (k + 1) = ashL b s n k ++ [(k : Int)]) := by show _ = _; rw [ashL_succ, hd]; rfl
          have HDK : Hid (sur b.mlo b.mhi (bx b s k) (-s.sink * (n : Int)) = true) := hd
          clear hd
          go_wp2_with fail
          refine Vals.region (fun X => SB (w.heap.size) b A c X ∧ SS (w.heap.size + 1) s X ∧ TsAt X A b.ts ∧ Since w1 X ∧ Hid (X.ownsRow w1.heap.size 3 1 u9 (ashL b s n k).length ((ashL b s n k).map (Value.int .i64)))) (fun X => SB (w.heap.size) b A c X ∧ SS (w.heap.size + 1) s X ∧ TsAt X A b.ts ∧ Since w1 X ∧ Hid (X.ownsRow w1.heap.size 3 1 u9 (ashL b s n k).length ((ashL b s n k).map (Value.int .i64)))) [some 25, some 26, some 27, some 28, some 29, some 30, some 31, some 32] [.agg (bV b A c), .agg (sV s), .agg (bV b A c), .agg (sV s), .int .i64 (k : Int), .agg (boxV (bx b s k)), .int .i64 (n : Int), .bool true] (by kernel_rfl) (by kernel_rfl) (by kernel_rfl) (by kernel_rfl) (by kernel_rfl) (by kernel_rfl) (by kernel_rfl) ⟨HB2.out, HS2.out, (hp.keep hsw.1).keep ((Below.refl _ _).drew), hsn.drew, HO.out⟩ ?_ ?_
          · refine Vals.Steps.run (by kernel_rfl) ?_ ?_
            · intro a W hSt pre old K hK
              have e3 : a.tmps.getD 3 undef = .pointer (some ⟨w.heap.size, 0, none⟩) := old 3 _ (by kernel_rfl) rfl
              clear pre old
              simp only [Array.getD_eq_getD_getElem?] at e3
              have hS9 := hSt
              obtain ⟨⟨s0, s1, s2, s3, s4, s5⟩, ⟨d0, d1, d2⟩, ts, sn, ow⟩ := hS9
              go_simp
              exact hK _ hSt
            refine Vals.Steps.run (by kernel_rfl) ?_ ?_
            · intro a W hSt pre old K hK
              have e4 : a.tmps.getD 4 undef = .pointer (some ⟨w.heap.size + 1, 0, none⟩) := old 4 _ (by kernel_rfl) rfl
              clear pre old
              simp only [Array.getD_eq_getD_getElem?] at e4
              have hS9 := hSt
              obtain ⟨⟨s0, s1, s2, s3, s4, s5⟩, ⟨d0, d1, d2⟩, ts, sn, ow⟩ := hS9
              go_simp
              exact hK _ hSt
            refine Vals.Steps.run (by kernel_rfl) ?_ ?_
            · intro a W hSt pre old K hK
              have e3 : a.tmps.getD 3 undef = .pointer (some ⟨w.heap.size, 0, none⟩) := old 3 _ (by kernel_rfl) rfl
              clear pre old
              simp only [Array.getD_eq_getD_getElem?] at e3
              have hS9 := hSt
              obtain ⟨⟨s0, s1, s2, s3, s4, s5⟩, ⟨d0, d1, d2⟩, ts, sn, ow⟩ := hS9
              go_simp
              exact hK _ hSt
            refine Vals.Steps.run (by kernel_rfl) ?_ ?_
            · intro a W hSt pre old K hK
              have e4 : a.tmps.getD 4 undef = .pointer (some ⟨w.heap.size + 1, 0, none⟩) := old 4 _ (by kernel_rfl) rfl
              clear pre old
              simp only [Array.getD_eq_getD_getElem?] at e4
              have hS9 := hSt
              obtain ⟨⟨s0, s1, s2, s3, s4, s5⟩, ⟨d0, d1, d2⟩, ts, sn, ow⟩ := hS9
              go_simp
              exact hK _ hSt
            refine Vals.Steps.run (by kernel_rfl) ?_ ?_
            · intro a W hSt pre old K hK
              have e10 : a.tmps.getD 10 undef = .int .i64 (k : Int) := old 10 _ (by kernel_rfl) rfl
              clear pre old
              simp only [Array.getD_eq_getD_getElem?] at e10
              go_simp
              exact hK _ hSt
            refine Vals.Steps.run (by kernel_rfl) ?_ ?_
            · intro a W hSt pre old K hK
              have e27 : a.tmps.getD 27 undef = .agg (bV b A c) := pre 2 27 _ (by kernel_rfl) rfl rfl
              have e28 : a.tmps.getD 28 undef = .agg (sV s) := pre 3 28 _ (by kernel_rfl) rfl rfl
              have e29 : a.tmps.getD 29 undef = .int .i64 (k : Int) := pre 4 29 _ (by kernel_rfl) rfl rfl
              clear pre old
              simp only [Array.getD_eq_getD_getElem?] at e27 e28 e29
              go_simp
              obtain ⟨sB, sS, ts, sn, ow⟩ := hSt
              refine (of_c b s A c k _ ts hlt (by omega)).mono ?_
              rintro e w' ⟨rfl, hb'⟩
              exact hK _ ⟨SB.keep sB hb', SS.keep sS hb', ts.keep hb', sn.keep hb', own_keep ow.out hb'⟩
            refine Vals.Steps.run (by kernel_rfl) ?_ ?_
            · intro a W hSt pre old K hK
              have e2 : a.tmps.getD 2 undef = .int .i64 (n : Int) := old 2 _ (by kernel_rfl) rfl
              clear pre old
              simp only [Array.getD_eq_getD_getElem?] at e2
              go_simp
              exact hK _ hSt
            refine Vals.Steps.last (by kernel_rfl) ?_
            · intro a W hSt pre old K hK
              have e25 : a.tmps.getD 25 undef = .agg (bV b A c) := pre 0 25 _ (by kernel_rfl) rfl rfl
              have e26 : a.tmps.getD 26 undef = .agg (sV s) := pre 1 26 _ (by kernel_rfl) rfl rfl
              have e30 : a.tmps.getD 30 undef = .agg (boxV (bx b s k)) := pre 5 30 _ (by kernel_rfl) rfl rfl
              have e31 : a.tmps.getD 31 undef = .int .i64 (n : Int) := pre 6 31 _ (by kernel_rfl) rfl rfl
              clear pre old
              simp only [Array.getD_eq_getD_getElem?] at e25 e26 e30 e31
              go_simp
              obtain ⟨sB, sS, ts, sn, ow⟩ := hSt
              refine (rwithin2_c b A c s (bx b s k) (n : Int) _ HOK.out hS.k0 hS.k1 (by omega) (by omega)).mono ?_
              rintro e w' ⟨rfl, hb'⟩
              rw [HDK.out]
              exact hK _ ⟨SB.keep sB hb', SS.keep sS hb', ts.keep hb', sn.keep hb', own_keep ow.out hb'⟩
          · rintro W ⟨sB, sS, ts, sn, ow⟩
            simp only [Vals.putAll, List.setIfInBounds_toArray, List.set_cons_zero, List.set_cons_succ]
            have HSB := Lib.hid sB
            have HSS := Lib.hid sS
            have hz3 := sn.2
            clear sB sS c0 c1 c2 c3 c4 c5
            go_wp2_with (first
              | (at_builtin; refine wpList_append_own _ rfl _ _ 35 rfl w1.heap.size 3 i0 (.int .i64 0) 1 8 Try.underlying35 HI.out HZ0.out HZ1.out HZ2.out rfl (by decide) _ _ _ rfl (ow.out.alloc _) ⟨W.heap.size, 0, none⟩ 1 1 [.int .i64 (k : Int)] rfl rfl ?c1 ?c2 ?c3 ?c4 ?c5 ?_))
            case c1 =>
              intro j u hj
              match j, hj with
              | 0, hj => simp at hj; subst hj; simp [Addr.add]
            case c2 => intro u hu; simp at hu; subst hu; rfl
            case c3 => unfold maxLen; omega
            case c4 => omega
            case c5 => simp; omega
            · intro v' w3 hown' hgrow _
              have hr : ∀ q, Value.ownBlock _ = some q → w1.heap.size ≤ q := fun q hq => (ow.out.lt q hq).1
              have hs4 := since_grown (sn.alloc _) hgrow hr
              have HSB4 : Hid (SB w.heap.size b A c w3) := SB.grown HSB.out (hgrow) (fun q hq => by have := hr q hq; omega)
              have HSS4 : Hid (SS (w.heap.size + 1) s w3) := SS.grown HSS.out (hgrow) (fun q hq => by have := hr q hq; omega)
              have HO3 : Hid (w3.ownsRow w1.heap.size 3 1 v' (ashL b s n (k + 1)).length ((ashL b s n (k + 1)).map (Value.int .i64))) := by
                show World.ownsRow _ _ _ _ _ _ _
                rw [HE.out, List.length_append, List.map_append]
                exact hown'
              have HN3 : Hid (ashL b s n (k + 1) = [] → v' = .slice none 0 0) := by
                show _ → _
                rw [HE.out]
                intro h; simp at h
              clear hown' hgrow hr ow HN HSB HSS
              go_wp2_with fail
              go_roundw
              case rel => exact ⟨k + 1, by omega, by go_num, hs4, HSB4, HSS4, HO3, HN3⟩
              case measure => simp [intOf]; omega
      · have HE : Hid (k = b.ts.length) := by show _ = _; omega
        have HR := Lib.hid (ints_of_own HO.out HN.out)
        rw [HE.out] at HR
        go_wp2_with fail
        go_ret2
        exact ⟨.inr ⟨HC.out, _, rfl, by simpa using HR.out⟩, hsw.1⟩
  · have hc' : (stepE b s 0 bal != 0) = true := by simpa using hc
    have HC := Lib.hid hc
    clear hc
    go_wp2_with fail
    go_ret2
    exact ⟨.inl ⟨HC.out, rfl⟩, hs1.1⟩
end Td
end Go.Proofs.Ytojpiliamecgkaa
