import Derived.Test.YtojpiliamecgkaaLawC
namespace Go.Proofs.Ytojpiliamecgkaa
open Go.RowKit
namespace Td
set_option linter.unusedSimpArgs false
set_option linter.unusedVariables false
abbrev box0 : Array Value := #[.int .i64 0, .int .i64 0, .int .i64 0, .int .i64 0, .int .i64 0, .int .i64 0, .int .i64 0, .int .i64 0]
set_option maxRecDepth 100000 in
set_option maxHeartbeats 4000000 in
theorem of_c (b : Bch) (s : Shp) (A : Option Addr) (c i : Nat) (w : World) (hp : TsAt w A b.ts) (hi : i < b.ts.length) (hl : b.ts.length ≤ 1000) :
    Calls Try.prog 58 #[.agg (bV b A c), .agg (sV s), .int .i64 i] w fun e w' => e = .returned (.agg (boxV (bx b s i))) ∧ Below w.heap.size w w' := by
  obtain ⟨ad, hA, hat⟩ := hp.get hi
  rw [tAt_get hi] at hat
  subst hA
  have hs0 := (((Since.refl w).alloc (.cells (bV b (some ad) c) 26)).alloc (.cells (sV s) 28)).alloc (.cells box0 107)
  have HT0 := Lib.hid (S5.keep hat.s5 hs0.1)
  have HB0 := Lib.hid (((Blk.new w 26 (bV b (some ad) c)).alloc (.cells (sV s) 28)).alloc (.cells box0 107))
  have HS0 := Lib.hid ((Blk.new1 w (.cells (bV b (some ad) c) 26) 28 (sV s)).alloc (.cells box0 107))
  have HR0 := Lib.hid (Blk.new2 w (.cells (bV b (some ad) c) 26) (.cells (sV s) 28) 107 box0)
  clear hat
  have hxx : bx b s i = ⟨b.slo, b.shi, s.dlo, s.dhi, (tAt b i).hlo, (tAt b i).hhi, (tAt b i).wlo, (tAt b i).whi⟩ := rfl
  rw [hxx]
  clear hxx
  generalize tAt b i = t at *
  go_enter Try.func58, Try.ntmps58
  go_wp2_with fail
  refine Vals.region (fun X => SB (w.heap.size) b (some ad) c X ∧ SS (w.heap.size + 1) s X ∧ S5 (ad.add (i * 5)) t X ∧ Hid (Blk X (w.heap.size + 1 + 1) 107 box0) ∧ Since w X) (fun X => Blk X (w.heap.size + 1 + 1) 107 (boxV ⟨b.slo, b.shi, s.dlo, s.dhi, t.hlo, t.hhi, t.wlo, t.whi⟩) ∧ Since w X) [some 7, some 8, some 9, some 10, some 11, some 12, some 13, some 14, some 15, some 16, some 17, some 18, some 19, some 20, some 21, some 22, some 23, none] [.pointer (some ⟨w.heap.size, 0, none⟩), .agg #[.int .i64 b.slo, .int .i64 b.shi], .pointer (some ⟨w.heap.size + 1, 0, none⟩), .agg #[.int .i64 s.dlo, .int .i64 s.dhi], .pointer (some ⟨w.heap.size, 5, none⟩), .slice (some ad) b.ts.length c, .int .i64 (i : Int), .pointer (some (ad.add (i * 5))), .pointer (some (at_ (ad.add (i * 5)) 1)), .agg #[.int .i64 t.hlo, .int .i64 t.hhi], .pointer (some ⟨w.heap.size, 5, none⟩), .slice (some ad) b.ts.length c, .int .i64 (i : Int), .pointer (some (ad.add (i * 5))), .pointer (some (at_ (ad.add (i * 5)) 3)), .agg #[.int .i64 t.wlo, .int .i64 t.whi], .agg (boxV ⟨b.slo, b.shi, s.dlo, s.dhi, t.hlo, t.hhi, t.wlo, t.whi⟩), undef] (by kernel_rfl) (by kernel_rfl) (by kernel_rfl) (by kernel_rfl) (by kernel_rfl) (by kernel_rfl) (by kernel_rfl) ⟨HB0.out.beach, HS0.out.ship, HT0.out.drew, HR0.out, hs0.drew⟩ ?_ ?_
  · refine Vals.Steps.run (by kernel_rfl) ?_ ?_
    · intro a W hSt pre old K hK
      have e3 : a.tmps.getD 3 undef = .pointer (some ⟨w.heap.size, 0, none⟩) := old 3 _ (by kernel_rfl) rfl
      clear pre old
      simp only [Array.getD_eq_getD_getElem?] at e3
      go_simp
      exact hK _ hSt
    refine Vals.Steps.run (by kernel_rfl) ?_ ?_
    · intro a W hSt pre old K hK
      have e7 : a.tmps.getD 7 undef = .pointer (some ⟨w.heap.size, 0, none⟩) := pre 0 7 _ (by kernel_rfl) rfl rfl
      clear pre old
      simp only [Array.getD_eq_getD_getElem?] at e7
      have hS9 := hSt
      obtain ⟨⟨s0, s1, s2, s3, s4, s5⟩, ⟨d0, d1, d2⟩, ⟨a0, a1, a2, a3, a4⟩, hb, hn⟩ := hS9
      go_simp
      exact hK _ hSt
    refine Vals.Steps.run (by kernel_rfl) ?_ ?_
    · intro a W hSt pre old K hK
      have e4 : a.tmps.getD 4 undef = .pointer (some ⟨w.heap.size + 1, 0, none⟩) := old 4 _ (by kernel_rfl) rfl
      clear pre old
      simp only [Array.getD_eq_getD_getElem?] at e4
      go_simp
      exact hK _ hSt
    refine Vals.Steps.run (by kernel_rfl) ?_ ?_
    · intro a W hSt pre old K hK
      have e9 : a.tmps.getD 9 undef = .pointer (some ⟨w.heap.size + 1, 0, none⟩) := pre 2 9 _ (by kernel_rfl) rfl rfl
      clear pre old
      simp only [Array.getD_eq_getD_getElem?] at e9
      have hS9 := hSt
      obtain ⟨⟨s0, s1, s2, s3, s4, s5⟩, ⟨d0, d1, d2⟩, ⟨a0, a1, a2, a3, a4⟩, hb, hn⟩ := hS9
      go_simp
      exact hK _ hSt
    refine Vals.Steps.run (by kernel_rfl) ?_ ?_
    · intro a W hSt pre old K hK
      have e3 : a.tmps.getD 3 undef = .pointer (some ⟨w.heap.size, 0, none⟩) := old 3 _ (by kernel_rfl) rfl
      clear pre old
      simp only [Array.getD_eq_getD_getElem?] at e3
      go_simp
      exact hK _ hSt
    refine Vals.Steps.run (by kernel_rfl) ?_ ?_
    · intro a W hSt pre old K hK
      have e11 : a.tmps.getD 11 undef = .pointer (some ⟨w.heap.size, 5, none⟩) := pre 4 11 _ (by kernel_rfl) rfl rfl
      clear pre old
      simp only [Array.getD_eq_getD_getElem?] at e11
      have hS9 := hSt
      obtain ⟨⟨s0, s1, s2, s3, s4, s5⟩, ⟨d0, d1, d2⟩, ⟨a0, a1, a2, a3, a4⟩, hb, hn⟩ := hS9
      go_simp
      exact hK _ hSt
    refine Vals.Steps.run (by kernel_rfl) ?_ ?_
    · intro a W hSt pre old K hK
      have e2 : a.tmps.getD 2 undef = .int .i64 (i : Int) := old 2 _ (by kernel_rfl) rfl
      clear pre old
      simp only [Array.getD_eq_getD_getElem?] at e2
      go_simp
      exact hK _ hSt
    refine Vals.Steps.run (by kernel_rfl) ?_ ?_
    · intro a W hSt pre old K hK
      have e12 : a.tmps.getD 12 undef = .slice (some ad) b.ts.length c := pre 5 12 _ (by kernel_rfl) rfl rfl
      have e13 : a.tmps.getD 13 undef = .int .i64 (i : Int) := pre 6 13 _ (by kernel_rfl) rfl rfl
      clear pre old
      simp only [Array.getD_eq_getD_getElem?] at e12 e13
      go_simp
      exact hK _ hSt
    refine Vals.Steps.run (by kernel_rfl) ?_ ?_
    · intro a W hSt pre old K hK
      have e14 : a.tmps.getD 14 undef = .pointer (some (ad.add (i * 5))) := pre 7 14 _ (by kernel_rfl) rfl rfl
      clear pre old
      simp only [Array.getD_eq_getD_getElem?] at e14
      go_simp
      exact hK _ hSt
    refine Vals.Steps.run (by kernel_rfl) ?_ ?_
    · intro a W hSt pre old K hK
      have e15 : a.tmps.getD 15 undef = .pointer (some (at_ (ad.add (i * 5)) 1)) := pre 8 15 _ (by kernel_rfl) rfl rfl
      clear pre old
      simp only [Array.getD_eq_getD_getElem?] at e15
      have hS9 := hSt
      obtain ⟨⟨s0, s1, s2, s3, s4, s5⟩, ⟨d0, d1, d2⟩, ⟨a0, a1, a2, a3, a4⟩, hb, hn⟩ := hS9
      go_simp
      exact hK _ hSt
    refine Vals.Steps.run (by kernel_rfl) ?_ ?_
    · intro a W hSt pre old K hK
      have e3 : a.tmps.getD 3 undef = .pointer (some ⟨w.heap.size, 0, none⟩) := old 3 _ (by kernel_rfl) rfl
      clear pre old
      simp only [Array.getD_eq_getD_getElem?] at e3
      go_simp
      exact hK _ hSt
    refine Vals.Steps.run (by kernel_rfl) ?_ ?_
    · intro a W hSt pre old K hK
      have e17 : a.tmps.getD 17 undef = .pointer (some ⟨w.heap.size, 5, none⟩) := pre 10 17 _ (by kernel_rfl) rfl rfl
      clear pre old
      simp only [Array.getD_eq_getD_getElem?] at e17
      have hS9 := hSt
      obtain ⟨⟨s0, s1, s2, s3, s4, s5⟩, ⟨d0, d1, d2⟩, ⟨a0, a1, a2, a3, a4⟩, hb, hn⟩ := hS9
      go_simp
      exact hK _ hSt
    refine Vals.Steps.run (by kernel_rfl) ?_ ?_
    · intro a W hSt pre old K hK
      have e2 : a.tmps.getD 2 undef = .int .i64 (i : Int) := old 2 _ (by kernel_rfl) rfl
      clear pre old
      simp only [Array.getD_eq_getD_getElem?] at e2
      go_simp
      exact hK _ hSt
    refine Vals.Steps.run (by kernel_rfl) ?_ ?_
    · intro a W hSt pre old K hK
      have e18 : a.tmps.getD 18 undef = .slice (some ad) b.ts.length c := pre 11 18 _ (by kernel_rfl) rfl rfl
      have e19 : a.tmps.getD 19 undef = .int .i64 (i : Int) := pre 12 19 _ (by kernel_rfl) rfl rfl
      clear pre old
      simp only [Array.getD_eq_getD_getElem?] at e18 e19
      go_simp
      exact hK _ hSt
    refine Vals.Steps.run (by kernel_rfl) ?_ ?_
    · intro a W hSt pre old K hK
      have e20 : a.tmps.getD 20 undef = .pointer (some (ad.add (i * 5))) := pre 13 20 _ (by kernel_rfl) rfl rfl
      clear pre old
      simp only [Array.getD_eq_getD_getElem?] at e20
      go_simp
      exact hK _ hSt
    refine Vals.Steps.run (by kernel_rfl) ?_ ?_
    · intro a W hSt pre old K hK
      have e21 : a.tmps.getD 21 undef = .pointer (some (at_ (ad.add (i * 5)) 3)) := pre 14 21 _ (by kernel_rfl) rfl rfl
      clear pre old
      simp only [Array.getD_eq_getD_getElem?] at e21
      have hS9 := hSt
      obtain ⟨⟨s0, s1, s2, s3, s4, s5⟩, ⟨d0, d1, d2⟩, ⟨a0, a1, a2, a3, a4⟩, hb, hn⟩ := hS9
      go_simp
      exact hK _ hSt
    refine Vals.Steps.run (by kernel_rfl) ?_ ?_
    · intro a W hSt pre old K hK
      have e8 : a.tmps.getD 8 undef = .agg #[.int .i64 b.slo, .int .i64 b.shi] := pre 1 8 _ (by kernel_rfl) rfl rfl
      have e10 : a.tmps.getD 10 undef = .agg #[.int .i64 s.dlo, .int .i64 s.dhi] := pre 3 10 _ (by kernel_rfl) rfl rfl
      have e16 : a.tmps.getD 16 undef = .agg #[.int .i64 t.hlo, .int .i64 t.hhi] := pre 9 16 _ (by kernel_rfl) rfl rfl
      have e22 : a.tmps.getD 22 undef = .agg #[.int .i64 t.wlo, .int .i64 t.whi] := pre 15 22 _ (by kernel_rfl) rfl rfl
      clear pre old
      simp only [Array.getD_eq_getD_getElem?] at e8 e10 e16 e22
      go_simp
      exact hK _ hSt
    refine Vals.Steps.last (by kernel_rfl) ?_
    · intro a W hSt pre old K hK
      have e6 : a.tmps.getD 6 undef = .pointer (some ⟨w.heap.size + 1 + 1, 0, none⟩) := old 6 _ (by kernel_rfl) rfl
      have e23 : a.tmps.getD 23 undef = .agg (boxV ⟨b.slo, b.shi, s.dlo, s.dhi, t.hlo, t.hhi, t.wlo, t.whi⟩) := pre 16 23 _ (by kernel_rfl) rfl rfl
      clear pre old
      simp only [Array.getD_eq_getD_getElem?] at e6 e23
      obtain ⟨s0, s1, s2, s3, s4⟩ := hSt
      refine wp_store_row 107 (.tmp 6) (.tmp 23) rfl (w.heap.size + 1 + 1) (boxV ⟨b.slo, b.shi, s.dlo, s.dhi, t.hlo, t.hhi, t.wlo, t.whi⟩) ?_ ?_ 107 box0 s3.out (by kernel_rfl) rfl (by simp [Value.oneCell']) ?_
      · simp only [Act.eval, Array.getD_eq_getD_getElem?]; exact e6
      · simp only [Act.eval, Array.getD_eq_getD_getElem?]; exact e23
      exact hK _ ⟨s3.out.row _, s4.row (by omega) _⟩
  · rintro W ⟨t0, t1⟩
    simp only [Vals.putAll, List.setIfInBounds_toArray, List.set_cons_zero, List.set_cons_succ]
    go_wp2_with fail
    (refine bodyPost_ret (v := .agg _) ?_ rfl ⟨rfl, ?_⟩; exact (results_cell_row Try.results58 _ _ (w.heap.size + 1 + 1) 107 _ (0, 0) _ rfl t0 Try.underlying107 rfl (by kernel_rfl)))
    exact t1.1
set_option maxRecDepth 100000 in
set_option maxHeartbeats 4000000 in
theorem rreach_c (s : Shp) (x : Box) (bal bite : Int) (w : World) (hx : BoxOk x) (k0 : 0 ≤ s.sink) (k1 : s.sink ≤ 50) (n0 : 0 ≤ bal) (n1 : bal ≤ 100) (b0 : -1000 ≤ bite) (b1 : bite ≤ 1000) :
    Calls Try.prog 57 #[.agg (sV s), .agg (boxV x), .int .i64 bal, .int .i64 bite] w fun e w' => e = .returned (.agg #[.int .i64 (rlo x (-s.sink * bal + bite)), .int .i64 (rhi x (-s.sink * bal + bite))]) ∧ Below w.heap.size w w' := by
  have HX := Lib.hid hx
  have t1 : TrOk x.slo x.dhi x.hlo x.wlo := by obtain ⟨_, _, _, _, _, _, _, _, _, _, _, _⟩ := hx; refine ⟨?_, ?_, ?_, ?_, ?_, ?_, ?_, ?_⟩ <;> omega
  have t2 : TrOk x.shi x.dhi x.hlo x.wlo := by obtain ⟨_, _, _, _, _, _, _, _, _, _, _, _⟩ := hx; refine ⟨?_, ?_, ?_, ?_, ?_, ?_, ?_, ?_⟩ <;> omega
  have t3 : TrOk x.slo x.dlo x.hhi x.whi := by obtain ⟨_, _, _, _, _, _, _, _, _, _, _, _⟩ := hx; refine ⟨?_, ?_, ?_, ?_, ?_, ?_, ?_, ?_⟩ <;> omega
  have t4 : TrOk x.shi x.dlo x.hhi x.whi := by obtain ⟨_, _, _, _, _, _, _, _, _, _, _, _⟩ := hx; refine ⟨?_, ?_, ?_, ?_, ?_, ?_, ?_, ?_⟩ <;> omega
  have T1 := Lib.hid t1
  have T2 := Lib.hid t2
  have T3 := Lib.hid t3
  have T4 := Lib.hid t4
  clear t1 t2 t3 t4 hx
  have HLO : Hid (rlo x (-s.sink * bal + bite) = min (pl x.slo x.dhi x.hlo x.wlo (-s.sink * bal + bite)) (pl x.shi x.dhi x.hlo x.wlo (-s.sink * bal + bite))) := rfl
  have HHI : Hid (rhi x (-s.sink * bal + bite) = max (pl x.slo x.dlo x.hhi x.whi (-s.sink * bal + bite)) (pl x.shi x.dlo x.hhi x.whi (-s.sink * bal + bite))) := rfl
  have hs0 := (((Since.refl w).alloc (.cells (sV s) 28)).alloc (.cells (boxV x) 107)).alloc (.cells #[.int .i64 0, .int .i64 0] 23)
  have HS0 := Lib.hid (((Blk.new w 28 (sV s)).alloc (.cells (boxV x) 107)).alloc (.cells #[.int .i64 0, .int .i64 0] 23))
  have HB0 := Lib.hid ((Blk.new1 w (.cells (sV s) 28) 107 (boxV x)).alloc (.cells #[.int .i64 0, .int .i64 0] 23))
  have HR0 := Lib.hid (Blk.new2 w (.cells (sV s) 28) (.cells (boxV x) 107) 23 #[.int .i64 0, .int .i64 0])
  go_enter Try.func57, Try.ntmps57
  go_wp2_with fail
  refine (at_c s x.slo x.dhi x.hlo x.wlo bal bite _ T1.out k0 k1 n0 n1 b0 b1).mono ?_
  rintro e w1 ⟨rfl, hb1⟩
  have hs1 := hs0.keep hb1
  have HS1 := Lib.hid (HS0.out.keep hb1)
  have HB1 := Lib.hid (HB0.out.keep hb1)
  have HR1 := Lib.hid (HR0.out.keep hb1)
  clear hs0 HS0 HB0 HR0 hb1 
  obtain ⟨d0, d1, d2⟩ := HS1.out.ship
  obtain ⟨c0, c1, c2, c3, c4, c5, c6, c7⟩ := HB1.out.box
  obtain ⟨p1, hp1⟩ : ∃ p, pl x.slo x.dhi x.hlo x.wlo (-s.sink * bal + bite) = p := ⟨_, rfl⟩
  rw [hp1] at HLO ⊢
  clear hp1
  go_wp2_with fail
  refine (at_c s x.shi x.dhi x.hlo x.wlo bal bite _ T2.out k0 k1 n0 n1 b0 b1).mono ?_
  rintro e w2 ⟨rfl, hb2⟩
  have hs2 := hs1.keep hb2
  have HS2 := Lib.hid (HS1.out.keep hb2)
  have HB2 := Lib.hid (HB1.out.keep hb2)
  have HR2 := Lib.hid (HR1.out.keep hb2)
  clear hs1 HS1 HB1 HR1 hb2 c0 c1 c2 c3 c4 c5 c6 c7 d0 d1 d2
  obtain ⟨d0, d1, d2⟩ := HS2.out.ship
  obtain ⟨c0, c1, c2, c3, c4, c5, c6, c7⟩ := HB2.out.box
  obtain ⟨p2, hp2⟩ : ∃ p, pl x.shi x.dhi x.hlo x.wlo (-s.sink * bal + bite) = p := ⟨_, rfl⟩
  rw [hp2] at HLO ⊢
  clear hp2
  go_wp2_with fail
  refine (at_c s x.slo x.dlo x.hhi x.whi bal bite _ T3.out k0 k1 n0 n1 b0 b1).mono ?_
  rintro e w3 ⟨rfl, hb3⟩
  have hs3 := hs2.keep hb3
  have HS3 := Lib.hid (HS2.out.keep hb3)
  have HB3 := Lib.hid (HB2.out.keep hb3)
  have HR3 := Lib.hid (HR2.out.keep hb3)
  clear hs2 HS2 HB2 HR2 hb3 c0 c1 c2 c3 c4 c5 c6 c7 d0 d1 d2
  obtain ⟨d0, d1, d2⟩ := HS3.out.ship
  obtain ⟨c0, c1, c2, c3, c4, c5, c6, c7⟩ := HB3.out.box
  obtain ⟨p3, hp3⟩ : ∃ p, pl x.slo x.dlo x.hhi x.whi (-s.sink * bal + bite) = p := ⟨_, rfl⟩
  rw [hp3] at HHI ⊢
  clear hp3
  go_wp2_with fail
  refine (at_c s x.shi x.dlo x.hhi x.whi bal bite _ T4.out k0 k1 n0 n1 b0 b1).mono ?_
  rintro e w4 ⟨rfl, hb4⟩
  have hs4 := hs3.keep hb4
  have HS4 := Lib.hid (HS3.out.keep hb4)
  have HB4 := Lib.hid (HB3.out.keep hb4)
  have HR4 := Lib.hid (HR3.out.keep hb4)
  clear hs3 HS3 HB3 HR3 hb4 c0 c1 c2 c3 c4 c5 c6 c7 d0 d1 d2
  obtain ⟨d0, d1, d2⟩ := HS4.out.ship
  obtain ⟨c0, c1, c2, c3, c4, c5, c6, c7⟩ := HB4.out.box
  obtain ⟨p4, hp4⟩ : ∃ p, pl x.shi x.dlo x.hhi x.whi (-s.sink * bal + bite) = p := ⟨_, rfl⟩
  rw [hp4] at HHI ⊢
  clear hp4
  rcases (by omega : (p2 < p1 ∧ min p1 p2 = p2) ∨ (¬ p2 < p1 ∧ min p1 p2 = p1)) with ⟨h1, hx1⟩ | ⟨h1, hx1⟩ <;> rcases (by omega : (p3 < p4 ∧ max p3 p4 = p4) ∨ (¬ p3 < p4 ∧ max p3 p4 = p3)) with ⟨h2, hx2⟩ | ⟨h2, hx2⟩
  all_goals
    rw [hx1] at HLO
    rw [hx2] at HHI
    clear hx1 hx2
    go_wp2_with (refine wpList_store_row rfl 23 _ _ rfl (w.heap.size + 1 + 1) _ rfl rfl 23 _ HR4.out (by kernel_rfl) rfl (by simp [Value.oneCell']) ?_)
    refine bodyPost_ret (v := .agg _) (results_cell_row Try.results57 _ _ (w.heap.size + 1 + 1) 23 _ (0, 0) _ rfl (HR4.out.row _) Try.underlying23 rfl (by kernel_rfl)) rfl ⟨?_, ?_⟩
    · rw [HLO.out, HHI.out]
    · exact (hs4.row (by omega) _).1
set_option maxRecDepth 100000 in
set_option maxHeartbeats 4000000 in
theorem rwithin2_c (b : Bch) (A : Option Addr) (c : Nat) (s : Shp) (x : Box) (bal : Int) (w : World) (hx : BoxOk x) (k0 : 0 ≤ s.sink) (k1 : s.sink ≤ 50) (n0 : 0 ≤ bal) (n1 : bal ≤ 100) :
    Calls Try.prog 60 #[.agg (bV b A c), .agg (sV s), .agg (boxV x), .int .i64 bal] w fun e w' => e = .returned (.bool (sur b.mlo b.mhi x (-s.sink * bal))) ∧ Below w.heap.size w w' := by
  have hs0 := (((Since.refl w).alloc (.cells (bV b A c) 26)).alloc (.cells (sV s) 28)).alloc (.cells (boxV x) 107)
  have HB0 := Lib.hid (((Blk.new w 26 (bV b A c)).alloc (.cells (sV s) 28)).alloc (.cells (boxV x) 107))
  have hz : -s.sink * bal + 0 = -s.sink * bal := by omega
  have HV : Hid (sur b.mlo b.mhi x (-s.sink * bal) = (decide (b.mlo ≤ rlo x (-s.sink * bal)) && decide (rhi x (-s.sink * bal) ≤ b.mhi))) := by rfl
  have HC := rreach_c s x bal 0
  rw [hz] at HC
  have HC2 := Lib.hid HC
  clear HC hz
  obtain ⟨r1, hr1⟩ : ∃ r, rlo x (-s.sink * bal) = r := ⟨_, rfl⟩
  obtain ⟨r2, hr2⟩ : ∃ r, rhi x (-s.sink * bal) = r := ⟨_, rfl⟩
  rw [hr1, hr2] at HV HC2
  clear hr1 hr2
  by_cases h1 : b.mlo ≤ r1 <;> by_cases h2 : r2 ≤ b.mhi
  all_goals
    have hv2 := HV.out
    simp only [h1, h2, decide_true, decide_false, Bool.and_true, Bool.and_false] at hv2
    have HV2 := Lib.hid hv2
    clear hv2
    go_enter Try.func60, Try.ntmps60
    go_wp2_with fail
    refine (HC2.out _ hx k0 k1 n0 n1 (by omega) (by omega)).mono ?_
    rintro e w1 ⟨rfl, hb1⟩
    have HB1 := Lib.hid (HB0.out.keep hb1)
    have hl := HB1.out.lt
    have c2 := HB1.out.cell 2
    have c3 := HB1.out.cell 3
    have hs1 := hs0.keep hb1
    simp only [List.getElem?_toArray, List.getElem?_cons_zero, List.getElem?_cons_succ] at c2 c3
    go_wp2_with fail
    go_ret
    first
      | exact ⟨ret_bool HV2.out.symm, (hs1.alloc _).1⟩
      | exact ⟨ret_bool (by rw [HV2.out]; exact decide_eq_false (by omega)), (hs1.alloc _).1⟩
set_option maxRecDepth 100000 in
set_option maxHeartbeats 4000000 in
theorem step_c (b : Bch) (s : Shp) (A : Option Addr) (c : Nat) (tide bal : Int) (w : World) (hp : TsAt w A b.ts) :
    Calls Try.prog 56 #[.agg (bV b A c), .agg (sV s), .int .i64 tide, .int .i64 bal] w fun e w' => e = .returned (.int .i64 (stepE b s tide bal)) ∧ Below w.heap.size w w' := by
  have hs0 := ((Since.refl w).alloc (.cells (bV b A c) 26)).alloc (.cells (sV s) 28)
  have HB0 := Lib.hid ((Blk.new w 26 (bV b A c)).alloc (.cells (sV s) 28))
  by_cases hk : (chk b s).2.2 = 0
  · have HV := Lib.hid (stepE_run (tide := tide) (bal := bal) hk)
    have hl12 : b.ts.length ≤ 12 := (chk_ok.1 hk).1.n1
    go_enter Try.func56, Try.ntmps56
    go_wp2_with fail
    refine (rcheck_c b s A c _ (hp.keep hs0.1)).mono ?_
    rintro e w1 ⟨rfl, hb1⟩
    rw [hk]
    clear hk
    have hs1 := hs0.keep hb1
    obtain ⟨c0, c1, c2, c3, c4, c5⟩ := (HB0.out.keep hb1).beach
    clear hb1
    go_wp2_with fail
    refine (in_c _ _ _ _).mono ?_
    rintro e w' ⟨rfl, rfl⟩
    cases h1 : wi 0 ((b.ts.length : Int) - 1) tide
    · have HE : Hid (runE b.ts.length tide bal = 4) := by show _ = _; unfold runE; rw [h1]; rfl
      clear h1
      go_wp2_with fail
      go_ret
      exact ⟨ret_int (by rw [HV.out, HE.out]), hs1.1⟩
    · have HE : Hid (runE b.ts.length tide bal = rgE 0 40 bal) := by show _ = _; unfold runE rgE; rw [h1]; rfl
      clear h1
      go_wp2_with fail
      refine (ranged_c _ _ _ _).mono ?_
      rintro e w' ⟨rfl, rfl⟩
      go_wp2_with fail
      go_ret
      exact ⟨ret_int (by rw [HV.out, HE.out]), hs1.1⟩
  · have HV := Lib.hid (stepE_chk (tide := tide) (bal := bal) hk)
    have hne : ((chk b s).2.2 == 0) = false := by simpa using hk
    clear hk
    go_enter Try.func56, Try.ntmps56
    go_wp2_with fail
    refine (rcheck_c b s A c _ (hp.keep hs0.1)).mono ?_
    rintro e w1 ⟨rfl, hb1⟩
    have hs1 := hs0.keep hb1
    go_wp2_with fail
    go_ret
    exact ⟨ret_int HV.out.symm, hs1.1⟩
end Td
end Go.Proofs.Ytojpiliamecgkaa
