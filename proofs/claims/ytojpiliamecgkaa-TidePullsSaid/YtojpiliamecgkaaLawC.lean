import Derived.Test.YtojpiliamecgkaaLawB
import Derived.Test.YtojpiliamecgkaaVals
namespace Go.Proofs.Ytojpiliamecgkaa
open Go.RowKit
namespace Td
set_option linter.unusedSimpArgs false
set_option linter.unusedVariables false
/-- ANY truth of a tide, by turns. -/
def truthV (x : Box) (i : Nat) (l : List Int) : Int × Int × Int × Int := (amongV x.slo x.shi (turnV l 0), amongV x.dlo x.dhi (turnV l 1), amongV x.hlo x.hhi (turnV l (2 * i + 2)), amongV x.wlo x.whi (turnV l (2 * i + 3)))
theorem truthV_in {x : Box} (hx : BoxOk x) (i : Nat) (l : List Int) : Inn x (truthV x i l).1 (truthV x i l).2.1 (truthV x i l).2.2.1 (truthV x i l).2.2.2 := by
  obtain ⟨_, _, _, _, _, _, _, _, _, _, _, _⟩ := hx
  have a := amongV_in (lo := x.slo) (hi := x.shi) (n := turnV l 0) (by omega)
  have b := amongV_in (lo := x.dlo) (hi := x.dhi) (n := turnV l 1) (by omega)
  have c := amongV_in (lo := x.hlo) (hi := x.hhi) (n := turnV l (2 * i + 2)) (by omega)
  have d := amongV_in (lo := x.wlo) (hi := x.whi) (n := turnV l (2 * i + 3)) (by omega)
  exact ⟨a.1, a.2, b.1, b.2, c.1, c.2, d.1, d.2⟩
abbrev C5 (g : Nat) (a b c d e : Int) (X : World) : Prop := X.cell? ⟨g, 0, none⟩ = some (.int .i64 a) ∧ X.cell? ⟨g, 1, none⟩ = some (.int .i64 b) ∧ X.cell? ⟨g, 2, none⟩ = some (.int .i64 c) ∧ X.cell? ⟨g, 3, none⟩ = some (.int .i64 d) ∧ X.cell? ⟨g, 4, none⟩ = some (.int .i64 e)
theorem C5.keep {g : Nat} {a b c d e : Int} {w w' : World} (h : C5 g a b c d e w) (hb : Below w.heap.size w w') : C5 g a b c d e w' := ⟨keep_cell hb h.1, keep_cell hb h.2.1, keep_cell hb h.2.2.1, keep_cell hb h.2.2.2.1, keep_cell hb h.2.2.2.2⟩
theorem Blk.c5 {w : World} {g : Nat} {t : TypeId} {a b c d e : Int} (h : Blk w g t #[.int .i64 a, .int .i64 b, .int .i64 c, .int .i64 d, .int .i64 e]) : C5 g a b c d e w := ⟨h.cell 0, h.cell 1, h.cell 2, h.cell 3, h.cell 4⟩
set_option maxRecDepth 100000 in
set_option maxHeartbeats 4000000 in
theorem truth_c (b : Bch) (s : Shp) (A : Option Addr) (c i : Nat) (P : Option Addr) (l : List Int) (pc : Nat) (w : World) (hp : TsAt w A b.ts) (hB : BchOk b) (hS : ShpOk s) (hi : i < b.ts.length) (hu : U16At w P l) (ho : U16Ok l) :
    Calls Try.prog 39 #[.agg (bV b A c), .agg (sV s), .int .i64 i, .slice P l.length pc] w fun e w' => e = .returned (.agg (trV (truthV (bx b s i) i l).1 (truthV (bx b s i) i l).2.1 (truthV (bx b s i) i l).2.2.1 (truthV (bx b s i) i l).2.2.2)) ∧ Below w.heap.size w w' := by
  have hl12 : b.ts.length ≤ 12 := hB.n1
  have hT : TidOk (tAt b i) := by
    have := hB.ts i hi
    rwa [tAt_get hi] at this
  have HO := Lib.hid ho
  have b0 := turnV_bd ho 0
  have b1 := turnV_bd ho 1
  have b2 := turnV_bd ho (2 * i + 2)
  have b3 := turnV_bd ho (2 * i + 3)
  clear ho
  obtain ⟨ad, hA, hat⟩ := hp.get hi
  rw [tAt_get hi] at hat
  subst hA
  have hb3 : Below w.heap.size w (((w.alloc (.cells (bV b (some ad) c) 26)).alloc (.cells (sV s) 28)).alloc (.cells (trV 0 0 0 0) 45)) := (((Below.refl _ _).alloc (Nat.le_refl _) _).alloc (by simp) _).alloc (by simp; omega) _
  obtain ⟨c0, c1, c2, c3, c4⟩ := hat.keep hb3
  have hs0 : Since w _ := (Since.of hb3).alloc (.cells (tV (tAt b i)) 67)
  have HB0 := Lib.hid (((Blk.new w 26 (bV b (some ad) c)).alloc (.cells (sV s) 28)).alloc (.cells (trV 0 0 0 0) 45) |>.alloc (.cells (tV (tAt b i)) 67))
  have HS0 := Lib.hid ((Blk.new1 w (.cells (bV b (some ad) c) 26) 28 (sV s)).alloc (.cells (trV 0 0 0 0) 45) |>.alloc (.cells (tV (tAt b i)) 67))
  have HR0 := Lib.hid ((Blk.new2 w (.cells (bV b (some ad) c) 26) (.cells (sV s) 28) 45 (trV 0 0 0 0)).alloc (.cells (tV (tAt b i)) 67))
  have HT0 := Lib.hid (Blk.new3 w (.cells (bV b (some ad) c) 26) (.cells (sV s) 28) (.cells (trV 0 0 0 0) 45) 67 (tV (tAt b i)))
  have hxx : bx b s i = ⟨b.slo, b.shi, s.dlo, s.dhi, (tAt b i).hlo, (tAt b i).hhi, (tAt b i).wlo, (tAt b i).whi⟩ := rfl
  rw [hxx]
  clear hxx hb3 hat
  unfold truthV
  simp only
  generalize tAt b i = t at *
  have hw1 : IntKind.i64.wrap (2 * (i : Int)) = 2 * (i : Int) := IntWalk.i64_in _ (by omega)
  have hw2 : IntKind.i64.wrap (2 * (i : Int) + 2) = 2 * (i : Int) + 2 := IntWalk.i64_in _ (by omega)
  have hw3 : IntKind.i64.wrap (2 * (i : Int) + 3) = 2 * (i : Int) + 3 := IntWalk.i64_in _ (by omega)
  go_enter Try.func39, Try.ntmps39
  go_wp2_with fail
  refine Vals.region (fun X => SB (w.heap.size) b (some ad) c X ∧ SS (w.heap.size + 1) s X ∧ C5 (w.heap.size + 1 + 1 + 1) t.day t.hlo t.hhi t.wlo t.whi X ∧ U16At X P l ∧ Hid (Blk X (w.heap.size + 1 + 1) 45 (trV 0 0 0 0)) ∧ Since w X) (fun X => Blk X (w.heap.size + 1 + 1) 45 (trV (amongV b.slo b.shi (turnV l 0)) (amongV s.dlo s.dhi (turnV l 1)) (amongV t.hlo t.hhi (turnV l (2 * i + 2))) (amongV t.wlo t.whi (turnV l (2 * i + 3)))) ∧ Since w X) [some 15, some 16, some 17, some 18, some 19, some 20, some 21, some 22, some 23, some 24, some 25, some 26, some 27, some 28, some 29, some 30, some 31, some 32, some 33, some 34, some 35, some 36, some 37, some 38, some 39, some 40, some 41, none] [.pointer (some ⟨w.heap.size, 0, none⟩), .agg #[.int .i64 b.slo, .int .i64 b.shi], .slice P l.length pc, .int .i64 (turnV l 0), .int .i64 (amongV b.slo b.shi (turnV l 0)), .pointer (some ⟨w.heap.size + 1, 0, none⟩), .agg #[.int .i64 s.dlo, .int .i64 s.dhi], .slice P l.length pc, .int .i64 (turnV l 1), .int .i64 (amongV s.dlo s.dhi (turnV l 1)), .pointer (some ⟨w.heap.size + 1 + 1 + 1, 1, none⟩), .agg #[.int .i64 t.hlo, .int .i64 t.hhi], .slice P l.length pc, .int .i64 (i : Int), .int .i64 (2 * (i : Int)), .int .i64 (2 * (i : Int) + 2), .int .i64 (turnV l (2 * i + 2)), .int .i64 (amongV t.hlo t.hhi (turnV l (2 * i + 2))), .pointer (some ⟨w.heap.size + 1 + 1 + 1, 3, none⟩), .agg #[.int .i64 t.wlo, .int .i64 t.whi], .slice P l.length pc, .int .i64 (i : Int), .int .i64 (2 * (i : Int)), .int .i64 (2 * (i : Int) + 3), .int .i64 (turnV l (2 * i + 3)), .int .i64 (amongV t.wlo t.whi (turnV l (2 * i + 3))), .agg (trV (amongV b.slo b.shi (turnV l 0)) (amongV s.dlo s.dhi (turnV l 1)) (amongV t.hlo t.hhi (turnV l (2 * i + 2))) (amongV t.wlo t.whi (turnV l (2 * i + 3)))), undef] (by kernel_rfl) (by kernel_rfl) (by kernel_rfl) (by kernel_rfl) (by kernel_rfl) (by kernel_rfl) (by kernel_rfl) ⟨HB0.out.beach, HS0.out.ship, HT0.out.c5, (hu.keep hs0.1).drew, HR0.out, hs0.drew⟩ ?_ ?_
  · refine Vals.Steps.run (by kernel_rfl) ?_ ?_
    · intro a W hSt pre old K hK
      have e4 : a.tmps.getD 4 undef = .pointer (some ⟨w.heap.size, 0, none⟩) := old 4 _ (by kernel_rfl) rfl
      clear pre old
      simp only [Array.getD_eq_getD_getElem?] at e4
      go_simp
      exact hK _ hSt
    refine Vals.Steps.run (by kernel_rfl) ?_ ?_
    · intro a W hSt pre old K hK
      have e15 : a.tmps.getD 15 undef = .pointer (some ⟨w.heap.size, 0, none⟩) := pre 0 15 _ (by kernel_rfl) rfl rfl
      clear pre old
      simp only [Array.getD_eq_getD_getElem?] at e15
      have hS9 := hSt
      obtain ⟨s0, s1, s2, s3, s4, s5⟩ := hS9
      go_simp
      exact hK _ hSt
    refine Vals.Steps.run (by kernel_rfl) ?_ ?_
    · intro a W hSt pre old K hK
      have e3 : a.tmps.getD 3 undef = .slice P l.length pc := old 3 _ (by kernel_rfl) rfl
      clear pre old
      simp only [Array.getD_eq_getD_getElem?] at e3
      go_simp
      exact hK _ hSt
    refine Vals.Steps.run (by kernel_rfl) ?_ ?_
    · intro a W hSt pre old K hK
      have e17 : a.tmps.getD 17 undef = .slice P l.length pc := pre 2 17 _ (by kernel_rfl) rfl rfl
      clear pre old
      simp only [Array.getD_eq_getD_getElem?] at e17
      go_simp
      have hS9 := hSt
      obtain ⟨s0, s1, s2, s3, s4, s5⟩ := hS9
      refine (turn_c P l pc (0) _ (by omega) s3 HO.out).mono ?_
      rintro e w' ⟨rfl, rfl⟩
      exact hK _ hSt
    refine Vals.Steps.run (by kernel_rfl) ?_ ?_
    · intro a W hSt pre old K hK
      have e16 : a.tmps.getD 16 undef = .agg #[.int .i64 b.slo, .int .i64 b.shi] := pre 1 16 _ (by kernel_rfl) rfl rfl
      have e18 : a.tmps.getD 18 undef = .int .i64 (turnV l 0) := pre 3 18 _ (by kernel_rfl) rfl rfl
      clear pre old
      simp only [Array.getD_eq_getD_getElem?] at e16 e18
      go_simp
      have hS9 := hSt
      obtain ⟨s0, s1, s2, s3, s4, s5⟩ := hS9
      have q1 := hB.s0
      have q2 := hB.s1
      have q3 := hB.s2
      refine (among_c b.slo b.shi (turnV l (0)) _ q2 (by omega) (by omega) b0.1 (by omega)).mono ?_
      rintro e w' ⟨rfl, hb'⟩
      exact hK _ ⟨s0.keep hb', s1.keep hb', s2.keep hb', s3.keep hb', s4.out.keep hb', s5.keep hb'⟩
    refine Vals.Steps.run (by kernel_rfl) ?_ ?_
    · intro a W hSt pre old K hK
      have e5 : a.tmps.getD 5 undef = .pointer (some ⟨w.heap.size + 1, 0, none⟩) := old 5 _ (by kernel_rfl) rfl
      clear pre old
      simp only [Array.getD_eq_getD_getElem?] at e5
      go_simp
      exact hK _ hSt
    refine Vals.Steps.run (by kernel_rfl) ?_ ?_
    · intro a W hSt pre old K hK
      have e20 : a.tmps.getD 20 undef = .pointer (some ⟨w.heap.size + 1, 0, none⟩) := pre 5 20 _ (by kernel_rfl) rfl rfl
      clear pre old
      simp only [Array.getD_eq_getD_getElem?] at e20
      have hS9 := hSt
      obtain ⟨s0, s1, s2, s3, s4, s5⟩ := hS9
      go_simp
      exact hK _ hSt
    refine Vals.Steps.run (by kernel_rfl) ?_ ?_
    · intro a W hSt pre old K hK
      have e3 : a.tmps.getD 3 undef = .slice P l.length pc := old 3 _ (by kernel_rfl) rfl
      clear pre old
      simp only [Array.getD_eq_getD_getElem?] at e3
      go_simp
      exact hK _ hSt
    refine Vals.Steps.run (by kernel_rfl) ?_ ?_
    · intro a W hSt pre old K hK
      have e22 : a.tmps.getD 22 undef = .slice P l.length pc := pre 7 22 _ (by kernel_rfl) rfl rfl
      clear pre old
      simp only [Array.getD_eq_getD_getElem?] at e22
      go_simp
      have hS9 := hSt
      obtain ⟨s0, s1, s2, s3, s4, s5⟩ := hS9
      refine (turn_c P l pc (1) _ (by omega) s3 HO.out).mono ?_
      rintro e w' ⟨rfl, rfl⟩
      exact hK _ hSt
    refine Vals.Steps.run (by kernel_rfl) ?_ ?_
    · intro a W hSt pre old K hK
      have e21 : a.tmps.getD 21 undef = .agg #[.int .i64 s.dlo, .int .i64 s.dhi] := pre 6 21 _ (by kernel_rfl) rfl rfl
      have e23 : a.tmps.getD 23 undef = .int .i64 (turnV l 1) := pre 8 23 _ (by kernel_rfl) rfl rfl
      clear pre old
      simp only [Array.getD_eq_getD_getElem?] at e21 e23
      go_simp
      have hS9 := hSt
      obtain ⟨s0, s1, s2, s3, s4, s5⟩ := hS9
      have q1 := hS.d0
      have q2 := hS.d1
      have q3 := hS.d2
      refine (among_c s.dlo s.dhi (turnV l (1)) _ q2 (by omega) (by omega) b1.1 (by omega)).mono ?_
      rintro e w' ⟨rfl, hb'⟩
      exact hK _ ⟨s0.keep hb', s1.keep hb', s2.keep hb', s3.keep hb', s4.out.keep hb', s5.keep hb'⟩
    refine Vals.Steps.run (by kernel_rfl) ?_ ?_
    · intro a W hSt pre old K hK
      have e9 : a.tmps.getD 9 undef = .pointer (some ⟨w.heap.size + 1 + 1 + 1, 0, none⟩) := old 9 _ (by kernel_rfl) rfl
      clear pre old
      simp only [Array.getD_eq_getD_getElem?] at e9
      go_simp
      exact hK _ hSt
    refine Vals.Steps.run (by kernel_rfl) ?_ ?_
    · intro a W hSt pre old K hK
      have e25 : a.tmps.getD 25 undef = .pointer (some ⟨w.heap.size + 1 + 1 + 1, 1, none⟩) := pre 10 25 _ (by kernel_rfl) rfl rfl
      clear pre old
      simp only [Array.getD_eq_getD_getElem?] at e25
      have hS9 := hSt
      obtain ⟨s0, s1, s2, s3, s4, s5⟩ := hS9
      go_simp
      exact hK _ hSt
    refine Vals.Steps.run (by kernel_rfl) ?_ ?_
    · intro a W hSt pre old K hK
      have e3 : a.tmps.getD 3 undef = .slice P l.length pc := old 3 _ (by kernel_rfl) rfl
      clear pre old
      simp only [Array.getD_eq_getD_getElem?] at e3
      go_simp
      exact hK _ hSt
    refine Vals.Steps.run (by kernel_rfl) ?_ ?_
    · intro a W hSt pre old K hK
      have e2 : a.tmps.getD 2 undef = .int .i64 (i : Int) := old 2 _ (by kernel_rfl) rfl
      clear pre old
      simp only [Array.getD_eq_getD_getElem?] at e2
      go_simp
      exact hK _ hSt
    refine Vals.Steps.run (by kernel_rfl) ?_ ?_
    · intro a W hSt pre old K hK
      have e28 : a.tmps.getD 28 undef = .int .i64 (i : Int) := pre 13 28 _ (by kernel_rfl) rfl rfl
      clear pre old
      simp only [Array.getD_eq_getD_getElem?] at e28
      go_simp
      exact hK _ hSt
    refine Vals.Steps.run (by kernel_rfl) ?_ ?_
    · intro a W hSt pre old K hK
      have e29 : a.tmps.getD 29 undef = .int .i64 (2 * (i : Int)) := pre 14 29 _ (by kernel_rfl) rfl rfl
      clear pre old
      simp only [Array.getD_eq_getD_getElem?] at e29
      go_simp
      exact hK _ hSt
    refine Vals.Steps.run (by kernel_rfl) ?_ ?_
    · intro a W hSt pre old K hK
      have e27 : a.tmps.getD 27 undef = .slice P l.length pc := pre 12 27 _ (by kernel_rfl) rfl rfl
      have e30 : a.tmps.getD 30 undef = .int .i64 (2 * (i : Int) + 2) := pre 15 30 _ (by kernel_rfl) rfl rfl
      clear pre old
      simp only [Array.getD_eq_getD_getElem?] at e27 e30
      go_simp
      have hS9 := hSt
      obtain ⟨s0, s1, s2, s3, s4, s5⟩ := hS9
      rw [show 2 * (i : Int) + 2 = ((2 * i + 2 : Nat) : Int) from by omega]
      refine (turn_c P l pc (2 * i + 2) _ (by omega) s3 HO.out).mono ?_
      rintro e w' ⟨rfl, rfl⟩
      exact hK _ hSt
    refine Vals.Steps.run (by kernel_rfl) ?_ ?_
    · intro a W hSt pre old K hK
      have e26 : a.tmps.getD 26 undef = .agg #[.int .i64 t.hlo, .int .i64 t.hhi] := pre 11 26 _ (by kernel_rfl) rfl rfl
      have e31 : a.tmps.getD 31 undef = .int .i64 (turnV l (2 * i + 2)) := pre 16 31 _ (by kernel_rfl) rfl rfl
      clear pre old
      simp only [Array.getD_eq_getD_getElem?] at e26 e31
      go_simp
      have hS9 := hSt
      obtain ⟨s0, s1, s2, s3, s4, s5⟩ := hS9
      have q1 := hT.h0
      have q2 := hT.h1
      have q3 := hT.h2
      refine (among_c t.hlo t.hhi (turnV l (2 * i + 2)) _ q2 (by omega) (by omega) b2.1 (by omega)).mono ?_
      rintro e w' ⟨rfl, hb'⟩
      exact hK _ ⟨s0.keep hb', s1.keep hb', s2.keep hb', s3.keep hb', s4.out.keep hb', s5.keep hb'⟩
    refine Vals.Steps.run (by kernel_rfl) ?_ ?_
    · intro a W hSt pre old K hK
      have e9 : a.tmps.getD 9 undef = .pointer (some ⟨w.heap.size + 1 + 1 + 1, 0, none⟩) := old 9 _ (by kernel_rfl) rfl
      clear pre old
      simp only [Array.getD_eq_getD_getElem?] at e9
      go_simp
      exact hK _ hSt
    refine Vals.Steps.run (by kernel_rfl) ?_ ?_
    · intro a W hSt pre old K hK
      have e33 : a.tmps.getD 33 undef = .pointer (some ⟨w.heap.size + 1 + 1 + 1, 3, none⟩) := pre 18 33 _ (by kernel_rfl) rfl rfl
      clear pre old
      simp only [Array.getD_eq_getD_getElem?] at e33
      have hS9 := hSt
      obtain ⟨s0, s1, s2, s3, s4, s5⟩ := hS9
      go_simp
      exact hK _ hSt
    refine Vals.Steps.run (by kernel_rfl) ?_ ?_
    · intro a W hSt pre old K hK
      have e3 : a.tmps.getD 3 undef = .slice P l.length pc := old 3 _ (by kernel_rfl) rfl
      clear pre old
      simp only [Array.getD_eq_getD_getElem?] at e3
      go_simp
      exact hK _ hSt
    refine Vals.Steps.run (by kernel_rfl) ?_ ?_
    · intro a W hSt pre old K hK
      have e2 : a.tmps.getD 2 undef = .int .i64 (i : Int) := old 2 _ (by kernel_rfl) rfl
      clear pre old
      simp only [Array.getD_eq_getD_getElem?] at e2
      go_simp
      exact hK _ hSt
    refine Vals.Steps.run (by kernel_rfl) ?_ ?_
    · intro a W hSt pre old K hK
      have e36 : a.tmps.getD 36 undef = .int .i64 (i : Int) := pre 21 36 _ (by kernel_rfl) rfl rfl
      clear pre old
      simp only [Array.getD_eq_getD_getElem?] at e36
      go_simp
      exact hK _ hSt
    refine Vals.Steps.run (by kernel_rfl) ?_ ?_
    · intro a W hSt pre old K hK
      have e37 : a.tmps.getD 37 undef = .int .i64 (2 * (i : Int)) := pre 22 37 _ (by kernel_rfl) rfl rfl
      clear pre old
      simp only [Array.getD_eq_getD_getElem?] at e37
      go_simp
      exact hK _ hSt
    refine Vals.Steps.run (by kernel_rfl) ?_ ?_
    · intro a W hSt pre old K hK
      have e35 : a.tmps.getD 35 undef = .slice P l.length pc := pre 20 35 _ (by kernel_rfl) rfl rfl
      have e38 : a.tmps.getD 38 undef = .int .i64 (2 * (i : Int) + 3) := pre 23 38 _ (by kernel_rfl) rfl rfl
      clear pre old
      simp only [Array.getD_eq_getD_getElem?] at e35 e38
      go_simp
      have hS9 := hSt
      obtain ⟨s0, s1, s2, s3, s4, s5⟩ := hS9
      rw [show 2 * (i : Int) + 3 = ((2 * i + 3 : Nat) : Int) from by omega]
      refine (turn_c P l pc (2 * i + 3) _ (by omega) s3 HO.out).mono ?_
      rintro e w' ⟨rfl, rfl⟩
      exact hK _ hSt
    refine Vals.Steps.run (by kernel_rfl) ?_ ?_
    · intro a W hSt pre old K hK
      have e34 : a.tmps.getD 34 undef = .agg #[.int .i64 t.wlo, .int .i64 t.whi] := pre 19 34 _ (by kernel_rfl) rfl rfl
      have e39 : a.tmps.getD 39 undef = .int .i64 (turnV l (2 * i + 3)) := pre 24 39 _ (by kernel_rfl) rfl rfl
      clear pre old
      simp only [Array.getD_eq_getD_getElem?] at e34 e39
      go_simp
      have hS9 := hSt
      obtain ⟨s0, s1, s2, s3, s4, s5⟩ := hS9
      have q1 := hT.w0
      have q2 := hT.w1
      have q3 := hT.w2
      refine (among_c t.wlo t.whi (turnV l (2 * i + 3)) _ q2 (by omega) (by omega) b3.1 (by omega)).mono ?_
      rintro e w' ⟨rfl, hb'⟩
      exact hK _ ⟨s0.keep hb', s1.keep hb', s2.keep hb', s3.keep hb', s4.out.keep hb', s5.keep hb'⟩
    refine Vals.Steps.run (by kernel_rfl) ?_ ?_
    · intro a W hSt pre old K hK
      have e19 : a.tmps.getD 19 undef = .int .i64 (amongV b.slo b.shi (turnV l 0)) := pre 4 19 _ (by kernel_rfl) rfl rfl
      have e24 : a.tmps.getD 24 undef = .int .i64 (amongV s.dlo s.dhi (turnV l 1)) := pre 9 24 _ (by kernel_rfl) rfl rfl
      have e32 : a.tmps.getD 32 undef = .int .i64 (amongV t.hlo t.hhi (turnV l (2 * i + 2))) := pre 17 32 _ (by kernel_rfl) rfl rfl
      have e40 : a.tmps.getD 40 undef = .int .i64 (amongV t.wlo t.whi (turnV l (2 * i + 3))) := pre 25 40 _ (by kernel_rfl) rfl rfl
      clear pre old
      simp only [Array.getD_eq_getD_getElem?] at e19 e24 e32 e40
      go_simp
      exact hK _ hSt
    refine Vals.Steps.last (by kernel_rfl) ?_
    · intro a W hSt pre old K hK
      have e8 : a.tmps.getD 8 undef = .pointer (some ⟨w.heap.size + 1 + 1, 0, none⟩) := old 8 _ (by kernel_rfl) rfl
      have e41 : a.tmps.getD 41 undef = .agg (trV (amongV b.slo b.shi (turnV l 0)) (amongV s.dlo s.dhi (turnV l 1)) (amongV t.hlo t.hhi (turnV l (2 * i + 2))) (amongV t.wlo t.whi (turnV l (2 * i + 3)))) := pre 26 41 _ (by kernel_rfl) rfl rfl
      clear pre old
      simp only [Array.getD_eq_getD_getElem?] at e8 e41
      have hS9 := hSt
      obtain ⟨s0, s1, s2, s3, s4, s5⟩ := hS9
      refine wp_store_row 45 (.tmp 8) (.tmp 41) rfl (w.heap.size + 1 + 1) (trV (amongV b.slo b.shi (turnV l 0)) (amongV s.dlo s.dhi (turnV l 1)) (amongV t.hlo t.hhi (turnV l (2 * i + 2))) (amongV t.wlo t.whi (turnV l (2 * i + 3)))) ?_ ?_ 45 (trV 0 0 0 0) s4.out (by kernel_rfl) rfl (by simp [Value.oneCell']) ?_
      · simp only [Act.eval, Array.getD_eq_getD_getElem?]; exact e8
      · simp only [Act.eval, Array.getD_eq_getD_getElem?]; exact e41
      exact hK _ ⟨s4.out.row _, s5.row (by omega) _⟩
  · rintro W ⟨t0, t1⟩
    simp only [Vals.putAll, List.setIfInBounds_toArray, List.set_cons_zero, List.set_cons_succ]
    go_wp2_with fail
    (refine bodyPost_ret (v := .agg _) ?_ rfl ⟨rfl, ?_⟩; exact (results_cell_row Try.results39 _ _ (w.heap.size + 1 + 1) 45 _ (0, 0) _ rfl t0 Try.underlying45 rfl (by kernel_rfl)))
    exact t1.1
end Td
end Go.Proofs.Ytojpiliamecgkaa
