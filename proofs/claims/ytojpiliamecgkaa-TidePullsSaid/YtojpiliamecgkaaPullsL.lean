import Derived.Test.YtojpiliamecgkaaPullsF
namespace Go.Proofs.Ytojpiliamecgkaa
open Go.RowKit
namespace Td
set_option linter.unusedSimpArgs false
set_option linter.unusedVariables false
/-- what a round holds: the lists of slopes and drafts, the range so far, the corner's slope and draft, a box, the corner's range. -/
structure LQ (w1 : World) (gA gD gO g5 g6 gB gT : Nat) (c1 c2 co c5 c6 bc : Array Value) (l h : Int) (X : World) : Prop where
  sn : Since w1 X
  a : Blk X gA 3 c1
  d : Blk X gD 3 c2
  o : Blk X gO 23 co
  u : Blk X g5 23 c5
  v : Blk X g6 23 c6
  b : Blk X gB 107 bc
  r : Blk X gT 23 #[.int .i64 l, .int .i64 h]
section
variable {w1 : World} {gA gD gO g5 g6 gB gT : Nat} {c1 c2 co c5 c6 bc : Array Value} {l h : Int} {X Y : World}
theorem LQ.keep (k : LQ w1 gA gD gO g5 g6 gB gT c1 c2 co c5 c6 bc l h X) (hb : Below X.heap.size X Y) : LQ w1 gA gD gO g5 g6 gB gT c1 c2 co c5 c6 bc l h Y :=
  ⟨k.sn.keep hb, k.a.keep hb, k.d.keep hb, k.o.keep hb, k.u.keep hb, k.v.keep hb, k.b.keep hb, k.r.keep hb⟩
theorem LQ.drew (k : LQ w1 gA gD gO g5 g6 gB gT c1 c2 co c5 c6 bc l h X) : LQ w1 gA gD gO g5 g6 gB gT c1 c2 co c5 c6 bc l h X.drew := k.keep ((Below.refl _ _).drew)
/-- the blocks of a round lie in this order. -/
structure Ord (w1 : World) (gA gD gO g5 g6 gB gT : Nat) : Prop where
  o : w1.heap.size ≤ gO
  a : gO < gA
  d : gO < gD
  u : gA < g5 ∧ gD < g5 ∧ gA < g6 ∧ gD < g6
  b : g5 < gB ∧ g6 < gB
  t : gB < gT
theorem LQ.box (k : LQ w1 gA gD gO g5 g6 gB gT c1 c2 co c5 c6 bc l h X) (q : Ord w1 gA gD gO g5 g6 gB gT) (cs : Array Value) : LQ w1 gA gD gO g5 g6 gB gT c1 c2 co c5 c6 cs l h (X.setRow gB cs) := by
  obtain ⟨q1, q2, q3, q4, q5, q6⟩ := q
  exact ⟨k.sn.row (by omega) _, k.a.rowFar (by omega) _, k.d.rowFar (by omega) _, k.o.rowFar (by omega) _, k.u.rowFar (by omega) _, k.v.rowFar (by omega) _, k.b.row _, k.r.rowFar (by omega) _⟩
theorem LQ.res (k : LQ w1 gA gD gO g5 g6 gB gT c1 c2 co c5 c6 bc l h X) (q : Ord w1 gA gD gO g5 g6 gB gT) (l' h' : Int) : LQ w1 gA gD gO g5 g6 gB gT c1 c2 co c5 c6 bc l' h' ((X.setCell ⟨gT, 0, none⟩ (.int .i64 l')).setCell ⟨gT, 1, none⟩ (.int .i64 h')) := by
  obtain ⟨q1, q2, q3, q4, q5, q6⟩ := q
  exact ⟨Since.setCell2 k.sn (by omega) _ _ _ _, (k.a.far (by omega) _ _).far (by omega) _ _, (k.d.far (by omega) _ _).far (by omega) _ _, (k.o.far (by omega) _ _).far (by omega) _ _, (k.u.far (by omega) _ _).far (by omega) _ _, (k.v.far (by omega) _ _).far (by omega) _ _, (k.b.far (by omega) _ _).far (by omega) _ _, (k.r.set 0 _).set 1 _⟩
theorem LQ.out (k : LQ w1 gA gD gO g5 g6 gB gT c1 c2 co c5 c6 bc l h X) (q : Ord w1 gA gD gO g5 g6 gB gT) (u v p1 p2 : Int) (hco : co = #[.int .i64 p1, .int .i64 p2]) : LQ w1 gA gD gO g5 g6 gB gT c1 c2 #[.int .i64 u, .int .i64 v] c5 c6 bc l h ((X.setCell ⟨gO, 0, none⟩ (.int .i64 u)).setCell ⟨gO, 1, none⟩ (.int .i64 v)) := by
  obtain ⟨q1, q2, q3, q4, q5, q6⟩ := q
  subst hco
  exact ⟨Since.setCell2 k.sn (by omega) _ _ _ _, (k.a.far (by omega) _ _).far (by omega) _ _, (k.d.far (by omega) _ _).far (by omega) _ _, (k.o.set 0 _).set 1 _, (k.u.far (by omega) _ _).far (by omega) _ _, (k.v.far (by omega) _ _).far (by omega) _ _, (k.b.far (by omega) _ _).far (by omega) _ _, (k.r.far (by omega) _ _).far (by omega) _ _⟩
end
/-- what the reference's Lies comes to. -/
def rliesV (b : Bch) (s : Shp) (run : Pul) (ps : List Pul) : Value :=
  if planE b s run ps = 0 then .tuple #[.agg #[.int .i64 (lieLo b s run ps), .int .i64 (lieHi b s run ps)], .int .i64 0] else .tuple #[.agg #[.int .i64 0, .int .i64 0], .int .i64 (planE b s run ps)]
set_option maxRecDepth 100000 in
set_option maxHeartbeats 16000000 in
theorem rlies_c (b : Bch) (s : Shp) (A : Option Addr) (c : Nat) (run : Pul) (P : Option Addr) (ps : List Pul) (pc : Nat) (w : World) (hp : TsAt w A b.ts) (hq : PuAt w P ps) :
    Calls Try.prog 31 #[.agg (bV b A c), .agg (sV s), .agg (puV run), .slice P ps.length pc] w fun e w' => e = .returned (rliesV b s run ps) ∧ Below w.heap.size w w' := by
  have HE0 := Lib.hid ((RPs.start w b A c s run P ps hp hq).keep ((Below.refl _ _).alloc (Nat.le_refl _) (.cells #[.int .i64 0, .int .i64 0] 23)))
  have HG0 := Lib.hid (Blk.new3 w (.cells (bV b A c) 26) (.cells (sV s) 28) (.cells (puV run) 49) 23 #[.int .i64 0, .int .i64 0])
  go_enter Try.func31, Try.ntmps31
  obtain ⟨⟨c0, c1, c2, c3, c4, c5⟩, ⟨d0, d1, d2⟩, ⟨r0, r1⟩, _, _, _⟩ := HE0.out
  go_wp2_with fail
  refine (rplan_c b s A c run P ps pc _ HE0.out.ts HE0.out.pq).mono ?_
  rintro e w1 ⟨rfl, hb⟩
  have HE1 := Lib.hid (HE0.out.keep hb)
  have HG1 := Lib.hid (HG0.out.keep hb)
  have hz8 := HG1.out.lt
  clear HE0 HG0 hb
  clear c0 c1 c2 c3 c4 c5 d0 d1 d2 r0 r1
  by_cases h0 : planE b s run ps = 0
  · have HV : Hid (rliesV b s run ps = .tuple #[.agg #[.int .i64 (lieLo b s run ps), .int .i64 (lieHi b s run ps)], .int .i64 0]) := by show _ = _; unfold rliesV; rw [if_pos h0]
    have hpl : stepE b s run.tide run.bal = 0 ∧ pullsE b.ts.length run ps = 0 := by
      unfold planE at h0
      split at h0
      · exact ⟨by assumption, h0⟩
      · exact absurd h0 (by assumption)
    obtain ⟨hk, ⟨hr0, hr1⟩, hr2, hr3⟩ := stepE_ok hpl.1
    obtain ⟨hB, hS⟩ := chk_ok.1 hk
    obtain ⟨hp6, hpok⟩ := pullsE_zero hpl.2
    have hl12 : b.ts.length ≤ 12 := hB.n1
    have hbt0 := hB.b0
    have hbt1 := hB.b1
    have hSO := Lib.hid hS
    have hrk : PuOk b.ts.length run := ⟨hr0, hr1, hr2, hr3⟩
    rw [h0]
    clear h0 hpl hk
    obtain ⟨rt, rb⟩ := run
    simp only at hr0 hr1 hr2 hr3
    obtain ⟨i0, rfl⟩ : ∃ i : Nat, rt = i := ⟨rt.toNat, by omega⟩
    have hi0 : i0 < b.ts.length := by omega
    obtain ⟨⟨c0, c1, c2, c3, c4, c5⟩, ⟨d0, d1, d2⟩, ⟨r0, r1⟩, _, _, _⟩ := HE1.out
    go_wp2_with fail
    clear c0 c1 c2 c3 c4 c5 d0 d1 d2 r0 r1
    have hsnO := (Since.refl w1).alloc (.cells #[.int .i64 0, .int .i64 0] 23)
    have hO4 := Blk.new w1 23 #[.int .i64 0, .int .i64 0]
    have HE4 := Lib.hid (HE1.out.keep hsnO.1)
    obtain ⟨gO, hgO⟩ : ∃ gO, w1.heap.size = gO := ⟨_, rfl⟩
    obtain ⟨X4, hX4⟩ : ∃ X4, w1.alloc (.cells #[.int .i64 0, .int .i64 0] 23) = X4 := ⟨_, rfl⟩
    rw [hX4] at hsnO hO4 HE4 ⊢
    rw [hgO] at hO4 ⊢
    clear hX4
    have hO4l := hO4.lt
    refine Vals9.region (Sl2 X4 #[.int .i64 b.slo, .int .i64 b.shi] #[.int .i64 s.dlo, .int .i64 s.dhi]) [some 31, some 32, some 33, some 34, some 35, some 36, some 37, some 38, some 39, some 40, some 41, some 42, some 43, some 44, some 12, some 13] [.is (.pointer (some ⟨w.heap.size, 0, none⟩)), .is (.pointer (some ⟨w.heap.size, 0, none⟩)), .is (.int .i64 b.slo), .is (.pointer (some ⟨w.heap.size, 0, none⟩)), .is (.pointer (some ⟨w.heap.size, 1, none⟩)), .is (.int .i64 b.shi), .any, .is (.pointer (some ⟨w.heap.size + 1, 0, none⟩)), .is (.pointer (some ⟨w.heap.size + 1, 0, none⟩)), .is (.int .i64 s.dlo), .is (.pointer (some ⟨w.heap.size + 1, 0, none⟩)), .is (.pointer (some ⟨w.heap.size + 1, 1, none⟩)), .is (.int .i64 s.dhi), .any, .any, .any] (by kernel_rfl) (by kernel_rfl) (by kernel_rfl) (by kernel_rfl) (by kernel_rfl) (by kernel_rfl) (Sl2.start _ _ _) ?_ ?_
    · refine Vals9.Steps.run (by kernel_rfl) ?_ ?_
      · intro a W σ hJ pre K hK
        have e4 : a.tmps.getD 4 undef = .pointer (some ⟨w.heap.size, 0, none⟩) := pre.2.2 4 _ (by kernel_rfl) rfl
        clear pre
        simp only [Array.getD_eq_getD_getElem?] at e4
        go_simp
        exact hK _ hJ
      refine Vals9.Steps.run (by kernel_rfl) ?_ ?_
      · intro a W σ hJ pre K hK
        have e31 : a.tmps.getD 31 undef = .pointer (some ⟨w.heap.size, 0, none⟩) := pre.1 0 31 _ (by kernel_rfl) rfl rfl
        clear pre
        simp only [Array.getD_eq_getD_getElem?] at e31
        go_simp
        exact hK _ hJ
      refine Vals9.Steps.run (by kernel_rfl) ?_ ?_
      · intro a W σ hJ pre K hK
        have e32 : a.tmps.getD 32 undef = .pointer (some ⟨w.heap.size, 0, none⟩) := pre.1 1 32 _ (by kernel_rfl) rfl rfl
        clear pre
        simp only [Array.getD_eq_getD_getElem?] at e32
        have hS9 := hJ
        obtain ⟨⟨s0, s1, s2, s3, s4, s5⟩, ⟨d0, d1, d2⟩, ⟨r0, r1⟩, ts, pq, sn⟩ := (HE4.out.keep hS9.sn.1)
        go_simp
        exact hK _ hJ
      refine Vals9.Steps.run (by kernel_rfl) ?_ ?_
      · intro a W σ hJ pre K hK
        have e4 : a.tmps.getD 4 undef = .pointer (some ⟨w.heap.size, 0, none⟩) := pre.2.2 4 _ (by kernel_rfl) rfl
        clear pre
        simp only [Array.getD_eq_getD_getElem?] at e4
        go_simp
        exact hK _ hJ
      refine Vals9.Steps.run (by kernel_rfl) ?_ ?_
      · intro a W σ hJ pre K hK
        have e34 : a.tmps.getD 34 undef = .pointer (some ⟨w.heap.size, 0, none⟩) := pre.1 3 34 _ (by kernel_rfl) rfl rfl
        clear pre
        simp only [Array.getD_eq_getD_getElem?] at e34
        go_simp
        exact hK _ hJ
      refine Vals9.Steps.run (by kernel_rfl) ?_ ?_
      · intro a W σ hJ pre K hK
        have e35 : a.tmps.getD 35 undef = .pointer (some ⟨w.heap.size, 1, none⟩) := pre.1 4 35 _ (by kernel_rfl) rfl rfl
        clear pre
        simp only [Array.getD_eq_getD_getElem?] at e35
        have hS9 := hJ
        obtain ⟨⟨s0, s1, s2, s3, s4, s5⟩, ⟨d0, d1, d2⟩, ⟨r0, r1⟩, ts, pq, sn⟩ := (HE4.out.keep hS9.sn.1)
        go_simp
        exact hK _ hJ
      refine Vals9.Steps.mark (by kernel_rfl) ?_ ?_
      · intro a W σ hJ hn pre K hK
        have e33 : a.tmps.getD 33 undef = .int .i64 b.slo := pre.1 2 33 _ (by kernel_rfl) rfl rfl
        have e36 : a.tmps.getD 36 undef = .int .i64 b.shi := pre.1 5 36 _ (by kernel_rfl) rfl rfl
        simp only [Array.getD_eq_getD_getElem?] at e33 e36
        go_simp
        exact hK _ _ (hJ.mk1 hn)
      refine Vals9.Steps.run (by kernel_rfl) ?_ ?_
      · intro a W σ hJ pre K hK
        have e5 : a.tmps.getD 5 undef = .pointer (some ⟨w.heap.size + 1, 0, none⟩) := pre.2.2 5 _ (by kernel_rfl) rfl
        clear pre
        simp only [Array.getD_eq_getD_getElem?] at e5
        go_simp
        exact hK _ hJ
      refine Vals9.Steps.run (by kernel_rfl) ?_ ?_
      · intro a W σ hJ pre K hK
        have e38 : a.tmps.getD 38 undef = .pointer (some ⟨w.heap.size + 1, 0, none⟩) := pre.1 7 38 _ (by kernel_rfl) rfl rfl
        clear pre
        simp only [Array.getD_eq_getD_getElem?] at e38
        go_simp
        exact hK _ hJ
      refine Vals9.Steps.run (by kernel_rfl) ?_ ?_
      · intro a W σ hJ pre K hK
        have e39 : a.tmps.getD 39 undef = .pointer (some ⟨w.heap.size + 1, 0, none⟩) := pre.1 8 39 _ (by kernel_rfl) rfl rfl
        clear pre
        simp only [Array.getD_eq_getD_getElem?] at e39
        have hS9 := hJ
        obtain ⟨⟨s0, s1, s2, s3, s4, s5⟩, ⟨d0, d1, d2⟩, ⟨r0, r1⟩, ts, pq, sn⟩ := (HE4.out.keep hS9.sn.1)
        go_simp
        exact hK _ hJ
      refine Vals9.Steps.run (by kernel_rfl) ?_ ?_
      · intro a W σ hJ pre K hK
        have e5 : a.tmps.getD 5 undef = .pointer (some ⟨w.heap.size + 1, 0, none⟩) := pre.2.2 5 _ (by kernel_rfl) rfl
        clear pre
        simp only [Array.getD_eq_getD_getElem?] at e5
        go_simp
        exact hK _ hJ
      refine Vals9.Steps.run (by kernel_rfl) ?_ ?_
      · intro a W σ hJ pre K hK
        have e41 : a.tmps.getD 41 undef = .pointer (some ⟨w.heap.size + 1, 0, none⟩) := pre.1 10 41 _ (by kernel_rfl) rfl rfl
        clear pre
        simp only [Array.getD_eq_getD_getElem?] at e41
        go_simp
        exact hK _ hJ
      refine Vals9.Steps.run (by kernel_rfl) ?_ ?_
      · intro a W σ hJ pre K hK
        have e42 : a.tmps.getD 42 undef = .pointer (some ⟨w.heap.size + 1, 1, none⟩) := pre.1 11 42 _ (by kernel_rfl) rfl rfl
        clear pre
        simp only [Array.getD_eq_getD_getElem?] at e42
        have hS9 := hJ
        obtain ⟨⟨s0, s1, s2, s3, s4, s5⟩, ⟨d0, d1, d2⟩, ⟨r0, r1⟩, ts, pq, sn⟩ := (HE4.out.keep hS9.sn.1)
        go_simp
        exact hK _ hJ
      refine Vals9.Steps.mark (by kernel_rfl) ?_ ?_
      · intro a W σ hJ hn pre K hK
        have e40 : a.tmps.getD 40 undef = .int .i64 s.dlo := pre.1 9 40 _ (by kernel_rfl) rfl rfl
        have e43 : a.tmps.getD 43 undef = .int .i64 s.dhi := pre.1 12 43 _ (by kernel_rfl) rfl rfl
        simp only [Array.getD_eq_getD_getElem?] at e40 e43
        go_simp
        exact hK _ _ (hJ.mk2 hn)
      refine Vals9.Steps.mark (by kernel_rfl) ?_ ?_
      · intro a W σ hJ hn pre K hK
        obtain ⟨v37, s37, e37⟩ := pre.2.1 6 (by kernel_rfl) rfl
        replace e37 : a.tmps.getD 37 undef = v37 := e37 37 rfl
        simp only [Array.getD_eq_getD_getElem?] at e37
        go_simp
        exact hK _ _ (hJ.give1 s37)
      refine Vals9.Steps.mark (by kernel_rfl) ?_ ?_
      · intro a W σ hJ hn pre K hK
        obtain ⟨v44, s44, e44⟩ := pre.2.1 13 (by kernel_rfl) rfl
        replace e44 : a.tmps.getD 44 undef = v44 := e44 44 rfl
        simp only [Array.getD_eq_getD_getElem?] at e44
        go_simp
        exact hK _ _ (hJ.give2 s44)
      exact Vals9.Steps.nil
    · intro X5 σ hJ
      simp only [Vals9.All]
      intro v6 h6 v13 h13 v14 h14 v15 h15
      obtain ⟨gA, rfl, hgA, hA5⟩ := hJ.a v6 h6
      obtain ⟨gD, rfl, hgD, hD5⟩ := hJ.b v13 h13
      have e14 := hJ.y v14 h14
      rw [h6] at e14
      obtain rfl := Option.some.inj e14
      have e15 := hJ.z v15 h15
      rw [h13] at e15
      obtain rfl := Option.some.inj e15
      have hO5 := hO4.keep hJ.sn.1
      have hsn5 : Since w1 X5 := hsnO.keep hJ.sn.1
      clear hJ h6 h13 h14 h15 e14 e15 HE4 hO4 hsnO
      simp only [Vals.putAll, List.setIfInBounds_toArray, List.set_cons_zero, List.set_cons_succ]
      go_wp2_with fail
      go_loopw [14, 15, 16, 17, 18, 19, 20] (fun i _ _ _ _ _ _ wr => ∃ j : Nat, j ≤ 4 ∧ i = .int .i64 j ∧ Since w1 wr ∧ Blk wr gA 3 #[.int .i64 b.slo, .int .i64 b.shi] ∧ Blk wr gD 3 #[.int .i64 s.dlo, .int .i64 s.dhi] ∧ Blk wr gO 23 #[.int .i64 (accE b s ⟨(i0 : Int), rb⟩ ps j).1, .int .i64 (accE b s ⟨(i0 : Int), rb⟩ ps j).2]) (fun i _ _ _ _ _ _ _ => 4 - (intOf i).toNat)
      case atStart => exact ⟨0, by omega, rfl, hsn5, hA5, hD5, hO5⟩
      case round =>
        obtain ⟨j, hj4, rfl, hsn, hA, hD, hO⟩ := hrel
        by_cases hlt : j < 4
        · obtain ⟨j2, hj2⟩ : ∃ j2, j % 2 = j2 := ⟨_, rfl⟩
          obtain ⟨d2, hd⟩ : ∃ d2, j / 2 = d2 := ⟨_, rfl⟩
          have hj2l : j2 < 2 := by omega
          have hd2l : d2 < 2 := by omega
          have hm2 : ((j : Int)).tmod 2 = (j2 : Int) := by rw [Int.tmod_eq_emod_of_nonneg (by omega)]; omega
          have hd2 : ((j : Int)).tdiv 2 = (d2 : Int) := by rw [Int.tdiv_eq_ediv_of_nonneg (by omega)]; omega
          have hcs : (#[Value.int .i64 b.slo, .int .i64 b.shi])[j2]? = some (.int .i64 (cSl b j)) := by
            rcases (by omega : j2 = 0 ∨ j2 = 1) with h | h
            · subst h; unfold cSl; rw [if_pos hj2]; rfl
            · subst h; unfold cSl; rw [if_neg (by omega)]; rfl
          have hcd : (#[Value.int .i64 s.dlo, .int .i64 s.dhi])[d2]? = some (.int .i64 (cDr s j)) := by
            rcases (by omega : d2 = 0 ∨ d2 = 1) with h | h
            · subst h; unfold cDr; rw [if_pos hd]; rfl
            · subst h; unfold cDr; rw [if_neg (by omega)]; rfl
          have hj2I : (j2 : Int) < 2 := by omega
          have hd2I : (d2 : Int) < 2 := by omega
          have hwd : IntKind.i64.wrap (d2 : Int) = (d2 : Int) := IntWalk.i64_in _ (by omega)
          have hwj : IntKind.i64.wrap (j2 : Int) = (j2 : Int) := IntWalk.i64_in _ (by omega)
          have hAl := hA.lt
          have hDl := hD.lt
          clear hj2 hd
          go_wp2_with fail
          refine Vals9.region (Sp2 wr #[.int .i64 (cSl b j), .int .i64 (cSl b j)] #[.int .i64 (cDr s j), .int .i64 (cDr s j)]) [some 49, some 50, some 51, some 52, some 53, some 54, some 55, some 56, some 57, some 58, some 59, some 60, some 15, some 16, none, none] [.is (.slice (some ⟨gA, 0, none⟩) 2 2), .is (.int .i64 (j : Int)), .is (.int .i64 (j2 : Int)), .is (.pointer (some ⟨gA, j2, none⟩)), .is (.int .i64 (cSl b j)), .is (.agg #[.int .i64 (cSl b j), .int .i64 (cSl b j)]), .is (.slice (some ⟨gD, 0, none⟩) 2 2), .is (.int .i64 (j : Int)), .is (.int .i64 (d2 : Int)), .is (.pointer (some ⟨gD, d2, none⟩)), .is (.int .i64 (cDr s j)), .is (.agg #[.int .i64 (cDr s j), .int .i64 (cDr s j)]), .any, .any, .any, .any] (by kernel_rfl) (by kernel_rfl) (by kernel_rfl) (by kernel_rfl) (by kernel_rfl) (by kernel_rfl) (Sp2.start _ _ _) ?_ ?_
          · refine Vals9.Steps.run (by kernel_rfl) ?_ ?_
            · intro a W σ hJ pre K hK
              have e12 : a.tmps.getD 12 undef = .slice (some ⟨gA, 0, none⟩) 2 2 := pre.2.2 12 _ (by kernel_rfl) rfl
              clear pre
              simp only [Array.getD_eq_getD_getElem?] at e12
              go_simp
              exact hK _ hJ
            refine Vals9.Steps.run (by kernel_rfl) ?_ ?_
            · intro a W σ hJ pre K hK
              have e14 : a.tmps.getD 14 undef = .int .i64 (j : Int) := pre.2.2 14 _ (by kernel_rfl) rfl
              clear pre
              simp only [Array.getD_eq_getD_getElem?] at e14
              go_simp
              exact hK _ hJ
            refine Vals9.Steps.run (by kernel_rfl) ?_ ?_
            · intro a W σ hJ pre K hK
              have e50 : a.tmps.getD 50 undef = .int .i64 (j : Int) := pre.1 1 50 _ (by kernel_rfl) rfl rfl
              clear pre
              simp only [Array.getD_eq_getD_getElem?] at e50
              go_simp
              first | exact hK _ hJ | (rw [hm2]; exact hK _ hJ) | (rw [hd2]; exact hK _ hJ)
            refine Vals9.Steps.run (by kernel_rfl) ?_ ?_
            · intro a W σ hJ pre K hK
              have e49 : a.tmps.getD 49 undef = .slice (some ⟨gA, 0, none⟩) 2 2 := pre.1 0 49 _ (by kernel_rfl) rfl rfl
              have e51 : a.tmps.getD 51 undef = .int .i64 (j2 : Int) := pre.1 2 51 _ (by kernel_rfl) rfl rfl
              clear pre
              simp only [Array.getD_eq_getD_getElem?] at e49 e51
              go_simp
              first | exact hK _ hJ | (rw [add_new]; exact hK _ hJ)
            refine Vals9.Steps.run (by kernel_rfl) ?_ ?_
            · intro a W σ hJ pre K hK
              have e52 : a.tmps.getD 52 undef = .pointer (some ⟨gA, j2, none⟩) := pre.1 3 52 _ (by kernel_rfl) rfl rfl
              clear pre
              simp only [Array.getD_eq_getD_getElem?] at e52
              have hS9 := hJ
              have y0 := (hA.keep hS9.a.sn.1).cell j2
              rw [hcs] at y0
              have y1 := (hD.keep hS9.a.sn.1).cell d2
              rw [hcd] at y1
              go_simp
              exact hK _ hJ
            refine Vals9.Steps.run (by kernel_rfl) ?_ ?_
            · intro a W σ hJ pre K hK
              have e53 : a.tmps.getD 53 undef = .int .i64 (cSl b j) := pre.1 4 53 _ (by kernel_rfl) rfl rfl
              clear pre
              simp only [Array.getD_eq_getD_getElem?] at e53
              go_simp
              refine (one_c _ _).mono ?_
              rintro e w' ⟨rfl, hb'⟩
              exact hK _ (hJ.keep hb')
            refine Vals9.Steps.run (by kernel_rfl) ?_ ?_
            · intro a W σ hJ pre K hK
              have e13 : a.tmps.getD 13 undef = .slice (some ⟨gD, 0, none⟩) 2 2 := pre.2.2 13 _ (by kernel_rfl) rfl
              clear pre
              simp only [Array.getD_eq_getD_getElem?] at e13
              go_simp
              exact hK _ hJ
            refine Vals9.Steps.run (by kernel_rfl) ?_ ?_
            · intro a W σ hJ pre K hK
              have e14 : a.tmps.getD 14 undef = .int .i64 (j : Int) := pre.2.2 14 _ (by kernel_rfl) rfl
              clear pre
              simp only [Array.getD_eq_getD_getElem?] at e14
              go_simp
              exact hK _ hJ
            refine Vals9.Steps.run (by kernel_rfl) ?_ ?_
            · intro a W σ hJ pre K hK
              have e56 : a.tmps.getD 56 undef = .int .i64 (j : Int) := pre.1 7 56 _ (by kernel_rfl) rfl rfl
              clear pre
              simp only [Array.getD_eq_getD_getElem?] at e56
              go_simp
              first | exact hK _ hJ | (rw [hm2]; exact hK _ hJ) | (rw [hd2]; exact hK _ hJ)
            refine Vals9.Steps.run (by kernel_rfl) ?_ ?_
            · intro a W σ hJ pre K hK
              have e55 : a.tmps.getD 55 undef = .slice (some ⟨gD, 0, none⟩) 2 2 := pre.1 6 55 _ (by kernel_rfl) rfl rfl
              have e57 : a.tmps.getD 57 undef = .int .i64 (d2 : Int) := pre.1 8 57 _ (by kernel_rfl) rfl rfl
              clear pre
              simp only [Array.getD_eq_getD_getElem?] at e55 e57
              go_simp
              first | exact hK _ hJ | (rw [add_new]; exact hK _ hJ)
            refine Vals9.Steps.run (by kernel_rfl) ?_ ?_
            · intro a W σ hJ pre K hK
              have e58 : a.tmps.getD 58 undef = .pointer (some ⟨gD, d2, none⟩) := pre.1 9 58 _ (by kernel_rfl) rfl rfl
              clear pre
              simp only [Array.getD_eq_getD_getElem?] at e58
              have hS9 := hJ
              have y0 := (hA.keep hS9.a.sn.1).cell j2
              rw [hcs] at y0
              have y1 := (hD.keep hS9.a.sn.1).cell d2
              rw [hcd] at y1
              go_simp
              exact hK _ hJ
            refine Vals9.Steps.run (by kernel_rfl) ?_ ?_
            · intro a W σ hJ pre K hK
              have e59 : a.tmps.getD 59 undef = .int .i64 (cDr s j) := pre.1 10 59 _ (by kernel_rfl) rfl rfl
              clear pre
              simp only [Array.getD_eq_getD_getElem?] at e59
              go_simp
              refine (one_c _ _).mono ?_
              rintro e w' ⟨rfl, hb'⟩
              exact hK _ (hJ.keep hb')
            refine Vals9.Steps.mark (by kernel_rfl) ?_ ?_
            · intro a W σ hJ hn pre K hK
              go_simp
              exact hK _ _ (hJ.new1 hn _ rfl)
            refine Vals9.Steps.mark (by kernel_rfl) ?_ ?_
            · intro a W σ hJ hn pre K hK
              go_simp
              exact hK _ _ (hJ.new2 hn _ rfl)
            refine Vals9.Steps.mark (by kernel_rfl) ?_ ?_
            · intro a W σ hJ hn pre K hK
              obtain ⟨v15, s15, e15⟩ := pre.2.1 12 (by kernel_rfl) rfl
              replace e15 : a.tmps.getD 15 undef = v15 := e15 15 rfl
              have e54 : a.tmps.getD 54 undef = .agg #[.int .i64 (cSl b j), .int .i64 (cSl b j)] := pre.1 5 54 _ (by kernel_rfl) rfl rfl
              simp only [Array.getD_eq_getD_getElem?] at e15 e54
              obtain ⟨g, ds, h1, h2, h3, h4, _⟩ := hJ.a.a _ s15
              subst h1
              refine wp_store_row 23 _ _ rfl g #[.int .i64 (cSl b j), .int .i64 (cSl b j)] (by go_simp) (by go_simp) 23 ds h4 (by kernel_rfl) h3 (by simp [Value.oneCell']) ?_
              exact hK _ _ (hJ.st1 s15)
            refine Vals9.Steps.mark (by kernel_rfl) ?_ ?_
            · intro a W σ hJ hn pre K hK
              obtain ⟨v16, s16, e16⟩ := pre.2.1 13 (by kernel_rfl) rfl
              replace e16 : a.tmps.getD 16 undef = v16 := e16 16 rfl
              have e60 : a.tmps.getD 60 undef = .agg #[.int .i64 (cDr s j), .int .i64 (cDr s j)] := pre.1 11 60 _ (by kernel_rfl) rfl rfl
              simp only [Array.getD_eq_getD_getElem?] at e16 e60
              obtain ⟨g, ds, h1, h2, h3, h4, _⟩ := hJ.b.a _ s16
              subst h1
              refine wp_store_row 23 _ _ rfl g #[.int .i64 (cDr s j), .int .i64 (cDr s j)] (by go_simp) (by go_simp) 23 ds h4 (by kernel_rfl) h3 (by simp [Value.oneCell']) ?_
              exact hK _ _ (hJ.st2 s16)
            exact Vals9.Steps.nil
          · intro X9 σ2 hJ
            simp only [Vals9.All]
            intro u12 g12 u13 g13 u14 g14 u15 g15
            obtain ⟨g5, ds, rfl, hg5, _, hU, hds⟩ := hJ.a.a u12 g12
            obtain rfl := hds u14 g14
            obtain ⟨g6, ds2, rfl, hg6, _, hW6, hds2⟩ := hJ.b.a u13 g13
            obtain rfl := hds2 u15 g15
            have hsr := hJ.a.sn
            have hsn9 : Since w1 X9 := hsn.keep hsr.1
            have hA9 := hA.keep hsr.1
            have hD9 := hD.keep hsr.1
            have hO9 := hO.keep hsr.1
            clear hJ g12 g13 g14 g15 hds hds2 hA hD hO hsn hm2 hd2 hcs hcd
            simp only [Vals.putAll, List.setIfInBounds_toArray, List.set_cons_zero, List.set_cons_succ]
            have HE9 := Lib.hid (HE1.out.keep hsn9.1)
            obtain ⟨⟨c0, c1, c2, c3, c4, c5⟩, ⟨d0, d1, d2⟩, ⟨r0, r1⟩, _, _, _⟩ := HE9.out
            go_wp2_with fail
            refine (of_c b s A c i0 _ HE9.out.ts hi0 (by omega)).mono ?_
            rintro e w10 ⟨rfl, hb⟩
            clear c0 c1 c2 c3 c4 c5 d0 d1 d2 r0 r1
            have hbn := hb.alloc hb.size (.cells (boxV (bx b s i0)) 107)
            have HE10 := Lib.hid (HE9.out.keep hbn)
            have hB10 := Blk.new w10 107 (boxV (bx b s i0))
            have hsn10 := hsn9.keep hbn
            have hA10 := hA9.keep hbn
            have hD10 := hD9.keep hbn
            have hO10 := hO9.keep hbn
            have hU10 := hU.keep hbn
            have hW10 := hW6.keep hbn
            have hg5l := hU.lt
            have hg6l := hW6.lt
            have hgs := hb.size
            clear hb hbn HE9 hA9 hD9 hO9 hU hW6 hsn9
            obtain ⟨⟨c0, c1, c2, c3, c4, c5⟩, ⟨d0, d1, d2⟩, ⟨r0, r1⟩, _, _, _⟩ := HE10.out
            obtain ⟨u0, u1⟩ := hU10.span
            obtain ⟨v0, v1⟩ := hW10.span
            obtain ⟨b0, b1, b2, b3, b4, b5, b6, b7⟩ := hB10.box
            go_wp2_with fail
            refine (rreach_c s (cBox b s j i0) rb 0 _ (cBox_ok hB hS j hi0) hS.k0 hS.k1 hr2 (by omega) (by omega) (by omega)).mono ?_
            rintro e w11 ⟨rfl, hb⟩
            clear c0 c1 c2 c3 c4 c5 d0 d1 d2 r0 r1 u0 u1 v0 v1 b0 b1 b2 b3 b4 b5 b6 b7
            obtain ⟨ec1, ec2⟩ := c_nil b s ⟨(i0 : Int), rb⟩ j
            simp only [Int.toNat_natCast] at ec1 ec2
            rw [← ec1, ← ec2]
            clear ec1 ec2
            obtain ⟨lk0, hlk0⟩ : ∃ lk0, cLo b s ⟨(i0 : Int), rb⟩ [] j = lk0 := ⟨_, rfl⟩
            obtain ⟨hk0, hhk0⟩ : ∃ hk0, cHi b s ⟨(i0 : Int), rb⟩ [] j = hk0 := ⟨_, rfl⟩
            rw [hlk0, hhk0]
            have hbn := hb.alloc hb.size (.cells #[.int .i64 lk0, .int .i64 hk0] 23)
            have hgB : w10.heap.size < w11.heap.size := by have := (hB10.keep hb).lt; omega
            obtain ⟨gB, hgBe⟩ : ∃ gB, w10.heap.size = gB := ⟨_, rfl⟩
            rw [hgBe] at hB10 hgB hgs
            have hOrd : Ord w1 gA gD gO g5 g6 gB w11.heap.size := ⟨by omega, by omega, by omega, ⟨by omega, by omega, by omega, by omega⟩, ⟨by omega, by omega⟩, by omega⟩
            have hQ11 : LQ w1 gA gD gO g5 g6 gB w11.heap.size #[.int .i64 b.slo, .int .i64 b.shi] #[.int .i64 s.dlo, .int .i64 s.dhi] #[.int .i64 (accE b s ⟨(i0 : Int), rb⟩ ps j).1, .int .i64 (accE b s ⟨(i0 : Int), rb⟩ ps j).2] #[.int .i64 (cSl b j), .int .i64 (cSl b j)] #[.int .i64 (cDr s j), .int .i64 (cDr s j)] (boxV (bx b s i0)) lk0 hk0 (w11.alloc (.cells #[.int .i64 lk0, .int .i64 hk0] 23)) := ⟨hsn10.keep hbn, hA10.keep hbn, hD10.keep hbn, hO10.keep hbn, hU10.keep hbn, hW10.keep hbn, hB10.keep hbn, Blk.new _ _ _⟩
            clear hb hbn hA10 hD10 hO10 hU10 hW10 hB10 HE10
            go_wp2_with fail
            try rw [hgBe]
            obtain ⟨gT, hgT⟩ : ∃ gT, w11.heap.size = gT := ⟨_, rfl⟩
            rw [hgT] at hOrd hQ11 ⊢
            clear hgT hgBe
            generalize hco : (#[.int .i64 (accE b s ⟨(i0 : Int), rb⟩ ps j).1, .int .i64 (accE b s ⟨(i0 : Int), rb⟩ ps j).2] : Array Value) = co at hQ11
            go_loopw [19, 20] (fun kk _ wy => ∃ (m : Nat) (bc : Array Value) (lk hk_ : Int), m ≤ ps.length ∧ kk = .int .i64 m ∧ bc.size = 8 ∧ (LQ w1 gA gD gO g5 g6 gB gT #[.int .i64 b.slo, .int .i64 b.shi] #[.int .i64 s.dlo, .int .i64 s.dhi] co #[.int .i64 (cSl b j), .int .i64 (cSl b j)] #[.int .i64 (cDr s j), .int .i64 (cDr s j)] bc lk hk_ wy) ∧ Hid (cLo b s ⟨(i0 : Int), rb⟩ (ps.take m) j = lk ∧ cHi b s ⟨(i0 : Int), rb⟩ (ps.take m) j = hk_)) (fun kk _ _ => ps.length - (intOf kk).toNat)
            case atStart => exact ⟨0, _, _, _, Nat.zero_le _, rfl, rfl, hQ11, hlk0, hhk0⟩
            case round =>
              obtain ⟨m, bc, lk, hk_, hmM, rfl, hbc, hQ, HC⟩ := hrel
              by_cases hmt : m < ps.length
              · have hpm := hpok m hmt
                obtain ⟨i, hi⟩ : ∃ i : Nat, ps[m].tide = i := ⟨ps[m].tide.toNat, by have := hpm.t0; omega⟩
                have hil : i < b.ts.length := by have := hpm.t1; omega
                obtain ⟨ad, hAd, _⟩ := (HE1.out.keep hQ.sn.1).pq.get hmt
                subst hAd
                obtain ⟨rl, hrl⟩ : ∃ rl, rlo (cBox b s j i) (-s.sink * ps[m].bal + b.bite) = rl := ⟨_, rfl⟩
                obtain ⟨rh, hrh⟩ : ∃ rh, rhi (cBox b s j i) (-s.sink * ps[m].bal + b.bite) = rh := ⟨_, rfl⟩
                have HRH := Lib.hid (And.intro hrl hrh)
                have HC2 : Hid (cLo b s ⟨(i0 : Int), rb⟩ (ps.take (m + 1)) j = max lk rl ∧ cHi b s ⟨(i0 : Int), rb⟩ (ps.take (m + 1)) j = max hk_ rh) := by
                  show _ ∧ _
                  obtain ⟨e1, e2⟩ := c_snoc hB s ⟨(i0 : Int), rb⟩ (ps.take m) ps[m] j
                  rw [hi, Int.toNat_natCast] at e1 e2
                  unfold lf at e1 e2
                  rw [List.take_succ_eq_append_getElem hmt, e1, e2, HC.out.1, HC.out.2, hrl, hrh]
                  exact ⟨rfl, rfl⟩
                clear hrl hrh HC
                go_wp2_with fail
                refine Vals6.regionAll (fun X => LQ w1 gA gD gO g5 g6 gB gT #[.int .i64 b.slo, .int .i64 b.shi] #[.int .i64 s.dlo, .int .i64 s.dhi] co #[.int .i64 (cSl b j), .int .i64 (cSl b j)] #[.int .i64 (cDr s j), .int .i64 (cDr s j)] bc lk hk_ X) [some 83, some 84, some 85, some 86, some 87, some 88, some 89, some 90] [.is (.agg (bV b A c)), .is (.agg (sV s)), .is (.slice (some ad) ps.length pc), .is (.int .i64 (m : Int)), .is (.pointer (some (ad.add (m * 2)))), .is (.pointer (some (ad.add (m * 2)))), .is (.int .i64 (i : Int)), .is (.agg (boxV (bx b s i)))] (by kernel_rfl) rfl rfl (by kernel_rfl) (by kernel_rfl) (by kernel_rfl) (by kernel_rfl) (by kernel_rfl) (by kernel_rfl) (by kernel_rfl) (hQ.drew) ?_ ?_
                · refine Vals5.Steps.run (by kernel_rfl) (Vals5.Stable.is _) ?_ ?_
                  · intro a W hS pre old K hK
                    have e4 : a.tmps.getD 4 undef = .pointer (some ⟨w.heap.size, 0, none⟩) := old 4 _ (by kernel_rfl) rfl
                    clear pre old
                    simp only [Array.getD_eq_getD_getElem?] at e4
                    have hS9 := hS
                    obtain ⟨⟨s0, s1, s2, s3, s4, s5⟩, ⟨d0, d1, d2⟩, ⟨r0, r1⟩, ts, pq, sn⟩ := (HE1.out.keep hS9.sn.1)
                    obtain ⟨ad', hA', y0, y1⟩ := pq.get hmt
                    obtain rfl : ad = ad' := by simpa using hA'
                    rw [hi] at y0
                    go_simp
                    exact hK _ _ hS (Below.refl _ _) rfl
                  refine Vals5.Steps.run (by kernel_rfl) (Vals5.Stable.is _) ?_ ?_
                  · intro a W hS pre old K hK
                    have e5 : a.tmps.getD 5 undef = .pointer (some ⟨w.heap.size + 1, 0, none⟩) := old 5 _ (by kernel_rfl) rfl
                    clear pre old
                    simp only [Array.getD_eq_getD_getElem?] at e5
                    have hS9 := hS
                    obtain ⟨⟨s0, s1, s2, s3, s4, s5⟩, ⟨d0, d1, d2⟩, ⟨r0, r1⟩, ts, pq, sn⟩ := (HE1.out.keep hS9.sn.1)
                    obtain ⟨ad', hA', y0, y1⟩ := pq.get hmt
                    obtain rfl : ad = ad' := by simpa using hA'
                    rw [hi] at y0
                    go_simp
                    exact hK _ _ hS (Below.refl _ _) rfl
                  refine Vals5.Steps.run (by kernel_rfl) (Vals5.Stable.is _) ?_ ?_
                  · intro a W hS pre old K hK
                    have e3 : a.tmps.getD 3 undef = .slice (some ad) ps.length pc := old 3 _ (by kernel_rfl) rfl
                    clear pre old
                    simp only [Array.getD_eq_getD_getElem?] at e3
                    go_simp
                    exact hK _ _ hS (Below.refl _ _) rfl
                  refine Vals5.Steps.run (by kernel_rfl) (Vals5.Stable.is _) ?_ ?_
                  · intro a W hS pre old K hK
                    have e19 : a.tmps.getD 19 undef = .int .i64 (m : Int) := old 19 _ (by kernel_rfl) rfl
                    clear pre old
                    simp only [Array.getD_eq_getD_getElem?] at e19
                    go_simp
                    exact hK _ _ hS (Below.refl _ _) rfl
                  refine Vals5.Steps.run (by kernel_rfl) (Vals5.Stable.is _) ?_ ?_
                  · intro a W hS pre old K hK
                    have e85 : a.tmps.getD 85 undef = .slice (some ad) ps.length pc := pre 2 85 _ (by kernel_rfl) rfl rfl
                    have e86 : a.tmps.getD 86 undef = .int .i64 (m : Int) := pre 3 86 _ (by kernel_rfl) rfl rfl
                    clear pre old
                    simp only [Array.getD_eq_getD_getElem?] at e85 e86
                    go_simp
                    exact hK _ _ hS (Below.refl _ _) rfl
                  refine Vals5.Steps.run (by kernel_rfl) (Vals5.Stable.is _) ?_ ?_
                  · intro a W hS pre old K hK
                    have e87 : a.tmps.getD 87 undef = .pointer (some (ad.add (m * 2))) := pre 4 87 _ (by kernel_rfl) rfl rfl
                    clear pre old
                    simp only [Array.getD_eq_getD_getElem?] at e87
                    go_simp
                    exact hK _ _ hS (Below.refl _ _) rfl
                  refine Vals5.Steps.run (by kernel_rfl) (Vals5.Stable.is _) ?_ ?_
                  · intro a W hS pre old K hK
                    have e88 : a.tmps.getD 88 undef = .pointer (some (ad.add (m * 2))) := pre 5 88 _ (by kernel_rfl) rfl rfl
                    clear pre old
                    simp only [Array.getD_eq_getD_getElem?] at e88
                    have hS9 := hS
                    obtain ⟨⟨s0, s1, s2, s3, s4, s5⟩, ⟨d0, d1, d2⟩, ⟨r0, r1⟩, ts, pq, sn⟩ := (HE1.out.keep hS9.sn.1)
                    obtain ⟨ad', hA', y0, y1⟩ := pq.get hmt
                    obtain rfl : ad = ad' := by simpa using hA'
                    rw [hi] at y0
                    go_simp
                    exact hK _ _ hS (Below.refl _ _) rfl
                  refine Vals5.Steps.run (by kernel_rfl) (Vals5.Stable.is _) ?_ ?_
                  · intro a W hS pre old K hK
                    have e83 : a.tmps.getD 83 undef = .agg (bV b A c) := pre 0 83 _ (by kernel_rfl) rfl rfl
                    have e84 : a.tmps.getD 84 undef = .agg (sV s) := pre 1 84 _ (by kernel_rfl) rfl rfl
                    have e89 : a.tmps.getD 89 undef = .int .i64 (i : Int) := pre 6 89 _ (by kernel_rfl) rfl rfl
                    clear pre old
                    simp only [Array.getD_eq_getD_getElem?] at e83 e84 e89
                    go_simp
                    refine (of_c b s A c i _ (HE1.out.keep hS.sn.1).ts hil (by omega)).mono ?_
                    rintro e w' ⟨rfl, hb'⟩
                    exact hK _ _ (hS.keep hb') hb' rfl
                  exact Vals5.Steps.nil
                · intro X15 hQ15
                  simp only [Vals5.All, List.getLast_cons_cons, List.getLast_singleton]
                  simp only [Vals.putAll, List.setIfInBounds_toArray, List.set_cons_zero, List.set_cons_succ]
                  intro K hK
                  refine wp_store_row 107 _ _ rfl gB (boxV (bx b s i)) rfl rfl 107 _ hQ15.b (by kernel_rfl) hbc (by simp [Value.oneCell']) ?_
                  refine hK _ _ ?_
                  clear hK K
                  have hQY := hQ15.box hOrd (boxV (bx b s i))
                  obtain ⟨Y, hY⟩ : ∃ Y, X15.setRow gB (boxV (bx b s i)) = Y := ⟨_, rfl⟩
                  rw [hY] at hQY ⊢
                  clear hY hQ15 hQ
                  go_wp2_with fail
                  refine Vals6.regionAll (fun X => (LQ w1 gA gD gO g5 g6 gB gT #[.int .i64 b.slo, .int .i64 b.shi] #[.int .i64 s.dlo, .int .i64 s.dhi] co #[.int .i64 (cSl b j), .int .i64 (cSl b j)] #[.int .i64 (cDr s j), .int .i64 (cDr s j)] (boxV (bx b s i)) lk hk_ X) ∧ Since Y X) [some 91, some 92, some 93, some 94, some 95, some 96, some 97, some 98, some 99, some 100, some 101, some 102, some 103, some 104, some 105, some 106, some 20] [.is (.agg (sV s)), .is (.agg #[.int .i64 (cSl b j), .int .i64 (cSl b j)]), .is (.agg #[.int .i64 (cDr s j), .int .i64 (cDr s j)]), .is (.pointer (some ⟨gB, 4, none⟩)), .is (.agg #[.int .i64 (bx b s i).hlo, .int .i64 (bx b s i).hhi]), .is (.pointer (some ⟨gB, 6, none⟩)), .is (.agg #[.int .i64 (bx b s i).wlo, .int .i64 (bx b s i).whi]), .is (.agg (boxV (cBox b s j i))), .is (.slice (some ad) ps.length pc), .is (.int .i64 (m : Int)), .is (.pointer (some (ad.add (m * 2)))), .is (.pointer (some (at_ (ad.add (m * 2)) 1))), .is (.int .i64 ps[m].bal), .is (.pointer (some ⟨w.heap.size, 4, none⟩)), .is (.int .i64 b.bite), .is (.agg #[.int .i64 rl, .int .i64 rh]), .has (NewP Y.heap.size)] (by kernel_rfl) rfl rfl (by kernel_rfl) (by kernel_rfl) (by kernel_rfl) (by kernel_rfl) (by kernel_rfl) (by kernel_rfl) (by kernel_rfl) (⟨hQY.drew, (Since.refl Y).drew⟩) ?_ ?_
                  · refine Vals5.Steps.run (by kernel_rfl) (Vals5.Stable.is _) ?_ ?_
                    · intro a W hS pre old K hK
                      have e5 : a.tmps.getD 5 undef = .pointer (some ⟨w.heap.size + 1, 0, none⟩) := old 5 _ (by kernel_rfl) rfl
                      clear pre old
                      simp only [Array.getD_eq_getD_getElem?] at e5
                      have hS9 := hS
                      obtain ⟨hS9, hsy⟩ := hS9
                      obtain ⟨⟨s0, s1, s2, s3, s4, s5⟩, ⟨d0, d1, d2⟩, ⟨r0, r1⟩, ts, pq, sn⟩ := (HE1.out.keep hS9.sn.1)
                      obtain ⟨ad', hA', y0, y1⟩ := pq.get hmt
                      obtain rfl : ad = ad' := by simpa using hA'
                      obtain ⟨u0, u1⟩ := hS9.u.span
                      obtain ⟨v0, v1⟩ := hS9.v.span
                      obtain ⟨b0, b1, b2, b3, b4, b5, b6, b7⟩ := hS9.b.box
                      go_simp
                      exact hK _ _ hS (Below.refl _ _) rfl
                    refine Vals5.Steps.run (by kernel_rfl) (Vals5.Stable.is _) ?_ ?_
                    · intro a W hS pre old K hK
                      have e15 : a.tmps.getD 15 undef = .pointer (some ⟨g5, 0, none⟩) := old 15 _ (by kernel_rfl) rfl
                      clear pre old
                      simp only [Array.getD_eq_getD_getElem?] at e15
                      have hS9 := hS
                      obtain ⟨hS9, hsy⟩ := hS9
                      obtain ⟨⟨s0, s1, s2, s3, s4, s5⟩, ⟨d0, d1, d2⟩, ⟨r0, r1⟩, ts, pq, sn⟩ := (HE1.out.keep hS9.sn.1)
                      obtain ⟨ad', hA', y0, y1⟩ := pq.get hmt
                      obtain rfl : ad = ad' := by simpa using hA'
                      obtain ⟨u0, u1⟩ := hS9.u.span
                      obtain ⟨v0, v1⟩ := hS9.v.span
                      obtain ⟨b0, b1, b2, b3, b4, b5, b6, b7⟩ := hS9.b.box
                      go_simp
                      exact hK _ _ hS (Below.refl _ _) rfl
                    refine Vals5.Steps.run (by kernel_rfl) (Vals5.Stable.is _) ?_ ?_
                    · intro a W hS pre old K hK
                      have e16 : a.tmps.getD 16 undef = .pointer (some ⟨g6, 0, none⟩) := old 16 _ (by kernel_rfl) rfl
                      clear pre old
                      simp only [Array.getD_eq_getD_getElem?] at e16
                      have hS9 := hS
                      obtain ⟨hS9, hsy⟩ := hS9
                      obtain ⟨⟨s0, s1, s2, s3, s4, s5⟩, ⟨d0, d1, d2⟩, ⟨r0, r1⟩, ts, pq, sn⟩ := (HE1.out.keep hS9.sn.1)
                      obtain ⟨ad', hA', y0, y1⟩ := pq.get hmt
                      obtain rfl : ad = ad' := by simpa using hA'
                      obtain ⟨u0, u1⟩ := hS9.u.span
                      obtain ⟨v0, v1⟩ := hS9.v.span
                      obtain ⟨b0, b1, b2, b3, b4, b5, b6, b7⟩ := hS9.b.box
                      go_simp
                      exact hK _ _ hS (Below.refl _ _) rfl
                    refine Vals5.Steps.run (by kernel_rfl) (Vals5.Stable.is _) ?_ ?_
                    · intro a W hS pre old K hK
                      have e17 : a.tmps.getD 17 undef = .pointer (some ⟨gB, 0, none⟩) := old 17 _ (by kernel_rfl) rfl
                      clear pre old
                      simp only [Array.getD_eq_getD_getElem?] at e17
                      go_simp
                      exact hK _ _ hS (Below.refl _ _) rfl
                    refine Vals5.Steps.run (by kernel_rfl) (Vals5.Stable.is _) ?_ ?_
                    · intro a W hS pre old K hK
                      have e94 : a.tmps.getD 94 undef = .pointer (some ⟨gB, 4, none⟩) := pre 3 94 _ (by kernel_rfl) rfl rfl
                      clear pre old
                      simp only [Array.getD_eq_getD_getElem?] at e94
                      have hS9 := hS
                      obtain ⟨hS9, hsy⟩ := hS9
                      obtain ⟨⟨s0, s1, s2, s3, s4, s5⟩, ⟨d0, d1, d2⟩, ⟨r0, r1⟩, ts, pq, sn⟩ := (HE1.out.keep hS9.sn.1)
                      obtain ⟨ad', hA', y0, y1⟩ := pq.get hmt
                      obtain rfl : ad = ad' := by simpa using hA'
                      obtain ⟨u0, u1⟩ := hS9.u.span
                      obtain ⟨v0, v1⟩ := hS9.v.span
                      obtain ⟨b0, b1, b2, b3, b4, b5, b6, b7⟩ := hS9.b.box
                      go_simp
                      exact hK _ _ hS (Below.refl _ _) rfl
                    refine Vals5.Steps.run (by kernel_rfl) (Vals5.Stable.is _) ?_ ?_
                    · intro a W hS pre old K hK
                      have e17 : a.tmps.getD 17 undef = .pointer (some ⟨gB, 0, none⟩) := old 17 _ (by kernel_rfl) rfl
                      clear pre old
                      simp only [Array.getD_eq_getD_getElem?] at e17
                      go_simp
                      exact hK _ _ hS (Below.refl _ _) rfl
                    refine Vals5.Steps.run (by kernel_rfl) (Vals5.Stable.is _) ?_ ?_
                    · intro a W hS pre old K hK
                      have e96 : a.tmps.getD 96 undef = .pointer (some ⟨gB, 6, none⟩) := pre 5 96 _ (by kernel_rfl) rfl rfl
                      clear pre old
                      simp only [Array.getD_eq_getD_getElem?] at e96
                      have hS9 := hS
                      obtain ⟨hS9, hsy⟩ := hS9
                      obtain ⟨⟨s0, s1, s2, s3, s4, s5⟩, ⟨d0, d1, d2⟩, ⟨r0, r1⟩, ts, pq, sn⟩ := (HE1.out.keep hS9.sn.1)
                      obtain ⟨ad', hA', y0, y1⟩ := pq.get hmt
                      obtain rfl : ad = ad' := by simpa using hA'
                      obtain ⟨u0, u1⟩ := hS9.u.span
                      obtain ⟨v0, v1⟩ := hS9.v.span
                      obtain ⟨b0, b1, b2, b3, b4, b5, b6, b7⟩ := hS9.b.box
                      go_simp
                      exact hK _ _ hS (Below.refl _ _) rfl
                    refine Vals5.Steps.run (by kernel_rfl) (Vals5.Stable.is _) ?_ ?_
                    · intro a W hS pre old K hK
                      have e92 : a.tmps.getD 92 undef = .agg #[.int .i64 (cSl b j), .int .i64 (cSl b j)] := pre 1 92 _ (by kernel_rfl) rfl rfl
                      have e93 : a.tmps.getD 93 undef = .agg #[.int .i64 (cDr s j), .int .i64 (cDr s j)] := pre 2 93 _ (by kernel_rfl) rfl rfl
                      have e95 : a.tmps.getD 95 undef = .agg #[.int .i64 (bx b s i).hlo, .int .i64 (bx b s i).hhi] := pre 4 95 _ (by kernel_rfl) rfl rfl
                      have e97 : a.tmps.getD 97 undef = .agg #[.int .i64 (bx b s i).wlo, .int .i64 (bx b s i).whi] := pre 6 97 _ (by kernel_rfl) rfl rfl
                      clear pre old
                      simp only [Array.getD_eq_getD_getElem?] at e92 e93 e95 e97
                      go_simp
                      exact hK _ _ hS (Below.refl _ _) rfl
                    refine Vals5.Steps.run (by kernel_rfl) (Vals5.Stable.is _) ?_ ?_
                    · intro a W hS pre old K hK
                      have e3 : a.tmps.getD 3 undef = .slice (some ad) ps.length pc := old 3 _ (by kernel_rfl) rfl
                      clear pre old
                      simp only [Array.getD_eq_getD_getElem?] at e3
                      go_simp
                      exact hK _ _ hS (Below.refl _ _) rfl
                    refine Vals5.Steps.run (by kernel_rfl) (Vals5.Stable.is _) ?_ ?_
                    · intro a W hS pre old K hK
                      have e19 : a.tmps.getD 19 undef = .int .i64 (m : Int) := old 19 _ (by kernel_rfl) rfl
                      clear pre old
                      simp only [Array.getD_eq_getD_getElem?] at e19
                      go_simp
                      exact hK _ _ hS (Below.refl _ _) rfl
                    refine Vals5.Steps.run (by kernel_rfl) (Vals5.Stable.is _) ?_ ?_
                    · intro a W hS pre old K hK
                      have e99 : a.tmps.getD 99 undef = .slice (some ad) ps.length pc := pre 8 99 _ (by kernel_rfl) rfl rfl
                      have e100 : a.tmps.getD 100 undef = .int .i64 (m : Int) := pre 9 100 _ (by kernel_rfl) rfl rfl
                      clear pre old
                      simp only [Array.getD_eq_getD_getElem?] at e99 e100
                      go_simp
                      exact hK _ _ hS (Below.refl _ _) rfl
                    refine Vals5.Steps.run (by kernel_rfl) (Vals5.Stable.is _) ?_ ?_
                    · intro a W hS pre old K hK
                      have e101 : a.tmps.getD 101 undef = .pointer (some (ad.add (m * 2))) := pre 10 101 _ (by kernel_rfl) rfl rfl
                      clear pre old
                      simp only [Array.getD_eq_getD_getElem?] at e101
                      go_simp
                      exact hK _ _ hS (Below.refl _ _) rfl
                    refine Vals5.Steps.run (by kernel_rfl) (Vals5.Stable.is _) ?_ ?_
                    · intro a W hS pre old K hK
                      have e102 : a.tmps.getD 102 undef = .pointer (some (at_ (ad.add (m * 2)) 1)) := pre 11 102 _ (by kernel_rfl) rfl rfl
                      clear pre old
                      simp only [Array.getD_eq_getD_getElem?] at e102
                      have hS9 := hS
                      obtain ⟨hS9, hsy⟩ := hS9
                      obtain ⟨⟨s0, s1, s2, s3, s4, s5⟩, ⟨d0, d1, d2⟩, ⟨r0, r1⟩, ts, pq, sn⟩ := (HE1.out.keep hS9.sn.1)
                      obtain ⟨ad', hA', y0, y1⟩ := pq.get hmt
                      obtain rfl : ad = ad' := by simpa using hA'
                      obtain ⟨u0, u1⟩ := hS9.u.span
                      obtain ⟨v0, v1⟩ := hS9.v.span
                      obtain ⟨b0, b1, b2, b3, b4, b5, b6, b7⟩ := hS9.b.box
                      go_simp
                      exact hK _ _ hS (Below.refl _ _) rfl
                    refine Vals5.Steps.run (by kernel_rfl) (Vals5.Stable.is _) ?_ ?_
                    · intro a W hS pre old K hK
                      have e4 : a.tmps.getD 4 undef = .pointer (some ⟨w.heap.size, 0, none⟩) := old 4 _ (by kernel_rfl) rfl
                      clear pre old
                      simp only [Array.getD_eq_getD_getElem?] at e4
                      go_simp
                      exact hK _ _ hS (Below.refl _ _) rfl
                    refine Vals5.Steps.run (by kernel_rfl) (Vals5.Stable.is _) ?_ ?_
                    · intro a W hS pre old K hK
                      have e104 : a.tmps.getD 104 undef = .pointer (some ⟨w.heap.size, 4, none⟩) := pre 13 104 _ (by kernel_rfl) rfl rfl
                      clear pre old
                      simp only [Array.getD_eq_getD_getElem?] at e104
                      have hS9 := hS
                      obtain ⟨hS9, hsy⟩ := hS9
                      obtain ⟨⟨s0, s1, s2, s3, s4, s5⟩, ⟨d0, d1, d2⟩, ⟨r0, r1⟩, ts, pq, sn⟩ := (HE1.out.keep hS9.sn.1)
                      obtain ⟨ad', hA', y0, y1⟩ := pq.get hmt
                      obtain rfl : ad = ad' := by simpa using hA'
                      obtain ⟨u0, u1⟩ := hS9.u.span
                      obtain ⟨v0, v1⟩ := hS9.v.span
                      obtain ⟨b0, b1, b2, b3, b4, b5, b6, b7⟩ := hS9.b.box
                      go_simp
                      exact hK _ _ hS (Below.refl _ _) rfl
                    refine Vals5.Steps.run (by kernel_rfl) (Vals5.Stable.is _) ?_ ?_
                    · intro a W hS pre old K hK
                      have e91 : a.tmps.getD 91 undef = .agg (sV s) := pre 0 91 _ (by kernel_rfl) rfl rfl
                      have e98 : a.tmps.getD 98 undef = .agg (boxV (cBox b s j i)) := pre 7 98 _ (by kernel_rfl) rfl rfl
                      have e103 : a.tmps.getD 103 undef = .int .i64 ps[m].bal := pre 12 103 _ (by kernel_rfl) rfl rfl
                      have e105 : a.tmps.getD 105 undef = .int .i64 b.bite := pre 14 105 _ (by kernel_rfl) rfl rfl
                      clear pre old
                      simp only [Array.getD_eq_getD_getElem?] at e91 e98 e103 e105
                      go_simp
                      obtain ⟨hQ9, hsy⟩ := hS
                      refine (rreach_c s (cBox b s j i) ps[m].bal b.bite _ (cBox_ok hB hSO.out j hil) hSO.out.k0 hSO.out.k1 hpm.b0 (by have := hpm.b1; omega) (by omega) (by omega)).mono ?_
                      rintro e w' ⟨rfl, hb'⟩
                      rw [HRH.out.1, HRH.out.2]
                      exact hK _ _ ⟨hQ9.keep hb', hsy.keep hb'⟩ hb' rfl
                    refine Vals5.Steps.run (by kernel_rfl) (NewP.stable _) ?_ ?_
                    · intro a W hS pre old K hK
                      clear pre old
                      go_simp
                      obtain ⟨hQ9, hsy⟩ := hS
                      have hb' : Below W.heap.size W (W.alloc (.cells #[.int .i64 0, .int .i64 0] 23)) := (Below.refl _ _).alloc (Nat.le_refl _) _
                      exact hK _ _ ⟨hQ9.keep hb', hsy.keep hb'⟩ hb' ⟨_, rfl, hsy.2, Blk.new _ _ _⟩
                    exact Vals5.Steps.nil
                  · rintro X16 ⟨hQ16, hsy⟩
                    simp only [Vals5.All, List.getLast_cons_cons, List.getLast_singleton]
                    rintro v20 ⟨g20, rfl, hg20, hB20⟩
                    dsimp only [Act.put]
                    simp only [Vals.putAll, List.setIfInBounds_toArray, List.set_cons_zero, List.set_cons_succ]
                    intro K hK
                    refine wp_store_row 23 _ _ rfl g20 #[.int .i64 rl, .int .i64 rh] rfl rfl 23 _ hB20 (by kernel_rfl) rfl (by simp [Value.oneCell']) ?_
                    refine hK _ _ ?_
                    clear hK K
                    have hQ17 := hQY.keep (hsy.row hg20 #[.int .i64 rl, .int .i64 rh]).1
                    have hP17 := hB20.row #[.int .i64 rl, .int .i64 rh]
                    clear hQ16 hsy hB20 hQY
                    obtain ⟨r0, r1⟩ := hQ17.r.span
                    obtain ⟨p0, p1⟩ := hP17.span
                    have f0 := hQ17.r.frozen 0
                    have f1 := hQ17.r.frozen 1
                    go_upto_region 17 with fail
                    refine wp_region_list ?_
                    refine wpList_plain rfl (fun K hK => ?_)
                    go_simp
                    refine hK _ _ ?_
                    clear hK K
                    refine wpList_plain rfl (fun K hK => ?_)
                    go_simp
                    refine hK _ _ ?_
                    clear hK K
                    refine wpList_plain rfl (fun K hK => ?_)
                    go_simp
                    refine hK _ _ ?_
                    clear hK K
                    refine wpList_plain rfl (fun K hK => ?_)
                    go_simp
                    refine hK _ _ ?_
                    clear hK K
                    refine wpList_two .max _ _ 3 rfl (.int .i64 (max lk rl)) rfl (by
                        intro K hK
                        rcases (by omega : (lk < rl ∧ max lk rl = rl) ∨ (¬ lk < rl ∧ max lk rl = lk)) with ⟨h2, hn⟩ | ⟨h2, hn⟩
                        all_goals
                          rw [hn] at hK
                          go_simp
                          exact hK) ?_
                    refine wpList_plain rfl (fun K hK => ?_)
                    go_simp
                    refine hK _ _ ?_
                    clear hK K
                    refine wpList_plain rfl (fun K hK => ?_)
                    go_simp
                    refine hK _ _ ?_
                    clear hK K
                    refine wpList_plain rfl (fun K hK => ?_)
                    go_simp
                    refine hK _ _ ?_
                    clear hK K
                    refine wpList_plain rfl (fun K hK => ?_)
                    go_simp
                    refine hK _ _ ?_
                    clear hK K
                    refine wpList_two .max _ _ 3 rfl (.int .i64 (max hk_ rh)) rfl (by
                        intro K hK
                        rcases (by omega : (hk_ < rh ∧ max hk_ rh = rh) ∨ (¬ hk_ < rh ∧ max hk_ rh = hk_)) with ⟨h2, hn⟩ | ⟨h2, hn⟩
                        all_goals
                          rw [hn] at hK
                          go_simp
                          exact hK) ?_
                    refine wpList_plain rfl (fun K hK => ?_)
                    go_simp
                    refine hK _ _ ?_
                    clear hK K
                    refine wpList_plain rfl (fun K hK => ?_)
                    go_simp
                    refine hK _ _ ?_
                    clear hK K
                    clear r0 r1 p0 p1 f0 f1
                    go_wp2_with fail
                    go_roundw
                    case rel => exact ⟨m + 1, _, _, _, by omega, by go_num, rfl, hQ17.res hOrd _ _, HC2.out⟩
                    case measure => simp [intOf]; omega
              · rw [List.take_of_length_le (by omega)] at HC
                obtain ⟨r0, r1⟩ := hQ.r.span
                have hQo := hQ.o
                by_cases hj0 : j = 0
                · subst hj0
                  rw [← hco] at hQo
                  obtain ⟨z0, z1⟩ := hQo.span
                  have f0 := hQo.frozen 0
                  have f1 := hQo.frozen 1
                  have hQ19 := hQ.out hOrd lk hk_ _ _ hco.symm
                  obtain ⟨R0, R1⟩ := hQ19.r.span
                  obtain ⟨O0, O1⟩ := hQ19.o.span
                  have F0 := hQ19.o.frozen 0
                  have F1 := hQ19.o.frozen 1
                  have hQ20 := hQ19.out hOrd lk hk_ _ _ rfl
                  go_wp2_with fail
                  go_roundw
                  case rel => exact ⟨0 + 1, by omega, by go_num, hQ20.sn, hQ20.a, hQ20.d, by
                    have h := hQ20.o
                    have e1 : accE b s ⟨(i0 : Int), rb⟩ ps (0 + 1) = (lk, hk_) := by
                      show (cLo b s ⟨(i0 : Int), rb⟩ ps 0, cHi b s ⟨(i0 : Int), rb⟩ ps 0) = _
                      rw [HC.out.1, HC.out.2]
                    rw [e1]; exact h⟩
                  case measure => simp [intOf]
                · obtain ⟨j', rfl⟩ : ∃ j', j = j' + 1 := ⟨j - 1, by omega⟩
                  obtain ⟨o0, ho0⟩ : ∃ o0, (accE b s ⟨(i0 : Int), rb⟩ ps (j' + 1)).1 = o0 := ⟨_, rfl⟩
                  obtain ⟨o1, ho1⟩ : ∃ o1, (accE b s ⟨(i0 : Int), rb⟩ ps (j' + 1)).2 = o1 := ⟨_, rfl⟩
                  rw [ho0, ho1] at hco
                  rw [← hco] at hQo
                  obtain ⟨O0, O1⟩ := hQo.span
                  have F0 := hQo.frozen 0
                  have F1 := hQo.frozen 1
                  have hjb : ((((j' + 1 : Nat) : Int)) == 0) = false := by rw [beq_eq_false_iff_ne]; omega
                  go_upto_region 20 with fail
                  refine wp_region_list ?_
                  refine wpList_plain rfl (fun K hK => ?_)
                  go_simp
                  refine hK _ _ ?_
                  clear hK K
                  refine wpList_plain rfl (fun K hK => ?_)
                  go_simp
                  refine hK _ _ ?_
                  clear hK K
                  refine wpList_plain rfl (fun K hK => ?_)
                  go_simp
                  refine hK _ _ ?_
                  clear hK K
                  refine wpList_plain rfl (fun K hK => ?_)
                  go_simp
                  refine hK _ _ ?_
                  clear hK K
                  refine wpList_two .min _ _ 3 rfl (.int .i64 (min o0 lk)) rfl (by
                      intro K hK
                      rcases (by omega : (lk < o0 ∧ min o0 lk = lk) ∨ (¬ lk < o0 ∧ min o0 lk = o0)) with ⟨h2, hn⟩ | ⟨h2, hn⟩
                      all_goals
                        rw [hn] at hK
                        go_simp
                        exact hK) ?_
                  refine wpList_plain rfl (fun K hK => ?_)
                  go_simp
                  refine hK _ _ ?_
                  clear hK K
                  refine wpList_plain rfl (fun K hK => ?_)
                  go_simp
                  refine hK _ _ ?_
                  clear hK K
                  refine wpList_plain rfl (fun K hK => ?_)
                  go_simp
                  refine hK _ _ ?_
                  clear hK K
                  refine wpList_plain rfl (fun K hK => ?_)
                  go_simp
                  refine hK _ _ ?_
                  clear hK K
                  refine wpList_two .max _ _ 3 rfl (.int .i64 (max o1 hk_)) rfl (by
                      intro K hK
                      rcases (by omega : (o1 < hk_ ∧ max o1 hk_ = hk_) ∨ (¬ o1 < hk_ ∧ max o1 hk_ = o1)) with ⟨h2, hn⟩ | ⟨h2, hn⟩
                      all_goals
                        rw [hn] at hK
                        go_simp
                        exact hK) ?_
                  refine wpList_plain rfl (fun K hK => ?_)
                  go_simp
                  refine hK _ _ ?_
                  clear hK K
                  refine wpList_plain rfl (fun K hK => ?_)
                  go_simp
                  refine hK _ _ ?_
                  clear hK K
                  clear r0 r1 O0 O1 F0 F1
                  have hQ20 := hQ.out hOrd (min o0 lk) (max o1 hk_) _ _ hco.symm
                  go_wp2_with fail
                  go_roundw
                  case rel => exact ⟨j' + 1 + 1, by omega, by go_num, hQ20.sn, hQ20.a, hQ20.d, by
                    have h := hQ20.o
                    have e1 : accE b s ⟨(i0 : Int), rb⟩ ps (j' + 1 + 1) = (min o0 lk, max o1 hk_) := by
                      show (min (accE b s ⟨(i0 : Int), rb⟩ ps (j' + 1)).1 (cLo b s ⟨(i0 : Int), rb⟩ ps (j' + 1)), max (accE b s ⟨(i0 : Int), rb⟩ ps (j' + 1)).2 (cHi b s ⟨(i0 : Int), rb⟩ ps (j' + 1))) = _
                      rw [HC.out.1, HC.out.2, ho0, ho1]
                    rw [e1]; exact h⟩
                  case measure => simp [intOf]; omega
        · obtain rfl : j = 4 := by omega
          rw [accE_four hB hS] at hO
          have hGr := HG1.out.keep hsn.1
          obtain ⟨o0, o1⟩ := hO.span
          go_wp2_with (refine wpList_store_row rfl 23 _ _ rfl (w.heap.size + 1 + 1 + 1) _ rfl rfl 23 _ hGr (by kernel_rfl) rfl (by simp [Value.oneCell']) ?_)
          refine bodyPost_ret (results_cell_tmp Try.results31 _ _ (w.heap.size + 1 + 1 + 1) 23 _ (0, 0) _ rfl (hGr.row _) Try.underlying23 rfl (by kernel_rfl)) rfl ⟨?_, ?_⟩
          · rw [HV.out]; rfl
          · exact (((HE1.out.keep hsn.1).sn).row (by omega) _).1
  · have HV : Hid (rliesV b s run ps = .tuple #[.agg #[.int .i64 0, .int .i64 0], .int .i64 (planE b s run ps)]) := by show _ = _; unfold rliesV; rw [if_neg h0]
    have hne : ((planE b s run ps : Int) != 0) = true := by simpa using h0
    clear h0
    go_wp2_with (refine wpList_store_row rfl 23 _ _ rfl (w.heap.size + 1 + 1 + 1) _ rfl rfl 23 _ HG1.out (by kernel_rfl) rfl (by simp [Value.oneCell']) ?_)
    refine bodyPost_ret (results_cell_tmp Try.results31 _ _ (w.heap.size + 1 + 1 + 1) 23 _ (0, 0) _ rfl (HG1.out.row _) Try.underlying23 rfl (by kernel_rfl)) rfl ⟨?_, ?_⟩
    · rw [HV.out]; rfl
    · exact (HE1.out.sn.row (by omega) _).1
end Td
end Go.Proofs.Ytojpiliamecgkaa
