import Derived.Test.YthdcklonamgpiaaFal
/- Why, Tide, Forces. -/
namespace Go.Proofs.Ythdcklonamgpiaa
open Go.RowKit
namespace Td
set_option linter.unusedSimpArgs false
set_option linter.unusedVariables false
attribute [local go_sem] Oper.semAt_some
set_option maxRecDepth 100000 in
set_option maxHeartbeats 2000000 in
theorem Why_c (h : Hul) (m : Sl) (lo hi : Int) (w : World) (hp : HAt w m h) :
    Calls Try.prog 31 #[.agg (hV h m), .agg #[.int .i64 lo, .int .i64 hi]] w fun e w' => e = .returned (.tuple #[.int .i64 (whyA h lo hi).1, .int .i64 (whyA h lo hi).2.1, .int .i64 (whyA h lo hi).2.2]) ∧ Below w.heap.size w w' := by
  have hs0 := ((Since.refl w).alloc (.cells (hV h m) 24)).alloc (.cells #[.int .i64 lo, .int .i64 hi] 48)
  have HS := Lib.hid (Blk.new1 w (.cells (hV h m) 24) 48 #[.int .i64 lo, .int .i64 hi])
  obtain ⟨c0, c1, c2⟩ := ((Blk.new w 24 (hV h m)).alloc (.cells #[.int .i64 lo, .int .i64 hi] 48)).hull
  go_enter Try.func31, Try.ntmps31
  go_wp2_with fail
  refine (look_c h m lo hi _ (hp.keep hs0.1)).mono ?_
  rintro e w1 ⟨rfl, hb1⟩
  have hs1 := hs0.keep hb1
  have HS1 := Lib.hid (HS.out.keep hb1)
  clear c0 c1 c2
  by_cases hc : lookE h lo hi = 0
  · obtain ⟨hc1, h0, h01, h1⟩ := lookE_ok.1 hc
    have hh := (chk_ok hc1).bk
    have HV : Hid (whyA h lo hi = ((fall h lo hi).2, (fall h lo hi).1, 0)) := by show _ = _; simp [whyA, hc]
    rw [show lookV h m lo hi = .tuple #[.agg (hV h m), .int .i64 0] from by simp [lookV, hc]]
    clear hc hc1
    have hs2 := hs1.alloc (.cells (hV h m) 92)
    obtain ⟨d0, d1⟩ := (HS1.out.alloc (.cells (hV h m) 92)).span
    go_wp2_with fail
    refine (fall_c h m lo hi _ hh (hp.keep hs2.1) h0 h01 h1).mono ?_
    rintro e w2 ⟨rfl, hb2⟩
    clear d0 d1
    go_wp2_with fail
    go_ret3
    exact ⟨by rw [HV.out]; rfl, (hs2.keep hb2).1⟩
  · have HV : Hid (whyA h lo hi = (0, 0, lookE h lo hi)) := by show _ = _; simp [whyA, hc]
    rw [show lookV h m lo hi = .tuple #[.agg w0V, .int .i64 (lookE h lo hi)] from by simp [lookV, hc]]
    have hc' : (lookE h lo hi != 0) = true := by simpa using hc
    clear hc
    have hs2 := hs1.alloc (.cells w0V 92)
    go_wp2_with fail
    go_ret3
    exact ⟨by rw [HV.out]; rfl, hs2.1⟩
theorem lookE_tide (h : Hul) : lookE h 0 1000 = (chk h).2.2 := by
  unfold lookE
  by_cases hc : (chk h).2.2 = 0
  · rw [if_neg (by simpa using hc), hc]; decide
  · rw [if_pos hc]
set_option maxRecDepth 100000 in
set_option maxHeartbeats 2000000 in
theorem Tide_c (h : Hul) (m : Sl) (w : World) (hp : HAt w m h) :
    Calls Try.prog 41 #[.agg (hV h m)] w fun e w' => e = .returned (.tuple #[.int .i64 (tideA h).1, .int .i64 (tideA h).2]) ∧ Below w.heap.size w w' := by
  have hs0 := (Since.refl w).alloc (.cells (hV h m) 24)
  obtain ⟨E, hE⟩ : ∃ E, tideA h = E := ⟨_, rfl⟩
  rw [hE]
  go_enter Try.func41, Try.ntmps41
  go_wp2_with fail
  refine (Why_c h m 0 1000 _ (hp.keep hs0.1)).mono ?_
  rintro e w1 ⟨rfl, hb1⟩
  have hs1 := hs0.keep hb1
  unfold tideA at hE
  unfold whyA
  rw [lookE_tide]
  by_cases hc : (chk h).2.2 = 0
  · rw [if_neg (by simpa using hc)] at hE ⊢
    clear hc
    rcases fall_cases h 0 1000 with ⟨e, -⟩ | ⟨v, h1, h2, -, h4, e⟩
    · rw [e] at hE ⊢
      subst hE
      go_wp2_with fail
      go_ret2
      exact ⟨rfl, hs1.1⟩
    · rw [e] at hE ⊢
      clear e
      obtain ⟨y, hy⟩ : ∃ y, whyH h v = y := ⟨_, rfl⟩
      rw [hy] at hE h4 ⊢
      rw [if_neg h4] at hE
      have h4' : (y == 0) = false := by simpa using h4
      clear hy h4
      by_cases hv : v = 0
      · rw [if_pos hv] at hE
        subst hv
        subst hE
        go_wp2_with fail
        go_ret2
        exact ⟨rfl, hs1.1⟩
      · rw [if_neg hv] at hE
        subst hE
        have hv' : (v == 0) = false := by simpa using hv
        have hw1 : IntKind.i64.wrap (v - 1) = v - 1 := IntWalk.i64_in _ (by omega)
        clear hv
        go_wp2_with fail
        go_ret2
        exact ⟨rfl, hs1.1⟩
  · rw [if_pos hc] at hE ⊢
    subst hE
    have hc' : ((chk h).2.2 != 0) = true := by simpa using hc
    clear hc
    go_wp2_with fail
    go_ret2
    exact ⟨rfl, hs1.1⟩
/-- forces in a row. -/
def FoAt (w : World) (A : Option Addr) (l : List (Int × Int)) : Prop :=
  l ≠ [] → ∃ a, A = some a ∧ ∀ i p, l[i]? = some p → w.cell? (a.add (i * 2)) = some (.int .i64 p.1) ∧ w.cell? (at_ (a.add (i * 2)) 1) = some (.int .i64 p.2)
theorem FoAt.keep {w w' : World} {A : Option Addr} {l : List (Int × Int)} (h : FoAt w A l) (hb : Below w.heap.size w w') : FoAt w' A l := SpAt.keep h hb
theorem FoAt.get {w : World} {A : Option Addr} {l : List (Int × Int)} (h : FoAt w A l) {k : Nat} (hk : k < l.length) : ∃ a, A = some a ∧ w.cell? (a.add (k * 2)) = some (.int .i64 l[k].1) ∧ w.cell? (at_ (a.add (k * 2)) 1) = some (.int .i64 l[k].2) := SpAt.get h hk
/-- a slice of forces. -/
def Fv (X : World) (v : Value) (l : List (Int × Int)) : Prop := ∃ A c, v = .slice A l.length c ∧ FoAt X A l ∧ l.length ≤ c ∧ c ≤ 9223372036854775807
set_option maxRecDepth 100000 in
set_option maxHeartbeats 2000000 in
theorem Forces_c (h : Hul) (m : Sl) (GA : Option Addr) (gs : List Int) (gc : Nat) (LA : Option Addr) (ls : List Int) (lc : Nat) (wt : Int) (w : World) (hp : HAt w m h) (hG : InAt w GA gs) (hL : InAt w LA ls) :
    Calls Try.prog 22 #[.agg (hV h m), .agg (tV GA gs.length gc LA ls.length lc), .int .i64 wt] w fun e w' => (∃ v, e = .returned (.tuple #[v, .int .i64 (forcesA h gs ls wt).2]) ∧ Fv w' v (forcesA h gs ls wt).1) ∧ Below w.heap.size w w' := by
  obtain ⟨F, hF⟩ : ∃ F, forcesA h gs ls wt = F := ⟨_, rfl⟩
  rw [hF]
  unfold forcesA at hF
  have hs0 := ((Since.refl w).alloc (.cells (hV h m) 24)).alloc (.cells (tV GA gs.length gc LA ls.length lc) 27)
  have HH := Lib.hid ((Blk.new w 24 (hV h m)).alloc (.cells (tV GA gs.length gc LA ls.length lc) 27))
  obtain ⟨c0, c1, c2⟩ := HH.out.hull
  go_enter Try.func22, Try.ntmps22
  go_wp2_with fail
  refine (Balance_c h m GA gs gc LA ls lc wt _ (hp.keep hs0.1) (hG.keep hs0.1) (hL.keep hs0.1)).mono ?_
  rintro e w1 ⟨rfl, hb1⟩
  have hs1 := hs0.keep hb1
  have HH1 := Lib.hid (HH.out.keep hb1)
  clear c0 c1 c2 HH
  by_cases hc : balE h gs ls wt = 0
  · have HB : Hid (balanceA h gs ls wt = ((bal h gs ls 0 wt, bal h gs ls 1 wt, bal h gs ls 2 wt), 0)) := by show _ = _; simp [balanceA, hc]
    rw [if_neg (by simpa using hc)] at hF
    rw [HB.out]
    clear hc HB
    have hs2 := hs1.alloc (.cells (b3 (bal h gs ls 0 wt, bal h gs ls 1 wt, bal h gs ls 2 wt)) 32)
    have HH2 := Lib.hid (HH1.out.alloc (.cells (b3 (bal h gs ls 0 wt, bal h gs ls 1 wt, bal h gs ls 2 wt)) 32))
    have HB2 := Lib.hid (Blk.new w1 32 (b3 (bal h gs ls 0 wt, bal h gs ls 1 wt, bal h gs ls 2 wt)))
    go_wp2_with fail
    refine (balanceOf_c (fun k => bal h gs ls k wt) _).mono ?_
    rintro e w2 ⟨rfl, hb2⟩
    have hs3 := hs2.keep hb2
    have HH3 := Lib.hid (HH2.out.keep hb2)
    have HB3 := Lib.hid (HB2.out.keep hb2)
    go_wp2_with fail
    refine (bwhy_c (fun k => bal h gs ls k wt) _).mono ?_
    rintro e w3 ⟨rfl, hb3⟩
    have hs4 := hs3.keep hb3
    have HH4 := Lib.hid (HH3.out.keep hb3)
    have HB4 := Lib.hid (HB3.out.keep hb3)
    obtain ⟨y, hy⟩ : ∃ y, whyB (bal h gs ls 0 wt) (bal h gs ls 1 wt) (bal h gs ls 2 wt) = y := ⟨_, rfl⟩
    rw [hy] at hF ⊢
    clear hy
    by_cases hy0 : y = 0
    · subst hy0
      rw [if_neg (by simp)] at hF
      subst hF
      obtain ⟨c0, c1, c2⟩ := HH4.out.hull
      have d0 := HB4.out.cell 0
      have d1 := HB4.out.cell 1
      have d2 := HB4.out.cell 2
      simp only [List.getElem?_toArray, List.getElem?_cons_zero, List.getElem?_cons_succ] at d0 d1 d2
      have HN := Lib.hid (Blk.new w3 57 #[.int .i64 h.aft, .int .i64 (bal h gs ls 2 wt), .int .i64 h.fore, .int .i64 (bal h gs ls 1 wt)])
      have hs5 := hs4.alloc (.cells #[.int .i64 h.aft, .int .i64 (bal h gs ls 2 wt), .int .i64 h.fore, .int .i64 (bal h gs ls 1 wt)] 57)
      go_wp2_with fail
      go_ret2
      exact ⟨⟨_, rfl, _, 2, rfl, SpAt.two (p := (h.aft, bal h gs ls 2 wt)) (r := (h.fore, bal h gs ls 1 wt)) HN.out, by simp, by omega⟩, hs5.1⟩
    · rw [if_pos (by simpa using hy0)] at hF
      subst hF
      have hy' : (y != 0) = true := by simpa using hy0
      clear hy0
      go_wp2_with fail
      go_ret2
      exact ⟨⟨_, rfl, none, 0, rfl, fun hx => absurd rfl hx, by simp, by omega⟩, hs4.1⟩
  · have HB : Hid (balanceA h gs ls wt = ((0, 0, 0), balE h gs ls wt)) := by show _ = _; simp [balanceA, hc]
    rw [if_pos (by simpa using hc)] at hF
    subst hF
    rw [HB.out]
    have hc' : (balE h gs ls wt != 0) = true := by simpa using hc
    clear hc HB
    have hs2 := hs1.alloc (.cells (b3 (0, 0, 0)) 32)
    go_wp2_with fail
    go_ret2
    exact ⟨⟨_, rfl, none, 0, rfl, fun hx => absurd rfl hx, by simp, by omega⟩, hs2.1⟩
end Td
end Go.Proofs.Ythdcklonamgpiaa
