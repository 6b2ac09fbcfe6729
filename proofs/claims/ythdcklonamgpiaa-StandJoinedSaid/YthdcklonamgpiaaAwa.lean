import Derived.Test.YthdcklonamgpiaaExa
/- The examples' calls: Awake. -/
namespace Go.Proofs.Ythdcklonamgpiaa
open Go.RowKit
namespace Td
set_option linter.unusedSimpArgs false
set_option linter.unusedVariables false
attribute [local go_sem] Oper.semAt_some
theorem eBal_c (m : Sl) (GA : Option Addr) (gc : Nat) (LA : Option Addr) (lc : Nat) (w : World) (h : HAt w m exH) (hG : InAt w GA exG) (hL : InAt w LA exL) : Calls Try.prog 17 #[.agg (hV exH m), .agg (tV GA 3 gc LA 3 lc), .int .i64 134] w fun e w' => e = .returned (.tuple #[.agg #[.int .i64 1642, .int .i64 990800, .int .i64 (-5600)], .int .i64 0]) ∧ Below w.heap.size w w' := by
  have k := Balance_c exH m GA exG gc LA exL lc 134 w h hG hL
  rw [ev_bal] at k
  exact k
theorem eBal0_c (m : Sl) (GA : Option Addr) (gc : Nat) (LA : Option Addr) (lc : Nat) (w : World) (h : HAt w m exH) (hG : InAt w GA exG) (hL : InAt w LA exL) : Calls Try.prog 17 #[.agg (hV exH m), .agg (tV GA 3 gc LA 3 lc), .int .i64 0] w fun e w' => e = .returned (.tuple #[.agg #[.int .i64 3500, .int .i64 1400000, .int .i64 700000], .int .i64 0]) ∧ Below w.heap.size w w' := by
  have k := Balance_c exH m GA exG gc LA exL lc 0 w h hG hL
  rw [ev_bal0] at k
  exact k
theorem eLst_c (m : Sl) (w : World) (h : HAt w m exH) : Calls Try.prog 19 #[.agg (hV exH m), .int .i64 150] w fun e w' => e = .returned (.tuple #[.agg #[.int .i64 1050, .int .i64 730000, .int .i64 (-140000)], .int .i64 0]) ∧ Below w.heap.size w w' := by
  have k := Least_c exH m 150 w h
  rw [ev_least] at k
  exact k
theorem eWhy_c (m : Sl) (w : World) (h : HAt w m exH) : Calls Try.prog 31 #[.agg (hV exH m), .agg #[.int .i64 0, .int .i64 150]] w fun e w' => e = .returned (.tuple #[.int .i64 3, .int .i64 134, .int .i64 0]) ∧ Below w.heap.size w w' := by
  have k := Why_c exH m 0 150 w h
  rw [ev_why] at k
  exact k
theorem eWhy2_c (m : Sl) (w : World) (h : HAt w m exH) : Calls Try.prog 31 #[.agg (hV exH m), .agg #[.int .i64 0, .int .i64 133]] w fun e w' => e = .returned (.tuple #[.int .i64 0, .int .i64 0, .int .i64 0]) ∧ Below w.heap.size w w' := by
  have k := Why_c exH m 0 133 w h
  rw [ev_why2] at k
  exact k
theorem eShow_c (m : Sl) (w : World) (h : HAt w m exH) : Calls Try.prog 39 #[.agg (hV exH m), .int .i64 134] w fun e w' => (∃ v, e = .returned (.tuple #[v, .int .i64 3, .int .i64 0]) ∧ Tv w.heap.size w' v exG exL) ∧ Below w.heap.size w w' := by
  have k := Show_c exH m 134 w h
  rw [ev_show] at k
  exact k
theorem eFor_c (m : Sl) (GA : Option Addr) (gc : Nat) (LA : Option Addr) (lc : Nat) (w : World) (h : HAt w m exH) (hG : InAt w GA exG) (hL : InAt w LA exL) : Calls Try.prog 22 #[.agg (hV exH m), .agg (tV GA 3 gc LA 3 lc), .int .i64 0] w fun e w' => (∃ v, e = .returned (.tuple #[v, .int .i64 0]) ∧ Fv w' v [(200, 700000), (800, 1400000)]) ∧ Below w.heap.size w w' := by
  have k := Forces_c exH m GA exG gc LA exL lc 0 w h hG hL
  rw [ev_forces] at k
  exact k
theorem eBer_c (m : Sl) (GA : Option Addr) (gc : Nat) (LA : Option Addr) (lc : Nat) (FA : Option Addr) (fc : Nat) (w : World) (h : HAt w m exH) (hG : InAt w GA exG) (hL : InAt w LA exL) (hF : FoAt w FA [(300, 525000), (700, 1575000)]) : Calls Try.prog 25 #[.agg (hV exH m), .agg (tV GA 3 gc LA 3 lc), .int .i64 0, .slice FA 2 fc] w fun e w' => e = .returned (.tuple #[.bool true, .int .i64 0]) ∧ Below w.heap.size w w' := by
  have k := Bears_c exH m GA exG gc LA exL lc 0 FA [(300, 525000), (700, 1575000)] fc w h hG hL hF (by decide)
  rw [ev_bears] at k
  exact k
theorem eBer1_c (m : Sl) (GA : Option Addr) (gc : Nat) (LA : Option Addr) (lc : Nat) (FA : Option Addr) (fc : Nat) (w : World) (h : HAt w m exH) (hG : InAt w GA exG) (hL : InAt w LA exL) (hF : FoAt w FA [(300, 525000), (700, 1575000)]) : Calls Try.prog 25 #[.agg (hV exH m), .agg (tV GA 3 gc LA 3 lc), .int .i64 0, .slice FA 1 fc] w fun e w' => e = .returned (.tuple #[.bool false, .int .i64 0]) ∧ Below w.heap.size w w' := by
  have k := Bears_c exH m GA exG gc LA exL lc 0 FA [(300, 525000)] fc w h hG hL (SpAt.take (l := [(300, 525000), (700, 1575000)]) hF 1) (by decide)
  rw [ev_bears1] at k
  exact k
theorem eBer2_c (m : Sl) (GA : Option Addr) (gc : Nat) (LA : Option Addr) (lc : Nat) (FA : Option Addr) (fc : Nat) (w : World) (h : HAt w m exH) (hG : InAt w GA exG) (hL : InAt w LA exL) (hF : FoAt w FA [(600, 2100000)]) : Calls Try.prog 25 #[.agg (hV exH m), .agg (tV GA 3 gc LA 3 lc), .int .i64 0, .slice FA 1 fc] w fun e w' => e = .returned (.tuple #[.bool true, .int .i64 0]) ∧ Below w.heap.size w w' := by
  have k := Bears_c exH m GA exG gc LA exL lc 0 FA [(600, 2100000)] fc w h hG hL hF (by decide)
  rw [ev_bears2] at k
  exact k
theorem eTide_c (m : Sl) (w : World) (h : HAt w m exH) : Calls Try.prog 41 #[.agg (hV exH m)] w fun e w' => e = .returned (.tuple #[.int .i64 133, .int .i64 0]) ∧ Below w.heap.size w w' := by
  have k := Tide_c exH m w h
  rw [ev_tide] at k
  exact k
theorem eBlt_c (m : Sl) (w : World) (h : HAt w m exH) : Calls Try.prog 27 #[.agg (hV exH m), .int .i64 1, .agg #[.int .i64 0, .int .i64 150]] w fun e w' => e = .returned (.tuple #[.int .i64 350, .int .i64 0]) ∧ Below w.heap.size w w' := by
  have k := Ballast_c exH m 1 0 150 w h
  rw [ev_ballast] at k
  exact k
theorem eBlt0_c (m : Sl) (w : World) (h : HAt w m exH) : Calls Try.prog 27 #[.agg (hV exH m), .int .i64 0, .agg #[.int .i64 0, .int .i64 150]] w fun e w' => e = .returned (.tuple #[.int .i64 0, .int .i64 2]) ∧ Below w.heap.size w w' := by
  have k := Ballast_c exH m 0 0 150 w h
  rw [ev_ballast0] at k
  exact k
/-- the forces of the example, as a property of a value. -/
def FvP (l : List (Int × Int)) (v : Value) (X : World) : Prop := Fv X v l
theorem Fv.keep {X X' : World} {v : Value} {l : List (Int × Int)} (h : Fv X v l) (hb : Below X.heap.size X X') : Fv X' v l := by
  obtain ⟨A, c, e, h1, h2⟩ := h
  exact ⟨A, c, e, h1.keep hb, h2⟩
theorem FvP.stable (l : List (Int × Int)) : Vals5.Stable (.has (FvP l)) := fun v w w' h hb => Fv.keep h hb
def TvP (gs ls : List Int) (v : Value) (X : World) : Prop := Tv 0 X v gs ls
theorem TvP.stable (gs ls : List Int) : Vals5.Stable (.has (TvP gs ls)) := fun v w w' h hb => Tv.keep h hb
theorem eqBal (a b c : Int) (w : World) : (Op.equalIn 10000 32 (.agg #[.int .i64 a, .int .i64 b, .int .i64 c]) (.agg #[.int .i64 a, .int .i64 b, .int .i64 c])).run Try.prog w = .ok true w := by go_simp
end Td
end Go.Proofs.Ythdcklonamgpiaa
