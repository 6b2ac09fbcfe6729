import Derived.Test.YthdcklonamgpiaaRfo
import Derived.Test.YthdcklonamgpiaaAwk
/- The law StandForces: what it returns. -/
namespace Go.Proofs.Ythdcklonamgpiaa
open Go.RowKit
namespace Td
set_option linter.unusedSimpArgs false
set_option linter.unusedVariables false
attribute [local go_sem] Oper.semAt_some
abbrev prV (GA : Option Addr) (gn gc : Nat) (LA : Option Addr) (ln lc : Nat) (wt : Int) (FA : Option Addr) (fn fc : Nat) : Array Value := #[.slice GA gn gc, .slice LA ln lc, .int .i64 wt, .slice FA fn fc]
theorem forces_len2 (h : Hul) (gs ls : List Int) (wt : Int) : (forcesA h gs ls wt).1.length ≤ 1000 := by
  unfold forcesA
  split
  · simp
  · split <;> simp
set_option maxRecDepth 100000 in
set_option maxHeartbeats 8000000 in
theorem standForces_c (h : Hul) (m : Sl) (GA : Option Addr) (gs : List Int) (gc : Nat) (LA : Option Addr) (ls : List Int) (lc : Nat) (wt : Int) (FA : Option Addr) (fl : List (Int × Int)) (fc : Nat) (w : World) (hp : HAt w m h) (hG : InAt w GA gs) (hL : InAt w LA ls) (hF : FoAt w FA fl) (hfl : fl.length ≤ 9223372036854775807) :
    Calls Try.prog 4 #[.agg (hV h m), .agg (prV GA gs.length gc LA ls.length lc wt FA fl.length fc)] w fun e w' => e = .returned (.bool true) ∧ Below w.heap.size w w' := by
  have hs := ((Since.refl w).alloc (.cells (hV h m) 24)).alloc (.cells (prV GA gs.length gc LA ls.length lc wt FA fl.length fc) 40)
  have HB := Lib.hid ((Blk.new w 24 (hV h m)).alloc (.cells (prV GA gs.length gc LA ls.length lc wt FA fl.length fc) 40))
  have HX := Lib.hid (Blk.new1 w (.cells (hV h m) 24) 40 (prV GA gs.length gc LA ls.length lc wt FA fl.length fc))
  have HP := Lib.hid hp
  have HG := Lib.hid hG
  have HL := Lib.hid hL
  have HF := Lib.hid hF
  have HFL := Lib.hid hfl
  have HLN := Lib.hid (forces_len2 h gs ls wt)
  clear hp hG hL hF hfl
  obtain ⟨c0, c1, c2⟩ := HB.out.hull
  have x0 := HX.out.cell 0
  have x1 := HX.out.cell 1
  have x2 := HX.out.cell 2
  have x3 := HX.out.cell 3
  simp only [List.getElem?_toArray, List.getElem?_cons_zero, List.getElem?_cons_succ] at x0 x1 x2 x3
  go_enter Try.func4, Try.ntmps4
  go_wp2_with fail
  refine (Forces_c h m GA gs gc LA ls lc wt _ (HP.out.keep hs.1) (HG.out.keep hs.1) (HL.out.keep hs.1)).mono ?_
  rintro e w1 ⟨⟨v, rfl, A1, d1, rfl, hf1, -⟩, hb⟩
  replace hs := hs.keep hb
  replace HB := Lib.hid (HB.out.keep hb)
  replace HX := Lib.hid (HX.out.keep hb)
  have HF1 := Lib.hid hf1
  clear c0 c1 c2 x0 x1 x2 x3
  clear hb hf1
  obtain ⟨c0, c1, c2⟩ := HB.out.hull
  have x0 := HX.out.cell 0
  have x1 := HX.out.cell 1
  have x2 := HX.out.cell 2
  have x3 := HX.out.cell 3
  simp only [List.getElem?_toArray, List.getElem?_cons_zero, List.getElem?_cons_succ] at x0 x1 x2 x3
  go_wp2_with fail
  refine (rforces_c h m GA gs gc LA ls lc wt _ (HP.out.keep hs.1) (HG.out.keep hs.1) (HL.out.keep hs.1)).mono ?_
  rintro e w2 ⟨⟨v, rfl, A2, d2, rfl, hf2, -⟩, hb⟩
  replace hs := hs.keep hb
  replace HB := Lib.hid (HB.out.keep hb)
  replace HX := Lib.hid (HX.out.keep hb)
  replace HF1 := Lib.hid (HF1.out.keep hb)
  have HF2 := Lib.hid hf2
  clear c0 c1 c2 x0 x1 x2 x3
  clear hb hf2
  obtain ⟨⟨fs, ef⟩, hi⟩ : ∃ q, forcesA h gs ls wt = q := ⟨_, rfl⟩
  rw [hi] at HF1 HF2 HLN ⊢
  clear hi
  replace HF1 : Hid (FoAt w2 A1 fs) := HF1
  replace HF2 : Hid (FoAt w2 A2 fs) := HF2
  replace HLN : Hid (fs.length ≤ 1000) := HLN
  go_wp2_with fail
  refine (alike_c A1 A2 fs d1 d2 _ HLN.out HF1.out HF2.out).mono ?_
  rintro e w3 ⟨rfl, hb⟩
  replace hs := hs.keep hb
  replace HB := Lib.hid (HB.out.keep hb)
  replace HX := Lib.hid (HX.out.keep hb)
  clear hb
  have heb : (ef != ef) = false := by simp
  obtain ⟨c0, c1, c2⟩ := HB.out.hull
  have x0 := HX.out.cell 0
  have x1 := HX.out.cell 1
  have x2 := HX.out.cell 2
  have x3 := HX.out.cell 3
  simp only [List.getElem?_toArray, List.getElem?_cons_zero, List.getElem?_cons_succ] at x0 x1 x2 x3
  go_wp2_with fail
  clear heb
  have k1 := Bears_c h m GA gs gc LA ls lc wt FA fl fc _ (HP.out.keep hs.1) (HG.out.keep hs.1) (HL.out.keep hs.1) (HF.out.keep hs.1) HFL.out
  obtain ⟨⟨b, eb⟩, hi⟩ : ∃ q, bearsA h gs ls wt fl = q := ⟨_, rfl⟩
  have HI := Lib.hid hi
  rw [hi] at k1
  clear hi
  refine k1.mono ?_
  rintro e w4 ⟨rfl, hb⟩
  replace hs := hs.keep hb
  replace HB := Lib.hid (HB.out.keep hb)
  replace HX := Lib.hid (HX.out.keep hb)
  clear c0 c1 c2 x0 x1 x2 x3
  clear hb k1
  obtain ⟨c0, c1, c2⟩ := HB.out.hull
  have x0 := HX.out.cell 0
  have x1 := HX.out.cell 1
  have x2 := HX.out.cell 2
  have x3 := HX.out.cell 3
  simp only [List.getElem?_toArray, List.getElem?_cons_zero, List.getElem?_cons_succ] at x0 x1 x2 x3
  go_wp2_with fail
  have k1 := rbears_c h m GA gs gc LA ls lc wt FA fl fc _ (HP.out.keep hs.1) (HG.out.keep hs.1) (HL.out.keep hs.1) (HF.out.keep hs.1) HFL.out
  rw [HI.out] at k1
  refine k1.mono ?_
  rintro e w5 ⟨rfl, hb⟩
  replace hs := hs.keep hb
  clear c0 c1 c2 x0 x1 x2 x3
  clear hb k1
  have heb : (eb == eb) = true := by simp
  have heb2 : (b == b) = true := by simp
  go_wp2_with fail
  refine (awake_c _).mono ?_
  rintro e w9 ⟨rfl, hb⟩
  replace hs := hs.keep hb
  go_wp2_with fail
  go_ret
  exact ⟨rfl, hs.1⟩
end Td
end Go.Proofs.Ythdcklonamgpiaa
