import Derived.Test.YthdcklonamgpiaaRba
import Derived.Test.YthdcklonamgpiaaAwk
/- The law StandBallasts: what it returns. -/
namespace Go.Proofs.Ythdcklonamgpiaa
open Go.RowKit
namespace Td
set_option linter.unusedSimpArgs false
set_option linter.unusedVariables false
attribute [local go_sem] Oper.semAt_some
set_option maxRecDepth 100000 in
set_option maxHeartbeats 4000000 in
theorem standBallasts_c (h : Hul) (m : Sl) (p lo hi : Int) (w : World) (hp : HAt w m h) :
    Calls Try.prog 5 #[.agg (hV h m), .int .i64 p, .agg #[.int .i64 lo, .int .i64 hi]] w fun e w' => e = .returned (.bool true) ∧ Below w.heap.size w w' := by
  have hs := ((Since.refl w).alloc (.cells (hV h m) 24)).alloc (.cells (sV2 lo hi) 48)
  have HB := Lib.hid ((Blk.new w 24 (hV h m)).alloc (.cells (sV2 lo hi) 48))
  have HX := Lib.hid (Blk.new1 w (.cells (hV h m) 24) 48 (sV2 lo hi))
  obtain ⟨c0, c1, c2⟩ := HB.out.hull
  obtain ⟨t0, t1⟩ := HX.out.span
  go_enter Try.func5, Try.ntmps5
  go_wp2_with fail
  have k1 := Ballast_c h m p lo hi _ (hp.keep hs.1)
  obtain ⟨⟨a, e0⟩, hi_⟩ : ∃ q, ballastA h p lo hi = q := ⟨_, rfl⟩
  have HI := Lib.hid hi_
  rw [hi_] at k1
  clear hi_
  refine k1.mono ?_
  rintro e w1 ⟨rfl, hb⟩
  replace hs := hs.keep hb
  replace HB := Lib.hid (HB.out.keep hb)
  replace HX := Lib.hid (HX.out.keep hb)
  clear hb c0 c1 c2 k1 t0 t1
  obtain ⟨c0, c1, c2⟩ := HB.out.hull
  obtain ⟨t0, t1⟩ := HX.out.span
  go_wp2_with fail
  have k1 := rballast_c h m p lo hi _ (hp.keep hs.1)
  rw [HI.out] at k1
  refine k1.mono ?_
  rintro e w2 ⟨rfl, hb⟩
  replace hs := hs.keep hb
  clear hb c0 c1 c2 k1 t0 t1
  have heb : (e0 == e0) = true := by simp
  have heb2 : (a == a) = true := by simp
  go_wp2_with fail
  refine (awake_c _).mono ?_
  rintro e w9 ⟨rfl, hb⟩
  replace hs := hs.keep hb
  go_wp2_with fail
  go_ret
  exact ⟨rfl, hs.1⟩
end Td
end Go.Proofs.Ythdcklonamgpiaa
