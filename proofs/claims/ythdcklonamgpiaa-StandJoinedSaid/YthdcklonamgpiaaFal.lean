import Derived.Test.YthdcklonamgpiaaThr
import Derived.Sort.LoopGhostIn
/- From which height on a hull does not surely stand, and why. -/
namespace Go.Proofs.Ythdcklonamgpiaa
open Go.RowKit
namespace Td
set_option linter.unusedSimpArgs false
set_option linter.unusedVariables false
attribute [local go_sem] Oper.semAt_some
/-- up to the last one of the turning heights so far it surely stands. -/
theorem upto_pre {h : Hul} {lo hi : Int} {ts pre : List Int} (T : Tn h lo hi ts) {x : Int} {rest : List Int} (he : ts = pre ++ x :: rest) (hs : ∀ y ∈ pre, whyH h y = 0) : ∀ w, lo ≤ w → w ≤ lastT lo pre → pre ≠ [] → whyH h w = 0 := by
  intro w h1 h2 h3
  have hl : pre.length ≤ ts.length := by rw [he]; simp
  have ht : ts.take pre.length = pre := by rw [he]; simp
  exact upto_last T pre.length hl (by rw [ht]; exact hs) w h1 (by rw [ht]; exact h2) (fun e => h3 (List.eq_nil_of_length_eq_zero e))
theorem lastT_bd {h : Hul} {lo hi : Int} {ts pre : List Int} (T : Tn h lo hi ts) (hlh : lo ≤ hi) {x : Int} {rest : List Int} (he : ts = pre ++ x :: rest) : lo ≤ lastT lo pre ∧ lastT lo pre ≤ x := by
  have hx := T.bd x (by rw [he]; simp)
  rcases List.eq_nil_or_concat pre with rfl | ⟨p, y, rfl⟩
  · simp [lastT]; omega
  · rw [List.concat_eq_append] at he ⊢
    rw [lastT_app]
    have hy := T.bd y (by rw [he]; simp)
    have hp : (p ++ [y] ++ x :: rest).Pairwise (· ≤ ·) := he ▸ T.so
    have := (List.pairwise_append.1 hp).2.2 y (by simp) x (by simp)
    omega
set_option maxRecDepth 100000 in
set_option maxHeartbeats 4000000 in
theorem fall_c (h : Hul) (m : Sl) (lo hi : Int) (w : World) (hh : HBk h) (hp : HAt w m h) (h0 : 0 ≤ lo) (h01 : lo ≤ hi) (h1 : hi ≤ 1000) :
    Calls Try.prog 72 #[.agg (hV h m), .agg #[.int .i64 lo, .int .i64 hi]] w fun e w' => e = .returned (.tuple #[.int .i64 (fall h lo hi).1, .int .i64 (fall h lo hi).2]) ∧ Below w.heap.size w w' := by
  have T := turnL_tn (h := h) h01
  refine (callsIn_wide (n := 6)).1 ?_
  refine callsIn_of_wp_marks Try.func72 rfl trivial ?_ rfl
  simp only [Try.ntmps72, List.size_toArray, List.length_cons, List.length_nil, Nat.reduceAdd, Nat.reduceSub, Array.replicate_succ, Array.replicate_zero, List.push_toArray, List.append_toArray, List.nil_append, List.cons_append]
  refine wpIn_wide.2 ?_
  obtain ⟨wa, hwa⟩ : ∃ wa, ((((w.alloc (.cells (hV h m) 92)).alloc (.cells #[.int .i64 lo, .int .i64 hi] 48)).alloc (.cells #[.int .i64 0] 3)).alloc (.cells #[.int .i64 0] 103)).alloc (.cells #[.int .i64 lo] 3) = wa := ⟨_, rfl⟩
  have hsn0 : Since w wa := by rw [← hwa]; exact (((((Since.refl w).alloc _).alloc _).alloc _).alloc _).alloc _
  have bW0 : Blk wa w.heap.size 92 (hV h m) := by rw [← hwa]; exact ((((Blk.new w _ _).alloc _).alloc _).alloc _).alloc _
  have bR0 : Blk wa (w.heap.size + 1 + 1) 3 #[.int .i64 0] := by rw [← hwa]; exact ((Blk.new2 w _ _ _ _).alloc _).alloc _
  have bY0 : Blk wa (w.heap.size + 1 + 1 + 1) 103 #[.int .i64 0] := by rw [← hwa]; exact (Blk.new3 w _ _ _ _ _).alloc _
  have bF0 : Blk wa (w.heap.size + 1 + 1 + 1 + 1) 3 #[.int .i64 lo] := by
    rw [← hwa]
    have := Blk.new3 (w.alloc (.cells (hV h m) 92)) (.cells #[.int .i64 lo, .int .i64 hi] 48) (.cells #[.int .i64 0] 3) (.cells #[.int .i64 0] 103) 3 #[.int .i64 lo]
    simp only [World.size_alloc] at this
    exact this
  have hza : wa.heap.size = w.heap.size + 5 := by rw [← hwa]; simp
  have hTC := turns_c h m lo hi wa
  rw [hza, ← hwa] at hTC
  have HTC := Lib.hid hTC
  have HWA := Lib.hid hwa
  have HZA := Lib.hid hza
  clear hTC hwa hza
  obtain ⟨t0, t1⟩ := (((Blk.new1 w (.cells (hV h m) 92) 48 #[.int .i64 lo, .int .i64 hi]).alloc (.cells #[.int .i64 0] 3)).alloc (.cells #[.int .i64 0] 103)).span
  go_wp2_with fail
  go_step3
  go_wp2_with fail
  go_step3
  go_wp2_with fail
  clear t0 t1
  refine HTC.out.mono ?_
  have hza := HZA.out
  rw [HWA.out]
  rintro e w0 ⟨rfl, hw0⟩
  have hz0 : w0.heap.size = w.heap.size + 7 := by rw [← hw0]; simp [hza]
  have hsn1 : Since w w0 := by rw [← hw0]; exact (hsn0.alloc _).alloc _
  have bW1 : Blk w0 w.heap.size 92 (hV h m) := by rw [← hw0]; exact (bW0.alloc _).alloc _
  have bR1 : Blk w0 (w.heap.size + 1 + 1) 3 #[.int .i64 0] := by rw [← hw0]; exact (bR0.alloc _).alloc _
  have bY1 : Blk w0 (w.heap.size + 1 + 1 + 1) 103 #[.int .i64 0] := by rw [← hw0]; exact (bY0.alloc _).alloc _
  have bF1 : Blk w0 (w.heap.size + 1 + 1 + 1 + 1) 3 #[.int .i64 lo] := by rw [← hw0]; exact (bF0.alloc _).alloc _
  have hP : ∀ W, Kp (w.heap.size + 1 + 1) (w.heap.size + 1 + 1 + 1 + 1 + 1) w0.heap.size w0 W → HAt W m h := fun W hW => hp.keep (below_kp hsn1.1 hW (by omega))
  have C : Cx (w.heap.size + 1 + 1) (w.heap.size + 1 + 1 + 1 + 1 + 1) w0.heap.size w0 (w.heap.size + 5 + 1) (w.heap.size + 5) h m lo hi := by
    refine ⟨?_, ?_, by omega, by omega, hP, hh.n10⟩
    · rw [← hw0]
      have := Blk.new1 wa (.cells (hV h m) 92) 48 #[.int .i64 lo, .int .i64 hi]
      rwa [hza] at this
    · rw [← hw0]
      have := Blk.new wa 92 (hV h m)
      rw [hza] at this
      exact this.alloc _
  clear hsn0 bW0 bR0 bY0 bF0 hw0 HTC
  go_wp2_with fail
  refine (wpIn_wide (n := 6)).1 ?_
  refine rangeFunc_c (w := w0) rfl (by omega) (gf := 104) (lb := #[.pointer (some ⟨w.heap.size + 5 + 1, 0, none⟩), .pointer (some ⟨w.heap.size + 5, 0, none⟩)]) rfl trivial (enters_of Try.func104 (by kernel_rfl) rfl)
    (turns_seq _ (by omega) C (by omega)) Kp.trans (fun W l o o' hl hg hc _ => Kp.put W l o o' (by omega) hg hc) (Below.refl _ _) (fun _ => rfl)
    (fun pre W => ((((Blk W (w.heap.size + 1 + 1) 3 #[.int .i64 0] ∧ Blk W (w.heap.size + 1 + 1 + 1) 103 #[.int .i64 0]) ∧ Blk W (w.heap.size + 1 + 1 + 1 + 1) 3 #[.int .i64 (lastT lo pre)]) ∧ Blk W w.heap.size 92 (hV h m)) ∧ (∀ x ∈ pre, whyH h x = 0)) ∧ Below w.heap.size w W)
    (fun c pre W => (c = .exit 0 ∧ (Blk W (w.heap.size + 1 + 1) 3 #[.int .i64 (fall h lo hi).1] ∧ Blk W (w.heap.size + 1 + 1 + 1) 103 #[.int .i64 (fall h lo hi).2])) ∧ Below w.heap.size w W)
    ((((((AllFrom.blk (by omega) _ _).and (AllFrom.blk (by omega) _ _)).and (AllFrom.blk (by omega) _ (fun pre => #[.int .i64 (lastT lo pre)]))).and (AllFrom.blk (by omega) _ _)).and (AllFrom.pure _ _)).and (AllFrom.below (Nat.le_refl _) (by omega)))
    (fun _ => ((AllFrom.pure _ _).and ((AllFrom.blk (by omega) _ _).and (AllFrom.blk (by omega) _ _))).and (AllFrom.below (Nat.le_refl _) (by omega)))
    ⟨⟨⟨⟨⟨bR1, bY1⟩, bF1⟩, bW1⟩, fun x hx => absurd hx (by simp)⟩, hsn1.1⟩
    (fun x a' W => a' = { tmps := #[.agg (hV h m), .agg #[.int .i64 lo, .int .i64 hi], .pointer (some ⟨w.heap.size, 0, none⟩), .pointer (some ⟨w.heap.size + 1, 0, none⟩), .pointer (some ⟨w.heap.size + 1 + 1, 0, none⟩), .pointer (some ⟨w.heap.size + 1 + 1 + 1, 0, none⟩), .pointer (some ⟨w.heap.size + 1 + 1 + 1 + 1, 0, none⟩), .int .i64 x, .pointer (some ⟨w.heap.size + 1, 0, none⟩), .int .i64 lo, .agg (hV h m), .agg #[.int .i64 lo, .int .i64 hi], .func (.func 104) #[] #[.pointer (some ⟨w.heap.size + 5 + 1, 0, none⟩), .pointer (some ⟨w.heap.size + 5, 0, none⟩)], .int .i64 x, undef, undef, undef, undef, undef, undef, undef, undef, undef, undef, undef, undef, undef, undef, undef, undef, undef, undef], defers := [] })
    (fun x a' _ X Y row hs hg hr => hs)
    ?assign ?body ?done ?stop
  case assign =>
    rintro l pre x W K ⟨⟨⟨⟨⟨i1, i2⟩, i3⟩, i4⟩, i6⟩, i5⟩ hK
    gi_wp2
    exact hK _ _ (keepsFrom_of_below (Below.refl _ _)) (.refl _ _ _ _) ⟨⟨⟨⟨⟨i1, i2⟩, i3⟩, i4⟩, i6⟩, i5⟩ rfl
  case body =>
    rintro l pre x a' W hl ⟨r, hr⟩ ⟨⟨⟨⟨⟨i1, i2⟩, i3⟩, i4⟩, i6⟩, i5⟩ rfl ⟨rest, hrest⟩
    obtain ⟨c0, c1, c2⟩ := i4.hull
    have hxb := T.bd x (by rw [hrest]; simp)
    have HW := Lib.hid (wwhy_c h m x W hh (hp.keep i5) (by omega) (by omega))
    gi_wp2
    refine ⟨trivial, ?_⟩
    refine (CallsIn.inRound l (callsIn_wide.2 HW.out)).mono ?_
    clear HW
    rintro e w' ⟨rfl, hb⟩
    have j1 := i1.keep hb
    have j2 := i2.keep hb
    have j3 := i3.keep hb
    have j4 := i4.keep hb
    have j5 := i5.trans (hb.mono i5.size)
    have hzw := hb.size
    clear c0 c1 c2
    by_cases hz : whyH h x = 0
    · have hz' : (whyH h x == 0) = true := by simp [hz]
      have HZ := Lib.hid hz
      clear hz
      have d0 := j3.cell 0
      have f0 := j3.frozen 0
      simp only [List.getElem?_toArray, List.getElem?_cons_zero] at d0
      gi_wp2
      refine ⟨(keepsFrom_of_below hb).trans ((KeepsOthers.setCell _ _ _).from _), (Kp.of hb).setCell _ _ _ (by omega) (by omega), ⟨⟨⟨⟨j1.far (by omega) _ _, j2.far (by omega) _ _⟩, by rw [lastT_app]; exact j3.set 0 _⟩, j4.far (by omega) _ _⟩, fun y hy => ?_⟩, j5.setCell (p := ⟨w.heap.size + 1 + 1 + 1 + 1, 0, none⟩) (by simp; omega) _⟩
      rcases List.mem_append.1 hy with h5 | h5
      · exact i6 y h5
      · rw [List.mem_singleton.1 h5]; exact HZ.out
    · have hz' : (whyH h x == 0) = false := by simpa using hz
      have HZ := Lib.hid hz
      clear hz
      obtain ⟨hl1, hl2⟩ := lastT_bd T h01 hrest
      have HU := Lib.hid (upto_pre T hrest i6)
      obtain ⟨fr, hfr⟩ : ∃ fr, lastT lo pre = fr := ⟨_, rfl⟩
      rw [hfr] at hl1 hl2 HU j3
      have hkf := keepsFrom_of_below (B := w0.heap.size) hb
      have d0 := j3.cell 0
      have d1 := j1.cell 0
      have f1 := j1.frozen 0
      simp only [List.getElem?_toArray, List.getElem?_cons_zero] at d0 d1
      have H1 : Hid (Blk (w'.setCell ⟨w.heap.size + 1 + 1, 0, none⟩ (.int .i64 fr)) (w.heap.size + 1 + 1) 3 #[.int .i64 fr]) := j1.set 0 _
      have H2 : Hid (Blk (w'.setCell ⟨w.heap.size + 1 + 1, 0, none⟩ (.int .i64 fr)) (w.heap.size + 1 + 1 + 1) 103 #[.int .i64 0]) := j2.far (by omega) _ _
      have H4 : Hid (Blk (w'.setCell ⟨w.heap.size + 1 + 1, 0, none⟩ (.int .i64 fr)) w.heap.size 92 (hV h m)) := j4.far (by omega) _ _
      have H5 : Hid (Below w.heap.size w (w'.setCell ⟨w.heap.size + 1 + 1, 0, none⟩ (.int .i64 fr))) := j5.setCell (p := ⟨w.heap.size + 1 + 1, 0, none⟩) (by simp; omega) _
      have H6 : Hid (KeepsFrom w0.heap.size W (w'.setCell ⟨w.heap.size + 1 + 1, 0, none⟩ (.int .i64 fr))) := hkf.trans ((KeepsOthers.setCell _ _ _).from _)
      clear i1 i2 i3 i4 i5 i6 j1 j2 j3 j4 j5 hkf hb
      gi_wp2
      obtain ⟨wa, hwa⟩ : ∃ wa, w'.setCell ⟨w.heap.size + 1 + 1, 0, none⟩ (.int .i64 fr) = wa := ⟨_, rfl⟩
      rw [hwa] at H1 H2 H4 H5 H6 ⊢
      have HU2 : Hid (∀ v, lo ≤ v → v < fr → whyH h v = 0) := fun v h5 h6 => by
        by_cases hp : pre = []
        · subst hp
          simp [lastT] at hfr
          omega
        · exact HU.out v h5 (by omega) hp
      have hxb1 := hxb.1
      have hxb2 := hxb.2
      clear hwa HU hfr d0 d1 f1 hzw hxb
      gi_loopg [20] ((x - fr).toNat + 1) (fun g _ wx => ∃ q : Nat, q + g = (x - fr).toNat + 1 ∧ Hid (Blk wx (w.heap.size + 1 + 1) 3 #[.int .i64 (fr + (q : Int))]) ∧ Hid (Blk wx (w.heap.size + 1 + 1 + 1) 103 #[.int .i64 0]) ∧ Hid (Blk wx w.heap.size 92 (hV h m)) ∧ Hid (Below w.heap.size w wx) ∧ Hid (KeepsFrom w0.heap.size W wx) ∧ Hid (∀ v, lo ≤ v → v < fr + (q : Int) → whyH h v = 0))
      case atStart => exact ⟨0, by omega, by simpa using H1, H2, H4, H5, H6, by simpa using HU2⟩
      case round =>
        obtain ⟨q, hq, H1, H2, H4, H5, H6, HQ⟩ := hrel
        have d0 := H1.out.cell 0
        simp only [List.getElem?_toArray, List.getElem?_cons_zero] at d0
        by_cases hle : fr + (q : Int) ≤ x
        · obtain ⟨c0, c1, c2⟩ := H4.out.hull
          have HW := fun Z (hZ : HAt Z m h) => wwhy_c h m (fr + (q : Int)) Z hh hZ (by omega) (by omega)
          have HW2 := Lib.hid (HW _ (hp.keep H5.out))
          clear HW
          gi_wp2
          refine ⟨trivial, ?_⟩
          refine (CallsIn.inRound l (callsIn_wide.2 HW2.out)).mono ?_
          clear HW2
          rintro e w' ⟨rfl, hb⟩
          have j1 := H1.out.keep hb
          have j2 := H2.out.keep hb
          have j4 := H4.out.keep hb
          have j5 := H5.out.trans (hb.mono H5.out.size)
          have j6 := H6.out.trans (keepsFrom_of_below hb)
          have hz1 := H5.out.size
          have hz2 := hb.size
          clear c0 c1 c2 d0
          obtain ⟨y, hy⟩ : ∃ y, whyH h (fr + (q : Int)) = y := ⟨_, rfl⟩
          rw [hy]
          have HY := Lib.hid hy
          clear hy
          have d2 := j2.cell 0
          have f2 := j2.frozen 0
          simp only [List.getElem?_toArray, List.getElem?_cons_zero] at d2
          have K1 : Hid (Blk (w'.setCell ⟨w.heap.size + 1 + 1 + 1, 0, none⟩ (.int .i64 y)) (w.heap.size + 1 + 1) 3 #[.int .i64 (fr + (q : Int))]) := j1.far (by omega) _ _
          have K2 : Hid (Blk (w'.setCell ⟨w.heap.size + 1 + 1 + 1, 0, none⟩ (.int .i64 y)) (w.heap.size + 1 + 1 + 1) 103 #[.int .i64 y]) := j2.set 0 _
          have K4 : Hid (Blk (w'.setCell ⟨w.heap.size + 1 + 1 + 1, 0, none⟩ (.int .i64 y)) w.heap.size 92 (hV h m)) := j4.far (by omega) _ _
          have K5 : Hid (Below w.heap.size w (w'.setCell ⟨w.heap.size + 1 + 1 + 1, 0, none⟩ (.int .i64 y))) := j5.setCell (p := ⟨w.heap.size + 1 + 1 + 1, 0, none⟩) (by simp; omega) _
          have K6 : Hid (KeepsFrom w0.heap.size W (w'.setCell ⟨w.heap.size + 1 + 1 + 1, 0, none⟩ (.int .i64 y))) := j6.trans ((KeepsOthers.setCell _ _ _).from _)
          have k1 := K1.out.cell 0
          have g1 := K1.out.frozen 0
          simp only [List.getElem?_toArray, List.getElem?_cons_zero] at k1
          clear H1 H2 H4 H5 H6 j1 j2 j4 j5 j6 hb
          by_cases hy0 : y = 0
          · subst hy0
            have hw1 : IntKind.i64.wrap (fr + (q : Int) + 1) = fr + (q : Int) + 1 := IntWalk.i64_in _ (by omega)
            have L1 : Hid (Blk ((w'.setCell ⟨w.heap.size + 1 + 1 + 1, 0, none⟩ (.int .i64 0)).setCell ⟨w.heap.size + 1 + 1, 0, none⟩ (.int .i64 (fr + (q : Int) + 1))) (w.heap.size + 1 + 1) 3 #[.int .i64 (fr + ((q + 1 : Nat) : Int))]) := by
              show Blk _ _ _ _
              have e : fr + ((q + 1 : Nat) : Int) = fr + (q : Int) + 1 := by push_cast; omega
              rw [e]; exact K1.out.set 0 _
            have L2 : Hid (Blk ((w'.setCell ⟨w.heap.size + 1 + 1 + 1, 0, none⟩ (.int .i64 0)).setCell ⟨w.heap.size + 1 + 1, 0, none⟩ (.int .i64 (fr + (q : Int) + 1))) (w.heap.size + 1 + 1 + 1) 103 #[.int .i64 0]) := K2.out.far (by omega) _ _
            have L4 : Hid (Blk ((w'.setCell ⟨w.heap.size + 1 + 1 + 1, 0, none⟩ (.int .i64 0)).setCell ⟨w.heap.size + 1 + 1, 0, none⟩ (.int .i64 (fr + (q : Int) + 1))) w.heap.size 92 (hV h m)) := K4.out.far (by omega) _ _
            have L5 : Hid (Below w.heap.size w ((w'.setCell ⟨w.heap.size + 1 + 1 + 1, 0, none⟩ (.int .i64 0)).setCell ⟨w.heap.size + 1 + 1, 0, none⟩ (.int .i64 (fr + (q : Int) + 1)))) := K5.out.setCell (p := ⟨w.heap.size + 1 + 1, 0, none⟩) (by simp; omega) _
            have L6 : Hid (KeepsFrom w0.heap.size W ((w'.setCell ⟨w.heap.size + 1 + 1 + 1, 0, none⟩ (.int .i64 0)).setCell ⟨w.heap.size + 1 + 1, 0, none⟩ (.int .i64 (fr + (q : Int) + 1)))) := K6.out.trans ((KeepsOthers.setCell _ _ _).from _)
            have HQ2 : Hid (∀ v, lo ≤ v → v < fr + ((q + 1 : Nat) : Int) → whyH h v = 0) := fun v h5 h6 => by
              by_cases h7 : v < fr + (q : Int)
              · exact HQ.out v h5 h7
              · have : v = fr + (q : Int) := by push_cast at h6; omega
                rw [this]; exact HY.out
            clear K1 K2 K4 K5 K6
            gi_wp2
            gi_roundg (gk - 1)
            case measure => omega
            case rel => exact ⟨q + 1, by omega, L1, L2, L4, L5, L6, HQ2⟩
          · have hy1 : (y != 0) = true := by simpa using hy0
            have HF : Hid (fall h lo hi = (fr + (q : Int), y)) := by
              have := fall_at (h := h) (lo := lo) (hi := hi) (v := fr + (q : Int)) (by omega) (by omega) (fun v h5 h6 => HQ.out v h5 h6) (by rw [HY.out]; exact hy0)
              show _ = _
              rw [this, HY.out]
            clear hy0
            gi_wp2
            exact ⟨K6.out, ⟨rfl, by rw [HF.out]; exact K1.out, by rw [HF.out]; exact K2.out⟩, K5.out⟩
        · exact absurd (HQ.out x (by omega) (by omega)) HZ.out
  case done =>
    rintro D xs W hD rfl ⟨⟨⟨⟨⟨i1, i2⟩, i3⟩, i4⟩, i6⟩, i5⟩ hK
    have HV' : fall h lo hi = (0, 0) := fall_none (thru_all T i6)
    obtain ⟨v, hv⟩ : ∃ v : Int, 0 = v := ⟨_, rfl⟩
    obtain ⟨y, hy⟩ : ∃ y : Int, 0 = y := ⟨_, rfl⟩
    have HV : Hid (fall h lo hi = (v, y)) := by show _ = _; rw [HV', ← hv, ← hy]
    rw [hv] at i1
    rw [hy] at i2
    clear HV' hv hy i3 i4 i6
    go_wp2_with fail
    refine Vals9.region (fun _ X => (Blk X (w.heap.size + 1 + 1) 3 #[.int .i64 v] ∧ Blk X (w.heap.size + 1 + 1 + 1) 103 #[.int .i64 y]) ∧ (Below w.heap.size w X ∧ X.heap[D]? = some (.deferred (some [])))) [some 30, some 31, none, none] [.is ?_, .is ?_, .is (undef), .is (undef)] (by kernel_rfl) (by kernel_rfl) (by kernel_rfl) (by kernel_rfl) (by kernel_rfl) (by kernel_rfl) (⟨⟨i1.drew, i2.drew⟩, i5.drew, hK⟩) ?hsteps ?hfin
    case hsteps =>
      refine Vals9.Steps.run rfl ?_ ?_
      · intro a W σ hJ pre K hK
        have e4 := pre.2.2 4 _ (by kernel_rfl) rfl
        clear pre
        simp only [Array.getD_eq_getD_getElem?, List.getElem?_toArray, List.getElem?_cons_zero, List.getElem?_cons_succ, Option.getD_some] at e4
        have hS9 := hJ
        obtain ⟨⟨q1, q2⟩, q3, q4⟩ := hS9
        have d0 := q1.cell 0
        have d1 := q2.cell 0
        simp only [List.getElem?_toArray, List.getElem?_cons_zero] at d0 d1
        go_simp
        exact hK _ hJ
      refine Vals9.Steps.run rfl ?_ ?_
      · intro a W σ hJ pre K hK
        have e5 := pre.2.2 5 _ (by kernel_rfl) rfl
        clear pre
        simp only [Array.getD_eq_getD_getElem?, List.getElem?_toArray, List.getElem?_cons_zero, List.getElem?_cons_succ, Option.getD_some] at e5
        have hS9 := hJ
        obtain ⟨⟨q1, q2⟩, q3, q4⟩ := hS9
        have d0 := q1.cell 0
        have d1 := q2.cell 0
        simp only [List.getElem?_toArray, List.getElem?_cons_zero] at d0 d1
        go_simp
        exact hK _ hJ
      refine Vals9.Steps.run rfl ?_ ?_
      · intro a W σ hJ pre K hK
        have e4 := pre.2.2 4 _ (by kernel_rfl) rfl
        have e30 := pre.1 0 30 _ (by kernel_rfl) rfl rfl
        clear pre
        simp only [Array.getD_eq_getD_getElem?, List.getElem?_toArray, List.getElem?_cons_zero, List.getElem?_cons_succ, Option.getD_some] at e4 e30
        obtain ⟨⟨q1, q2⟩, q3, q4⟩ := hJ
        have d0 := q1.cell 0
        have d1 := q2.cell 0
        have f0 := q1.frozen 0
        have f1 := q2.frozen 0
        simp only [List.getElem?_toArray, List.getElem?_cons_zero] at d0 d1
        go_simp
        exact hK _ ⟨⟨q1.set 0 (.int .i64 v), q2.far (by omega) 0 _⟩, q3.setCell (p := ⟨w.heap.size + 1 + 1, 0, none⟩) (by simp; omega) _, (KeepsOthers.setCell _ _ _).same D _ q4 rfl⟩
      refine Vals9.Steps.run rfl ?_ ?_
      · intro a W σ hJ pre K hK
        have e5 := pre.2.2 5 _ (by kernel_rfl) rfl
        have e31 := pre.1 1 31 _ (by kernel_rfl) rfl rfl
        clear pre
        simp only [Array.getD_eq_getD_getElem?, List.getElem?_toArray, List.getElem?_cons_zero, List.getElem?_cons_succ, Option.getD_some] at e5 e31
        obtain ⟨⟨q1, q2⟩, q3, q4⟩ := hJ
        have d0 := q1.cell 0
        have d1 := q2.cell 0
        have f0 := q1.frozen 0
        have f1 := q2.frozen 0
        simp only [List.getElem?_toArray, List.getElem?_cons_zero] at d0 d1
        go_simp
        exact hK _ ⟨⟨q1.far (by omega) 0 _, q2.set 0 (.int .i64 y)⟩, q3.setCell (p := ⟨w.heap.size + 1 + 1 + 1, 0, none⟩) (by simp; omega) _, (KeepsOthers.setCell _ _ _).same D _ q4 rfl⟩
      exact Vals9.Steps.nil
    case hfin =>
      rintro X σ ⟨⟨i1, i2⟩, i5, hK⟩
      simp only [Vals9.All]
      simp only [Vals.putAll, List.setIfInBounds_toArray, List.set_cons_zero, List.set_cons_succ]
      go_wp2_with fail
      have hR8 : Blk (X.putObj D (.deferred none)) (w.heap.size + 1 + 1) 3 #[.int .i64 v] := i1.grown (grownBy_putObj' _ D (.deferred none)) (fun e => by cases e; omega)
      have hR9 : Blk (X.putObj D (.deferred none)) (w.heap.size + 1 + 1 + 1) 103 #[.int .i64 y] := i2.grown (grownBy_putObj' _ D (.deferred none)) (fun e => by cases e; omega)
      refine ⟨by simp, .inl ⟨_, _, rfl, run_takeDeferred hK, ?_⟩⟩
      exact ⟨_, results_cells2 Try.results72 _ _ _ _ _ _ rfl rfl (load_int hR8) (load_reason hR9), by rw [HV.out], i5.trans (belowK_b (w := w) (Nat.le_refl _) _ D _ _ (by omega) hK rfl rfl)⟩
  case stop =>
    rintro D c pre W hD ⟨rest, hE⟩ ⟨⟨rfl, i1, i2⟩, i5⟩ hK
    obtain ⟨v, hv⟩ : ∃ v : Int, (fall h lo hi).1 = v := ⟨_, rfl⟩
    obtain ⟨y, hy⟩ : ∃ y : Int, (fall h lo hi).2 = y := ⟨_, rfl⟩
    have HV : Hid (fall h lo hi = (v, y)) := by show _ = _; rw [← hv, ← hy]
    rw [hv] at i1
    rw [hy] at i2
    clear hv hy
    gi_wp2
    go_wp2_with fail
    refine Vals9.region (fun _ X => (Blk X (w.heap.size + 1 + 1) 3 #[.int .i64 v] ∧ Blk X (w.heap.size + 1 + 1 + 1) 103 #[.int .i64 y]) ∧ (Below w.heap.size w X ∧ X.heap[D]? = some (.deferred (some [])))) [some 30, some 31, none, none] [.is ?_, .is ?_, .is (undef), .is (undef)] (by kernel_rfl) (by kernel_rfl) (by kernel_rfl) (by kernel_rfl) (by kernel_rfl) (by kernel_rfl) (⟨⟨i1.drew, i2.drew⟩, i5.drew, hK⟩) ?hsteps ?hfin
    case hsteps =>
      refine Vals9.Steps.run rfl ?_ ?_
      · intro a W σ hJ pre K hK
        have e4 := pre.2.2 4 _ (by kernel_rfl) rfl
        clear pre
        simp only [Array.getD_eq_getD_getElem?, List.getElem?_toArray, List.getElem?_cons_zero, List.getElem?_cons_succ, Option.getD_some] at e4
        have hS9 := hJ
        obtain ⟨⟨q1, q2⟩, q3, q4⟩ := hS9
        have d0 := q1.cell 0
        have d1 := q2.cell 0
        simp only [List.getElem?_toArray, List.getElem?_cons_zero] at d0 d1
        go_simp
        exact hK _ hJ
      refine Vals9.Steps.run rfl ?_ ?_
      · intro a W σ hJ pre K hK
        have e5 := pre.2.2 5 _ (by kernel_rfl) rfl
        clear pre
        simp only [Array.getD_eq_getD_getElem?, List.getElem?_toArray, List.getElem?_cons_zero, List.getElem?_cons_succ, Option.getD_some] at e5
        have hS9 := hJ
        obtain ⟨⟨q1, q2⟩, q3, q4⟩ := hS9
        have d0 := q1.cell 0
        have d1 := q2.cell 0
        simp only [List.getElem?_toArray, List.getElem?_cons_zero] at d0 d1
        go_simp
        exact hK _ hJ
      refine Vals9.Steps.run rfl ?_ ?_
      · intro a W σ hJ pre K hK
        have e4 := pre.2.2 4 _ (by kernel_rfl) rfl
        have e30 := pre.1 0 30 _ (by kernel_rfl) rfl rfl
        clear pre
        simp only [Array.getD_eq_getD_getElem?, List.getElem?_toArray, List.getElem?_cons_zero, List.getElem?_cons_succ, Option.getD_some] at e4 e30
        obtain ⟨⟨q1, q2⟩, q3, q4⟩ := hJ
        have d0 := q1.cell 0
        have d1 := q2.cell 0
        have f0 := q1.frozen 0
        have f1 := q2.frozen 0
        simp only [List.getElem?_toArray, List.getElem?_cons_zero] at d0 d1
        go_simp
        exact hK _ ⟨⟨q1.set 0 (.int .i64 v), q2.far (by omega) 0 _⟩, q3.setCell (p := ⟨w.heap.size + 1 + 1, 0, none⟩) (by simp; omega) _, (KeepsOthers.setCell _ _ _).same D _ q4 rfl⟩
      refine Vals9.Steps.run rfl ?_ ?_
      · intro a W σ hJ pre K hK
        have e5 := pre.2.2 5 _ (by kernel_rfl) rfl
        have e31 := pre.1 1 31 _ (by kernel_rfl) rfl rfl
        clear pre
        simp only [Array.getD_eq_getD_getElem?, List.getElem?_toArray, List.getElem?_cons_zero, List.getElem?_cons_succ, Option.getD_some] at e5 e31
        obtain ⟨⟨q1, q2⟩, q3, q4⟩ := hJ
        have d0 := q1.cell 0
        have d1 := q2.cell 0
        have f0 := q1.frozen 0
        have f1 := q2.frozen 0
        simp only [List.getElem?_toArray, List.getElem?_cons_zero] at d0 d1
        go_simp
        exact hK _ ⟨⟨q1.far (by omega) 0 _, q2.set 0 (.int .i64 y)⟩, q3.setCell (p := ⟨w.heap.size + 1 + 1 + 1, 0, none⟩) (by simp; omega) _, (KeepsOthers.setCell _ _ _).same D _ q4 rfl⟩
      exact Vals9.Steps.nil
    case hfin =>
      rintro X σ ⟨⟨i1, i2⟩, i5, hK⟩
      simp only [Vals9.All]
      simp only [Vals.putAll, List.setIfInBounds_toArray, List.set_cons_zero, List.set_cons_succ]
      go_wp2_with fail
      have hR8 : Blk (X.putObj D (.deferred none)) (w.heap.size + 1 + 1) 3 #[.int .i64 v] := i1.grown (grownBy_putObj' _ D (.deferred none)) (fun e => by cases e; omega)
      have hR9 : Blk (X.putObj D (.deferred none)) (w.heap.size + 1 + 1 + 1) 103 #[.int .i64 y] := i2.grown (grownBy_putObj' _ D (.deferred none)) (fun e => by cases e; omega)
      refine ⟨by simp, .inl ⟨_, _, rfl, run_takeDeferred hK, ?_⟩⟩
      exact ⟨_, results_cells2 Try.results72 _ _ _ _ _ _ rfl rfl (load_int hR8) (load_reason hR9), by rw [HV.out], i5.trans (belowK_b (w := w) (Nat.le_refl _) _ D _ _ (by omega) hK rfl rfl)⟩
end Td
end Go.Proofs.Ythdcklonamgpiaa
