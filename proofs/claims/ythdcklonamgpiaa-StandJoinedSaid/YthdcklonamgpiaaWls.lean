import Derived.Test.YthdcklonamgpiaaNar
import Derived.Test.YthdcklonamgpiaaBkl
import Derived.Test.YthdcklonamgpiaaWle
import Derived.Test.YthdcklonamgpiaaWtu
/- The law StandLess: what it returns. -/
namespace Go.Proofs.Ythdcklonamgpiaa
open Go.RowKit
namespace Td
set_option linter.unusedSimpArgs false
set_option linter.unusedVariables false
attribute [local go_sem] Oper.semAt_some
/-- a part whose spans are written one after the other. -/
def stP (x : Prt) (na nb nc nd : Int) (s t : Bool) : Prt := { x with w0 := bif s then na else x.w0, w1 := bif s then nb else x.w1, l0 := bif t then nc else x.l0, l1 := bif t then nd else x.l1 }
/-- where a region stands that writes both spans of a part, beside a hull that is being built. -/
structure Sr (X0 : World) (L : List (Nat × TypeId × Array Value)) (gb : Nat) (vg : Value) (a f : Int) (l : List Prt) (gp : Nat) (x : Prt) (na nb nc nd : Int) (oL oS oM oT : Option Value) (Z : World) : Prop where
  bh : Bh X0 (gb + 1) gb vg a f l Z
  pb : Blk Z gp 74 (pV (stP x na nb nc nd oS.isSome oT.isSome))
  lt : gb < gp
  nr : ∀ k, vg.ownBlock = some k → k ≠ gp
  la : ∀ v, oL = some v → v = .agg #[.int .i64 x.w0, .int .i64 x.w1]
  lb : ∀ v, oM = some v → v = .agg #[.int .i64 x.l0, .int .i64 x.l1]
  sl : oS ≠ none → oL ≠ none
  sm : oT ≠ none → oM ≠ none
section
variable {X0 : World} {L : List (Nat × TypeId × Array Value)} {gb : Nat} {vg : Value} {a f : Int} {l : List Prt} {gp : Nat} {x : Prt} {na nb nc nd : Int} {oL oS oM oT : Option Value} {Z Z' : World}
theorem Sr.keep (h : Sr X0 L gb vg a f l gp x na nb nc nd oL oS oM oT Z) (hb : Below Z.heap.size Z Z') : Sr X0 L gb vg a f l gp x na nb nc nd oL oS oM oT Z' := ⟨h.bh.keep hb, h.pb.keep hb, h.lt, h.nr, h.la, h.lb, h.sl, h.sm⟩
theorem Sr.loadW (h : Sr X0 L gb vg a f l gp x na nb nc nd none oS oM oT Z) : Z.cell? ⟨gp, 2, none⟩ = some (.int .i64 x.w0) ∧ Z.cell? ⟨gp, 3, none⟩ = some (.int .i64 x.w1) ∧ Sr X0 L gb vg a f l gp x na nb nc nd (some (.agg #[.int .i64 x.w0, .int .i64 x.w1])) oS oM oT Z := by
  have hs : oS = none := by
    cases e : oS with
    | none => rfl
    | some q => exact absurd rfl (h.sl (by rw [e]; exact fun e => by cases e))
  subst hs
  exact ⟨h.pb.cell 2, h.pb.cell 3, h.bh, h.pb, h.lt, h.nr, fun v e => (Option.some.inj e).symm, h.lb, fun k => absurd rfl k, h.sm⟩
theorem Sr.loadL (h : Sr X0 L gb vg a f l gp x na nb nc nd oL oS none oT Z) : Z.cell? ⟨gp, 5, none⟩ = some (.int .i64 x.l0) ∧ Z.cell? ⟨gp, 6, none⟩ = some (.int .i64 x.l1) ∧ Sr X0 L gb vg a f l gp x na nb nc nd oL oS (some (.agg #[.int .i64 x.l0, .int .i64 x.l1])) oT Z := by
  have hs : oT = none := by
    cases e : oT with
    | none => rfl
    | some q => exact absurd rfl (h.sm (by rw [e]; exact fun e => by cases e))
  subst hs
  exact ⟨h.pb.cell 5, h.pb.cell 6, h.bh, h.pb, h.lt, h.nr, h.la, fun v e => (Option.some.inj e).symm, h.sl, fun k => absurd rfl k⟩
theorem Sr.putW {v : Value} (h : Sr X0 L gb vg a f l gp x na nb nc nd (some v) none oM oT Z) (z : Value) : (∃ c, Z.cell? ⟨gp, 2, none⟩ = some c) ∧ (∃ c, (Z.setCell ⟨gp, 2, none⟩ (.int .i64 na)).cell? ⟨gp, 3, none⟩ = some c) ∧ Z.frozen? ⟨gp, 2, none⟩ = false ∧ (Z.setCell ⟨gp, 2, none⟩ (.int .i64 na)).frozen? ⟨gp, 3, none⟩ = false ∧
    Sr X0 L gb vg a f l gp x na nb nc nd (some v) (some z) oM oT ((Z.setCell ⟨gp, 2, none⟩ (.int .i64 na)).setCell ⟨gp, 3, none⟩ (.int .i64 nb)) := by
  have h2 := h.pb.set 2 (.int .i64 na)
  have h3 := h2.set 3 (.int .i64 nb)
  exact ⟨⟨_, h.pb.cell 2⟩, ⟨_, h2.cell 3⟩, h.pb.frozen 2, h2.frozen 3, (h.bh.far h.lt h.nr 2 _).far h.lt h.nr 3 _, h3, h.lt, h.nr, h.la, h.lb, fun _ e => (by cases e), h.sm⟩
theorem Sr.putL {v : Value} (h : Sr X0 L gb vg a f l gp x na nb nc nd oL oS (some v) none Z) (z : Value) : (∃ c, Z.cell? ⟨gp, 5, none⟩ = some c) ∧ (∃ c, (Z.setCell ⟨gp, 5, none⟩ (.int .i64 nc)).cell? ⟨gp, 6, none⟩ = some c) ∧ Z.frozen? ⟨gp, 5, none⟩ = false ∧ (Z.setCell ⟨gp, 5, none⟩ (.int .i64 nc)).frozen? ⟨gp, 6, none⟩ = false ∧
    Sr X0 L gb vg a f l gp x na nb nc nd oL oS (some v) (some z) ((Z.setCell ⟨gp, 5, none⟩ (.int .i64 nc)).setCell ⟨gp, 6, none⟩ (.int .i64 nd)) := by
  have h2 := h.pb.set 5 (.int .i64 nc)
  have h3 := h2.set 6 (.int .i64 nd)
  exact ⟨⟨_, h.pb.cell 5⟩, ⟨_, h2.cell 6⟩, h.pb.frozen 5, h2.frozen 6, (h.bh.far h.lt h.nr 5 _).far h.lt h.nr 6 _, h3, h.lt, h.nr, h.la, h.lb, h.sl, fun _ e => (by cases e)⟩
end
/-- where a region stands that writes both ends of the ground. -/
structure Wd (w : World) (L : List (Nat × TypeId × Array Value)) (g : Nat) (v : Value) (a f a' f' : Int) (oA oB : Option Value) (Z : World) : Prop where
  sn : Since w Z
  bl : ∀ b ∈ L, Blk Z b.1 b.2.1 b.2.2
  ne : ∀ b ∈ L, g ≠ b.1
  wb : Blk Z g 24 #[v, .int .i64 (bif oA.isSome then a' else a), .int .i64 (bif oB.isSome then f' else f)]
  wl : w.heap.size ≤ g
section
variable {w : World} {L : List (Nat × TypeId × Array Value)} {g : Nat} {v : Value} {a f a' f' : Int} {oA oB : Option Value} {Z Z' : World}
theorem Wd.putA (h : Wd w L g v a f a' f' none oB Z) (z : Value) : (∃ c, Z.cell? ⟨g, 1, none⟩ = some c) ∧ Z.frozen? ⟨g, 1, none⟩ = false ∧ Wd w L g v a f a' f' (some z) oB (Z.setCell ⟨g, 1, none⟩ (.int .i64 a')) :=
  ⟨⟨_, h.wb.cell 1⟩, h.wb.frozen 1, h.sn.set h.wl 1 _, fun b hb => (h.bl b hb).far (h.ne b hb) 1 _, h.ne, h.wb.set 1 (.int .i64 a'), h.wl⟩
theorem Wd.putB (h : Wd w L g v a f a' f' oA none Z) (z : Value) : (∃ c, Z.cell? ⟨g, 2, none⟩ = some c) ∧ Z.frozen? ⟨g, 2, none⟩ = false ∧ Wd w L g v a f a' f' oA (some z) (Z.setCell ⟨g, 2, none⟩ (.int .i64 f')) :=
  ⟨⟨_, h.wb.cell 2⟩, h.wb.frozen 2, h.sn.set h.wl 2 _, fun b hb => (h.bl b hb).far (h.ne b hb) 2 _, h.ne, h.wb.set 2 (.int .i64 f'), h.wl⟩
end
theorem fall_wid {h : Hul} (hp : ∀ x ∈ h.parts, x.w0 ≤ x.w1 ∧ x.l0 ≤ x.l1) {a f : Int} (ha : a ≤ h.aft) (hf : h.fore ≤ f) {lo hi : Int} (h0 : (fall h lo hi).2 = 0) : (fall (widH h a f) lo hi).2 = 0 := by
  have e : thru h lo hi = true := by unfold thru; rw [h0]; rfl
  have e2 : thru (widH h a f) lo hi = true := thru_iff.2 (fun w h1 h2 => why_wid hp ha hf (thru_iff.1 e w h1 h2))
  unfold thru at e2
  simpa using e2
theorem why_good2 {h : Hul} {lo hi : Int} (hc : (chk h).2.2 = 0) (h0 : 0 ≤ lo) (h1 : lo ≤ hi) (h2 : hi ≤ 1000) : whyA h lo hi = ((fall h lo hi).2, (fall h lo hi).1, 0) := by
  have e : lookE h lo hi = 0 := lookE_ok.2 ⟨hc, h0, h1, h2⟩
  unfold whyA
  rw [if_neg (by simpa using e)]
set_option maxRecDepth 100000 in
set_option maxHeartbeats 8000000 in
theorem standLess_c (h : Hul) (m : Sl) (a0 a1 aw : Nat) (P : Option Addr) (U : List Int) (pc : Nat) (P2 : Option Addr) (U2 : List Int) (pc2 : Nat) (w : World) (hp : HAt w m h) (hu : U32At w P U) (ho : U32Ok U) (hu2 : U32At w P2 U2) (ho2 : U32Ok U2) (b0 : a0 ≤ 65535) (b1 : a1 ≤ 65535) (b2 : aw ≤ 65535) :
    Calls Try.prog 12 #[.agg (hV h m), .agg (xV a0 a1 aw P U.length pc), .slice P2 U2.length pc2] w fun e w' => e = .returned (.bool true) ∧ Below w.heap.size w w' := by
  have hs := ((Since.refl w).alloc (.cells (hV h m) 24)).alloc (.cells (xV a0 a1 aw P U.length pc) 63)
  have HB := Lib.hid ((Blk.new w 24 (hV h m)).alloc (.cells (xV a0 a1 aw P U.length pc) 63))
  have HX := Lib.hid (Blk.new1 w (.cells (hV h m) 24) 63 (xV a0 a1 aw P U.length pc))
  have HP := Lib.hid hp
  have HU := Lib.hid hu2
  have HO := Lib.hid ho2
  obtain ⟨i0, i1, i2⟩ := tide_in a0 a1
  have HTD := Lib.hid (fun W => lawtide_c a0 a1 W b0 b1)
  obtain ⟨lo, hlo⟩ : ∃ lo, tLo a0 = lo := ⟨_, rfl⟩
  obtain ⟨hi, hhi⟩ : ∃ hi, tHi a0 a1 = hi := ⟨_, rfl⟩
  rw [hlo] at i0 i1 HTD
  rw [hhi] at i1 i2 HTD
  clear hp hu ho hu2 ho2 hlo hhi
  obtain ⟨c0, c1, c2⟩ := HB.out.hull
  go_enter Try.func12, Try.ntmps12
  go_wp2_with fail
  refine (valid_c h m _ (HP.out.keep hs.1)).mono ?_
  rintro e w1 ⟨rfl, hb⟩
  replace hs := hs.keep hb
  replace HB := Lib.hid (HB.out.keep hb)
  replace HX := Lib.hid (HX.out.keep hb)
  clear hb c0 c1 c2
  by_cases hc : (chk h).2.2 = 0
  · rw [decide_eq_true hc]
    have HC := Lib.hid hc
    have hh := chk_ok hc
    have HH := Lib.hid hh
    have hn10 := hh.n10
    clear hc
    obtain ⟨wt, hwt⟩ : ∃ wt, (aw : Int) % 1001 = wt := ⟨_, rfl⟩
    have w0 : 0 ≤ wt := by rw [← hwt]; exact Int.emod_nonneg _ (by decide)
    have w1' : wt ≤ 1000 := by have := Int.emod_lt_of_pos (aw : Int) (show (0 : Int) < 1001 by decide); omega
    have eA : IntKind.i64.wrap (aw : Int) = aw := IntWalk.i64_in _ (by omega)
    have eR : (aw : Int).tmod 1001 = wt := by rw [Int.tmod_eq_emod_of_nonneg (by omega)]; exact hwt
    have eW : IntKind.i64.wrap wt = wt := IntWalk.i64_in _ (by omega)
    clear hwt
    go_wp2_with fail
    refine Vals9.region (fun σ Z => Pb w [(w.heap.size, 24, hV h m), (w.heap.size + 1, 63, xV a0 a1 aw P U.length pc)] 48 #[.int .i64 0, .int .i64 0] #[.int .i64 lo, .int .i64 hi] [] [] (.agg #[.int .i64 lo, .int .i64 hi]) none (σ 6) (σ 7) (σ 9) Z) [some 27, some 28, some 29, some 30, some 31, some 32, some 33, some 8, some 7, none] [.is ?_, .is ?_, .is ?_, .is ?_, .is ?_, .is ?_, .any, .any, .is ?_, .any] (by kernel_rfl) (by kernel_rfl) (by kernel_rfl) (by kernel_rfl) (by kernel_rfl) (by kernel_rfl) (⟨hs.drew, (fun b hb => by simp only [List.mem_cons, List.not_mem_nil, or_false] at hb; rcases hb with rfl | rfl; exact HB.out.drew; exact HX.out.drew), (fun _ v hv => by cases hv), (fun v hv => by cases hv), (fun v hv => by cases hv), (fun k => absurd rfl k)⟩) ?hsteps ?hfin
    case hsteps =>
      refine Vals9.Steps.run rfl ?_ ?_
      · intro a W σ hJ pre K hK
        have e4 := pre.2.2 4 _ (by kernel_rfl) rfl
        clear pre
        simp only [Array.getD_eq_getD_getElem?, List.getElem?_toArray, List.getElem?_cons_zero, List.getElem?_cons_succ, Option.getD_some] at e4
        go_simp
        exact hK _ hJ
      refine Vals9.Steps.run rfl ?_ ?_
      · intro a W σ hJ pre K hK
        have e27 := pre.1 0 27 _ (by kernel_rfl) rfl rfl
        clear pre
        simp only [Array.getD_eq_getD_getElem?, List.getElem?_toArray, List.getElem?_cons_zero, List.getElem?_cons_succ, Option.getD_some] at e27
        have hJ2 : Pb w [(w.heap.size, 24, hV h m), (w.heap.size + 1, 63, xV a0 a1 aw P U.length pc)] 48 #[.int .i64 0, .int .i64 0] #[.int .i64 lo, .int .i64 hi] [] [] (.agg #[.int .i64 lo, .int .i64 hi]) none (σ 6) (σ 7) (σ 9) W := hJ
        have hX2 := (show Blk W (w.heap.size + 1) 63 (xV a0 a1 aw P U.length pc) from hJ2.bl (w.heap.size + 1, 63, xV a0 a1 aw P U.length pc) (by simp))
        have x0 := hX2.cell 0
        have x1 := hX2.cell 1
        have x2 := hX2.cell 2
        simp only [List.getElem?_toArray, List.getElem?_cons_zero, List.getElem?_cons_succ] at x0 x1 x2
        go_simp
        exact hK _ hJ
      refine Vals9.Steps.run rfl ?_ ?_
      · intro a W σ hJ pre K hK
        have e28 := pre.1 1 28 _ (by kernel_rfl) rfl rfl
        clear pre
        simp only [Array.getD_eq_getD_getElem?, List.getElem?_toArray, List.getElem?_cons_zero, List.getElem?_cons_succ, Option.getD_some] at e28
        go_simp
        exact hK _ hJ
      refine Vals9.Steps.run rfl ?_ ?_
      · intro a W σ hJ pre K hK
        have e29 := pre.1 2 29 _ (by kernel_rfl) rfl rfl
        clear pre
        simp only [Array.getD_eq_getD_getElem?, List.getElem?_toArray, List.getElem?_cons_zero, List.getElem?_cons_succ, Option.getD_some] at e29
        go_simp
        exact hK _ hJ
      refine Vals9.Steps.run rfl ?_ ?_
      · intro a W σ hJ pre K hK
        have e4 := pre.2.2 4 _ (by kernel_rfl) rfl
        clear pre
        simp only [Array.getD_eq_getD_getElem?, List.getElem?_toArray, List.getElem?_cons_zero, List.getElem?_cons_succ, Option.getD_some] at e4
        go_simp
        exact hK _ hJ
      refine Vals9.Steps.run rfl ?_ ?_
      · intro a W σ hJ pre K hK
        have e31 := pre.1 4 31 _ (by kernel_rfl) rfl rfl
        clear pre
        simp only [Array.getD_eq_getD_getElem?, List.getElem?_toArray, List.getElem?_cons_zero, List.getElem?_cons_succ, Option.getD_some] at e31
        have hJ2 : Pb w [(w.heap.size, 24, hV h m), (w.heap.size + 1, 63, xV a0 a1 aw P U.length pc)] 48 #[.int .i64 0, .int .i64 0] #[.int .i64 lo, .int .i64 hi] [] [] (.agg #[.int .i64 lo, .int .i64 hi]) none (σ 6) (σ 7) (σ 9) W := hJ
        have hX2 := (show Blk W (w.heap.size + 1) 63 (xV a0 a1 aw P U.length pc) from hJ2.bl (w.heap.size + 1, 63, xV a0 a1 aw P U.length pc) (by simp))
        have x0 := hX2.cell 0
        have x1 := hX2.cell 1
        have x2 := hX2.cell 2
        simp only [List.getElem?_toArray, List.getElem?_cons_zero, List.getElem?_cons_succ] at x0 x1 x2
        go_simp
        exact hK _ hJ
      refine Vals9.Steps.mark rfl ?_ ?_
      · intro a W σ hJ hn pre K hK
        have e32 := pre.1 5 32 _ (by kernel_rfl) rfl rfl
        simp only [Array.getD_eq_getD_getElem?, List.getElem?_toArray, List.getElem?_cons_zero, List.getElem?_cons_succ, Option.getD_some] at e32
        have hJ2 : Pb w [(w.heap.size, 24, hV h m), (w.heap.size + 1, 63, xV a0 a1 aw P U.length pc)] 48 #[.int .i64 0, .int .i64 0] #[.int .i64 lo, .int .i64 hi] [] [] (.agg #[.int .i64 lo, .int .i64 hi]) none (σ 6) (σ 7) (σ 9) W := hJ
        rw [hn] at hJ2
        have hC := HTD.out W
        go_simp
        refine hC.mono ?_
        rintro e w' ⟨rfl, hb'⟩
        exact hK _ _ (hJ2.keep hb').call
      refine Vals9.Steps.mark rfl ?_ ?_
      · intro a W σ hJ hn pre K hK
        have hJ2 : Pb w [(w.heap.size, 24, hV h m), (w.heap.size + 1, 63, xV a0 a1 aw P U.length pc)] 48 #[.int .i64 0, .int .i64 0] #[.int .i64 lo, .int .i64 hi] [] [] (.agg #[.int .i64 lo, .int .i64 hi]) none (σ 6) (σ 7) (σ 9) W := hJ
        rw [hn] at hJ2
        go_simp
        exact hK _ _ hJ2.made
      refine Vals9.Steps.run rfl ?_ ?_
      · intro a W σ hJ pre K hK
        have e30 := pre.1 3 30 _ (by kernel_rfl) rfl rfl
        clear pre
        simp only [Array.getD_eq_getD_getElem?, List.getElem?_toArray, List.getElem?_cons_zero, List.getElem?_cons_succ, Option.getD_some] at e30
        go_simp
        exact hK _ hJ
      refine Vals9.Steps.mark rfl ?_ ?_
      · intro a W σ hJ hn pre K hK
        obtain ⟨v8, s8, e8⟩ := pre.2.1 7 (by kernel_rfl) rfl
        replace e8 : a.tmps.getD 8 undef = v8 := e8 8 rfl
        obtain ⟨v33, s33, e33⟩ := pre.2.1 6 (by kernel_rfl) rfl
        replace e33 : a.tmps.getD 33 undef = v33 := e33 33 rfl
        simp only [Array.getD_eq_getD_getElem?, List.getElem?_toArray, List.getElem?_cons_zero, List.getElem?_cons_succ, Option.getD_some] at e8 e33
        have hJ2 : Pb w [(w.heap.size, 24, hV h m), (w.heap.size + 1, 63, xV a0 a1 aw P U.length pc)] 48 #[.int .i64 0, .int .i64 0] #[.int .i64 lo, .int .i64 hi] [] [] (.agg #[.int .i64 lo, .int .i64 hi]) none (σ 6) (σ 7) (σ 9) W := hJ
        have hbv := hJ2.bv _ s33
        rw [hn, s33, s8] at hJ2
        obtain ⟨g, e9, hb, h2⟩ := hJ2.put undef
        rw [← s33, ← s8] at h2
        have hfin := hK undef _ h2
        rw [e9] at e8
        rw [hbv] at e33
        have hx : a.eval (.tmp 8) = .pointer (some ⟨g, 0, none⟩) := by go_simp
        have hy : a.eval (.tmp 33) = .agg #[.int .i64 lo, .int .i64 hi] := by go_simp
        refine wp_store_row 48 _ _ rfl g #[.int .i64 lo, .int .i64 hi] hx hy 48 _ hb (by kernel_rfl) rfl (by simp [Value.oneCell']) ?_
        exact hfin
      exact Vals9.Steps.nil
    case hfin =>
      rintro X σ hJ
      simp only [Vals9.All]
      rintro v6 s6 v7 s7 v9 s9
      simp only [Vals.putAll, List.setIfInBounds_toArray, List.set_cons_zero, List.set_cons_succ]
      have hJ2 : Pb w [(w.heap.size, 24, hV h m), (w.heap.size + 1, 63, xV a0 a1 aw P U.length pc)] 48 #[.int .i64 0, .int .i64 0] #[.int .i64 lo, .int .i64 hi] [] [] (.agg #[.int .i64 lo, .int .i64 hi]) none (σ 6) (σ 7) (σ 9) X := hJ
      have hv := hJ2.bv _ s6
      rw [s6, s7, s9] at hJ2
      obtain ⟨gS, e9, hlg, hbz⟩ := hJ2.end_
      subst hv e9
      have hs2 := hJ2.sn
      have HB2 := Lib.hid (show Blk X w.heap.size 24 (hV h m) from hJ2.bl (w.heap.size, 24, hV h m) (by simp))
      have HS := Lib.hid hbz
      have HWL : Hid (w.heap.size + 1 < gS) := hlg (w.heap.size + 1, 63, xV a0 a1 aw P U.length pc) (by simp)
      clear hJ hJ2 hlg hbz HTD s6 s7 s9
      replace hs := hs2
      replace HB := HB2
      clear hs2 HB2 HX eA eR eW
      obtain ⟨c0, c1, c2⟩ := HB.out.hull
      have HPX := Lib.hid (HP.out.keep hs.1)
      have HUX := Lib.hid (HU.out.keep hs.1)
      have HK : Hid (Bh X (X.heap.size + 1) X.heap.size (.slice none 0 0) h.aft h.fore (nrPs h U2 0) (X.alloc (.cells #[.slice none 0 0, .int .i64 h.aft, .int .i64 h.fore] 24))) := ⟨(Since.refl X).alloc _, Blk.new _ _ _, ⟨by simp [flat, nrPs], .inl ⟨rfl, by simp [nrPs]⟩⟩, by omega, by simp, Nat.le_refl _⟩
      go_wp2_with fail
      clear c0 c1 c2
      obtain ⟨gb, hgb⟩ : ∃ g, X.heap.size = g := ⟨_, rfl⟩
      have HGB := Lib.hid hgb
      rw [hgb] at HK ⊢
      clear hgb
      go_loopw [10] (fun i wr => ∃ (k : Nat) (vg : Value), k ≤ h.parts.length ∧ i = .int .i64 k ∧ Hid (Bh X (gb + 1) gb vg h.aft h.fore (nrPs h U2 k) wr)) (fun i _ => h.parts.length - (intOf i).toNat)
      case atStart => exact ⟨0, _, Nat.zero_le _, rfl, HK⟩
      case round =>
        clear HK
        obtain ⟨k, vg, hk, rfl, HK⟩ := hrel
        have hS := HK.out.sn
        by_cases hlt : k < h.parts.length
        · obtain ⟨ad, hA, d0, d1, d2, d3, d4, d5, d6⟩ := (HPX.out.keep hS.1).ps.get hlt
          have hki : (k : Int) < (h.parts.length : Int) := by omega
          have hx := HH.out.ps _ (List.getElem_mem hlt)
          have XK : Hid (nrPs h U2 (k + 1) = nrPs h U2 k ++ [nrP U2 k h.parts[k]]) := by show _ = _; rw [nrPs_next, pa_at hlt]
          have HLK : Hid ((nrPs h U2 k).length ≤ 1000) := by show _ ≤ _; simp [nrPs]; omega
          obtain ⟨tk, htk⟩ : ∃ t, nrPs h U2 k = t := ⟨_, rfl⟩
          rw [htk] at XK HLK HK
          clear htk
          obtain ⟨mA, mc⟩ := m
          replace hA : mA = some ad := hA
          subst hA
          obtain ⟨c0, c1, c2⟩ := (HB.out.keep hS.1).hull
          have hgl := HK.out.tb.lt
          have HSR : Hid (Sr X [] gb vg h.aft h.fore tk wr.heap.size h.parts[k] (nrL h.parts[k].w0 h.parts[k].w1 U2 (4 * k)) (nrH h.parts[k].w0 h.parts[k].w1 U2 (4 * k)) (nrL h.parts[k].l0 h.parts[k].l1 U2 (4 * k + 2)) (nrH h.parts[k].l0 h.parts[k].l1 U2 (4 * k + 2)) none none none none (wr.alloc (.cells (pV h.parts[k]) 74))) :=
            ⟨HK.out.alloc _, Blk.new _ _ _, hgl, fun q e => by have := (HK.out.og.lt q e).2; omega, fun v hv => (by cases hv), fun v hv => (by cases hv), fun e => absurd rfl e, fun e => absurd rfl e⟩
          have HN1 : Hid (∀ W, Since X W → Calls Try.prog 42 #[.agg #[.int .i64 h.parts[k].w0, .int .i64 h.parts[k].w1], .slice P2 U2.length pc2, .int .i64 (4 * (k : Int))] W fun e w' => e = .returned (.agg #[.int .i64 (nrL h.parts[k].w0 h.parts[k].w1 U2 (4 * k)), .int .i64 (nrH h.parts[k].w0 h.parts[k].w1 U2 (4 * k))]) ∧ Below W.heap.size W w') := fun W hS => by
            have := narrow_c h.parts[k].w0 h.parts[k].w1 P2 U2 pc2 (4 * k) W hx.w01 (by have := hx.w0; omega) (by have := hx.w1; omega) (by omega) (HUX.out.keep hS.1) HO.out
            push_cast at this
            exact this
          have HN2 : Hid (∀ W, Since X W → Calls Try.prog 42 #[.agg #[.int .i64 h.parts[k].l0, .int .i64 h.parts[k].l1], .slice P2 U2.length pc2, .int .i64 (4 * (k : Int) + 2)] W fun e w' => e = .returned (.agg #[.int .i64 (nrL h.parts[k].l0 h.parts[k].l1 U2 (4 * k + 2)), .int .i64 (nrH h.parts[k].l0 h.parts[k].l1 U2 (4 * k + 2))]) ∧ Below W.heap.size W w') := fun W hS => by
            have := narrow_c h.parts[k].l0 h.parts[k].l1 P2 U2 pc2 (4 * k + 2) W hx.l01 (by have := hx.l0; omega) (by have := hx.l1; omega) (by omega) (HUX.out.keep hS.1) HO.out
            push_cast at this
            exact this
          have XP : Hid (nrP U2 k h.parts[k] = stP h.parts[k] (nrL h.parts[k].w0 h.parts[k].w1 U2 (4 * k)) (nrH h.parts[k].w0 h.parts[k].w1 U2 (4 * k)) (nrL h.parts[k].l0 h.parts[k].l1 U2 (4 * k + 2)) (nrH h.parts[k].l0 h.parts[k].l1 U2 (4 * k + 2)) true true) := rfl
          have e4 : IntKind.i64.wrap (4 * (k : Int)) = 4 * (k : Int) := IntWalk.i64_in _ (by omega)
          have e5 : IntKind.i64.wrap (4 * (k : Int) + 2) = 4 * (k : Int) + 2 := IntWalk.i64_in _ (by omega)
          have E4 := Lib.hid e4
          have E5 := Lib.hid e5
          clear e4 e5 hx
          go_wp2_with fail
          clear c0 c1 c2 d0 d1 d2 d3 d4 d5 d6 hgl hS
          obtain ⟨gp, hgp⟩ : ∃ g, wr.heap.size = g := ⟨_, rfl⟩
          rw [hgp] at HSR ⊢
          obtain ⟨na, hna⟩ : ∃ n, nrL h.parts[k].w0 h.parts[k].w1 U2 (4 * k) = n := ⟨_, rfl⟩
          obtain ⟨nb, hnb⟩ : ∃ n, nrH h.parts[k].w0 h.parts[k].w1 U2 (4 * k) = n := ⟨_, rfl⟩
          obtain ⟨nc, hnc⟩ : ∃ n, nrL h.parts[k].l0 h.parts[k].l1 U2 (4 * k + 2) = n := ⟨_, rfl⟩
          obtain ⟨nd, hnd⟩ : ∃ n, nrH h.parts[k].l0 h.parts[k].l1 U2 (4 * k + 2) = n := ⟨_, rfl⟩
          rw [hna, hnb] at HN1
          rw [hnc, hnd] at HN2
          rw [hna, hnb, hnc, hnd] at HSR XP
          obtain ⟨x, hxx⟩ : ∃ x, h.parts[k] = x := ⟨_, rfl⟩
          rw [hxx] at HSR HN1 HN2 XP XK ⊢
          obtain ⟨W2, hW2⟩ : ∃ W2, wr.alloc (.cells (pV x) 74) = W2 := ⟨_, rfl⟩
          rw [hW2] at HSR ⊢
          clear hW2 hxx hna hnb hnc hnd hgp HK
          refine Vals9.region (fun σ Z => Sr X [] gb vg h.aft h.fore tk gp x na nb nc nd (σ 1) (σ 14) (σ 7) (σ 16) Z) [some 48, some 49, some 50, some 51, some 52, some 53, some 54, some 55, some 56, some 57, some 58, some 59, some 60, some 61, none, some 62, none] [.is ?_, .any, .is ?_, .is ?_, .is (.int .i64 (4 * (k : Int))), .is ?_, .is ?_, .any, .is ?_, .is ?_, .is (.int .i64 (4 * (k : Int))), .is (.int .i64 (4 * (k : Int) + 2)), .is ?_, .is ?_, .any, .is ?_, .any] (by kernel_rfl) (by kernel_rfl) (by kernel_rfl) (by kernel_rfl) (by kernel_rfl) (by kernel_rfl) (HSR.out.keep (Below.refl _ _).drew) ?hsteps ?hfin
          case hsteps =>
            refine Vals9.Steps.run rfl ?_ ?_
            · intro a W σ hJ pre K hK
              have e11 := pre.2.2 11 _ (by kernel_rfl) rfl
              clear pre
              simp only [Array.getD_eq_getD_getElem?, List.getElem?_toArray, List.getElem?_cons_zero, List.getElem?_cons_succ, Option.getD_some] at e11
              go_simp
              exact hK _ hJ
            refine Vals9.Steps.mark rfl ?_ ?_
            · intro a W σ hJ hn pre K hK
              have e48 := pre.1 0 48 _ (by kernel_rfl) rfl rfl
              simp only [Array.getD_eq_getD_getElem?, List.getElem?_toArray, List.getElem?_cons_zero, List.getElem?_cons_succ, Option.getD_some] at e48
              have hJ2 : Sr X [] gb vg h.aft h.fore tk gp x na nb nc nd (σ 1) (σ 14) (σ 7) (σ 16) W := hJ
              rw [hn] at hJ2
              obtain ⟨p1, p2, hz⟩ := hJ2.loadW
              go_simp
              exact hK _ _ hz
            refine Vals9.Steps.run rfl ?_ ?_
            · intro a W σ hJ pre K hK
              have e2 := pre.2.2 2 _ (by kernel_rfl) rfl
              clear pre
              simp only [Array.getD_eq_getD_getElem?, List.getElem?_toArray, List.getElem?_cons_zero, List.getElem?_cons_succ, Option.getD_some] at e2
              go_simp
              exact hK _ hJ
            refine Vals9.Steps.run rfl ?_ ?_
            · intro a W σ hJ pre K hK
              have e10 := pre.2.2 10 _ (by kernel_rfl) rfl
              clear pre
              simp only [Array.getD_eq_getD_getElem?, List.getElem?_toArray, List.getElem?_cons_zero, List.getElem?_cons_succ, Option.getD_some] at e10
              go_simp
              exact hK _ hJ
            refine Vals9.Steps.run rfl ?_ ?_
            · intro a W σ hJ pre K hK
              have e51 := pre.1 3 51 _ (by kernel_rfl) rfl rfl
              clear pre
              simp only [Array.getD_eq_getD_getElem?, List.getElem?_toArray, List.getElem?_cons_zero, List.getElem?_cons_succ, Option.getD_some] at e51
              have e9 := E4.out
              go_simp
              exact hK _ hJ
            refine Vals9.Steps.run rfl ?_ ?_
            · intro a W σ hJ pre K hK
              obtain ⟨v49, s49, e49⟩ := pre.2.1 1 (by kernel_rfl) rfl
              replace e49 : a.tmps.getD 49 undef = v49 := e49 49 rfl
              have e50 := pre.1 2 50 _ (by kernel_rfl) rfl rfl
              have e52 := pre.1 4 52 _ (by kernel_rfl) rfl rfl
              clear pre
              simp only [Array.getD_eq_getD_getElem?, List.getElem?_toArray, List.getElem?_cons_zero, List.getElem?_cons_succ, Option.getD_some] at e49 e50 e52
              have hJ2 : Sr X [] gb vg h.aft h.fore tk gp x na nb nc nd (σ 1) (σ 14) (σ 7) (σ 16) W := hJ
              have e9 := hJ2.la _ s49
              rw [e9] at e49
              have hC := HN1.out W hJ2.bh.sn
              go_simp
              refine hC.mono ?_
              rintro e w' ⟨rfl, hb'⟩
              exact hK _ (hJ2.keep hb')
            refine Vals9.Steps.run rfl ?_ ?_
            · intro a W σ hJ pre K hK
              have e11 := pre.2.2 11 _ (by kernel_rfl) rfl
              clear pre
              simp only [Array.getD_eq_getD_getElem?, List.getElem?_toArray, List.getElem?_cons_zero, List.getElem?_cons_succ, Option.getD_some] at e11
              go_simp
              exact hK _ hJ
            refine Vals9.Steps.mark rfl ?_ ?_
            · intro a W σ hJ hn pre K hK
              have e54 := pre.1 6 54 _ (by kernel_rfl) rfl rfl
              simp only [Array.getD_eq_getD_getElem?, List.getElem?_toArray, List.getElem?_cons_zero, List.getElem?_cons_succ, Option.getD_some] at e54
              have hJ2 : Sr X [] gb vg h.aft h.fore tk gp x na nb nc nd (σ 1) (σ 14) (σ 7) (σ 16) W := hJ
              rw [hn] at hJ2
              obtain ⟨p1, p2, hz⟩ := hJ2.loadL
              go_simp
              exact hK _ _ hz
            refine Vals9.Steps.run rfl ?_ ?_
            · intro a W σ hJ pre K hK
              have e2 := pre.2.2 2 _ (by kernel_rfl) rfl
              clear pre
              simp only [Array.getD_eq_getD_getElem?, List.getElem?_toArray, List.getElem?_cons_zero, List.getElem?_cons_succ, Option.getD_some] at e2
              go_simp
              exact hK _ hJ
            refine Vals9.Steps.run rfl ?_ ?_
            · intro a W σ hJ pre K hK
              have e10 := pre.2.2 10 _ (by kernel_rfl) rfl
              clear pre
              simp only [Array.getD_eq_getD_getElem?, List.getElem?_toArray, List.getElem?_cons_zero, List.getElem?_cons_succ, Option.getD_some] at e10
              go_simp
              exact hK _ hJ
            refine Vals9.Steps.run rfl ?_ ?_
            · intro a W σ hJ pre K hK
              have e57 := pre.1 9 57 _ (by kernel_rfl) rfl rfl
              clear pre
              simp only [Array.getD_eq_getD_getElem?, List.getElem?_toArray, List.getElem?_cons_zero, List.getElem?_cons_succ, Option.getD_some] at e57
              have e9 := E4.out
              go_simp
              exact hK _ hJ
            refine Vals9.Steps.run rfl ?_ ?_
            · intro a W σ hJ pre K hK
              have e58 := pre.1 10 58 _ (by kernel_rfl) rfl rfl
              clear pre
              simp only [Array.getD_eq_getD_getElem?, List.getElem?_toArray, List.getElem?_cons_zero, List.getElem?_cons_succ, Option.getD_some] at e58
              have e9 := E5.out
              go_simp
              exact hK _ hJ
            refine Vals9.Steps.run rfl ?_ ?_
            · intro a W σ hJ pre K hK
              obtain ⟨v55, s55, e55⟩ := pre.2.1 7 (by kernel_rfl) rfl
              replace e55 : a.tmps.getD 55 undef = v55 := e55 55 rfl
              have e56 := pre.1 8 56 _ (by kernel_rfl) rfl rfl
              have e59 := pre.1 11 59 _ (by kernel_rfl) rfl rfl
              clear pre
              simp only [Array.getD_eq_getD_getElem?, List.getElem?_toArray, List.getElem?_cons_zero, List.getElem?_cons_succ, Option.getD_some] at e55 e56 e59
              have hJ2 : Sr X [] gb vg h.aft h.fore tk gp x na nb nc nd (σ 1) (σ 14) (σ 7) (σ 16) W := hJ
              have e9 := hJ2.lb _ s55
              rw [e9] at e55
              have hC := HN2.out W hJ2.bh.sn
              go_simp
              refine hC.mono ?_
              rintro e w' ⟨rfl, hb'⟩
              exact hK _ (hJ2.keep hb')
            refine Vals9.Steps.run rfl ?_ ?_
            · intro a W σ hJ pre K hK
              have e11 := pre.2.2 11 _ (by kernel_rfl) rfl
              clear pre
              simp only [Array.getD_eq_getD_getElem?, List.getElem?_toArray, List.getElem?_cons_zero, List.getElem?_cons_succ, Option.getD_some] at e11
              go_simp
              exact hK _ hJ
            refine Vals9.Steps.mark rfl ?_ ?_
            · intro a W σ hJ hn pre K hK
              have e53 := pre.1 5 53 _ (by kernel_rfl) rfl rfl
              have e61 := pre.1 13 61 _ (by kernel_rfl) rfl rfl
              simp only [Array.getD_eq_getD_getElem?, List.getElem?_toArray, List.getElem?_cons_zero, List.getElem?_cons_succ, Option.getD_some] at e53 e61
              obtain ⟨vl, sl, -⟩ := pre.2.1 1 (by kernel_rfl) rfl
              have hJ2 : Sr X [] gb vg h.aft h.fore tk gp x na nb nc nd (σ 1) (σ 14) (σ 7) (σ 16) W := hJ
              rw [hn, sl] at hJ2
              obtain ⟨⟨_, p1⟩, ⟨_, p2⟩, f1, f2, hz⟩ := hJ2.putW undef
              rw [← sl] at hz
              have hfin := hK undef _ hz
              clear hK hz hJ2 hJ sl pre
              go_simp
              exact hfin
            refine Vals9.Steps.run rfl ?_ ?_
            · intro a W σ hJ pre K hK
              have e11 := pre.2.2 11 _ (by kernel_rfl) rfl
              clear pre
              simp only [Array.getD_eq_getD_getElem?, List.getElem?_toArray, List.getElem?_cons_zero, List.getElem?_cons_succ, Option.getD_some] at e11
              go_simp
              exact hK _ hJ
            refine Vals9.Steps.mark rfl ?_ ?_
            · intro a W σ hJ hn pre K hK
              have e60 := pre.1 12 60 _ (by kernel_rfl) rfl rfl
              have e62 := pre.1 15 62 _ (by kernel_rfl) rfl rfl
              simp only [Array.getD_eq_getD_getElem?, List.getElem?_toArray, List.getElem?_cons_zero, List.getElem?_cons_succ, Option.getD_some] at e60 e62
              obtain ⟨vl, sl, -⟩ := pre.2.1 7 (by kernel_rfl) rfl
              have hJ2 : Sr X [] gb vg h.aft h.fore tk gp x na nb nc nd (σ 1) (σ 14) (σ 7) (σ 16) W := hJ
              rw [hn, sl] at hJ2
              obtain ⟨⟨_, p1⟩, ⟨_, p2⟩, f1, f2, hz⟩ := hJ2.putL undef
              rw [← sl] at hz
              have hfin := hK undef _ hz
              clear hK hz hJ2 hJ sl pre
              go_simp
              exact hfin
            exact Vals9.Steps.nil
          case hfin =>
            rintro Y σ hJ
            simp only [Vals9.All]
            rintro v1 s1 v7 s7 v14 s14 v16 s16
            simp only [Vals.putAll, List.setIfInBounds_toArray, List.set_cons_zero, List.set_cons_succ]
            have hJ2 : Sr X [] gb vg h.aft h.fore tk gp x na nb nc nd (σ 1) (σ 14) (σ 7) (σ 16) Y := hJ
            rw [s14, s16] at hJ2
            have hbh := hJ2.bh
            have hpb : Blk Y gp 74 (pV (nrP U2 k x)) := by rw [XP.out]; exact hJ2.pb
            clear hJ hJ2 HSR XP HN1 HN2 s1 s7 s14 s16
            obtain ⟨y, hy⟩ : ∃ y, nrP U2 k x = y := ⟨_, rfl⟩
            rw [hy] at hpb XK
            clear hy
            have t0 := hbh.tb.cell 0
            simp only [List.getElem?_toArray, List.getElem?_cons_zero, List.getElem?_cons_succ] at t0
            obtain ⟨p0, p1, p2, p3, p4, p5, p6⟩ := hpb.part
            have K4 := Lib.hid (hbh.alloc (.cells (pV y) 74))
            have P4H := Lib.hid (Blk.new Y 74 (pV y))
            have hgl2 := hbh.tb.lt
            go_wp2_with (at_builtin; refine wpList_append_part rfl (.tmp 64) (.tmp 66) rfl (gb + 1) Y.heap.size _ tk y (by go_simp) (by go_simp) K4.out.og P4H.out HLK.out K4.out.sB ?_)
            rintro v' w7 ho7 hg7 -
            replace ho7 : w7.ownsRow (gb + 1) 74 7 v' (tk ++ [y]).length (flat (tk ++ [y])) := by rw [List.length_append]; exact ho7
            obtain ⟨A7, c7, h77, -⟩ := own_parts ho7
            obtain ⟨L7, hL7⟩ : ∃ n, (tk ++ [y]).length = n := ⟨_, rfl⟩
            rw [hL7] at h77
            clear hL7
            subst h77
            have K7 := Lib.hid (K4.out.push ho7 hg7)
            rw [← XK.out] at K7
            have hr7 := fun r hr => (K4.out.og.lt r hr).1
            have hT7 := K4.out.tb.grown hg7 (fun e => by have := hr7 _ e.symm; omega)
            have t7 := hT7.cell 0
            have f7 := hT7.frozen 0
            simp only [List.getElem?_toArray, List.getElem?_cons_zero, List.getElem?_cons_succ] at t7
            clear K4 P4H ho7 hg7 hr7 hT7 hbh hpb t0 p0 p1 p2 p3 p4 p5 p6 hgl2
            go_wp2_with fail
            go_roundw
            case rel => exact ⟨k + 1, _, by omega, by go_num, K7⟩
            case measure => simp [intOf]; omega
        · obtain rfl : k = h.parts.length := by omega
          obtain ⟨A, c, rfl, hpt, hc1, hc2⟩ := own_parts HK.out.og
          have hgt : w.heap.size + 1 < gb := by have := HS.out.lt; have := HGB.out; have := HWL.out; omega
          have HKB : Hid (Blk wr gb 24 (hV (nrHul h U2) ⟨A, c⟩)) := HK.out.tb
          have HKP : Hid (HAt wr ⟨A, c⟩ (nrHul h U2)) := ⟨hpt, hc1, hc2, fun x hx => by obtain ⟨i, hi, rfl⟩ := List.mem_map.1 hx; have hi := List.mem_range.1 hi; exact HP.out.nm (pa h.parts i) (pa_mem hi)⟩
          have hm0 := hS.1
          replace hs : Since w wr := hs.keep hm0
          replace HB := Lib.hid (HB.out.keep hm0)
          replace HS := Lib.hid (HS.out.keep hm0)
          have HE2 := Lib.hid (lea_good HC.out w0 w1')
          have HE3 := Lib.hid (lea_good (nr_ok HC.out U2) w0 w1')
          have LE0 := lst_finer (nr_finer HH.out U2) 0 wt
          have LE1 := lst_finer (nr_finer HH.out U2) 1 wt
          have LE2 := lst_finer (nr_finer HH.out U2) 2 wt
          obtain ⟨u0, huu⟩ : ∃ p, lst h 0 wt = p := ⟨_, rfl⟩
          obtain ⟨u1, hvv⟩ : ∃ p, lst h 1 wt = p := ⟨_, rfl⟩
          obtain ⟨u2, hyy⟩ : ∃ p, lst h 2 wt = p := ⟨_, rfl⟩
          rw [huu, hvv, hyy] at HE2
          rw [huu] at LE0
          rw [hvv] at LE1
          rw [hyy] at LE2
          clear huu hvv hyy
          obtain ⟨y0, huu⟩ : ∃ p, lst (nrHul h U2) 0 wt = p := ⟨_, rfl⟩
          obtain ⟨y1, hvv⟩ : ∃ p, lst (nrHul h U2) 1 wt = p := ⟨_, rfl⟩
          obtain ⟨y2, hyy⟩ : ∃ p, lst (nrHul h U2) 2 wt = p := ⟨_, rfl⟩
          rw [huu, hvv, hyy] at HE3
          rw [huu] at LE0
          rw [hvv] at LE1
          rw [hyy] at LE2
          have LN0 : ¬ y0 < u0 := by omega
          have LN1 : ¬ y1 < u1 := by omega
          have LN2 : ¬ y2 < u2 := by omega
          clear huu hvv hyy LE0 LE1 LE2 HK hm0 hS hpt hc1 hc2 HGB HPX HUX
          obtain ⟨F, hF⟩ : ∃ F, nrHul h U2 = F := ⟨_, rfl⟩
          rw [hF] at HKB HKP HE3
          clear hF
          obtain ⟨HB_0, HB_1, HB_2⟩ := HB.out.hull
          go_wp2_with fail
          refine (leaC m _ (HP.out.keep hs.1) HE2.out).mono ?_
          rintro e w3 ⟨rfl, hb⟩
          replace hs := hs.keep hb
          replace HB := Lib.hid (HB.out.keep hb)
          replace HS := Lib.hid (HS.out.keep hb)
          replace HKB := Lib.hid (HKB.out.keep hb)
          replace HKP := Lib.hid (HKP.out.keep hb)
          clear hb
          clear HB_0 HB_1 HB_2
          have hq : Below w3.heap.size w3 (w3.alloc (.cells #[.int .i64 u0, .int .i64 u1, .int .i64 u2] 32)) := (Below.refl _ _).alloc (Nat.le_refl _) _
          replace hs := hs.keep hq
          replace HB := Lib.hid (HB.out.keep hq)
          replace HS := Lib.hid (HS.out.keep hq)
          replace HKB := Lib.hid (HKB.out.keep hq)
          replace HKP := Lib.hid (HKP.out.keep hq)
          have HQ1 := Lib.hid (Blk.new w3 32 #[.int .i64 u0, .int .i64 u1, .int .i64 u2])
          clear hq
          obtain ⟨HKB_0, HKB_1, HKB_2⟩ := HKB.out.hull
          go_wp2_with fail
          refine (leaC ⟨A, c⟩ _ HKP.out HE3.out).mono ?_
          rintro e w4 ⟨rfl, hb⟩
          replace hs := hs.keep hb
          replace HB := Lib.hid (HB.out.keep hb)
          replace HS := Lib.hid (HS.out.keep hb)
          replace HKB := Lib.hid (HKB.out.keep hb)
          replace HKP := Lib.hid (HKP.out.keep hb)
          replace HQ1 := Lib.hid (HQ1.out.keep hb)
          clear hb
          clear HKB_0 HKB_1 HKB_2
          obtain ⟨g1, hg1⟩ : ∃ g, w3.heap.size = g := ⟨_, rfl⟩
          rw [hg1] at HQ1 ⊢
          clear hg1
          have hq : Below w4.heap.size w4 (w4.alloc (.cells #[.int .i64 y0, .int .i64 y1, .int .i64 y2] 32)) := (Below.refl _ _).alloc (Nat.le_refl _) _
          replace hs := hs.keep hq
          replace HB := Lib.hid (HB.out.keep hq)
          replace HS := Lib.hid (HS.out.keep hq)
          replace HKB := Lib.hid (HKB.out.keep hq)
          replace HKP := Lib.hid (HKP.out.keep hq)
          replace HQ1 := Lib.hid (HQ1.out.keep hq)
          have HQ2 := Lib.hid (Blk.new w4 32 #[.int .i64 y0, .int .i64 y1, .int .i64 y2])
          clear hq
          clear HKB HKP HE2 HE3
          obtain ⟨HB_0, HB_1, HB_2⟩ := HB.out.hull
          have HQ1_0 := HQ1.out.cell 0
          have HQ1_1 := HQ1.out.cell 1
          have HQ1_2 := HQ1.out.cell 2
          simp only [List.getElem?_toArray, List.getElem?_cons_zero, List.getElem?_cons_succ] at HQ1_0 HQ1_1 HQ1_2
          have HQ2_0 := HQ2.out.cell 0
          have HQ2_1 := HQ2.out.cell 1
          have HQ2_2 := HQ2.out.cell 2
          simp only [List.getElem?_toArray, List.getElem?_cons_zero, List.getElem?_cons_succ] at HQ2_0 HQ2_1 HQ2_2
          have hq : Below (w4.alloc (.cells #[.int .i64 y0, .int .i64 y1, .int .i64 y2] 32)).heap.size (w4.alloc (.cells #[.int .i64 y0, .int .i64 y1, .int .i64 y2] 32)) ((w4.alloc (.cells #[.int .i64 y0, .int .i64 y1, .int .i64 y2] 32)).alloc (.cells (hV h m) 24)) := (Below.refl _ _).alloc (Nat.le_refl _) _
          have hs5 := hs.keep hq
          have HB5 := Lib.hid (HB.out.keep hq)
          have HS5 := Lib.hid (HS.out.keep hq)
          have HW5 := Lib.hid (Blk.new1 w4 (.cells #[.int .i64 y0, .int .i64 y1, .int .i64 y2] 32) 24 (hV h m))
          have hbl : w.heap.size < w4.heap.size + 1 ∧ gS < w4.heap.size + 1 := ⟨by have := HB.out.lt; simp at this; omega, by have := HS.out.lt; simp at this; omega⟩
          clear hq
          go_wp2_with fail
          clear HB_0 HB_1 HB_2 HQ1_0 HQ1_1 HQ1_2 HQ2_0 HQ2_1 HQ2_2
          replace hs := hs5
          replace HB := HB5
          replace HS := HS5
          clear hs5 HB5 HS5 HQ1 HQ2 LN0 LN1 LN2
          obtain ⟨gW, hgW⟩ : ∃ g, w4.heap.size + 1 = g := ⟨_, rfl⟩
          rw [hgW] at HW5 hbl ⊢
          obtain ⟨X5, hX5⟩ : ∃ X5, (w4.alloc (.cells #[.int .i64 y0, .int .i64 y1, .int .i64 y2] 32)).alloc (.cells (hV h m) 24) = X5 := ⟨_, rfl⟩
          rw [hX5] at hs HB HS HW5 ⊢
          clear hgW hX5
          have hf1 := HH.out.a0
          have hf2 := HH.out.af
          have hf3 := HH.out.f1
          have ta := turnV_bd HO.out 0
          have tb := turnV_bd HO.out 1
          obtain ⟨ra, hra⟩ : ∃ r, turnV U2 0 % (h.aft + 1) = r := ⟨_, rfl⟩
          obtain ⟨rb, hrb⟩ : ∃ r, turnV U2 1 % (5000 - h.fore + 1) = r := ⟨_, rfl⟩
          have ra0 : 0 ≤ ra := by rw [← hra]; exact Int.emod_nonneg _ (by omega)
          have ra1 : ra < h.aft + 1 := by rw [← hra]; exact Int.emod_lt_of_pos _ (by omega)
          have rb0 : 0 ≤ rb := by rw [← hrb]; exact Int.emod_nonneg _ (by omega)
          have rb1 : rb < 5000 - h.fore + 1 := by rw [← hrb]; exact Int.emod_lt_of_pos _ (by omega)
          have HT1 := Lib.hid (fun W (hS : Since w W) => turn_c P2 U2 pc2 0 W (by omega) (HU.out.keep hS.1) HO.out)
          have HT2 := Lib.hid (fun W (hS : Since w W) => turn_c P2 U2 pc2 1 W (by omega) (HU.out.keep hS.1) HO.out)
          obtain ⟨tva, htva⟩ : ∃ t, turnV U2 0 = t := ⟨_, rfl⟩
          obtain ⟨tvb, htvb⟩ : ∃ t, turnV U2 1 = t := ⟨_, rfl⟩
          rw [htva] at hra ta HT1
          rw [htvb] at hrb tb HT2
          have e1 : IntKind.i64.wrap (h.aft + 1) = h.aft + 1 := IntWalk.i64_in _ (by omega)
          have e2 : tva.tmod (h.aft + 1) = ra := by rw [Int.tmod_eq_emod_of_nonneg ta.1]; exact hra
          have e3 : IntKind.i64.wrap ra = ra := IntWalk.i64_in _ (by omega)
          have e4 : IntKind.i64.wrap (h.aft - ra) = h.aft - ra := IntWalk.i64_in _ (by omega)
          have e5 : IntKind.i64.wrap (5000 - h.fore) = 5000 - h.fore := IntWalk.i64_in _ (by omega)
          have e6 : IntKind.i64.wrap (5000 - h.fore + 1) = 5000 - h.fore + 1 := IntWalk.i64_in _ (by omega)
          have e7 : tvb.tmod (5000 - h.fore + 1) = rb := by rw [Int.tmod_eq_emod_of_nonneg tb.1]; exact hrb
          have e8 : IntKind.i64.wrap rb = rb := IntWalk.i64_in _ (by omega)
          have e9 : IntKind.i64.wrap (h.fore + rb) = h.fore + rb := IntWalk.i64_in _ (by omega)
          have n1 : ((h.aft + 1) == 0) = false := by rw [beq_eq_false_iff_ne]; omega
          have n2 : h.aft + 1 ≠ 0 := by omega
          have n3 : ((5000 - h.fore + 1) == 0) = false := by rw [beq_eq_false_iff_ne]; omega
          have n4 : 5000 - h.fore + 1 ≠ 0 := by omega
          have E1 := Lib.hid e1
          have E2 := Lib.hid e2
          have E3 := Lib.hid e3
          have E4 := Lib.hid e4
          have E5 := Lib.hid e5
          have E6 := Lib.hid e6
          have E7 := Lib.hid e7
          have E8 := Lib.hid e8
          have E9 := Lib.hid e9
          have N1 := Lib.hid n1
          have N2 := Lib.hid n2
          have N3 := Lib.hid n3
          have N4 := Lib.hid n4
          have ra2 : h.aft - ra ≤ h.aft := by omega
          have rb2 : h.fore ≤ h.fore + rb := by omega
          have ra3 : 0 ≤ h.aft - ra := by omega
          have rb3 : h.fore + rb ≤ 5000 := by omega
          have HWC := Lib.hid (wid_ok HC.out ra3 ra2 rb2 rb3)
          have HWF : Hid ((fall h lo hi).2 = 0 → (fall (widH h (h.aft - ra) (h.fore + rb)) lo hi).2 = 0) := fall_wid (fun x hx => ⟨(HH.out.ps x hx).w01, (HH.out.ps x hx).l01⟩) ra2 rb2
          clear e1 e2 e3 e4 e5 e6 e7 e8 e9 n1 n2 n3 n4 hra hrb ta tb htva htvb hf1 hf2 hf3 ra0 ra1 rb0 rb1 ra2 ra3 rb2 rb3
          have HWD : Hid (Wd w [(w.heap.size, 24, hV h m), (gS, 48, #[.int .i64 lo, .int .i64 hi])] gW (.slice m.A h.parts.length m.c) h.aft h.fore (h.aft - ra) (h.fore + rb) none none X5) := ⟨hs, fun b hb => by simp only [List.mem_cons, List.not_mem_nil, or_false] at hb; rcases hb with rfl | rfl; exact HB.out; exact HS.out, fun b hb => by simp only [List.mem_cons, List.not_mem_nil, or_false] at hb; rcases hb with rfl | rfl; (show gW ≠ w.heap.size; omega); (show gW ≠ gS; omega), HW5.out, by omega⟩
          go_wp2_with fail
          refine Vals9.region (fun σ Z => Wd w [(w.heap.size, 24, hV h m), (gS, 48, #[.int .i64 lo, .int .i64 hi])] gW (.slice m.A h.parts.length m.c) h.aft h.fore (h.aft - ra) (h.fore + rb) (σ 20) (σ 22) Z) [some 109, some 110, some 111, some 112, some 113, some 114, some 115, some 116, some 117, some 118, some 119, some 120, some 121, some 122, some 123, some 124, some 125, some 126, some 127, some 128, none, some 129, none] [.is ?_, .is ?_, .is ?_, .is (.int .i64 tva), .is ?_, .is ?_, .is (.int .i64 (h.aft + 1)), .is (.int .i64 ra), .is (.int .i64 (h.aft - ra)), .is ?_, .is ?_, .is ?_, .is (.int .i64 tvb), .is ?_, .is ?_, .is (.int .i64 (5000 - h.fore)), .is (.int .i64 (5000 - h.fore + 1)), .is (.int .i64 rb), .is (.int .i64 (h.fore + rb)), .is ?_, .any, .is ?_, .any] (by kernel_rfl) (by kernel_rfl) (by kernel_rfl) (by kernel_rfl) (by kernel_rfl) (by kernel_rfl) (⟨HWD.out.sn.drew, (fun b hb => (HWD.out.bl b hb).drew), HWD.out.ne, HWD.out.wb.drew, HWD.out.wl⟩) ?hsteps ?hfin
          case hsteps =>
            refine Vals9.Steps.run rfl ?_ ?_
            · intro a W σ hJ pre K hK
              have e3 := pre.2.2 3 _ (by kernel_rfl) rfl
              clear pre
              simp only [Array.getD_eq_getD_getElem?, List.getElem?_toArray, List.getElem?_cons_zero, List.getElem?_cons_succ, Option.getD_some] at e3
              go_simp
              exact hK _ hJ
            refine Vals9.Steps.run rfl ?_ ?_
            · intro a W σ hJ pre K hK
              have e109 := pre.1 0 109 _ (by kernel_rfl) rfl rfl
              clear pre
              simp only [Array.getD_eq_getD_getElem?, List.getElem?_toArray, List.getElem?_cons_zero, List.getElem?_cons_succ, Option.getD_some] at e109
              have hJ2 : Wd w [(w.heap.size, 24, hV h m), (gS, 48, #[.int .i64 lo, .int .i64 hi])] gW (.slice m.A h.parts.length m.c) h.aft h.fore (h.aft - ra) (h.fore + rb) (σ 20) (σ 22) W := hJ
              obtain ⟨c0, c1, c2⟩ := (show Blk W w.heap.size 24 (hV h m) from hJ2.bl (w.heap.size, 24, hV h m) (by simp)).hull
              go_simp
              exact hK _ hJ
            refine Vals9.Steps.run rfl ?_ ?_
            · intro a W σ hJ pre K hK
              have e2 := pre.2.2 2 _ (by kernel_rfl) rfl
              clear pre
              simp only [Array.getD_eq_getD_getElem?, List.getElem?_toArray, List.getElem?_cons_zero, List.getElem?_cons_succ, Option.getD_some] at e2
              go_simp
              exact hK _ hJ
            refine Vals9.Steps.run rfl ?_ ?_
            · intro a W σ hJ pre K hK
              have e111 := pre.1 2 111 _ (by kernel_rfl) rfl rfl
              clear pre
              simp only [Array.getD_eq_getD_getElem?, List.getElem?_toArray, List.getElem?_cons_zero, List.getElem?_cons_succ, Option.getD_some] at e111
              have hJ2 : Wd w [(w.heap.size, 24, hV h m), (gS, 48, #[.int .i64 lo, .int .i64 hi])] gW (.slice m.A h.parts.length m.c) h.aft h.fore (h.aft - ra) (h.fore + rb) (σ 20) (σ 22) W := hJ
              have hC := HT1.out W hJ2.sn
              go_simp
              refine hC.mono ?_
              rintro e w' ⟨rfl, rfl⟩
              exact hK _ hJ
            refine Vals9.Steps.run rfl ?_ ?_
            · intro a W σ hJ pre K hK
              have e3 := pre.2.2 3 _ (by kernel_rfl) rfl
              clear pre
              simp only [Array.getD_eq_getD_getElem?, List.getElem?_toArray, List.getElem?_cons_zero, List.getElem?_cons_succ, Option.getD_some] at e3
              go_simp
              exact hK _ hJ
            refine Vals9.Steps.run rfl ?_ ?_
            · intro a W σ hJ pre K hK
              have e113 := pre.1 4 113 _ (by kernel_rfl) rfl rfl
              clear pre
              simp only [Array.getD_eq_getD_getElem?, List.getElem?_toArray, List.getElem?_cons_zero, List.getElem?_cons_succ, Option.getD_some] at e113
              have hJ2 : Wd w [(w.heap.size, 24, hV h m), (gS, 48, #[.int .i64 lo, .int .i64 hi])] gW (.slice m.A h.parts.length m.c) h.aft h.fore (h.aft - ra) (h.fore + rb) (σ 20) (σ 22) W := hJ
              obtain ⟨c0, c1, c2⟩ := (show Blk W w.heap.size 24 (hV h m) from hJ2.bl (w.heap.size, 24, hV h m) (by simp)).hull
              go_simp
              exact hK _ hJ
            refine Vals9.Steps.run rfl ?_ ?_
            · intro a W σ hJ pre K hK
              have e114 := pre.1 5 114 _ (by kernel_rfl) rfl rfl
              clear pre
              simp only [Array.getD_eq_getD_getElem?, List.getElem?_toArray, List.getElem?_cons_zero, List.getElem?_cons_succ, Option.getD_some] at e114
              have x0 := E1.out
              go_simp
              exact hK _ hJ
            refine Vals9.Steps.run rfl ?_ ?_
            · intro a W σ hJ pre K hK
              have e112 := pre.1 3 112 _ (by kernel_rfl) rfl rfl
              have e115 := pre.1 6 115 _ (by kernel_rfl) rfl rfl
              clear pre
              simp only [Array.getD_eq_getD_getElem?, List.getElem?_toArray, List.getElem?_cons_zero, List.getElem?_cons_succ, Option.getD_some] at e112 e115
              have x0 := E2.out
              have x1 := E3.out
              have x2 := N1.out
              have x3 := N2.out
              go_simp
              exact hK _ hJ
            refine Vals9.Steps.run rfl ?_ ?_
            · intro a W σ hJ pre K hK
              have e110 := pre.1 1 110 _ (by kernel_rfl) rfl rfl
              have e116 := pre.1 7 116 _ (by kernel_rfl) rfl rfl
              clear pre
              simp only [Array.getD_eq_getD_getElem?, List.getElem?_toArray, List.getElem?_cons_zero, List.getElem?_cons_succ, Option.getD_some] at e110 e116
              have x0 := E4.out
              go_simp
              exact hK _ hJ
            refine Vals9.Steps.run rfl ?_ ?_
            · intro a W σ hJ pre K hK
              have e3 := pre.2.2 3 _ (by kernel_rfl) rfl
              clear pre
              simp only [Array.getD_eq_getD_getElem?, List.getElem?_toArray, List.getElem?_cons_zero, List.getElem?_cons_succ, Option.getD_some] at e3
              go_simp
              exact hK _ hJ
            refine Vals9.Steps.run rfl ?_ ?_
            · intro a W σ hJ pre K hK
              have e118 := pre.1 9 118 _ (by kernel_rfl) rfl rfl
              clear pre
              simp only [Array.getD_eq_getD_getElem?, List.getElem?_toArray, List.getElem?_cons_zero, List.getElem?_cons_succ, Option.getD_some] at e118
              have hJ2 : Wd w [(w.heap.size, 24, hV h m), (gS, 48, #[.int .i64 lo, .int .i64 hi])] gW (.slice m.A h.parts.length m.c) h.aft h.fore (h.aft - ra) (h.fore + rb) (σ 20) (σ 22) W := hJ
              obtain ⟨c0, c1, c2⟩ := (show Blk W w.heap.size 24 (hV h m) from hJ2.bl (w.heap.size, 24, hV h m) (by simp)).hull
              go_simp
              exact hK _ hJ
            refine Vals9.Steps.run rfl ?_ ?_
            · intro a W σ hJ pre K hK
              have e2 := pre.2.2 2 _ (by kernel_rfl) rfl
              clear pre
              simp only [Array.getD_eq_getD_getElem?, List.getElem?_toArray, List.getElem?_cons_zero, List.getElem?_cons_succ, Option.getD_some] at e2
              go_simp
              exact hK _ hJ
            refine Vals9.Steps.run rfl ?_ ?_
            · intro a W σ hJ pre K hK
              have e120 := pre.1 11 120 _ (by kernel_rfl) rfl rfl
              clear pre
              simp only [Array.getD_eq_getD_getElem?, List.getElem?_toArray, List.getElem?_cons_zero, List.getElem?_cons_succ, Option.getD_some] at e120
              have hJ2 : Wd w [(w.heap.size, 24, hV h m), (gS, 48, #[.int .i64 lo, .int .i64 hi])] gW (.slice m.A h.parts.length m.c) h.aft h.fore (h.aft - ra) (h.fore + rb) (σ 20) (σ 22) W := hJ
              have hC := HT2.out W hJ2.sn
              go_simp
              refine hC.mono ?_
              rintro e w' ⟨rfl, rfl⟩
              exact hK _ hJ
            refine Vals9.Steps.run rfl ?_ ?_
            · intro a W σ hJ pre K hK
              have e3 := pre.2.2 3 _ (by kernel_rfl) rfl
              clear pre
              simp only [Array.getD_eq_getD_getElem?, List.getElem?_toArray, List.getElem?_cons_zero, List.getElem?_cons_succ, Option.getD_some] at e3
              go_simp
              exact hK _ hJ
            refine Vals9.Steps.run rfl ?_ ?_
            · intro a W σ hJ pre K hK
              have e122 := pre.1 13 122 _ (by kernel_rfl) rfl rfl
              clear pre
              simp only [Array.getD_eq_getD_getElem?, List.getElem?_toArray, List.getElem?_cons_zero, List.getElem?_cons_succ, Option.getD_some] at e122
              have hJ2 : Wd w [(w.heap.size, 24, hV h m), (gS, 48, #[.int .i64 lo, .int .i64 hi])] gW (.slice m.A h.parts.length m.c) h.aft h.fore (h.aft - ra) (h.fore + rb) (σ 20) (σ 22) W := hJ
              obtain ⟨c0, c1, c2⟩ := (show Blk W w.heap.size 24 (hV h m) from hJ2.bl (w.heap.size, 24, hV h m) (by simp)).hull
              go_simp
              exact hK _ hJ
            refine Vals9.Steps.run rfl ?_ ?_
            · intro a W σ hJ pre K hK
              have e123 := pre.1 14 123 _ (by kernel_rfl) rfl rfl
              clear pre
              simp only [Array.getD_eq_getD_getElem?, List.getElem?_toArray, List.getElem?_cons_zero, List.getElem?_cons_succ, Option.getD_some] at e123
              have x0 := E5.out
              go_simp
              exact hK _ hJ
            refine Vals9.Steps.run rfl ?_ ?_
            · intro a W σ hJ pre K hK
              have e124 := pre.1 15 124 _ (by kernel_rfl) rfl rfl
              clear pre
              simp only [Array.getD_eq_getD_getElem?, List.getElem?_toArray, List.getElem?_cons_zero, List.getElem?_cons_succ, Option.getD_some] at e124
              have x0 := E6.out
              go_simp
              exact hK _ hJ
            refine Vals9.Steps.run rfl ?_ ?_
            · intro a W σ hJ pre K hK
              have e121 := pre.1 12 121 _ (by kernel_rfl) rfl rfl
              have e125 := pre.1 16 125 _ (by kernel_rfl) rfl rfl
              clear pre
              simp only [Array.getD_eq_getD_getElem?, List.getElem?_toArray, List.getElem?_cons_zero, List.getElem?_cons_succ, Option.getD_some] at e121 e125
              have x0 := E7.out
              have x1 := E8.out
              have x2 := N3.out
              have x3 := N4.out
              go_simp
              exact hK _ hJ
            refine Vals9.Steps.run rfl ?_ ?_
            · intro a W σ hJ pre K hK
              have e119 := pre.1 10 119 _ (by kernel_rfl) rfl rfl
              have e126 := pre.1 17 126 _ (by kernel_rfl) rfl rfl
              clear pre
              simp only [Array.getD_eq_getD_getElem?, List.getElem?_toArray, List.getElem?_cons_zero, List.getElem?_cons_succ, Option.getD_some] at e119 e126
              have x0 := E9.out
              go_simp
              exact hK _ hJ
            refine Vals9.Steps.run rfl ?_ ?_
            · intro a W σ hJ pre K hK
              have e16 := pre.2.2 16 _ (by kernel_rfl) rfl
              clear pre
              simp only [Array.getD_eq_getD_getElem?, List.getElem?_toArray, List.getElem?_cons_zero, List.getElem?_cons_succ, Option.getD_some] at e16
              go_simp
              exact hK _ hJ
            refine Vals9.Steps.mark rfl ?_ ?_
            · intro a W σ hJ hn pre K hK
              have e117 := pre.1 8 117 _ (by kernel_rfl) rfl rfl
              have e128 := pre.1 19 128 _ (by kernel_rfl) rfl rfl
              simp only [Array.getD_eq_getD_getElem?, List.getElem?_toArray, List.getElem?_cons_zero, List.getElem?_cons_succ, Option.getD_some] at e117 e128
              have hJ2 : Wd w [(w.heap.size, 24, hV h m), (gS, 48, #[.int .i64 lo, .int .i64 hi])] gW (.slice m.A h.parts.length m.c) h.aft h.fore (h.aft - ra) (h.fore + rb) (σ 20) (σ 22) W := hJ
              rw [hn] at hJ2
              obtain ⟨⟨_, p1⟩, f1, hz⟩ := hJ2.putA undef
              have hfin := hK undef _ hz
              clear hK hz hJ2 hJ pre
              go_simp
              exact hfin
            refine Vals9.Steps.run rfl ?_ ?_
            · intro a W σ hJ pre K hK
              have e16 := pre.2.2 16 _ (by kernel_rfl) rfl
              clear pre
              simp only [Array.getD_eq_getD_getElem?, List.getElem?_toArray, List.getElem?_cons_zero, List.getElem?_cons_succ, Option.getD_some] at e16
              go_simp
              exact hK _ hJ
            refine Vals9.Steps.mark rfl ?_ ?_
            · intro a W σ hJ hn pre K hK
              have e127 := pre.1 18 127 _ (by kernel_rfl) rfl rfl
              have e129 := pre.1 21 129 _ (by kernel_rfl) rfl rfl
              simp only [Array.getD_eq_getD_getElem?, List.getElem?_toArray, List.getElem?_cons_zero, List.getElem?_cons_succ, Option.getD_some] at e127 e129
              have hJ2 : Wd w [(w.heap.size, 24, hV h m), (gS, 48, #[.int .i64 lo, .int .i64 hi])] gW (.slice m.A h.parts.length m.c) h.aft h.fore (h.aft - ra) (h.fore + rb) (σ 20) (σ 22) W := hJ
              rw [hn] at hJ2
              obtain ⟨⟨_, p1⟩, f1, hz⟩ := hJ2.putB undef
              have hfin := hK undef _ hz
              clear hK hz hJ2 hJ pre
              go_simp
              exact hfin
            exact Vals9.Steps.nil
          case hfin =>
            rintro Y σ hJ
            simp only [Vals9.All]
            rintro v20 s20 v22 s22
            simp only [Vals.putAll, List.setIfInBounds_toArray, List.set_cons_zero, List.set_cons_succ]
            have hJ2 : Wd w [(w.heap.size, 24, hV h m), (gS, 48, #[.int .i64 lo, .int .i64 hi])] gW (.slice m.A h.parts.length m.c) h.aft h.fore (h.aft - ra) (h.fore + rb) (σ 20) (σ 22) Y := hJ
            rw [s20, s22] at hJ2
            have hs2 := hJ2.sn
            have HB2 := Lib.hid (show Blk Y w.heap.size 24 (hV h m) from hJ2.bl (w.heap.size, 24, hV h m) (by simp))
            have HS2 := Lib.hid (show Blk Y gS 48 #[.int .i64 lo, .int .i64 hi] from hJ2.bl (gS, 48, #[.int .i64 lo, .int .i64 hi]) (by simp))
            have HWB : Hid (Blk Y gW 24 (hV (widH h (h.aft - ra) (h.fore + rb)) m)) := hJ2.wb
            have HWP : Hid (HAt w m (widH h (h.aft - ra) (h.fore + rb))) := ⟨HP.out.ps, HP.out.pc, HP.out.cM, HP.out.nm⟩
            clear hJ hJ2 HWD HT1 HT2 HW5 E1 E2 E3 E4 E5 E6 E7 E8 E9 N1 N2 N3 N4 s20 s22
            replace hs := hs2
            replace HB := HB2
            replace HS := HS2
            clear hs2 HB2 HS2
            have HY1 := Lib.hid (why_good2 HC.out i0 i1 i2)
            have HY2 := Lib.hid (why_good2 HWC.out i0 i1 i2)
            obtain ⟨F2, hF2⟩ : ∃ F2, widH h (h.aft - ra) (h.fore + rb) = F2 := ⟨_, rfl⟩
            rw [hF2] at HWB HWP HY2 HWF
            obtain ⟨⟨v1, y1⟩, hf1⟩ : ∃ q, fall h lo hi = q := ⟨_, rfl⟩
            obtain ⟨⟨v2, y2⟩, hf2⟩ : ∃ q, fall F2 lo hi = q := ⟨_, rfl⟩
            rw [hf1] at HY1 HWF
            rw [hf2] at HY2 HWF
            replace HWF : Hid (y1 = 0 → y2 = 0) := HWF
            clear hf1 hf2 hF2
            obtain ⟨HB_0, HB_1, HB_2⟩ := HB.out.hull
            have HS_0 := HS.out.cell 0
            have HS_1 := HS.out.cell 1
            simp only [List.getElem?_toArray, List.getElem?_cons_zero, List.getElem?_cons_succ] at HS_0 HS_1
            go_wp2_with fail
            have k1 := Why_c h m lo hi _ (HP.out.keep hs.1)
            rw [HY1.out] at k1
            refine (k1).mono ?_
            rintro e w6 ⟨rfl, hb⟩
            replace hs := hs.keep hb
            replace HB := Lib.hid (HB.out.keep hb)
            replace HS := Lib.hid (HS.out.keep hb)
            replace HWB := Lib.hid (HWB.out.keep hb)
            clear hb
            clear HB_0 HB_1 HB_2 HS_0 HS_1
            clear k1
            have HS_0 := HS.out.cell 0
            have HS_1 := HS.out.cell 1
            simp only [List.getElem?_toArray, List.getElem?_cons_zero, List.getElem?_cons_succ] at HS_0 HS_1
            obtain ⟨HWB_0, HWB_1, HWB_2⟩ := HWB.out.hull
            go_wp2_with fail
            have k1 := Why_c F2 m lo hi _ (HWP.out.keep hs.1)
            rw [HY2.out] at k1
            refine (k1).mono ?_
            rintro e w7 ⟨rfl, hb⟩
            replace hs := hs.keep hb
            replace HB := Lib.hid (HB.out.keep hb)
            replace HS := Lib.hid (HS.out.keep hb)
            replace HWB := Lib.hid (HWB.out.keep hb)
            clear hb
            clear HS_0 HS_1 HWB_0 HWB_1 HWB_2
            clear k1
            by_cases hy1 : y1 = 0
            · have hy2 := HWF.out hy1
              subst hy1 hy2
              go_wp2_with fail
              refine (awake_c _).mono ?_
              rintro e w9 ⟨rfl, hb⟩
              replace hs := hs.keep hb
              go_wp2_with fail
              go_ret
              exact ⟨rfl, hs.1⟩
            · have hyn : (y1 != 0) = true := by simpa using hy1
              clear hy1
              go_wp2_with fail
              refine (awake_c _).mono ?_
              rintro e w9 ⟨rfl, hb⟩
              replace hs := hs.keep hb
              go_wp2_with fail
              go_ret
              exact ⟨rfl, hs.1⟩
  · rw [decide_eq_false hc]
    clear hc
    go_wp2_with fail
    refine (awake_c _).mono ?_
    rintro e w9 ⟨rfl, hb⟩
    replace hs := hs.keep hb
    go_wp2_with fail
    go_ret
    exact ⟨rfl, hs.1⟩
end Td
end Go.Proofs.Ythdcklonamgpiaa
