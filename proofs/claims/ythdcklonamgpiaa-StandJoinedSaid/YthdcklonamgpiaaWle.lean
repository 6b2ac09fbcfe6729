import Derived.Test.YthdcklonamgpiaaBrs
import Derived.Test.YthdcklonamgpiaaMathE
/- The law StandLeast: what it returns. -/
namespace Go.Proofs.Ythdcklonamgpiaa
open Go.RowKit
namespace Td
set_option linter.unusedSimpArgs false
set_option linter.unusedVariables false
attribute [local go_sem] Oper.semAt_some
/-- where a region stands that draws a truth, hands it to a call, and puts what this returns into a new struct. -/
structure Pb (w : World) (L : List (Nat × TypeId × Array Value)) (t : TypeId) (z cs : Array Value) (gs ls : List Int) (V : Value) (oT oB oN oW : Option Value) (X : World) : Prop where
  sn : Since w X
  bl : ∀ b ∈ L, Blk X b.1 b.2.1 b.2.2
  tr : oB = none → ∀ v, oT = some v → Tv 0 X v gs ls
  bv : ∀ v, oB = some v → v = V
  nw : ∀ v, oN = some v → ∃ g, v = .pointer (some ⟨g, 0, none⟩) ∧ w.heap.size ≤ g ∧ (∀ b ∈ L, b.1 < g) ∧ (oW = none → Blk X g t z) ∧ (oW ≠ none → Blk X g t cs)
  wn : oW ≠ none → oB ≠ none ∧ oN ≠ none
section
variable {w : World} {L : List (Nat × TypeId × Array Value)} {t : TypeId} {z cs : Array Value} {gs ls : List Int} {V : Value} {oT oB oN oW : Option Value} {X X' : World}
theorem Pb.keep (h : Pb w L t z cs gs ls V oT oB oN oW X) (hb : Below X.heap.size X X') : Pb w L t z cs gs ls V oT oB oN oW X' :=
  ⟨h.sn.keep hb, fun b q => (h.bl b q).keep hb, fun k v hv => (h.tr k v hv).keep hb, h.bv, fun v hv => by
    obtain ⟨g, e, e0, e1, e2, e3⟩ := h.nw v hv
    exact ⟨g, e, e0, e1, fun k => (e2 k).keep hb, fun k => (e3 k).keep hb⟩, h.wn⟩
theorem Pb.truth (h : Pb w L t z cs gs ls V none oB oN oW X) {v : Value} (hv : Tv 0 X v gs ls) : Pb w L t z cs gs ls V (some v) oB oN oW X :=
  ⟨h.sn, h.bl, fun _ u e => by cases e; exact hv, h.bv, h.nw, h.wn⟩
theorem Pb.call (h : Pb w L t z cs gs ls V oT none oN oW X) : Pb w L t z cs gs ls V oT (some V) oN oW X :=
  ⟨h.sn, h.bl, fun k => (by cases k), fun v e => by cases e; rfl, h.nw, fun k => absurd rfl (h.wn k).1⟩
theorem Pb.made (h : Pb w L t z cs gs ls V oT oB none oW X) : Pb w L t z cs gs ls V oT oB (some (.pointer (some ⟨X.heap.size, 0, none⟩))) oW (X.alloc (.cells z t)) := by
  have h2 := h.keep ((Below.refl _ _).alloc (Nat.le_refl _) (.cells z t))
  have hw : oW = none := by
    cases e : oW with
    | none => rfl
    | some q => exact absurd rfl (h.wn (by rw [e]; exact fun e => by cases e)).2
  exact ⟨h2.sn, h2.bl, h2.tr, h2.bv, fun v hv => ⟨_, (Option.some.inj hv).symm, h.sn.2, fun b hb => (h.bl b hb).lt, fun _ => Blk.new _ _ _, fun k => absurd hw k⟩, fun k => absurd hw k⟩
theorem Pb.put {b n : Value} (h : Pb w L t z cs gs ls V oT (some b) (some n) none X) (u : Value) : ∃ g, n = .pointer (some ⟨g, 0, none⟩) ∧ Blk X g t z ∧ Pb w L t z cs gs ls V oT (some b) (some n) (some u) (X.setRow g cs) := by
  obtain ⟨g, e, e0, e1, e2, e3⟩ := h.nw n rfl
  have hb := e2 rfl
  exact ⟨g, e, hb, h.sn.row e0 cs, fun q hq => (h.bl q hq).rowFar (by have := e1 q hq; omega) cs, fun k => (by cases k), h.bv, fun v hv => ⟨g, (Option.some.inj hv).symm.trans e, e0, e1, fun k => (by cases k), fun _ => hb.row cs⟩, fun _ => ⟨fun e => (by cases e), fun e => (by cases e)⟩⟩
theorem Pb.end_ {b n u : Value} (h : Pb w L t z cs gs ls V oT (some b) (some n) (some u) X) : ∃ g, n = .pointer (some ⟨g, 0, none⟩) ∧ (∀ q ∈ L, q.1 < g) ∧ Blk X g t cs := by
  obtain ⟨g, e, e0, e1, e2, e3⟩ := h.nw n rfl
  exact ⟨g, e, e1, e3 (fun e => by cases e)⟩
end
/-- slice literals of two numbers, and an address of each. -/
structure Lq (w : World) (L : List (Nat × TypeId × Array Value)) (a b c d : Int) (i j : Nat) (oA oX oB oY : Option Value) (X : World) : Prop where
  sn : Since w X
  bl : ∀ b ∈ L, Blk X b.1 b.2.1 b.2.2
  la : ∀ v, oA = some v → ∃ g, v = .slice (some ⟨g, 0, none⟩) 2 2 ∧ Blk X g 3 #[.int .i64 a, .int .i64 b]
  xa : ∀ v, oX = some v → ∃ g, v = .pointer (some ⟨g, i, none⟩) ∧ Blk X g 3 #[.int .i64 a, .int .i64 b]
  lb : ∀ v, oB = some v → ∃ g, v = .slice (some ⟨g, 0, none⟩) 2 2 ∧ Blk X g 3 #[.int .i64 c, .int .i64 d]
  xb : ∀ v, oY = some v → ∃ g, v = .pointer (some ⟨g, j, none⟩) ∧ Blk X g 3 #[.int .i64 c, .int .i64 d]
theorem Lq.keep {w : World} {L : List (Nat × TypeId × Array Value)} {a b c d : Int} {i j : Nat} {oA oX oB oY : Option Value} {X X' : World} (h : Lq w L a b c d i j oA oX oB oY X) (hb : Below X.heap.size X X') : Lq w L a b c d i j oA oX oB oY X' :=
  ⟨h.sn.keep hb, fun b q => (h.bl b q).keep hb, fun v hv => (by obtain ⟨g, e, k⟩ := h.la v hv; exact ⟨g, e, k.keep hb⟩), fun v hv => (by obtain ⟨g, e, k⟩ := h.xa v hv; exact ⟨g, e, k.keep hb⟩), fun v hv => (by obtain ⟨g, e, k⟩ := h.lb v hv; exact ⟨g, e, k.keep hb⟩), fun v hv => (by obtain ⟨g, e, k⟩ := h.xb v hv; exact ⟨g, e, k.keep hb⟩)⟩
theorem endV_bd {h : Hul} (hh : HBk h) {x : Prt} (hx : PBk x) (k : Nat) {w : Int} (h0 : 0 ≤ w) (h1 : w ≤ 1000) (e : Nat) : -25000000000 ≤ endV h.aft h.fore k x w e ∧ endV h.aft h.fore k x w e ≤ 25000000000 := by
  have := hx.w0; have := hx.w01; have := hx.w1; have := hx.l0; have := hx.l01; have := hx.l1
  have := hh.a0; have := hh.af; have := hh.f1
  unfold endV
  obtain ⟨p0, p1⟩ := prs_bd (x := x) (g := if e % 2 = 0 then x.w0 else x.w1) (l := if e / 2 = 0 then x.l0 else x.l1) (w := w) (by split <;> omega) (by split <;> omega) (by split <;> omega) (by split <;> omega) hx h0 h1
  exact adds_bd k hx (by omega) (by omega) (by omega) (by omega) p0 p1
theorem lendV_bd {h : Hul} (hh : HBk h) {x : Prt} (hx : PBk x) (k : Nat) {w : Int} (h0 : 0 ≤ w) (h1 : w ≤ 1000) (e : Nat) : -25000000000 ≤ lendV h.aft h.fore k x w e ∧ lendV h.aft h.fore k x w e ≤ 25000000000 := by
  obtain ⟨i, _, h2⟩ := lendV_mem h.aft h.fore k x w e
  rw [h2]
  exact endV_bd hh hx k h0 h1 i
def lsum (h : Hul) (s : Nat) (w : Int) (k : Nat) : Int := sm (fun i => lendV h.aft h.fore s (pa h.parts i) w 3) k
theorem lsum_bd {h : Hul} (hh : HBk h) (s : Nat) {w : Int} (h0 : 0 ≤ w) (h1 : w ≤ 1000) {k : Nat} (hk : k ≤ h.parts.length) : -250000000000 ≤ lsum h s w k ∧ lsum h s w k ≤ 250000000000 := by
  have h2 := sm_bd (f := fun i => lendV h.aft h.fore s (pa h.parts i) w 3) (B := 25000000000) (n := k) fun i hi => lendV_bd hh (hh.ps _ (pa_mem (by omega))) s h0 h1 3
  have := hh.n10
  unfold lsum
  omega
theorem lsum_end {h : Hul} (hh : HBk h) (s : Nat) (w : Int) : lsum h s w h.parts.length = lst h s w := (lst_ends (fun x hx => ⟨(hh.ps x hx).w01, (hh.ps x hx).l01⟩) s w).symm
set_option maxRecDepth 100000 in
set_option maxHeartbeats 8000000 in
theorem standLeast_c (h : Hul) (m : Sl) (a0 a1 aw : Nat) (P : Option Addr) (U : List Int) (pc : Nat) (w : World) (hp : HAt w m h) (hu : U32At w P U) (ho : U32Ok U) (b2 : aw ≤ 65535) :
    Calls Try.prog 10 #[.agg (hV h m), .agg (xV a0 a1 aw P U.length pc)] w fun e w' => e = .returned (.bool true) ∧ Below w.heap.size w w' := by
  have hs := ((Since.refl w).alloc (.cells (hV h m) 24)).alloc (.cells (xV a0 a1 aw P U.length pc) 63)
  have HB := Lib.hid ((Blk.new w 24 (hV h m)).alloc (.cells (xV a0 a1 aw P U.length pc) 63))
  have HX := Lib.hid (Blk.new1 w (.cells (hV h m) 24) 63 (xV a0 a1 aw P U.length pc))
  have HP := Lib.hid hp
  have HU := Lib.hid hu
  have HO := Lib.hid ho
  clear hp hu ho
  obtain ⟨wt, hwt⟩ : ∃ wt, (aw : Int) % 1001 = wt := ⟨_, rfl⟩
  have w0 : 0 ≤ wt := by rw [← hwt]; exact Int.emod_nonneg _ (by decide)
  have w1' : wt ≤ 1000 := by have := Int.emod_lt_of_pos (aw : Int) (show (0 : Int) < 1001 by decide); omega
  have eA : IntKind.i64.wrap (aw : Int) = aw := IntWalk.i64_in _ (by omega)
  have eR : (aw : Int).tmod 1001 = wt := by rw [Int.tmod_eq_emod_of_nonneg (by omega)]; exact hwt
  have eW : IntKind.i64.wrap wt = wt := IntWalk.i64_in _ (by omega)
  clear hwt
  obtain ⟨c0, c1, c2⟩ := HB.out.hull
  have x2 := HX.out.cell 2
  simp only [List.getElem?_toArray, List.getElem?_cons_zero, List.getElem?_cons_succ] at x2
  go_enter Try.func10, Try.ntmps10
  go_wp2_with fail
  clear eA eR eW
  have k1 := Least_c h m wt _ (HP.out.keep hs.1)
  obtain ⟨⟨⟨l0, l1, l2⟩, le⟩, hi_⟩ : ∃ q, leastA h wt = q := ⟨_, rfl⟩
  have HI := Lib.hid hi_
  rw [hi_] at k1
  clear hi_
  refine k1.mono ?_
  rintro e w1 ⟨rfl, hb⟩
  replace hs := hs.keep hb
  replace HB := Lib.hid (HB.out.keep hb)
  replace HX := Lib.hid (HX.out.keep hb)
  clear hb c0 c1 c2 x2 k1
  have hlw : w.heap.size + 1 < w1.heap.size := HX.out.lt
  have hq : Below w1.heap.size w1 (w1.alloc (.cells #[.int .i64 l0, .int .i64 l1, .int .i64 l2] 32)) := (Below.refl _ _).alloc (Nat.le_refl _) _
  replace hs := hs.keep hq
  replace HB := Lib.hid (HB.out.keep hq)
  replace HX := Lib.hid (HX.out.keep hq)
  have HQ := Lib.hid (Blk.new w1 32 #[.int .i64 l0, .int .i64 l1, .int .i64 l2])
  clear hq
  obtain ⟨c0, c1, c2⟩ := HB.out.hull
  go_wp2_with fail
  refine (valid_c h m _ (HP.out.keep hs.1)).mono ?_
  rintro e w2 ⟨rfl, hb⟩
  obtain ⟨gq, hgq⟩ : ∃ g, w1.heap.size = g := ⟨_, rfl⟩
  rw [hgq] at HQ hlw ⊢
  replace hs := hs.keep hb
  replace HB := Lib.hid (HB.out.keep hb)
  replace HX := Lib.hid (HX.out.keep hb)
  replace HQ := Lib.hid (HQ.out.keep hb)
  clear hb c0 c1 c2 hgq
  by_cases hc : (chk h).2.2 = 0
  · rw [decide_eq_true hc]
    have HC := Lib.hid hc
    have hh := chk_ok hc
    have HH := Lib.hid hh.bk
    have hn10 := hh.n10
    have hlk : lookE h wt wt = 0 := lookE_ok.2 ⟨hc, w0, Int.le_refl _, w1'⟩
    have hle : leastA h wt = ((lst h 0 wt, lst h 1 wt, lst h 2 wt), 0) := by unfold leastA; rw [if_neg (by simpa using hlk)]
    rw [HI.out] at hle
    obtain ⟨⟨rfl, rfl, rfl⟩, rfl⟩ : (l0 = lst h 0 wt ∧ l1 = lst h 1 wt ∧ l2 = lst h 2 wt) ∧ le = 0 := by simpa [Prod.ext_iff] using hle
    clear hc hle hlk
    go_wp2_with fail
    obtain ⟨gs, hgs⟩ : ∃ gs, gL h U h.parts.length = gs := ⟨_, rfl⟩
    obtain ⟨ls, hls⟩ : ∃ ls, lL h U h.parts.length = ls := ⟨_, rfl⟩
    have HT := turns_ok hh U
    rw [hgs, hls] at HT
    have HTO := Lib.hid HT
    have HTR := Lib.hid (fun W (hS : Since w W) => truth_c h m P U pc W hh (HP.out.keep hS.1) (HU.out.keep hS.1) HO.out)
    rw [hgs, hls] at HTR
    clear HT hgs hls hh
    have hE := balE_ok.2 ⟨HC.out, HTO.out, w0, w1'⟩
    have hBA : balanceA h gs ls wt = ((bal h gs ls 0 wt, bal h gs ls 1 wt, bal h gs ls 2 wt), 0) := by unfold balanceA; rw [if_neg (by simpa using hE)]
    have LE0 := lst_le HTO.out 0 wt
    have LE1 := lst_le HTO.out 1 wt
    have LE2 := lst_le HTO.out 2 wt
    obtain ⟨p, hpp⟩ : ∃ p, bal h gs ls 0 wt = p := ⟨_, rfl⟩
    obtain ⟨q, hqq⟩ : ∃ p, bal h gs ls 1 wt = p := ⟨_, rfl⟩
    obtain ⟨r, hrr⟩ : ∃ p, bal h gs ls 2 wt = p := ⟨_, rfl⟩
    rw [hpp, hqq, hrr] at hBA
    rw [hpp] at LE0
    rw [hqq] at LE1
    rw [hrr] at LE2
    have HBA := Lib.hid hBA
    clear hE hBA hpp hqq hrr
    have HN0 : Hid (lsum h 0 wt h.parts.length = lst h 0 wt) := lsum_end HH.out 0 wt
    have HN1 : Hid (lsum h 1 wt h.parts.length = lst h 1 wt) := lsum_end HH.out 1 wt
    have HN2 : Hid (lsum h 2 wt h.parts.length = lst h 2 wt) := lsum_end HH.out 2 wt
    obtain ⟨l0, hl0⟩ : ∃ l, lst h 0 wt = l := ⟨_, rfl⟩
    obtain ⟨l1, hl1⟩ : ∃ l, lst h 1 wt = l := ⟨_, rfl⟩
    obtain ⟨l2, hl2⟩ : ∃ l, lst h 2 wt = l := ⟨_, rfl⟩
    rw [hl0] at LE0 HN0 HQ
    rw [hl1] at LE1 HN1 HQ
    rw [hl2] at LE2 HN2 HQ
    rw [hl0, hl1, hl2]
    have LN0 : ¬ p < l0 := by omega
    have LN1 : ¬ q < l1 := by omega
    have LN2 : ¬ r < l2 := by omega
    clear hl0 hl1 hl2 HI LE0 LE1 LE2
    refine Vals9.region (fun σ Z => Pb w [(w.heap.size, 24, hV h m), (w.heap.size + 1, 63, xV a0 a1 aw P U.length pc), (gq, 32, #[.int .i64 l0, .int .i64 l1, .int .i64 l2])] 32 z3 #[.int .i64 p, .int .i64 q, .int .i64 r] gs ls (.tuple #[.agg #[.int .i64 p, .int .i64 q, .int .i64 r], .int .i64 0]) (σ 4) (σ 6) (σ 10) (σ 11) Z) [some 42, some 43, some 44, some 45, some 46, some 47, some 48, some 41, some 49, some 50, some 8, none, some 9] [.is ?_, .is ?_, .is ?_, .is ?_, .any, .is ?_, .any, .is ?_, .is ?_, .is ?_, .any, .any, .is ?_] (by kernel_rfl) (by kernel_rfl) (by kernel_rfl) (by kernel_rfl) (by kernel_rfl) (by kernel_rfl) (⟨hs.drew, (fun b hb => by simp only [List.mem_cons, List.not_mem_nil, or_false] at hb; rcases hb with rfl | rfl | rfl; exact HB.out.drew; exact HX.out.drew; exact HQ.out.drew), (fun _ v hv => by cases hv), (fun v hv => by cases hv), (fun v hv => by cases hv), (fun k => absurd rfl k)⟩) ?hsteps ?hfin
    case hsteps =>
      refine Vals9.Steps.run rfl ?_ ?_
      · intro a W σ hJ pre K hK
        have e2 := pre.2.2 2 _ (by kernel_rfl) rfl
        clear pre
        simp only [Array.getD_eq_getD_getElem?, List.getElem?_toArray, List.getElem?_cons_zero, List.getElem?_cons_succ, Option.getD_some] at e2
        have hJ2 : Pb w [(w.heap.size, 24, hV h m), (w.heap.size + 1, 63, xV a0 a1 aw P U.length pc), (gq, 32, #[.int .i64 l0, .int .i64 l1, .int .i64 l2])] 32 z3 #[.int .i64 p, .int .i64 q, .int .i64 r] gs ls (.tuple #[.agg #[.int .i64 p, .int .i64 q, .int .i64 r], .int .i64 0]) (σ 4) (σ 6) (σ 10) (σ 11) W := hJ
        obtain ⟨c0, c1, c2⟩ := (show Blk W w.heap.size 24 (hV h m) from hJ2.bl (w.heap.size, 24, hV h m) (by simp)).hull
        have hX2 := (show Blk W (w.heap.size + 1) 63 (xV a0 a1 aw P U.length pc) from hJ2.bl (w.heap.size + 1, 63, xV a0 a1 aw P U.length pc) (by simp)).cell 3
        simp only [List.getElem?_toArray, List.getElem?_cons_zero, List.getElem?_cons_succ] at hX2
        go_simp
        exact hK _ hJ
      refine Vals9.Steps.run rfl ?_ ?_
      · intro a W σ hJ pre K hK
        have e2 := pre.2.2 2 _ (by kernel_rfl) rfl
        clear pre
        simp only [Array.getD_eq_getD_getElem?, List.getElem?_toArray, List.getElem?_cons_zero, List.getElem?_cons_succ, Option.getD_some] at e2
        have hJ2 : Pb w [(w.heap.size, 24, hV h m), (w.heap.size + 1, 63, xV a0 a1 aw P U.length pc), (gq, 32, #[.int .i64 l0, .int .i64 l1, .int .i64 l2])] 32 z3 #[.int .i64 p, .int .i64 q, .int .i64 r] gs ls (.tuple #[.agg #[.int .i64 p, .int .i64 q, .int .i64 r], .int .i64 0]) (σ 4) (σ 6) (σ 10) (σ 11) W := hJ
        obtain ⟨c0, c1, c2⟩ := (show Blk W w.heap.size 24 (hV h m) from hJ2.bl (w.heap.size, 24, hV h m) (by simp)).hull
        have hX2 := (show Blk W (w.heap.size + 1) 63 (xV a0 a1 aw P U.length pc) from hJ2.bl (w.heap.size + 1, 63, xV a0 a1 aw P U.length pc) (by simp)).cell 3
        simp only [List.getElem?_toArray, List.getElem?_cons_zero, List.getElem?_cons_succ] at hX2
        go_simp
        exact hK _ hJ
      refine Vals9.Steps.run rfl ?_ ?_
      · intro a W σ hJ pre K hK
        have e3 := pre.2.2 3 _ (by kernel_rfl) rfl
        clear pre
        simp only [Array.getD_eq_getD_getElem?, List.getElem?_toArray, List.getElem?_cons_zero, List.getElem?_cons_succ, Option.getD_some] at e3
        go_simp
        exact hK _ hJ
      refine Vals9.Steps.run rfl ?_ ?_
      · intro a W σ hJ pre K hK
        have e44 := pre.1 2 44 _ (by kernel_rfl) rfl rfl
        clear pre
        simp only [Array.getD_eq_getD_getElem?, List.getElem?_toArray, List.getElem?_cons_zero, List.getElem?_cons_succ, Option.getD_some] at e44
        have hJ2 : Pb w [(w.heap.size, 24, hV h m), (w.heap.size + 1, 63, xV a0 a1 aw P U.length pc), (gq, 32, #[.int .i64 l0, .int .i64 l1, .int .i64 l2])] 32 z3 #[.int .i64 p, .int .i64 q, .int .i64 r] gs ls (.tuple #[.agg #[.int .i64 p, .int .i64 q, .int .i64 r], .int .i64 0]) (σ 4) (σ 6) (σ 10) (σ 11) W := hJ
        obtain ⟨c0, c1, c2⟩ := (show Blk W w.heap.size 24 (hV h m) from hJ2.bl (w.heap.size, 24, hV h m) (by simp)).hull
        have hX2 := (show Blk W (w.heap.size + 1) 63 (xV a0 a1 aw P U.length pc) from hJ2.bl (w.heap.size + 1, 63, xV a0 a1 aw P U.length pc) (by simp)).cell 3
        simp only [List.getElem?_toArray, List.getElem?_cons_zero, List.getElem?_cons_succ] at hX2
        go_simp
        exact hK _ hJ
      refine Vals9.Steps.mark rfl ?_ ?_
      · intro a W σ hJ hn pre K hK
        have e43 := pre.1 1 43 _ (by kernel_rfl) rfl rfl
        have e45 := pre.1 3 45 _ (by kernel_rfl) rfl rfl
        simp only [Array.getD_eq_getD_getElem?, List.getElem?_toArray, List.getElem?_cons_zero, List.getElem?_cons_succ, Option.getD_some] at e43 e45
        have hJ2 : Pb w [(w.heap.size, 24, hV h m), (w.heap.size + 1, 63, xV a0 a1 aw P U.length pc), (gq, 32, #[.int .i64 l0, .int .i64 l1, .int .i64 l2])] 32 z3 #[.int .i64 p, .int .i64 q, .int .i64 r] gs ls (.tuple #[.agg #[.int .i64 p, .int .i64 q, .int .i64 r], .int .i64 0]) (σ 4) (σ 6) (σ 10) (σ 11) W := hJ
        rw [hn] at hJ2
        have hC := HTR.out W hJ2.sn
        go_simp
        refine hC.mono ?_
        rintro e w' ⟨⟨v, rfl, hv⟩, hb'⟩
        refine hK _ _ ((hJ2.keep hb').truth ?_)
        obtain ⟨GA, gc, LA, lc, e, h1, h2, h3, -, -⟩ := hv
        exact ⟨GA, gc, LA, lc, e, h1, h2, h3, fun _ _ => Nat.zero_le _, fun _ _ => Nat.zero_le _⟩
      refine Vals9.Steps.run rfl ?_ ?_
      · intro a W σ hJ pre K hK
        have e5 := pre.2.2 5 _ (by kernel_rfl) rfl
        clear pre
        simp only [Array.getD_eq_getD_getElem?, List.getElem?_toArray, List.getElem?_cons_zero, List.getElem?_cons_succ, Option.getD_some] at e5
        go_simp
        exact hK _ hJ
      refine Vals9.Steps.mark rfl ?_ ?_
      · intro a W σ hJ hn pre K hK
        have e42 := pre.1 0 42 _ (by kernel_rfl) rfl rfl
        obtain ⟨v46, s46, e46⟩ := pre.2.1 4 (by kernel_rfl) rfl
        replace e46 : a.tmps.getD 46 undef = v46 := e46 46 rfl
        have e47 := pre.1 5 47 _ (by kernel_rfl) rfl rfl
        simp only [Array.getD_eq_getD_getElem?, List.getElem?_toArray, List.getElem?_cons_zero, List.getElem?_cons_succ, Option.getD_some] at e42 e46 e47
        have hJ2 : Pb w [(w.heap.size, 24, hV h m), (w.heap.size + 1, 63, xV a0 a1 aw P U.length pc), (gq, 32, #[.int .i64 l0, .int .i64 l1, .int .i64 l2])] 32 z3 #[.int .i64 p, .int .i64 q, .int .i64 r] gs ls (.tuple #[.agg #[.int .i64 p, .int .i64 q, .int .i64 r], .int .i64 0]) (σ 4) (σ 6) (σ 10) (σ 11) W := hJ
        rw [hn] at hJ2
        obtain ⟨GA, gc, LA, lc, hv, hg, hl, -, -, -⟩ := hJ2.tr rfl _ s46
        rw [hv] at e46
        have hC := balC m GA gc LA lc W (HP.out.keep hJ2.sn.1) hg hl HBA.out
        go_simp
        refine hC.mono ?_
        rintro e w' ⟨rfl, hb'⟩
        exact hK _ _ (hJ2.keep hb').call
      refine Vals9.Steps.run rfl ?_ ?_
      · intro a W σ hJ pre K hK
        obtain ⟨v48, s48, e48⟩ := pre.2.1 6 (by kernel_rfl) rfl
        replace e48 : a.tmps.getD 48 undef = v48 := e48 48 rfl
        clear pre
        simp only [Array.getD_eq_getD_getElem?, List.getElem?_toArray, List.getElem?_cons_zero, List.getElem?_cons_succ, Option.getD_some] at e48
        have hJ2 : Pb w [(w.heap.size, 24, hV h m), (w.heap.size + 1, 63, xV a0 a1 aw P U.length pc), (gq, 32, #[.int .i64 l0, .int .i64 l1, .int .i64 l2])] 32 z3 #[.int .i64 p, .int .i64 q, .int .i64 r] gs ls (.tuple #[.agg #[.int .i64 p, .int .i64 q, .int .i64 r], .int .i64 0]) (σ 4) (σ 6) (σ 10) (σ 11) W := hJ
        have e9 := hJ2.bv _ s48
        rw [e9] at e48
        clear e9 hJ2
        go_simp
        exact hK _ hJ
      refine Vals9.Steps.run rfl ?_ ?_
      · intro a W σ hJ pre K hK
        have e41 := pre.1 7 41 _ (by kernel_rfl) rfl rfl
        clear pre
        simp only [Array.getD_eq_getD_getElem?, List.getElem?_toArray, List.getElem?_cons_zero, List.getElem?_cons_succ, Option.getD_some] at e41
        go_simp
        exact hK _ hJ
      refine Vals9.Steps.run rfl ?_ ?_
      · intro a W σ hJ pre K hK
        have e41 := pre.1 7 41 _ (by kernel_rfl) rfl rfl
        clear pre
        simp only [Array.getD_eq_getD_getElem?, List.getElem?_toArray, List.getElem?_cons_zero, List.getElem?_cons_succ, Option.getD_some] at e41
        go_simp
        exact hK _ hJ
      refine Vals9.Steps.mark rfl ?_ ?_
      · intro a W σ hJ hn pre K hK
        have hJ2 : Pb w [(w.heap.size, 24, hV h m), (w.heap.size + 1, 63, xV a0 a1 aw P U.length pc), (gq, 32, #[.int .i64 l0, .int .i64 l1, .int .i64 l2])] 32 z3 #[.int .i64 p, .int .i64 q, .int .i64 r] gs ls (.tuple #[.agg #[.int .i64 p, .int .i64 q, .int .i64 r], .int .i64 0]) (σ 4) (σ 6) (σ 10) (σ 11) W := hJ
        rw [hn] at hJ2
        go_simp
        exact hK _ _ hJ2.made
      refine Vals9.Steps.mark rfl ?_ ?_
      · intro a W σ hJ hn pre K hK
        obtain ⟨v8, s8, e8⟩ := pre.2.1 10 (by kernel_rfl) rfl
        replace e8 : a.tmps.getD 8 undef = v8 := e8 8 rfl
        have e49 := pre.1 8 49 _ (by kernel_rfl) rfl rfl
        simp only [Array.getD_eq_getD_getElem?, List.getElem?_toArray, List.getElem?_cons_zero, List.getElem?_cons_succ, Option.getD_some] at e8 e49
        obtain ⟨v48, s48, -⟩ := pre.2.1 6 (by kernel_rfl) rfl
        have hJ2 : Pb w [(w.heap.size, 24, hV h m), (w.heap.size + 1, 63, xV a0 a1 aw P U.length pc), (gq, 32, #[.int .i64 l0, .int .i64 l1, .int .i64 l2])] 32 z3 #[.int .i64 p, .int .i64 q, .int .i64 r] gs ls (.tuple #[.agg #[.int .i64 p, .int .i64 q, .int .i64 r], .int .i64 0]) (σ 4) (σ 6) (σ 10) (σ 11) W := hJ
        rw [hn, s48, s8] at hJ2
        obtain ⟨g, e9, hb, h2⟩ := hJ2.put undef
        rw [← s48, ← s8] at h2
        have hfin := hK undef _ h2
        rw [e9] at e8
        have hx : a.eval (.tmp 8) = .pointer (some ⟨g, 0, none⟩) := by go_simp
        have hy : a.eval (.tmp 49) = .agg #[.int .i64 p, .int .i64 q, .int .i64 r] := by go_simp
        refine wp_store_row 32 _ _ rfl g #[.int .i64 p, .int .i64 q, .int .i64 r] hx hy 32 _ hb (by kernel_rfl) rfl (by simp [Value.oneCell']) ?_
        exact hfin
      refine Vals9.Steps.run rfl ?_ ?_
      · intro a W σ hJ pre K hK
        have e50 := pre.1 9 50 _ (by kernel_rfl) rfl rfl
        clear pre
        simp only [Array.getD_eq_getD_getElem?, List.getElem?_toArray, List.getElem?_cons_zero, List.getElem?_cons_succ, Option.getD_some] at e50
        go_simp
        exact hK _ hJ
      exact Vals9.Steps.nil
    case hfin =>
      rintro X σ hJ
      simp only [Vals9.All]
      rintro v4 s4 v6 s6 v10 s10 v11 s11
      simp only [Vals.putAll, List.setIfInBounds_toArray, List.set_cons_zero, List.set_cons_succ]
      have hJ2 : Pb w [(w.heap.size, 24, hV h m), (w.heap.size + 1, 63, xV a0 a1 aw P U.length pc), (gq, 32, #[.int .i64 l0, .int .i64 l1, .int .i64 l2])] 32 z3 #[.int .i64 p, .int .i64 q, .int .i64 r] gs ls (.tuple #[.agg #[.int .i64 p, .int .i64 q, .int .i64 r], .int .i64 0]) (σ 4) (σ 6) (σ 10) (σ 11) X := hJ
      have hv := hJ2.bv _ s6
      rw [s6, s10, s11] at hJ2
      obtain ⟨gz, e9, hlg, hbz⟩ := hJ2.end_
      subst hv e9
      have hs2 := hJ2.sn
      have HB2 := Lib.hid (show Blk X w.heap.size 24 (hV h m) from hJ2.bl (w.heap.size, 24, hV h m) (by simp))
      have HQ2 := Lib.hid (show Blk X gq 32 #[.int .i64 l0, .int .i64 l1, .int .i64 l2] from hJ2.bl (gq, 32, #[.int .i64 l0, .int .i64 l1, .int .i64 l2]) (by simp))
      have hl2 := hlg (gq, 32, #[.int .i64 l0, .int .i64 l1, .int .i64 l2]) (by simp)
      have HZ2 := Lib.hid hbz
      clear hJ hJ2 hlg hbz HTR HBA s4 s6 s10 s11
      replace hs := hs2
      replace HB := HB2
      replace HQ := HQ2
      clear hs2 HB2 HQ2 HX
      have q0 := HQ.out.cell 0
      have q1 := HQ.out.cell 1
      have q2 := HQ.out.cell 2
      have z0 := HZ2.out.cell 0
      have z1 := HZ2.out.cell 1
      have z2 := HZ2.out.cell 2
      simp only [List.getElem?_toArray, List.getElem?_cons_zero, List.getElem?_cons_succ] at q0 q1 q2 z0 z1 z2
      go_wp2_with fail
      clear q0 q1 q2 z0 z1 z2 HZ2 hl2
      go_loopw [10] (fun i wr => ∃ s : Nat, s ≤ 3 ∧ i = .int .i64 s ∧ Hid (Since w wr) ∧ Hid (Blk wr w.heap.size 24 (hV h m)) ∧ Hid (Blk wr gq 32 #[.int .i64 l0, .int .i64 l1, .int .i64 l2])) (fun i _ => 3 - (intOf i).toNat)
      case atStart => exact ⟨0, by omega, rfl, hs, HB, HQ⟩
      case round =>
        clear hs HB HQ
        obtain ⟨s, hs3, rfl, hs, HB, HQ⟩ := hrel
        by_cases hs4 : s < 3
        · have hsi : (s : Int) < 3 := by omega
          go_wp2_with fail
          go_loopw [11, 12] (fun av i wr => ∃ k : Nat, k ≤ h.parts.length ∧ i = .int .i64 k ∧ av = .int .i64 (lsum h s wt k) ∧ Hid (Since w wr) ∧ Hid (Blk wr w.heap.size 24 (hV h m)) ∧ Hid (Blk wr gq 32 #[.int .i64 l0, .int .i64 l1, .int .i64 l2])) (fun _ i _ => h.parts.length - (intOf i).toNat)
          case atStart => exact ⟨0, Nat.zero_le _, rfl, rfl, hs, HB, HQ⟩
          case round =>
            clear hs HB HQ
            obtain ⟨k, hk, rfl, rfl, hs, HB, HQ⟩ := hrel
            replace hs : Since w wr := hs.out
            by_cases hlt : k < h.parts.length
            · obtain ⟨ad, hA, d0, d1, d2, d3, d4, d5, d6⟩ := (HP.out.keep hs.1).ps.get hlt
              have hki : (k : Int) < (h.parts.length : Int) := by omega
              obtain ⟨mA, mc⟩ := m
              replace hA : mA = some ad := hA
              subst hA
              have hx := HH.out.ps _ (List.getElem_mem hlt)
              have HPK := Lib.hid (pa_at hlt)
              have hs2 := hs.alloc (.cells (pV h.parts[k]) 74)
              have HB2 := Lib.hid (HB.out.alloc (.cells (pV h.parts[k]) 74))
              have HQ2 := Lib.hid (HQ.out.alloc (.cells (pV h.parts[k]) 74))
              have HK2 := Lib.hid (Blk.new wr 74 (pV h.parts[k]))
              obtain ⟨c0, c1, c2⟩ := HB.out.hull
              go_wp2_with fail
              obtain ⟨gp, hgp⟩ : ∃ g, wr.heap.size = g := ⟨_, rfl⟩
              rw [hgp] at HK2 ⊢
              obtain ⟨x, hxx⟩ : ∃ x, h.parts[k] = x := ⟨_, rfl⟩
              rw [hxx] at hs2 HB2 HQ2 HK2 HPK hx ⊢
              obtain ⟨W2, hW2⟩ : ∃ W2, wr.alloc (.cells (pV x) 74) = W2 := ⟨_, rfl⟩
              rw [hW2] at hs2 HB2 HQ2 HK2 ⊢
              clear hgp hxx hW2 c0 c1 c2 d0 d1 d2 d3 d4 d5 d6 hs HB HQ
              go_loopw [14, 15] (fun lv ev wr => ∃ (e : Nat) (z : Int), e ≤ 4 ∧ ev = .int .i64 e ∧ lv = .int .i64 z ∧ (0 < e → z = lendV h.aft h.fore s x wt (e - 1)) ∧ Hid (Since w wr) ∧ Hid (Blk wr w.heap.size 24 (hV h ⟨some ad, mc⟩)) ∧ Hid (Blk wr gq 32 #[.int .i64 l0, .int .i64 l1, .int .i64 l2]) ∧ Hid (Blk wr gp 74 (pV x))) (fun _ i _ => 4 - (intOf i).toNat)
              case atStart => exact ⟨0, 0, by omega, rfl, rfl, fun k => absurd k (by omega), hs2, HB2, HQ2, HK2⟩
              case round =>
                clear hs2 HB2 HQ2 HK2
                obtain ⟨e, z, he, rfl, rfl, hz, hs, HB, HQ, HK⟩ := hrel
                replace hs : Since w wr := hs.out
                by_cases he4 : e < 4
                · have hei : (e : Int) < 4 := by omega
                  have EB := endV_bd HH.out hx s w0 w1' e
                  have hx1 := hx.p0
                  have hx2 := hx.p1
                  have hx3 := hx.k0
                  have hx4 := hx.k1
                  have hx5 := hx.w0
                  have hx6 := hx.w01
                  have hx7 := hx.w1
                  have hx8 := hx.l0
                  have hx9 := hx.l01
                  have hx10 := hx.l1
                  have hh1 := HH.out.a0
                  have hh2 := HH.out.af
                  have hh3 := HH.out.f1
                  obtain ⟨G_, hG_⟩ : ∃ G, (if e % 2 = 0 then x.w0 else x.w1) = G := ⟨_, rfl⟩
                  obtain ⟨L_, hL_⟩ : ∃ L, (if e / 2 = 0 then x.l0 else x.l1) = L := ⟨_, rfl⟩
                  obtain ⟨f1, f2, f3⟩ := prs_fit (x := x) (g := G_) (l := L_) (by rw [← hG_]; split <;> omega) (by rw [← hG_]; split <;> omega) (by rw [← hL_]; split <;> omega) (by rw [← hL_]; split <;> omega) hx w0 w1'
                  have e1 : IntKind.i64.wrap (wt - x.kl) = wt - x.kl := IntWalk.i64_in _ f1
                  have e2 : IntKind.i64.wrap (L_ * abv x wt) = L_ * abv x wt := IntWalk.i64_in _ f2
                  have e3 : IntKind.i64.wrap (G_ - L_ * abv x wt) = prs x G_ L_ wt := IntWalk.i64_in _ f3
                  have ec : abv x wt = if x.kl < wt then wt - x.kl else 0 := by unfold abv; split <;> omega
                  unfold endV at EB
                  rw [hG_, hL_] at EB
                  have NE : endV h.aft h.fore s x wt e = adds h.aft h.fore s x (prs x G_ L_ wt) := by unfold endV; rw [hG_, hL_]
                  obtain ⟨v, hv⟩ : ∃ v, prs x G_ L_ wt = v := ⟨_, rfl⟩
                  rw [hv] at e3 EB NE
                  have e5 : IntKind.i64.wrap (x.pt - h.aft) = x.pt - h.aft := IntWalk.i64_in _ (by omega)
                  have e6 : IntKind.i64.wrap (h.fore - x.pt) = h.fore - x.pt := IntWalk.i64_in _ (by omega)
                  have E1 := Lib.hid e1
                  have E2 := Lib.hid e2
                  have E3 := Lib.hid e3
                  have E5 := Lib.hid e5
                  have E6 := Lib.hid e6
                  have EC := Lib.hid ec
                  have HNE := Lib.hid NE
                  have HEB := Lib.hid EB
                  have HG_ := Lib.hid hG_
                  have HL_ := Lib.hid hL_
                  have HZ := Lib.hid hz
                  clear e1 e2 e3 e5 e6 ec NE EB f1 f2 f3 hv hG_ hL_ hx1 hx2 hx3 hx4 hx5 hx6 hx7 hx8 hx9 hx10 hh1 hh2 hh3 hz
                  go_wp2_with fail
                  rcases (by omega : e = 0 ∨ e = 1 ∨ e = 2 ∨ e = 3) with rfl | rfl | rfl | rfl
                  · refine Vals9.region (fun σ Z => Lq w [(w.heap.size, 24, hV h ⟨some ad, mc⟩), (gq, 32, #[.int .i64 l0, .int .i64 l1, .int .i64 l2]), (gp, 74, pV x)] x.w0 x.w1 x.l0 x.l1 0 0 (σ 6) (σ 9) (σ 17) (σ 20) Z) [some 98, some 99, some 100, some 101, some 102, some 103, some 104, some 105, some 106, some 107, some 108, some 109, some 110, some 111, some 112, some 113, some 114, some 115, some 116, some 117, some 118, some 119, some 120, some 121, some 122, some 123, some 124, some 125, some 126, some 16] [.is ?_, .is ?_, .is ?_, .is ?_, .is ?_, .is ?_, .any, .is ?_, .is ?_, .any, .is (.int .i64 G_), .is ?_, .is ?_, .is ?_, .is ?_, .is ?_, .is ?_, .any, .is ?_, .is ?_, .any, .is (.int .i64 L_), .is ?_, .is ?_, .is ?_, .is (.int .i64 (wt - x.kl)), .is (.int .i64 (abv x wt)), .is (.int .i64 (L_ * abv x wt)), .is (.int .i64 v), .is ?_] (by kernel_rfl) (by kernel_rfl) (by kernel_rfl) (by kernel_rfl) (by kernel_rfl) (by kernel_rfl) (⟨hs.drew, (fun b hb => by simp only [List.mem_cons, List.not_mem_nil, or_false] at hb; rcases hb with rfl | rfl | rfl; exact HB.out.drew; exact HQ.out.drew; exact HK.out.drew), (fun v hv => by cases hv), (fun v hv => by cases hv), (fun v hv => by cases hv), (fun v hv => by cases hv)⟩) ?hsteps ?hfin
                    case hsteps =>
                      refine Vals9.Steps.run rfl ?_ ?_
                      · intro a W σ hJ pre K hK
                        have e13 := pre.2.2 13 _ (by kernel_rfl) rfl
                        clear pre
                        simp only [Array.getD_eq_getD_getElem?, List.getElem?_toArray, List.getElem?_cons_zero, List.getElem?_cons_succ, Option.getD_some] at e13
                        go_simp
                        exact hK _ hJ
                      refine Vals9.Steps.run rfl ?_ ?_
                      · intro a W σ hJ pre K hK
                        have e98 := pre.1 0 98 _ (by kernel_rfl) rfl rfl
                        clear pre
                        simp only [Array.getD_eq_getD_getElem?, List.getElem?_toArray, List.getElem?_cons_zero, List.getElem?_cons_succ, Option.getD_some] at e98
                        go_simp
                        exact hK _ hJ
                      refine Vals9.Steps.run rfl ?_ ?_
                      · intro a W σ hJ pre K hK
                        have e99 := pre.1 1 99 _ (by kernel_rfl) rfl rfl
                        clear pre
                        simp only [Array.getD_eq_getD_getElem?, List.getElem?_toArray, List.getElem?_cons_zero, List.getElem?_cons_succ, Option.getD_some] at e99
                        have hJ2 : Lq w [(w.heap.size, 24, hV h ⟨some ad, mc⟩), (gq, 32, #[.int .i64 l0, .int .i64 l1, .int .i64 l2]), (gp, 74, pV x)] x.w0 x.w1 x.l0 x.l1 0 0 (σ 6) (σ 9) (σ 17) (σ 20) W := hJ
                        obtain ⟨p0, p1, p2, p3, p4, p5, p6⟩ := (show Blk W gp 74 (pV x) from hJ2.bl (gp, 74, pV x) (by simp)).part
                        go_simp
                        exact hK _ hJ
                      refine Vals9.Steps.run rfl ?_ ?_
                      · intro a W σ hJ pre K hK
                        have e13 := pre.2.2 13 _ (by kernel_rfl) rfl
                        clear pre
                        simp only [Array.getD_eq_getD_getElem?, List.getElem?_toArray, List.getElem?_cons_zero, List.getElem?_cons_succ, Option.getD_some] at e13
                        go_simp
                        exact hK _ hJ
                      refine Vals9.Steps.run rfl ?_ ?_
                      · intro a W σ hJ pre K hK
                        have e101 := pre.1 3 101 _ (by kernel_rfl) rfl rfl
                        clear pre
                        simp only [Array.getD_eq_getD_getElem?, List.getElem?_toArray, List.getElem?_cons_zero, List.getElem?_cons_succ, Option.getD_some] at e101
                        go_simp
                        exact hK _ hJ
                      refine Vals9.Steps.run rfl ?_ ?_
                      · intro a W σ hJ pre K hK
                        have e102 := pre.1 4 102 _ (by kernel_rfl) rfl rfl
                        clear pre
                        simp only [Array.getD_eq_getD_getElem?, List.getElem?_toArray, List.getElem?_cons_zero, List.getElem?_cons_succ, Option.getD_some] at e102
                        have hJ2 : Lq w [(w.heap.size, 24, hV h ⟨some ad, mc⟩), (gq, 32, #[.int .i64 l0, .int .i64 l1, .int .i64 l2]), (gp, 74, pV x)] x.w0 x.w1 x.l0 x.l1 0 0 (σ 6) (σ 9) (σ 17) (σ 20) W := hJ
                        obtain ⟨p0, p1, p2, p3, p4, p5, p6⟩ := (show Blk W gp 74 (pV x) from hJ2.bl (gp, 74, pV x) (by simp)).part
                        go_simp
                        exact hK _ hJ
                      refine Vals9.Steps.mark rfl ?_ ?_
                      · intro a W σ hJ hn pre K hK
                        have e100 := pre.1 2 100 _ (by kernel_rfl) rfl rfl
                        have e103 := pre.1 5 103 _ (by kernel_rfl) rfl rfl
                        simp only [Array.getD_eq_getD_getElem?, List.getElem?_toArray, List.getElem?_cons_zero, List.getElem?_cons_succ, Option.getD_some] at e100 e103
                        have hJ2 : Lq w [(w.heap.size, 24, hV h ⟨some ad, mc⟩), (gq, 32, #[.int .i64 l0, .int .i64 l1, .int .i64 l2]), (gp, 74, pV x)] x.w0 x.w1 x.l0 x.l1 0 0 (σ 6) (σ 9) (σ 17) (σ 20) W := hJ
                        go_simp
                        have hk := hJ2.keep ((Below.refl _ _).alloc (Nat.le_refl _) (.cells #[.int .i64 x.w0, .int .i64 x.w1] 3))
                        exact hK _ _ ⟨hk.sn, hk.bl, fun v hv => ⟨_, (Option.some.inj hv).symm, Blk.new _ _ _⟩, hk.xa, hk.lb, hk.xb⟩
                      refine Vals9.Steps.run rfl ?_ ?_
                      · intro a W σ hJ pre K hK
                        have e15 := pre.2.2 15 _ (by kernel_rfl) rfl
                        clear pre
                        simp only [Array.getD_eq_getD_getElem?, List.getElem?_toArray, List.getElem?_cons_zero, List.getElem?_cons_succ, Option.getD_some] at e15
                        go_simp
                        exact hK _ hJ
                      refine Vals9.Steps.run rfl ?_ ?_
                      · intro a W σ hJ pre K hK
                        have e105 := pre.1 7 105 _ (by kernel_rfl) rfl rfl
                        clear pre
                        simp only [Array.getD_eq_getD_getElem?, List.getElem?_toArray, List.getElem?_cons_zero, List.getElem?_cons_succ, Option.getD_some] at e105
                        go_simp
                        exact hK _ hJ
                      refine Vals9.Steps.mark rfl ?_ ?_
                      · intro a W σ hJ hn pre K hK
                        obtain ⟨v104, s104, e104⟩ := pre.2.1 6 (by kernel_rfl) rfl
                        replace e104 : a.tmps.getD 104 undef = v104 := e104 104 rfl
                        have e106 := pre.1 8 106 _ (by kernel_rfl) rfl rfl
                        simp only [Array.getD_eq_getD_getElem?, List.getElem?_toArray, List.getElem?_cons_zero, List.getElem?_cons_succ, Option.getD_some] at e104 e106
                        have hJ2 : Lq w [(w.heap.size, 24, hV h ⟨some ad, mc⟩), (gq, 32, #[.int .i64 l0, .int .i64 l1, .int .i64 l2]), (gp, 74, pV x)] x.w0 x.w1 x.l0 x.l1 0 0 (σ 6) (σ 9) (σ 17) (σ 20) W := hJ
                        obtain ⟨g, e9, hb⟩ := hJ2.la _ s104
                        rw [e9] at e104
                        go_simp
                        exact hK _ _ ⟨hJ2.sn, hJ2.bl, hJ2.la, fun v hv => ⟨g, (Option.some.inj hv).symm, hb⟩, hJ2.lb, hJ2.xb⟩
                      refine Vals9.Steps.run rfl ?_ ?_
                      · intro a W σ hJ pre K hK
                        obtain ⟨v107, s107, e107⟩ := pre.2.1 9 (by kernel_rfl) rfl
                        replace e107 : a.tmps.getD 107 undef = v107 := e107 107 rfl
                        clear pre
                        simp only [Array.getD_eq_getD_getElem?, List.getElem?_toArray, List.getElem?_cons_zero, List.getElem?_cons_succ, Option.getD_some] at e107
                        have hJ2 : Lq w [(w.heap.size, 24, hV h ⟨some ad, mc⟩), (gq, 32, #[.int .i64 l0, .int .i64 l1, .int .i64 l2]), (gp, 74, pV x)] x.w0 x.w1 x.l0 x.l1 0 0 (σ 6) (σ 9) (σ 17) (σ 20) W := hJ
                        obtain ⟨g, e9, hb⟩ := hJ2.xa _ s107
                        rw [e9] at e107
                        have b0 := hb.cell 0
                        simp only [List.getElem?_toArray, List.getElem?_cons_zero, List.getElem?_cons_succ] at b0
                        rw [show x.w0 = G_ from HG_.out] at b0
                        go_simp
                        exact hK _ hJ
                      refine Vals9.Steps.run rfl ?_ ?_
                      · intro a W σ hJ pre K hK
                        have e13 := pre.2.2 13 _ (by kernel_rfl) rfl
                        clear pre
                        simp only [Array.getD_eq_getD_getElem?, List.getElem?_toArray, List.getElem?_cons_zero, List.getElem?_cons_succ, Option.getD_some] at e13
                        go_simp
                        exact hK _ hJ
                      refine Vals9.Steps.run rfl ?_ ?_
                      · intro a W σ hJ pre K hK
                        have e109 := pre.1 11 109 _ (by kernel_rfl) rfl rfl
                        clear pre
                        simp only [Array.getD_eq_getD_getElem?, List.getElem?_toArray, List.getElem?_cons_zero, List.getElem?_cons_succ, Option.getD_some] at e109
                        go_simp
                        exact hK _ hJ
                      refine Vals9.Steps.run rfl ?_ ?_
                      · intro a W σ hJ pre K hK
                        have e110 := pre.1 12 110 _ (by kernel_rfl) rfl rfl
                        clear pre
                        simp only [Array.getD_eq_getD_getElem?, List.getElem?_toArray, List.getElem?_cons_zero, List.getElem?_cons_succ, Option.getD_some] at e110
                        have hJ2 : Lq w [(w.heap.size, 24, hV h ⟨some ad, mc⟩), (gq, 32, #[.int .i64 l0, .int .i64 l1, .int .i64 l2]), (gp, 74, pV x)] x.w0 x.w1 x.l0 x.l1 0 0 (σ 6) (σ 9) (σ 17) (σ 20) W := hJ
                        obtain ⟨p0, p1, p2, p3, p4, p5, p6⟩ := (show Blk W gp 74 (pV x) from hJ2.bl (gp, 74, pV x) (by simp)).part
                        go_simp
                        exact hK _ hJ
                      refine Vals9.Steps.run rfl ?_ ?_
                      · intro a W σ hJ pre K hK
                        have e13 := pre.2.2 13 _ (by kernel_rfl) rfl
                        clear pre
                        simp only [Array.getD_eq_getD_getElem?, List.getElem?_toArray, List.getElem?_cons_zero, List.getElem?_cons_succ, Option.getD_some] at e13
                        go_simp
                        exact hK _ hJ
                      refine Vals9.Steps.run rfl ?_ ?_
                      · intro a W σ hJ pre K hK
                        have e112 := pre.1 14 112 _ (by kernel_rfl) rfl rfl
                        clear pre
                        simp only [Array.getD_eq_getD_getElem?, List.getElem?_toArray, List.getElem?_cons_zero, List.getElem?_cons_succ, Option.getD_some] at e112
                        go_simp
                        exact hK _ hJ
                      refine Vals9.Steps.run rfl ?_ ?_
                      · intro a W σ hJ pre K hK
                        have e113 := pre.1 15 113 _ (by kernel_rfl) rfl rfl
                        clear pre
                        simp only [Array.getD_eq_getD_getElem?, List.getElem?_toArray, List.getElem?_cons_zero, List.getElem?_cons_succ, Option.getD_some] at e113
                        have hJ2 : Lq w [(w.heap.size, 24, hV h ⟨some ad, mc⟩), (gq, 32, #[.int .i64 l0, .int .i64 l1, .int .i64 l2]), (gp, 74, pV x)] x.w0 x.w1 x.l0 x.l1 0 0 (σ 6) (σ 9) (σ 17) (σ 20) W := hJ
                        obtain ⟨p0, p1, p2, p3, p4, p5, p6⟩ := (show Blk W gp 74 (pV x) from hJ2.bl (gp, 74, pV x) (by simp)).part
                        go_simp
                        exact hK _ hJ
                      refine Vals9.Steps.mark rfl ?_ ?_
                      · intro a W σ hJ hn pre K hK
                        have e111 := pre.1 13 111 _ (by kernel_rfl) rfl rfl
                        have e114 := pre.1 16 114 _ (by kernel_rfl) rfl rfl
                        simp only [Array.getD_eq_getD_getElem?, List.getElem?_toArray, List.getElem?_cons_zero, List.getElem?_cons_succ, Option.getD_some] at e111 e114
                        have hJ2 : Lq w [(w.heap.size, 24, hV h ⟨some ad, mc⟩), (gq, 32, #[.int .i64 l0, .int .i64 l1, .int .i64 l2]), (gp, 74, pV x)] x.w0 x.w1 x.l0 x.l1 0 0 (σ 6) (σ 9) (σ 17) (σ 20) W := hJ
                        go_simp
                        have hk := hJ2.keep ((Below.refl _ _).alloc (Nat.le_refl _) (.cells #[.int .i64 x.l0, .int .i64 x.l1] 3))
                        exact hK _ _ ⟨hk.sn, hk.bl, hk.la, hk.xa, fun v hv => ⟨_, (Option.some.inj hv).symm, Blk.new _ _ _⟩, hk.xb⟩
                      refine Vals9.Steps.run rfl ?_ ?_
                      · intro a W σ hJ pre K hK
                        have e15 := pre.2.2 15 _ (by kernel_rfl) rfl
                        clear pre
                        simp only [Array.getD_eq_getD_getElem?, List.getElem?_toArray, List.getElem?_cons_zero, List.getElem?_cons_succ, Option.getD_some] at e15
                        go_simp
                        exact hK _ hJ
                      refine Vals9.Steps.run rfl ?_ ?_
                      · intro a W σ hJ pre K hK
                        have e116 := pre.1 18 116 _ (by kernel_rfl) rfl rfl
                        clear pre
                        simp only [Array.getD_eq_getD_getElem?, List.getElem?_toArray, List.getElem?_cons_zero, List.getElem?_cons_succ, Option.getD_some] at e116
                        go_simp
                        exact hK _ hJ
                      refine Vals9.Steps.mark rfl ?_ ?_
                      · intro a W σ hJ hn pre K hK
                        obtain ⟨v115, s115, e115⟩ := pre.2.1 17 (by kernel_rfl) rfl
                        replace e115 : a.tmps.getD 115 undef = v115 := e115 115 rfl
                        have e117 := pre.1 19 117 _ (by kernel_rfl) rfl rfl
                        simp only [Array.getD_eq_getD_getElem?, List.getElem?_toArray, List.getElem?_cons_zero, List.getElem?_cons_succ, Option.getD_some] at e115 e117
                        have hJ2 : Lq w [(w.heap.size, 24, hV h ⟨some ad, mc⟩), (gq, 32, #[.int .i64 l0, .int .i64 l1, .int .i64 l2]), (gp, 74, pV x)] x.w0 x.w1 x.l0 x.l1 0 0 (σ 6) (σ 9) (σ 17) (σ 20) W := hJ
                        obtain ⟨g, e9, hb⟩ := hJ2.lb _ s115
                        rw [e9] at e115
                        go_simp
                        exact hK _ _ ⟨hJ2.sn, hJ2.bl, hJ2.la, hJ2.xa, hJ2.lb, fun v hv => ⟨g, (Option.some.inj hv).symm, hb⟩⟩
                      refine Vals9.Steps.run rfl ?_ ?_
                      · intro a W σ hJ pre K hK
                        obtain ⟨v118, s118, e118⟩ := pre.2.1 20 (by kernel_rfl) rfl
                        replace e118 : a.tmps.getD 118 undef = v118 := e118 118 rfl
                        clear pre
                        simp only [Array.getD_eq_getD_getElem?, List.getElem?_toArray, List.getElem?_cons_zero, List.getElem?_cons_succ, Option.getD_some] at e118
                        have hJ2 : Lq w [(w.heap.size, 24, hV h ⟨some ad, mc⟩), (gq, 32, #[.int .i64 l0, .int .i64 l1, .int .i64 l2]), (gp, 74, pV x)] x.w0 x.w1 x.l0 x.l1 0 0 (σ 6) (σ 9) (σ 17) (σ 20) W := hJ
                        obtain ⟨g, e9, hb⟩ := hJ2.xb _ s118
                        rw [e9] at e118
                        have b0 := hb.cell 0
                        simp only [List.getElem?_toArray, List.getElem?_cons_zero, List.getElem?_cons_succ] at b0
                        rw [show x.l0 = L_ from HL_.out] at b0
                        go_simp
                        exact hK _ hJ
                      refine Vals9.Steps.run rfl ?_ ?_
                      · intro a W σ hJ pre K hK
                        have e5 := pre.2.2 5 _ (by kernel_rfl) rfl
                        clear pre
                        simp only [Array.getD_eq_getD_getElem?, List.getElem?_toArray, List.getElem?_cons_zero, List.getElem?_cons_succ, Option.getD_some] at e5
                        go_simp
                        exact hK _ hJ
                      refine Vals9.Steps.run rfl ?_ ?_
                      · intro a W σ hJ pre K hK
                        have e13 := pre.2.2 13 _ (by kernel_rfl) rfl
                        clear pre
                        simp only [Array.getD_eq_getD_getElem?, List.getElem?_toArray, List.getElem?_cons_zero, List.getElem?_cons_succ, Option.getD_some] at e13
                        go_simp
                        exact hK _ hJ
                      refine Vals9.Steps.run rfl ?_ ?_
                      · intro a W σ hJ pre K hK
                        have e121 := pre.1 23 121 _ (by kernel_rfl) rfl rfl
                        clear pre
                        simp only [Array.getD_eq_getD_getElem?, List.getElem?_toArray, List.getElem?_cons_zero, List.getElem?_cons_succ, Option.getD_some] at e121
                        have hJ2 : Lq w [(w.heap.size, 24, hV h ⟨some ad, mc⟩), (gq, 32, #[.int .i64 l0, .int .i64 l1, .int .i64 l2]), (gp, 74, pV x)] x.w0 x.w1 x.l0 x.l1 0 0 (σ 6) (σ 9) (σ 17) (σ 20) W := hJ
                        obtain ⟨p0, p1, p2, p3, p4, p5, p6⟩ := (show Blk W gp 74 (pV x) from hJ2.bl (gp, 74, pV x) (by simp)).part
                        go_simp
                        exact hK _ hJ
                      refine Vals9.Steps.run rfl ?_ ?_
                      · intro a W σ hJ pre K hK
                        have e120 := pre.1 22 120 _ (by kernel_rfl) rfl rfl
                        have e122 := pre.1 24 122 _ (by kernel_rfl) rfl rfl
                        clear pre
                        simp only [Array.getD_eq_getD_getElem?, List.getElem?_toArray, List.getElem?_cons_zero, List.getElem?_cons_succ, Option.getD_some] at e120 e122
                        have e9 := E1.out
                        go_simp
                        exact hK _ hJ
                      refine Vals9.Steps.run rfl ?_ ?_
                      · intro a W σ hJ pre K hK
                        have e123 := pre.1 25 123 _ (by kernel_rfl) rfl rfl
                        clear pre
                        simp only [Array.getD_eq_getD_getElem?, List.getElem?_toArray, List.getElem?_cons_zero, List.getElem?_cons_succ, Option.getD_some] at e123
                        go_simp
                        exact hK _ hJ
                      refine Vals9.Steps.run rfl ?_ ?_
                      · intro a W σ hJ pre K hK
                        have e119 := pre.1 21 119 _ (by kernel_rfl) rfl rfl
                        have e124 := pre.1 26 124 _ (by kernel_rfl) rfl rfl
                        clear pre
                        simp only [Array.getD_eq_getD_getElem?, List.getElem?_toArray, List.getElem?_cons_zero, List.getElem?_cons_succ, Option.getD_some] at e119 e124
                        have e9 := E2.out
                        go_simp
                        exact hK _ hJ
                      refine Vals9.Steps.run rfl ?_ ?_
                      · intro a W σ hJ pre K hK
                        have e108 := pre.1 10 108 _ (by kernel_rfl) rfl rfl
                        have e125 := pre.1 27 125 _ (by kernel_rfl) rfl rfl
                        clear pre
                        simp only [Array.getD_eq_getD_getElem?, List.getElem?_toArray, List.getElem?_cons_zero, List.getElem?_cons_succ, Option.getD_some] at e108 e125
                        have e9 := E3.out
                        go_simp
                        exact hK _ hJ
                      refine Vals9.Steps.run rfl ?_ ?_
                      · intro a W σ hJ pre K hK
                        have e126 := pre.1 28 126 _ (by kernel_rfl) rfl rfl
                        clear pre
                        simp only [Array.getD_eq_getD_getElem?, List.getElem?_toArray, List.getElem?_cons_zero, List.getElem?_cons_succ, Option.getD_some] at e126
                        go_simp
                        exact hK _ hJ
                      exact Vals9.Steps.nil
                    case hfin =>
                      rintro X σ hJ
                      simp only [Vals9.All]
                      rintro v6 s6 v9 s9 v17 s17 v20 s20
                      simp only [Vals.putAll, List.setIfInBounds_toArray, List.set_cons_zero, List.set_cons_succ]
                      have hJ2 : Lq w [(w.heap.size, 24, hV h ⟨some ad, mc⟩), (gq, 32, #[.int .i64 l0, .int .i64 l1, .int .i64 l2]), (gp, 74, pV x)] x.w0 x.w1 x.l0 x.l1 0 0 (σ 6) (σ 9) (σ 17) (σ 20) X := hJ
                      have hs2 := hJ2.sn
                      have HB2 := Lib.hid (show Blk X w.heap.size 24 (hV h ⟨some ad, mc⟩) from hJ2.bl (w.heap.size, 24, hV h ⟨some ad, mc⟩) (by simp))
                      have HQ2 := Lib.hid (show Blk X gq 32 #[.int .i64 l0, .int .i64 l1, .int .i64 l2] from hJ2.bl (gq, 32, #[.int .i64 l0, .int .i64 l1, .int .i64 l2]) (by simp))
                      have HK2 := Lib.hid (show Blk X gp 74 (pV x) from hJ2.bl (gp, 74, pV x) (by simp))
                      clear hJ hJ2 s6 s9 s17 s20
                      replace hs := hs2
                      replace HB := HB2
                      replace HQ := HQ2
                      replace HK := HK2
                      clear hs2 HB2 HQ2 HK2
                      obtain ⟨c0, c1, c2⟩ := HB.out.hull
                      obtain ⟨p0, p1, p2, p3, p4, p5, p6⟩ := HK.out.part
                      have e5 := E5.out
                      have e6 := E6.out
                      have NE := HNE.out
                      have EB := HEB.out
                      have hs5 := Lib.hid (hs.alloc (.cells #[.int .i64 1, .int .i64 (x.pt - h.aft), .int .i64 (h.fore - x.pt)] 3))
                      have HB5 := Lib.hid (HB.out.alloc (.cells #[.int .i64 1, .int .i64 (x.pt - h.aft), .int .i64 (h.fore - x.pt)] 3))
                      have HQ5 := Lib.hid (HQ.out.alloc (.cells #[.int .i64 1, .int .i64 (x.pt - h.aft), .int .i64 (h.fore - x.pt)] 3))
                      have HK5 := Lib.hid (HK.out.alloc (.cells #[.int .i64 1, .int .i64 (x.pt - h.aft), .int .i64 (h.fore - x.pt)] 3))
                      rcases (by omega : s = 0 ∨ s = 1 ∨ s = 2) with rfl | rfl | rfl
                      · replace NE : endV h.aft h.fore 0 x wt 0 = v := NE
                        replace EB : -25000000000 ≤ v ∧ v ≤ 25000000000 := EB
                        have e7 : IntKind.i64.wrap (v) = v := IntWalk.i64_in _ (by omega)
                        have HNL : Hid (lendV h.aft h.fore 0 x wt 0 = v) := NE
                        clear NE EB
                        go_wp2_with fail
                        go_roundw
                        case rel => exact ⟨1, _, by omega, rfl, rfl, fun _ => HNL.out.symm, hs5, HB5, HQ5, HK5⟩
                        case measure => simp [intOf]
                      · replace NE : endV h.aft h.fore 1 x wt 0 = v * (x.pt - h.aft) := NE
                        replace EB : -25000000000 ≤ v * (x.pt - h.aft) ∧ v * (x.pt - h.aft) ≤ 25000000000 := EB
                        have e7 : IntKind.i64.wrap (v * (x.pt - h.aft)) = v * (x.pt - h.aft) := IntWalk.i64_in _ (by omega)
                        have HNL : Hid (lendV h.aft h.fore 1 x wt 0 = v * (x.pt - h.aft)) := NE
                        clear NE EB
                        go_wp2_with fail
                        go_roundw
                        case rel => exact ⟨1, _, by omega, rfl, rfl, fun _ => HNL.out.symm, hs5, HB5, HQ5, HK5⟩
                        case measure => simp [intOf]
                      · replace NE : endV h.aft h.fore 2 x wt 0 = v * (h.fore - x.pt) := NE
                        replace EB : -25000000000 ≤ v * (h.fore - x.pt) ∧ v * (h.fore - x.pt) ≤ 25000000000 := EB
                        have e7 : IntKind.i64.wrap (v * (h.fore - x.pt)) = v * (h.fore - x.pt) := IntWalk.i64_in _ (by omega)
                        have HNL : Hid (lendV h.aft h.fore 2 x wt 0 = v * (h.fore - x.pt)) := NE
                        clear NE EB
                        go_wp2_with fail
                        go_roundw
                        case rel => exact ⟨1, _, by omega, rfl, rfl, fun _ => HNL.out.symm, hs5, HB5, HQ5, HK5⟩
                        case measure => simp [intOf]
                  · refine Vals9.region (fun σ Z => Lq w [(w.heap.size, 24, hV h ⟨some ad, mc⟩), (gq, 32, #[.int .i64 l0, .int .i64 l1, .int .i64 l2]), (gp, 74, pV x)] x.w0 x.w1 x.l0 x.l1 1 0 (σ 6) (σ 9) (σ 17) (σ 20) Z) [some 98, some 99, some 100, some 101, some 102, some 103, some 104, some 105, some 106, some 107, some 108, some 109, some 110, some 111, some 112, some 113, some 114, some 115, some 116, some 117, some 118, some 119, some 120, some 121, some 122, some 123, some 124, some 125, some 126, some 16] [.is ?_, .is ?_, .is ?_, .is ?_, .is ?_, .is ?_, .any, .is ?_, .is ?_, .any, .is (.int .i64 G_), .is ?_, .is ?_, .is ?_, .is ?_, .is ?_, .is ?_, .any, .is ?_, .is ?_, .any, .is (.int .i64 L_), .is ?_, .is ?_, .is ?_, .is (.int .i64 (wt - x.kl)), .is (.int .i64 (abv x wt)), .is (.int .i64 (L_ * abv x wt)), .is (.int .i64 v), .is ?_] (by kernel_rfl) (by kernel_rfl) (by kernel_rfl) (by kernel_rfl) (by kernel_rfl) (by kernel_rfl) (⟨hs.drew, (fun b hb => by simp only [List.mem_cons, List.not_mem_nil, or_false] at hb; rcases hb with rfl | rfl | rfl; exact HB.out.drew; exact HQ.out.drew; exact HK.out.drew), (fun v hv => by cases hv), (fun v hv => by cases hv), (fun v hv => by cases hv), (fun v hv => by cases hv)⟩) ?hsteps ?hfin
                    case hsteps =>
                      refine Vals9.Steps.run rfl ?_ ?_
                      · intro a W σ hJ pre K hK
                        have e13 := pre.2.2 13 _ (by kernel_rfl) rfl
                        clear pre
                        simp only [Array.getD_eq_getD_getElem?, List.getElem?_toArray, List.getElem?_cons_zero, List.getElem?_cons_succ, Option.getD_some] at e13
                        go_simp
                        exact hK _ hJ
                      refine Vals9.Steps.run rfl ?_ ?_
                      · intro a W σ hJ pre K hK
                        have e98 := pre.1 0 98 _ (by kernel_rfl) rfl rfl
                        clear pre
                        simp only [Array.getD_eq_getD_getElem?, List.getElem?_toArray, List.getElem?_cons_zero, List.getElem?_cons_succ, Option.getD_some] at e98
                        go_simp
                        exact hK _ hJ
                      refine Vals9.Steps.run rfl ?_ ?_
                      · intro a W σ hJ pre K hK
                        have e99 := pre.1 1 99 _ (by kernel_rfl) rfl rfl
                        clear pre
                        simp only [Array.getD_eq_getD_getElem?, List.getElem?_toArray, List.getElem?_cons_zero, List.getElem?_cons_succ, Option.getD_some] at e99
                        have hJ2 : Lq w [(w.heap.size, 24, hV h ⟨some ad, mc⟩), (gq, 32, #[.int .i64 l0, .int .i64 l1, .int .i64 l2]), (gp, 74, pV x)] x.w0 x.w1 x.l0 x.l1 1 0 (σ 6) (σ 9) (σ 17) (σ 20) W := hJ
                        obtain ⟨p0, p1, p2, p3, p4, p5, p6⟩ := (show Blk W gp 74 (pV x) from hJ2.bl (gp, 74, pV x) (by simp)).part
                        go_simp
                        exact hK _ hJ
                      refine Vals9.Steps.run rfl ?_ ?_
                      · intro a W σ hJ pre K hK
                        have e13 := pre.2.2 13 _ (by kernel_rfl) rfl
                        clear pre
                        simp only [Array.getD_eq_getD_getElem?, List.getElem?_toArray, List.getElem?_cons_zero, List.getElem?_cons_succ, Option.getD_some] at e13
                        go_simp
                        exact hK _ hJ
                      refine Vals9.Steps.run rfl ?_ ?_
                      · intro a W σ hJ pre K hK
                        have e101 := pre.1 3 101 _ (by kernel_rfl) rfl rfl
                        clear pre
                        simp only [Array.getD_eq_getD_getElem?, List.getElem?_toArray, List.getElem?_cons_zero, List.getElem?_cons_succ, Option.getD_some] at e101
                        go_simp
                        exact hK _ hJ
                      refine Vals9.Steps.run rfl ?_ ?_
                      · intro a W σ hJ pre K hK
                        have e102 := pre.1 4 102 _ (by kernel_rfl) rfl rfl
                        clear pre
                        simp only [Array.getD_eq_getD_getElem?, List.getElem?_toArray, List.getElem?_cons_zero, List.getElem?_cons_succ, Option.getD_some] at e102
                        have hJ2 : Lq w [(w.heap.size, 24, hV h ⟨some ad, mc⟩), (gq, 32, #[.int .i64 l0, .int .i64 l1, .int .i64 l2]), (gp, 74, pV x)] x.w0 x.w1 x.l0 x.l1 1 0 (σ 6) (σ 9) (σ 17) (σ 20) W := hJ
                        obtain ⟨p0, p1, p2, p3, p4, p5, p6⟩ := (show Blk W gp 74 (pV x) from hJ2.bl (gp, 74, pV x) (by simp)).part
                        go_simp
                        exact hK _ hJ
                      refine Vals9.Steps.mark rfl ?_ ?_
                      · intro a W σ hJ hn pre K hK
                        have e100 := pre.1 2 100 _ (by kernel_rfl) rfl rfl
                        have e103 := pre.1 5 103 _ (by kernel_rfl) rfl rfl
                        simp only [Array.getD_eq_getD_getElem?, List.getElem?_toArray, List.getElem?_cons_zero, List.getElem?_cons_succ, Option.getD_some] at e100 e103
                        have hJ2 : Lq w [(w.heap.size, 24, hV h ⟨some ad, mc⟩), (gq, 32, #[.int .i64 l0, .int .i64 l1, .int .i64 l2]), (gp, 74, pV x)] x.w0 x.w1 x.l0 x.l1 1 0 (σ 6) (σ 9) (σ 17) (σ 20) W := hJ
                        go_simp
                        have hk := hJ2.keep ((Below.refl _ _).alloc (Nat.le_refl _) (.cells #[.int .i64 x.w0, .int .i64 x.w1] 3))
                        exact hK _ _ ⟨hk.sn, hk.bl, fun v hv => ⟨_, (Option.some.inj hv).symm, Blk.new _ _ _⟩, hk.xa, hk.lb, hk.xb⟩
                      refine Vals9.Steps.run rfl ?_ ?_
                      · intro a W σ hJ pre K hK
                        have e15 := pre.2.2 15 _ (by kernel_rfl) rfl
                        clear pre
                        simp only [Array.getD_eq_getD_getElem?, List.getElem?_toArray, List.getElem?_cons_zero, List.getElem?_cons_succ, Option.getD_some] at e15
                        go_simp
                        exact hK _ hJ
                      refine Vals9.Steps.run rfl ?_ ?_
                      · intro a W σ hJ pre K hK
                        have e105 := pre.1 7 105 _ (by kernel_rfl) rfl rfl
                        clear pre
                        simp only [Array.getD_eq_getD_getElem?, List.getElem?_toArray, List.getElem?_cons_zero, List.getElem?_cons_succ, Option.getD_some] at e105
                        go_simp
                        exact hK _ hJ
                      refine Vals9.Steps.mark rfl ?_ ?_
                      · intro a W σ hJ hn pre K hK
                        obtain ⟨v104, s104, e104⟩ := pre.2.1 6 (by kernel_rfl) rfl
                        replace e104 : a.tmps.getD 104 undef = v104 := e104 104 rfl
                        have e106 := pre.1 8 106 _ (by kernel_rfl) rfl rfl
                        simp only [Array.getD_eq_getD_getElem?, List.getElem?_toArray, List.getElem?_cons_zero, List.getElem?_cons_succ, Option.getD_some] at e104 e106
                        have hJ2 : Lq w [(w.heap.size, 24, hV h ⟨some ad, mc⟩), (gq, 32, #[.int .i64 l0, .int .i64 l1, .int .i64 l2]), (gp, 74, pV x)] x.w0 x.w1 x.l0 x.l1 1 0 (σ 6) (σ 9) (σ 17) (σ 20) W := hJ
                        obtain ⟨g, e9, hb⟩ := hJ2.la _ s104
                        rw [e9] at e104
                        go_simp
                        exact hK _ _ ⟨hJ2.sn, hJ2.bl, hJ2.la, fun v hv => ⟨g, (Option.some.inj hv).symm, hb⟩, hJ2.lb, hJ2.xb⟩
                      refine Vals9.Steps.run rfl ?_ ?_
                      · intro a W σ hJ pre K hK
                        obtain ⟨v107, s107, e107⟩ := pre.2.1 9 (by kernel_rfl) rfl
                        replace e107 : a.tmps.getD 107 undef = v107 := e107 107 rfl
                        clear pre
                        simp only [Array.getD_eq_getD_getElem?, List.getElem?_toArray, List.getElem?_cons_zero, List.getElem?_cons_succ, Option.getD_some] at e107
                        have hJ2 : Lq w [(w.heap.size, 24, hV h ⟨some ad, mc⟩), (gq, 32, #[.int .i64 l0, .int .i64 l1, .int .i64 l2]), (gp, 74, pV x)] x.w0 x.w1 x.l0 x.l1 1 0 (σ 6) (σ 9) (σ 17) (σ 20) W := hJ
                        obtain ⟨g, e9, hb⟩ := hJ2.xa _ s107
                        rw [e9] at e107
                        have b0 := hb.cell 1
                        simp only [List.getElem?_toArray, List.getElem?_cons_zero, List.getElem?_cons_succ] at b0
                        rw [show x.w1 = G_ from HG_.out] at b0
                        go_simp
                        exact hK _ hJ
                      refine Vals9.Steps.run rfl ?_ ?_
                      · intro a W σ hJ pre K hK
                        have e13 := pre.2.2 13 _ (by kernel_rfl) rfl
                        clear pre
                        simp only [Array.getD_eq_getD_getElem?, List.getElem?_toArray, List.getElem?_cons_zero, List.getElem?_cons_succ, Option.getD_some] at e13
                        go_simp
                        exact hK _ hJ
                      refine Vals9.Steps.run rfl ?_ ?_
                      · intro a W σ hJ pre K hK
                        have e109 := pre.1 11 109 _ (by kernel_rfl) rfl rfl
                        clear pre
                        simp only [Array.getD_eq_getD_getElem?, List.getElem?_toArray, List.getElem?_cons_zero, List.getElem?_cons_succ, Option.getD_some] at e109
                        go_simp
                        exact hK _ hJ
                      refine Vals9.Steps.run rfl ?_ ?_
                      · intro a W σ hJ pre K hK
                        have e110 := pre.1 12 110 _ (by kernel_rfl) rfl rfl
                        clear pre
                        simp only [Array.getD_eq_getD_getElem?, List.getElem?_toArray, List.getElem?_cons_zero, List.getElem?_cons_succ, Option.getD_some] at e110
                        have hJ2 : Lq w [(w.heap.size, 24, hV h ⟨some ad, mc⟩), (gq, 32, #[.int .i64 l0, .int .i64 l1, .int .i64 l2]), (gp, 74, pV x)] x.w0 x.w1 x.l0 x.l1 1 0 (σ 6) (σ 9) (σ 17) (σ 20) W := hJ
                        obtain ⟨p0, p1, p2, p3, p4, p5, p6⟩ := (show Blk W gp 74 (pV x) from hJ2.bl (gp, 74, pV x) (by simp)).part
                        go_simp
                        exact hK _ hJ
                      refine Vals9.Steps.run rfl ?_ ?_
                      · intro a W σ hJ pre K hK
                        have e13 := pre.2.2 13 _ (by kernel_rfl) rfl
                        clear pre
                        simp only [Array.getD_eq_getD_getElem?, List.getElem?_toArray, List.getElem?_cons_zero, List.getElem?_cons_succ, Option.getD_some] at e13
                        go_simp
                        exact hK _ hJ
                      refine Vals9.Steps.run rfl ?_ ?_
                      · intro a W σ hJ pre K hK
                        have e112 := pre.1 14 112 _ (by kernel_rfl) rfl rfl
                        clear pre
                        simp only [Array.getD_eq_getD_getElem?, List.getElem?_toArray, List.getElem?_cons_zero, List.getElem?_cons_succ, Option.getD_some] at e112
                        go_simp
                        exact hK _ hJ
                      refine Vals9.Steps.run rfl ?_ ?_
                      · intro a W σ hJ pre K hK
                        have e113 := pre.1 15 113 _ (by kernel_rfl) rfl rfl
                        clear pre
                        simp only [Array.getD_eq_getD_getElem?, List.getElem?_toArray, List.getElem?_cons_zero, List.getElem?_cons_succ, Option.getD_some] at e113
                        have hJ2 : Lq w [(w.heap.size, 24, hV h ⟨some ad, mc⟩), (gq, 32, #[.int .i64 l0, .int .i64 l1, .int .i64 l2]), (gp, 74, pV x)] x.w0 x.w1 x.l0 x.l1 1 0 (σ 6) (σ 9) (σ 17) (σ 20) W := hJ
                        obtain ⟨p0, p1, p2, p3, p4, p5, p6⟩ := (show Blk W gp 74 (pV x) from hJ2.bl (gp, 74, pV x) (by simp)).part
                        go_simp
                        exact hK _ hJ
                      refine Vals9.Steps.mark rfl ?_ ?_
                      · intro a W σ hJ hn pre K hK
                        have e111 := pre.1 13 111 _ (by kernel_rfl) rfl rfl
                        have e114 := pre.1 16 114 _ (by kernel_rfl) rfl rfl
                        simp only [Array.getD_eq_getD_getElem?, List.getElem?_toArray, List.getElem?_cons_zero, List.getElem?_cons_succ, Option.getD_some] at e111 e114
                        have hJ2 : Lq w [(w.heap.size, 24, hV h ⟨some ad, mc⟩), (gq, 32, #[.int .i64 l0, .int .i64 l1, .int .i64 l2]), (gp, 74, pV x)] x.w0 x.w1 x.l0 x.l1 1 0 (σ 6) (σ 9) (σ 17) (σ 20) W := hJ
                        go_simp
                        have hk := hJ2.keep ((Below.refl _ _).alloc (Nat.le_refl _) (.cells #[.int .i64 x.l0, .int .i64 x.l1] 3))
                        exact hK _ _ ⟨hk.sn, hk.bl, hk.la, hk.xa, fun v hv => ⟨_, (Option.some.inj hv).symm, Blk.new _ _ _⟩, hk.xb⟩
                      refine Vals9.Steps.run rfl ?_ ?_
                      · intro a W σ hJ pre K hK
                        have e15 := pre.2.2 15 _ (by kernel_rfl) rfl
                        clear pre
                        simp only [Array.getD_eq_getD_getElem?, List.getElem?_toArray, List.getElem?_cons_zero, List.getElem?_cons_succ, Option.getD_some] at e15
                        go_simp
                        exact hK _ hJ
                      refine Vals9.Steps.run rfl ?_ ?_
                      · intro a W σ hJ pre K hK
                        have e116 := pre.1 18 116 _ (by kernel_rfl) rfl rfl
                        clear pre
                        simp only [Array.getD_eq_getD_getElem?, List.getElem?_toArray, List.getElem?_cons_zero, List.getElem?_cons_succ, Option.getD_some] at e116
                        go_simp
                        exact hK _ hJ
                      refine Vals9.Steps.mark rfl ?_ ?_
                      · intro a W σ hJ hn pre K hK
                        obtain ⟨v115, s115, e115⟩ := pre.2.1 17 (by kernel_rfl) rfl
                        replace e115 : a.tmps.getD 115 undef = v115 := e115 115 rfl
                        have e117 := pre.1 19 117 _ (by kernel_rfl) rfl rfl
                        simp only [Array.getD_eq_getD_getElem?, List.getElem?_toArray, List.getElem?_cons_zero, List.getElem?_cons_succ, Option.getD_some] at e115 e117
                        have hJ2 : Lq w [(w.heap.size, 24, hV h ⟨some ad, mc⟩), (gq, 32, #[.int .i64 l0, .int .i64 l1, .int .i64 l2]), (gp, 74, pV x)] x.w0 x.w1 x.l0 x.l1 1 0 (σ 6) (σ 9) (σ 17) (σ 20) W := hJ
                        obtain ⟨g, e9, hb⟩ := hJ2.lb _ s115
                        rw [e9] at e115
                        go_simp
                        exact hK _ _ ⟨hJ2.sn, hJ2.bl, hJ2.la, hJ2.xa, hJ2.lb, fun v hv => ⟨g, (Option.some.inj hv).symm, hb⟩⟩
                      refine Vals9.Steps.run rfl ?_ ?_
                      · intro a W σ hJ pre K hK
                        obtain ⟨v118, s118, e118⟩ := pre.2.1 20 (by kernel_rfl) rfl
                        replace e118 : a.tmps.getD 118 undef = v118 := e118 118 rfl
                        clear pre
                        simp only [Array.getD_eq_getD_getElem?, List.getElem?_toArray, List.getElem?_cons_zero, List.getElem?_cons_succ, Option.getD_some] at e118
                        have hJ2 : Lq w [(w.heap.size, 24, hV h ⟨some ad, mc⟩), (gq, 32, #[.int .i64 l0, .int .i64 l1, .int .i64 l2]), (gp, 74, pV x)] x.w0 x.w1 x.l0 x.l1 1 0 (σ 6) (σ 9) (σ 17) (σ 20) W := hJ
                        obtain ⟨g, e9, hb⟩ := hJ2.xb _ s118
                        rw [e9] at e118
                        have b0 := hb.cell 0
                        simp only [List.getElem?_toArray, List.getElem?_cons_zero, List.getElem?_cons_succ] at b0
                        rw [show x.l0 = L_ from HL_.out] at b0
                        go_simp
                        exact hK _ hJ
                      refine Vals9.Steps.run rfl ?_ ?_
                      · intro a W σ hJ pre K hK
                        have e5 := pre.2.2 5 _ (by kernel_rfl) rfl
                        clear pre
                        simp only [Array.getD_eq_getD_getElem?, List.getElem?_toArray, List.getElem?_cons_zero, List.getElem?_cons_succ, Option.getD_some] at e5
                        go_simp
                        exact hK _ hJ
                      refine Vals9.Steps.run rfl ?_ ?_
                      · intro a W σ hJ pre K hK
                        have e13 := pre.2.2 13 _ (by kernel_rfl) rfl
                        clear pre
                        simp only [Array.getD_eq_getD_getElem?, List.getElem?_toArray, List.getElem?_cons_zero, List.getElem?_cons_succ, Option.getD_some] at e13
                        go_simp
                        exact hK _ hJ
                      refine Vals9.Steps.run rfl ?_ ?_
                      · intro a W σ hJ pre K hK
                        have e121 := pre.1 23 121 _ (by kernel_rfl) rfl rfl
                        clear pre
                        simp only [Array.getD_eq_getD_getElem?, List.getElem?_toArray, List.getElem?_cons_zero, List.getElem?_cons_succ, Option.getD_some] at e121
                        have hJ2 : Lq w [(w.heap.size, 24, hV h ⟨some ad, mc⟩), (gq, 32, #[.int .i64 l0, .int .i64 l1, .int .i64 l2]), (gp, 74, pV x)] x.w0 x.w1 x.l0 x.l1 1 0 (σ 6) (σ 9) (σ 17) (σ 20) W := hJ
                        obtain ⟨p0, p1, p2, p3, p4, p5, p6⟩ := (show Blk W gp 74 (pV x) from hJ2.bl (gp, 74, pV x) (by simp)).part
                        go_simp
                        exact hK _ hJ
                      refine Vals9.Steps.run rfl ?_ ?_
                      · intro a W σ hJ pre K hK
                        have e120 := pre.1 22 120 _ (by kernel_rfl) rfl rfl
                        have e122 := pre.1 24 122 _ (by kernel_rfl) rfl rfl
                        clear pre
                        simp only [Array.getD_eq_getD_getElem?, List.getElem?_toArray, List.getElem?_cons_zero, List.getElem?_cons_succ, Option.getD_some] at e120 e122
                        have e9 := E1.out
                        go_simp
                        exact hK _ hJ
                      refine Vals9.Steps.run rfl ?_ ?_
                      · intro a W σ hJ pre K hK
                        have e123 := pre.1 25 123 _ (by kernel_rfl) rfl rfl
                        clear pre
                        simp only [Array.getD_eq_getD_getElem?, List.getElem?_toArray, List.getElem?_cons_zero, List.getElem?_cons_succ, Option.getD_some] at e123
                        go_simp
                        exact hK _ hJ
                      refine Vals9.Steps.run rfl ?_ ?_
                      · intro a W σ hJ pre K hK
                        have e119 := pre.1 21 119 _ (by kernel_rfl) rfl rfl
                        have e124 := pre.1 26 124 _ (by kernel_rfl) rfl rfl
                        clear pre
                        simp only [Array.getD_eq_getD_getElem?, List.getElem?_toArray, List.getElem?_cons_zero, List.getElem?_cons_succ, Option.getD_some] at e119 e124
                        have e9 := E2.out
                        go_simp
                        exact hK _ hJ
                      refine Vals9.Steps.run rfl ?_ ?_
                      · intro a W σ hJ pre K hK
                        have e108 := pre.1 10 108 _ (by kernel_rfl) rfl rfl
                        have e125 := pre.1 27 125 _ (by kernel_rfl) rfl rfl
                        clear pre
                        simp only [Array.getD_eq_getD_getElem?, List.getElem?_toArray, List.getElem?_cons_zero, List.getElem?_cons_succ, Option.getD_some] at e108 e125
                        have e9 := E3.out
                        go_simp
                        exact hK _ hJ
                      refine Vals9.Steps.run rfl ?_ ?_
                      · intro a W σ hJ pre K hK
                        have e126 := pre.1 28 126 _ (by kernel_rfl) rfl rfl
                        clear pre
                        simp only [Array.getD_eq_getD_getElem?, List.getElem?_toArray, List.getElem?_cons_zero, List.getElem?_cons_succ, Option.getD_some] at e126
                        go_simp
                        exact hK _ hJ
                      exact Vals9.Steps.nil
                    case hfin =>
                      rintro X σ hJ
                      simp only [Vals9.All]
                      rintro v6 s6 v9 s9 v17 s17 v20 s20
                      simp only [Vals.putAll, List.setIfInBounds_toArray, List.set_cons_zero, List.set_cons_succ]
                      have hJ2 : Lq w [(w.heap.size, 24, hV h ⟨some ad, mc⟩), (gq, 32, #[.int .i64 l0, .int .i64 l1, .int .i64 l2]), (gp, 74, pV x)] x.w0 x.w1 x.l0 x.l1 1 0 (σ 6) (σ 9) (σ 17) (σ 20) X := hJ
                      have hs2 := hJ2.sn
                      have HB2 := Lib.hid (show Blk X w.heap.size 24 (hV h ⟨some ad, mc⟩) from hJ2.bl (w.heap.size, 24, hV h ⟨some ad, mc⟩) (by simp))
                      have HQ2 := Lib.hid (show Blk X gq 32 #[.int .i64 l0, .int .i64 l1, .int .i64 l2] from hJ2.bl (gq, 32, #[.int .i64 l0, .int .i64 l1, .int .i64 l2]) (by simp))
                      have HK2 := Lib.hid (show Blk X gp 74 (pV x) from hJ2.bl (gp, 74, pV x) (by simp))
                      clear hJ hJ2 s6 s9 s17 s20
                      replace hs := hs2
                      replace HB := HB2
                      replace HQ := HQ2
                      replace HK := HK2
                      clear hs2 HB2 HQ2 HK2
                      obtain ⟨c0, c1, c2⟩ := HB.out.hull
                      obtain ⟨p0, p1, p2, p3, p4, p5, p6⟩ := HK.out.part
                      have e5 := E5.out
                      have e6 := E6.out
                      have NE := HNE.out
                      have EB := HEB.out
                      have hs5 := Lib.hid (hs.alloc (.cells #[.int .i64 1, .int .i64 (x.pt - h.aft), .int .i64 (h.fore - x.pt)] 3))
                      have HB5 := Lib.hid (HB.out.alloc (.cells #[.int .i64 1, .int .i64 (x.pt - h.aft), .int .i64 (h.fore - x.pt)] 3))
                      have HQ5 := Lib.hid (HQ.out.alloc (.cells #[.int .i64 1, .int .i64 (x.pt - h.aft), .int .i64 (h.fore - x.pt)] 3))
                      have HK5 := Lib.hid (HK.out.alloc (.cells #[.int .i64 1, .int .i64 (x.pt - h.aft), .int .i64 (h.fore - x.pt)] 3))
                      rcases (by omega : s = 0 ∨ s = 1 ∨ s = 2) with rfl | rfl | rfl
                      · replace NE : endV h.aft h.fore 0 x wt 1 = v := NE
                        replace EB : -25000000000 ≤ v ∧ v ≤ 25000000000 := EB
                        have e7 : IntKind.i64.wrap (v) = v := IntWalk.i64_in _ (by omega)
                        have hz := HZ.out (by omega)
                        replace hz : z = lendV h.aft h.fore 0 x wt 0 := hz
                        have HNL : Hid (lendV h.aft h.fore 0 x wt 1 = if v < z then v else z) := by show lendV _ _ _ _ _ (0 + 1) = _; unfold lendV; rw [NE, ← hz]
                        clear NE EB hz
                        by_cases hlz : v < z
                        · have HNM : Hid (lendV h.aft h.fore 0 x wt 1 = v) := HNL.out.trans (if_pos hlz)
                          go_wp2_with fail
                          go_roundw
                          case rel => exact ⟨2, _, by omega, rfl, rfl, fun _ => HNM.out.symm, hs5, HB5, HQ5, HK5⟩
                          case measure => simp [intOf]
                        · have HNM : Hid (lendV h.aft h.fore 0 x wt 1 = z) := HNL.out.trans (if_neg hlz)
                          go_wp2_with fail
                          go_roundw
                          case rel => exact ⟨2, _, by omega, rfl, rfl, fun _ => HNM.out.symm, hs5, HB5, HQ5, HK5⟩
                          case measure => simp [intOf]
                      · replace NE : endV h.aft h.fore 1 x wt 1 = v * (x.pt - h.aft) := NE
                        replace EB : -25000000000 ≤ v * (x.pt - h.aft) ∧ v * (x.pt - h.aft) ≤ 25000000000 := EB
                        have e7 : IntKind.i64.wrap (v * (x.pt - h.aft)) = v * (x.pt - h.aft) := IntWalk.i64_in _ (by omega)
                        have hz := HZ.out (by omega)
                        replace hz : z = lendV h.aft h.fore 1 x wt 0 := hz
                        have HNL : Hid (lendV h.aft h.fore 1 x wt 1 = if v * (x.pt - h.aft) < z then v * (x.pt - h.aft) else z) := by show lendV _ _ _ _ _ (0 + 1) = _; unfold lendV; rw [NE, ← hz]
                        clear NE EB hz
                        by_cases hlz : v * (x.pt - h.aft) < z
                        · have HNM : Hid (lendV h.aft h.fore 1 x wt 1 = v * (x.pt - h.aft)) := HNL.out.trans (if_pos hlz)
                          go_wp2_with fail
                          go_roundw
                          case rel => exact ⟨2, _, by omega, rfl, rfl, fun _ => HNM.out.symm, hs5, HB5, HQ5, HK5⟩
                          case measure => simp [intOf]
                        · have HNM : Hid (lendV h.aft h.fore 1 x wt 1 = z) := HNL.out.trans (if_neg hlz)
                          go_wp2_with fail
                          go_roundw
                          case rel => exact ⟨2, _, by omega, rfl, rfl, fun _ => HNM.out.symm, hs5, HB5, HQ5, HK5⟩
                          case measure => simp [intOf]
                      · replace NE : endV h.aft h.fore 2 x wt 1 = v * (h.fore - x.pt) := NE
                        replace EB : -25000000000 ≤ v * (h.fore - x.pt) ∧ v * (h.fore - x.pt) ≤ 25000000000 := EB
                        have e7 : IntKind.i64.wrap (v * (h.fore - x.pt)) = v * (h.fore - x.pt) := IntWalk.i64_in _ (by omega)
                        have hz := HZ.out (by omega)
                        replace hz : z = lendV h.aft h.fore 2 x wt 0 := hz
                        have HNL : Hid (lendV h.aft h.fore 2 x wt 1 = if v * (h.fore - x.pt) < z then v * (h.fore - x.pt) else z) := by show lendV _ _ _ _ _ (0 + 1) = _; unfold lendV; rw [NE, ← hz]
                        clear NE EB hz
                        by_cases hlz : v * (h.fore - x.pt) < z
                        · have HNM : Hid (lendV h.aft h.fore 2 x wt 1 = v * (h.fore - x.pt)) := HNL.out.trans (if_pos hlz)
                          go_wp2_with fail
                          go_roundw
                          case rel => exact ⟨2, _, by omega, rfl, rfl, fun _ => HNM.out.symm, hs5, HB5, HQ5, HK5⟩
                          case measure => simp [intOf]
                        · have HNM : Hid (lendV h.aft h.fore 2 x wt 1 = z) := HNL.out.trans (if_neg hlz)
                          go_wp2_with fail
                          go_roundw
                          case rel => exact ⟨2, _, by omega, rfl, rfl, fun _ => HNM.out.symm, hs5, HB5, HQ5, HK5⟩
                          case measure => simp [intOf]
                  · refine Vals9.region (fun σ Z => Lq w [(w.heap.size, 24, hV h ⟨some ad, mc⟩), (gq, 32, #[.int .i64 l0, .int .i64 l1, .int .i64 l2]), (gp, 74, pV x)] x.w0 x.w1 x.l0 x.l1 0 1 (σ 6) (σ 9) (σ 17) (σ 20) Z) [some 98, some 99, some 100, some 101, some 102, some 103, some 104, some 105, some 106, some 107, some 108, some 109, some 110, some 111, some 112, some 113, some 114, some 115, some 116, some 117, some 118, some 119, some 120, some 121, some 122, some 123, some 124, some 125, some 126, some 16] [.is ?_, .is ?_, .is ?_, .is ?_, .is ?_, .is ?_, .any, .is ?_, .is ?_, .any, .is (.int .i64 G_), .is ?_, .is ?_, .is ?_, .is ?_, .is ?_, .is ?_, .any, .is ?_, .is ?_, .any, .is (.int .i64 L_), .is ?_, .is ?_, .is ?_, .is (.int .i64 (wt - x.kl)), .is (.int .i64 (abv x wt)), .is (.int .i64 (L_ * abv x wt)), .is (.int .i64 v), .is ?_] (by kernel_rfl) (by kernel_rfl) (by kernel_rfl) (by kernel_rfl) (by kernel_rfl) (by kernel_rfl) (⟨hs.drew, (fun b hb => by simp only [List.mem_cons, List.not_mem_nil, or_false] at hb; rcases hb with rfl | rfl | rfl; exact HB.out.drew; exact HQ.out.drew; exact HK.out.drew), (fun v hv => by cases hv), (fun v hv => by cases hv), (fun v hv => by cases hv), (fun v hv => by cases hv)⟩) ?hsteps ?hfin
                    case hsteps =>
                      refine Vals9.Steps.run rfl ?_ ?_
                      · intro a W σ hJ pre K hK
                        have e13 := pre.2.2 13 _ (by kernel_rfl) rfl
                        clear pre
                        simp only [Array.getD_eq_getD_getElem?, List.getElem?_toArray, List.getElem?_cons_zero, List.getElem?_cons_succ, Option.getD_some] at e13
                        go_simp
                        exact hK _ hJ
                      refine Vals9.Steps.run rfl ?_ ?_
                      · intro a W σ hJ pre K hK
                        have e98 := pre.1 0 98 _ (by kernel_rfl) rfl rfl
                        clear pre
                        simp only [Array.getD_eq_getD_getElem?, List.getElem?_toArray, List.getElem?_cons_zero, List.getElem?_cons_succ, Option.getD_some] at e98
                        go_simp
                        exact hK _ hJ
                      refine Vals9.Steps.run rfl ?_ ?_
                      · intro a W σ hJ pre K hK
                        have e99 := pre.1 1 99 _ (by kernel_rfl) rfl rfl
                        clear pre
                        simp only [Array.getD_eq_getD_getElem?, List.getElem?_toArray, List.getElem?_cons_zero, List.getElem?_cons_succ, Option.getD_some] at e99
                        have hJ2 : Lq w [(w.heap.size, 24, hV h ⟨some ad, mc⟩), (gq, 32, #[.int .i64 l0, .int .i64 l1, .int .i64 l2]), (gp, 74, pV x)] x.w0 x.w1 x.l0 x.l1 0 1 (σ 6) (σ 9) (σ 17) (σ 20) W := hJ
                        obtain ⟨p0, p1, p2, p3, p4, p5, p6⟩ := (show Blk W gp 74 (pV x) from hJ2.bl (gp, 74, pV x) (by simp)).part
                        go_simp
                        exact hK _ hJ
                      refine Vals9.Steps.run rfl ?_ ?_
                      · intro a W σ hJ pre K hK
                        have e13 := pre.2.2 13 _ (by kernel_rfl) rfl
                        clear pre
                        simp only [Array.getD_eq_getD_getElem?, List.getElem?_toArray, List.getElem?_cons_zero, List.getElem?_cons_succ, Option.getD_some] at e13
                        go_simp
                        exact hK _ hJ
                      refine Vals9.Steps.run rfl ?_ ?_
                      · intro a W σ hJ pre K hK
                        have e101 := pre.1 3 101 _ (by kernel_rfl) rfl rfl
                        clear pre
                        simp only [Array.getD_eq_getD_getElem?, List.getElem?_toArray, List.getElem?_cons_zero, List.getElem?_cons_succ, Option.getD_some] at e101
                        go_simp
                        exact hK _ hJ
                      refine Vals9.Steps.run rfl ?_ ?_
                      · intro a W σ hJ pre K hK
                        have e102 := pre.1 4 102 _ (by kernel_rfl) rfl rfl
                        clear pre
                        simp only [Array.getD_eq_getD_getElem?, List.getElem?_toArray, List.getElem?_cons_zero, List.getElem?_cons_succ, Option.getD_some] at e102
                        have hJ2 : Lq w [(w.heap.size, 24, hV h ⟨some ad, mc⟩), (gq, 32, #[.int .i64 l0, .int .i64 l1, .int .i64 l2]), (gp, 74, pV x)] x.w0 x.w1 x.l0 x.l1 0 1 (σ 6) (σ 9) (σ 17) (σ 20) W := hJ
                        obtain ⟨p0, p1, p2, p3, p4, p5, p6⟩ := (show Blk W gp 74 (pV x) from hJ2.bl (gp, 74, pV x) (by simp)).part
                        go_simp
                        exact hK _ hJ
                      refine Vals9.Steps.mark rfl ?_ ?_
                      · intro a W σ hJ hn pre K hK
                        have e100 := pre.1 2 100 _ (by kernel_rfl) rfl rfl
                        have e103 := pre.1 5 103 _ (by kernel_rfl) rfl rfl
                        simp only [Array.getD_eq_getD_getElem?, List.getElem?_toArray, List.getElem?_cons_zero, List.getElem?_cons_succ, Option.getD_some] at e100 e103
                        have hJ2 : Lq w [(w.heap.size, 24, hV h ⟨some ad, mc⟩), (gq, 32, #[.int .i64 l0, .int .i64 l1, .int .i64 l2]), (gp, 74, pV x)] x.w0 x.w1 x.l0 x.l1 0 1 (σ 6) (σ 9) (σ 17) (σ 20) W := hJ
                        go_simp
                        have hk := hJ2.keep ((Below.refl _ _).alloc (Nat.le_refl _) (.cells #[.int .i64 x.w0, .int .i64 x.w1] 3))
                        exact hK _ _ ⟨hk.sn, hk.bl, fun v hv => ⟨_, (Option.some.inj hv).symm, Blk.new _ _ _⟩, hk.xa, hk.lb, hk.xb⟩
                      refine Vals9.Steps.run rfl ?_ ?_
                      · intro a W σ hJ pre K hK
                        have e15 := pre.2.2 15 _ (by kernel_rfl) rfl
                        clear pre
                        simp only [Array.getD_eq_getD_getElem?, List.getElem?_toArray, List.getElem?_cons_zero, List.getElem?_cons_succ, Option.getD_some] at e15
                        go_simp
                        exact hK _ hJ
                      refine Vals9.Steps.run rfl ?_ ?_
                      · intro a W σ hJ pre K hK
                        have e105 := pre.1 7 105 _ (by kernel_rfl) rfl rfl
                        clear pre
                        simp only [Array.getD_eq_getD_getElem?, List.getElem?_toArray, List.getElem?_cons_zero, List.getElem?_cons_succ, Option.getD_some] at e105
                        go_simp
                        exact hK _ hJ
                      refine Vals9.Steps.mark rfl ?_ ?_
                      · intro a W σ hJ hn pre K hK
                        obtain ⟨v104, s104, e104⟩ := pre.2.1 6 (by kernel_rfl) rfl
                        replace e104 : a.tmps.getD 104 undef = v104 := e104 104 rfl
                        have e106 := pre.1 8 106 _ (by kernel_rfl) rfl rfl
                        simp only [Array.getD_eq_getD_getElem?, List.getElem?_toArray, List.getElem?_cons_zero, List.getElem?_cons_succ, Option.getD_some] at e104 e106
                        have hJ2 : Lq w [(w.heap.size, 24, hV h ⟨some ad, mc⟩), (gq, 32, #[.int .i64 l0, .int .i64 l1, .int .i64 l2]), (gp, 74, pV x)] x.w0 x.w1 x.l0 x.l1 0 1 (σ 6) (σ 9) (σ 17) (σ 20) W := hJ
                        obtain ⟨g, e9, hb⟩ := hJ2.la _ s104
                        rw [e9] at e104
                        go_simp
                        exact hK _ _ ⟨hJ2.sn, hJ2.bl, hJ2.la, fun v hv => ⟨g, (Option.some.inj hv).symm, hb⟩, hJ2.lb, hJ2.xb⟩
                      refine Vals9.Steps.run rfl ?_ ?_
                      · intro a W σ hJ pre K hK
                        obtain ⟨v107, s107, e107⟩ := pre.2.1 9 (by kernel_rfl) rfl
                        replace e107 : a.tmps.getD 107 undef = v107 := e107 107 rfl
                        clear pre
                        simp only [Array.getD_eq_getD_getElem?, List.getElem?_toArray, List.getElem?_cons_zero, List.getElem?_cons_succ, Option.getD_some] at e107
                        have hJ2 : Lq w [(w.heap.size, 24, hV h ⟨some ad, mc⟩), (gq, 32, #[.int .i64 l0, .int .i64 l1, .int .i64 l2]), (gp, 74, pV x)] x.w0 x.w1 x.l0 x.l1 0 1 (σ 6) (σ 9) (σ 17) (σ 20) W := hJ
                        obtain ⟨g, e9, hb⟩ := hJ2.xa _ s107
                        rw [e9] at e107
                        have b0 := hb.cell 0
                        simp only [List.getElem?_toArray, List.getElem?_cons_zero, List.getElem?_cons_succ] at b0
                        rw [show x.w0 = G_ from HG_.out] at b0
                        go_simp
                        exact hK _ hJ
                      refine Vals9.Steps.run rfl ?_ ?_
                      · intro a W σ hJ pre K hK
                        have e13 := pre.2.2 13 _ (by kernel_rfl) rfl
                        clear pre
                        simp only [Array.getD_eq_getD_getElem?, List.getElem?_toArray, List.getElem?_cons_zero, List.getElem?_cons_succ, Option.getD_some] at e13
                        go_simp
                        exact hK _ hJ
                      refine Vals9.Steps.run rfl ?_ ?_
                      · intro a W σ hJ pre K hK
                        have e109 := pre.1 11 109 _ (by kernel_rfl) rfl rfl
                        clear pre
                        simp only [Array.getD_eq_getD_getElem?, List.getElem?_toArray, List.getElem?_cons_zero, List.getElem?_cons_succ, Option.getD_some] at e109
                        go_simp
                        exact hK _ hJ
                      refine Vals9.Steps.run rfl ?_ ?_
                      · intro a W σ hJ pre K hK
                        have e110 := pre.1 12 110 _ (by kernel_rfl) rfl rfl
                        clear pre
                        simp only [Array.getD_eq_getD_getElem?, List.getElem?_toArray, List.getElem?_cons_zero, List.getElem?_cons_succ, Option.getD_some] at e110
                        have hJ2 : Lq w [(w.heap.size, 24, hV h ⟨some ad, mc⟩), (gq, 32, #[.int .i64 l0, .int .i64 l1, .int .i64 l2]), (gp, 74, pV x)] x.w0 x.w1 x.l0 x.l1 0 1 (σ 6) (σ 9) (σ 17) (σ 20) W := hJ
                        obtain ⟨p0, p1, p2, p3, p4, p5, p6⟩ := (show Blk W gp 74 (pV x) from hJ2.bl (gp, 74, pV x) (by simp)).part
                        go_simp
                        exact hK _ hJ
                      refine Vals9.Steps.run rfl ?_ ?_
                      · intro a W σ hJ pre K hK
                        have e13 := pre.2.2 13 _ (by kernel_rfl) rfl
                        clear pre
                        simp only [Array.getD_eq_getD_getElem?, List.getElem?_toArray, List.getElem?_cons_zero, List.getElem?_cons_succ, Option.getD_some] at e13
                        go_simp
                        exact hK _ hJ
                      refine Vals9.Steps.run rfl ?_ ?_
                      · intro a W σ hJ pre K hK
                        have e112 := pre.1 14 112 _ (by kernel_rfl) rfl rfl
                        clear pre
                        simp only [Array.getD_eq_getD_getElem?, List.getElem?_toArray, List.getElem?_cons_zero, List.getElem?_cons_succ, Option.getD_some] at e112
                        go_simp
                        exact hK _ hJ
                      refine Vals9.Steps.run rfl ?_ ?_
                      · intro a W σ hJ pre K hK
                        have e113 := pre.1 15 113 _ (by kernel_rfl) rfl rfl
                        clear pre
                        simp only [Array.getD_eq_getD_getElem?, List.getElem?_toArray, List.getElem?_cons_zero, List.getElem?_cons_succ, Option.getD_some] at e113
                        have hJ2 : Lq w [(w.heap.size, 24, hV h ⟨some ad, mc⟩), (gq, 32, #[.int .i64 l0, .int .i64 l1, .int .i64 l2]), (gp, 74, pV x)] x.w0 x.w1 x.l0 x.l1 0 1 (σ 6) (σ 9) (σ 17) (σ 20) W := hJ
                        obtain ⟨p0, p1, p2, p3, p4, p5, p6⟩ := (show Blk W gp 74 (pV x) from hJ2.bl (gp, 74, pV x) (by simp)).part
                        go_simp
                        exact hK _ hJ
                      refine Vals9.Steps.mark rfl ?_ ?_
                      · intro a W σ hJ hn pre K hK
                        have e111 := pre.1 13 111 _ (by kernel_rfl) rfl rfl
                        have e114 := pre.1 16 114 _ (by kernel_rfl) rfl rfl
                        simp only [Array.getD_eq_getD_getElem?, List.getElem?_toArray, List.getElem?_cons_zero, List.getElem?_cons_succ, Option.getD_some] at e111 e114
                        have hJ2 : Lq w [(w.heap.size, 24, hV h ⟨some ad, mc⟩), (gq, 32, #[.int .i64 l0, .int .i64 l1, .int .i64 l2]), (gp, 74, pV x)] x.w0 x.w1 x.l0 x.l1 0 1 (σ 6) (σ 9) (σ 17) (σ 20) W := hJ
                        go_simp
                        have hk := hJ2.keep ((Below.refl _ _).alloc (Nat.le_refl _) (.cells #[.int .i64 x.l0, .int .i64 x.l1] 3))
                        exact hK _ _ ⟨hk.sn, hk.bl, hk.la, hk.xa, fun v hv => ⟨_, (Option.some.inj hv).symm, Blk.new _ _ _⟩, hk.xb⟩
                      refine Vals9.Steps.run rfl ?_ ?_
                      · intro a W σ hJ pre K hK
                        have e15 := pre.2.2 15 _ (by kernel_rfl) rfl
                        clear pre
                        simp only [Array.getD_eq_getD_getElem?, List.getElem?_toArray, List.getElem?_cons_zero, List.getElem?_cons_succ, Option.getD_some] at e15
                        go_simp
                        exact hK _ hJ
                      refine Vals9.Steps.run rfl ?_ ?_
                      · intro a W σ hJ pre K hK
                        have e116 := pre.1 18 116 _ (by kernel_rfl) rfl rfl
                        clear pre
                        simp only [Array.getD_eq_getD_getElem?, List.getElem?_toArray, List.getElem?_cons_zero, List.getElem?_cons_succ, Option.getD_some] at e116
                        go_simp
                        exact hK _ hJ
                      refine Vals9.Steps.mark rfl ?_ ?_
                      · intro a W σ hJ hn pre K hK
                        obtain ⟨v115, s115, e115⟩ := pre.2.1 17 (by kernel_rfl) rfl
                        replace e115 : a.tmps.getD 115 undef = v115 := e115 115 rfl
                        have e117 := pre.1 19 117 _ (by kernel_rfl) rfl rfl
                        simp only [Array.getD_eq_getD_getElem?, List.getElem?_toArray, List.getElem?_cons_zero, List.getElem?_cons_succ, Option.getD_some] at e115 e117
                        have hJ2 : Lq w [(w.heap.size, 24, hV h ⟨some ad, mc⟩), (gq, 32, #[.int .i64 l0, .int .i64 l1, .int .i64 l2]), (gp, 74, pV x)] x.w0 x.w1 x.l0 x.l1 0 1 (σ 6) (σ 9) (σ 17) (σ 20) W := hJ
                        obtain ⟨g, e9, hb⟩ := hJ2.lb _ s115
                        rw [e9] at e115
                        go_simp
                        exact hK _ _ ⟨hJ2.sn, hJ2.bl, hJ2.la, hJ2.xa, hJ2.lb, fun v hv => ⟨g, (Option.some.inj hv).symm, hb⟩⟩
                      refine Vals9.Steps.run rfl ?_ ?_
                      · intro a W σ hJ pre K hK
                        obtain ⟨v118, s118, e118⟩ := pre.2.1 20 (by kernel_rfl) rfl
                        replace e118 : a.tmps.getD 118 undef = v118 := e118 118 rfl
                        clear pre
                        simp only [Array.getD_eq_getD_getElem?, List.getElem?_toArray, List.getElem?_cons_zero, List.getElem?_cons_succ, Option.getD_some] at e118
                        have hJ2 : Lq w [(w.heap.size, 24, hV h ⟨some ad, mc⟩), (gq, 32, #[.int .i64 l0, .int .i64 l1, .int .i64 l2]), (gp, 74, pV x)] x.w0 x.w1 x.l0 x.l1 0 1 (σ 6) (σ 9) (σ 17) (σ 20) W := hJ
                        obtain ⟨g, e9, hb⟩ := hJ2.xb _ s118
                        rw [e9] at e118
                        have b0 := hb.cell 1
                        simp only [List.getElem?_toArray, List.getElem?_cons_zero, List.getElem?_cons_succ] at b0
                        rw [show x.l1 = L_ from HL_.out] at b0
                        go_simp
                        exact hK _ hJ
                      refine Vals9.Steps.run rfl ?_ ?_
                      · intro a W σ hJ pre K hK
                        have e5 := pre.2.2 5 _ (by kernel_rfl) rfl
                        clear pre
                        simp only [Array.getD_eq_getD_getElem?, List.getElem?_toArray, List.getElem?_cons_zero, List.getElem?_cons_succ, Option.getD_some] at e5
                        go_simp
                        exact hK _ hJ
                      refine Vals9.Steps.run rfl ?_ ?_
                      · intro a W σ hJ pre K hK
                        have e13 := pre.2.2 13 _ (by kernel_rfl) rfl
                        clear pre
                        simp only [Array.getD_eq_getD_getElem?, List.getElem?_toArray, List.getElem?_cons_zero, List.getElem?_cons_succ, Option.getD_some] at e13
                        go_simp
                        exact hK _ hJ
                      refine Vals9.Steps.run rfl ?_ ?_
                      · intro a W σ hJ pre K hK
                        have e121 := pre.1 23 121 _ (by kernel_rfl) rfl rfl
                        clear pre
                        simp only [Array.getD_eq_getD_getElem?, List.getElem?_toArray, List.getElem?_cons_zero, List.getElem?_cons_succ, Option.getD_some] at e121
                        have hJ2 : Lq w [(w.heap.size, 24, hV h ⟨some ad, mc⟩), (gq, 32, #[.int .i64 l0, .int .i64 l1, .int .i64 l2]), (gp, 74, pV x)] x.w0 x.w1 x.l0 x.l1 0 1 (σ 6) (σ 9) (σ 17) (σ 20) W := hJ
                        obtain ⟨p0, p1, p2, p3, p4, p5, p6⟩ := (show Blk W gp 74 (pV x) from hJ2.bl (gp, 74, pV x) (by simp)).part
                        go_simp
                        exact hK _ hJ
                      refine Vals9.Steps.run rfl ?_ ?_
                      · intro a W σ hJ pre K hK
                        have e120 := pre.1 22 120 _ (by kernel_rfl) rfl rfl
                        have e122 := pre.1 24 122 _ (by kernel_rfl) rfl rfl
                        clear pre
                        simp only [Array.getD_eq_getD_getElem?, List.getElem?_toArray, List.getElem?_cons_zero, List.getElem?_cons_succ, Option.getD_some] at e120 e122
                        have e9 := E1.out
                        go_simp
                        exact hK _ hJ
                      refine Vals9.Steps.run rfl ?_ ?_
                      · intro a W σ hJ pre K hK
                        have e123 := pre.1 25 123 _ (by kernel_rfl) rfl rfl
                        clear pre
                        simp only [Array.getD_eq_getD_getElem?, List.getElem?_toArray, List.getElem?_cons_zero, List.getElem?_cons_succ, Option.getD_some] at e123
                        go_simp
                        exact hK _ hJ
                      refine Vals9.Steps.run rfl ?_ ?_
                      · intro a W σ hJ pre K hK
                        have e119 := pre.1 21 119 _ (by kernel_rfl) rfl rfl
                        have e124 := pre.1 26 124 _ (by kernel_rfl) rfl rfl
                        clear pre
                        simp only [Array.getD_eq_getD_getElem?, List.getElem?_toArray, List.getElem?_cons_zero, List.getElem?_cons_succ, Option.getD_some] at e119 e124
                        have e9 := E2.out
                        go_simp
                        exact hK _ hJ
                      refine Vals9.Steps.run rfl ?_ ?_
                      · intro a W σ hJ pre K hK
                        have e108 := pre.1 10 108 _ (by kernel_rfl) rfl rfl
                        have e125 := pre.1 27 125 _ (by kernel_rfl) rfl rfl
                        clear pre
                        simp only [Array.getD_eq_getD_getElem?, List.getElem?_toArray, List.getElem?_cons_zero, List.getElem?_cons_succ, Option.getD_some] at e108 e125
                        have e9 := E3.out
                        go_simp
                        exact hK _ hJ
                      refine Vals9.Steps.run rfl ?_ ?_
                      · intro a W σ hJ pre K hK
                        have e126 := pre.1 28 126 _ (by kernel_rfl) rfl rfl
                        clear pre
                        simp only [Array.getD_eq_getD_getElem?, List.getElem?_toArray, List.getElem?_cons_zero, List.getElem?_cons_succ, Option.getD_some] at e126
                        go_simp
                        exact hK _ hJ
                      exact Vals9.Steps.nil
                    case hfin =>
                      rintro X σ hJ
                      simp only [Vals9.All]
                      rintro v6 s6 v9 s9 v17 s17 v20 s20
                      simp only [Vals.putAll, List.setIfInBounds_toArray, List.set_cons_zero, List.set_cons_succ]
                      have hJ2 : Lq w [(w.heap.size, 24, hV h ⟨some ad, mc⟩), (gq, 32, #[.int .i64 l0, .int .i64 l1, .int .i64 l2]), (gp, 74, pV x)] x.w0 x.w1 x.l0 x.l1 0 1 (σ 6) (σ 9) (σ 17) (σ 20) X := hJ
                      have hs2 := hJ2.sn
                      have HB2 := Lib.hid (show Blk X w.heap.size 24 (hV h ⟨some ad, mc⟩) from hJ2.bl (w.heap.size, 24, hV h ⟨some ad, mc⟩) (by simp))
                      have HQ2 := Lib.hid (show Blk X gq 32 #[.int .i64 l0, .int .i64 l1, .int .i64 l2] from hJ2.bl (gq, 32, #[.int .i64 l0, .int .i64 l1, .int .i64 l2]) (by simp))
                      have HK2 := Lib.hid (show Blk X gp 74 (pV x) from hJ2.bl (gp, 74, pV x) (by simp))
                      clear hJ hJ2 s6 s9 s17 s20
                      replace hs := hs2
                      replace HB := HB2
                      replace HQ := HQ2
                      replace HK := HK2
                      clear hs2 HB2 HQ2 HK2
                      obtain ⟨c0, c1, c2⟩ := HB.out.hull
                      obtain ⟨p0, p1, p2, p3, p4, p5, p6⟩ := HK.out.part
                      have e5 := E5.out
                      have e6 := E6.out
                      have NE := HNE.out
                      have EB := HEB.out
                      have hs5 := Lib.hid (hs.alloc (.cells #[.int .i64 1, .int .i64 (x.pt - h.aft), .int .i64 (h.fore - x.pt)] 3))
                      have HB5 := Lib.hid (HB.out.alloc (.cells #[.int .i64 1, .int .i64 (x.pt - h.aft), .int .i64 (h.fore - x.pt)] 3))
                      have HQ5 := Lib.hid (HQ.out.alloc (.cells #[.int .i64 1, .int .i64 (x.pt - h.aft), .int .i64 (h.fore - x.pt)] 3))
                      have HK5 := Lib.hid (HK.out.alloc (.cells #[.int .i64 1, .int .i64 (x.pt - h.aft), .int .i64 (h.fore - x.pt)] 3))
                      rcases (by omega : s = 0 ∨ s = 1 ∨ s = 2) with rfl | rfl | rfl
                      · replace NE : endV h.aft h.fore 0 x wt 2 = v := NE
                        replace EB : -25000000000 ≤ v ∧ v ≤ 25000000000 := EB
                        have e7 : IntKind.i64.wrap (v) = v := IntWalk.i64_in _ (by omega)
                        have hz := HZ.out (by omega)
                        replace hz : z = lendV h.aft h.fore 0 x wt 1 := hz
                        have HNL : Hid (lendV h.aft h.fore 0 x wt 2 = if v < z then v else z) := by show lendV _ _ _ _ _ (1 + 1) = _; unfold lendV; rw [NE, ← hz]
                        clear NE EB hz
                        by_cases hlz : v < z
                        · have HNM : Hid (lendV h.aft h.fore 0 x wt 2 = v) := HNL.out.trans (if_pos hlz)
                          go_wp2_with fail
                          go_roundw
                          case rel => exact ⟨3, _, by omega, rfl, rfl, fun _ => HNM.out.symm, hs5, HB5, HQ5, HK5⟩
                          case measure => simp [intOf]
                        · have HNM : Hid (lendV h.aft h.fore 0 x wt 2 = z) := HNL.out.trans (if_neg hlz)
                          go_wp2_with fail
                          go_roundw
                          case rel => exact ⟨3, _, by omega, rfl, rfl, fun _ => HNM.out.symm, hs5, HB5, HQ5, HK5⟩
                          case measure => simp [intOf]
                      · replace NE : endV h.aft h.fore 1 x wt 2 = v * (x.pt - h.aft) := NE
                        replace EB : -25000000000 ≤ v * (x.pt - h.aft) ∧ v * (x.pt - h.aft) ≤ 25000000000 := EB
                        have e7 : IntKind.i64.wrap (v * (x.pt - h.aft)) = v * (x.pt - h.aft) := IntWalk.i64_in _ (by omega)
                        have hz := HZ.out (by omega)
                        replace hz : z = lendV h.aft h.fore 1 x wt 1 := hz
                        have HNL : Hid (lendV h.aft h.fore 1 x wt 2 = if v * (x.pt - h.aft) < z then v * (x.pt - h.aft) else z) := by show lendV _ _ _ _ _ (1 + 1) = _; unfold lendV; rw [NE, ← hz]
                        clear NE EB hz
                        by_cases hlz : v * (x.pt - h.aft) < z
                        · have HNM : Hid (lendV h.aft h.fore 1 x wt 2 = v * (x.pt - h.aft)) := HNL.out.trans (if_pos hlz)
                          go_wp2_with fail
                          go_roundw
                          case rel => exact ⟨3, _, by omega, rfl, rfl, fun _ => HNM.out.symm, hs5, HB5, HQ5, HK5⟩
                          case measure => simp [intOf]
                        · have HNM : Hid (lendV h.aft h.fore 1 x wt 2 = z) := HNL.out.trans (if_neg hlz)
                          go_wp2_with fail
                          go_roundw
                          case rel => exact ⟨3, _, by omega, rfl, rfl, fun _ => HNM.out.symm, hs5, HB5, HQ5, HK5⟩
                          case measure => simp [intOf]
                      · replace NE : endV h.aft h.fore 2 x wt 2 = v * (h.fore - x.pt) := NE
                        replace EB : -25000000000 ≤ v * (h.fore - x.pt) ∧ v * (h.fore - x.pt) ≤ 25000000000 := EB
                        have e7 : IntKind.i64.wrap (v * (h.fore - x.pt)) = v * (h.fore - x.pt) := IntWalk.i64_in _ (by omega)
                        have hz := HZ.out (by omega)
                        replace hz : z = lendV h.aft h.fore 2 x wt 1 := hz
                        have HNL : Hid (lendV h.aft h.fore 2 x wt 2 = if v * (h.fore - x.pt) < z then v * (h.fore - x.pt) else z) := by show lendV _ _ _ _ _ (1 + 1) = _; unfold lendV; rw [NE, ← hz]
                        clear NE EB hz
                        by_cases hlz : v * (h.fore - x.pt) < z
                        · have HNM : Hid (lendV h.aft h.fore 2 x wt 2 = v * (h.fore - x.pt)) := HNL.out.trans (if_pos hlz)
                          go_wp2_with fail
                          go_roundw
                          case rel => exact ⟨3, _, by omega, rfl, rfl, fun _ => HNM.out.symm, hs5, HB5, HQ5, HK5⟩
                          case measure => simp [intOf]
                        · have HNM : Hid (lendV h.aft h.fore 2 x wt 2 = z) := HNL.out.trans (if_neg hlz)
                          go_wp2_with fail
                          go_roundw
                          case rel => exact ⟨3, _, by omega, rfl, rfl, fun _ => HNM.out.symm, hs5, HB5, HQ5, HK5⟩
                          case measure => simp [intOf]
                  · refine Vals9.region (fun σ Z => Lq w [(w.heap.size, 24, hV h ⟨some ad, mc⟩), (gq, 32, #[.int .i64 l0, .int .i64 l1, .int .i64 l2]), (gp, 74, pV x)] x.w0 x.w1 x.l0 x.l1 1 1 (σ 6) (σ 9) (σ 17) (σ 20) Z) [some 98, some 99, some 100, some 101, some 102, some 103, some 104, some 105, some 106, some 107, some 108, some 109, some 110, some 111, some 112, some 113, some 114, some 115, some 116, some 117, some 118, some 119, some 120, some 121, some 122, some 123, some 124, some 125, some 126, some 16] [.is ?_, .is ?_, .is ?_, .is ?_, .is ?_, .is ?_, .any, .is ?_, .is ?_, .any, .is (.int .i64 G_), .is ?_, .is ?_, .is ?_, .is ?_, .is ?_, .is ?_, .any, .is ?_, .is ?_, .any, .is (.int .i64 L_), .is ?_, .is ?_, .is ?_, .is (.int .i64 (wt - x.kl)), .is (.int .i64 (abv x wt)), .is (.int .i64 (L_ * abv x wt)), .is (.int .i64 v), .is ?_] (by kernel_rfl) (by kernel_rfl) (by kernel_rfl) (by kernel_rfl) (by kernel_rfl) (by kernel_rfl) (⟨hs.drew, (fun b hb => by simp only [List.mem_cons, List.not_mem_nil, or_false] at hb; rcases hb with rfl | rfl | rfl; exact HB.out.drew; exact HQ.out.drew; exact HK.out.drew), (fun v hv => by cases hv), (fun v hv => by cases hv), (fun v hv => by cases hv), (fun v hv => by cases hv)⟩) ?hsteps ?hfin
                    case hsteps =>
                      refine Vals9.Steps.run rfl ?_ ?_
                      · intro a W σ hJ pre K hK
                        have e13 := pre.2.2 13 _ (by kernel_rfl) rfl
                        clear pre
                        simp only [Array.getD_eq_getD_getElem?, List.getElem?_toArray, List.getElem?_cons_zero, List.getElem?_cons_succ, Option.getD_some] at e13
                        go_simp
                        exact hK _ hJ
                      refine Vals9.Steps.run rfl ?_ ?_
                      · intro a W σ hJ pre K hK
                        have e98 := pre.1 0 98 _ (by kernel_rfl) rfl rfl
                        clear pre
                        simp only [Array.getD_eq_getD_getElem?, List.getElem?_toArray, List.getElem?_cons_zero, List.getElem?_cons_succ, Option.getD_some] at e98
                        go_simp
                        exact hK _ hJ
                      refine Vals9.Steps.run rfl ?_ ?_
                      · intro a W σ hJ pre K hK
                        have e99 := pre.1 1 99 _ (by kernel_rfl) rfl rfl
                        clear pre
                        simp only [Array.getD_eq_getD_getElem?, List.getElem?_toArray, List.getElem?_cons_zero, List.getElem?_cons_succ, Option.getD_some] at e99
                        have hJ2 : Lq w [(w.heap.size, 24, hV h ⟨some ad, mc⟩), (gq, 32, #[.int .i64 l0, .int .i64 l1, .int .i64 l2]), (gp, 74, pV x)] x.w0 x.w1 x.l0 x.l1 1 1 (σ 6) (σ 9) (σ 17) (σ 20) W := hJ
                        obtain ⟨p0, p1, p2, p3, p4, p5, p6⟩ := (show Blk W gp 74 (pV x) from hJ2.bl (gp, 74, pV x) (by simp)).part
                        go_simp
                        exact hK _ hJ
                      refine Vals9.Steps.run rfl ?_ ?_
                      · intro a W σ hJ pre K hK
                        have e13 := pre.2.2 13 _ (by kernel_rfl) rfl
                        clear pre
                        simp only [Array.getD_eq_getD_getElem?, List.getElem?_toArray, List.getElem?_cons_zero, List.getElem?_cons_succ, Option.getD_some] at e13
                        go_simp
                        exact hK _ hJ
                      refine Vals9.Steps.run rfl ?_ ?_
                      · intro a W σ hJ pre K hK
                        have e101 := pre.1 3 101 _ (by kernel_rfl) rfl rfl
                        clear pre
                        simp only [Array.getD_eq_getD_getElem?, List.getElem?_toArray, List.getElem?_cons_zero, List.getElem?_cons_succ, Option.getD_some] at e101
                        go_simp
                        exact hK _ hJ
                      refine Vals9.Steps.run rfl ?_ ?_
                      · intro a W σ hJ pre K hK
                        have e102 := pre.1 4 102 _ (by kernel_rfl) rfl rfl
                        clear pre
                        simp only [Array.getD_eq_getD_getElem?, List.getElem?_toArray, List.getElem?_cons_zero, List.getElem?_cons_succ, Option.getD_some] at e102
                        have hJ2 : Lq w [(w.heap.size, 24, hV h ⟨some ad, mc⟩), (gq, 32, #[.int .i64 l0, .int .i64 l1, .int .i64 l2]), (gp, 74, pV x)] x.w0 x.w1 x.l0 x.l1 1 1 (σ 6) (σ 9) (σ 17) (σ 20) W := hJ
                        obtain ⟨p0, p1, p2, p3, p4, p5, p6⟩ := (show Blk W gp 74 (pV x) from hJ2.bl (gp, 74, pV x) (by simp)).part
                        go_simp
                        exact hK _ hJ
                      refine Vals9.Steps.mark rfl ?_ ?_
                      · intro a W σ hJ hn pre K hK
                        have e100 := pre.1 2 100 _ (by kernel_rfl) rfl rfl
                        have e103 := pre.1 5 103 _ (by kernel_rfl) rfl rfl
                        simp only [Array.getD_eq_getD_getElem?, List.getElem?_toArray, List.getElem?_cons_zero, List.getElem?_cons_succ, Option.getD_some] at e100 e103
                        have hJ2 : Lq w [(w.heap.size, 24, hV h ⟨some ad, mc⟩), (gq, 32, #[.int .i64 l0, .int .i64 l1, .int .i64 l2]), (gp, 74, pV x)] x.w0 x.w1 x.l0 x.l1 1 1 (σ 6) (σ 9) (σ 17) (σ 20) W := hJ
                        go_simp
                        have hk := hJ2.keep ((Below.refl _ _).alloc (Nat.le_refl _) (.cells #[.int .i64 x.w0, .int .i64 x.w1] 3))
                        exact hK _ _ ⟨hk.sn, hk.bl, fun v hv => ⟨_, (Option.some.inj hv).symm, Blk.new _ _ _⟩, hk.xa, hk.lb, hk.xb⟩
                      refine Vals9.Steps.run rfl ?_ ?_
                      · intro a W σ hJ pre K hK
                        have e15 := pre.2.2 15 _ (by kernel_rfl) rfl
                        clear pre
                        simp only [Array.getD_eq_getD_getElem?, List.getElem?_toArray, List.getElem?_cons_zero, List.getElem?_cons_succ, Option.getD_some] at e15
                        go_simp
                        exact hK _ hJ
                      refine Vals9.Steps.run rfl ?_ ?_
                      · intro a W σ hJ pre K hK
                        have e105 := pre.1 7 105 _ (by kernel_rfl) rfl rfl
                        clear pre
                        simp only [Array.getD_eq_getD_getElem?, List.getElem?_toArray, List.getElem?_cons_zero, List.getElem?_cons_succ, Option.getD_some] at e105
                        go_simp
                        exact hK _ hJ
                      refine Vals9.Steps.mark rfl ?_ ?_
                      · intro a W σ hJ hn pre K hK
                        obtain ⟨v104, s104, e104⟩ := pre.2.1 6 (by kernel_rfl) rfl
                        replace e104 : a.tmps.getD 104 undef = v104 := e104 104 rfl
                        have e106 := pre.1 8 106 _ (by kernel_rfl) rfl rfl
                        simp only [Array.getD_eq_getD_getElem?, List.getElem?_toArray, List.getElem?_cons_zero, List.getElem?_cons_succ, Option.getD_some] at e104 e106
                        have hJ2 : Lq w [(w.heap.size, 24, hV h ⟨some ad, mc⟩), (gq, 32, #[.int .i64 l0, .int .i64 l1, .int .i64 l2]), (gp, 74, pV x)] x.w0 x.w1 x.l0 x.l1 1 1 (σ 6) (σ 9) (σ 17) (σ 20) W := hJ
                        obtain ⟨g, e9, hb⟩ := hJ2.la _ s104
                        rw [e9] at e104
                        go_simp
                        exact hK _ _ ⟨hJ2.sn, hJ2.bl, hJ2.la, fun v hv => ⟨g, (Option.some.inj hv).symm, hb⟩, hJ2.lb, hJ2.xb⟩
                      refine Vals9.Steps.run rfl ?_ ?_
                      · intro a W σ hJ pre K hK
                        obtain ⟨v107, s107, e107⟩ := pre.2.1 9 (by kernel_rfl) rfl
                        replace e107 : a.tmps.getD 107 undef = v107 := e107 107 rfl
                        clear pre
                        simp only [Array.getD_eq_getD_getElem?, List.getElem?_toArray, List.getElem?_cons_zero, List.getElem?_cons_succ, Option.getD_some] at e107
                        have hJ2 : Lq w [(w.heap.size, 24, hV h ⟨some ad, mc⟩), (gq, 32, #[.int .i64 l0, .int .i64 l1, .int .i64 l2]), (gp, 74, pV x)] x.w0 x.w1 x.l0 x.l1 1 1 (σ 6) (σ 9) (σ 17) (σ 20) W := hJ
                        obtain ⟨g, e9, hb⟩ := hJ2.xa _ s107
                        rw [e9] at e107
                        have b0 := hb.cell 1
                        simp only [List.getElem?_toArray, List.getElem?_cons_zero, List.getElem?_cons_succ] at b0
                        rw [show x.w1 = G_ from HG_.out] at b0
                        go_simp
                        exact hK _ hJ
                      refine Vals9.Steps.run rfl ?_ ?_
                      · intro a W σ hJ pre K hK
                        have e13 := pre.2.2 13 _ (by kernel_rfl) rfl
                        clear pre
                        simp only [Array.getD_eq_getD_getElem?, List.getElem?_toArray, List.getElem?_cons_zero, List.getElem?_cons_succ, Option.getD_some] at e13
                        go_simp
                        exact hK _ hJ
                      refine Vals9.Steps.run rfl ?_ ?_
                      · intro a W σ hJ pre K hK
                        have e109 := pre.1 11 109 _ (by kernel_rfl) rfl rfl
                        clear pre
                        simp only [Array.getD_eq_getD_getElem?, List.getElem?_toArray, List.getElem?_cons_zero, List.getElem?_cons_succ, Option.getD_some] at e109
                        go_simp
                        exact hK _ hJ
                      refine Vals9.Steps.run rfl ?_ ?_
                      · intro a W σ hJ pre K hK
                        have e110 := pre.1 12 110 _ (by kernel_rfl) rfl rfl
                        clear pre
                        simp only [Array.getD_eq_getD_getElem?, List.getElem?_toArray, List.getElem?_cons_zero, List.getElem?_cons_succ, Option.getD_some] at e110
                        have hJ2 : Lq w [(w.heap.size, 24, hV h ⟨some ad, mc⟩), (gq, 32, #[.int .i64 l0, .int .i64 l1, .int .i64 l2]), (gp, 74, pV x)] x.w0 x.w1 x.l0 x.l1 1 1 (σ 6) (σ 9) (σ 17) (σ 20) W := hJ
                        obtain ⟨p0, p1, p2, p3, p4, p5, p6⟩ := (show Blk W gp 74 (pV x) from hJ2.bl (gp, 74, pV x) (by simp)).part
                        go_simp
                        exact hK _ hJ
                      refine Vals9.Steps.run rfl ?_ ?_
                      · intro a W σ hJ pre K hK
                        have e13 := pre.2.2 13 _ (by kernel_rfl) rfl
                        clear pre
                        simp only [Array.getD_eq_getD_getElem?, List.getElem?_toArray, List.getElem?_cons_zero, List.getElem?_cons_succ, Option.getD_some] at e13
                        go_simp
                        exact hK _ hJ
                      refine Vals9.Steps.run rfl ?_ ?_
                      · intro a W σ hJ pre K hK
                        have e112 := pre.1 14 112 _ (by kernel_rfl) rfl rfl
                        clear pre
                        simp only [Array.getD_eq_getD_getElem?, List.getElem?_toArray, List.getElem?_cons_zero, List.getElem?_cons_succ, Option.getD_some] at e112
                        go_simp
                        exact hK _ hJ
                      refine Vals9.Steps.run rfl ?_ ?_
                      · intro a W σ hJ pre K hK
                        have e113 := pre.1 15 113 _ (by kernel_rfl) rfl rfl
                        clear pre
                        simp only [Array.getD_eq_getD_getElem?, List.getElem?_toArray, List.getElem?_cons_zero, List.getElem?_cons_succ, Option.getD_some] at e113
                        have hJ2 : Lq w [(w.heap.size, 24, hV h ⟨some ad, mc⟩), (gq, 32, #[.int .i64 l0, .int .i64 l1, .int .i64 l2]), (gp, 74, pV x)] x.w0 x.w1 x.l0 x.l1 1 1 (σ 6) (σ 9) (σ 17) (σ 20) W := hJ
                        obtain ⟨p0, p1, p2, p3, p4, p5, p6⟩ := (show Blk W gp 74 (pV x) from hJ2.bl (gp, 74, pV x) (by simp)).part
                        go_simp
                        exact hK _ hJ
                      refine Vals9.Steps.mark rfl ?_ ?_
                      · intro a W σ hJ hn pre K hK
                        have e111 := pre.1 13 111 _ (by kernel_rfl) rfl rfl
                        have e114 := pre.1 16 114 _ (by kernel_rfl) rfl rfl
                        simp only [Array.getD_eq_getD_getElem?, List.getElem?_toArray, List.getElem?_cons_zero, List.getElem?_cons_succ, Option.getD_some] at e111 e114
                        have hJ2 : Lq w [(w.heap.size, 24, hV h ⟨some ad, mc⟩), (gq, 32, #[.int .i64 l0, .int .i64 l1, .int .i64 l2]), (gp, 74, pV x)] x.w0 x.w1 x.l0 x.l1 1 1 (σ 6) (σ 9) (σ 17) (σ 20) W := hJ
                        go_simp
                        have hk := hJ2.keep ((Below.refl _ _).alloc (Nat.le_refl _) (.cells #[.int .i64 x.l0, .int .i64 x.l1] 3))
                        exact hK _ _ ⟨hk.sn, hk.bl, hk.la, hk.xa, fun v hv => ⟨_, (Option.some.inj hv).symm, Blk.new _ _ _⟩, hk.xb⟩
                      refine Vals9.Steps.run rfl ?_ ?_
                      · intro a W σ hJ pre K hK
                        have e15 := pre.2.2 15 _ (by kernel_rfl) rfl
                        clear pre
                        simp only [Array.getD_eq_getD_getElem?, List.getElem?_toArray, List.getElem?_cons_zero, List.getElem?_cons_succ, Option.getD_some] at e15
                        go_simp
                        exact hK _ hJ
                      refine Vals9.Steps.run rfl ?_ ?_
                      · intro a W σ hJ pre K hK
                        have e116 := pre.1 18 116 _ (by kernel_rfl) rfl rfl
                        clear pre
                        simp only [Array.getD_eq_getD_getElem?, List.getElem?_toArray, List.getElem?_cons_zero, List.getElem?_cons_succ, Option.getD_some] at e116
                        go_simp
                        exact hK _ hJ
                      refine Vals9.Steps.mark rfl ?_ ?_
                      · intro a W σ hJ hn pre K hK
                        obtain ⟨v115, s115, e115⟩ := pre.2.1 17 (by kernel_rfl) rfl
                        replace e115 : a.tmps.getD 115 undef = v115 := e115 115 rfl
                        have e117 := pre.1 19 117 _ (by kernel_rfl) rfl rfl
                        simp only [Array.getD_eq_getD_getElem?, List.getElem?_toArray, List.getElem?_cons_zero, List.getElem?_cons_succ, Option.getD_some] at e115 e117
                        have hJ2 : Lq w [(w.heap.size, 24, hV h ⟨some ad, mc⟩), (gq, 32, #[.int .i64 l0, .int .i64 l1, .int .i64 l2]), (gp, 74, pV x)] x.w0 x.w1 x.l0 x.l1 1 1 (σ 6) (σ 9) (σ 17) (σ 20) W := hJ
                        obtain ⟨g, e9, hb⟩ := hJ2.lb _ s115
                        rw [e9] at e115
                        go_simp
                        exact hK _ _ ⟨hJ2.sn, hJ2.bl, hJ2.la, hJ2.xa, hJ2.lb, fun v hv => ⟨g, (Option.some.inj hv).symm, hb⟩⟩
                      refine Vals9.Steps.run rfl ?_ ?_
                      · intro a W σ hJ pre K hK
                        obtain ⟨v118, s118, e118⟩ := pre.2.1 20 (by kernel_rfl) rfl
                        replace e118 : a.tmps.getD 118 undef = v118 := e118 118 rfl
                        clear pre
                        simp only [Array.getD_eq_getD_getElem?, List.getElem?_toArray, List.getElem?_cons_zero, List.getElem?_cons_succ, Option.getD_some] at e118
                        have hJ2 : Lq w [(w.heap.size, 24, hV h ⟨some ad, mc⟩), (gq, 32, #[.int .i64 l0, .int .i64 l1, .int .i64 l2]), (gp, 74, pV x)] x.w0 x.w1 x.l0 x.l1 1 1 (σ 6) (σ 9) (σ 17) (σ 20) W := hJ
                        obtain ⟨g, e9, hb⟩ := hJ2.xb _ s118
                        rw [e9] at e118
                        have b0 := hb.cell 1
                        simp only [List.getElem?_toArray, List.getElem?_cons_zero, List.getElem?_cons_succ] at b0
                        rw [show x.l1 = L_ from HL_.out] at b0
                        go_simp
                        exact hK _ hJ
                      refine Vals9.Steps.run rfl ?_ ?_
                      · intro a W σ hJ pre K hK
                        have e5 := pre.2.2 5 _ (by kernel_rfl) rfl
                        clear pre
                        simp only [Array.getD_eq_getD_getElem?, List.getElem?_toArray, List.getElem?_cons_zero, List.getElem?_cons_succ, Option.getD_some] at e5
                        go_simp
                        exact hK _ hJ
                      refine Vals9.Steps.run rfl ?_ ?_
                      · intro a W σ hJ pre K hK
                        have e13 := pre.2.2 13 _ (by kernel_rfl) rfl
                        clear pre
                        simp only [Array.getD_eq_getD_getElem?, List.getElem?_toArray, List.getElem?_cons_zero, List.getElem?_cons_succ, Option.getD_some] at e13
                        go_simp
                        exact hK _ hJ
                      refine Vals9.Steps.run rfl ?_ ?_
                      · intro a W σ hJ pre K hK
                        have e121 := pre.1 23 121 _ (by kernel_rfl) rfl rfl
                        clear pre
                        simp only [Array.getD_eq_getD_getElem?, List.getElem?_toArray, List.getElem?_cons_zero, List.getElem?_cons_succ, Option.getD_some] at e121
                        have hJ2 : Lq w [(w.heap.size, 24, hV h ⟨some ad, mc⟩), (gq, 32, #[.int .i64 l0, .int .i64 l1, .int .i64 l2]), (gp, 74, pV x)] x.w0 x.w1 x.l0 x.l1 1 1 (σ 6) (σ 9) (σ 17) (σ 20) W := hJ
                        obtain ⟨p0, p1, p2, p3, p4, p5, p6⟩ := (show Blk W gp 74 (pV x) from hJ2.bl (gp, 74, pV x) (by simp)).part
                        go_simp
                        exact hK _ hJ
                      refine Vals9.Steps.run rfl ?_ ?_
                      · intro a W σ hJ pre K hK
                        have e120 := pre.1 22 120 _ (by kernel_rfl) rfl rfl
                        have e122 := pre.1 24 122 _ (by kernel_rfl) rfl rfl
                        clear pre
                        simp only [Array.getD_eq_getD_getElem?, List.getElem?_toArray, List.getElem?_cons_zero, List.getElem?_cons_succ, Option.getD_some] at e120 e122
                        have e9 := E1.out
                        go_simp
                        exact hK _ hJ
                      refine Vals9.Steps.run rfl ?_ ?_
                      · intro a W σ hJ pre K hK
                        have e123 := pre.1 25 123 _ (by kernel_rfl) rfl rfl
                        clear pre
                        simp only [Array.getD_eq_getD_getElem?, List.getElem?_toArray, List.getElem?_cons_zero, List.getElem?_cons_succ, Option.getD_some] at e123
                        go_simp
                        exact hK _ hJ
                      refine Vals9.Steps.run rfl ?_ ?_
                      · intro a W σ hJ pre K hK
                        have e119 := pre.1 21 119 _ (by kernel_rfl) rfl rfl
                        have e124 := pre.1 26 124 _ (by kernel_rfl) rfl rfl
                        clear pre
                        simp only [Array.getD_eq_getD_getElem?, List.getElem?_toArray, List.getElem?_cons_zero, List.getElem?_cons_succ, Option.getD_some] at e119 e124
                        have e9 := E2.out
                        go_simp
                        exact hK _ hJ
                      refine Vals9.Steps.run rfl ?_ ?_
                      · intro a W σ hJ pre K hK
                        have e108 := pre.1 10 108 _ (by kernel_rfl) rfl rfl
                        have e125 := pre.1 27 125 _ (by kernel_rfl) rfl rfl
                        clear pre
                        simp only [Array.getD_eq_getD_getElem?, List.getElem?_toArray, List.getElem?_cons_zero, List.getElem?_cons_succ, Option.getD_some] at e108 e125
                        have e9 := E3.out
                        go_simp
                        exact hK _ hJ
                      refine Vals9.Steps.run rfl ?_ ?_
                      · intro a W σ hJ pre K hK
                        have e126 := pre.1 28 126 _ (by kernel_rfl) rfl rfl
                        clear pre
                        simp only [Array.getD_eq_getD_getElem?, List.getElem?_toArray, List.getElem?_cons_zero, List.getElem?_cons_succ, Option.getD_some] at e126
                        go_simp
                        exact hK _ hJ
                      exact Vals9.Steps.nil
                    case hfin =>
                      rintro X σ hJ
                      simp only [Vals9.All]
                      rintro v6 s6 v9 s9 v17 s17 v20 s20
                      simp only [Vals.putAll, List.setIfInBounds_toArray, List.set_cons_zero, List.set_cons_succ]
                      have hJ2 : Lq w [(w.heap.size, 24, hV h ⟨some ad, mc⟩), (gq, 32, #[.int .i64 l0, .int .i64 l1, .int .i64 l2]), (gp, 74, pV x)] x.w0 x.w1 x.l0 x.l1 1 1 (σ 6) (σ 9) (σ 17) (σ 20) X := hJ
                      have hs2 := hJ2.sn
                      have HB2 := Lib.hid (show Blk X w.heap.size 24 (hV h ⟨some ad, mc⟩) from hJ2.bl (w.heap.size, 24, hV h ⟨some ad, mc⟩) (by simp))
                      have HQ2 := Lib.hid (show Blk X gq 32 #[.int .i64 l0, .int .i64 l1, .int .i64 l2] from hJ2.bl (gq, 32, #[.int .i64 l0, .int .i64 l1, .int .i64 l2]) (by simp))
                      have HK2 := Lib.hid (show Blk X gp 74 (pV x) from hJ2.bl (gp, 74, pV x) (by simp))
                      clear hJ hJ2 s6 s9 s17 s20
                      replace hs := hs2
                      replace HB := HB2
                      replace HQ := HQ2
                      replace HK := HK2
                      clear hs2 HB2 HQ2 HK2
                      obtain ⟨c0, c1, c2⟩ := HB.out.hull
                      obtain ⟨p0, p1, p2, p3, p4, p5, p6⟩ := HK.out.part
                      have e5 := E5.out
                      have e6 := E6.out
                      have NE := HNE.out
                      have EB := HEB.out
                      have hs5 := Lib.hid (hs.alloc (.cells #[.int .i64 1, .int .i64 (x.pt - h.aft), .int .i64 (h.fore - x.pt)] 3))
                      have HB5 := Lib.hid (HB.out.alloc (.cells #[.int .i64 1, .int .i64 (x.pt - h.aft), .int .i64 (h.fore - x.pt)] 3))
                      have HQ5 := Lib.hid (HQ.out.alloc (.cells #[.int .i64 1, .int .i64 (x.pt - h.aft), .int .i64 (h.fore - x.pt)] 3))
                      have HK5 := Lib.hid (HK.out.alloc (.cells #[.int .i64 1, .int .i64 (x.pt - h.aft), .int .i64 (h.fore - x.pt)] 3))
                      rcases (by omega : s = 0 ∨ s = 1 ∨ s = 2) with rfl | rfl | rfl
                      · replace NE : endV h.aft h.fore 0 x wt 3 = v := NE
                        replace EB : -25000000000 ≤ v ∧ v ≤ 25000000000 := EB
                        have e7 : IntKind.i64.wrap (v) = v := IntWalk.i64_in _ (by omega)
                        have hz := HZ.out (by omega)
                        replace hz : z = lendV h.aft h.fore 0 x wt 2 := hz
                        have HNL : Hid (lendV h.aft h.fore 0 x wt 3 = if v < z then v else z) := by show lendV _ _ _ _ _ (2 + 1) = _; unfold lendV; rw [NE, ← hz]
                        clear NE EB hz
                        by_cases hlz : v < z
                        · have HNM : Hid (lendV h.aft h.fore 0 x wt 3 = v) := HNL.out.trans (if_pos hlz)
                          go_wp2_with fail
                          go_roundw
                          case rel => exact ⟨4, _, by omega, rfl, rfl, fun _ => HNM.out.symm, hs5, HB5, HQ5, HK5⟩
                          case measure => simp [intOf]
                        · have HNM : Hid (lendV h.aft h.fore 0 x wt 3 = z) := HNL.out.trans (if_neg hlz)
                          go_wp2_with fail
                          go_roundw
                          case rel => exact ⟨4, _, by omega, rfl, rfl, fun _ => HNM.out.symm, hs5, HB5, HQ5, HK5⟩
                          case measure => simp [intOf]
                      · replace NE : endV h.aft h.fore 1 x wt 3 = v * (x.pt - h.aft) := NE
                        replace EB : -25000000000 ≤ v * (x.pt - h.aft) ∧ v * (x.pt - h.aft) ≤ 25000000000 := EB
                        have e7 : IntKind.i64.wrap (v * (x.pt - h.aft)) = v * (x.pt - h.aft) := IntWalk.i64_in _ (by omega)
                        have hz := HZ.out (by omega)
                        replace hz : z = lendV h.aft h.fore 1 x wt 2 := hz
                        have HNL : Hid (lendV h.aft h.fore 1 x wt 3 = if v * (x.pt - h.aft) < z then v * (x.pt - h.aft) else z) := by show lendV _ _ _ _ _ (2 + 1) = _; unfold lendV; rw [NE, ← hz]
                        clear NE EB hz
                        by_cases hlz : v * (x.pt - h.aft) < z
                        · have HNM : Hid (lendV h.aft h.fore 1 x wt 3 = v * (x.pt - h.aft)) := HNL.out.trans (if_pos hlz)
                          go_wp2_with fail
                          go_roundw
                          case rel => exact ⟨4, _, by omega, rfl, rfl, fun _ => HNM.out.symm, hs5, HB5, HQ5, HK5⟩
                          case measure => simp [intOf]
                        · have HNM : Hid (lendV h.aft h.fore 1 x wt 3 = z) := HNL.out.trans (if_neg hlz)
                          go_wp2_with fail
                          go_roundw
                          case rel => exact ⟨4, _, by omega, rfl, rfl, fun _ => HNM.out.symm, hs5, HB5, HQ5, HK5⟩
                          case measure => simp [intOf]
                      · replace NE : endV h.aft h.fore 2 x wt 3 = v * (h.fore - x.pt) := NE
                        replace EB : -25000000000 ≤ v * (h.fore - x.pt) ∧ v * (h.fore - x.pt) ≤ 25000000000 := EB
                        have e7 : IntKind.i64.wrap (v * (h.fore - x.pt)) = v * (h.fore - x.pt) := IntWalk.i64_in _ (by omega)
                        have hz := HZ.out (by omega)
                        replace hz : z = lendV h.aft h.fore 2 x wt 2 := hz
                        have HNL : Hid (lendV h.aft h.fore 2 x wt 3 = if v * (h.fore - x.pt) < z then v * (h.fore - x.pt) else z) := by show lendV _ _ _ _ _ (2 + 1) = _; unfold lendV; rw [NE, ← hz]
                        clear NE EB hz
                        by_cases hlz : v * (h.fore - x.pt) < z
                        · have HNM : Hid (lendV h.aft h.fore 2 x wt 3 = v * (h.fore - x.pt)) := HNL.out.trans (if_pos hlz)
                          go_wp2_with fail
                          go_roundw
                          case rel => exact ⟨4, _, by omega, rfl, rfl, fun _ => HNM.out.symm, hs5, HB5, HQ5, HK5⟩
                          case measure => simp [intOf]
                        · have HNM : Hid (lendV h.aft h.fore 2 x wt 3 = z) := HNL.out.trans (if_neg hlz)
                          go_wp2_with fail
                          go_roundw
                          case rel => exact ⟨4, _, by omega, rfl, rfl, fun _ => HNM.out.symm, hs5, HB5, HQ5, HK5⟩
                          case measure => simp [intOf]
                · obtain rfl : e = 4 := by omega
                  have hz2 := hz (by omega)
                  have B0 := lsum_bd HH.out s w0 w1' hk
                  have B1 := lendV_bd HH.out hx s w0 w1' 3
                  have NS : lsum h s wt (k + 1) = lsum h s wt k + z := by
                    rw [hz2]
                    show _ + lendV h.aft h.fore s (pa h.parts k) wt 3 = _
                    rw [HPK.out]
                    rfl
                  rw [show lendV h.aft h.fore s x wt 3 = z from hz2.symm] at B1
                  have e1 : IntKind.i64.wrap (lsum h s wt k + z) = lsum h s wt k + z := IntWalk.i64_in _ (by omega)
                  have HNS := Lib.hid NS
                  clear NS hz hz2 B0 B1
                  go_wp2_with fail
                  go_roundw
                  case rel => exact ⟨k + 1, by omega, by go_num, by rw [HNS.out], hs, HB, HQ⟩
                  case measure => simp [intOf]; omega
            · obtain rfl : k = h.parts.length := by omega
              obtain ⟨c0, c1, c2⟩ := HB.out.hull
              have q0 := HQ.out.cell 0
              have q1 := HQ.out.cell 1
              have q2 := HQ.out.cell 2
              simp only [List.getElem?_toArray, List.getElem?_cons_zero, List.getElem?_cons_succ] at q0 q1 q2
              have hs5 := Lib.hid (hs.alloc (.cells #[.int .i64 l0, .int .i64 l1, .int .i64 l2] 3))
              have HB5 := Lib.hid (HB.out.alloc (.cells #[.int .i64 l0, .int .i64 l1, .int .i64 l2] 3))
              have HQ5 := Lib.hid (HQ.out.alloc (.cells #[.int .i64 l0, .int .i64 l1, .int .i64 l2] 3))
              rcases (by omega : s = 0 ∨ s = 1 ∨ s = 2) with rfl | rfl | rfl
              · rw [HN0.out]
                go_wp2_with fail
                go_roundw
                case rel => exact ⟨1, by omega, rfl, hs5, HB5, HQ5⟩
                case measure => simp [intOf]
              · rw [HN1.out]
                go_wp2_with fail
                go_roundw
                case rel => exact ⟨2, by omega, rfl, hs5, HB5, HQ5⟩
                case measure => simp [intOf]
              · rw [HN2.out]
                go_wp2_with fail
                go_roundw
                case rel => exact ⟨3, by omega, rfl, hs5, HB5, HQ5⟩
                case measure => simp [intOf]
        · obtain rfl : s = 3 := by omega
          replace hs : Since w wr := hs.out
          go_wp2_with fail
          refine (awake_c _).mono ?_
          rintro e w9 ⟨rfl, hb⟩
          replace hs := hs.keep hb
          go_wp2_with fail
          go_ret
          exact ⟨rfl, hs.1⟩
  · rw [decide_eq_false hc]
    have hle : leastA h wt = ((0, 0, 0), (chk h).2.2) := by
      have e : lookE h wt wt = (chk h).2.2 := by unfold lookE; rw [if_pos hc]
      unfold leastA
      rw [e, if_pos hc]
    rw [HI.out] at hle
    obtain ⟨⟨rfl, rfl, rfl⟩, rfl⟩ : (l0 = 0 ∧ l1 = 0 ∧ l2 = 0) ∧ le = (chk h).2.2 := by simpa [Prod.ext_iff] using hle
    have hcn : ((chk h).2.2 != 0) = true := by simpa using hc
    clear hc hle HI
    have q0 := HQ.out.cell 0
    have q1 := HQ.out.cell 1
    have q2 := HQ.out.cell 2
    simp only [List.getElem?_toArray, List.getElem?_cons_zero, List.getElem?_cons_succ] at q0 q1 q2
    have hq := eqBal 0 0 0
    go_wp2_with fail
    refine (awake_c _).mono ?_
    rintro e w9 ⟨rfl, hb⟩
    replace hs := hs.keep hb
    go_wp2_with fail
    go_ret
    exact ⟨rfl, hs.1⟩
end Td
end Go.Proofs.Ythdcklonamgpiaa
