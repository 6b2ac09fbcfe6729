import Derived.Test.YtgkdidnmndmlhaaMathE
import Derived.Test.YtgkdidnmndmlhaaSty
/- The law GradeSmallest: what it returns. -/
namespace Go.Proofs.Ytgkdidnmndmlhaa
open Go.RowKit
namespace Td
set_option linter.unusedSimpArgs false
set_option linter.unusedVariables false
attribute [local go_sem] Oper.semAt_some
/-- a struct that is put into a box of its own, in a drawn region. -/
structure Bx (ty : TypeId) (z u : Array Value) (w : World) (g0 : Nat) (I : Unit → World → Prop) (s t : Option Value) (X : World) : Prop where
  sz : g0 ≤ X.heap.size
  sn : Since w X
  inv : I () X
  tn : s = none → t = none
  nw : ∀ v, s = some v → ∃ g, v = .pointer (some ⟨g, 0, none⟩) ∧ g0 ≤ g ∧ ((t = none ∧ Blk X g ty z) ∨ (t ≠ none ∧ Blk X g ty u))
section
variable {ty : TypeId} {z u : Array Value} {w : World} {g0 : Nat} {I : Unit → World → Prop} {s t : Option Value} {X Y : World}
theorem Bx.start (hz : g0 ≤ X.heap.size) (hs : Since w X) (hI : I () X) : Bx ty z u w g0 I none none X := ⟨hz, hs, hI, fun _ => rfl, fun v hv => by cases hv⟩
theorem Bx.keep (hA : AllFrom g0 I) (h : Bx ty z u w g0 I s t X) (hb : Below X.heap.size X Y) : Bx ty z u w g0 I s t Y :=
  ⟨Nat.le_trans h.sz hb.size, h.sn.keep hb, hA.keep h.inv hb, h.tn, fun v hv => by
    obtain ⟨g, e, hg, ⟨a, k⟩ | ⟨a, k⟩⟩ := h.nw v hv
    · exact ⟨g, e, hg, .inl ⟨a, k.keep hb⟩⟩
    · exact ⟨g, e, hg, .inr ⟨a, k.keep hb⟩⟩⟩
theorem Bx.mk1 (hA : AllFrom g0 I) (h : Bx ty z u w g0 I none t X) : Bx ty z u w g0 I (some (.pointer (some ⟨X.heap.size, 0, none⟩))) t (X.alloc (.cells z ty)) :=
  ⟨by have := h.sz; simp; omega, h.sn.alloc _, hA.alloc _ h.inv, (fun e => by cases e), fun v hv => ⟨_, (Option.some.inj hv).symm, h.sz, .inl ⟨h.tn rfl, Blk.new _ _ _⟩⟩⟩
theorem Bx.put {g : Nat} (hw : w.heap.size ≤ g0) (hA : AllFrom g0 I) (h : Bx ty z u w g0 I (some (.pointer (some ⟨g, 0, none⟩))) t X) (hg : g0 ≤ g) (hB : Blk X g ty z) (v : Value) : Bx ty z u w g0 I (some (.pointer (some ⟨g, 0, none⟩))) (some v) (X.setRow g u) :=
  ⟨by rw [size_setRow]; exact h.sz, h.sn.row (by omega) _, hA.row _ _ h.inv hg, (fun e => by cases e), fun v hv => ⟨g, (Option.some.inj hv).symm, hg, .inr ⟨by simp, hB.row _⟩⟩⟩
end
/-- the error of a share. -/
def shaE (s : Int × Int) : Int := if shrE s = true then 0 else 6
theorem rShare_c (s : Int × Int) (w : World) : Calls Try.prog 45 #[.agg (fV s)] w fun e w' => e = .returned (.int .i64 (shaE s)) ∧ Below w.heap.size w w' := by
  obtain ⟨c0, c1⟩ := (Blk.new w 41 (fV s)).fcells
  have hs := (Since.refl w).alloc (.cells (fV s) 41)
  have HE : Hid (shaE s = if (wi 1 1000000 s.2 && wi 0 s.2 s.1) = true then 0 else 6) := rfl
  go_enter Try.func45, Try.ntmps45
  go_wp2_with fail
  refine (rin_c 1 1000000 s.2 _).mono ?_
  rintro e w' ⟨rfl, rfl⟩
  cases h1 : wi 1 1000000 s.2
  · have HV : Hid (shaE s = 6) := by show _ = _; rw [HE.out, h1]; rfl
    clear HE
    go_wp2_with fail
    go_ret
    exact ⟨by rw [HV.out]; rfl, hs.1⟩
  · go_wp2_with fail
    refine (rin_c 0 s.2 s.1 _).mono ?_
    rintro e w' ⟨rfl, rfl⟩
    cases h2 : wi 0 s.2 s.1
    · have HV : Hid (shaE s = 6) := by show _ = _; rw [HE.out, h1, h2]; rfl
      clear HE
      go_wp2_with fail
      go_ret
      exact ⟨by rw [HV.out]; rfl, hs.1⟩
    · have HV : Hid (shaE s = 0) := by show _ = _; rw [HE.out, h1, h2]; rfl
      clear HE
      go_wp2_with fail
      go_ret
      exact ⟨by rw [HV.out]; rfl, hs.1⟩
set_option maxRecDepth 100000 in
set_option maxHeartbeats 8000000 in
theorem gradeSmallest_c (P lo hi : Int) (xa xb xc : Nat) (xm : Int × Int) (w : World) (hxa : xa ≤ 255) (hxb : xb ≤ 255) (hxc : xc ≤ 255) :
    Calls Try.prog 13 #[.agg (gV P lo hi), .agg #[.int .u8 xa, .int .u8 xb, .int .u8 xc, .int .i64 xm.1, .int .i64 xm.2]] w fun e w' => e = .returned (.bool true) ∧ Below w.heap.size w w' := by
  have hs := ((Since.refl w).alloc (.cells (gV P lo hi) 25)).alloc (.cells #[.int .u8 xa, .int .u8 xb, .int .u8 xc, .int .i64 xm.1, .int .i64 xm.2] 70)
  have HG := Lib.hid ((Blk.new w 25 (gV P lo hi)).alloc (.cells #[.int .u8 xa, .int .u8 xb, .int .u8 xc, .int .i64 xm.1, .int .i64 xm.2] 70))
  have HX := Lib.hid (Blk.new1 w (.cells (gV P lo hi) 25) 70 #[.int .u8 xa, .int .u8 xb, .int .u8 xc, .int .i64 xm.1, .int .i64 xm.2])
  have wxa : IntKind.i64.wrap (xa : Int) = (xa : Int) := wrapI (by unfold I64; omega)
  have wxb : IntKind.i64.wrap (xb : Int) = (xb : Int) := wrapI (by unfold I64; omega)
  have wxc : IntKind.i64.wrap (xc : Int) = (xc : Int) := wrapI (by unfold I64; omega)
  by_cases hv : chkE P lo hi = 0 ∧ (xa : Int) ≤ P ∧ shrE xm = true
  · obtain ⟨hcc, hpa, hsh⟩ := hv
    have HSM := Lib.hid (fun W => Smallest_c P lo hi xa xm W)
    have HCE := Lib.hid hcc
    have HSE : Hid (shaE xm = 0) := if_pos hsh
    have hsh0 := hsh
    unfold shrE at hsh
    rw [Bool.and_eq_true, wi_iff, wi_iff] at hsh
    obtain ⟨k1, k2, k3, k4, k5⟩ := chkE_ok.1 hcc
    obtain ⟨P, rfl⟩ : ∃ n : Nat, P = n := ⟨P.toNat, by omega⟩
    obtain ⟨lo, rfl⟩ : ∃ n : Nat, lo = n := ⟨lo.toNat, by omega⟩
    obtain ⟨hi, rfl⟩ : ∃ n : Nat, hi = n := ⟨hi.toNat, by omega⟩
    obtain ⟨ya, yb⟩ := xm
    simp only at hsh
    obtain ⟨sa, rfl⟩ : ∃ n : Nat, ya = n := ⟨ya.toNat, by omega⟩
    obtain ⟨sb, rfl⟩ : ∃ n : Nat, yb = n := ⟨yb.toNat, by omega⟩
    have hsb : 0 < sb := by omega
    have sS : Sm (sa, sb) := ⟨by show sa < _; omega, by show sb < _; omega⟩
    obtain ⟨r0, hr0⟩ : ∃ r, xb % P = r := ⟨_, rfl⟩
    have hr0l : r0 < P := by rw [← hr0]; exact Nat.mod_lt _ (by omega)
    obtain ⟨q, hq⟩ : ∃ q, 1 + r0 = q := ⟨_, rfl⟩
    obtain ⟨p1, hp1⟩ : ∃ q, P + 1 = q := ⟨_, rfl⟩
    have a1 : (xb : Int).tmod (P : Int) = (r0 : Int) := by rw [← hr0]; rfl
    have a2 : ¬ (P : Int) = 0 := by omega
    have a3 : ¬ P = 0 := by omega
    have a4 : IntKind.i64.wrap (r0 : Int) = (r0 : Int) := wrapI (by unfold I64; omega)
    have a5 : IntKind.i64.wrap (1 + (r0 : Int)) = (q : Int) := by rw [wrapI (by unfold I64; omega)]; omega
    have a6 : IntKind.i64.wrap ((P : Int) + 1) = (p1 : Int) := by rw [wrapI (by unfold I64; omega)]; omega
    obtain ⟨m, hm⟩ : ∃ m, hi - lo + 1 = m := ⟨_, rfl⟩
    obtain ⟨r, hr⟩ : ∃ r, xc % m = r := ⟨_, rfl⟩
    obtain ⟨d, hd⟩ : ∃ d, lo + r = d := ⟨_, rfl⟩
    have hrm : r < m := by rw [← hr]; exact Nat.mod_lt _ (by omega)
    have hdl : lo ≤ d ∧ d ≤ hi := by omega
    obtain ⟨dl, hdl0⟩ : ∃ dl, hi - lo = dl := ⟨_, rfl⟩
    have t1 : IntKind.i64.wrap ((hi : Int) - (lo : Int)) = (dl : Int) := by rw [wrapI (by unfold I64; omega)]; omega
    have t2 : IntKind.i64.wrap ((dl : Int) + 1) = (m : Int) := by rw [wrapI (by unfold I64; omega)]; omega
    have t4 : IntKind.i64.wrap ((lo : Int) + (r : Int)) = (d : Int) := by rw [wrapI (by unfold I64; omega)]; omega
    have t5 : (xc : Int).tmod (m : Int) = (r : Int) := by rw [← hr]; rfl
    have t6 : IntKind.i64.wrap (r : Int) = (r : Int) := wrapI (by unfold I64; omega)
    have t7 : ¬ (m : Int) = 0 := by omega
    have t7' : ¬ m = 0 := by omega
    obtain ⟨ok, hok⟩ : ∃ ok, okS P lo hi xa (shr sa sb) = ok := ⟨_, rfl⟩
    have HSM2 : Hid (∃ n0 e0 : Int, (∀ W, Calls Try.prog 31 #[.agg (gV P lo hi), .int .i64 xa, .agg (fV ((sa : Int), (sb : Int)))] W fun e w' => e = .returned (.tuple #[.int .i64 n0, .int .i64 e0]) ∧ Below W.heap.size W w') ∧ ((e0 = 9 ∧ ok q = false) ∨ (e0 = 0 ∧ ∃ n : Nat, n0 = n ∧ 1 ≤ n ∧ (n ≤ q → ok n = true) ∧ (q < n → ok q = false)))) := by
      have e : smaA P lo hi xa ((sa : Int), (sb : Int)) = if smF ok P = 0 then (0, 9) else ((smF ok P : Int), 0) := by
        unfold smaA
        rw [if_pos hcc, if_pos (wi_iff.2 (by omega)), if_pos hsh0]
        simp only [Int.toNat_natCast, hok]
      have hc := HSM.out
      rw [e] at hc
      rcases smF_cases ok P with ⟨n, h1, h2, h3, h4, h5⟩ | ⟨h1, h2⟩
      · rw [h5, if_neg (by omega)] at hc
        exact ⟨_, _, hc, .inr ⟨rfl, n, rfl, h1, fun _ => h3, fun h => h4 q (by omega) h⟩⟩
      · rw [h2, if_pos rfl] at hc
        exact ⟨_, _, hc, .inl ⟨rfl, h1 q (by omega) (by omega)⟩⟩
    obtain ⟨n0, e0, HSM3, hcs⟩ := HSM2.out
    have HSM4 := Lib.hid HSM3
    obtain ⟨pp, hpp⟩ : ∃ pp, min xa q = pp := ⟨_, rfl⟩
    obtain ⟨pp1, hpp1⟩ : ∃ p, pp + 1 = p := ⟨_, rfl⟩
    have u9 : IntKind.i64.wrap ((pp : Int) + 1) = (pp1 : Int) := by rw [wrapI (by unfold I64; omega)]; omega
    obtain ⟨f, hf⟩ : ∃ f : Nat → Nat × Nat, f = fun d => chS P q pp (pp + 1) 0 0 d := ⟨_, rfl⟩
    have hpl : planE P q pp (pp1 : Nat) 0 0 = 0 := by rw [← hpp1]; exact planE_once (by omega) (by omega) (by omega)
    have hqP : q ≤ P := by omega
    have hfit : ∀ d, d ≤ P → Fit P q pp pp1 0 d := fun d hd => ⟨hd, hqP, Nat.zero_le _, by omega, by omega⟩
    have HPA : Hid (∀ W, Calls Try.prog 27 #[.agg (gV P d d), .agg (lV q pp pp1 0 0)] W fun e w' => e = .returned (.tuple #[.agg (fV (ip (f d))), .agg (fV (ip (f d))), .int .i64 0]) ∧ Below W.heap.size W w') := fun W => by
      have := Passes_c P d d q pp pp1 0 0 W
      have e := pas_one (P := P) (d := d) (F := q) (pa := pp) (fa := pp1) (S := 0) (to := 0) (chkP_of (chkE_one hcc (d := d) (by omega) (by omega)) hpl)
      rw [show ((0 : Nat) : Int) = 0 from rfl] at e
      rw [e, ← hpp1] at this
      rw [hf, ← hpp1]
      exact this
    have hends := ch_ends (P := P) (F := q) (pa := pp) (fa := pp + 1) (S := 0) (to := 0) (lo := lo) (hi := hi) (by omega) (by omega) hqP (Nat.zero_le _)
    have HPR : Hid (∀ W, Calls Try.prog 27 #[.agg (gV P lo hi), .agg (lV q pp pp1 0 0)] W fun e w' => e = .returned (.tuple #[.agg (fV (ip (f hi))), .agg (fV (ip (f lo))), .int .i64 0]) ∧ Below W.heap.size W w') := fun W => by
      have := Passes_c P lo hi q pp pp1 0 0 W
      rw [show pasA P lo hi q pp pp1 0 0 = (ip (f hi), ip (f lo), 0) by
        unfold pasA
        rw [if_pos (chkP_of hcc hpl)]
        simp only [Int.toNat_natCast, Int.toNat_zero, ← hpp1]
        rw [hends.1, hends.2, hf]] at this
      exact this
    have hsm : ∀ d, d ≤ hi → Sm (f d) := fun d hd => by rw [hf, hpp1]; exact chS_sm (hfit d (by omega))
    have HLA : Hid (∀ n, n ≤ q → ok n = true → ∀ W, Calls Try.prog 44 #[.agg (fV ((sa : Int), (sb : Int))), .agg (fV (ip (f d)))] W fun e w' => e = .returned (.bool false) ∧ Below W.heap.size W w') := fun n hn h W => by
      have := rLess_c (sa, sb) (f d) W sS (hsm d (by omega))
      rw [show lt' (sa, sb) (f d) = false by rw [hf, ← hpp]; rw [← hok] at h; exact sma_big hsb h hn hqP hdl.1 hdl.2 (by omega)] at this
      exact this
    have HLB : Hid (ok q = false → ∀ W, Calls Try.prog 44 #[.agg (fV ((sa : Int), (sb : Int))), .agg (fV (ip (f lo)))] W fun e w' => e = .returned (.bool true) ∧ Below W.heap.size W w') := fun h W => by
      have := rLess_c (sa, sb) (f lo) W sS (hsm lo (by omega))
      rw [show lt' (sa, sb) (f lo) = true by rw [hf, ← hpp]; rw [← hok] at h; exact sma_small hsb h hqP (by omega) (by omega)] at this
      exact this
    obtain ⟨uD, hD_⟩ : ∃ u, ip (f d) = u := ⟨_, rfl⟩
    obtain ⟨uL, hL_⟩ : ∃ u, ip (f hi) = u := ⟨_, rfl⟩
    obtain ⟨uM, hM_⟩ : ∃ u, ip (f lo) = u := ⟨_, rfl⟩
    rw [hD_] at HPA HLA
    rw [hL_, hM_] at HPR
    rw [hM_] at HLB
    have hmin : min (xa : Int) (q : Int) = (pp : Int) := by omega
    have hpa' : ¬ (P : Int) < (xa : Int) := by omega
    have q1l : 1 ≤ q ∧ q ≤ P := by omega
    clear hD_ hL_ hM_ hsm hends hfit hpl hf hpp1 hpp HSM HSM2 HSM3 hok hdl0 hdl hrm hd hr hm hr0 hr0l hq sS hsb hsh0 hsh hcc hxa hxb hxc hpa hqP f
    have hcs2 : (e0 = 9 ∧ ok q = false) ∨ (e0 = 0 ∧ ∃ n : Nat, n0 = n ∧ 1 ≤ n ∧ q < n ∧ ok q = false) ∨ (e0 = 0 ∧ ∃ n : Nat, n0 = n ∧ 1 ≤ n ∧ n ≤ q ∧ ok n = true) := by
      rcases hcs with h | ⟨h1, n, h2, h3, h4, h5⟩
      · exact .inl h
      · rcases Nat.lt_or_ge q n with h | h
        · exact .inr (.inl ⟨h1, n, h2, h3, h, h5 h⟩)
        · exact .inr (.inr ⟨h1, n, h2, h3, h, h4 h⟩)
    clear hcs
    have x0 := HX.out.cell 0
    have x1 := HX.out.cell 1
    have x3 := HX.out.cell 3
    have x4 := HX.out.cell 4
    simp only [List.getElem?_toArray, List.getElem?_cons_zero, List.getElem?_cons_succ] at x0 x1 x3 x4
    obtain ⟨c0, c1, c2⟩ := HG.out.gcells
    go_enter Try.func13, Try.ntmps13
    go_wp2_with fail
    refine (HSM4.out _).mono ?_
    rintro e v1 ⟨rfl, hb⟩
    replace hs := hs.keep hb
    replace HG := Lib.hid (HG.out.keep hb)
    replace HX := Lib.hid (HX.out.keep hb)
    clear hb
    clear x0 x1 x3 x4 c0 c1 c2
    have x0 := HX.out.cell 0
    have x1 := HX.out.cell 1
    have x3 := HX.out.cell 3
    have x4 := HX.out.cell 4
    simp only [List.getElem?_toArray, List.getElem?_cons_zero, List.getElem?_cons_succ] at x0 x1 x3 x4
    obtain ⟨c0, c1, c2⟩ := HG.out.gcells
    go_wp2_with fail
    refine (rCheck_c P lo hi _).mono ?_
    rintro e v2 ⟨rfl, hb⟩
    replace hs := hs.keep hb
    replace HG := Lib.hid (HG.out.keep hb)
    replace HX := Lib.hid (HX.out.keep hb)
    clear hb
    rw [HCE.out]
    clear x0 x1 x3 x4 c0 c1 c2
    have x0 := HX.out.cell 0
    have x1 := HX.out.cell 1
    have x3 := HX.out.cell 3
    have x4 := HX.out.cell 4
    simp only [List.getElem?_toArray, List.getElem?_cons_zero, List.getElem?_cons_succ] at x0 x1 x3 x4
    obtain ⟨c0, c1, c2⟩ := HG.out.gcells
    go_wp2_with fail
    refine (rShare_c ((sa : Int), (sb : Int)) _).mono ?_
    rintro e v3 ⟨rfl, hb⟩
    replace hs := hs.keep hb
    replace HG := Lib.hid (HG.out.keep hb)
    replace HX := Lib.hid (HX.out.keep hb)
    clear hb
    rw [HSE.out]
    clear x0 x1 x3 x4 c0 c1 c2
    have x0 := HX.out.cell 0
    have x1 := HX.out.cell 1
    have x3 := HX.out.cell 3
    have x4 := HX.out.cell 4
    simp only [List.getElem?_toArray, List.getElem?_cons_zero, List.getElem?_cons_succ] at x0 x1 x3 x4
    obtain ⟨c0, c1, c2⟩ := HG.out.gcells
    rcases hcs2 with ⟨rfl, hokq⟩ | ⟨rfl, n, rfl, hn1, hqn, hokq⟩ | ⟨rfl, n, rfl, hn1, hn, hokn⟩
    · have b1 : ¬ (p1 : Int) < 1 := by omega
      have b2 : ¬ (p1 : Int) ≤ (q : Int) := by omega
      have b3 : (q : Int) < (p1 : Int) := by omega
      have HL := Lib.hid (Blk.new v3 38 (lV q pp pp1 0 0))
      have hq : Below v3.heap.size v3 (v3.alloc (.cells (lV q pp pp1 0 0) 38)) := (Below.refl _ _).alloc (Nat.le_refl _) _
      replace hs := hs.keep hq
      replace HG := Lib.hid (HG.out.keep hq)
      replace HX := Lib.hid (HX.out.keep hq)
      clear hq
      obtain ⟨i0, i1, i2⟩ := HG.out.gcells
      obtain ⟨d0, d1, d2, d3, d4⟩ := HL.out.lcells
      go_wp2_with fail
      clear x0 x1 x3 x4 c0 c1 c2 d0 d1 d2 d3 d4 i0 i1 i2
      refine (HPR.out _).mono ?_
      rintro e v5 ⟨rfl, hb⟩
      replace hs := hs.keep hb
      replace HX := Lib.hid (HX.out.keep hb)
      clear hb
      have hz1 := Lib.hid ((Blk.new v5 41 (fV (0, 0))).alloc (.cells (fV (0, 0)) 41))
      have hz2 := Lib.hid ((Blk.new1 v5 (.cells (fV (0, 0)) 41) 41 (fV (0, 0))).rowFar (g' := v5.heap.size) (by omega) (fV uL))
      have hq : Below v5.heap.size v5 ((((v5.alloc (.cells (fV (0, 0)) 41)).alloc (.cells (fV (0, 0)) 41)).setRow v5.heap.size (fV uL)).setRow (v5.heap.size + 1) (fV uM)) := (((((Since.refl v5).alloc (.cells (fV (0, 0)) 41)).alloc (.cells (fV (0, 0)) 41)).row (g := v5.heap.size) (Nat.le_refl _) (fV uL)).row (g := v5.heap.size + 1) (by omega) (fV uM)).1
      have H7 := Lib.hid ((hz1.out.row (fV uL)).rowFar (g' := v5.heap.size + 1) (by omega) (fV uM))
      have H8 := Lib.hid (hz2.out.row (fV uM))
      replace hs := hs.keep hq
      replace HX := Lib.hid (HX.out.keep hq)
      have x3 := HX.out.cell 3
      have x4 := HX.out.cell 4
      simp only [List.getElem?_toArray, List.getElem?_cons_zero, List.getElem?_cons_succ] at x3 x4
      obtain ⟨p0, p1⟩ := H8.out.fcells
      go_wp2_with (first | (refine wpList_store_row rfl 41 _ _ rfl (v5.heap.size) _ rfl rfl 41 _ hz1.out (by kernel_rfl) rfl (by simp [Value.oneCell']) ?_) | (refine wpList_store_row rfl 41 _ _ rfl (v5.heap.size + 1) _ rfl rfl 41 _ hz2.out (by kernel_rfl) rfl (by simp [Value.oneCell']) ?_))
      obtain ⟨v6, hu⟩ : ∃ u, (((v5.alloc (.cells (fV (0, 0)) 41)).alloc (.cells (fV (0, 0)) 41)).setRow v5.heap.size (fV uL)).setRow (v5.heap.size + 1) (fV uM) = u := ⟨_, rfl⟩
      rw [hu] at hs HX H7 H8 ⊢
      clear hu hq hz1 hz2 x3 x4 p0 p1
      refine ((HLB.out hokq) _).mono ?_
      rintro e v7 ⟨rfl, hb⟩
      replace hs := hs.keep hb
      clear hb
      go_wp2_with fail
      refine (awake_c _).mono ?_
      rintro e v8 ⟨rfl, hb⟩
      replace hs := hs.keep hb
      clear hb
      go_wp2_with fail
      go_ret
      exact ⟨rfl, hs.1⟩
    · have b1 : ¬ (n : Int) < 1 := by omega
      have b2 : ¬ (n : Int) ≤ (q : Int) := by omega
      have b3 : (q : Int) < (n : Int) := by omega
      have HL := Lib.hid (Blk.new v3 38 (lV q pp pp1 0 0))
      have hq : Below v3.heap.size v3 (v3.alloc (.cells (lV q pp pp1 0 0) 38)) := (Below.refl _ _).alloc (Nat.le_refl _) _
      replace hs := hs.keep hq
      replace HG := Lib.hid (HG.out.keep hq)
      replace HX := Lib.hid (HX.out.keep hq)
      clear hq
      obtain ⟨i0, i1, i2⟩ := HG.out.gcells
      obtain ⟨d0, d1, d2, d3, d4⟩ := HL.out.lcells
      go_wp2_with fail
      clear x0 x1 x3 x4 c0 c1 c2 d0 d1 d2 d3 d4 i0 i1 i2
      refine (HPR.out _).mono ?_
      rintro e v5 ⟨rfl, hb⟩
      replace hs := hs.keep hb
      replace HX := Lib.hid (HX.out.keep hb)
      clear hb
      have hz1 := Lib.hid ((Blk.new v5 41 (fV (0, 0))).alloc (.cells (fV (0, 0)) 41))
      have hz2 := Lib.hid ((Blk.new1 v5 (.cells (fV (0, 0)) 41) 41 (fV (0, 0))).rowFar (g' := v5.heap.size) (by omega) (fV uL))
      have hq : Below v5.heap.size v5 ((((v5.alloc (.cells (fV (0, 0)) 41)).alloc (.cells (fV (0, 0)) 41)).setRow v5.heap.size (fV uL)).setRow (v5.heap.size + 1) (fV uM)) := (((((Since.refl v5).alloc (.cells (fV (0, 0)) 41)).alloc (.cells (fV (0, 0)) 41)).row (g := v5.heap.size) (Nat.le_refl _) (fV uL)).row (g := v5.heap.size + 1) (by omega) (fV uM)).1
      have H7 := Lib.hid ((hz1.out.row (fV uL)).rowFar (g' := v5.heap.size + 1) (by omega) (fV uM))
      have H8 := Lib.hid (hz2.out.row (fV uM))
      replace hs := hs.keep hq
      replace HX := Lib.hid (HX.out.keep hq)
      have x3 := HX.out.cell 3
      have x4 := HX.out.cell 4
      simp only [List.getElem?_toArray, List.getElem?_cons_zero, List.getElem?_cons_succ] at x3 x4
      obtain ⟨p0, p1⟩ := H8.out.fcells
      go_wp2_with (first | (refine wpList_store_row rfl 41 _ _ rfl (v5.heap.size) _ rfl rfl 41 _ hz1.out (by kernel_rfl) rfl (by simp [Value.oneCell']) ?_) | (refine wpList_store_row rfl 41 _ _ rfl (v5.heap.size + 1) _ rfl rfl 41 _ hz2.out (by kernel_rfl) rfl (by simp [Value.oneCell']) ?_))
      obtain ⟨v6, hu⟩ : ∃ u, (((v5.alloc (.cells (fV (0, 0)) 41)).alloc (.cells (fV (0, 0)) 41)).setRow v5.heap.size (fV uL)).setRow (v5.heap.size + 1) (fV uM) = u := ⟨_, rfl⟩
      rw [hu] at hs HX H7 H8 ⊢
      clear hu hq hz1 hz2 x3 x4 p0 p1
      refine ((HLB.out hokq) _).mono ?_
      rintro e v7 ⟨rfl, hb⟩
      replace hs := hs.keep hb
      clear hb
      go_wp2_with fail
      refine (awake_c _).mono ?_
      rintro e v8 ⟨rfl, hb⟩
      replace hs := hs.keep hb
      clear hb
      go_wp2_with fail
      go_ret
      exact ⟨rfl, hs.1⟩
    · have b1 : ¬ (n : Int) < 1 := by omega
      have b2 : (n : Int) ≤ (q : Int) := by omega
      have HL := Lib.hid (Blk.new v3 38 (lV q pp pp1 0 0))
      have hq : Below v3.heap.size v3 (v3.alloc (.cells (lV q pp pp1 0 0) 38)) := (Below.refl _ _).alloc (Nat.le_refl _) _
      replace hs := hs.keep hq
      replace HG := Lib.hid (HG.out.keep hq)
      replace HX := Lib.hid (HX.out.keep hq)
      clear hq
      go_wp2_with fail
      clear x0 x1 x3 x4 c0 c1 c2
      obtain ⟨kL, hkL⟩ : ∃ k, v3.heap.size = k := ⟨_, rfl⟩
      obtain ⟨v4, hv4⟩ : ∃ v, v3.alloc (.cells (lV q pp pp1 0 0) 38) = v := ⟨_, rfl⟩
      rw [hv4] at hs HG HX HL ⊢
      rw [hkL] at HL ⊢
      clear hv4 hkL
      obtain ⟨z, hz⟩ : ∃ z, v4.heap.size = z := ⟨_, rfl⟩
      obtain ⟨I, hI⟩ : ∃ I : Unit → World → Prop, I = fun _ X => (Blk X w.heap.size 25 (gV P lo hi) ∧ Blk X (w.heap.size + 1) 70 (#[.int .u8 xa, .int .u8 xb, .int .u8 xc, .int .i64 (sa : Nat), .int .i64 (sb : Nat)])) ∧ Blk X kL 38 (lV q pp pp1 0 0) := ⟨_, rfl⟩
      have hA : AllFrom z I := by
        rw [hI]
        have b0 := HG.out.lt
        have b1 := HX.out.lt
        have b2 := HL.out.lt
        exact ((AllFrom.blk (by omega) _ _).and (AllFrom.blk (by omega) _ _)).and (AllFrom.blk (by omega) _ _)
      have hw : w.heap.size ≤ z := by rw [← hz]; exact hs.2
      have hI0 : I () v4 := by rw [hI]; exact ⟨⟨HG.out, HX.out⟩, HL.out⟩
      have hIo : ∀ X, I () X → (Blk X w.heap.size 25 (gV P lo hi) ∧ Blk X (w.heap.size + 1) 70 (#[.int .u8 xa, .int .u8 xb, .int .u8 xc, .int .i64 (sa : Nat), .int .i64 (sb : Nat)])) ∧ Blk X kL 38 (lV q pp pp1 0 0) := fun X h => by rw [hI] at h; exact h
      clear hI HG HX HL
      have hzz : z ≤ v4.heap.size := Nat.le_of_eq hz.symm
      clear hz
      try dsimp only [Act.put]
      refine Vals9.region (fun σ X => Bx 25 (gV 0 0 0) (gV P d d) w z I (σ 18) (σ 19) X) [some 88, some 89, some 90, some 91, some 92, some 93, some 94, some 95, some 96, some 97, some 98, some 99, some 100, some 101, some 102, some 103, some 104, some 105, some 10, none] [.is (.agg (gV P lo hi)), .is ?_, .is ?_, .is (.int .i64 (lo : Nat)), .is ?_, .is (.int .u8 (xc : Nat)), .is (.int .i64 (xc : Nat)), .is ?_, .is ?_, .is (.int .i64 (hi : Nat)), .is ?_, .is ?_, .is (.int .i64 (lo : Nat)), .is (.int .i64 (dl : Nat)), .is (.int .i64 (m : Nat)), .is (.int .i64 (r : Nat)), .is (.int .i64 (d : Nat)), .is (.agg (gV P d d)), .any, .any] (by kernel_rfl) (by kernel_rfl) (by kernel_rfl) (by kernel_rfl) (by kernel_rfl) (by kernel_rfl) (Bx.start hzz hs.drew (hA.keep hI0 (Below.refl _ _).drew)) ?hsteps ?hfin
      case hsteps =>
        refine Vals9.Steps.run rfl ?_ ?_
        · intro a W σ hJ pre K hK
          have e2 := pre.2.2 2 _ (by kernel_rfl) rfl
          clear pre
          simp only [Array.getD_eq_getD_getElem?, List.getElem?_toArray, List.getElem?_cons_zero, List.getElem?_cons_succ, Option.getD_some] at e2
          have hS9 := hJ
          have hW9 : Bx 25 (gV 0 0 0) (gV P d d) w z I (σ 18) (σ 19) W := hS9
          obtain ⟨⟨q0, q1⟩, q2⟩ := hIo W hW9.inv
          obtain ⟨c0, c1, c2⟩ := q0.gcells
          have x2 := q1.cell 2
          simp only [List.getElem?_toArray, List.getElem?_cons_zero, List.getElem?_cons_succ] at x2
          go_simp
          exact hK _ hJ
        refine Vals9.Steps.run rfl ?_ ?_
        · intro a W σ hJ pre K hK
          have e2 := pre.2.2 2 _ (by kernel_rfl) rfl
          clear pre
          simp only [Array.getD_eq_getD_getElem?, List.getElem?_toArray, List.getElem?_cons_zero, List.getElem?_cons_succ, Option.getD_some] at e2
          go_simp
          exact hK _ hJ
        refine Vals9.Steps.run rfl ?_ ?_
        · intro a W σ hJ pre K hK
          have e89 := pre.1 1 89 _ (by kernel_rfl) rfl rfl
          clear pre
          simp only [Array.getD_eq_getD_getElem?, List.getElem?_toArray, List.getElem?_cons_zero, List.getElem?_cons_succ, Option.getD_some] at e89
          go_simp
          exact hK _ hJ
        refine Vals9.Steps.run rfl ?_ ?_
        · intro a W σ hJ pre K hK
          have e90 := pre.1 2 90 _ (by kernel_rfl) rfl rfl
          clear pre
          simp only [Array.getD_eq_getD_getElem?, List.getElem?_toArray, List.getElem?_cons_zero, List.getElem?_cons_succ, Option.getD_some] at e90
          have hS9 := hJ
          have hW9 : Bx 25 (gV 0 0 0) (gV P d d) w z I (σ 18) (σ 19) W := hS9
          obtain ⟨⟨q0, q1⟩, q2⟩ := hIo W hW9.inv
          obtain ⟨c0, c1, c2⟩ := q0.gcells
          have x2 := q1.cell 2
          simp only [List.getElem?_toArray, List.getElem?_cons_zero, List.getElem?_cons_succ] at x2
          go_simp
          exact hK _ hJ
        refine Vals9.Steps.run rfl ?_ ?_
        · intro a W σ hJ pre K hK
          have e3 := pre.2.2 3 _ (by kernel_rfl) rfl
          clear pre
          simp only [Array.getD_eq_getD_getElem?, List.getElem?_toArray, List.getElem?_cons_zero, List.getElem?_cons_succ, Option.getD_some] at e3
          go_simp
          exact hK _ hJ
        refine Vals9.Steps.run rfl ?_ ?_
        · intro a W σ hJ pre K hK
          have e92 := pre.1 4 92 _ (by kernel_rfl) rfl rfl
          clear pre
          simp only [Array.getD_eq_getD_getElem?, List.getElem?_toArray, List.getElem?_cons_zero, List.getElem?_cons_succ, Option.getD_some] at e92
          have hS9 := hJ
          have hW9 : Bx 25 (gV 0 0 0) (gV P d d) w z I (σ 18) (σ 19) W := hS9
          obtain ⟨⟨q0, q1⟩, q2⟩ := hIo W hW9.inv
          obtain ⟨c0, c1, c2⟩ := q0.gcells
          have x2 := q1.cell 2
          simp only [List.getElem?_toArray, List.getElem?_cons_zero, List.getElem?_cons_succ] at x2
          go_simp
          exact hK _ hJ
        refine Vals9.Steps.run rfl ?_ ?_
        · intro a W σ hJ pre K hK
          have e93 := pre.1 5 93 _ (by kernel_rfl) rfl rfl
          clear pre
          simp only [Array.getD_eq_getD_getElem?, List.getElem?_toArray, List.getElem?_cons_zero, List.getElem?_cons_succ, Option.getD_some] at e93
          go_simp
          exact hK _ hJ
        refine Vals9.Steps.run rfl ?_ ?_
        · intro a W σ hJ pre K hK
          have e2 := pre.2.2 2 _ (by kernel_rfl) rfl
          clear pre
          simp only [Array.getD_eq_getD_getElem?, List.getElem?_toArray, List.getElem?_cons_zero, List.getElem?_cons_succ, Option.getD_some] at e2
          go_simp
          exact hK _ hJ
        refine Vals9.Steps.run rfl ?_ ?_
        · intro a W σ hJ pre K hK
          have e95 := pre.1 7 95 _ (by kernel_rfl) rfl rfl
          clear pre
          simp only [Array.getD_eq_getD_getElem?, List.getElem?_toArray, List.getElem?_cons_zero, List.getElem?_cons_succ, Option.getD_some] at e95
          go_simp
          exact hK _ hJ
        refine Vals9.Steps.run rfl ?_ ?_
        · intro a W σ hJ pre K hK
          have e96 := pre.1 8 96 _ (by kernel_rfl) rfl rfl
          clear pre
          simp only [Array.getD_eq_getD_getElem?, List.getElem?_toArray, List.getElem?_cons_zero, List.getElem?_cons_succ, Option.getD_some] at e96
          have hS9 := hJ
          have hW9 : Bx 25 (gV 0 0 0) (gV P d d) w z I (σ 18) (σ 19) W := hS9
          obtain ⟨⟨q0, q1⟩, q2⟩ := hIo W hW9.inv
          obtain ⟨c0, c1, c2⟩ := q0.gcells
          have x2 := q1.cell 2
          simp only [List.getElem?_toArray, List.getElem?_cons_zero, List.getElem?_cons_succ] at x2
          go_simp
          exact hK _ hJ
        refine Vals9.Steps.run rfl ?_ ?_
        · intro a W σ hJ pre K hK
          have e2 := pre.2.2 2 _ (by kernel_rfl) rfl
          clear pre
          simp only [Array.getD_eq_getD_getElem?, List.getElem?_toArray, List.getElem?_cons_zero, List.getElem?_cons_succ, Option.getD_some] at e2
          go_simp
          exact hK _ hJ
        refine Vals9.Steps.run rfl ?_ ?_
        · intro a W σ hJ pre K hK
          have e98 := pre.1 10 98 _ (by kernel_rfl) rfl rfl
          clear pre
          simp only [Array.getD_eq_getD_getElem?, List.getElem?_toArray, List.getElem?_cons_zero, List.getElem?_cons_succ, Option.getD_some] at e98
          go_simp
          exact hK _ hJ
        refine Vals9.Steps.run rfl ?_ ?_
        · intro a W σ hJ pre K hK
          have e99 := pre.1 11 99 _ (by kernel_rfl) rfl rfl
          clear pre
          simp only [Array.getD_eq_getD_getElem?, List.getElem?_toArray, List.getElem?_cons_zero, List.getElem?_cons_succ, Option.getD_some] at e99
          have hS9 := hJ
          have hW9 : Bx 25 (gV 0 0 0) (gV P d d) w z I (σ 18) (σ 19) W := hS9
          obtain ⟨⟨q0, q1⟩, q2⟩ := hIo W hW9.inv
          obtain ⟨c0, c1, c2⟩ := q0.gcells
          have x2 := q1.cell 2
          simp only [List.getElem?_toArray, List.getElem?_cons_zero, List.getElem?_cons_succ] at x2
          go_simp
          exact hK _ hJ
        refine Vals9.Steps.run rfl ?_ ?_
        · intro a W σ hJ pre K hK
          have e97 := pre.1 9 97 _ (by kernel_rfl) rfl rfl
          have e100 := pre.1 12 100 _ (by kernel_rfl) rfl rfl
          clear pre
          simp only [Array.getD_eq_getD_getElem?, List.getElem?_toArray, List.getElem?_cons_zero, List.getElem?_cons_succ, Option.getD_some] at e97 e100
          go_simp
          exact hK _ hJ
        refine Vals9.Steps.run rfl ?_ ?_
        · intro a W σ hJ pre K hK
          have e101 := pre.1 13 101 _ (by kernel_rfl) rfl rfl
          clear pre
          simp only [Array.getD_eq_getD_getElem?, List.getElem?_toArray, List.getElem?_cons_zero, List.getElem?_cons_succ, Option.getD_some] at e101
          go_simp
          exact hK _ hJ
        refine Vals9.Steps.run rfl ?_ ?_
        · intro a W σ hJ pre K hK
          have e94 := pre.1 6 94 _ (by kernel_rfl) rfl rfl
          have e102 := pre.1 14 102 _ (by kernel_rfl) rfl rfl
          clear pre
          simp only [Array.getD_eq_getD_getElem?, List.getElem?_toArray, List.getElem?_cons_zero, List.getElem?_cons_succ, Option.getD_some] at e94 e102
          go_simp
          exact hK _ hJ
        refine Vals9.Steps.run rfl ?_ ?_
        · intro a W σ hJ pre K hK
          have e91 := pre.1 3 91 _ (by kernel_rfl) rfl rfl
          have e103 := pre.1 15 103 _ (by kernel_rfl) rfl rfl
          clear pre
          simp only [Array.getD_eq_getD_getElem?, List.getElem?_toArray, List.getElem?_cons_zero, List.getElem?_cons_succ, Option.getD_some] at e91 e103
          go_simp
          exact hK _ hJ
        refine Vals9.Steps.run rfl ?_ ?_
        · intro a W σ hJ pre K hK
          have e88 := pre.1 0 88 _ (by kernel_rfl) rfl rfl
          have e104 := pre.1 16 104 _ (by kernel_rfl) rfl rfl
          clear pre
          simp only [Array.getD_eq_getD_getElem?, List.getElem?_toArray, List.getElem?_cons_zero, List.getElem?_cons_succ, Option.getD_some] at e88 e104
          go_simp
          refine (at_c _ _ _ _ _).mono ?_
          rintro e w' ⟨rfl, hb'⟩
          have hJ2 : Bx 25 (gV 0 0 0) (gV P d d) w z I (σ 18) (σ 19) W := hJ
          exact hK _ (hJ2.keep hA hb')
        refine Vals9.Steps.mark rfl ?_ ?_
        · intro a W σ hJ hn pre K hK
          have hJ2 : Bx 25 (gV 0 0 0) (gV P d d) w z I (σ 18) (σ 19) W := hJ
          rw [hn] at hJ2
          go_simp
          exact hK _ _ (hJ2.mk1 hA)
        refine Vals9.Steps.mark rfl ?_ ?_
        · intro a W σ hJ hn pre K hK
          obtain ⟨v10, s10, e10⟩ := pre.2.1 18 (by kernel_rfl) rfl
          replace e10 : a.tmps.getD 10 undef = v10 := e10 10 rfl
          have e105 := pre.1 17 105 _ (by kernel_rfl) rfl rfl
          simp only [Array.getD_eq_getD_getElem?, List.getElem?_toArray, List.getElem?_cons_zero, List.getElem?_cons_succ, Option.getD_some] at e10 e105
          have hJ2 : Bx 25 (gV 0 0 0) (gV P d d) w z I (σ 18) (σ 19) W := hJ
          rw [hn, s10] at hJ2
          obtain ⟨g7, hv7, hg7, ⟨-, hB⟩ | ⟨q, -⟩⟩ := hJ2.nw _ rfl
          · subst hv7
            refine wp_store_row 25 _ _ rfl g7 (gV P d d) (by simpa [Act.eval] using e10) (by simpa [Act.eval] using e105) 25 _ hB (by kernel_rfl) rfl (by simp [Value.oneCell']) ?_
            have h2 := hJ2.put hw hA hg7 hB undef
            rw [← s10] at h2
            exact hK undef _ h2
          · exact absurd rfl q
        exact Vals9.Steps.nil
      case hfin =>
      rintro X σ hJ
      simp only [Vals9.All]
      intro va hva vb hvb
      have hJ2 : Bx 25 (gV 0 0 0) (gV P d d) w z I (σ 18) (σ 19) X := hJ
      rw [hvb] at hJ2
      obtain ⟨gT, rfl, -, ⟨q, -⟩ | ⟨-, hB⟩⟩ := hJ2.nw _ hva
      · cases q
      have hs6 := hJ2.sn
      have HI := Lib.hid (hIo X hJ2.inv)
      have HX := Lib.hid HI.out.1.2
      have HL := Lib.hid HI.out.2
      have HT := Lib.hid hB
      clear hJ hJ2 hva hvb hB HI hs hI0 hA hIo hzz hw I z
      simp only [Vals.putAll, List.setIfInBounds_toArray, List.set_cons_zero, List.set_cons_succ]
      have hs := hs6
      clear hs6
      obtain ⟨c0, c1, c2⟩ := HT.out.gcells
      obtain ⟨d0, d1, d2, d3, d4⟩ := HL.out.lcells
      go_wp2_with fail
      refine (HPA.out _).mono ?_
      rintro e v5 ⟨rfl, hb⟩
      replace hs := hs.keep hb
      replace HX := Lib.hid (HX.out.keep hb)
      clear hb
      clear c0 c1 c2 d0 d1 d2 d3 d4
      have hz1 := Lib.hid ((Blk.new v5 41 (fV (0, 0))).alloc (.cells (fV (0, 0)) 41))
      have hz2 := Lib.hid ((Blk.new1 v5 (.cells (fV (0, 0)) 41) 41 (fV (0, 0))).rowFar (g' := v5.heap.size) (by omega) (fV uD))
      have hq : Below v5.heap.size v5 ((((v5.alloc (.cells (fV (0, 0)) 41)).alloc (.cells (fV (0, 0)) 41)).setRow v5.heap.size (fV uD)).setRow (v5.heap.size + 1) (fV uD)) := (((((Since.refl v5).alloc (.cells (fV (0, 0)) 41)).alloc (.cells (fV (0, 0)) 41)).row (g := v5.heap.size) (Nat.le_refl _) (fV uD)).row (g := v5.heap.size + 1) (by omega) (fV uD)).1
      have H7 := Lib.hid ((hz1.out.row (fV uD)).rowFar (g' := v5.heap.size + 1) (by omega) (fV uD))
      have H8 := Lib.hid (hz2.out.row (fV uD))
      replace hs := hs.keep hq
      replace HX := Lib.hid (HX.out.keep hq)
      have x3 := HX.out.cell 3
      have x4 := HX.out.cell 4
      simp only [List.getElem?_toArray, List.getElem?_cons_zero, List.getElem?_cons_succ] at x3 x4
      obtain ⟨p0, p1⟩ := H8.out.fcells
      go_wp2_with (first | (refine wpList_store_row rfl 41 _ _ rfl (v5.heap.size) _ rfl rfl 41 _ hz1.out (by kernel_rfl) rfl (by simp [Value.oneCell']) ?_) | (refine wpList_store_row rfl 41 _ _ rfl (v5.heap.size + 1) _ rfl rfl 41 _ hz2.out (by kernel_rfl) rfl (by simp [Value.oneCell']) ?_))
      obtain ⟨v6, hu⟩ : ∃ u, (((v5.alloc (.cells (fV (0, 0)) 41)).alloc (.cells (fV (0, 0)) 41)).setRow v5.heap.size (fV uD)).setRow (v5.heap.size + 1) (fV uD) = u := ⟨_, rfl⟩
      rw [hu] at hs HX H7 H8 ⊢
      clear hu hq hz1 hz2 x3 x4 p0 p1
      refine ((HLA.out n hn hokn) _).mono ?_
      rintro e v7 ⟨rfl, hb⟩
      replace hs := hs.keep hb
      clear hb
      go_wp2_with fail
      refine (awake_c _).mono ?_
      rintro e v8 ⟨rfl, hb⟩
      replace hs := hs.keep hb
      clear hb
      go_wp2_with fail
      go_ret
      exact ⟨rfl, hs.1⟩
  · have HBAD : Hid (∃ E : Int, E ≠ 0 ∧ ∀ W, Calls Try.prog 31 #[.agg (gV P lo hi), .int .i64 xa, .agg (fV xm)] W fun e w' => e = .returned (.tuple #[.int .i64 0, .int .i64 E]) ∧ Below W.heap.size W w') := by
      have hc := fun W => Smallest_c P lo hi xa xm W
      by_cases h1 : chkE P lo hi = 0
      · by_cases h2 : (xa : Int) ≤ P
        · have h3 : ¬ shrE xm = true := fun h => hv ⟨h1, h2, h⟩
          have e : smaA P lo hi xa xm = (0, 6) := by unfold smaA; rw [if_pos h1, if_pos (wi_iff.2 (by omega)), if_neg h3]
          rw [e] at hc
          exact ⟨6, by decide, hc⟩
        · have e : smaA P lo hi xa xm = (0, 7) := by unfold smaA; rw [if_pos h1, if_neg (by rw [wi_iff]; omega)]
          rw [e] at hc
          exact ⟨7, by decide, hc⟩
      · have e : smaA P lo hi xa xm = (0, chkE P lo hi) := by unfold smaA; rw [if_neg h1]
        rw [e] at hc
        exact ⟨_, h1, hc⟩
    obtain ⟨E, hE, hc⟩ := HBAD.out
    have HSM := Lib.hid hc
    have hE' : (E != 0) = true := by simpa using hE
    have HV := Lib.hid hv
    clear HBAD hc hv
    have x0 := HX.out.cell 0
    have x1 := HX.out.cell 1
    have x3 := HX.out.cell 3
    have x4 := HX.out.cell 4
    simp only [List.getElem?_toArray, List.getElem?_cons_zero, List.getElem?_cons_succ] at x0 x1 x3 x4
    obtain ⟨c0, c1, c2⟩ := HG.out.gcells
    go_enter Try.func13, Try.ntmps13
    go_wp2_with fail
    refine (HSM.out _).mono ?_
    rintro e v1 ⟨rfl, hb⟩
    replace hs := hs.keep hb
    replace HG := Lib.hid (HG.out.keep hb)
    replace HX := Lib.hid (HX.out.keep hb)
    clear hb
    clear x0 x1 x3 x4 c0 c1 c2
    have x0 := HX.out.cell 0
    have x1 := HX.out.cell 1
    have x3 := HX.out.cell 3
    have x4 := HX.out.cell 4
    simp only [List.getElem?_toArray, List.getElem?_cons_zero, List.getElem?_cons_succ] at x0 x1 x3 x4
    obtain ⟨c0, c1, c2⟩ := HG.out.gcells
    go_wp2_with fail
    refine (rCheck_c P lo hi _).mono ?_
    rintro e v2 ⟨rfl, hb⟩
    replace hs := hs.keep hb
    replace HG := Lib.hid (HG.out.keep hb)
    replace HX := Lib.hid (HX.out.keep hb)
    clear hb
    clear x0 x1 x3 x4 c0 c1 c2
    have x0 := HX.out.cell 0
    have x1 := HX.out.cell 1
    have x3 := HX.out.cell 3
    have x4 := HX.out.cell 4
    simp only [List.getElem?_toArray, List.getElem?_cons_zero, List.getElem?_cons_succ] at x0 x1 x3 x4
    obtain ⟨c0, c1, c2⟩ := HG.out.gcells
    by_cases hc : chkE P lo hi = 0
    · rw [hc]
      by_cases h2 : (xa : Int) ≤ P
      · have h2' : ¬ P < (xa : Int) := by omega
        have h3 : ¬ shrE xm = true := fun h => HV.out ⟨hc, h2, h⟩
        have HSE : Hid (shaE xm = 6) := if_neg h3
        clear hc h3
        go_wp2_with fail
        refine (rShare_c xm _).mono ?_
        rintro e v3 ⟨rfl, hb⟩
        replace hs := hs.keep hb
        clear hb
        rw [HSE.out]
        clear x0 x1 x3 x4 c0 c1 c2
        go_wp2_with fail
        refine (awake_c _).mono ?_
        rintro e v4 ⟨rfl, hb⟩
        replace hs := hs.keep hb
        clear hb
        go_wp2_with fail
        go_ret
        exact ⟨rfl, hs.1⟩
      · have h2' : P < (xa : Int) := by omega
        clear hc
        go_wp2_with fail
        refine (awake_c _).mono ?_
        rintro e v4 ⟨rfl, hb⟩
        replace hs := hs.keep hb
        clear hb
        go_wp2_with fail
        go_ret
        exact ⟨rfl, hs.1⟩
    · have hc' : (chkE P lo hi != 0) = true := by simpa using hc
      clear hc
      go_wp2_with fail
      refine (awake_c _).mono ?_
      rintro e v4 ⟨rfl, hb⟩
      replace hs := hs.keep hb
      clear hb
      go_wp2_with fail
      go_ret
      exact ⟨rfl, hs.1⟩
end Td
end Go.Proofs.Ytgkdidnmndmlhaa
