import Derived.Test.YtmofbnadfgejiaaRfsN
import Derived.Test.YtmofbnadfgejiaaLvlD
/- The reference: Refusal. -/
namespace Go.Proofs.Ytmofbnadfgejiaa
open Go.RowKit
namespace Td
set_option linter.unusedSimpArgs false
set_option linter.unusedVariables false
attribute [local go_sem] Oper.semAt_some
theorem own_blk {W : World} {B sz n k : Nat} {e : TypeId} {v : Value} {xs : List Value} (h : W.ownsRow B e sz v n xs) (hk : v.ownBlock = some k) : ∃ cs : Array Value, Blk W k e cs := by
  rcases h.2 with ⟨rfl, _⟩ | ⟨g, cap, cur, rfl, hb, hg, _⟩
  · simp [Value.ownBlock] at hk
  · simp [Value.ownBlock] at hk
    subst hk
    exact ⟨cur, hg⟩
theorem all_grown {W W' : World} {gA B sz n : Nat} {V : Nat → Value} {s : Spc} {l : List Rd} {mn t : Nat} {v : Value} {xs : List Value} (h : AllAt W gA V s l mn t) (ho : W.ownsRow B 3 sz v n xs) (hg : W.grownBy W' v.ownBlock) : AllAt W' gA V s l mn t := by
  refine h.far hg (fun e => ?_) (fun k e => own_blk ho e)
  obtain ⟨cs, h6⟩ := own_blk ho e
  have := h6.symm.trans h.b
  have h7 : (3 : Nat) = 99 := by injection this with h8; injection h8
  exact absurd h7 (by decide)
theorem span_fst (a b : Int) (W : World) : (Instr.field 23 (.agg #[.int .i64 a, .int .i64 b]) 0).run Try.prog W = .ok (.int .i64 a) W := by kernel_rfl
theorem refusal_some2 {s : Spc} {l : List Rd} {mi : Int} {x : Int × Int} (hw : watE s l mi = 0) (hx : now s l mi = some x) (h : s.lim < x.2) : refusalA s l mi = (tru s (kno l mi) mi.toNat (max x.1 (s.lim + 1)), 0) := by
  unfold refusalA
  rw [if_pos hw, hx, Option.getD_some, if_neg (by omega)]
theorem refusal_none2 {s : Spc} {l : List Rd} {mi : Int} {x : Int × Int} (hw : watE s l mi = 0) (hx : now s l mi = some x) (h : x.2 ≤ s.lim) : refusalA s l mi = ([], 4) := by
  unfold refusalA
  rw [if_pos hw, hx, Option.getD_some, if_pos h]
/-- one level of the last minute's set is looked at. -/
structure Rx (w : World) (s : Spc) (m : Sl) (gL gA n : Nat) (b : Bool) (F : Nat → Bool) (ra : Array Value) (σ : Vals9.Sig) (Z : World) : Prop where
  hs : Sp w s m Z
  ho : σ 11 = none → Blk Z gL 4 (rB F 201)
  hn : ∀ u, σ 11 = some u → Blk Z gL 4 (rB (fun i => if i = n then b else F i) 201)
  ha : Blk Z gA 99 ra
section
variable {w Z Z' : World} {s : Spc} {m : Sl} {gL gA n : Nat} {b : Bool} {F : Nat → Bool} {ra : Array Value} {σ : Vals9.Sig}
theorem Rx.keep (h : Rx w s m gL gA n b F ra σ Z) (hb : Below Z.heap.size Z Z') : Rx w s m gL gA n b F ra σ Z' := ⟨h.hs.keep hb, fun e => (h.ho e).keep hb, fun u e => (h.hn u e).keep hb, h.ha.keep hb⟩
theorem Rx.turn (h : Rx w s m gL gA n b F ra σ Z) (hn : σ 11 = none) (hL : w.heap.size < gL) (hA : gL ≠ gA) : Rx w s m gL gA n b F ra (Vals9.upd σ 11 undef) (Z.setCell ⟨gL, n, none⟩ (.bool b)) := by
  refine ⟨⟨⟨h.hs.sn.1.setCell (p := ⟨gL, n, none⟩) (by simp; omega) _, by simpa using h.hs.sn.2⟩, h.hs.bk.far (by omega) _ _⟩, fun e => ?_, fun u e => ?_, h.ha.far hA _ _⟩
  · rw [Vals9.upd_same] at e; cases e
  · have := (h.ho hn).set n (.bool b)
    rwa [rB_set] at this
end
/-- one set more: the minute's before the last one. -/
structure By (w : World) (s : Spc) (m : Sl) (gA gQ : Nat) (V : Nat → Value) (l : List Rd) (mn t : Nat) (σ : Vals9.Sig) (Z : World) : Prop where
  hs : Sp w s m Z
  hc : Z.cell? ⟨gA, t + 1, none⟩ = some (.slice (some ⟨gQ, 0, none⟩) 201 201)
  hq : Blk Z gQ 4 (rB (fun i => alB s l (mn : Int) (mn - (t + 1)) (i : Int)) 201)
  ho : σ 12 = none → AllAt Z gA V s l mn (t + 1)
  hr : ∀ u, σ 10 = some u → ∃ g, u = .slice (some ⟨g, 0, none⟩) 201 201 ∧ g ≠ gA ∧ Blk Z g 4 (rB (fun i => alB s l (mn : Int) (mn - t) (i : Int)) 201)
  hn : ∀ u v, σ 12 = some u → σ 10 = some v → ∃ V', AllAt Z gA V' s l mn t
  p : ∀ u, σ 12 = some u → ∃ v, σ 10 = some v
section
variable {w Z Z' : World} {s : Spc} {m : Sl} {gA gQ : Nat} {V : Nat → Value} {l : List Rd} {mn t : Nat} {σ : Vals9.Sig}
theorem By.no12 (h : By w s m gA gQ V l mn t σ Z) (hn : σ 10 = none) : σ 12 = none := by
  cases e : σ 12 with
  | none => rfl
  | some u => obtain ⟨v, hv⟩ := h.p u e; rw [hn] at hv; cases hv
theorem By.keep (h : By w s m gA gQ V l mn t σ Z) (hb : Below Z.heap.size Z Z') : By w s m gA gQ V l mn t σ Z' :=
  ⟨h.hs.keep hb, keep_cell hb h.hc, h.hq.keep hb, fun e => (h.ho e).keep hb, fun u e => by obtain ⟨g, h1, h2, h3⟩ := h.hr u e; exact ⟨g, h1, h2, h3.keep hb⟩, fun u v e1 e2 => by obtain ⟨V', h1⟩ := h.hn u v e1 e2; exact ⟨V', h1.keep hb⟩, h.p⟩
theorem By.call (h : By w s m gA gQ V l mn t σ Z) (hn : σ 10 = none) (h12 : σ 12 = none) {g : Nat} (hg : Blk Z g 4 (rB (fun i => alB s l (mn : Int) (mn - t) (i : Int)) 201)) : By w s m gA gQ V l mn t (Vals9.upd σ 10 (.slice (some ⟨g, 0, none⟩) 201 201)) Z := by
  refine ⟨h.hs, h.hc, h.hq, fun _ => h.ho h12, fun u e => ?_, fun u v e1 _ => ?_, fun u e => ⟨_, Vals9.upd_same _ _ _⟩⟩
  · rw [Vals9.upd_same] at e
    refine ⟨g, (Option.some.inj e).symm, fun e2 => ?_, hg⟩
    subst e2
    have := (h.ho h12).b.symm.trans hg
    have h7 : (99 : Nat) = 4 := by injection this with h8; injection h8
    exact absurd h7 (by decide)
  · rw [upd_ne (by decide), h12] at e1; cases e1
theorem By.turn {g : Nat} (h : By w s m gA gQ V l mn t σ Z) (hn : σ 12 = none) (s10 : σ 10 = some (.slice (some ⟨g, 0, none⟩) 201 201)) (ht : t ≤ mn) (hA : w.heap.size < gA) (hQ : gQ ≠ gA) : By w s m gA gQ V l mn t (Vals9.upd σ 12 undef) (Z.setCell ⟨gA, t, none⟩ (.slice (some ⟨g, 0, none⟩) 201 201)) := by
  obtain ⟨g2, h1, h2, h3⟩ := h.hr _ s10
  have hgg : g = g2 := by simpa using h1
  subst hgg
  have hA5 := (h.ho hn).next h2 ht h3
  refine ⟨⟨⟨h.hs.sn.1.setCell (p := ⟨gA, t, none⟩) (by simp; omega) _, by simpa using h.hs.sn.2⟩, h.hs.bk.far (by omega) _ _⟩, ?_, h.hq.far (Ne.symm hQ) _ _, fun e => ?_, fun u e => ?_, fun u v _ _ => ⟨_, hA5⟩, fun u e => ⟨_, by rw [upd_ne (by decide)]; exact s10⟩⟩
  · have hb := (h.ho hn).b
    have h9 := (hb.set t (.slice (some ⟨g, 0, none⟩) 201 201)).cell (t + 1)
    rw [Array.getElem?_setIfInBounds_ne (by omega)] at h9
    rw [h9, ← hb.cell (t + 1)]
    exact h.hc
  · rw [Vals9.upd_same] at e; cases e
  · rw [upd_ne (by decide)] at e
    obtain ⟨g3, h4, h5, h6⟩ := h.hr u e
    exact ⟨g3, h4, h5, h6.far (Ne.symm h5) _ _⟩
end
def laB (s : Spc) (l : List Rd) (mn : Nat) (n : Int) (i : Nat) : Bool := (decide (s.lim < (i : Int)) && decide ((i : Int) < n)) && agB s l (mn : Int) (i : Int)
theorem laB_start {s : Spc} {l : List Rd} {mn : Nat} (i : Nat) : laB s l mn (s.lim + 1) i = false := by
  unfold laB
  by_cases h1 : (i : Int) < s.lim + 1
  · have : decide (s.lim < (i : Int)) = false := decide_eq_false (by omega)
    rw [this]; rfl
  · have : decide ((i : Int) < s.lim + 1) = false := decide_eq_false h1
    rw [this]; simp
theorem laB_next {s : Spc} {l : List Rd} {mn n : Nat} (h : s.lim < (n : Int)) : (fun i => if i = n then agB s l (mn : Int) (n : Int) else laB s l mn (n : Int) i) = laB s l mn ((n : Int) + 1) := by
  funext i
  unfold laB
  by_cases h1 : i = n
  · subst h1
    rw [if_pos rfl]
    have e1 : decide (s.lim < (i : Int)) = true := decide_eq_true h
    have e2 : decide ((i : Int) < (i : Int) + 1) = true := decide_eq_true (by omega)
    rw [e1, e2]; rfl
  · rw [if_neg h1]
    congr 2
    have : ((i : Int) < (n : Int)) ↔ ((i : Int) < (n : Int) + 1) := by omega
    simp [this]
theorem laB_end {s : Spc} {l : List Rd} {mn : Nat} {n : Int} (hn : 200 < n) {i : Nat} (hi : i < 201) : laB s l mn n i = alB s l (mn : Int) 0 (i : Int) := by
  unfold laB
  rw [alB]
  have e2 : decide ((i : Int) < n) = true := decide_eq_true (by omega)
  rw [e2, Bool.and_true]
set_option maxRecDepth 100000 in
set_option maxHeartbeats 8000000 in
theorem rrefusal_c (s : Spc) (m : Sl) (A : Option Addr) (l : List Rd) (c : Nat) (mi : Int) (w : World) (hsa : SAt w m s) (hrd : RdAt w A l) (hlM : l.length ≤ 9223372036854775807) :
    Calls Try.prog 23 #[.agg (sV s m), .slice A l.length c, .int .i64 mi] w fun e w' => (∃ v, e = .returned (.tuple #[v, .int .i64 (refusalA s l mi).2]) ∧ Lv w' v (refusalA s l mi).1) ∧ Below w.heap.size w w' := by
  have hS0 := Sp.start w s m
  obtain ⟨c0, c1, c2, c3, c4, c5, c6, c7, c8⟩ := hS0.bk.space
  go_enter Try.func23, Try.ntmps23
  go_wp2_with fail
  refine (asked_c s m A l c mi _ (hsa.keep hS0.sn.1) (hrd.keep hS0.sn.1) hlM).mono ?_
  rintro e w1 ⟨⟨v, rfl, hv⟩, hb1⟩
  have hS1 := hS0.keep hb1
  clear c0 c1 c2 c3 c4 c5 c6 c7 c8 hS0 hb1
  by_cases h0 : watE s l mi = 0
  · obtain ⟨hs, hro, h12, hm0, hm1⟩ := watE_ok h0
    obtain ⟨x, hx⟩ := watE_some h0
    obtain ⟨mn, rfl⟩ : ∃ mn : Nat, mi = (mn : Int) := ⟨mi.toNat, by omega⟩
    obtain ⟨g0, rfl, hB1⟩ := hv h0
    have hvx := now_vd hs x hx
    have hE := ends_c (now s l (mn : Int)) g0 w1 (now_vd hs) hB1
    rw [hx] at hE
    dsimp only [Option.getD_some, Option.isSome_some] at hE
    have HW0 := Lib.hid h0
    have HX := Lib.hid hx
    rw [h0]
    clear h0 hv hx hB1
    go_wp2_with fail
    refine hE.mono ?_
    rintro e w2 ⟨rfl, hb2⟩
    have hS2 := (hS1.keep hb2).alloc (.cells #[.int .i64 x.1, .int .i64 x.2] 23)
    have hY := Blk.new w2 23 #[.int .i64 x.1, .int .i64 x.2]
    have y0 := hY.cell 0
    have y1 := hY.cell 1
    simp only [List.getElem?_toArray, List.getElem?_cons_zero, List.getElem?_cons_succ] at y0 y1
    obtain ⟨c0, c1, c2, c3, c4, c5, c6, c7, c8⟩ := hS2.bk.space
    clear hE hS1 hb2 hY
    by_cases hlim : x.2 ≤ s.lim
    · have hno : decide (x.2 ≤ s.lim) = true := decide_eq_true hlim
      have HV := Lib.hid (refusal_none2 HW0.out HX.out hlim)
      clear hlim
      go_wp2_with fail
      go_ret2
      rw [HV.out]
      exact ⟨⟨_, rfl, none, 0, rfl, fun h => absurd rfl h⟩, hS2.sn.1⟩
    · have hno : decide (x.2 ≤ s.lim) = false := decide_eq_false hlim
      have HV := Lib.hid (refusal_some2 HW0.out HX.out (by omega))
      have hl0 := hs.l0
      have hl1 := hs.l1
      have hmk1 := fun W => run_make_row' (P := Try.prog) 108 99 (.slice none 0 0) 24 Try.underlying108 infoLv rfl .i64 .i64 (mn + 1) (by omega) (by omega) W
      have hmk2 := fun W => run_make_row' (P := Try.prog) 99 4 (.bool false) 1 Try.underlying99 infoBool rfl .i64 .i64 201 (by omega) (by omega) W
      simp only [made_rowL, made_rB] at hmk1 hmk2
      push_cast at hmk1 hmk2
      have hw1 : IntKind.i64.wrap ((mn : Int) + 1) = (mn : Int) + 1 := IntWalk.i64_in _ (by omega)
      have hw2 : IntKind.i64.wrap (s.lim + 1) = s.lim + 1 := IntWalk.i64_in _ (by omega)
      obtain ⟨W2, hW2⟩ : ∃ W2, w2.alloc (.cells #[.int .i64 x.1, .int .i64 x.2] 23) = W2 := ⟨_, rfl⟩
      rw [hW2] at hS2 y0 y1 c0 c1 c2 c3 c4 c5 c6 c7 c8
      go_upto_region 8 with fail
      clear c0 c1 c2 c3 c4 c5 c6 c7 c8
      have hS3 := (hS2.alloc (.cells (rowL (fun _ => .slice none 0 0) (mn + 1)) 99)).alloc (.cells (rB (fun _ => false) 201) 4)
      have hA3 := (Blk.new W2 99 (rowL (fun _ => .slice none 0 0) (mn + 1))).alloc (.cells (rB (fun _ => false) 201) 4)
      have hL3 := Blk.new1 W2 (.cells (rowL (fun _ => .slice none 0 0) (mn + 1)) 99) 4 (rB (fun _ => false) 201)
      have hgz := hS2.lt
      obtain ⟨gA, hgA⟩ : ∃ gA, W2.heap.size = gA := ⟨_, rfl⟩
      obtain ⟨W3, hW3⟩ : ∃ W3, (W2.alloc (.cells (rowL (fun _ => .slice none 0 0) (mn + 1)) 99)).alloc (.cells (rB (fun _ => false) 201) 4) = W3 := ⟨_, rfl⟩
      obtain ⟨gL, hgL⟩ : ∃ gL, W2.heap.size + 1 = gL := ⟨_, rfl⟩
      rw [hW3] at hS3 hA3 hL3
      rw [hgL] at hL3
      rw [hgA] at hA3 hgz hgL
      have a0 := hA3.cell mn
      rw [rowL_get _ (show mn < mn + 1 by omega)] at a0
      have fa0 := hA3.frozen mn
      have hA4 := hA3.set mn (.slice (some ⟨gL, 0, none⟩) 201 201)
      rw [rowL_set] at hA4
      obtain ⟨V, hV⟩ : ∃ V : Nat → Value, (fun i => if i = mn then .slice (some ⟨gL, 0, none⟩) 201 201 else (fun _ => .slice none 0 0) i) = V := ⟨_, rfl⟩
      rw [hV] at hA4
      have HVL : Hid (V mn = .slice (some ⟨gL, 0, none⟩) 201 201) := by show _ = _; rw [← hV]; simp
      have hL4 := hL3.far (g' := gA) (by omega) mn (.slice (some ⟨gL, 0, none⟩) 201 201)
      have hS4 : Sp w s m (W3.setCell ⟨gA, mn, none⟩ (.slice (some ⟨gL, 0, none⟩) 201 201)) := ⟨⟨hS3.sn.1.setCell (p := ⟨gA, mn, none⟩) (by simp; omega) _, by simpa using hS3.sn.2⟩, hS3.bk.far (by omega) _ _⟩
      have hmi : (mn : Int) < (mn : Int) + 1 := by omega
      obtain ⟨c0, c1, c2, c3, c4, c5, c6, c7, c8⟩ := hS4.bk.space
      go_wp2_with fail
      obtain ⟨ln, hln⟩ : ∃ ln : Nat, s.lim + 1 = (ln : Int) := ⟨(s.lim + 1).toNat, by omega⟩
      have HLN := Lib.hid hln
      have hln2 : ln ≤ 201 := by omega
      have hgLw : w.heap.size < gL := by omega
      have hLA : gL ≠ gA := by omega
      have hgAw : w.heap.size < gA := by omega
      clear c0 c1 c2 c3 c4 c5 c6 c7 c8 hS3 hA3 hL3 a0 fa0 hV hW3 hgL hgA hW2 hln hw2 hmk1 hmk2 hS2 y0 y1 hgz
      go_loopw [13] (fun i wr => ∃ n : Nat, ln ≤ n ∧ n ≤ 201 ∧ i = .int .i64 n ∧ Sp w s m wr ∧ Hid (Blk wr gL 4 (rB (laB s l mn (n : Int)) 201)) ∧ Hid (Blk wr gA 99 (rowL V (mn + 1)))) (fun i _ => 201 - (intOf i).toNat)
      case atStart => exact ⟨ln, Nat.le_refl _, hln2, by rw [HLN.out], hS4, by show Blk _ _ _ _; rw [← HLN.out, rB_congr (g := fun _ => false) (fun i _ => laB_start i)]; exact hL4, hA4⟩
      case round =>
        obtain ⟨n, hn1, hn2, rfl, hS, HB, HA⟩ := hrel
        by_cases hle : n ≤ 200
        · have hni : (n : Int) ≤ 200 := by omega
          have HNI : Hid ((n : Int) < 201) := by show _ < _; omega
          have HMI := Lib.hid hmi
          obtain ⟨F, hF⟩ : ∃ F, laB s l mn (n : Int) = F := ⟨_, rfl⟩
          have HF := Lib.hid hF
          rw [hF] at HB
          clear hF
          go_wp2_with fail
          refine Vals9.region (Rx w s m gL gA n (agB s l (mn : Int) (n : Int)) F (rowL V (mn + 1))) [some 53, some 54, some 55, some 56, some 57, some 58, some 59, some 60, some 61, some 62, some 63, none] [.is ?_, .is ?_, .is (.pointer (some ⟨gA, mn, none⟩)), .is ?_, .is ?_, .is ?_, .is ?_, .is ?_, .is ?_, .is (.bool (agB s l (mn : Int) (n : Int))), .is ?_, .any] (by kernel_rfl) (by kernel_rfl) (by kernel_rfl) (by kernel_rfl) (by kernel_rfl) (by kernel_rfl) (⟨hS.drew, fun _ => HB.out.drew, fun u h => (by cases h), HA.out.drew⟩) ?hsteps ?hfin
          case hsteps =>
            refine Vals9.Steps.run rfl ?_ ?_
            · intro a W σ hJ pre K hK
              have e12 := pre.2.2 12 _ (by kernel_rfl) rfl
              clear pre
              simp only [Array.getD_eq_getD_getElem?, List.getElem?_toArray, List.getElem?_cons_zero, List.getElem?_cons_succ, Option.getD_some] at e12
              go_simp
              exact hK _ hJ
            refine Vals9.Steps.run rfl ?_ ?_
            · intro a W σ hJ pre K hK
              have e2 := pre.2.2 2 _ (by kernel_rfl) rfl
              clear pre
              simp only [Array.getD_eq_getD_getElem?, List.getElem?_toArray, List.getElem?_cons_zero, List.getElem?_cons_succ, Option.getD_some] at e2
              go_simp
              exact hK _ hJ
            refine Vals9.Steps.run rfl ?_ ?_
            · intro a W σ hJ pre K hK
              have e53 := pre.1 0 53 _ (by kernel_rfl) rfl rfl
              have e54 := pre.1 1 54 _ (by kernel_rfl) rfl rfl
              clear pre
              simp only [Array.getD_eq_getD_getElem?, List.getElem?_toArray, List.getElem?_cons_zero, List.getElem?_cons_succ, Option.getD_some] at e53 e54
              have hmi := HMI.out
              go_simp
              exact hK _ hJ
            refine Vals9.Steps.run rfl ?_ ?_
            · intro a W σ hJ pre K hK
              have e55 := pre.1 2 55 _ (by kernel_rfl) rfl rfl
              clear pre
              simp only [Array.getD_eq_getD_getElem?, List.getElem?_toArray, List.getElem?_cons_zero, List.getElem?_cons_succ, Option.getD_some] at e55
              have hS9 := hJ
              have v0 := hS9.ha.cell mn
              rw [rowL_get _ (show mn < mn + 1 by omega), HVL.out] at v0
              obtain ⟨c0, c1, c2, c3, c4, c5, c6, c7, c8⟩ := hS9.hs.bk.space
              go_simp
              exact hK _ hJ
            refine Vals9.Steps.run rfl ?_ ?_
            · intro a W σ hJ pre K hK
              have e13 := pre.2.2 13 _ (by kernel_rfl) rfl
              clear pre
              simp only [Array.getD_eq_getD_getElem?, List.getElem?_toArray, List.getElem?_cons_zero, List.getElem?_cons_succ, Option.getD_some] at e13
              go_simp
              exact hK _ hJ
            refine Vals9.Steps.run rfl ?_ ?_
            · intro a W σ hJ pre K hK
              have e3 := pre.2.2 3 _ (by kernel_rfl) rfl
              clear pre
              simp only [Array.getD_eq_getD_getElem?, List.getElem?_toArray, List.getElem?_cons_zero, List.getElem?_cons_succ, Option.getD_some] at e3
              have hS9 := hJ
              have v0 := hS9.ha.cell mn
              rw [rowL_get _ (show mn < mn + 1 by omega), HVL.out] at v0
              obtain ⟨c0, c1, c2, c3, c4, c5, c6, c7, c8⟩ := hS9.hs.bk.space
              go_simp
              exact hK _ hJ
            refine Vals9.Steps.run rfl ?_ ?_
            · intro a W σ hJ pre K hK
              have e1 := pre.2.2 1 _ (by kernel_rfl) rfl
              clear pre
              simp only [Array.getD_eq_getD_getElem?, List.getElem?_toArray, List.getElem?_cons_zero, List.getElem?_cons_succ, Option.getD_some] at e1
              go_simp
              exact hK _ hJ
            refine Vals9.Steps.run rfl ?_ ?_
            · intro a W σ hJ pre K hK
              have e2 := pre.2.2 2 _ (by kernel_rfl) rfl
              clear pre
              simp only [Array.getD_eq_getD_getElem?, List.getElem?_toArray, List.getElem?_cons_zero, List.getElem?_cons_succ, Option.getD_some] at e2
              go_simp
              exact hK _ hJ
            refine Vals9.Steps.run rfl ?_ ?_
            · intro a W σ hJ pre K hK
              have e13 := pre.2.2 13 _ (by kernel_rfl) rfl
              clear pre
              simp only [Array.getD_eq_getD_getElem?, List.getElem?_toArray, List.getElem?_cons_zero, List.getElem?_cons_succ, Option.getD_some] at e13
              go_simp
              exact hK _ hJ
            refine Vals9.Steps.run rfl ?_ ?_
            · intro a W σ hJ pre K hK
              have e58 := pre.1 5 58 _ (by kernel_rfl) rfl rfl
              have e59 := pre.1 6 59 _ (by kernel_rfl) rfl rfl
              have e60 := pre.1 7 60 _ (by kernel_rfl) rfl rfl
              have e61 := pre.1 8 61 _ (by kernel_rfl) rfl rfl
              clear pre
              simp only [Array.getD_eq_getD_getElem?, List.getElem?_toArray, List.getElem?_cons_zero, List.getElem?_cons_succ, Option.getD_some] at e58 e59 e60 e61
              go_simp
              refine (agrees_c s m A l c (mn : Int) (n : Int) W hs (hsa.keep hJ.hs.sn.1) (hrd.keep hJ.hs.sn.1) hro h12 (by omega) (by omega)).mono ?_
              rintro e w' ⟨rfl, hb'⟩
              exact hK _ (hJ.keep hb')
            refine Vals9.Steps.run rfl ?_ ?_
            · intro a W σ hJ pre K hK
              have e56 := pre.1 3 56 _ (by kernel_rfl) rfl rfl
              have e57 := pre.1 4 57 _ (by kernel_rfl) rfl rfl
              clear pre
              simp only [Array.getD_eq_getD_getElem?, List.getElem?_toArray, List.getElem?_cons_zero, List.getElem?_cons_succ, Option.getD_some] at e56 e57
              have hni := HNI.out
              go_simp
              exact hK _ hJ
            refine Vals9.Steps.mark rfl ?_ ?_
            · intro a W σ hJ hn pre K hK
              have e62 := pre.1 9 62 _ (by kernel_rfl) rfl rfl
              have e63 := pre.1 10 63 _ (by kernel_rfl) rfl rfl
              simp only [Array.getD_eq_getD_getElem?, List.getElem?_toArray, List.getElem?_cons_zero, List.getElem?_cons_succ, Option.getD_some] at e62 e63
              have b0 := (hJ.ho hn).cell n
              rw [rB_get _ (show n < 201 by omega)] at b0
              have f0 := (hJ.ho hn).frozen n
              go_simp
              exact hK _ _ (hJ.turn hn hgLw hLA)
            exact Vals9.Steps.nil
          case hfin =>
            intro Y σ hJ
            simp only [Vals9.All]
            intro v11 h11
            simp only [Vals.putAll, List.setIfInBounds_toArray, List.set_cons_zero, List.set_cons_succ]
            have hB5 := hJ.hn _ h11
            rw [← HF.out, laB_next (by have := HLN.out; omega)] at hB5
            have hS5 := hJ.hs
            have hA5 := hJ.ha
            clear hJ h11
            go_wp2_with fail
            go_roundw
            case rel => exact ⟨n + 1, by omega, by omega, by go_num, hS5, by push_cast; exact hB5, hA5⟩
            case measure => simp [intOf]; omega
        · have hni : ¬ (n : Int) ≤ 200 := by omega
          have hAll : AllAt wr gA V s l mn mn := ⟨HA.out, fun j h1 h2 => by
            obtain rfl : j = mn := by omega
            refine ⟨gL, HVL.out, hLA, ?_⟩
            rw [Nat.sub_self, rB_congr (g := laB s l j (n : Int)) (fun i hi => (laB_end (by omega) hi).symm)]
            exact HB.out⟩
          have hw3 : IntKind.i64.wrap ((mn : Int) - 1) = (mn : Int) - 1 := IntWalk.i64_in _ (by omega)
          have HMI := Lib.hid hmi
          clear hmi
          go_wp2_with fail
          clear hw3 hS4 hA4 hL4 HB HA HVL
          go_loopw [14] (fun i wr => ∃ (q : Nat) (V : Nat → Value), q ≤ mn ∧ i = .int .i64 ((q : Int) - 1) ∧ Sp w s m wr ∧ Hid (AllAt wr gA V s l mn q)) (fun i _ => (intOf i + 1).toNat)
          case atStart => exact ⟨mn, V, Nat.le_refl _, rfl, hS, hAll⟩
          case round =>
            clear hS hAll
            obtain ⟨q, V, hq, rfl, hS, HA⟩ := hrel
            by_cases hq0 : 1 ≤ q
            · obtain ⟨t, rfl⟩ : ∃ t, q = t + 1 := ⟨q - 1, by omega⟩
              have hqi : (0 : Int) ≤ ((t + 1 : Nat) : Int) - 1 := by omega
              have htt : (((t + 1 : Nat) : Int) - 1) = (t : Int) := by omega
              rw [htt] at hqi ⊢
              obtain ⟨gQ, hVq, hgQ, hBq⟩ := HA.out.r (t + 1) (Nat.le_refl _) hq
              have hcq := HA.out.b.cell (t + 1)
              rw [rowL_get _ (show t + 1 < mn + 1 by omega), hVq] at hcq
              have HTI : Hid (((t + 1 : Nat) : Int) < ((mn : Nat) : Int) + 1) := by show _ < _; omega
              have HTJ : Hid ((t : Int) < ((mn : Nat) : Int) + 1) := by show _ < _; omega
              have HW9 : Hid (IntKind.i64.wrap ((t : Int) + 1) = ((t + 1 : Nat) : Int)) := by show _ = _; rw [IntWalk.i64_in _ (by omega)]; push_cast; rfl
              have hw4 : IntKind.i64.wrap ((t : Int) - 1) = (t : Int) - 1 := IntWalk.i64_in _ (by omega)
              clear htt
              go_wp2_with fail
              refine Vals9.region (By w s m gA gQ V l mn t) [some 70, some 71, some 72, some 73, some 74, some 75, some 76, some 77, some 78, some 79, some 80, some 81, none] [.is ?_, .is ?_, .is ?_, .is ?_, .is ?_, .is ?_, .is (.int .i64 ((t + 1 : Nat) : Int)), .is (.pointer (some ⟨gA, t + 1, none⟩)), .is (.slice (some ⟨gQ, 0, none⟩) 201 201), .is ?_, .any, .is ?_, .any] (by kernel_rfl) (by kernel_rfl) (by kernel_rfl) (by kernel_rfl) (by kernel_rfl) (by kernel_rfl) (⟨hS.drew, hcq, hBq.drew, fun _ => HA.out.keep (Below.refl _ _).drew, fun u h => (by cases h), fun u v h => (by cases h), fun u h => (by cases h)⟩) ?hsteps ?hfin
              case hsteps =>
                refine Vals9.Steps.run rfl ?_ ?_
                · intro a W σ hJ pre K hK
                  have e12 := pre.2.2 12 _ (by kernel_rfl) rfl
                  clear pre
                  simp only [Array.getD_eq_getD_getElem?, List.getElem?_toArray, List.getElem?_cons_zero, List.getElem?_cons_succ, Option.getD_some] at e12
                  go_simp
                  exact hK _ hJ
                refine Vals9.Steps.run rfl ?_ ?_
                · intro a W σ hJ pre K hK
                  have e14 := pre.2.2 14 _ (by kernel_rfl) rfl
                  clear pre
                  simp only [Array.getD_eq_getD_getElem?, List.getElem?_toArray, List.getElem?_cons_zero, List.getElem?_cons_succ, Option.getD_some] at e14
                  go_simp
                  exact hK _ hJ
                refine Vals9.Steps.run rfl ?_ ?_
                · intro a W σ hJ pre K hK
                  have e3 := pre.2.2 3 _ (by kernel_rfl) rfl
                  clear pre
                  simp only [Array.getD_eq_getD_getElem?, List.getElem?_toArray, List.getElem?_cons_zero, List.getElem?_cons_succ, Option.getD_some] at e3
                  have hS9 := hJ
                  obtain ⟨c0, c1, c2, c3, c4, c5, c6, c7, c8⟩ := hS9.hs.bk.space
                  have v0 := hS9.hc
                  go_simp
                  exact hK _ hJ
                refine Vals9.Steps.run rfl ?_ ?_
                · intro a W σ hJ pre K hK
                  have e1 := pre.2.2 1 _ (by kernel_rfl) rfl
                  clear pre
                  simp only [Array.getD_eq_getD_getElem?, List.getElem?_toArray, List.getElem?_cons_zero, List.getElem?_cons_succ, Option.getD_some] at e1
                  go_simp
                  exact hK _ hJ
                refine Vals9.Steps.run rfl ?_ ?_
                · intro a W σ hJ pre K hK
                  have e12 := pre.2.2 12 _ (by kernel_rfl) rfl
                  clear pre
                  simp only [Array.getD_eq_getD_getElem?, List.getElem?_toArray, List.getElem?_cons_zero, List.getElem?_cons_succ, Option.getD_some] at e12
                  go_simp
                  exact hK _ hJ
                refine Vals9.Steps.run rfl ?_ ?_
                · intro a W σ hJ pre K hK
                  have e14 := pre.2.2 14 _ (by kernel_rfl) rfl
                  clear pre
                  simp only [Array.getD_eq_getD_getElem?, List.getElem?_toArray, List.getElem?_cons_zero, List.getElem?_cons_succ, Option.getD_some] at e14
                  go_simp
                  exact hK _ hJ
                refine Vals9.Steps.run rfl ?_ ?_
                · intro a W σ hJ pre K hK
                  have e75 := pre.1 5 75 _ (by kernel_rfl) rfl rfl
                  clear pre
                  simp only [Array.getD_eq_getD_getElem?, List.getElem?_toArray, List.getElem?_cons_zero, List.getElem?_cons_succ, Option.getD_some] at e75
                  have hw9 := HW9.out
                  go_simp
                  exact hK _ hJ
                refine Vals9.Steps.run rfl ?_ ?_
                · intro a W σ hJ pre K hK
                  have e74 := pre.1 4 74 _ (by kernel_rfl) rfl rfl
                  have e76 := pre.1 6 76 _ (by kernel_rfl) rfl rfl
                  clear pre
                  simp only [Array.getD_eq_getD_getElem?, List.getElem?_toArray, List.getElem?_cons_zero, List.getElem?_cons_succ, Option.getD_some] at e74 e76
                  have hti := HTI.out
                  go_simp
                  rw [if_pos (by omega)]
                  go_simp
                  exact hK _ hJ
                refine Vals9.Steps.run rfl ?_ ?_
                · intro a W σ hJ pre K hK
                  have e77 := pre.1 7 77 _ (by kernel_rfl) rfl rfl
                  clear pre
                  simp only [Array.getD_eq_getD_getElem?, List.getElem?_toArray, List.getElem?_cons_zero, List.getElem?_cons_succ, Option.getD_some] at e77
                  have v0 := hJ.hc
                  go_simp
                  exact hK _ hJ
                refine Vals9.Steps.run rfl ?_ ?_
                · intro a W σ hJ pre K hK
                  have e14 := pre.2.2 14 _ (by kernel_rfl) rfl
                  clear pre
                  simp only [Array.getD_eq_getD_getElem?, List.getElem?_toArray, List.getElem?_cons_zero, List.getElem?_cons_succ, Option.getD_some] at e14
                  go_simp
                  exact hK _ hJ
                refine Vals9.Steps.mark rfl ?_ ?_
                · intro a W σ hJ hn pre K hK
                  have e72 := pre.1 2 72 _ (by kernel_rfl) rfl rfl
                  have e73 := pre.1 3 73 _ (by kernel_rfl) rfl rfl
                  have e78 := pre.1 8 78 _ (by kernel_rfl) rfl rfl
                  have e79 := pre.1 9 79 _ (by kernel_rfl) rfl rfl
                  simp only [Array.getD_eq_getD_getElem?, List.getElem?_toArray, List.getElem?_cons_zero, List.getElem?_cons_succ, Option.getD_some] at e72 e73 e78 e79
                  have h12n := hJ.no12 hn
                  go_simp
                  refine (before_c s m A l c (fun i => alB s l (mn : Int) (mn - (t + 1)) (i : Int)) gQ (t : Int) W hs (hsa.keep hJ.hs.sn.1) (hrd.keep hJ.hs.sn.1) hro h12 hJ.hq).mono ?_
                  rintro e w' ⟨⟨g', rfl, hB'⟩, hb'⟩
                  rw [rB_congr (fun i _ => orr_al (show t < mn by omega) i)] at hB'
                  exact hK _ _ ((hJ.keep hb').call hn h12n hB')
                refine Vals9.Steps.run rfl ?_ ?_
                · intro a W σ hJ pre K hK
                  have e70 := pre.1 0 70 _ (by kernel_rfl) rfl rfl
                  have e71 := pre.1 1 71 _ (by kernel_rfl) rfl rfl
                  clear pre
                  simp only [Array.getD_eq_getD_getElem?, List.getElem?_toArray, List.getElem?_cons_zero, List.getElem?_cons_succ, Option.getD_some] at e70 e71
                  have hti := HTJ.out
                  go_simp
                  exact hK _ hJ
                refine Vals9.Steps.mark rfl ?_ ?_
                · intro a W σ hJ hn pre K hK
                  obtain ⟨v80, s80, e80⟩ := pre.2.1 10 (by kernel_rfl) rfl
                  replace e80 : a.tmps.getD 80 undef = v80 := e80 80 rfl
                  have e81 := pre.1 11 81 _ (by kernel_rfl) rfl rfl
                  simp only [Array.getD_eq_getD_getElem?, List.getElem?_toArray, List.getElem?_cons_zero, List.getElem?_cons_succ, Option.getD_some] at e80 e81
                  obtain ⟨g', hg0, hg1, hg2⟩ := hJ.hr _ s80
                  subst hg0
                  have hA9 := hJ.ho hn
                  have a0 := hA9.b.cell t
                  rw [rowL_get _ (show t < mn + 1 by omega)] at a0
                  have f0 := hA9.b.frozen t
                  go_simp
                  exact hK _ _ (hJ.turn hn s80 (by omega) hgAw hgQ)
                exact Vals9.Steps.nil
              case hfin =>
                intro Y σ hJ
                simp only [Vals9.All]
                intro v80 h80 v12 h12'
                simp only [Vals.putAll, List.setIfInBounds_toArray, List.set_cons_zero, List.set_cons_succ]
                obtain ⟨V', hA5⟩ := hJ.hn _ _ h12' h80
                have hS5 := hJ.hs
                clear hJ h80 h12'
                go_wp2_with fail
                go_roundw
                case rel => exact ⟨t, V', by omega, rfl, hS5, hA5⟩
                case measure => first | (simp [intOf]; done) | (simp [intOf]; omega)
            · obtain rfl : q = 0 := by omega
              have hqi : ¬ (0 : Int) ≤ ((0 : Nat) : Int) - 1 := by omega
              have hx3 : lv s l 0 (btw s.s0 s.s1) mn = some x := by rw [lv_now]; exact HX.out
              have hlim3 : s.lim < x.2 := by omega
              obtain ⟨T, hT⟩ : ∃ T : Nat → Int, (fun k => bk s l (max x.1 (s.lim + 1)) mn (mn - k)) = T := ⟨_, rfl⟩
              obtain ⟨hf1, hf2, hf3⟩ := first_al hs hx3 hlim3
              have hT0 : bk s l (max x.1 (s.lim + 1)) mn mn = T 0 := by rw [← hT]; rfl
              rw [hT0] at hf1 hf2 hf3
              have hTb : ∀ k, k ≤ mn → 0 ≤ T k ∧ T k ≤ 200 := fun k hk => by
                have hxv := vd_lv (s := s) (l := l) (m := 0) (vd_start hs) mn x hx3
                have h0 : mem (lv s l 0 (btw s.s0 s.s1) mn) (max x.1 (s.lim + 1)) := ⟨x, hx3, by omega, by omega⟩
                have := (vd_lv (s := s) (l := l) (m := 0) (vd_start hs) (mn - (mn - k))).mem (bk_mem hs h0 (mn - k) (by omega))
                rw [← hT]
                exact this
              have hNX : ∀ t, t < mn → ∃ b, (chg s (t : Int)).1 ≤ b ∧ b ≤ (chg s (t : Int)).2 ∧ hld (T t + b) = T (t + 1) ∧ alB s l (mn : Int) (mn - (t + 1)) (hld (T t + b)) = true
                  ∧ ∀ e, (chg s (t : Int)).1 ≤ e → e < b → alB s l (mn : Int) (mn - (t + 1)) (hld (T t + e)) = false := fun t ht => by
                have := next_al hs hx3 hlim3 ht
                rw [← hT]
                exact this
              have HV2 : Hid (refusalA s l (mn : Int) = ((List.range (mn + 1)).map T, 0)) := by
                show _ = _
                rw [HV.out, Int.toNat_natCast, tru_kno, hT]
              obtain ⟨a, ha⟩ : ∃ a : Nat, s.s0 = (a : Int) := ⟨s.s0.toNat, by have := hs.s0; omega⟩
              obtain ⟨z0, hz0⟩ : ∃ z : Nat, T 0 = (z : Int) := ⟨(T 0).toNat, by have := hTb 0 (Nat.zero_le _); omega⟩
              have haz : a ≤ z0 := by omega
              have hz200 : z0 ≤ 200 := by have := (hTb 0 (Nat.zero_le _)).2; omega
              rw [hz0] at hf2
              have hf3' : ∀ v : Nat, a ≤ v → v < z0 → alB s l (mn : Int) mn (v : Int) = false := fun v h1 h2 => hf3 v (by omega) (by omega)
              have HA0 := Lib.hid ha
              have HZ0 := Lib.hid hz0
              have HF2 := Lib.hid hf2
              have HF3 := Lib.hid hf3'
              have HTB := Lib.hid hTb
              have HNX := Lib.hid hNX
              obtain ⟨gQ, hVq, hgQ, hBq⟩ := HA.out.r 0 (Nat.le_refl _) (Nat.zero_le _)
              rw [Nat.sub_zero] at hBq
              have hcq := HA.out.b.cell 0
              rw [rowL_get _ (show 0 < mn + 1 by omega), hVq] at hcq
              obtain ⟨c0, c1, c2, c3, c4, c5, c6, c7, c8⟩ := hS.bk.space
              clear ha hz0 hf1 hf2 hf3 hf3' hTb hNX hT0 hT hx3 HV HMI hqi
              go_wp2_with fail
              clear c0 c1 c2 c3 c4 c5 c6 c7 c8
              have hm1' : (0 : Int) < (mn : Int) + 1 := by omega
              go_loopw [15] (fun i wx => ∃ n : Nat, a ≤ n ∧ n ≤ z0 ∧ i = .int .i64 n ∧ Hid (wx = wr)) (fun i _ => z0 + 1 - (intOf i).toNat)
              case atStart => exact ⟨a, Nat.le_refl _, haz, by rw [HA0.out], by show _ = _; rfl⟩
              case round =>
                obtain ⟨n, hn1, hn2, rfl, HE⟩ := hrel
                have he := HE.out
                subst he
                clear HE
                have hni : (n : Int) < 201 := by omega
                have r0 := hBq.cell n
                rw [rB_get _ (show n < 201 by omega)] at r0
                by_cases hnz : n = z0
                · subst hnz
                  rw [HF2.out] at r0
                  have hS5 := hS.alloc (.cells #[.int .i64 (n : Int)] 3)
                  have hq5 : Below wr.heap.size wr (wr.alloc (.cells #[.int .i64 (n : Int)] 3)) := (Below.refl _ _).alloc (Nat.le_refl _) _
                  have hA5 := HA.out.keep hq5
                  have hO5 : (wr.alloc (.cells #[.int .i64 (n : Int)] 3)).ownsRow (w.heap.size + 1) 3 1 (.slice (some ⟨wr.heap.size, 0, none⟩) 1 1) ((List.range (0 + 1)).map T).length (((List.range (0 + 1)).map T).map fun x => .int .i64 x) := by
                    refine ⟨by simp, .inr ⟨wr.heap.size, 1, #[.int .i64 (n : Int)], rfl, by have := hS.lt; omega, heap_alloc_new _ _, Nat.le_refl _, by simp only [maxLen]; omega, rfl, ?_⟩⟩
                    simp [HZ0.out]
                  go_wp2_with fail
                  clear r0 hcq hBq hVq
                  go_loopw [15, 16, 17, 18] (fun nv ov tv _ wr => ∃ k : Nat, k ≤ mn ∧ tv = .int .i64 k ∧ nv = .int .i64 (T k) ∧ Sp w s m wr ∧ Hid (AllAt wr gA V s l mn 0) ∧ Hid (wr.ownsRow (w.heap.size + 1) 3 1 ov ((List.range (k + 1)).map T).length (((List.range (k + 1)).map T).map fun x => .int .i64 x))) (fun _ _ tv _ _ => mn - (intOf tv).toNat)
                  case atStart => exact ⟨0, Nat.zero_le _, rfl, by rw [HZ0.out], hS5, hA5, hO5⟩
                  case round =>
                    clear hS5 hA5 hO5 hS HA hq5
                    obtain ⟨k, hk, rfl, rfl, hS, HA, HO⟩ := hrel
                    by_cases hkm : k < mn
                    · have hki : (k : Int) < (mn : Int) := by omega
                      obtain ⟨b, hb0, hb1, hb2, hb3, hb4⟩ := HNX.out k hkm
                      have htk := HTB.out k (by omega)
                      have htk1 := HTB.out (k + 1) (by omega)
                      have hchg := chg_ok hs (k : Int)
                      have hRi := rise_c s m (k : Int) wr (by have := hs.nb; omega) (hsa.keep hS.sn.1)
                      obtain ⟨lo, hlo⟩ : ∃ lo, (chg s (k : Int)).1 = lo := ⟨_, rfl⟩
                      obtain ⟨hi, hhi⟩ : ∃ hi, (chg s (k : Int)).2 = hi := ⟨_, rfl⟩
                      rw [hlo] at hb0 hb4
                      rw [hhi] at hb1
                      rw [hlo, hhi] at hRi hchg
                      obtain ⟨tk, htke⟩ : ∃ tk, T k = tk := ⟨_, rfl⟩
                      rw [htke] at hb2 hb3 hb4 htk ⊢
                      have HB2 := Lib.hid hb2
                      have HB3 := Lib.hid hb3
                      have HB4 := Lib.hid hb4
                      have HTK := Lib.hid htke
                      obtain ⟨c0, c1, c2, c3, c4, c5, c6, c7, c8⟩ := hS.bk.space
                      clear hlo hhi hb2 hb3 hb4 htke
                      go_wp2_with fail
                      refine hRi.mono ?_
                      rintro e w5 ⟨rfl, hb5⟩
                      have hS := hS.keep hb5
                      have HA := Lib.hid (HA.out.keep hb5)
                      have HO := Lib.hid (own_keep HO.out hb5)
                      clear c0 c1 c2 c3 c4 c5 c6 c7 c8 hRi hb5
                      have hfld := span_fst lo hi w5
                      go_wp2_with fail
                      clear hfld
                      go_loopw [18] (fun v wr => ∃ bb : Int, lo ≤ bb ∧ bb ≤ b ∧ v = .int .i64 bb ∧ Sp w s m wr ∧ Hid (AllAt wr gA V s l mn 0) ∧ Hid (wr.ownsRow (w.heap.size + 1) 3 1 u16 ((List.range (k + 1)).map T).length (((List.range (k + 1)).map T).map fun x => .int .i64 x))) (fun v _ => (hi + 1 - intOf v).toNat)
                      case atStart => exact ⟨lo, Int.le_refl _, hb0, rfl, hS, HA, HO⟩
                      case round =>
                        clear hS HA HO
                        obtain ⟨bb, hbb0, hbb1, rfl, hS, HA, HO⟩ := hrel
                        obtain ⟨gK, hVk, hgK, hBk⟩ := HA.out.r (k + 1) (by omega) (by omega)
                        have hlb := hld_in (tk + bb)
                        obtain ⟨L, hL⟩ : ∃ L : Nat, hld (tk + bb) = (L : Int) := ⟨(hld (tk + bb)).toNat, by omega⟩
                        have hL2 : L < 201 := by omega
                        have HLM := Lib.hid hL
                        obtain ⟨rb, hrb⟩ : ∃ rb, alB s l (mn : Int) (mn - (k + 1)) (L : Int) = rb := ⟨_, rfl⟩
                        have r0 := hBk.cell L
                        rw [rB_get _ hL2, hrb] at r0
                        have hck := HA.out.b.cell (k + 1)
                        rw [rowL_get _ (show k + 1 < mn + 1 by omega), hVk] at hck
                        have HR0 := Lib.hid r0
                        have HCK := Lib.hid hck
                        have HRB := Lib.hid hrb
                        have HW1 : Hid (IntKind.i64.wrap ((k : Int) + 1) = ((k + 1 : Nat) : Int)) := by show _ = _; rw [IntWalk.i64_in _ (by omega)]; push_cast; rfl
                        have HW2 : Hid (IntKind.i64.wrap (tk + bb) = tk + bb) := IntWalk.i64_in _ (by omega)
                        have HKI : Hid (((k + 1 : Nat) : Int) < (mn : Int) + 1) := by show _ < _; omega
                        clear hL hrb r0 hck hlb
                        go_wp2_with fail
                        refine Vals9.region (fun _ Z => Since wr Z) [some 105, some 106, some 107, some 108, some 109, some 110, some 111, some 112, some 113, some 114, some 115, some 116] [.is ?_, .is ?_, .is (.int .i64 ((k + 1 : Nat) : Int)), .is (.pointer (some ⟨gA, k + 1, none⟩)), .is (.slice (some ⟨gK, 0, none⟩) 201 201), .is ?_, .is ?_, .is (.int .i64 (tk + bb)), .is (.int .i64 (L : Int)), .is (.pointer (some ⟨gK, L, none⟩)), .is (.bool rb), .is (.bool (!rb))] (by kernel_rfl) (by kernel_rfl) (by kernel_rfl) (by kernel_rfl) (by kernel_rfl) (by kernel_rfl) ((Since.refl wr).drew) ?hsteps ?hfin
                        case hsteps =>
                          refine Vals9.Steps.run rfl ?_ ?_
                          · intro a W σ hJ pre K hK
                            have e12 := pre.2.2 12 _ (by kernel_rfl) rfl
                            clear pre
                            simp only [Array.getD_eq_getD_getElem?, List.getElem?_toArray, List.getElem?_cons_zero, List.getElem?_cons_succ, Option.getD_some] at e12
                            go_simp
                            exact hK _ hJ
                          refine Vals9.Steps.run rfl ?_ ?_
                          · intro a W σ hJ pre K hK
                            have e17 := pre.2.2 17 _ (by kernel_rfl) rfl
                            clear pre
                            simp only [Array.getD_eq_getD_getElem?, List.getElem?_toArray, List.getElem?_cons_zero, List.getElem?_cons_succ, Option.getD_some] at e17
                            go_simp
                            exact hK _ hJ
                          refine Vals9.Steps.run rfl ?_ ?_
                          · intro a W σ hJ pre K hK
                            have e106 := pre.1 1 106 _ (by kernel_rfl) rfl rfl
                            clear pre
                            simp only [Array.getD_eq_getD_getElem?, List.getElem?_toArray, List.getElem?_cons_zero, List.getElem?_cons_succ, Option.getD_some] at e106
                            have hw9 := HW1.out
                            go_simp
                            exact hK _ hJ
                          refine Vals9.Steps.run rfl ?_ ?_
                          · intro a W σ hJ pre K hK
                            have e105 := pre.1 0 105 _ (by kernel_rfl) rfl rfl
                            have e107 := pre.1 2 107 _ (by kernel_rfl) rfl rfl
                            clear pre
                            simp only [Array.getD_eq_getD_getElem?, List.getElem?_toArray, List.getElem?_cons_zero, List.getElem?_cons_succ, Option.getD_some] at e105 e107
                            have hti := HKI.out
                            go_simp
                            rw [if_pos (by omega)]
                            go_simp
                            exact hK _ hJ
                          refine Vals9.Steps.run rfl ?_ ?_
                          · intro a W σ hJ pre K hK
                            have e108 := pre.1 3 108 _ (by kernel_rfl) rfl rfl
                            clear pre
                            simp only [Array.getD_eq_getD_getElem?, List.getElem?_toArray, List.getElem?_cons_zero, List.getElem?_cons_succ, Option.getD_some] at e108
                            have v0 := keep_cell hJ.1 HCK.out
                            go_simp
                            exact hK _ hJ
                          refine Vals9.Steps.run rfl ?_ ?_
                          · intro a W σ hJ pre K hK
                            have e15 := pre.2.2 15 _ (by kernel_rfl) rfl
                            clear pre
                            simp only [Array.getD_eq_getD_getElem?, List.getElem?_toArray, List.getElem?_cons_zero, List.getElem?_cons_succ, Option.getD_some] at e15
                            go_simp
                            exact hK _ hJ
                          refine Vals9.Steps.run rfl ?_ ?_
                          · intro a W σ hJ pre K hK
                            have e18 := pre.2.2 18 _ (by kernel_rfl) rfl
                            clear pre
                            simp only [Array.getD_eq_getD_getElem?, List.getElem?_toArray, List.getElem?_cons_zero, List.getElem?_cons_succ, Option.getD_some] at e18
                            go_simp
                            exact hK _ hJ
                          refine Vals9.Steps.run rfl ?_ ?_
                          · intro a W σ hJ pre K hK
                            have e110 := pre.1 5 110 _ (by kernel_rfl) rfl rfl
                            have e111 := pre.1 6 111 _ (by kernel_rfl) rfl rfl
                            clear pre
                            simp only [Array.getD_eq_getD_getElem?, List.getElem?_toArray, List.getElem?_cons_zero, List.getElem?_cons_succ, Option.getD_some] at e110 e111
                            have hw9 := HW2.out
                            go_simp
                            exact hK _ hJ
                          refine Vals9.Steps.run rfl ?_ ?_
                          · intro a W σ hJ pre K hK
                            have e112 := pre.1 7 112 _ (by kernel_rfl) rfl rfl
                            clear pre
                            simp only [Array.getD_eq_getD_getElem?, List.getElem?_toArray, List.getElem?_cons_zero, List.getElem?_cons_succ, Option.getD_some] at e112
                            go_simp
                            refine (limited_c _ _).mono ?_
                            rintro e w' ⟨rfl, rfl⟩
                            rw [HLM.out]
                            exact hK _ hJ
                          refine Vals9.Steps.run rfl ?_ ?_
                          · intro a W σ hJ pre K hK
                            have e109 := pre.1 4 109 _ (by kernel_rfl) rfl rfl
                            have e113 := pre.1 8 113 _ (by kernel_rfl) rfl rfl
                            clear pre
                            simp only [Array.getD_eq_getD_getElem?, List.getElem?_toArray, List.getElem?_cons_zero, List.getElem?_cons_succ, Option.getD_some] at e109 e113
                            have hl2 : (L : Int) < 201 := by omega
                            go_simp
                            exact hK _ hJ
                          refine Vals9.Steps.run rfl ?_ ?_
                          · intro a W σ hJ pre K hK
                            have e114 := pre.1 9 114 _ (by kernel_rfl) rfl rfl
                            clear pre
                            simp only [Array.getD_eq_getD_getElem?, List.getElem?_toArray, List.getElem?_cons_zero, List.getElem?_cons_succ, Option.getD_some] at e114
                            have v1 := keep_cell hJ.1 HR0.out
                            go_simp
                            exact hK _ hJ
                          refine Vals9.Steps.run rfl ?_ ?_
                          · intro a W σ hJ pre K hK
                            have e115 := pre.1 10 115 _ (by kernel_rfl) rfl rfl
                            clear pre
                            simp only [Array.getD_eq_getD_getElem?, List.getElem?_toArray, List.getElem?_cons_zero, List.getElem?_cons_succ, Option.getD_some] at e115
                            go_simp
                            exact hK _ hJ
                          exact Vals9.Steps.nil
                        case hfin =>
                          intro Y σ hJ
                          simp only [Vals9.All]
                          simp only [Vals.putAll, List.setIfInBounds_toArray, List.set_cons_zero, List.set_cons_succ]
                          have hS := hS.keep hJ.1
                          have HA := Lib.hid (HA.out.keep hJ.1)
                          have HO := Lib.hid (own_keep HO.out hJ.1)
                          clear hJ
                          by_cases hbe : bb = b
                          · subst hbe
                            have h9 : rb = true := by rw [← HRB.out, ← HLM.out]; exact HB3.out
                            subst h9
                            have HLT : Hid ((L : Int) = T (k + 1)) := by show _ = _; rw [← HLM.out]; exact HB2.out
                            have hw2 := HW2.out
                            go_wp2_with fail
                            refine (limited_c _ _).mono ?_
                            rintro e w' ⟨rfl, rfl⟩
                            rw [HLM.out, HLT.out]
                            obtain ⟨tn, htn⟩ : ∃ tn, T (k + 1) = tn := ⟨_, rfl⟩
                            rw [htn]
                            have HTN := Lib.hid htn
                            obtain ⟨TL, hTL⟩ : ∃ TL, (List.range (k + 1)).map T = TL := ⟨_, rfl⟩
                            have HTL := Lib.hid hTL
                            have hLl : TL.length ≤ 1000 := by rw [← hTL]; simp; omega
                            rw [hTL] at HO
                            clear hTL
                            have hq3 : Below Y.heap.size Y (Y.alloc (.cells #[.int .i64 tn] 3)) := (Below.refl _ _).alloc (Nat.le_refl _) _
                            have HO3 := Lib.hid (own_keep HO.out hq3)
                            have HN3 := Lib.hid (Blk.new Y 3 #[.int .i64 tn])
                            have hzB : w.heap.size + 1 ≤ (Y.alloc (.cells #[.int .i64 tn] 3)).heap.size := by have := hS.lt; simp; omega
                            have hS3 := hS.keep hq3
                            have HA3 := Lib.hid (HA.out.keep hq3)
                            clear htn hq3
                            go_wp2_with (at_builtin; refine wpList_append_one rfl (.tmp 123) (.tmp 125) rfl (w.heap.size + 1) Y.heap.size _ TL tn (by go_simp) (by go_simp) HO3.out HN3.out hLl hzB ?_)
                            intro v3 w3 ho3 hg3
                            have hlt3 := HO3.out.lt
                            have hS4 := hS3.grown hg3 (fun q h => by have := (hlt3 q h).1; omega)
                            have HO4 : Hid (w3.ownsRow (w.heap.size + 1) 3 1 v3 ((List.range (k + 1 + 1)).map T).length (((List.range (k + 1 + 1)).map T).map fun x => .int .i64 x)) := by
                              show World.ownsRow _ _ _ _ _ _ _
                              rw [List.range_succ, List.map_append, List.map_singleton, HTL.out, HTN.out, List.length_append, List.map_append]
                              exact ho3
                            have HA4 : Hid (AllAt w3 gA V s l mn 0) := all_grown HA3.out HO3.out hg3
                            clear ho3 hg3 hlt3 HO3 HN3 HA3 hS3
                            go_wp2_with fail
                            go_roundw
                            case rel =>
                              (repeat apply Exists.intro); exact ⟨⟨k + 1, by omega, rfl, by rw [HTN.out], hS4, HA4, HO4⟩, rfl⟩
                            case measure => simp [intOf]; omega
                          · have h9 : rb = false := by rw [← HRB.out, ← HLM.out]; exact HB4.out bb hbb0 (by omega)
                            subst h9
                            have hw5 : IntKind.i64.wrap (bb + 1) = bb + 1 := IntWalk.i64_in _ (by omega)
                            go_wp2_with fail
                            go_roundw
                            case rel => exact ⟨bb + 1, by omega, by omega, rfl, hS, HA, HO⟩
                            case measure => simp [intOf]; omega
                    · have hki : ¬ (k : Int) < (mn : Int) := by omega
                      obtain rfl : k = mn := by omega
                      have hlv := lv_own rfl HO.out
                      go_wp2_with fail
                      go_ret2
                      rw [HV2.out]
                      exact ⟨⟨_, rfl, hlv⟩, hS.sn.1⟩
                · have h9 : alB s l (mn : Int) mn (n : Int) = false := HF3.out n hn1 (by omega)
                  rw [h9] at r0
                  clear h9
                  go_wp2_with fail
                  go_roundw
                  case rel => exact ⟨n + 1, by omega, by omega, by go_num, by first | (show _ = _; rfl) | (show True; trivial)⟩
                  case measure => simp [intOf]; omega
  · have HV : Hid (refusalA s l mi = ([], watE s l mi)) := by show _ = _; unfold refusalA; rw [if_neg h0]
    obtain ⟨E, hE⟩ : ∃ E, watE s l mi = E := ⟨_, rfl⟩
    rw [hE] at h0 HV ⊢
    have h0' : (E != 0) = true := by simpa using h0
    clear hv hE
    go_wp2_with fail
    go_ret2
    rw [HV.out]
    exact ⟨⟨_, rfl, none, 0, rfl, fun h => absurd rfl h⟩, hS1.sn.1⟩
end Td
end Go.Proofs.Ytmofbnadfgejiaa
