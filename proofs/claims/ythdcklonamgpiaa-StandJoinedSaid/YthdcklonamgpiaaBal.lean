import Derived.Test.YthdcklonamgpiaaSum
/- The balance of a truth, and the least one. -/
namespace Go.Proofs.Ythdcklonamgpiaa
open Go.RowKit
namespace Td
set_option linter.unusedSimpArgs false
set_option linter.unusedVariables false
attribute [local go_sem] Oper.semAt_some
theorem fits_is (u : Value) (w : World) : Vals5.fits (.is u) u w := rfl
/-- the cells of the k-th sum. -/
abbrev s1V (fa : FuncId) (fs : FuncId) (cp : Array Value) : Array Value := #[.func (.func fa) #[] #[], .func (.func fs) #[] cp]
theorem index_sum (g : Nat) {k : Nat} (hk : k < 3) (w : World) : (Instr.index 133 (.agg (sV g)) (.int .i64 k)).run Try.prog w = .ok (.agg (s1V (adF k) (sdF k) (sdC g k))) w := by
  rcases (by omega : k = 0 ∨ k = 1 ∨ k = 2) with rfl | rfl | rfl <;> kernel_rfl
theorem adF_enter (k : Nat) (args : Array Value) (W : World) : (callFunc (adF k) args).run Try.prog W = .ok (.enter (adF k) args) W := by
  unfold adF
  match k with
  | 0 => exact enters_of Try.func97 (by kernel_rfl) rfl _ _
  | 1 => exact enters_of Try.func99 (by kernel_rfl) rfl _ _
  | k + 2 => exact enters_of Try.func102 (by kernel_rfl) rfl _ _
theorem sdF_enter (k : Nat) (args : Array Value) (W : World) : (callFunc (sdF k) args).run Try.prog W = .ok (.enter (sdF k) args) W := by
  unfold sdF
  match k with
  | 0 => exact enters_of Try.func98 (by kernel_rfl) rfl _ _
  | 1 => exact enters_of Try.func100 (by kernel_rfl) rfl _ _
  | k + 2 => exact enters_of Try.func103 (by kernel_rfl) rfl _ _
theorem adF_c (k : Nat) (x : Prt) (h : Hul) (m : Sl) (p : Int) (w : World) (hx : PBk x) (ha : 0 ≤ h.aft) (ha1 : h.aft ≤ 5000) (hf : 0 ≤ h.fore) (hf1 : h.fore ≤ 5000) (h0 : -5000000 ≤ p) (h1 : p ≤ 5000000) :
    Calls Try.prog (adF k) #[.agg (qV x h m p)] w fun e w' => e = .returned (.int .i64 (adds h.aft h.fore k x p)) ∧ Below w.heap.size w w' := by
  have p0 := hx.p0
  have p1 := hx.p1
  unfold adF adds
  match k with
  | 0 => exact down_c x h m p w
  | 1 => exact overAft_c x h m p w (by unfold I64; omega) (by have := mul_bd2 h0 h1 (b := x.pt - h.aft) (B := 5000) (by omega) (by omega); unfold I64; omega)
  | k + 2 => exact overFore_c x h m p w (by unfold I64; omega) (by have := mul_bd2 h0 h1 (b := h.fore - x.pt) (B := 5000) (by omega) (by omega); unfold I64; omega)
theorem sdF_c (k : Nat) (x : Prt) (h : Hul) (m : Sl) (g : Nat) (w : World) (hg : Blk w g 92 (hV h m)) (hk : k < 3) :
    Calls Try.prog (sdF k) (#[.agg (pV x)] ++ sdC g k) w fun e w' => e = .returned (.tuple #[.int .i64 (sdW h.aft h.fore k x), .int .i64 (sdL h.aft h.fore k x)]) ∧ Below w.heap.size w w' := by
  rcases (by omega : k = 0 ∨ k = 1 ∨ k = 2) with rfl | rfl | rfl
  · exact lightest_c x w
  · exact side1_c x h m g w hg
  · exact side2_c x h m g w hg
/-- what is so inside the loops: the wreck, the result's cells, the balance. -/
structure Bi (w : World) (h : Hul) (m : Sl) (r b : Nat) (f : Nat → Int) (X : World) : Prop where
  sn : Since w X
  wk : Blk X w.heap.size 92 (hV h m)
  rs : Blk X r 90 (r3 fun _ => 0)
  bl : Blk X b 90 (r3 f)
theorem Bi.keep {w : World} {h : Hul} {m : Sl} {r b : Nat} {f : Nat → Int} {X X' : World} (i : Bi w h m r b f X) (hb : Below X.heap.size X X') : Bi w h m r b f X' := ⟨i.sn.keep hb, i.wk.keep hb, i.rs.keep hb, i.bl.keep hb⟩
theorem Bi.alloc {w : World} {h : Hul} {m : Sl} {r b : Nat} {f : Nat → Int} {X : World} (i : Bi w h m r b f X) (o : Obj) : Bi w h m r b f (X.alloc o) := i.keep ((Below.refl _ _).alloc (Nat.le_refl _) _)
theorem Bi.drew {w : World} {h : Hul} {m : Sl} {r b : Nat} {f : Nat → Int} {X : World} (i : Bi w h m r b f X) : Bi w h m r b f X.drew := ⟨i.sn.drew, i.wk.drew, i.rs.drew, i.bl.drew⟩
theorem Bi.row {w : World} {h : Hul} {m : Sl} {r b : Nat} {f : Nat → Int} {X : World} (i : Bi w h m r b f X) {g : Nat} (hg : w.heap.size < g) (hr : r < g) (hb : b < g) (cs : Array Value) : Bi w h m r b f (X.setRow g cs) :=
  ⟨i.sn.row (by omega) _, i.wk.rowFar (by omega) _, i.rs.rowFar (by omega) _, i.bl.rowFar (by omega) _⟩
theorem Since.set {w X : World} (h : Since w X) {g : Nat} (hg : w.heap.size ≤ g) (i : Nat) (v : Value) : Since w (X.setCell ⟨g, i, none⟩ v) := ⟨h.1.setCell hg v, by have := h.2; simp; omega⟩
theorem Bi.set {w : World} {h : Hul} {m : Sl} {r b : Nat} {f : Nat → Int} {X : World} (i : Bi w h m r b f X) {k : Nat} (hk : k < 3) (v : Int) (h0 : w.heap.size < b) (hr : b ≠ r) :
    Bi w h m r b (fun j => if j = k then v else f j) (X.setCell ⟨b, k, none⟩ (.int .i64 v)) :=
  ⟨i.sn.set (by omega) _ _, i.wk.far (by omega) _ _, i.rs.far hr _ _, by rw [← r3_set f hk]; exact i.bl.set _ _⟩
set_option maxRecDepth 100000 in
set_option maxHeartbeats 4000000 in
theorem least_c (h : Hul) (m : Sl) (wt : Int) (w : World) (hh : HBk h) (hp : HAt w m h) (hw0 : 0 ≤ wt) (hw1 : wt ≤ 1000) :
    Calls Try.prog 56 #[.agg (hV h m), .int .i64 wt] w fun e w' => e = .returned (.agg (r3 fun k => lst h k wt)) ∧ Below w.heap.size w w' := by
  obtain ⟨cur, hcur⟩ : ∃ cur : Nat → Nat → Nat → Int, cur = fun k j i => if i < k then lst h i wt else if i = k then sm (ltm h k wt) j else 0 := ⟨_, rfl⟩
  have hI0 : Bi w h m (w.heap.size + 1) (w.heap.size + 1 + 1) (cur 0 0) (((w.alloc (.cells (hV h m) 92)).alloc (.cells #[.int .i64 0, .int .i64 0, .int .i64 0] 90)).alloc (.cells #[.int .i64 0, .int .i64 0, .int .i64 0] 90)) :=
    ⟨(((Since.refl w).alloc _).alloc _).alloc _, ((Blk.new w _ _).alloc _).alloc _, (Blk.new1 w _ _ _).alloc _, by
      have := Blk.new2 w (.cells (hV h m) 92) (.cells #[.int .i64 0, .int .i64 0, .int .i64 0] 90) 90 #[.int .i64 0, .int .i64 0, .int .i64 0]
      have e : r3 (cur 0 0) = #[.int .i64 0, .int .i64 0, .int .i64 0] := by rw [hcur]; simp [r3, sm]
      rw [e]; exact this⟩
  have HI0 := Lib.hid hI0
  show Calls Try.prog 56 #[.agg (hV h m), .int .i64 wt] w fun e w' => e = .returned (.agg #[.int .i64 (lst h 0 wt), .int .i64 (lst h 1 wt), .int .i64 (lst h 2 wt)]) ∧ Below w.heap.size w w'
  have HCUR := Lib.hid hcur
  have hn10 := hh.n10
  clear hcur hI0
  go_enter Try.func56, Try.ntmps56
  go_wp2_with fail
  refine (sums_c h m _).mono ?_
  rintro e w1 ⟨⟨rfl, hg1⟩, hb1⟩
  have HI1 := Lib.hid (HI0.out.keep hb1)
  have HG1 := Lib.hid hg1
  obtain ⟨gs, hgs⟩ : ∃ gs, (((w.alloc (.cells (hV h m) 92)).alloc (.cells #[.int .i64 0, .int .i64 0, .int .i64 0] 90)).alloc (.cells #[.int .i64 0, .int .i64 0, .int .i64 0] 90)).heap.size = gs := ⟨_, rfl⟩
  rw [hgs] at HG1 ⊢
  have HNG : Hid (w.heap.size + 1 + 1 < gs) := by show _ < _; rw [← hgs]; simp
  clear HI0 hb1 hg1 hgs
  go_wp2_with fail
  go_loopw [14] (fun i wr => ∃ k : Nat, k ≤ 3 ∧ i = .int .i64 k ∧ Hid (Bi w h m (w.heap.size + 1) (w.heap.size + 1 + 1) (cur k 0) wr) ∧ Hid (Blk wr gs 92 (hV h m))) (fun i _ => 3 - (intOf i).toNat)
  case atStart => exact ⟨0, by omega, rfl, HI1, HG1⟩
  case round =>
    obtain ⟨k, hk, rfl, HIk, HGk⟩ := hrel
    by_cases hk3 : k < 3
    · have hix := index_sum gs hk3
      have HFA := Lib.hid (adF_enter k)
      have HFS := Lib.hid (sdF_enter k)
      have HCF : Hid (∀ (x : Prt) (p : Int) (W : World), PBk x → -5000000 ≤ p → p ≤ 5000000 → Calls Try.prog (adF k) #[.agg (qV x h m p)] W fun e w' => e = .returned (.int .i64 (adds h.aft h.fore k x p)) ∧ Below W.heap.size W w') :=
        fun x p W hx h0 h1 => adF_c k x h m p W hx hh.a0 (by have := hh.af; have := hh.f1; omega) (by have := hh.af; have := hh.a0; omega) hh.f1 h0 h1
      have HCS : Hid (∀ (x : Prt) (W : World), Blk W gs 92 (hV h m) → Calls Try.prog (sdF k) (#[.agg (pV x)] ++ sdC gs k) W fun e w' => e = .returned (.tuple #[.int .i64 (sdW h.aft h.fore k x), .int .i64 (sdL h.aft h.fore k x)]) ∧ Below W.heap.size W w') :=
        fun x W hg => sdF_c k x h m gs W hg hk3
      obtain ⟨fa, hfa⟩ : ∃ fa, adF k = fa := ⟨_, rfl⟩
      obtain ⟨fs, hfs⟩ : ∃ fs, sdF k = fs := ⟨_, rfl⟩
      obtain ⟨cp, hcp⟩ : ∃ cp, sdC gs k = cp := ⟨_, rfl⟩
      rw [hfa] at HFA HCF
      rw [hfs] at HFS HCS
      rw [hcp] at HCS
      rw [hfa, hfs, hcp] at hix
      clear hfa hfs hcp
      obtain ⟨c0, c1, c2⟩ := HIk.out.wk.hull
      have hI2 := HIk.out.alloc (.cells #[.nilFunc, .nilFunc] 132)
      have hG2 := HGk.out.alloc (.cells #[.nilFunc, .nilFunc] 132)
      have HS1 := Lib.hid (Blk.new wr 132 #[.nilFunc, .nilFunc])
      have HI2 := Lib.hid (hI2.row (g := wr.heap.size) (by have := HIk.out.rs.lt; omega) HIk.out.rs.lt HIk.out.bl.lt (s1V fa fs cp))
      have HG2 := Lib.hid (hG2.rowFar (g' := wr.heap.size) (by have := HGk.out.lt; omega) (s1V fa fs cp))
      have HS2 := Lib.hid (HS1.out.row (s1V fa fs cp))
      clear hI2 hG2
      obtain ⟨b0, b1, b2⟩ := HI2.out.wk.hull
      go_wp2_with (refine wpList_store_row rfl 132 _ _ rfl (wr.heap.size) _ rfl rfl 132 _ HS1.out (by kernel_rfl) rfl (by simp [Value.oneCell']) ?_)
      clear c0 c1 c2 b0 b1 b2 HS1
      obtain ⟨ws, hws⟩ : ∃ ws, wr.heap.size = ws := ⟨_, rfl⟩
      rw [hws] at HS2 HI2 HG2 ⊢
      have HNS : Hid (w.heap.size + 1 + 1 < ws) := by show _ < _; rw [← hws]; exact HIk.out.bl.lt
      clear HIk HGk hws
      go_loopw [22] (fun i wq => ∃ j : Nat, j ≤ h.parts.length ∧ i = .int .i64 j ∧ Hid (Bi w h m (w.heap.size + 1) (w.heap.size + 1 + 1) (cur k j) wq) ∧ Hid (Blk wq gs 92 (hV h m)) ∧ Hid (Blk wq ws 132 (s1V fa fs cp))) (fun i _ => h.parts.length - (intOf i).toNat)
      case atStart => exact ⟨0, by omega, rfl, HI2, HG2, HS2⟩
      case round =>
        obtain ⟨j, hj, rfl, HIj, HGj, HSj⟩ := hrel
        by_cases hlt : j < h.parts.length
        · obtain ⟨ad, hA, z0, z1, z2, z3, z4, z5, z6⟩ := (hp.ps.keep HIj.out.sn.1).get hlt
          have hx : PBk h.parts[j] := hh.ps _ (List.getElem_mem hlt)
          have sb := sd_bd h.aft h.fore k hx
          have d0 := HSj.out.cell 0
          have d1 := HSj.out.cell 1
          simp only [List.getElem?_toArray, List.getElem?_cons_zero, List.getElem?_cons_succ] at d0 d1
          have HI3 := Lib.hid (HIj.out.alloc (.cells (pV h.parts[j]) 74))
          have HG3 := Lib.hid (HGj.out.alloc (.cells (pV h.parts[j]) 74))
          have HS3 := Lib.hid (HSj.out.alloc (.cells (pV h.parts[j]) 74))
          have HP3 := Lib.hid (Blk.new wr 74 (pV h.parts[j]))
          have e1 := HFS.out
          have hlS := HSj.out.lt
          go_wp2_with fail
          refine (HCS.out _ _ HG3.out).mono ?_
          rintro e w5 ⟨rfl, hb5⟩
          have HI4 := Lib.hid (HI3.out.keep hb5)
          have HG4 := Lib.hid (HG3.out.keep hb5)
          have HS4 := Lib.hid (HS3.out.keep hb5)
          have HP4 := Lib.hid (HP3.out.keep hb5)
          obtain ⟨ps, hps⟩ : ∃ ps, wr.heap.size = ps := ⟨_, rfl⟩
          rw [hps] at HP4 ⊢
          clear HI3 HG3 HS3 HP3 hb5 hA z0 z1 z2 z3 z4 z5 z6 d0 d1 hps e1 HIj HSj hlS
          go_wp2_with fail
          have HE9 : Hid (IntKind.i64.wrap (cur k j k + adds h.aft h.fore k h.parts[j] (prs h.parts[j] (sdW h.aft h.fore k h.parts[j]) (sdL h.aft h.fore k h.parts[j]) wt)) = cur k (j + 1) k) := by
            show _ = _
            have hb := lsm_bd hh k hw0 hw1 (n := j + 1) (by omega)
            have ec : ∀ j, cur k j k = sm (ltm h k wt) j := fun j => by rw [HCUR.out]; simp
            have et : ltm h k wt j = adds h.aft h.fore k h.parts[j] (prs h.parts[j] (sdW h.aft h.fore k h.parts[j]) (sdL h.aft h.fore k h.parts[j]) wt) := by unfold ltm; rw [pa_at hlt]
            rw [ec, ec, ← et]
            exact IntWalk.i64_in _ (by simp only [sm] at hb; omega)
          have HCA : Hid (∀ W : World, Calls Try.prog fa #[.agg (qV h.parts[j] h m (prs h.parts[j] (sdW h.aft h.fore k h.parts[j]) (sdL h.aft h.fore k h.parts[j]) wt))] W fun e w' => e = .returned (.int .i64 (adds h.aft h.fore k h.parts[j] (prs h.parts[j] (sdW h.aft h.fore k h.parts[j]) (sdL h.aft h.fore k h.parts[j]) wt))) ∧ Below W.heap.size W w') := fun W =>
            have ⟨p0, p1⟩ := prs_bd sb.1.1 sb.1.2 sb.2.1 sb.2.2 hx hw0 hw1
            HCF.out _ _ W hx p0 p1
          refine Vals6.regionAll (fun X => Bi w h m (w.heap.size + 1) (w.heap.size + 1 + 1) (cur k j) X ∧ Blk X ws 132 (s1V fa fs cp) ∧ Blk X ps 74 (pV h.parts[j]) ∧ Blk X gs 92 (hV h m)) [some 33, some 34, some 35, some 36, some 37, some 38, some 39, some 40, some 41, some 42, some 43, some 44, some 45, some 46] [.is ?_, .is ?_, .is ?_, .is ?_, .is ?_, .is ?_, .is ?_, .is ?_, .is ?_, .is ?_, .is ?_, .is ?_, .is ?_, .is ?_] (by kernel_rfl) rfl rfl (by kernel_rfl) (by kernel_rfl) (by kernel_rfl) (by kernel_rfl) (by kernel_rfl) (by kernel_rfl) rfl (⟨HI4.out.drew, HS4.out.drew, HP4.out.drew, HG4.out.drew⟩) ?hsteps ?hend
          case hsteps =>
            refine Vals5.Steps.run rfl (Vals5.Stable.is _) ?_ ?_
            · intro a W hS pre old K hK
              have e6 := old 6 _ (by kernel_rfl) rfl
              clear pre old
              simp only [Vals5.fits, Array.getD_eq_getD_getElem?, List.getElem?_toArray, List.getElem?_cons_zero, List.getElem?_cons_succ, Option.getD_some] at e6
              go_simp
              refine hK _ _ hS (Below.refl _ _) ?_
              exact fits_is _ _
            refine Vals5.Steps.run rfl (Vals5.Stable.is _) ?_ ?_
            · intro a W hS pre old K hK
              have e5 := old 5 _ (by kernel_rfl) rfl
              have e33 := pre 0 33 _ (by kernel_rfl) rfl rfl
              clear pre old
              simp only [Vals5.fits, Array.getD_eq_getD_getElem?, List.getElem?_toArray, List.getElem?_cons_zero, List.getElem?_cons_succ, Option.getD_some] at e5 e33
              go_simp
              refine hK _ _ hS (Below.refl _ _) ?_
              exact fits_is _ _
            refine Vals5.Steps.run rfl (Vals5.Stable.is _) ?_ ?_
            · intro a W hS pre old K hK
              have e34 := pre 1 34 _ (by kernel_rfl) rfl rfl
              clear pre old
              simp only [Vals5.fits, Array.getD_eq_getD_getElem?, List.getElem?_toArray, List.getElem?_cons_zero, List.getElem?_cons_succ, Option.getD_some] at e34
              have hS9 := hS
              obtain ⟨q1, q2, q3, q4⟩ := hS9
              obtain ⟨c0, c1, c2⟩ := q1.wk.hull
              have d0 := q2.cell 0
              have d1 := q2.cell 1
              obtain ⟨p0, p1, p2, p3, p4, p5, p6⟩ := q3.part
              have g0 := q1.bl.cell k
              rw [r3_get _ hk3] at g0
              simp only [List.getElem?_toArray, List.getElem?_cons_zero, List.getElem?_cons_succ] at d0 d1
              go_simp
              refine hK _ _ hS (Below.refl _ _) ?_
              exact fits_is _ _
            refine Vals5.Steps.run rfl (Vals5.Stable.is _) ?_ ?_
            · intro a W hS pre old K hK
              have e7 := old 7 _ (by kernel_rfl) rfl
              clear pre old
              simp only [Vals5.fits, Array.getD_eq_getD_getElem?, List.getElem?_toArray, List.getElem?_cons_zero, List.getElem?_cons_succ, Option.getD_some] at e7
              go_simp
              refine hK _ _ hS (Below.refl _ _) ?_
              exact fits_is _ _
            refine Vals5.Steps.run rfl (Vals5.Stable.is _) ?_ ?_
            · intro a W hS pre old K hK
              have e36 := pre 3 36 _ (by kernel_rfl) rfl rfl
              clear pre old
              simp only [Vals5.fits, Array.getD_eq_getD_getElem?, List.getElem?_toArray, List.getElem?_cons_zero, List.getElem?_cons_succ, Option.getD_some] at e36
              have hS9 := hS
              obtain ⟨q1, q2, q3, q4⟩ := hS9
              obtain ⟨c0, c1, c2⟩ := q1.wk.hull
              have d0 := q2.cell 0
              have d1 := q2.cell 1
              obtain ⟨p0, p1, p2, p3, p4, p5, p6⟩ := q3.part
              have g0 := q1.bl.cell k
              rw [r3_get _ hk3] at g0
              simp only [List.getElem?_toArray, List.getElem?_cons_zero, List.getElem?_cons_succ] at d0 d1
              go_simp
              refine hK _ _ hS (Below.refl _ _) ?_
              exact fits_is _ _
            refine Vals5.Steps.run rfl (Vals5.Stable.is _) ?_ ?_
            · intro a W hS pre old K hK
              have e2 := old 2 _ (by kernel_rfl) rfl
              clear pre old
              simp only [Vals5.fits, Array.getD_eq_getD_getElem?, List.getElem?_toArray, List.getElem?_cons_zero, List.getElem?_cons_succ, Option.getD_some] at e2
              have hS9 := hS
              obtain ⟨q1, q2, q3, q4⟩ := hS9
              obtain ⟨c0, c1, c2⟩ := q1.wk.hull
              have d0 := q2.cell 0
              have d1 := q2.cell 1
              obtain ⟨p0, p1, p2, p3, p4, p5, p6⟩ := q3.part
              have g0 := q1.bl.cell k
              rw [r3_get _ hk3] at g0
              simp only [List.getElem?_toArray, List.getElem?_cons_zero, List.getElem?_cons_succ] at d0 d1
              go_simp
              refine hK _ _ hS (Below.refl _ _) ?_
              exact fits_is _ _
            refine Vals5.Steps.run rfl (Vals5.Stable.is _) ?_ ?_
            · intro a W hS pre old K hK
              have e9 := old 9 _ (by kernel_rfl) rfl
              clear pre old
              simp only [Vals5.fits, Array.getD_eq_getD_getElem?, List.getElem?_toArray, List.getElem?_cons_zero, List.getElem?_cons_succ, Option.getD_some] at e9
              have hS9 := hS
              obtain ⟨q1, q2, q3, q4⟩ := hS9
              obtain ⟨c0, c1, c2⟩ := q1.wk.hull
              have d0 := q2.cell 0
              have d1 := q2.cell 1
              obtain ⟨p0, p1, p2, p3, p4, p5, p6⟩ := q3.part
              have g0 := q1.bl.cell k
              rw [r3_get _ hk3] at g0
              simp only [List.getElem?_toArray, List.getElem?_cons_zero, List.getElem?_cons_succ] at d0 d1
              go_simp
              refine hK _ _ hS (Below.refl _ _) ?_
              exact fits_is _ _
            refine Vals5.Steps.run rfl (Vals5.Stable.is _) ?_ ?_
            · intro a W hS pre old K hK
              have e10 := old 10 _ (by kernel_rfl) rfl
              clear pre old
              simp only [Vals5.fits, Array.getD_eq_getD_getElem?, List.getElem?_toArray, List.getElem?_cons_zero, List.getElem?_cons_succ, Option.getD_some] at e10
              go_simp
              refine hK _ _ hS (Below.refl _ _) ?_
              exact fits_is _ _
            refine Vals5.Steps.run rfl (Vals5.Stable.is _) ?_ ?_
            · intro a W hS pre old K hK
              have e11 := old 11 _ (by kernel_rfl) rfl
              clear pre old
              simp only [Vals5.fits, Array.getD_eq_getD_getElem?, List.getElem?_toArray, List.getElem?_cons_zero, List.getElem?_cons_succ, Option.getD_some] at e11
              go_simp
              refine hK _ _ hS (Below.refl _ _) ?_
              exact fits_is _ _
            refine Vals5.Steps.run rfl (Vals5.Stable.is _) ?_ ?_
            · intro a W hS pre old K hK
              have e1 := old 1 _ (by kernel_rfl) rfl
              clear pre old
              simp only [Vals5.fits, Array.getD_eq_getD_getElem?, List.getElem?_toArray, List.getElem?_cons_zero, List.getElem?_cons_succ, Option.getD_some] at e1
              go_simp
              refine hK _ _ hS (Below.refl _ _) ?_
              exact fits_is _ _
            refine Vals5.Steps.run rfl (Vals5.Stable.is _) ?_ ?_
            · intro a W hS pre old K hK
              have e38 := pre 5 38 _ (by kernel_rfl) rfl rfl
              have e39 := pre 6 39 _ (by kernel_rfl) rfl rfl
              have e40 := pre 7 40 _ (by kernel_rfl) rfl rfl
              have e41 := pre 8 41 _ (by kernel_rfl) rfl rfl
              have e42 := pre 9 42 _ (by kernel_rfl) rfl rfl
              clear pre old
              simp only [Vals5.fits, Array.getD_eq_getD_getElem?, List.getElem?_toArray, List.getElem?_cons_zero, List.getElem?_cons_succ, Option.getD_some] at e38 e39 e40 e41 e42
              obtain ⟨q1, q2, q3, q4⟩ := hS
              have hC := press_c h.parts[j] h m (sdW h.aft h.fore k h.parts[j]) (sdL h.aft h.fore k h.parts[j]) wt W sb.1.1 sb.1.2 sb.2.1 sb.2.2 hx hw0 hw1
              go_simp
              refine hC.mono ?_
              rintro e w' ⟨rfl, hb'⟩
              refine hK _ _ ⟨q1.keep hb', q2.keep hb', q3.keep hb', q4.keep hb'⟩ hb' ?_
              exact fits_is _ _
            refine Vals5.Steps.run rfl (Vals5.Stable.is _) ?_ ?_
            · intro a W hS pre old K hK
              have e37 := pre 4 37 _ (by kernel_rfl) rfl rfl
              have e43 := pre 10 43 _ (by kernel_rfl) rfl rfl
              clear pre old
              simp only [Vals5.fits, Array.getD_eq_getD_getElem?, List.getElem?_toArray, List.getElem?_cons_zero, List.getElem?_cons_succ, Option.getD_some] at e37 e43
              obtain ⟨q1, q2, q3, q4⟩ := hS
              have hC := HCA.out W
              have e1 := HFA.out
              go_simp
              refine hC.mono ?_
              rintro e w' ⟨rfl, hb'⟩
              refine hK _ _ ⟨q1.keep hb', q2.keep hb', q3.keep hb', q4.keep hb'⟩ hb' ?_
              exact fits_is _ _
            refine Vals5.Steps.run rfl (Vals5.Stable.is _) ?_ ?_
            · intro a W hS pre old K hK
              have e35 := pre 2 35 _ (by kernel_rfl) rfl rfl
              have e44 := pre 11 44 _ (by kernel_rfl) rfl rfl
              clear pre old
              simp only [Vals5.fits, Array.getD_eq_getD_getElem?, List.getElem?_toArray, List.getElem?_cons_zero, List.getElem?_cons_succ, Option.getD_some] at e35 e44
              have E9 := HE9.out
              go_simp
              refine hK _ _ hS (Below.refl _ _) ?_
              exact fits_is _ _
            refine Vals5.Steps.run rfl (Vals5.Stable.is _) ?_ ?_
            · intro a W hS pre old K hK
              have e5 := old 5 _ (by kernel_rfl) rfl
              have e33 := pre 0 33 _ (by kernel_rfl) rfl rfl
              clear pre old
              simp only [Vals5.fits, Array.getD_eq_getD_getElem?, List.getElem?_toArray, List.getElem?_cons_zero, List.getElem?_cons_succ, Option.getD_some] at e5 e33
              go_simp
              refine hK _ _ hS (Below.refl _ _) ?_
              exact fits_is _ _
            exact Vals5.Steps.nil
          case hend =>
          rintro X ⟨hI5, hS5, -, hG5⟩
          have HI6 := Lib.hid (hI5.set hk3 (cur k (j + 1) k) (by omega) (by omega))
          rw [show (fun i => if i = k then cur k (j + 1) k else cur k j i) = cur k (j + 1) from by funext i; rw [HCUR.out]; by_cases e : i = k <;> simp [e]] at HI6
          have HS6 := Lib.hid (hS5.far (g' := w.heap.size + 1 + 1) (by have := HNS.out; omega) k (.int .i64 (cur k (j + 1) k)))
          have HG6 := Lib.hid (hG5.far (g' := w.heap.size + 1 + 1) (by have := HNG.out; omega) k (.int .i64 (cur k (j + 1) k)))
          have g0 := hI5.bl.cell k
          have f0 := hI5.bl.frozen k
          rw [r3_get _ hk3] at g0
          clear hI5 hS5 hG5
          simp only [Vals5.All]
          simp only [List.getLast_cons_cons, List.getLast_singleton]
          simp only [Vals.putAll, List.setIfInBounds_toArray, List.set_cons_zero, List.set_cons_succ]
          intro K hK
          go_simp
          refine hK _ _ ?_
          clear hK K g0 f0
          go_wp2_with fail
          go_roundw
          case rel => exact ⟨j + 1, by omega, by go_num, HI6, HG6, HS6⟩
          case measure => simp [intOf]; omega
        · obtain rfl : j = h.parts.length := by omega
          have HN : Hid (Bi w h m (w.heap.size + 1) (w.heap.size + 1 + 1) (cur (k + 1) 0) wr) := by
            have e : cur k h.parts.length = cur (k + 1) 0 := by
              funext i
              rw [HCUR.out]
              by_cases e1 : i < k
              · simp [e1, show i < k + 1 by omega]
              · by_cases e2 : i = k
                · subst e2; simp [lst]
                · simp [e1, e2, show ¬ i < k + 1 by omega, sm]
            rw [← e]; exact HIj.out
          go_wp2_with fail
          go_roundw
          case rel => exact ⟨k + 1, by omega, by go_num, HN, HGj⟩
          case measure => simp [intOf]; omega
    · obtain rfl : k = 3 := by omega
      have HBL : Hid (Blk wr (w.heap.size + 1 + 1) 90 #[.int .i64 (lst h 0 wt), .int .i64 (lst h 1 wt), .int .i64 (lst h 2 wt)]) := by
        have := HIk.out.bl
        rw [HCUR.out] at this
        exact this
      have HRS : Hid (Blk wr (w.heap.size + 1) 90 #[.int .i64 0, .int .i64 0, .int .i64 0]) := HIk.out.rs
      go_wp2_with (first | (refine wpList_load_row rfl 90 _ rfl (w.heap.size + 1 + 1) rfl 90 (#[.int .i64 (lst h 0 wt), .int .i64 (lst h 1 wt), .int .i64 (lst h 2 wt)]) (0, 0) _ HBL.out Try.underlying90 rfl (by kernel_rfl) ?_) | (refine wpList_store_row rfl 90 _ _ rfl (w.heap.size + 1) _ rfl rfl 90 _ HRS.out (by kernel_rfl) rfl (by simp [Value.oneCell']) ?_))
      (refine bodyPost_ret (v := .agg _) ?_ rfl ⟨rfl, ?_⟩; exact (results_cell_row Try.results56 _ _ (w.heap.size + 1) 90 _ (0, 0) _ rfl (HRS.out.row _) Try.underlying90 rfl (by kernel_rfl)))
      exact (HIk.out.sn.row (by omega) _).1
end Td
end Go.Proofs.Ythdcklonamgpiaa
