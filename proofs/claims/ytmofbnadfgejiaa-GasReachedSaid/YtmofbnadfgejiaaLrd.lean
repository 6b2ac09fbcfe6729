import Derived.Test.YtmofbnadfgejiaaLawT
import Derived.Test.YtmofbnadfgejiaaMath
/- The law package's true readings of a truth, by turns. -/
namespace Go.Proofs.Ytmofbnadfgejiaa
open Go.RowKit
namespace Td
set_option linter.unusedSimpArgs false
set_option linter.unusedVariables false
attribute [local go_sem] Oper.semAt_some
/-- bytes in a row. -/
def U8At (w : World) (A : Option Addr) (l : List Int) : Prop :=
  l ≠ [] → ∃ a, A = some a ∧ ∀ i p, l[i]? = some p → w.cell? (a.add i) = some (.int .u8 p)
theorem U8At.keep {w w' : World} {A : Option Addr} {l : List Int} (h : U8At w A l) (hb : Below w.heap.size w w') : U8At w' A l := fun hx =>
  let ⟨a, ha, hc⟩ := h hx; ⟨a, ha, fun i p hp => keep_cell hb (hc i p hp)⟩
theorem U8At.get {w : World} {A : Option Addr} {l : List Int} (h : U8At w A l) {k : Nat} (hk : k < l.length) : ∃ a, A = some a ∧ w.cell? (a.add k) = some (.int .u8 l[k]) := by
  obtain ⟨a, ha, hc⟩ := h (fun e => by simp [e] at hk)
  exact ⟨a, ha, hc k _ (List.getElem?_eq_getElem hk)⟩
def U8Ok (l : List Int) : Prop := ∀ j (h : j < l.length), 0 ≤ l[j] ∧ l[j] ≤ 255
/-- the cells of a past. -/
abbrev pV (P : Option Addr) (X : List Int) (pc : Nat) (MA : Option Addr) (Mn : List Int) (mc : Nat) (WA : Option Addr) (Ws : List Int) (wc : Nat) (nw : Nat) : Array Value := #[.slice P X.length pc, .slice MA Mn.length mc, .slice WA Ws.length wc, .int .u8 (nw : Int)]
theorem own_far {W : World} {B sz n : Nat} {t : TypeId} {v : Value} {xs : List Value} (h : W.ownsRow B t sz v n xs) (g i : Nat) (u : Value) (hne : ∀ k, v.ownBlock = some k → k ≠ g) : (W.setCell ⟨g, i, none⟩ u).ownsRow B t sz v n xs :=
  h.kept (row := some g) ⟨rfl, rfl, rfl, by simp, fun k hk hn => heap_setCell_other W ⟨g, i, none⟩ k u (fun e => hn (by rw [e]))⟩ (by
    cases hv : v.ownBlock with
    | none => left; rfl
    | some k => right; intro e; exact hne k hv (Option.some.inj e))
/-- a reading is laid in memory of its own. -/
structure Al (w wr : World) (s : Spc) (m : Sl) (xs rv : Array Value) (σ : Vals9.Sig) (X : World) : Prop where
  sn : Since wr X
  hs : Blk X w.heap.size 27 (sV s m)
  hx : Blk X (w.heap.size + 1) 52 xs
  a : ∀ v, σ 13 = some v → ∃ (g : Nat) (cs : Array Value), v = .pointer (some ⟨g, 0, none⟩) ∧ wr.heap.size ≤ g ∧ cs.size = 3 ∧ Blk X g 61 cs ∧ ∀ y, σ 14 = some y → cs = rv
  s : ∀ y, σ 14 = some y → ∃ v, σ 13 = some v
section
variable {w wr X : World} {s : Spc} {m : Sl} {xs rv : Array Value} {σ : Vals9.Sig}
theorem Al.start (hs : Blk wr w.heap.size 27 (sV s m)) (hx : Blk wr (w.heap.size + 1) 52 xs) : Al w wr s m xs rv (fun _ => none) wr.drew :=
  ⟨(Since.refl wr).drew, hs.drew, hx.drew, fun v h => (by cases h), fun v h => (by cases h)⟩
theorem Al.new (h : Al w wr s m xs rv σ X) (h5 : σ 14 = none) : Al w wr s m xs rv (Vals9.upd σ 13 (.pointer (some ⟨X.heap.size, 0, none⟩))) (X.alloc (.cells #[.int .i64 0, .int .i64 0, .int .i64 0] 61)) := by
  refine ⟨h.sn.alloc _, h.hs.alloc _, h.hx.alloc _, fun v hv => ?_, fun y hy => ⟨_, Vals9.upd_same _ _ _⟩⟩
  rw [Vals9.upd_same] at hv
  obtain rfl := Option.some.inj hv
  refine ⟨_, _, rfl, h.sn.2, rfl, Blk.new _ _ _, fun y hy => ?_⟩
  rw [Vals9.upd_other _ _ (by decide), h5] at hy
  cases hy
theorem Al.store (h : Al w wr s m xs rv σ X) {g : Nat} (h4 : σ 13 = some (.pointer (some ⟨g, 0, none⟩))) (hw : w.heap.size + 1 < wr.heap.size := by omega) (hrv : rv.size = 3 := by rfl) : Al w wr s m xs rv (Vals9.upd σ 14 undef) (X.setRow g rv) := by
  obtain ⟨g4, cs, e1, e2, e3, e4, _⟩ := h.a _ h4
  have hgg : g = g4 := by simpa using e1
  subst hgg
  refine ⟨h.sn.row e2 _, h.hs.rowFar (by omega) _, h.hx.rowFar (by omega) _, fun v hv => ?_, fun y hy => ⟨_, by rw [Vals9.upd_other _ _ (by decide)]; exact h4⟩⟩
  rw [Vals9.upd_other _ _ (by decide), h4] at hv
  obtain rfl := Option.some.inj hv
  exact ⟨g, rv, rfl, e2, hrv, e4.row _, fun _ _ => rfl⟩
end
/-- how wrong the i-th reading is. -/
def wrV (Ws : List Int) (i : Nat) : Int := Ws[i % Ws.length]?.getD 0
theorem wrV_bd {l : List Int} (ho : U8Ok l) (n : Nat) : 0 ≤ wrV l n ∧ wrV l n ≤ 255 := by
  rcases Nat.eq_zero_or_pos l.length with h | h
  · obtain rfl := List.eq_nil_of_length_eq_zero h
    simp [wrV]
  · have := ho (n % l.length) (Nat.mod_lt _ h)
    unfold wrV
    rw [List.getElem?_eq_getElem (Nat.mod_lt _ h)]
    simpa using this
/-- the i-th reading of a truth. -/
def lrd (s : Spc) (T : Nat → Int) (Mn Ws : List Int) (i : Nat) : Rd :=
  let mi := Mn[i]?.getD 0 % 61
  let tl := wrV Ws i % (s.tools.length : Int)
  let er := (s.tools[tl.toNat]?.map Tl.err).getD 0
  ⟨mi, tl, amongV (T mi.toNat - er) (T mi.toNat + er) (wrV Ws i)⟩
set_option maxRecDepth 100000 in
set_option maxHeartbeats 8000000 in
theorem lreadings_c (s : Spc) (m : Sl) (v0 : Value) (T : Nat → Int) (P : Option Addr) (X0 : List Int) (pc : Nat) (MA : Option Addr) (Mn : List Int) (mc : Nat) (WA : Option Addr) (Ws : List Int) (wc nw : Nat) (w : World) (hs : SOk s) (hsa : SAt w m s)
    (hlv : Lv w v0 ((List.range 61).map T)) (hT_ : ∀ k, 0 ≤ T k ∧ T k ≤ 200) (hm : U8At w MA Mn) (hmo : U8Ok Mn) (hw : U8At w WA Ws) (hwo : U8Ok Ws) (hM : Mn.length ≤ maxLen) (hWl : Ws.length ≤ maxLen) :
    Calls Try.prog 34 #[.agg (sV s m), v0, .agg (pV P X0 pc MA Mn mc WA Ws wc nw)] w fun e w' => (∃ A c, e = .returned (.slice A (min Mn.length 12) c) ∧ min Mn.length 12 ≤ c ∧ c ≤ 9223372036854775807 ∧ RdAt w' A ((List.range (min Mn.length 12)).map (lrd s T Mn Ws))) ∧ Below w.heap.size w w' := by
  unfold maxLen at hM hWl
  obtain ⟨LA, lc, hv0, hin⟩ := hlv
  rw [show ((List.range 61).map T).length = 61 by simp] at hv0
  subst hv0
  obtain ⟨la, hLA, hcl⟩ := hin (by simp)
  subst hLA
  have HCL : Hid (∀ i, i < 61 → w.cell? (la.add i) = some (.int .i64 (T i))) := fun i hi => hcl i (T i) (by simp [hi])
  clear hin hcl
  have hsn0 := ((Since.refl w).alloc (.cells (sV s m) 27)).alloc (.cells (pV P X0 pc MA Mn mc WA Ws wc nw) 52)
  have HS0 := Lib.hid ((Blk.new w 27 (sV s m)).alloc (.cells (pV P X0 pc MA Mn mc WA Ws wc nw) 52))
  have HX0 := Lib.hid (Blk.new1 w (.cells (sV s m) 27) 52 (pV P X0 pc MA Mn mc WA Ws wc nw))
  go_enter Try.func34, Try.ntmps34
  go_wp2_with fail
  go_loopw [7, 8, 9, 10, 11] (fun ov i _ _ _ wr => ∃ k : Nat, k ≤ min Mn.length 12 ∧ i = .int .i64 k ∧ Since w wr ∧ Hid (Blk wr w.heap.size 27 (sV s m)) ∧ Hid (Blk wr (w.heap.size + 1) 52 (pV P X0 pc MA Mn mc WA Ws wc nw)) ∧ Hid (wr.ownsRow (w.heap.size + 2) 61 3 ov ((List.range k).map (lrd s T Mn Ws)).length (rowsC ((List.range k).map (lrd s T Mn Ws))))) (fun _ i _ _ _ _ => 12 - (intOf i).toNat)
  case atStart => exact ⟨0, by omega, rfl, hsn0, HS0, HX0, ⟨rfl, .inl ⟨rfl, rfl⟩⟩⟩
  case round =>
    obtain ⟨k, hk, rfl, hsn, HS, HX, HO⟩ := hrel
    by_cases hlt : k < min Mn.length 12
    · have hkM : k < Mn.length := by omega
      have hk12 : k < 12 := by omega
      have hki : (k : Int) < (Mn.length : Int) := by omega
      have hki2 : (k : Int) < 12 := by omega
      obtain ⟨ma, hMA, q0⟩ := hm.get hkM
      subst hMA
      have HQ0 := Lib.hid q0
      have hmb := hmo k hkM
      have hwb := wrV_bd hwo k
      clear q0
      have z0 := HX.out.cell 0
      have z1 := HX.out.cell 1
      have z2 := HX.out.cell 2
      have z3 := HX.out.cell 3
      simp only [List.getElem?_toArray, List.getElem?_cons_zero, List.getElem?_cons_succ] at z0 z1 z2 z3
      have ht1 := hs.t1
      have ht3 := hs.t3
      have HKI := Lib.hid hki
      have HMB := Lib.hid hmb
      obtain ⟨mi, hmi⟩ : ∃ mi : Nat, Mn[k] % 61 = (mi : Int) := ⟨(Mn[k] % 61).toNat, by omega⟩
      have hmi2 : mi < 61 := by omega
      have HE61 := Lib.hid hmi
      have HT61 : Hid ((Mn[k]).tmod (61 : Int) = (mi : Int)) := by show _ = _; rw [Int.tmod_eq_emod_of_nonneg (by omega)]; exact hmi
      have HTN : Hid (¬ s.tools = []) := fun h => by rw [h] at ht1; simp at ht1
      have HTZ : Hid (((s.tools.length : Int) == 0) = false) := beq_eq_false_iff_ne.2 (by omega)
      have hzX := HX.out.lt
      clear hmi
      by_cases hW0 : Ws.length = 0
      · obtain rfl : Ws = [] := List.eq_nil_of_length_eq_zero hW0
        have hW0' : ¬ (0 : Int) < ((([] : List Int).length : Nat) : Int) := by simp
        have HWV : Hid (wrV [] k = 0) := rfl
        go_wp2_with fail
        clear z0 z1 z2 z3
        obtain ⟨tl, htl⟩ : ∃ tl : Nat, (0) % (s.tools.length : Int) = (tl : Int) := ⟨((0) % (s.tools.length : Int)).toNat, by have := Int.emod_nonneg (0) (show (s.tools.length : Int) ≠ 0 by omega); omega⟩
        have htl2 : tl < s.tools.length := by have := Int.emod_lt_of_pos (0) (show (0 : Int) < (s.tools.length : Int) by omega); omega
        have HTE := Lib.hid htl
        have HTT : Hid ((0 : Int).tmod (s.tools.length : Int) = (tl : Int)) := by show _ = _; rw [Int.tmod_eq_emod_of_nonneg (by omega)]; exact htl
        clear htl
        refine Vals9.region (Al w wr s m (pV P X0 pc (some ma) Mn mc WA [] wc nw) #[.int .i64 (mi : Int), .int .i64 (tl : Int), .int .i64 0]) [some 37, some 38, some 39, some 40, some 41, some 42, some 43, some 44, some 45, some 46, some 47, some 48, some 49, some 10, none] [.is (.pointer (some ⟨w.heap.size + 1, 1, none⟩)), .is (.slice (some ma) Mn.length mc), .is (.int .i64 (k : Int)), .is (.pointer (some (ma.add k))), .is (.int .u8 Mn[k]), .is (.int .i64 Mn[k]), .is (.int .i64 (mi : Int)), .is (.int .i64 (0)), .is (.pointer (some ⟨w.heap.size, 8, none⟩)), .is (.slice m.T s.tools.length m.d), .is (.int .i64 (s.tools.length : Int)), .is (.int .i64 (tl : Int)), .is (.agg #[.int .i64 (mi : Int), .int .i64 (tl : Int), .int .i64 0]), .any, .any] (by kernel_rfl) (by kernel_rfl) (by kernel_rfl) (by kernel_rfl) (by kernel_rfl) (by kernel_rfl) (Al.start HS.out HX.out) ?_ ?_
        · refine Vals9.Steps.run (by kernel_rfl) ?_ ?_
          · intro a W σ hJ pre K hK
            have e5 : a.tmps.getD 5 undef = .pointer (some ⟨w.heap.size + 1, 0, none⟩) := pre.2.2 5 _ (by kernel_rfl) rfl
            clear pre
            simp only [Array.getD_eq_getD_getElem?] at e5
            go_simp
            exact hK _ hJ
          refine Vals9.Steps.run (by kernel_rfl) ?_ ?_
          · intro a W σ hJ pre K hK
            have e37 : a.tmps.getD 37 undef = .pointer (some ⟨w.heap.size + 1, 1, none⟩) := pre.1 0 37 _ (by kernel_rfl) rfl rfl
            clear pre
            simp only [Array.getD_eq_getD_getElem?] at e37
            have hS9 := hJ
            have z0 := hJ.hx.cell 0
            have z1 := hJ.hx.cell 1
            have z2 := hJ.hx.cell 2
            have z3 := hJ.hx.cell 3
            simp only [List.getElem?_toArray, List.getElem?_cons_zero, List.getElem?_cons_succ] at z0 z1 z2 z3
            obtain ⟨c0, c1, c2, c3, c4, c5, c6, c7, c8⟩ := hJ.hs.space
            have y0 := keep_cell (hsn.keep hJ.sn.1).1 HQ0.out
            go_simp
            exact hK _ hJ
          refine Vals9.Steps.run (by kernel_rfl) ?_ ?_
          · intro a W σ hJ pre K hK
            have e8 : a.tmps.getD 8 undef = .int .i64 (k : Int) := pre.2.2 8 _ (by kernel_rfl) rfl
            clear pre
            simp only [Array.getD_eq_getD_getElem?] at e8
            go_simp
            exact hK _ hJ
          refine Vals9.Steps.run (by kernel_rfl) ?_ ?_
          · intro a W σ hJ pre K hK
            have e38 : a.tmps.getD 38 undef = .slice (some ma) Mn.length mc := pre.1 1 38 _ (by kernel_rfl) rfl rfl
            have e39 : a.tmps.getD 39 undef = .int .i64 (k : Int) := pre.1 2 39 _ (by kernel_rfl) rfl rfl
            clear pre
            simp only [Array.getD_eq_getD_getElem?] at e38 e39
            have hki := HKI.out
            go_simp
            exact hK _ hJ
          refine Vals9.Steps.run (by kernel_rfl) ?_ ?_
          · intro a W σ hJ pre K hK
            have e40 : a.tmps.getD 40 undef = .pointer (some (ma.add k)) := pre.1 3 40 _ (by kernel_rfl) rfl rfl
            clear pre
            simp only [Array.getD_eq_getD_getElem?] at e40
            have hS9 := hJ
            have z0 := hJ.hx.cell 0
            have z1 := hJ.hx.cell 1
            have z2 := hJ.hx.cell 2
            have z3 := hJ.hx.cell 3
            simp only [List.getElem?_toArray, List.getElem?_cons_zero, List.getElem?_cons_succ] at z0 z1 z2 z3
            obtain ⟨c0, c1, c2, c3, c4, c5, c6, c7, c8⟩ := hJ.hs.space
            have y0 := keep_cell (hsn.keep hJ.sn.1).1 HQ0.out
            go_simp
            exact hK _ hJ
          refine Vals9.Steps.run (by kernel_rfl) ?_ ?_
          · intro a W σ hJ pre K hK
            have e41 : a.tmps.getD 41 undef = .int .u8 Mn[k] := pre.1 4 41 _ (by kernel_rfl) rfl rfl
            clear pre
            simp only [Array.getD_eq_getD_getElem?] at e41
            have hb := HMB.out
            have hw8 : IntKind.i64.wrap Mn[k] = Mn[k] := IntWalk.i64_in _ (by omega)
            go_simp
            exact hK _ hJ
          refine Vals9.Steps.run (by kernel_rfl) ?_ ?_
          · intro a W σ hJ pre K hK
            have e42 : a.tmps.getD 42 undef = .int .i64 Mn[k] := pre.1 5 42 _ (by kernel_rfl) rfl rfl
            clear pre
            simp only [Array.getD_eq_getD_getElem?] at e42
            have htm := HT61.out
            have hem := HE61.out
            go_simp
            exact hK _ hJ
          refine Vals9.Steps.run (by kernel_rfl) ?_ ?_
          · intro a W σ hJ pre K hK
            have e9 : a.tmps.getD 9 undef = .int .i64 (0) := pre.2.2 9 _ (by kernel_rfl) rfl
            clear pre
            simp only [Array.getD_eq_getD_getElem?] at e9
            go_simp
            exact hK _ hJ
          refine Vals9.Steps.run (by kernel_rfl) ?_ ?_
          · intro a W σ hJ pre K hK
            have e3 : a.tmps.getD 3 undef = .pointer (some ⟨w.heap.size, 0, none⟩) := pre.2.2 3 _ (by kernel_rfl) rfl
            clear pre
            simp only [Array.getD_eq_getD_getElem?] at e3
            go_simp
            exact hK _ hJ
          refine Vals9.Steps.run (by kernel_rfl) ?_ ?_
          · intro a W σ hJ pre K hK
            have e45 : a.tmps.getD 45 undef = .pointer (some ⟨w.heap.size, 8, none⟩) := pre.1 8 45 _ (by kernel_rfl) rfl rfl
            clear pre
            simp only [Array.getD_eq_getD_getElem?] at e45
            have hS9 := hJ
            have z0 := hJ.hx.cell 0
            have z1 := hJ.hx.cell 1
            have z2 := hJ.hx.cell 2
            have z3 := hJ.hx.cell 3
            simp only [List.getElem?_toArray, List.getElem?_cons_zero, List.getElem?_cons_succ] at z0 z1 z2 z3
            obtain ⟨c0, c1, c2, c3, c4, c5, c6, c7, c8⟩ := hJ.hs.space
            have y0 := keep_cell (hsn.keep hJ.sn.1).1 HQ0.out
            go_simp
            exact hK _ hJ
          refine Vals9.Steps.run (by kernel_rfl) ?_ ?_
          · intro a W σ hJ pre K hK
            have e46 : a.tmps.getD 46 undef = .slice m.T s.tools.length m.d := pre.1 9 46 _ (by kernel_rfl) rfl rfl
            clear pre
            simp only [Array.getD_eq_getD_getElem?] at e46
            go_simp
            exact hK _ hJ
          refine Vals9.Steps.run (by kernel_rfl) ?_ ?_
          · intro a W σ hJ pre K hK
            have e44 : a.tmps.getD 44 undef = .int .i64 (0) := pre.1 7 44 _ (by kernel_rfl) rfl rfl
            have e47 : a.tmps.getD 47 undef = .int .i64 (s.tools.length : Int) := pre.1 10 47 _ (by kernel_rfl) rfl rfl
            clear pre
            simp only [Array.getD_eq_getD_getElem?] at e44 e47
            have hne := HTN.out
            have hz := HTZ.out
            have htm := HTT.out
            have hem := HTE.out
            go_simp
            first | (exact hK _ hJ) | (rw [if_neg hne]; exact hK _ hJ)
          refine Vals9.Steps.run (by kernel_rfl) ?_ ?_
          · intro a W σ hJ pre K hK
            have e43 : a.tmps.getD 43 undef = .int .i64 (mi : Int) := pre.1 6 43 _ (by kernel_rfl) rfl rfl
            have e48 : a.tmps.getD 48 undef = .int .i64 (tl : Int) := pre.1 11 48 _ (by kernel_rfl) rfl rfl
            clear pre
            simp only [Array.getD_eq_getD_getElem?] at e43 e48
            go_simp
            exact hK _ hJ
          refine Vals9.Steps.mark (by kernel_rfl) ?_ ?_
          · intro a W σ hJ hn pre K hK
            go_simp
            exact hK _ _ (hJ.new (by cases h5 : σ 14 with | none => rfl | some y => exact absurd hn (by obtain ⟨v, hv⟩ := hJ.s y h5; simp [hv])))
          refine Vals9.Steps.mark (by kernel_rfl) ?_ ?_
          · intro a W σ hJ hn pre K hK
            obtain ⟨v10, s10, e10⟩ := pre.2.1 13 (by kernel_rfl) rfl
            replace e10 : a.tmps.getD 10 undef = v10 := e10 10 rfl
            have e49 : a.tmps.getD 49 undef = .agg #[.int .i64 (mi : Int), .int .i64 (tl : Int), .int .i64 0] := pre.1 12 49 _ (by kernel_rfl) rfl rfl
            simp only [Array.getD_eq_getD_getElem?] at e10 e49
            obtain ⟨g, cs, h1, h2, h3, h4, _⟩ := hJ.a _ s10
            subst h1
            refine wp_store_row 61 _ _ rfl g #[.int .i64 (mi : Int), .int .i64 (tl : Int), .int .i64 0] (by go_simp) (by go_simp) 61 cs h4 (by kernel_rfl) h3 (by simp [Value.oneCell']) ?_
            exact hK _ _ (hJ.store s10)
          exact Vals9.Steps.nil
        · intro Y σ hJ
          simp only [Vals9.All]
          intro v10 h10 v14 h14
          simp only [Vals.putAll, List.setIfInBounds_toArray, List.set_cons_zero, List.set_cons_succ]
          obtain ⟨g, cs, rfl, hgB, _, hg, hcs⟩ := hJ.a _ h10
          obtain rfl := hcs _ h14
          have hsY := hsn.keep hJ.sn.1
          have HSY := Lib.hid hJ.hs
          have HXY := Lib.hid hJ.hx
          have HGY := Lib.hid hg
          have HOY := Lib.hid (own_keep HO.out hJ.sn.1)
          clear hJ h10 h14 hg
          have hgW : w.heap.size + 1 < g := by have := hzX; omega
          obtain ⟨ae, hT, _, ee1⟩ := hsa.tl.get htl2
          obtain ⟨er, her⟩ : ∃ er, s.tools[tl].err = er := ⟨_, rfl⟩
          have heb := hs.er _ (List.getElem_mem htl2)
          rw [her] at ee1 heb
          have HTA := Lib.hid hT
          have HER := Lib.hid her
          have EE1 := Lib.hid (keep_cell hsY.1 ee1)
          have ey1 := EE1.out
          have hTm := hT_ mi
          obtain ⟨lvx, hlvx⟩ : ∃ lvx, T mi = lvx := ⟨_, rfl⟩
          have HLV := Lib.hid hlvx
          have HLC := Lib.hid (keep_cell hsY.1 (HCL.out mi hmi2))
          rw [hlvx] at hTm HLC
          clear hT ee1 her hlvx
          obtain ⟨_, _, _, _, _, _, _, _, c8⟩ := HSY.out.space
          rw [HTA.out] at c8
          have g1 := HGY.out.cell 1
          simp only [List.getElem?_toArray, List.getElem?_cons_zero, List.getElem?_cons_succ] at g1
          have htli : (tl : Int) < (s.tools.length : Int) := by omega
          go_wp2_with fail
          clear c8 g1 ey1
          refine Vals6.regionAll (fun Z => Blk Z g 61 #[.int .i64 (mi : Int), .int .i64 (tl : Int), .int .i64 0] ∧ Since Y Z) [some 57, some 58, some 59, some 60, some 61, some 62, some 63, some 64, some 65, some 66, some 67, some 68, some 69, some 70, some 71, some 72, some 73, some 74] [.is (.slice (some la) 61 lc), .is (.pointer (some ⟨g, 0, none⟩)), .is (.int .i64 (mi : Int)), .is (.pointer (some (la.add mi))), .is (.int .i64 lvx), .is (.int .i64 er), .is (.int .i64 (lvx - er)), .is (.slice (some la) 61 lc), .is (.pointer (some ⟨g, 0, none⟩)), .is (.int .i64 (mi : Int)), .is (.pointer (some (la.add mi))), .is (.int .i64 lvx), .is (.int .i64 er), .is (.int .i64 (lvx + er)), .is (.agg #[.int .i64 (lvx - er), .int .i64 (lvx + er)]), .is (.int .i64 (0)), .is (.int .i64 (amongV (lvx - er) (lvx + er) (0))), .is (.pointer (some ⟨g, 2, none⟩))] (by kernel_rfl) rfl rfl (by kernel_rfl) (by kernel_rfl) (by kernel_rfl) (by kernel_rfl) (by kernel_rfl) (by kernel_rfl) (by kernel_rfl) (⟨HGY.out.drew, (Since.refl Y).drew⟩) ?_ ?_
          · refine Vals5.Steps.run (by kernel_rfl) (Vals5.Stable.is _) ?_ ?_
            · intro a W hS pre old K hK
              have e1 : a.tmps.getD 1 undef = .slice (some la) 61 lc := old 1 _ (by kernel_rfl) rfl
              clear pre old
              simp only [Array.getD_eq_getD_getElem?] at e1
              go_simp
              exact hK _ _ hS (Below.refl _ _) rfl
            refine Vals5.Steps.run (by kernel_rfl) (Vals5.Stable.is _) ?_ ?_
            · intro a W hS pre old K hK
              have e10 : a.tmps.getD 10 undef = .pointer (some ⟨g, 0, none⟩) := old 10 _ (by kernel_rfl) rfl
              clear pre old
              simp only [Array.getD_eq_getD_getElem?] at e10
              go_simp
              exact hK _ _ hS (Below.refl _ _) rfl
            refine Vals5.Steps.run (by kernel_rfl) (Vals5.Stable.is _) ?_ ?_
            · intro a W hS pre old K hK
              have e58 : a.tmps.getD 58 undef = .pointer (some ⟨g, 0, none⟩) := pre 1 58 _ (by kernel_rfl) rfl rfl
              clear pre old
              simp only [Array.getD_eq_getD_getElem?] at e58
              have hS9 := hS
              obtain ⟨l1, l2⟩ := hS9
              have g0 := l1.cell 0
              simp only [List.getElem?_toArray, List.getElem?_cons_zero, List.getElem?_cons_succ] at g0
              have y0 := keep_cell l2.1 HLC.out
              go_simp
              exact hK _ _ hS (Below.refl _ _) rfl
            refine Vals5.Steps.run (by kernel_rfl) (Vals5.Stable.is _) ?_ ?_
            · intro a W hS pre old K hK
              have e57 : a.tmps.getD 57 undef = .slice (some la) 61 lc := pre 0 57 _ (by kernel_rfl) rfl rfl
              have e59 : a.tmps.getD 59 undef = .int .i64 (mi : Int) := pre 2 59 _ (by kernel_rfl) rfl rfl
              clear pre old
              simp only [Array.getD_eq_getD_getElem?] at e57 e59
              have hm61 : (mi : Int) < 61 := by omega
              go_simp
              exact hK _ _ hS (Below.refl _ _) rfl
            refine Vals5.Steps.run (by kernel_rfl) (Vals5.Stable.is _) ?_ ?_
            · intro a W hS pre old K hK
              have e60 : a.tmps.getD 60 undef = .pointer (some (la.add mi)) := pre 3 60 _ (by kernel_rfl) rfl rfl
              clear pre old
              simp only [Array.getD_eq_getD_getElem?] at e60
              have hS9 := hS
              obtain ⟨l1, l2⟩ := hS9
              have g0 := l1.cell 0
              simp only [List.getElem?_toArray, List.getElem?_cons_zero, List.getElem?_cons_succ] at g0
              have y0 := keep_cell l2.1 HLC.out
              go_simp
              exact hK _ _ hS (Below.refl _ _) rfl
            refine Vals5.Steps.run (by kernel_rfl) (Vals5.Stable.is _) ?_ ?_
            · intro a W hS pre old K hK
              have e11 : a.tmps.getD 11 undef = .int .i64 er := old 11 _ (by kernel_rfl) rfl
              clear pre old
              simp only [Array.getD_eq_getD_getElem?] at e11
              go_simp
              exact hK _ _ hS (Below.refl _ _) rfl
            refine Vals5.Steps.run (by kernel_rfl) (Vals5.Stable.is _) ?_ ?_
            · intro a W hS pre old K hK
              have e61 : a.tmps.getD 61 undef = .int .i64 lvx := pre 4 61 _ (by kernel_rfl) rfl rfl
              have e62 : a.tmps.getD 62 undef = .int .i64 er := pre 5 62 _ (by kernel_rfl) rfl rfl
              clear pre old
              simp only [Array.getD_eq_getD_getElem?] at e61 e62
              have hw9 : IntKind.i64.wrap (lvx - er) = lvx - er := IntWalk.i64_in _ (by omega)
              go_simp
              exact hK _ _ hS (Below.refl _ _) rfl
            refine Vals5.Steps.run (by kernel_rfl) (Vals5.Stable.is _) ?_ ?_
            · intro a W hS pre old K hK
              have e1 : a.tmps.getD 1 undef = .slice (some la) 61 lc := old 1 _ (by kernel_rfl) rfl
              clear pre old
              simp only [Array.getD_eq_getD_getElem?] at e1
              go_simp
              exact hK _ _ hS (Below.refl _ _) rfl
            refine Vals5.Steps.run (by kernel_rfl) (Vals5.Stable.is _) ?_ ?_
            · intro a W hS pre old K hK
              have e10 : a.tmps.getD 10 undef = .pointer (some ⟨g, 0, none⟩) := old 10 _ (by kernel_rfl) rfl
              clear pre old
              simp only [Array.getD_eq_getD_getElem?] at e10
              go_simp
              exact hK _ _ hS (Below.refl _ _) rfl
            refine Vals5.Steps.run (by kernel_rfl) (Vals5.Stable.is _) ?_ ?_
            · intro a W hS pre old K hK
              have e65 : a.tmps.getD 65 undef = .pointer (some ⟨g, 0, none⟩) := pre 8 65 _ (by kernel_rfl) rfl rfl
              clear pre old
              simp only [Array.getD_eq_getD_getElem?] at e65
              have hS9 := hS
              obtain ⟨l1, l2⟩ := hS9
              have g0 := l1.cell 0
              simp only [List.getElem?_toArray, List.getElem?_cons_zero, List.getElem?_cons_succ] at g0
              have y0 := keep_cell l2.1 HLC.out
              go_simp
              exact hK _ _ hS (Below.refl _ _) rfl
            refine Vals5.Steps.run (by kernel_rfl) (Vals5.Stable.is _) ?_ ?_
            · intro a W hS pre old K hK
              have e64 : a.tmps.getD 64 undef = .slice (some la) 61 lc := pre 7 64 _ (by kernel_rfl) rfl rfl
              have e66 : a.tmps.getD 66 undef = .int .i64 (mi : Int) := pre 9 66 _ (by kernel_rfl) rfl rfl
              clear pre old
              simp only [Array.getD_eq_getD_getElem?] at e64 e66
              have hm61 : (mi : Int) < 61 := by omega
              go_simp
              exact hK _ _ hS (Below.refl _ _) rfl
            refine Vals5.Steps.run (by kernel_rfl) (Vals5.Stable.is _) ?_ ?_
            · intro a W hS pre old K hK
              have e67 : a.tmps.getD 67 undef = .pointer (some (la.add mi)) := pre 10 67 _ (by kernel_rfl) rfl rfl
              clear pre old
              simp only [Array.getD_eq_getD_getElem?] at e67
              have hS9 := hS
              obtain ⟨l1, l2⟩ := hS9
              have g0 := l1.cell 0
              simp only [List.getElem?_toArray, List.getElem?_cons_zero, List.getElem?_cons_succ] at g0
              have y0 := keep_cell l2.1 HLC.out
              go_simp
              exact hK _ _ hS (Below.refl _ _) rfl
            refine Vals5.Steps.run (by kernel_rfl) (Vals5.Stable.is _) ?_ ?_
            · intro a W hS pre old K hK
              have e11 : a.tmps.getD 11 undef = .int .i64 er := old 11 _ (by kernel_rfl) rfl
              clear pre old
              simp only [Array.getD_eq_getD_getElem?] at e11
              go_simp
              exact hK _ _ hS (Below.refl _ _) rfl
            refine Vals5.Steps.run (by kernel_rfl) (Vals5.Stable.is _) ?_ ?_
            · intro a W hS pre old K hK
              have e68 : a.tmps.getD 68 undef = .int .i64 lvx := pre 11 68 _ (by kernel_rfl) rfl rfl
              have e69 : a.tmps.getD 69 undef = .int .i64 er := pre 12 69 _ (by kernel_rfl) rfl rfl
              clear pre old
              simp only [Array.getD_eq_getD_getElem?] at e68 e69
              have hw9 : IntKind.i64.wrap (lvx + er) = lvx + er := IntWalk.i64_in _ (by omega)
              go_simp
              exact hK _ _ hS (Below.refl _ _) rfl
            refine Vals5.Steps.run (by kernel_rfl) (Vals5.Stable.is _) ?_ ?_
            · intro a W hS pre old K hK
              have e63 : a.tmps.getD 63 undef = .int .i64 (lvx - er) := pre 6 63 _ (by kernel_rfl) rfl rfl
              have e70 : a.tmps.getD 70 undef = .int .i64 (lvx + er) := pre 13 70 _ (by kernel_rfl) rfl rfl
              clear pre old
              simp only [Array.getD_eq_getD_getElem?] at e63 e70
              go_simp
              refine (span_c (lvx - er) (lvx + er) _).mono ?_
              rintro e w' ⟨rfl, hb'⟩
              obtain ⟨h1, h2⟩ := hS
              exact hK _ _ ⟨h1.keep hb', h2.keep hb'⟩ hb' rfl
            refine Vals5.Steps.run (by kernel_rfl) (Vals5.Stable.is _) ?_ ?_
            · intro a W hS pre old K hK
              have e9 : a.tmps.getD 9 undef = .int .i64 (0) := old 9 _ (by kernel_rfl) rfl
              clear pre old
              simp only [Array.getD_eq_getD_getElem?] at e9
              go_simp
              exact hK _ _ hS (Below.refl _ _) rfl
            refine Vals5.Steps.run (by kernel_rfl) (Vals5.Stable.is _) ?_ ?_
            · intro a W hS pre old K hK
              have e71 : a.tmps.getD 71 undef = .agg #[.int .i64 (lvx - er), .int .i64 (lvx + er)] := pre 14 71 _ (by kernel_rfl) rfl rfl
              have e72 : a.tmps.getD 72 undef = .int .i64 (0) := pre 15 72 _ (by kernel_rfl) rfl rfl
              clear pre old
              simp only [Array.getD_eq_getD_getElem?] at e71 e72
              go_simp
              refine (among_c (lvx - er) (lvx + er) (0) _ (by omega) (by omega) (by omega) (by omega) (by omega)).mono ?_
              rintro e w' ⟨rfl, hb'⟩
              obtain ⟨h1, h2⟩ := hS
              exact hK _ _ ⟨h1.keep hb', h2.keep hb'⟩ hb' rfl
            refine Vals5.Steps.run (by kernel_rfl) (Vals5.Stable.is _) ?_ ?_
            · intro a W hS pre old K hK
              have e10 : a.tmps.getD 10 undef = .pointer (some ⟨g, 0, none⟩) := old 10 _ (by kernel_rfl) rfl
              clear pre old
              simp only [Array.getD_eq_getD_getElem?] at e10
              go_simp
              exact hK _ _ hS (Below.refl _ _) rfl
            exact Vals5.Steps.nil
          rintro Z ⟨HGZ, hsZ⟩
          simp only [Vals5.All, List.getLast_cons_cons, List.getLast_singleton]
          simp only [Vals.putAll, List.setIfInBounds_toArray, List.set_cons_zero, List.set_cons_succ]
          obtain ⟨sh, hsh⟩ : ∃ sh, amongV (lvx - er) (lvx + er) (0) = sh := ⟨_, rfl⟩
          rw [hsh]
          have HSH := Lib.hid hsh
          clear hsh
          have g2 := HGZ.cell 2
          have f2 := HGZ.frozen 2
          simp only [List.getElem?_toArray, List.getElem?_cons_zero, List.getElem?_cons_succ] at g2
          have HG9 := HGZ.set 2 (.int .i64 sh)
          simp only [List.setIfInBounds_toArray, List.set_cons_zero, List.set_cons_succ] at HG9
          have HG10 := Lib.hid HG9
          have hsW : Since w (Z.setCell ⟨g, 2, none⟩ (.int .i64 sh)) := ⟨(hsY.keep hsZ.1).1.setCell (p := ⟨g, 2, none⟩) (by simp; omega) _, by simpa using (hsY.keep hsZ.1).2⟩
          have HS10 := Lib.hid ((HSY.out.keep hsZ.1).far (g' := g) (by omega) 2 (.int .i64 sh))
          have HX10 := Lib.hid ((HXY.out.keep hsZ.1).far (g' := g) (by omega) 2 (.int .i64 sh))
          have hol := HO.out.lt
          have HO10 := Lib.hid (own_far (own_keep HOY.out hsZ.1) g 2 (.int .i64 sh) (fun q e => by have := (hol q e).2; omega))
          clear HG9 hol HSY HXY HOY HGY hsY
          intro K hK
          go_simp
          refine hK _ _ ?_
          clear hK K g2 f2 HGZ
          obtain ⟨W9, hW9⟩ : ∃ W9, Z.setCell ⟨g, 2, none⟩ (.int .i64 sh) = W9 := ⟨_, rfl⟩
          rw [hW9] at hsW HS10 HX10 HO10 HG10 ⊢
          clear hW9
          have HLK : Hid (lrd s T Mn [] k = ⟨(mi : Int), (tl : Int), sh⟩) := by show _ = _; simp only [lrd, List.getElem?_eq_getElem hkM, Option.getD_some, HE61.out, HWV.out, HTE.out, Int.toNat_natCast, List.getElem?_eq_getElem htl2, Option.map_some, HER.out, HLV.out, HSH.out]
          have g0 := HG10.out.cell 0
          have g1 := HG10.out.cell 1
          have g2 := HG10.out.cell 2
          simp only [List.getElem?_toArray, List.getElem?_cons_zero, List.getElem?_cons_succ] at g0 g1 g2
          have hq : Below W9.heap.size W9 (W9.alloc (.cells (rV ⟨(mi : Int), (tl : Int), sh⟩) 61)) := (Below.refl _ _).alloc (Nat.le_refl _) _
          have HO11 := Lib.hid (own_keep HO10.out hq)
          have HN11 := Lib.hid (Blk.new W9 61 (rV ⟨(mi : Int), (tl : Int), sh⟩))
          have hzB : w.heap.size + 2 ≤ (W9.alloc (.cells (rV ⟨(mi : Int), (tl : Int), sh⟩) 61)).heap.size := by have := HX10.out.lt; simp; omega
          have hll : ((List.range k).map (lrd s T Mn [])).length ≤ 1000 := by simp; omega
          go_wp2_with (at_builtin; refine wpList_append_read rfl (.tmp 75) (.tmp 77) rfl (w.heap.size + 2) W9.heap.size _ ((List.range k).map (lrd s T Mn [])) ⟨(mi : Int), (tl : Int), sh⟩ (by go_simp) (by go_simp) HO11.out HN11.out hll hzB ?_)
          intro v3 w3 ho3 hg3 _
          have hlt3 := HO11.out.lt
          have HS12 := Lib.hid ((HS10.out.keep hq).grown hg3 (fun h => by have := (hlt3 _ h.symm).1; omega))
          have HX12 := Lib.hid ((HX10.out.keep hq).grown hg3 (fun h => by have := (hlt3 _ h.symm).1; omega))
          have hs12 : Since w w3 := ⟨(hsW.keep hq).1.grown hg3 (hsW.keep hq).2 (fun q h => by have := (hlt3 q h).1; omega), Nat.le_trans (hsW.keep hq).2 hg3.size⟩
          have HO12 : Hid (w3.ownsRow (w.heap.size + 2) 61 3 v3 ((List.range (k + 1)).map (lrd s T Mn [])).length (rowsC ((List.range (k + 1)).map (lrd s T Mn [])))) := by
            show World.ownsRow _ _ _ _ _ _ _
            rw [show ((List.range (k + 1)).map (lrd s T Mn [])).length = k + 1 by simp, List.range_succ, List.map_append, List.map_singleton, HLK.out]
            exact ho3
          clear ho3 hg3 hlt3 hq HO11 HN11 g0 g1 g2 HO10 HS10 HX10
          go_wp2_with fail
          go_roundw
          case rel =>
            exact ⟨k + 1, by omega, by go_num, hs12, HS12, HX12, HO12⟩
          case measure => simp [intOf]; omega
      · have hW0' : (0 : Int) < (Ws.length : Int) := by omega
        obtain ⟨j, hj⟩ : ∃ j, k % Ws.length = j := ⟨_, rfl⟩
        have hjl : j < Ws.length := by rw [← hj]; exact Nat.mod_lt _ (by omega)
        obtain ⟨wa, hWA, y0⟩ := hw.get hjl
        subst hWA
        have HW0 := Lib.hid y0
        have HWB := Lib.hid (hwo j hjl)
        have HJI : Hid ((j : Int) < (Ws.length : Int)) := by show _ < _; omega
        have HNE : Hid (¬ Ws = []) := fun h => by rw [h] at hjl; simp at hjl
        have HZ : Hid (((Ws.length : Int) == 0) = false) := beq_eq_false_iff_ne.2 (by omega)
        have hem : ((k : Int) % (Ws.length : Int)) = (j : Int) := by rw [← hj]; rfl
        have HEM := Lib.hid hem
        have HTM : Hid ((k : Int).tmod (Ws.length : Int) = (j : Int)) := by show _ = _; rw [Int.tmod_eq_emod_of_nonneg (by omega)]; exact hem
        have HWV : Hid (wrV Ws k = Ws[j]) := by show _ = _; unfold wrV; rw [hj, List.getElem?_eq_getElem hjl]; rfl
        clear hj hem y0
        go_wp2_with fail
        refine Vals6.regionAll (fun X => Blk X (w.heap.size + 1) 52 (pV P X0 pc (some ma) Mn mc (some wa) Ws wc nw) ∧ Since wr X) [some 27, some 28, some 29, some 30, some 31, some 32, some 33, some 34, some 35, some 36] [.is (.pointer (some ⟨w.heap.size + 1, 2, none⟩)), .is (.slice (some wa) Ws.length wc), .is (.int .i64 (k : Int)), .is (.pointer (some ⟨w.heap.size + 1, 2, none⟩)), .is (.slice (some wa) Ws.length wc), .is (.int .i64 (Ws.length : Int)), .is (.int .i64 (j : Int)), .is (.pointer (some (wa.add j))), .is (.int .u8 Ws[j]), .is (.int .i64 Ws[j])] (by kernel_rfl) rfl rfl (by kernel_rfl) (by kernel_rfl) (by kernel_rfl) (by kernel_rfl) (by kernel_rfl) (by kernel_rfl) (by kernel_rfl) (⟨HX.out.drew, (Since.refl wr).drew⟩) ?_ ?_
        · refine Vals5.Steps.run (by kernel_rfl) (Vals5.Stable.is _) ?_ ?_
          · intro a W hS pre old K hK
            have e5 : a.tmps.getD 5 undef = .pointer (some ⟨w.heap.size + 1, 0, none⟩) := old 5 _ (by kernel_rfl) rfl
            clear pre old
            simp only [Array.getD_eq_getD_getElem?] at e5
            go_simp
            exact hK _ _ hS (Below.refl _ _) rfl
          refine Vals5.Steps.run (by kernel_rfl) (Vals5.Stable.is _) ?_ ?_
          · intro a W hS pre old K hK
            have e27 : a.tmps.getD 27 undef = .pointer (some ⟨w.heap.size + 1, 2, none⟩) := pre 0 27 _ (by kernel_rfl) rfl rfl
            clear pre old
            simp only [Array.getD_eq_getD_getElem?] at e27
            have hS9 := hS
            obtain ⟨l1, l2⟩ := hS9
            have z0 := l1.cell 0
            have z1 := l1.cell 1
            have z2 := l1.cell 2
            have z3 := l1.cell 3
            simp only [List.getElem?_toArray, List.getElem?_cons_zero, List.getElem?_cons_succ] at z0 z1 z2 z3
            have y0 := keep_cell (hsn.keep l2.1).1 HW0.out
            go_simp
            exact hK _ _ hS (Below.refl _ _) rfl
          refine Vals5.Steps.run (by kernel_rfl) (Vals5.Stable.is _) ?_ ?_
          · intro a W hS pre old K hK
            have e8 : a.tmps.getD 8 undef = .int .i64 (k : Int) := old 8 _ (by kernel_rfl) rfl
            clear pre old
            simp only [Array.getD_eq_getD_getElem?] at e8
            go_simp
            exact hK _ _ hS (Below.refl _ _) rfl
          refine Vals5.Steps.run (by kernel_rfl) (Vals5.Stable.is _) ?_ ?_
          · intro a W hS pre old K hK
            have e5 : a.tmps.getD 5 undef = .pointer (some ⟨w.heap.size + 1, 0, none⟩) := old 5 _ (by kernel_rfl) rfl
            clear pre old
            simp only [Array.getD_eq_getD_getElem?] at e5
            go_simp
            exact hK _ _ hS (Below.refl _ _) rfl
          refine Vals5.Steps.run (by kernel_rfl) (Vals5.Stable.is _) ?_ ?_
          · intro a W hS pre old K hK
            have e30 : a.tmps.getD 30 undef = .pointer (some ⟨w.heap.size + 1, 2, none⟩) := pre 3 30 _ (by kernel_rfl) rfl rfl
            clear pre old
            simp only [Array.getD_eq_getD_getElem?] at e30
            have hS9 := hS
            obtain ⟨l1, l2⟩ := hS9
            have z0 := l1.cell 0
            have z1 := l1.cell 1
            have z2 := l1.cell 2
            have z3 := l1.cell 3
            simp only [List.getElem?_toArray, List.getElem?_cons_zero, List.getElem?_cons_succ] at z0 z1 z2 z3
            have y0 := keep_cell (hsn.keep l2.1).1 HW0.out
            go_simp
            exact hK _ _ hS (Below.refl _ _) rfl
          refine Vals5.Steps.run (by kernel_rfl) (Vals5.Stable.is _) ?_ ?_
          · intro a W hS pre old K hK
            have e31 : a.tmps.getD 31 undef = .slice (some wa) Ws.length wc := pre 4 31 _ (by kernel_rfl) rfl rfl
            clear pre old
            simp only [Array.getD_eq_getD_getElem?] at e31
            go_simp
            exact hK _ _ hS (Below.refl _ _) rfl
          refine Vals5.Steps.run (by kernel_rfl) (Vals5.Stable.is _) ?_ ?_
          · intro a W hS pre old K hK
            have e29 : a.tmps.getD 29 undef = .int .i64 (k : Int) := pre 2 29 _ (by kernel_rfl) rfl rfl
            have e32 : a.tmps.getD 32 undef = .int .i64 (Ws.length : Int) := pre 5 32 _ (by kernel_rfl) rfl rfl
            clear pre old
            simp only [Array.getD_eq_getD_getElem?] at e29 e32
            have hne := HNE.out
            have hz := HZ.out
            have htm := HTM.out
            have hem := HEM.out
            go_simp
            first | (exact hK _ _ hS (Below.refl _ _) rfl) | (rw [if_neg hne]; exact hK _ _ hS (Below.refl _ _) rfl)
          refine Vals5.Steps.run (by kernel_rfl) (Vals5.Stable.is _) ?_ ?_
          · intro a W hS pre old K hK
            have e28 : a.tmps.getD 28 undef = .slice (some wa) Ws.length wc := pre 1 28 _ (by kernel_rfl) rfl rfl
            have e33 : a.tmps.getD 33 undef = .int .i64 (j : Int) := pre 6 33 _ (by kernel_rfl) rfl rfl
            clear pre old
            simp only [Array.getD_eq_getD_getElem?] at e28 e33
            have hji := HJI.out
            go_simp
            exact hK _ _ hS (Below.refl _ _) rfl
          refine Vals5.Steps.run (by kernel_rfl) (Vals5.Stable.is _) ?_ ?_
          · intro a W hS pre old K hK
            have e34 : a.tmps.getD 34 undef = .pointer (some (wa.add j)) := pre 7 34 _ (by kernel_rfl) rfl rfl
            clear pre old
            simp only [Array.getD_eq_getD_getElem?] at e34
            have hS9 := hS
            obtain ⟨l1, l2⟩ := hS9
            have z0 := l1.cell 0
            have z1 := l1.cell 1
            have z2 := l1.cell 2
            have z3 := l1.cell 3
            simp only [List.getElem?_toArray, List.getElem?_cons_zero, List.getElem?_cons_succ] at z0 z1 z2 z3
            have y0 := keep_cell (hsn.keep l2.1).1 HW0.out
            go_simp
            exact hK _ _ hS (Below.refl _ _) rfl
          refine Vals5.Steps.run (by kernel_rfl) (Vals5.Stable.is _) ?_ ?_
          · intro a W hS pre old K hK
            have e35 : a.tmps.getD 35 undef = .int .u8 Ws[j] := pre 8 35 _ (by kernel_rfl) rfl rfl
            clear pre old
            simp only [Array.getD_eq_getD_getElem?] at e35
            have hb := HWB.out
            have hw8 : IntKind.i64.wrap Ws[j] = Ws[j] := IntWalk.i64_in _ (by omega)
            go_simp
            exact hK _ _ hS (Below.refl _ _) rfl
          exact Vals5.Steps.nil
        rintro X ⟨HX2, hs2⟩
        simp only [Vals5.All, List.getLast_cons_cons, List.getLast_singleton]
        simp only [Vals.putAll, List.setIfInBounds_toArray, List.set_cons_zero, List.set_cons_succ]
        intro K hK
        go_simp
        refine hK _ _ ?_
        clear hK K z0 z1 z2 z3
        have hsn9 := hsn.keep hs2.1
        have HS9 := Lib.hid (HS.out.keep hs2.1)
        have HX9 := Lib.hid HX2
        have HO9 := Lib.hid (own_keep HO.out hs2.1)
        have hzX9 := HX2.lt
        have hwj := hwo j hjl
        clear HX2
        obtain ⟨tl, htl⟩ : ∃ tl : Nat, (Ws[j]) % (s.tools.length : Int) = (tl : Int) := ⟨((Ws[j]) % (s.tools.length : Int)).toNat, by have := Int.emod_nonneg (Ws[j]) (show (s.tools.length : Int) ≠ 0 by omega); omega⟩
        have htl2 : tl < s.tools.length := by have := Int.emod_lt_of_pos (Ws[j]) (show (0 : Int) < (s.tools.length : Int) by omega); omega
        have HTE := Lib.hid htl
        have HTT : Hid ((Ws[j] : Int).tmod (s.tools.length : Int) = (tl : Int)) := by show _ = _; rw [Int.tmod_eq_emod_of_nonneg (by omega)]; exact htl
        clear htl
        go_wp2_with fail
        refine Vals9.region (Al w X s m (pV P X0 pc (some ma) Mn mc (some wa) Ws wc nw) #[.int .i64 (mi : Int), .int .i64 (tl : Int), .int .i64 0]) [some 37, some 38, some 39, some 40, some 41, some 42, some 43, some 44, some 45, some 46, some 47, some 48, some 49, some 10, none] [.is (.pointer (some ⟨w.heap.size + 1, 1, none⟩)), .is (.slice (some ma) Mn.length mc), .is (.int .i64 (k : Int)), .is (.pointer (some (ma.add k))), .is (.int .u8 Mn[k]), .is (.int .i64 Mn[k]), .is (.int .i64 (mi : Int)), .is (.int .i64 (Ws[j])), .is (.pointer (some ⟨w.heap.size, 8, none⟩)), .is (.slice m.T s.tools.length m.d), .is (.int .i64 (s.tools.length : Int)), .is (.int .i64 (tl : Int)), .is (.agg #[.int .i64 (mi : Int), .int .i64 (tl : Int), .int .i64 0]), .any, .any] (by kernel_rfl) (by kernel_rfl) (by kernel_rfl) (by kernel_rfl) (by kernel_rfl) (by kernel_rfl) (Al.start HS9.out HX9.out) ?_ ?_
        · refine Vals9.Steps.run (by kernel_rfl) ?_ ?_
          · intro a W σ hJ pre K hK
            have e5 : a.tmps.getD 5 undef = .pointer (some ⟨w.heap.size + 1, 0, none⟩) := pre.2.2 5 _ (by kernel_rfl) rfl
            clear pre
            simp only [Array.getD_eq_getD_getElem?] at e5
            go_simp
            exact hK _ hJ
          refine Vals9.Steps.run (by kernel_rfl) ?_ ?_
          · intro a W σ hJ pre K hK
            have e37 : a.tmps.getD 37 undef = .pointer (some ⟨w.heap.size + 1, 1, none⟩) := pre.1 0 37 _ (by kernel_rfl) rfl rfl
            clear pre
            simp only [Array.getD_eq_getD_getElem?] at e37
            have hS9 := hJ
            have z0 := hJ.hx.cell 0
            have z1 := hJ.hx.cell 1
            have z2 := hJ.hx.cell 2
            have z3 := hJ.hx.cell 3
            simp only [List.getElem?_toArray, List.getElem?_cons_zero, List.getElem?_cons_succ] at z0 z1 z2 z3
            obtain ⟨c0, c1, c2, c3, c4, c5, c6, c7, c8⟩ := hJ.hs.space
            have y0 := keep_cell (hsn9.keep hJ.sn.1).1 HQ0.out
            go_simp
            exact hK _ hJ
          refine Vals9.Steps.run (by kernel_rfl) ?_ ?_
          · intro a W σ hJ pre K hK
            have e8 : a.tmps.getD 8 undef = .int .i64 (k : Int) := pre.2.2 8 _ (by kernel_rfl) rfl
            clear pre
            simp only [Array.getD_eq_getD_getElem?] at e8
            go_simp
            exact hK _ hJ
          refine Vals9.Steps.run (by kernel_rfl) ?_ ?_
          · intro a W σ hJ pre K hK
            have e38 : a.tmps.getD 38 undef = .slice (some ma) Mn.length mc := pre.1 1 38 _ (by kernel_rfl) rfl rfl
            have e39 : a.tmps.getD 39 undef = .int .i64 (k : Int) := pre.1 2 39 _ (by kernel_rfl) rfl rfl
            clear pre
            simp only [Array.getD_eq_getD_getElem?] at e38 e39
            have hki := HKI.out
            go_simp
            exact hK _ hJ
          refine Vals9.Steps.run (by kernel_rfl) ?_ ?_
          · intro a W σ hJ pre K hK
            have e40 : a.tmps.getD 40 undef = .pointer (some (ma.add k)) := pre.1 3 40 _ (by kernel_rfl) rfl rfl
            clear pre
            simp only [Array.getD_eq_getD_getElem?] at e40
            have hS9 := hJ
            have z0 := hJ.hx.cell 0
            have z1 := hJ.hx.cell 1
            have z2 := hJ.hx.cell 2
            have z3 := hJ.hx.cell 3
            simp only [List.getElem?_toArray, List.getElem?_cons_zero, List.getElem?_cons_succ] at z0 z1 z2 z3
            obtain ⟨c0, c1, c2, c3, c4, c5, c6, c7, c8⟩ := hJ.hs.space
            have y0 := keep_cell (hsn9.keep hJ.sn.1).1 HQ0.out
            go_simp
            exact hK _ hJ
          refine Vals9.Steps.run (by kernel_rfl) ?_ ?_
          · intro a W σ hJ pre K hK
            have e41 : a.tmps.getD 41 undef = .int .u8 Mn[k] := pre.1 4 41 _ (by kernel_rfl) rfl rfl
            clear pre
            simp only [Array.getD_eq_getD_getElem?] at e41
            have hb := HMB.out
            have hw8 : IntKind.i64.wrap Mn[k] = Mn[k] := IntWalk.i64_in _ (by omega)
            go_simp
            exact hK _ hJ
          refine Vals9.Steps.run (by kernel_rfl) ?_ ?_
          · intro a W σ hJ pre K hK
            have e42 : a.tmps.getD 42 undef = .int .i64 Mn[k] := pre.1 5 42 _ (by kernel_rfl) rfl rfl
            clear pre
            simp only [Array.getD_eq_getD_getElem?] at e42
            have htm := HT61.out
            have hem := HE61.out
            go_simp
            exact hK _ hJ
          refine Vals9.Steps.run (by kernel_rfl) ?_ ?_
          · intro a W σ hJ pre K hK
            have e9 : a.tmps.getD 9 undef = .int .i64 (Ws[j]) := pre.2.2 9 _ (by kernel_rfl) rfl
            clear pre
            simp only [Array.getD_eq_getD_getElem?] at e9
            go_simp
            exact hK _ hJ
          refine Vals9.Steps.run (by kernel_rfl) ?_ ?_
          · intro a W σ hJ pre K hK
            have e3 : a.tmps.getD 3 undef = .pointer (some ⟨w.heap.size, 0, none⟩) := pre.2.2 3 _ (by kernel_rfl) rfl
            clear pre
            simp only [Array.getD_eq_getD_getElem?] at e3
            go_simp
            exact hK _ hJ
          refine Vals9.Steps.run (by kernel_rfl) ?_ ?_
          · intro a W σ hJ pre K hK
            have e45 : a.tmps.getD 45 undef = .pointer (some ⟨w.heap.size, 8, none⟩) := pre.1 8 45 _ (by kernel_rfl) rfl rfl
            clear pre
            simp only [Array.getD_eq_getD_getElem?] at e45
            have hS9 := hJ
            have z0 := hJ.hx.cell 0
            have z1 := hJ.hx.cell 1
            have z2 := hJ.hx.cell 2
            have z3 := hJ.hx.cell 3
            simp only [List.getElem?_toArray, List.getElem?_cons_zero, List.getElem?_cons_succ] at z0 z1 z2 z3
            obtain ⟨c0, c1, c2, c3, c4, c5, c6, c7, c8⟩ := hJ.hs.space
            have y0 := keep_cell (hsn9.keep hJ.sn.1).1 HQ0.out
            go_simp
            exact hK _ hJ
          refine Vals9.Steps.run (by kernel_rfl) ?_ ?_
          · intro a W σ hJ pre K hK
            have e46 : a.tmps.getD 46 undef = .slice m.T s.tools.length m.d := pre.1 9 46 _ (by kernel_rfl) rfl rfl
            clear pre
            simp only [Array.getD_eq_getD_getElem?] at e46
            go_simp
            exact hK _ hJ
          refine Vals9.Steps.run (by kernel_rfl) ?_ ?_
          · intro a W σ hJ pre K hK
            have e44 : a.tmps.getD 44 undef = .int .i64 (Ws[j]) := pre.1 7 44 _ (by kernel_rfl) rfl rfl
            have e47 : a.tmps.getD 47 undef = .int .i64 (s.tools.length : Int) := pre.1 10 47 _ (by kernel_rfl) rfl rfl
            clear pre
            simp only [Array.getD_eq_getD_getElem?] at e44 e47
            have hne := HTN.out
            have hz := HTZ.out
            have htm := HTT.out
            have hem := HTE.out
            go_simp
            first | (exact hK _ hJ) | (rw [if_neg hne]; exact hK _ hJ)
          refine Vals9.Steps.run (by kernel_rfl) ?_ ?_
          · intro a W σ hJ pre K hK
            have e43 : a.tmps.getD 43 undef = .int .i64 (mi : Int) := pre.1 6 43 _ (by kernel_rfl) rfl rfl
            have e48 : a.tmps.getD 48 undef = .int .i64 (tl : Int) := pre.1 11 48 _ (by kernel_rfl) rfl rfl
            clear pre
            simp only [Array.getD_eq_getD_getElem?] at e43 e48
            go_simp
            exact hK _ hJ
          refine Vals9.Steps.mark (by kernel_rfl) ?_ ?_
          · intro a W σ hJ hn pre K hK
            go_simp
            exact hK _ _ (hJ.new (by cases h5 : σ 14 with | none => rfl | some y => exact absurd hn (by obtain ⟨v, hv⟩ := hJ.s y h5; simp [hv])))
          refine Vals9.Steps.mark (by kernel_rfl) ?_ ?_
          · intro a W σ hJ hn pre K hK
            obtain ⟨v10, s10, e10⟩ := pre.2.1 13 (by kernel_rfl) rfl
            replace e10 : a.tmps.getD 10 undef = v10 := e10 10 rfl
            have e49 : a.tmps.getD 49 undef = .agg #[.int .i64 (mi : Int), .int .i64 (tl : Int), .int .i64 0] := pre.1 12 49 _ (by kernel_rfl) rfl rfl
            simp only [Array.getD_eq_getD_getElem?] at e10 e49
            obtain ⟨g, cs, h1, h2, h3, h4, _⟩ := hJ.a _ s10
            subst h1
            refine wp_store_row 61 _ _ rfl g #[.int .i64 (mi : Int), .int .i64 (tl : Int), .int .i64 0] (by go_simp) (by go_simp) 61 cs h4 (by kernel_rfl) h3 (by simp [Value.oneCell']) ?_
            exact hK _ _ (hJ.store s10)
          exact Vals9.Steps.nil
        · intro Y σ hJ
          simp only [Vals9.All]
          intro v10 h10 v14 h14
          simp only [Vals.putAll, List.setIfInBounds_toArray, List.set_cons_zero, List.set_cons_succ]
          obtain ⟨g, cs, rfl, hgB, _, hg, hcs⟩ := hJ.a _ h10
          obtain rfl := hcs _ h14
          have hsY := hsn9.keep hJ.sn.1
          have HSY := Lib.hid hJ.hs
          have HXY := Lib.hid hJ.hx
          have HGY := Lib.hid hg
          have HOY := Lib.hid (own_keep HO9.out hJ.sn.1)
          clear hJ h10 h14 hg
          have hgW : w.heap.size + 1 < g := by have := hzX9; omega
          obtain ⟨ae, hT, _, ee1⟩ := hsa.tl.get htl2
          obtain ⟨er, her⟩ : ∃ er, s.tools[tl].err = er := ⟨_, rfl⟩
          have heb := hs.er _ (List.getElem_mem htl2)
          rw [her] at ee1 heb
          have HTA := Lib.hid hT
          have HER := Lib.hid her
          have EE1 := Lib.hid (keep_cell hsY.1 ee1)
          have ey1 := EE1.out
          have hTm := hT_ mi
          obtain ⟨lvx, hlvx⟩ : ∃ lvx, T mi = lvx := ⟨_, rfl⟩
          have HLV := Lib.hid hlvx
          have HLC := Lib.hid (keep_cell hsY.1 (HCL.out mi hmi2))
          rw [hlvx] at hTm HLC
          clear hT ee1 her hlvx
          obtain ⟨_, _, _, _, _, _, _, _, c8⟩ := HSY.out.space
          rw [HTA.out] at c8
          have g1 := HGY.out.cell 1
          simp only [List.getElem?_toArray, List.getElem?_cons_zero, List.getElem?_cons_succ] at g1
          have htli : (tl : Int) < (s.tools.length : Int) := by omega
          go_wp2_with fail
          clear c8 g1 ey1
          refine Vals6.regionAll (fun Z => Blk Z g 61 #[.int .i64 (mi : Int), .int .i64 (tl : Int), .int .i64 0] ∧ Since Y Z) [some 57, some 58, some 59, some 60, some 61, some 62, some 63, some 64, some 65, some 66, some 67, some 68, some 69, some 70, some 71, some 72, some 73, some 74] [.is (.slice (some la) 61 lc), .is (.pointer (some ⟨g, 0, none⟩)), .is (.int .i64 (mi : Int)), .is (.pointer (some (la.add mi))), .is (.int .i64 lvx), .is (.int .i64 er), .is (.int .i64 (lvx - er)), .is (.slice (some la) 61 lc), .is (.pointer (some ⟨g, 0, none⟩)), .is (.int .i64 (mi : Int)), .is (.pointer (some (la.add mi))), .is (.int .i64 lvx), .is (.int .i64 er), .is (.int .i64 (lvx + er)), .is (.agg #[.int .i64 (lvx - er), .int .i64 (lvx + er)]), .is (.int .i64 (Ws[j])), .is (.int .i64 (amongV (lvx - er) (lvx + er) (Ws[j]))), .is (.pointer (some ⟨g, 2, none⟩))] (by kernel_rfl) rfl rfl (by kernel_rfl) (by kernel_rfl) (by kernel_rfl) (by kernel_rfl) (by kernel_rfl) (by kernel_rfl) (by kernel_rfl) (⟨HGY.out.drew, (Since.refl Y).drew⟩) ?_ ?_
          · refine Vals5.Steps.run (by kernel_rfl) (Vals5.Stable.is _) ?_ ?_
            · intro a W hS pre old K hK
              have e1 : a.tmps.getD 1 undef = .slice (some la) 61 lc := old 1 _ (by kernel_rfl) rfl
              clear pre old
              simp only [Array.getD_eq_getD_getElem?] at e1
              go_simp
              exact hK _ _ hS (Below.refl _ _) rfl
            refine Vals5.Steps.run (by kernel_rfl) (Vals5.Stable.is _) ?_ ?_
            · intro a W hS pre old K hK
              have e10 : a.tmps.getD 10 undef = .pointer (some ⟨g, 0, none⟩) := old 10 _ (by kernel_rfl) rfl
              clear pre old
              simp only [Array.getD_eq_getD_getElem?] at e10
              go_simp
              exact hK _ _ hS (Below.refl _ _) rfl
            refine Vals5.Steps.run (by kernel_rfl) (Vals5.Stable.is _) ?_ ?_
            · intro a W hS pre old K hK
              have e58 : a.tmps.getD 58 undef = .pointer (some ⟨g, 0, none⟩) := pre 1 58 _ (by kernel_rfl) rfl rfl
              clear pre old
              simp only [Array.getD_eq_getD_getElem?] at e58
              have hS9 := hS
              obtain ⟨l1, l2⟩ := hS9
              have g0 := l1.cell 0
              simp only [List.getElem?_toArray, List.getElem?_cons_zero, List.getElem?_cons_succ] at g0
              have y0 := keep_cell l2.1 HLC.out
              go_simp
              exact hK _ _ hS (Below.refl _ _) rfl
            refine Vals5.Steps.run (by kernel_rfl) (Vals5.Stable.is _) ?_ ?_
            · intro a W hS pre old K hK
              have e57 : a.tmps.getD 57 undef = .slice (some la) 61 lc := pre 0 57 _ (by kernel_rfl) rfl rfl
              have e59 : a.tmps.getD 59 undef = .int .i64 (mi : Int) := pre 2 59 _ (by kernel_rfl) rfl rfl
              clear pre old
              simp only [Array.getD_eq_getD_getElem?] at e57 e59
              have hm61 : (mi : Int) < 61 := by omega
              go_simp
              exact hK _ _ hS (Below.refl _ _) rfl
            refine Vals5.Steps.run (by kernel_rfl) (Vals5.Stable.is _) ?_ ?_
            · intro a W hS pre old K hK
              have e60 : a.tmps.getD 60 undef = .pointer (some (la.add mi)) := pre 3 60 _ (by kernel_rfl) rfl rfl
              clear pre old
              simp only [Array.getD_eq_getD_getElem?] at e60
              have hS9 := hS
              obtain ⟨l1, l2⟩ := hS9
              have g0 := l1.cell 0
              simp only [List.getElem?_toArray, List.getElem?_cons_zero, List.getElem?_cons_succ] at g0
              have y0 := keep_cell l2.1 HLC.out
              go_simp
              exact hK _ _ hS (Below.refl _ _) rfl
            refine Vals5.Steps.run (by kernel_rfl) (Vals5.Stable.is _) ?_ ?_
            · intro a W hS pre old K hK
              have e11 : a.tmps.getD 11 undef = .int .i64 er := old 11 _ (by kernel_rfl) rfl
              clear pre old
              simp only [Array.getD_eq_getD_getElem?] at e11
              go_simp
              exact hK _ _ hS (Below.refl _ _) rfl
            refine Vals5.Steps.run (by kernel_rfl) (Vals5.Stable.is _) ?_ ?_
            · intro a W hS pre old K hK
              have e61 : a.tmps.getD 61 undef = .int .i64 lvx := pre 4 61 _ (by kernel_rfl) rfl rfl
              have e62 : a.tmps.getD 62 undef = .int .i64 er := pre 5 62 _ (by kernel_rfl) rfl rfl
              clear pre old
              simp only [Array.getD_eq_getD_getElem?] at e61 e62
              have hw9 : IntKind.i64.wrap (lvx - er) = lvx - er := IntWalk.i64_in _ (by omega)
              go_simp
              exact hK _ _ hS (Below.refl _ _) rfl
            refine Vals5.Steps.run (by kernel_rfl) (Vals5.Stable.is _) ?_ ?_
            · intro a W hS pre old K hK
              have e1 : a.tmps.getD 1 undef = .slice (some la) 61 lc := old 1 _ (by kernel_rfl) rfl
              clear pre old
              simp only [Array.getD_eq_getD_getElem?] at e1
              go_simp
              exact hK _ _ hS (Below.refl _ _) rfl
            refine Vals5.Steps.run (by kernel_rfl) (Vals5.Stable.is _) ?_ ?_
            · intro a W hS pre old K hK
              have e10 : a.tmps.getD 10 undef = .pointer (some ⟨g, 0, none⟩) := old 10 _ (by kernel_rfl) rfl
              clear pre old
              simp only [Array.getD_eq_getD_getElem?] at e10
              go_simp
              exact hK _ _ hS (Below.refl _ _) rfl
            refine Vals5.Steps.run (by kernel_rfl) (Vals5.Stable.is _) ?_ ?_
            · intro a W hS pre old K hK
              have e65 : a.tmps.getD 65 undef = .pointer (some ⟨g, 0, none⟩) := pre 8 65 _ (by kernel_rfl) rfl rfl
              clear pre old
              simp only [Array.getD_eq_getD_getElem?] at e65
              have hS9 := hS
              obtain ⟨l1, l2⟩ := hS9
              have g0 := l1.cell 0
              simp only [List.getElem?_toArray, List.getElem?_cons_zero, List.getElem?_cons_succ] at g0
              have y0 := keep_cell l2.1 HLC.out
              go_simp
              exact hK _ _ hS (Below.refl _ _) rfl
            refine Vals5.Steps.run (by kernel_rfl) (Vals5.Stable.is _) ?_ ?_
            · intro a W hS pre old K hK
              have e64 : a.tmps.getD 64 undef = .slice (some la) 61 lc := pre 7 64 _ (by kernel_rfl) rfl rfl
              have e66 : a.tmps.getD 66 undef = .int .i64 (mi : Int) := pre 9 66 _ (by kernel_rfl) rfl rfl
              clear pre old
              simp only [Array.getD_eq_getD_getElem?] at e64 e66
              have hm61 : (mi : Int) < 61 := by omega
              go_simp
              exact hK _ _ hS (Below.refl _ _) rfl
            refine Vals5.Steps.run (by kernel_rfl) (Vals5.Stable.is _) ?_ ?_
            · intro a W hS pre old K hK
              have e67 : a.tmps.getD 67 undef = .pointer (some (la.add mi)) := pre 10 67 _ (by kernel_rfl) rfl rfl
              clear pre old
              simp only [Array.getD_eq_getD_getElem?] at e67
              have hS9 := hS
              obtain ⟨l1, l2⟩ := hS9
              have g0 := l1.cell 0
              simp only [List.getElem?_toArray, List.getElem?_cons_zero, List.getElem?_cons_succ] at g0
              have y0 := keep_cell l2.1 HLC.out
              go_simp
              exact hK _ _ hS (Below.refl _ _) rfl
            refine Vals5.Steps.run (by kernel_rfl) (Vals5.Stable.is _) ?_ ?_
            · intro a W hS pre old K hK
              have e11 : a.tmps.getD 11 undef = .int .i64 er := old 11 _ (by kernel_rfl) rfl
              clear pre old
              simp only [Array.getD_eq_getD_getElem?] at e11
              go_simp
              exact hK _ _ hS (Below.refl _ _) rfl
            refine Vals5.Steps.run (by kernel_rfl) (Vals5.Stable.is _) ?_ ?_
            · intro a W hS pre old K hK
              have e68 : a.tmps.getD 68 undef = .int .i64 lvx := pre 11 68 _ (by kernel_rfl) rfl rfl
              have e69 : a.tmps.getD 69 undef = .int .i64 er := pre 12 69 _ (by kernel_rfl) rfl rfl
              clear pre old
              simp only [Array.getD_eq_getD_getElem?] at e68 e69
              have hw9 : IntKind.i64.wrap (lvx + er) = lvx + er := IntWalk.i64_in _ (by omega)
              go_simp
              exact hK _ _ hS (Below.refl _ _) rfl
            refine Vals5.Steps.run (by kernel_rfl) (Vals5.Stable.is _) ?_ ?_
            · intro a W hS pre old K hK
              have e63 : a.tmps.getD 63 undef = .int .i64 (lvx - er) := pre 6 63 _ (by kernel_rfl) rfl rfl
              have e70 : a.tmps.getD 70 undef = .int .i64 (lvx + er) := pre 13 70 _ (by kernel_rfl) rfl rfl
              clear pre old
              simp only [Array.getD_eq_getD_getElem?] at e63 e70
              go_simp
              refine (span_c (lvx - er) (lvx + er) _).mono ?_
              rintro e w' ⟨rfl, hb'⟩
              obtain ⟨h1, h2⟩ := hS
              exact hK _ _ ⟨h1.keep hb', h2.keep hb'⟩ hb' rfl
            refine Vals5.Steps.run (by kernel_rfl) (Vals5.Stable.is _) ?_ ?_
            · intro a W hS pre old K hK
              have e9 : a.tmps.getD 9 undef = .int .i64 (Ws[j]) := old 9 _ (by kernel_rfl) rfl
              clear pre old
              simp only [Array.getD_eq_getD_getElem?] at e9
              go_simp
              exact hK _ _ hS (Below.refl _ _) rfl
            refine Vals5.Steps.run (by kernel_rfl) (Vals5.Stable.is _) ?_ ?_
            · intro a W hS pre old K hK
              have e71 : a.tmps.getD 71 undef = .agg #[.int .i64 (lvx - er), .int .i64 (lvx + er)] := pre 14 71 _ (by kernel_rfl) rfl rfl
              have e72 : a.tmps.getD 72 undef = .int .i64 (Ws[j]) := pre 15 72 _ (by kernel_rfl) rfl rfl
              clear pre old
              simp only [Array.getD_eq_getD_getElem?] at e71 e72
              go_simp
              refine (among_c (lvx - er) (lvx + er) (Ws[j]) _ (by omega) (by omega) (by omega) (by omega) (by omega)).mono ?_
              rintro e w' ⟨rfl, hb'⟩
              obtain ⟨h1, h2⟩ := hS
              exact hK _ _ ⟨h1.keep hb', h2.keep hb'⟩ hb' rfl
            refine Vals5.Steps.run (by kernel_rfl) (Vals5.Stable.is _) ?_ ?_
            · intro a W hS pre old K hK
              have e10 : a.tmps.getD 10 undef = .pointer (some ⟨g, 0, none⟩) := old 10 _ (by kernel_rfl) rfl
              clear pre old
              simp only [Array.getD_eq_getD_getElem?] at e10
              go_simp
              exact hK _ _ hS (Below.refl _ _) rfl
            exact Vals5.Steps.nil
          rintro Z ⟨HGZ, hsZ⟩
          simp only [Vals5.All, List.getLast_cons_cons, List.getLast_singleton]
          simp only [Vals.putAll, List.setIfInBounds_toArray, List.set_cons_zero, List.set_cons_succ]
          obtain ⟨sh, hsh⟩ : ∃ sh, amongV (lvx - er) (lvx + er) (Ws[j]) = sh := ⟨_, rfl⟩
          rw [hsh]
          have HSH := Lib.hid hsh
          clear hsh
          have g2 := HGZ.cell 2
          have f2 := HGZ.frozen 2
          simp only [List.getElem?_toArray, List.getElem?_cons_zero, List.getElem?_cons_succ] at g2
          have HG9 := HGZ.set 2 (.int .i64 sh)
          simp only [List.setIfInBounds_toArray, List.set_cons_zero, List.set_cons_succ] at HG9
          have HG10 := Lib.hid HG9
          have hsW : Since w (Z.setCell ⟨g, 2, none⟩ (.int .i64 sh)) := ⟨(hsY.keep hsZ.1).1.setCell (p := ⟨g, 2, none⟩) (by simp; omega) _, by simpa using (hsY.keep hsZ.1).2⟩
          have HS10 := Lib.hid ((HSY.out.keep hsZ.1).far (g' := g) (by omega) 2 (.int .i64 sh))
          have HX10 := Lib.hid ((HXY.out.keep hsZ.1).far (g' := g) (by omega) 2 (.int .i64 sh))
          have hol := HO9.out.lt
          have HO10 := Lib.hid (own_far (own_keep HOY.out hsZ.1) g 2 (.int .i64 sh) (fun q e => by have := (hol q e).2; omega))
          clear HG9 hol HSY HXY HOY HGY hsY
          intro K hK
          go_simp
          refine hK _ _ ?_
          clear hK K g2 f2 HGZ
          obtain ⟨W9, hW9⟩ : ∃ W9, Z.setCell ⟨g, 2, none⟩ (.int .i64 sh) = W9 := ⟨_, rfl⟩
          rw [hW9] at hsW HS10 HX10 HO10 HG10 ⊢
          clear hW9
          have HLK : Hid (lrd s T Mn Ws k = ⟨(mi : Int), (tl : Int), sh⟩) := by show _ = _; simp only [lrd, List.getElem?_eq_getElem hkM, Option.getD_some, HE61.out, HWV.out, HTE.out, Int.toNat_natCast, List.getElem?_eq_getElem htl2, Option.map_some, HER.out, HLV.out, HSH.out]
          have g0 := HG10.out.cell 0
          have g1 := HG10.out.cell 1
          have g2 := HG10.out.cell 2
          simp only [List.getElem?_toArray, List.getElem?_cons_zero, List.getElem?_cons_succ] at g0 g1 g2
          have hq : Below W9.heap.size W9 (W9.alloc (.cells (rV ⟨(mi : Int), (tl : Int), sh⟩) 61)) := (Below.refl _ _).alloc (Nat.le_refl _) _
          have HO11 := Lib.hid (own_keep HO10.out hq)
          have HN11 := Lib.hid (Blk.new W9 61 (rV ⟨(mi : Int), (tl : Int), sh⟩))
          have hzB : w.heap.size + 2 ≤ (W9.alloc (.cells (rV ⟨(mi : Int), (tl : Int), sh⟩) 61)).heap.size := by have := HX10.out.lt; simp; omega
          have hll : ((List.range k).map (lrd s T Mn Ws)).length ≤ 1000 := by simp; omega
          go_wp2_with (at_builtin; refine wpList_append_read rfl (.tmp 75) (.tmp 77) rfl (w.heap.size + 2) W9.heap.size _ ((List.range k).map (lrd s T Mn Ws)) ⟨(mi : Int), (tl : Int), sh⟩ (by go_simp) (by go_simp) HO11.out HN11.out hll hzB ?_)
          intro v3 w3 ho3 hg3 _
          have hlt3 := HO11.out.lt
          have HS12 := Lib.hid ((HS10.out.keep hq).grown hg3 (fun h => by have := (hlt3 _ h.symm).1; omega))
          have HX12 := Lib.hid ((HX10.out.keep hq).grown hg3 (fun h => by have := (hlt3 _ h.symm).1; omega))
          have hs12 : Since w w3 := ⟨(hsW.keep hq).1.grown hg3 (hsW.keep hq).2 (fun q h => by have := (hlt3 q h).1; omega), Nat.le_trans (hsW.keep hq).2 hg3.size⟩
          have HO12 : Hid (w3.ownsRow (w.heap.size + 2) 61 3 v3 ((List.range (k + 1)).map (lrd s T Mn Ws)).length (rowsC ((List.range (k + 1)).map (lrd s T Mn Ws)))) := by
            show World.ownsRow _ _ _ _ _ _ _
            rw [show ((List.range (k + 1)).map (lrd s T Mn Ws)).length = k + 1 by simp, List.range_succ, List.map_append, List.map_singleton, HLK.out]
            exact ho3
          clear ho3 hg3 hlt3 hq HO11 HN11 g0 g1 g2 HO10 HS10 HX10
          go_wp2_with fail
          go_roundw
          case rel =>
            exact ⟨k + 1, by omega, by go_num, hs12, HS12, HX12, HO12⟩
          case measure => simp [intOf]; omega
    · have hke : k = min Mn.length 12 := by omega
      have z1 := HX.out.cell 1
      simp only [List.getElem?_toArray, List.getElem?_cons_zero, List.getElem?_cons_succ] at z1
      obtain ⟨A, c, hv, hrd, hc1, hc2⟩ := own_rd2 HO.out
      have hlen : ((List.range k).map (lrd s T Mn Ws)).length = k := by simp
      rw [hlen] at hv hc1
      have HE : Hid (min Mn.length 12 = k) := hke.symm
      have HRD := Lib.hid hrd
      subst hv
      clear hke hrd hlen
      by_cases hkM : k < Mn.length
      · have h12 : k = 12 := by have := HE.out; omega
        subst h12
        have hki : (12 : Int) < (Mn.length : Int) := by omega
        go_wp2_with fail
        go_ret
        refine ⟨⟨A, c, by rw [HE.out]; rfl, by rw [HE.out]; exact hc1, hc2, by rw [HE.out]; exact HRD.out⟩, hsn.1⟩
      · have hki : ¬ (k : Int) < (Mn.length : Int) := by omega
        go_wp2_with fail
        go_ret
        refine ⟨⟨A, c, by rw [HE.out]; rfl, by rw [HE.out]; exact hc1, hc2, by rw [HE.out]; exact HRD.out⟩, hsn.1⟩
end Td
end Go.Proofs.Ytmofbnadfgejiaa
/- The law's readings are true of its truth. -/
namespace Go.Proofs.Ytmofbnadfgejiaa
open Go.RowKit
namespace Td
set_option linter.unusedVariables false
theorem lrd_facts {s : Spc} (hs : SOk s) {T : Nat → Int} (hT : ∀ k, 0 ≤ T k ∧ T k ≤ 200) {Mn Ws : List Int} (hmo : U8Ok Mn) (hwo : U8Ok Ws) (i : Nat) : ROk s (lrd s T Mn Ws i) ∧ near s (lrd s T Mn Ws i) (T (lrd s T Mn Ws i).min.toNat) := by
  have ht1 := hs.t1
  have hm : 0 ≤ Mn[i]?.getD 0 := by
    cases h : Mn[i]? with
    | none => simp
    | some x =>
      obtain ⟨hi, rfl⟩ := List.getElem?_eq_some_iff.1 h
      simpa using (hmo i hi).1
  have hw := wrV_bd hwo i
  have h1 := Int.emod_nonneg (Mn[i]?.getD 0) (show (61 : Int) ≠ 0 by decide)
  have h2 := Int.emod_lt_of_pos (Mn[i]?.getD 0) (show (0 : Int) < 61 by decide)
  have h3 := Int.emod_nonneg (wrV Ws i) (show (s.tools.length : Int) ≠ 0 by omega)
  have h4 := Int.emod_lt_of_pos (wrV Ws i) (show (0 : Int) < (s.tools.length : Int) by omega)
  have he := errOf_ok hs (lrd s T Mn Ws i)
  have heq : errOf s (lrd s T Mn Ws i) = (s.tools[(wrV Ws i % (s.tools.length : Int)).toNat]?.map Tl.err).getD 0 := rfl
  obtain ⟨er, her⟩ : ∃ er, (s.tools[(wrV Ws i % (s.tools.length : Int)).toNat]?.map Tl.err).getD 0 = er := ⟨_, rfl⟩
  rw [her] at heq
  rw [heq] at he
  have hTm := hT (Mn[i]?.getD 0 % 61).toNat
  have hsh : (lrd s T Mn Ws i).shown = amongV (T (Mn[i]?.getD 0 % 61).toNat - er) (T (Mn[i]?.getD 0 % 61).toNat + er) (wrV Ws i) := by rw [← her]; rfl
  have ha := amongV_in (lo := T (Mn[i]?.getD 0 % 61).toNat - er) (hi := T (Mn[i]?.getD 0 % 61).toNat + er) (n := wrV Ws i) (by omega)
  rw [← hsh] at ha
  refine ⟨⟨h3, h4, h1, by show Mn[i]?.getD 0 % 61 ≤ 60; omega, by omega, by omega⟩, ?_⟩
  unfold near
  rw [heq]
  show _ ≤ T (Mn[i]?.getD 0 % 61).toNat ∧ T (Mn[i]?.getD 0 % 61).toNat ≤ _
  omega
end Td
end Go.Proofs.Ytmofbnadfgejiaa
