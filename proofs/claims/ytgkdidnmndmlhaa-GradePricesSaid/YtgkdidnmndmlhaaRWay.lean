import Derived.Test.YtgkdidnmndmlhaaApq
import Derived.Test.YtgkdidnmndmlhaaMath
import Derived.Test.YtgkdidnmndmlhaaRefs0
import Derived.Test.YtgkdidnmndmlhaaAwa
import Derived.Test.YtgkdidnmndmlhaaVals10
/- The reference: ways to choose, what samples show. -/
namespace Go.Proofs.Ytgkdidnmndmlhaa
open Go.RowKit
namespace Td
set_option linter.unusedSimpArgs false
set_option linter.unusedVariables false
attribute [local go_sem] Oper.semAt_some
/-- the first ways to choose of n things. -/
def rwI (n j : Nat) : List Int := (List.range j).map fun k => (bn n k : Int)
theorem rwI_len (n j : Nat) : (rwI n j).length = j := by simp [rwI]
theorem rwI_succ (n j : Nat) : rwI n (j + 1) = rwI n j ++ [(bn n j : Int)] := by simp [rwI, List.range_succ]
theorem rwI_get {n j k : Nat} (h : k < j) : (rwI n j)[k]? = some (bn n k : Int) := by simp [rwI, h]
/-- a whole row, in memory. -/
def RwAt (w : World) (a : Addr) (m : Nat) : Prop := ∀ k, k ≤ m → w.cell? (a.add k) = some (.int .i64 (bn m k : Nat))
theorem RwAt.keep {w w' : World} {a : Addr} {m : Nat} (h : RwAt w a m) (hb : Below w.heap.size w w') : RwAt w' a m := fun k hk => keep_cell hb (h k hk)
theorem RwAt.of {w : World} {A : Option Addr} {m : Nat} (h : InAt w A (rwI m (m + 1))) : ∃ a, A = some a ∧ RwAt w a m := by
  obtain ⟨a, e, hc⟩ := h (fun e => by have := congrArg List.length e; rw [rwI_len] at this; simp at this)
  exact ⟨a, e, fun k hk => hc k _ (rwI_get (by omega))⟩
/-- the ways to choose, for any numbers. -/
def wyI (n k : Int) : Nat := if 0 ≤ k ∧ k ≤ n then bn n.toNat k.toNat else 0
theorem wyI_le {n k : Int} (h : n ≤ 20) : wyI n k ≤ 184756 := by
  unfold wyI
  split
  · exact bn_le (by omega)
  · omega
set_option maxRecDepth 100000 in
set_option maxHeartbeats 4000000 in
theorem rways_c (n k : Int) (w : World) (hn : n ≤ 20) :
    Calls Try.prog 52 #[.int .i64 n, .int .i64 k] w fun e w' => e = .returned (.int .i64 (wyI n k : Nat)) ∧ Below w.heap.size w w' := by
  by_cases h0 : k < 0
  · have HV : Hid (wyI n k = 0) := by show _ = _; unfold wyI; rw [if_neg (by omega)]
    go_enter Try.func52, Try.ntmps52
    go_wp2_with fail
    go_ret
    exact ⟨by rw [HV.out]; rfl, Below.refl _ _⟩
  by_cases h1 : n < k
  · have HV : Hid (wyI n k = 0) := by show _ = _; unfold wyI; rw [if_neg (by omega)]
    go_enter Try.func52, Try.ntmps52
    go_wp2_with fail
    go_ret
    exact ⟨by rw [HV.out]; rfl, Below.refl _ _⟩
  obtain ⟨k, rfl⟩ : ∃ q : Nat, k = q := ⟨k.toNat, by omega⟩
  obtain ⟨n, rfl⟩ : ∃ q : Nat, n = q := ⟨n.toNat, by omega⟩
  have HV : Hid (wyI n k = bn n k) := by show _ = _; unfold wyI; rw [if_pos (by omega), Int.toNat_natCast, Int.toNat_natCast]
  have hs1 := Lib.hid ((Since.refl w).alloc (.cells #[.int .i64 1] 3))
  have HR1 : Hid (RwAt (w.alloc (.cells #[.int .i64 1] 3)) ⟨w.heap.size, 0, none⟩ 0) := fun j hj => by
    obtain rfl : j = 0 := by omega
    rw [add_new]
    exact (Blk.new w 3 #[.int .i64 1]).cell 0
  have hn2 : n ≤ 20 := by omega
  have hkn : k ≤ n := by omega
  go_enter Try.func52, Try.ntmps52
  go_wp2_with fail
  go_loopw [5, 6, 7, 8] (fun u i _ _ wr => ∃ m m1 : Nat, ∃ a5 : Addr, ∃ c5 : Nat, m ≤ n ∧ m + 1 = m1 ∧ m1 ≤ c5 ∧ c5 ≤ 9223372036854775807 ∧ u = .slice (some a5) m1 c5 ∧ i = .int .i64 m1 ∧ Hid (RwAt wr a5 m) ∧ Hid (Since w wr)) (fun _ i _ _ _ => n + 1 - (intOf i).toNat)
  case atStart => exact ⟨0, 1, ⟨w.heap.size, 0, none⟩, 1, by omega, rfl, by omega, by omega, rfl, rfl, HR1, hs1⟩
  case round =>
    clear hs1 HR1
    obtain ⟨m, m1, a5, c5, hm, hm1, hc5, hc6, rfl, rfl, HR, HS⟩ := hrel
    by_cases hlt : m < n
    · have q1 : (m1 : Int) ≤ (n : Int) := by omega
      have q2 : IntKind.i64.wrap ((m1 : Int) + 1) = ((m1 + 1 : Nat) : Int) := by rw [wrapI (by unfold I64; omega)]; omega
      have HW := Lib.hid HS.out
      have HS1 := Lib.hid ((Since.refl wr).alloc (.cells #[.int .i64 1] 3))
      have HO1 : Hid ((wr.alloc (.cells #[.int .i64 1] 3)).ownsRow wr.heap.size 3 1 (.slice (some ⟨wr.heap.size, 0, none⟩) 1 1) (rwI m1 1).length ((rwI m1 1).map fun x => .int .i64 x)) := by
        have e : ((rwI m1 1).map fun x => Value.int .i64 x) = (#[Value.int .i64 1] : Array Value).toList := by
          show [Value.int .i64 ((bn m1 0 : Nat) : Int)] = _
          rw [bn_zero]; rfl
        show World.ownsRow _ _ _ _ _ _ _
        rw [e, rwI_len]
        exact World.ownsRow_lit wr _ 1 (Nat.le_refl _) (by simp only [maxLen]; omega) rfl
      obtain ⟨w0, hw0⟩ : ∃ w0, w0 = wr := ⟨_, rfl⟩
      subst hw0
      clear HS
      go_wp2_with fail
      go_loopw [7, 8] (fun u i wr2 => ∃ j : Nat, 1 ≤ j ∧ j ≤ m1 ∧ i = .int .i64 j ∧ Hid (wr2.ownsRow w0.heap.size 3 1 u (rwI m1 j).length ((rwI m1 j).map fun x => .int .i64 x)) ∧ Hid (Since w0 wr2)) (fun _ i _ => m1 - (intOf i).toNat)
      case atStart => exact ⟨1, by omega, by omega, rfl, HO1, HS1⟩
      case round =>
        clear HS1 HO1
        obtain ⟨j, hj1, hj, rfl, HO, HS⟩ := hrel
        by_cases hjm : j < m1
        · have p1 : (j : Int) < (m1 : Int) := by omega
          obtain ⟨j1, hj2⟩ : ∃ j1, j = j1 + 1 := ⟨j - 1, by omega⟩
          have p2 : IntKind.i64.wrap ((j : Int) - 1) = (j1 : Int) := by rw [wrapI (by unfold I64; omega)]; omega
          have p3 : IntKind.i64.wrap ((j : Int) + 1) = ((j + 1 : Nat) : Int) := by rw [wrapI (by unfold I64; omega)]; omega
          have p4 : j1 < m1 := by omega
          have p5 : (j1 : Int) < (m1 : Int) := by omega
          have p6 : j < m1 := hjm
          obtain ⟨y1, hy1⟩ : ∃ y, bn m j1 = y := ⟨_, rfl⟩
          obtain ⟨y2, hy2⟩ : ∃ y, bn m j = y := ⟨_, rfl⟩
          obtain ⟨x, hx⟩ : ∃ x, bn m1 j = x := ⟨_, rfl⟩
          have hxs : y1 + y2 = x := by rw [← hx, ← hy1, ← hy2, ← hm1, hj2, bn_succ]
          have hxl : x ≤ 184756 := by rw [← hx]; exact bn_le (by omega)
          have p7 : IntKind.i64.wrap ((y1 : Int) + (y2 : Int)) = (x : Int) := by rw [wrapI (by unfold I64; omega)]; omega
          have HR' := Lib.hid HR.out
          have HY1 : Hid (bn m j1 = y1) := hy1
          have HY2 : Hid (bn m j = y2) := hy2
          have HF : Hid (rwI m1 (j + 1) = rwI m1 j ++ [(x : Int)]) := by show _ = _; rw [rwI_succ, hx]
          obtain ⟨A7, c7, rfl, -, -, -⟩ := own_int HO.out
          clear hx hxs hxl hy1 hy2 hj2
          go_wp2_with fail
          refine Vals10.region (fun σ X => Aq 3 1 (rwI m1 j).length ((rwI m1 j).map fun x => .int .i64 x) ((rwI m1 j ++ [(x : Int)]).map fun x => .int .i64 x) #[.int .i64 (x : Nat)] w0 w0.heap.size (.slice A7 (rwI m1 j).length c7) (fun _ _ => True) (σ 11) (σ 12) X ∧ (∀ z, σ 13 = some z → σ 12 = some z)) [some 28, some 29, some 30, some 31, some 32, some 33, some 34, some 35, some 36, some 37, some 38, some 39, some 40, some 7] [.is (.slice A7 (rwI m1 j).length c7), .is (.slice (some a5) m1 c5), .is (.int .i64 (j : Nat)), .is (.int .i64 (j1 : Nat)), .is ?_, .is (.int .i64 (y1 : Nat)), .is (.slice (some a5) m1 c5), .is (.int .i64 (j : Nat)), .is ?_, .is (.int .i64 (y2 : Nat)), .is (.int .i64 (x : Nat)), .any, .any, .any] (by kernel_rfl) (by kernel_rfl) (by kernel_rfl) (by kernel_rfl) (by kernel_rfl) (by kernel_rfl) (⟨Aq.start HS.out.drew trivial HS.out.2 HO.out, fun z hz => by cases hz⟩) ?hsteps ?hfin
          case hsteps =>
            refine Vals10.Steps.run rfl ?_ ?_
            · intro a W σ hJ pre K hK
              have e7 := pre.2.2 7 _ (by kernel_rfl) rfl
              clear pre
              simp only [Array.getD_eq_getD_getElem?, List.getElem?_toArray, List.getElem?_cons_zero, List.getElem?_cons_succ, Option.getD_some] at e7
              go_simp
              exact hK _ hJ
            refine Vals10.Steps.run rfl ?_ ?_
            · intro a W σ hJ pre K hK
              have e5 := pre.2.2 5 _ (by kernel_rfl) rfl
              clear pre
              simp only [Array.getD_eq_getD_getElem?, List.getElem?_toArray, List.getElem?_cons_zero, List.getElem?_cons_succ, Option.getD_some] at e5
              go_simp
              exact hK _ hJ
            refine Vals10.Steps.run rfl ?_ ?_
            · intro a W σ hJ pre K hK
              have e8 := pre.2.2 8 _ (by kernel_rfl) rfl
              clear pre
              simp only [Array.getD_eq_getD_getElem?, List.getElem?_toArray, List.getElem?_cons_zero, List.getElem?_cons_succ, Option.getD_some] at e8
              go_simp
              exact hK _ hJ
            refine Vals10.Steps.run rfl ?_ ?_
            · intro a W σ hJ pre K hK
              have e30 := pre.1 2 30 _ (by kernel_rfl) rfl rfl
              clear pre
              simp only [Array.getD_eq_getD_getElem?, List.getElem?_toArray, List.getElem?_cons_zero, List.getElem?_cons_succ, Option.getD_some] at e30
              go_simp
              exact hK _ hJ
            refine Vals10.Steps.run rfl ?_ ?_
            · intro a W σ hJ pre K hK
              have e29 := pre.1 1 29 _ (by kernel_rfl) rfl rfl
              have e31 := pre.1 3 31 _ (by kernel_rfl) rfl rfl
              clear pre
              simp only [Array.getD_eq_getD_getElem?, List.getElem?_toArray, List.getElem?_cons_zero, List.getElem?_cons_succ, Option.getD_some] at e29 e31
              go_simp
              exact hK _ hJ
            refine Vals10.Steps.run rfl ?_ ?_
            · intro a W σ hJ pre K hK
              have e32 := pre.1 4 32 _ (by kernel_rfl) rfl rfl
              clear pre
              simp only [Array.getD_eq_getD_getElem?, List.getElem?_toArray, List.getElem?_cons_zero, List.getElem?_cons_succ, Option.getD_some] at e32
              have hS9 := hJ
              have hW9 : Aq 3 1 (rwI m1 j).length ((rwI m1 j).map fun x => .int .i64 x) ((rwI m1 j ++ [(x : Int)]).map fun x => .int .i64 x) #[.int .i64 (x : Nat)] w0 w0.heap.size (.slice A7 (rwI m1 j).length c7) (fun _ _ => True) (σ 11) (σ 12) W := hS9.1
              have r1 := keep_cell hW9.sn.1 (HR.out j1 (by omega))
              have r2 := keep_cell hW9.sn.1 (HR.out j (by omega))
              rw [HY1.out] at r1
              rw [HY2.out] at r2
              go_simp
              exact hK _ hJ
            refine Vals10.Steps.run rfl ?_ ?_
            · intro a W σ hJ pre K hK
              have e5 := pre.2.2 5 _ (by kernel_rfl) rfl
              clear pre
              simp only [Array.getD_eq_getD_getElem?, List.getElem?_toArray, List.getElem?_cons_zero, List.getElem?_cons_succ, Option.getD_some] at e5
              go_simp
              exact hK _ hJ
            refine Vals10.Steps.run rfl ?_ ?_
            · intro a W σ hJ pre K hK
              have e8 := pre.2.2 8 _ (by kernel_rfl) rfl
              clear pre
              simp only [Array.getD_eq_getD_getElem?, List.getElem?_toArray, List.getElem?_cons_zero, List.getElem?_cons_succ, Option.getD_some] at e8
              go_simp
              exact hK _ hJ
            refine Vals10.Steps.run rfl ?_ ?_
            · intro a W σ hJ pre K hK
              have e34 := pre.1 6 34 _ (by kernel_rfl) rfl rfl
              have e35 := pre.1 7 35 _ (by kernel_rfl) rfl rfl
              clear pre
              simp only [Array.getD_eq_getD_getElem?, List.getElem?_toArray, List.getElem?_cons_zero, List.getElem?_cons_succ, Option.getD_some] at e34 e35
              go_simp
              exact hK _ hJ
            refine Vals10.Steps.run rfl ?_ ?_
            · intro a W σ hJ pre K hK
              have e36 := pre.1 8 36 _ (by kernel_rfl) rfl rfl
              clear pre
              simp only [Array.getD_eq_getD_getElem?, List.getElem?_toArray, List.getElem?_cons_zero, List.getElem?_cons_succ, Option.getD_some] at e36
              have hS9 := hJ
              have hW9 : Aq 3 1 (rwI m1 j).length ((rwI m1 j).map fun x => .int .i64 x) ((rwI m1 j ++ [(x : Int)]).map fun x => .int .i64 x) #[.int .i64 (x : Nat)] w0 w0.heap.size (.slice A7 (rwI m1 j).length c7) (fun _ _ => True) (σ 11) (σ 12) W := hS9.1
              have r1 := keep_cell hW9.sn.1 (HR.out j1 (by omega))
              have r2 := keep_cell hW9.sn.1 (HR.out j (by omega))
              rw [HY1.out] at r1
              rw [HY2.out] at r2
              go_simp
              exact hK _ hJ
            refine Vals10.Steps.run rfl ?_ ?_
            · intro a W σ hJ pre K hK
              have e33 := pre.1 5 33 _ (by kernel_rfl) rfl rfl
              have e37 := pre.1 9 37 _ (by kernel_rfl) rfl rfl
              clear pre
              simp only [Array.getD_eq_getD_getElem?, List.getElem?_toArray, List.getElem?_cons_zero, List.getElem?_cons_succ, Option.getD_some] at e33 e37
              go_simp
              exact hK _ hJ
            refine Vals10.Steps.mark rfl ?_ ?_
            · intro a W σ hJ hn pre K hK
              have e38 := pre.1 10 38 _ (by kernel_rfl) rfl rfl
              simp only [Array.getD_eq_getD_getElem?, List.getElem?_toArray, List.getElem?_cons_zero, List.getElem?_cons_succ, Option.getD_some] at e38
              have hJ2 : Aq 3 1 (rwI m1 j).length ((rwI m1 j).map fun x => .int .i64 x) ((rwI m1 j ++ [(x : Int)]).map fun x => .int .i64 x) #[.int .i64 (x : Nat)] w0 w0.heap.size (.slice A7 (rwI m1 j).length c7) (fun _ _ => True) (σ 11) (σ 12) W := hJ.1
              have hT2 : (∀ z, σ 13 = some z → σ 12 = some z) := hJ.2
              rw [hn] at hJ2
              go_simp
              exact hK _ _ ⟨hJ2.lit (fun _ _ _ _ _ _ _ => trivial), hT2⟩
            refine Vals10.Steps.mark rfl ?_ ?_
            · intro a W σ hJ hn pre K hK
              have e28 := pre.1 0 28 _ (by kernel_rfl) rfl rfl
              obtain ⟨v39, s39, e39⟩ := pre.2.1 11 (by kernel_rfl) rfl
              replace e39 : a.tmps.getD 39 undef = v39 := e39 39 rfl
              simp only [Array.getD_eq_getD_getElem?, List.getElem?_toArray, List.getElem?_cons_zero, List.getElem?_cons_succ, Option.getD_some] at e28 e39
              have hJ2 : Aq 3 1 (rwI m1 j).length ((rwI m1 j).map fun x => .int .i64 x) ((rwI m1 j ++ [(x : Int)]).map fun x => .int .i64 x) #[.int .i64 (x : Nat)] w0 w0.heap.size (.slice A7 (rwI m1 j).length c7) (fun _ _ => True) (σ 11) (σ 12) W := hJ.1
              have hT2 : (∀ z, σ 13 = some z → σ 12 = some z) := hJ.2
              rw [hn, s39] at hJ2
              obtain ⟨v9, Y, hr, h2⟩ := hJ2.doInt (Nat.le_refl _) (fun _ _ _ _ _ _ _ => trivial) (by rw [rwI_len]; omega) 51
              have hx : a.eval (.tmp 28) = .slice A7 (rwI m1 j).length c7 := by simpa [Act.eval] using e28
              have hy : a.eval (.tmp 39) = v39 := by simpa [Act.eval] using e39
              unfold Oper.wp execOp
              simp only [resolve, invoke, builtin, Sem.run_bind, Sem.run_pure, Result.andThen_ok, List.map_toArray, List.map_cons, List.map_nil, hx, hy, hr]
              rw [← s39] at h2
              exact hK _ _ ⟨h2, fun z hz => by have := hT2 z hz; rw [hn] at this; cases this⟩
            refine Vals10.Steps.mark rfl ?_ ?_
            · intro a W σ hJ hn pre K hK
              obtain ⟨v40, s40, e40⟩ := pre.2.1 12 (by kernel_rfl) rfl
              replace e40 : a.tmps.getD 40 undef = v40 := e40 40 rfl
              simp only [Array.getD_eq_getD_getElem?, List.getElem?_toArray, List.getElem?_cons_zero, List.getElem?_cons_succ, Option.getD_some] at e40
              have hJ2 : Aq 3 1 (rwI m1 j).length ((rwI m1 j).map fun x => .int .i64 x) ((rwI m1 j ++ [(x : Int)]).map fun x => .int .i64 x) #[.int .i64 (x : Nat)] w0 w0.heap.size (.slice A7 (rwI m1 j).length c7) (fun _ _ => True) (σ 11) (σ 12) W := hJ.1
              have hT2 : (∀ z, σ 13 = some z → σ 12 = some z) := hJ.2
              go_simp
              exact hK _ _ ⟨hJ2, fun z hz => by cases hz; exact s40⟩
            exact Vals10.Steps.nil
          case hfin =>
          rintro X σ hJ
          simp only [Vals10.All]
          intro v39 h39 v40 h40 v7 h7
          have hJ2 : Aq 3 1 (rwI m1 j).length ((rwI m1 j).map fun x => .int .i64 x) ((rwI m1 j ++ [(x : Int)]).map fun x => .int .i64 x) #[.int .i64 (x : Nat)] w0 w0.heap.size (.slice A7 (rwI m1 j).length c7) (fun _ _ => True) (σ 11) (σ 12) X := hJ.1
          have hT2 : ∀ z, σ 13 = some z → σ 12 = some z := hJ.2
          have e7 := hT2 v7 h7
          rw [h40] at e7
          obtain rfl := Option.some.inj e7
          rw [h40] at hJ2
          have HO2 : Hid (X.ownsRow w0.heap.size 3 1 v40 (rwI m1 (j + 1)).length ((rwI m1 (j + 1)).map fun x => .int .i64 x)) := by
            show World.ownsRow _ _ _ _ _ _ _
            rcases hJ2.ls with ⟨q, -⟩ | ⟨v', q, ho⟩
            · cases q
            · obtain rfl := Option.some.inj q
              rw [HF.out, List.length_append]
              exact ho
          have HS2 := Lib.hid hJ2.sn
          clear hJ hJ2 hT2 e7 h39 h40 h7
          simp only [Vals.putAll, List.setIfInBounds_toArray, List.set_cons_zero, List.set_cons_succ]
          go_wp2_with fail
          go_roundw
          case rel => exact ⟨j + 1, by omega, by omega, by go_num, HO2, HS2⟩
          case measure => simp [intOf]; omega
        · have p1 : ¬ (j : Int) < (m1 : Int) := by omega
          obtain rfl : j = m1 := by omega
          obtain ⟨A7, c7, rfl, -, -, -⟩ := own_int HO.out
          have hb3 : Below wr.heap.size wr (wr.alloc (.cells #[.int .i64 1] 3)) := (Below.refl _ _).alloc (Nat.le_refl _) _
          have HO2 := Lib.hid (own_keep HO.out hb3)
          have HS2 := Lib.hid (HS.out.alloc (.cells #[.int .i64 1] 3))
          have HN2 := Lib.hid (Blk.new wr 3 #[.int .i64 1])
          have HL : Hid ((rwI j j).length ≤ 1000) := by show _ ≤ _; rw [rwI_len]; omega
          have HF : Hid (rwI j j ++ [1] = rwI j (j + 1)) := by show _ = _; rw [rwI_succ, bn_self]; rfl
          clear hb3 HO HS
          go_wp2_with (at_builtin; refine wpList_append_int rfl (.tmp 41) (.tmp 42) rfl w0.heap.size wr.heap.size _ (rwI j j) 1 (by go_simp) (by go_simp) HO2.out HN2.out HL.out HS2.out.2 ?_)
          rintro v3 w3 ho3 hg3 -
          have hlt3 := HO2.out.lt
          have HS3 : Hid (Since w0 w3) := ⟨HS2.out.1.grown hg3 HS2.out.2 (fun q e => (hlt3 q e).1), Nat.le_trans HS2.out.2 hg3.size⟩
          replace ho3 : w3.ownsRow w0.heap.size 3 1 v3 (rwI j (j + 1)).length ((rwI j (j + 1)).map fun x => .int .i64 x) := by
            rw [← HF.out, List.length_append, List.map_append]; exact ho3
          obtain ⟨A9, c9, rfl, hI9, ⟨hc1, hc2⟩, -⟩ := own_int ho3
          obtain ⟨a9, rfl, hR9⟩ := RwAt.of hI9
          have HR9 := Lib.hid hR9
          have HW2 := Lib.hid (HW.out.keep HS3.out.1)
          obtain ⟨l9, hl9⟩ : ∃ l, (rwI j (j + 1)).length = l := ⟨_, rfl⟩
          have hl9' := hl9
          rw [rwI_len] at hl9'
          rw [hl9] at hc1
          first | rw [hl9] | skip
          clear ho3 hg3 hlt3 HO2 HN2 HS2 HS3 HF HL hI9 hR9 HR HW hl9
          go_wp2_with fail
          go_roundw
          case rel => exact ⟨j, l9, a9, c9, by omega, by omega, hc1, hc2, rfl, by rw [← hl9'], HR9, HW2⟩
          case measure => simp [intOf]; omega
    · obtain rfl : m = n := by omega
      have q1 : ¬ (m1 : Int) ≤ (m : Int) := by omega
      have q3 : k < m1 := by omega
      have q4 : (k : Int) < (m1 : Int) := by omega
      have r1 := HR.out k hkn
      have HE := Lib.hid (rfl : bn m k = bn m k)
      obtain ⟨x, hx⟩ : ∃ x, bn m k = x := ⟨_, rfl⟩
      rw [hx] at r1 HV
      clear hx HE
      go_wp2_with fail
      go_ret
      exact ⟨by rw [HV.out]; rfl, HS.out.1⟩
/-- in how many samples so many are bad, for any numbers. -/
def shI (P b n i : Int) : Nat := wyI b i * wyI (P - b) (n - i)
theorem shI_le {P b n i : Int} (h1 : b ≤ 20) (h2 : P - b ≤ 20) : shI P b n i ≤ 184756 * 184756 := Nat.mul_le_mul (wyI_le h1) (wyI_le h2)
set_option maxHeartbeats 2000000 in
theorem rshows_c (P b n i : Int) (w : World) (h1 : b ≤ 20) (h2 : P - b ≤ 20) (h3 : I64 (P - b)) (h4 : I64 (n - i)) :
    Calls Try.prog 58 #[.int .i64 P, .int .i64 b, .int .i64 n, .int .i64 i] w fun e w' => e = .returned (.int .i64 (shI P b n i : Nat)) ∧ Below w.heap.size w w' := by
  have HA := fun W => Lib.hid (rways_c b i W h1)
  have HB := fun W => Lib.hid (rways_c (P - b) (n - i) W h2)
  have ha := wyI_le (k := i) h1
  have hb := wyI_le (k := n - i) h2
  have HV : Hid (shI P b n i = wyI b i * wyI (P - b) (n - i)) := rfl
  obtain ⟨p, hp⟩ : ∃ p, P - b = p := ⟨_, rfl⟩
  obtain ⟨q, hq⟩ : ∃ q, n - i = q := ⟨_, rfl⟩
  rw [hp] at h3 HB hb HV
  rw [hq] at h4 HB hb HV
  have t1 : IntKind.i64.wrap (P - b) = p := by rw [hp]; exact wrapI h3
  have t2 : IntKind.i64.wrap (n - i) = q := by rw [hq]; exact wrapI h4
  obtain ⟨x, hx⟩ : ∃ x, wyI b i = x := ⟨_, rfl⟩
  obtain ⟨y, hy⟩ : ∃ y, wyI p q = y := ⟨_, rfl⟩
  rw [hx] at HA ha HV
  rw [hy] at HB hb HV
  have hxy : x * y ≤ 184756 * 184756 := Nat.mul_le_mul ha hb
  obtain ⟨z, hz⟩ : ∃ z, x * y = z := ⟨_, rfl⟩
  rw [hz] at HV hxy
  have t3 : IntKind.i64.wrap ((x : Int) * (y : Int)) = (z : Int) := by rw [← Int.natCast_mul, hz, wrapI (by unfold I64; omega)]
  have hs := Since.refl w
  clear hp hq hx hy hz h1 h2 h3 h4
  go_enter Try.func58, Try.ntmps58
  go_wp2_with fail
  refine (HA _).out.mono ?_
  rintro e v1 ⟨rfl, hb1⟩
  replace hs := hs.keep hb1
  clear hb1
  go_wp2_with fail
  refine (HB _).out.mono ?_
  rintro e v2 ⟨rfl, hb1⟩
  replace hs := hs.keep hb1
  clear hb1
  go_wp2_with fail
  go_ret
  exact ⟨by rw [HV.out]; rfl, hs.1⟩
end Td
end Go.Proofs.Ytgkdidnmndmlhaa
