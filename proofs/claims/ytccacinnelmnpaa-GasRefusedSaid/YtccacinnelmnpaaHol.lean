import Derived.Test.YtccacinnelmnpaaLow
import Derived.MapKept
/- Until when a reading holds. -/
namespace Go.Proofs.Ytccacinnelmnpaa
open Go.RowKit
namespace Td
set_option linter.unusedSimpArgs false
set_option linter.unusedVariables false
attribute [local go_sem] Oper.semAt_some
theorem isKeyI (n : Int) : MapKept.IsKey (.int .i64) (.int .i64 n) := by simp [MapKept.IsKey]
theorem mp_nil (w : World) : Mp w none [] := fun m => ⟨none, 0, fun W _ => by
  have hz : ∀ W, (zeroValue 28).run Try.prog W = .ok (.slice none 0 0) W := fun W => by kernel_rfl
  simp [Instr.lookup, atM, run_underlying Try.underlying91, run_underlying Try.underlying3, Sem.run_bind, MapKept.run_checkKey Try.underlying3 (isKeyI _) _ 9999, Instr.findKey, Instr.findNow, hz], fun h => absurd rfl h⟩
set_option maxRecDepth 100000 in
set_option maxHeartbeats 4000000 in
theorem holds_c (s : Spc) (m : Sl) (r : Rd) (w : World) (hs : SOk s) (hsa : SAt w m s) (hr : ROk s r) :
    Calls Try.prog 60 #[.agg (wV s m none), .agg (rV r)] w fun e w' => e = .returned (.int .i64 (hol s r)) ∧ Below w.heap.size w w' := by
  obtain ⟨t, ht⟩ : ∃ t : Nat, r.tool = (t : Int) := ⟨r.tool.toNat, by have := hr.t0; omega⟩
  have htl : t < s.tools.length := by have := hr.t1; omega
  obtain ⟨ae, hT, _, e1⟩ := hsa.tl.get htl
  obtain ⟨er, her⟩ : ∃ er, s.tools[t].err = er := ⟨_, rfl⟩
  have her2 : errOf s r = er := by unfold errOf; rw [ht]; simp [List.getElem?_eq_getElem htl, her]
  have he1 := hs.er _ (List.getElem_mem htl)
  have ht3 := hs.t3
  rw [her] at e1 he1
  have HE1 := Lib.hid e1
  have HT := Lib.hid hT
  have hh0 := hr.h0
  have hh1 := hr.h1
  obtain ⟨mo, hmo⟩ : ∃ mo, r.shown + er = mo := ⟨_, rfl⟩
  obtain ⟨E, hE⟩ : ∃ E, hol s r = E := ⟨_, rfl⟩
  rw [hE]
  unfold hol at hE
  rw [her2, hmo] at hE
  have HE := Lib.hid hE
  clear e1 her her2 hE hT
  have bS0 := (Blk.new w 93 (wV s m none)).alloc (.cells (rV r) 61)
  have bR0 := Blk.new1 w (.cells (wV s m none) 93) 61 (rV r)
  have hsn0 := ((Since.refl w).alloc (.cells (wV s m none) 93)).alloc (.cells (rV r) 61)
  go_enter Try.func60, Try.ntmps60
  go_wp2_with fail
  refine Vals6.regionAll (fun X => Blk X w.heap.size 93 (wV s m none) ∧ Blk X (w.heap.size + 1) 61 (rV r) ∧ Since w X) [some 6, some 7, some 8, some 9, some 10, some 11, some 12, some 13, some 14, some 15, some 16] [.is (.pointer (some ⟨w.heap.size + 1, 2, none⟩)), .is (.int .i64 r.shown), .is (.pointer (some ⟨w.heap.size, 0, none⟩)), .is (.pointer (some ⟨w.heap.size, 8, none⟩)), .is (.slice (some ae) s.tools.length m.d), .is (.pointer (some ⟨w.heap.size + 1, 1, none⟩)), .is (.int .i64 (t : Int)), .is (.pointer (some (ae.add (t * 2)))), .is (.pointer (some (at_ (ae.add (t * 2)) 1))), .is (.int .i64 er), .is (.int .i64 mo)] (by kernel_rfl) rfl rfl (by kernel_rfl) (by kernel_rfl) (by kernel_rfl) (by kernel_rfl) (by kernel_rfl) (by kernel_rfl) (by kernel_rfl) (⟨bS0.drew, bR0.drew, hsn0.drew⟩) ?_ ?_
  · refine Vals5.Steps.run (by kernel_rfl) (Vals5.Stable.is _) ?_ ?_
    · intro a W hS pre old K hK
      have e3 : a.tmps.getD 3 undef = .pointer (some ⟨w.heap.size + 1, 0, none⟩) := old 3 _ (by kernel_rfl) rfl
      clear pre old
      simp only [Array.getD_eq_getD_getElem?] at e3
      go_simp
      exact hK _ _ hS (Below.refl _ _) rfl
    refine Vals5.Steps.run (by kernel_rfl) (Vals5.Stable.is _) ?_ ?_
    · intro a W hS pre old K hK
      have e6 : a.tmps.getD 6 undef = .pointer (some ⟨w.heap.size + 1, 2, none⟩) := pre 0 6 _ (by kernel_rfl) rfl rfl
      clear pre old
      simp only [Array.getD_eq_getD_getElem?] at e6
      have hS9 := hS
      obtain ⟨l1, l2, l3⟩ := hS9
      obtain ⟨d0, d1, d2, d3, d4, d5, d6, d7, d8, d9⟩ := l1.watch
      rw [HT.out] at d8
      have c1 := l2.cell 1
      have c2 := l2.cell 2
      simp only [List.getElem?_toArray, List.getElem?_cons_zero, List.getElem?_cons_succ] at c1 c2
      rw [ht] at c1
      have e9 := keep_cell l3.1 HE1.out
      go_simp
      exact hK _ _ hS (Below.refl _ _) rfl
    refine Vals5.Steps.run (by kernel_rfl) (Vals5.Stable.is _) ?_ ?_
    · intro a W hS pre old K hK
      have e2 : a.tmps.getD 2 undef = .pointer (some ⟨w.heap.size, 0, none⟩) := old 2 _ (by kernel_rfl) rfl
      clear pre old
      simp only [Array.getD_eq_getD_getElem?] at e2
      go_simp
      exact hK _ _ hS (Below.refl _ _) rfl
    refine Vals5.Steps.run (by kernel_rfl) (Vals5.Stable.is _) ?_ ?_
    · intro a W hS pre old K hK
      have e8 : a.tmps.getD 8 undef = .pointer (some ⟨w.heap.size, 0, none⟩) := pre 2 8 _ (by kernel_rfl) rfl rfl
      clear pre old
      simp only [Array.getD_eq_getD_getElem?] at e8
      go_simp
      exact hK _ _ hS (Below.refl _ _) rfl
    refine Vals5.Steps.run (by kernel_rfl) (Vals5.Stable.is _) ?_ ?_
    · intro a W hS pre old K hK
      have e9 : a.tmps.getD 9 undef = .pointer (some ⟨w.heap.size, 8, none⟩) := pre 3 9 _ (by kernel_rfl) rfl rfl
      clear pre old
      simp only [Array.getD_eq_getD_getElem?] at e9
      have hS9 := hS
      obtain ⟨l1, l2, l3⟩ := hS9
      obtain ⟨d0, d1, d2, d3, d4, d5, d6, d7, d8, d9⟩ := l1.watch
      rw [HT.out] at d8
      have c1 := l2.cell 1
      have c2 := l2.cell 2
      simp only [List.getElem?_toArray, List.getElem?_cons_zero, List.getElem?_cons_succ] at c1 c2
      rw [ht] at c1
      have e9 := keep_cell l3.1 HE1.out
      go_simp
      exact hK _ _ hS (Below.refl _ _) rfl
    refine Vals5.Steps.run (by kernel_rfl) (Vals5.Stable.is _) ?_ ?_
    · intro a W hS pre old K hK
      have e3 : a.tmps.getD 3 undef = .pointer (some ⟨w.heap.size + 1, 0, none⟩) := old 3 _ (by kernel_rfl) rfl
      clear pre old
      simp only [Array.getD_eq_getD_getElem?] at e3
      go_simp
      exact hK _ _ hS (Below.refl _ _) rfl
    refine Vals5.Steps.run (by kernel_rfl) (Vals5.Stable.is _) ?_ ?_
    · intro a W hS pre old K hK
      have e11 : a.tmps.getD 11 undef = .pointer (some ⟨w.heap.size + 1, 1, none⟩) := pre 5 11 _ (by kernel_rfl) rfl rfl
      clear pre old
      simp only [Array.getD_eq_getD_getElem?] at e11
      have hS9 := hS
      obtain ⟨l1, l2, l3⟩ := hS9
      obtain ⟨d0, d1, d2, d3, d4, d5, d6, d7, d8, d9⟩ := l1.watch
      rw [HT.out] at d8
      have c1 := l2.cell 1
      have c2 := l2.cell 2
      simp only [List.getElem?_toArray, List.getElem?_cons_zero, List.getElem?_cons_succ] at c1 c2
      rw [ht] at c1
      have e9 := keep_cell l3.1 HE1.out
      go_simp
      exact hK _ _ hS (Below.refl _ _) rfl
    refine Vals5.Steps.run (by kernel_rfl) (Vals5.Stable.is _) ?_ ?_
    · intro a W hS pre old K hK
      have e10 : a.tmps.getD 10 undef = .slice (some ae) s.tools.length m.d := pre 4 10 _ (by kernel_rfl) rfl rfl
      have e12 : a.tmps.getD 12 undef = .int .i64 (t : Int) := pre 6 12 _ (by kernel_rfl) rfl rfl
      clear pre old
      simp only [Array.getD_eq_getD_getElem?] at e10 e12
      have hti : (t : Int) < (s.tools.length : Int) := by omega
      go_simp
      exact hK _ _ hS (Below.refl _ _) rfl
    refine Vals5.Steps.run (by kernel_rfl) (Vals5.Stable.is _) ?_ ?_
    · intro a W hS pre old K hK
      have e13 : a.tmps.getD 13 undef = .pointer (some (ae.add (t * 2))) := pre 7 13 _ (by kernel_rfl) rfl rfl
      clear pre old
      simp only [Array.getD_eq_getD_getElem?] at e13
      go_simp
      exact hK _ _ hS (Below.refl _ _) rfl
    refine Vals5.Steps.run (by kernel_rfl) (Vals5.Stable.is _) ?_ ?_
    · intro a W hS pre old K hK
      have e14 : a.tmps.getD 14 undef = .pointer (some (at_ (ae.add (t * 2)) 1)) := pre 8 14 _ (by kernel_rfl) rfl rfl
      clear pre old
      simp only [Array.getD_eq_getD_getElem?] at e14
      have hS9 := hS
      obtain ⟨l1, l2, l3⟩ := hS9
      obtain ⟨d0, d1, d2, d3, d4, d5, d6, d7, d8, d9⟩ := l1.watch
      rw [HT.out] at d8
      have c1 := l2.cell 1
      have c2 := l2.cell 2
      simp only [List.getElem?_toArray, List.getElem?_cons_zero, List.getElem?_cons_succ] at c1 c2
      rw [ht] at c1
      have e9 := keep_cell l3.1 HE1.out
      go_simp
      exact hK _ _ hS (Below.refl _ _) rfl
    refine Vals5.Steps.run (by kernel_rfl) (Vals5.Stable.is _) ?_ ?_
    · intro a W hS pre old K hK
      have e7 : a.tmps.getD 7 undef = .int .i64 r.shown := pre 1 7 _ (by kernel_rfl) rfl rfl
      have e15 : a.tmps.getD 15 undef = .int .i64 er := pre 9 15 _ (by kernel_rfl) rfl rfl
      clear pre old
      simp only [Array.getD_eq_getD_getElem?] at e7 e15
      have hw9 : IntKind.i64.wrap mo = mo := IntWalk.i64_in _ (by omega)
      go_simp
      exact hK _ _ hS (Below.refl _ _) rfl
    exact Vals5.Steps.nil
  rintro X ⟨bS1, bR1, hsn1⟩
  simp only [Vals5.All, List.getLast_cons_cons, List.getLast_singleton]
  simp only [Vals.putAll, List.setIfInBounds_toArray, List.set_cons_zero, List.set_cons_succ]
  intro K hK
  go_simp
  refine hK _ _ ?_
  clear hK K
  by_cases hm0 : mo < 0
  · have HZ : Hid (-1 = E) := by have := HE.out; rw [if_pos hm0] at this; exact this
    go_wp2_with fail
    go_ret
    exact ⟨ret_int HZ.out, hsn1.1⟩
  · have HZ : Hid (untl s [] r.min (btw (hld mo) (hld mo)) = E) := by have := HE.out; rw [if_neg hm0] at this; exact this
    have hm0' : ¬ mo < 0 := hm0
    have hvd : Vd (btw (hld mo) (hld mo)) := vd_of (up_btw _ _) fun n hn => by rw [mem_btw] at hn; have := hld_in mo; omega
    obtain ⟨p, q, bb, hv⟩ := lV_ex (btw (hld mo) (hld mo))
    have HV := Lib.hid hv
    clear hv
    go_wp2_with fail
    refine (held_c _ _).mono ?_
    rintro e w2 ⟨rfl, rfl⟩
    have bS2 := bS1
    have bR2 := bR1
    have hsn2 := hsn1
    go_wp2_with fail
    refine Vals6.regionAll (fun X => Blk X w.heap.size 93 (wV s m none) ∧ Blk X (w.heap.size + 1) 61 (rV r) ∧ Since w X) [some 21, some 22, some 23, some 24, some 25, some 26, some 27] [.is (.agg (wV s m none)), .is (.pointer (some ⟨w.heap.size + 1, 0, none⟩)), .is (.int .i64 r.min), .is (.int .i64 (hld mo)), .is (.int .i64 (hld mo)), .is (.agg #[.int .i64 p, .int .i64 q, .bool bb]), .is (.int .i64 (untl s [] r.min (btw (hld mo) (hld mo))))] (by kernel_rfl) rfl rfl (by kernel_rfl) (by kernel_rfl) (by kernel_rfl) (by kernel_rfl) (by kernel_rfl) (by kernel_rfl) (by kernel_rfl) (⟨bS2.drew, bR2.drew, hsn2.drew⟩) ?_ ?_
    · refine Vals5.Steps.run (by kernel_rfl) (Vals5.Stable.is _) ?_ ?_
      · intro a W hS pre old K hK
        have e2 : a.tmps.getD 2 undef = .pointer (some ⟨w.heap.size, 0, none⟩) := old 2 _ (by kernel_rfl) rfl
        clear pre old
        simp only [Array.getD_eq_getD_getElem?] at e2
        have hS9 := hS
        obtain ⟨l1, l2, l3⟩ := hS9
        obtain ⟨d0, d1, d2, d3, d4, d5, d6, d7, d8, d9⟩ := l1.watch
        have c0 := l2.cell 0
        simp only [List.getElem?_toArray, List.getElem?_cons_zero, List.getElem?_cons_succ] at c0
        go_simp
        exact hK _ _ hS (Below.refl _ _) rfl
      refine Vals5.Steps.run (by kernel_rfl) (Vals5.Stable.is _) ?_ ?_
      · intro a W hS pre old K hK
        have e3 : a.tmps.getD 3 undef = .pointer (some ⟨w.heap.size + 1, 0, none⟩) := old 3 _ (by kernel_rfl) rfl
        clear pre old
        simp only [Array.getD_eq_getD_getElem?] at e3
        go_simp
        exact hK _ _ hS (Below.refl _ _) rfl
      refine Vals5.Steps.run (by kernel_rfl) (Vals5.Stable.is _) ?_ ?_
      · intro a W hS pre old K hK
        have e22 : a.tmps.getD 22 undef = .pointer (some ⟨w.heap.size + 1, 0, none⟩) := pre 1 22 _ (by kernel_rfl) rfl rfl
        clear pre old
        simp only [Array.getD_eq_getD_getElem?] at e22
        have hS9 := hS
        obtain ⟨l1, l2, l3⟩ := hS9
        obtain ⟨d0, d1, d2, d3, d4, d5, d6, d7, d8, d9⟩ := l1.watch
        have c0 := l2.cell 0
        simp only [List.getElem?_toArray, List.getElem?_cons_zero, List.getElem?_cons_succ] at c0
        go_simp
        exact hK _ _ hS (Below.refl _ _) rfl
      refine Vals5.Steps.run (by kernel_rfl) (Vals5.Stable.is _) ?_ ?_
      · intro a W hS pre old K hK
        have e5 : a.tmps.getD 5 undef = .int .i64 (hld mo) := old 5 _ (by kernel_rfl) rfl
        clear pre old
        simp only [Array.getD_eq_getD_getElem?] at e5
        go_simp
        exact hK _ _ hS (Below.refl _ _) rfl
      refine Vals5.Steps.run (by kernel_rfl) (Vals5.Stable.is _) ?_ ?_
      · intro a W hS pre old K hK
        have e5 : a.tmps.getD 5 undef = .int .i64 (hld mo) := old 5 _ (by kernel_rfl) rfl
        clear pre old
        simp only [Array.getD_eq_getD_getElem?] at e5
        go_simp
        exact hK _ _ hS (Below.refl _ _) rfl
      refine Vals5.Steps.run (by kernel_rfl) (Vals5.Stable.is _) ?_ ?_
      · intro a W hS pre old K hK
        have e24 : a.tmps.getD 24 undef = .int .i64 (hld mo) := pre 3 24 _ (by kernel_rfl) rfl rfl
        have e25 : a.tmps.getD 25 undef = .int .i64 (hld mo) := pre 4 25 _ (by kernel_rfl) rfl rfl
        clear pre old
        simp only [Array.getD_eq_getD_getElem?] at e24 e25
        go_simp
        refine (between_c _ _ _).mono ?_
        rintro e w' ⟨rfl, hb'⟩
        obtain ⟨h1, h2, h3⟩ := hS
        exact hK _ _ ⟨h1.keep hb', h2.keep hb', h3.keep hb'⟩ hb' (by show Value.agg _ = Value.agg _; rw [HV.out])
      refine Vals5.Steps.run (by kernel_rfl) (Vals5.Stable.is _) ?_ ?_
      · intro a W hS pre old K hK
        have e21 : a.tmps.getD 21 undef = .agg (wV s m none) := pre 0 21 _ (by kernel_rfl) rfl rfl
        have e23 : a.tmps.getD 23 undef = .int .i64 r.min := pre 2 23 _ (by kernel_rfl) rfl rfl
        have e26 : a.tmps.getD 26 undef = .agg #[.int .i64 p, .int .i64 q, .bool bb] := pre 5 26 _ (by kernel_rfl) rfl rfl
        clear pre old
        simp only [Array.getD_eq_getD_getElem?] at e21 e23 e26
        have hU := until_c s m none [] r.min (btw (hld mo) (hld mo)) W hs hvd (fun r h => absurd h (by simp)) (by simp) (hsa.keep hS.2.2.1) (mp_nil W) hr.m0 hr.m1
        rw [HV.out] at hU
        go_simp
        refine hU.mono ?_
        rintro e w' ⟨rfl, hb'⟩
        obtain ⟨h1, h2, h3⟩ := hS
        exact hK _ _ ⟨h1.keep hb', h2.keep hb', h3.keep hb'⟩ hb' rfl
      exact Vals5.Steps.nil
    rintro X9 ⟨bS3, bR3, hsn3⟩
    simp only [Vals5.All, List.getLast_cons_cons, List.getLast_singleton]
    simp only [Vals.putAll, List.setIfInBounds_toArray, List.set_cons_zero, List.set_cons_succ]
    intro K hK
    go_simp
    refine hK _ _ ?_
    clear hK K
    go_wp2_with fail
    go_ret
    exact ⟨ret_int HZ.out, hsn3.1⟩
end Td
end Go.Proofs.Ytccacinnelmnpaa
