import Derived.Test.YtgkdidnmndmlhaaExpA
/- The exported functions: Ways, Left. -/
namespace Go.Proofs.Ytgkdidnmndmlhaa
open Go.RowKit
namespace Td
set_option linter.unusedSimpArgs false
set_option linter.unusedVariables false
attribute [local go_sem] Oper.semAt_some
/-- what Ways answers. -/
def wayA (n k : Int) : Int × Int := if wi 0 20 n = true ∧ wi 0 n k = true then ((bn n.toNat k.toNat : Int), 0) else (0, 7)
theorem run_index_row {P : Program} {t e f : TypeId} {n sz m i : Nat} {cs : Array Value} (w : World) (h : P.underlying t = some (.array n e)) (he : P.underlying e = some (.array m f)) (hz : (P.info? e).map (·.size) = some sz) (hi : i < n) :
    (Instr.index t (.agg cs) (.int .i64 i)).run P w = .ok (.agg (cs.extract (i * sz) (i * sz + sz))) w := by
  cases hq : P.info? e with
  | none => rw [hq] at hz; cases hz
  | some ti =>
    rw [hq] at hz
    have hz' : ti.size = sz := by simpa using hz
    have h0 : (i : Int) < n := by omega
    simp [Instr.index, run_underlying h, asIntOf, part, isAgg, run_underlying he, sizeOf, typeInfo, hq, hz', hi, go_sem]
theorem run_index_int {P : Program} {t e : TypeId} {n i : Nat} {cs : Array Value} {v : Value} (w : World) (h : P.underlying t = some (.array n e)) (he : P.underlying e = some (.int .i64)) (hz : (P.info? e).map (·.size) = some 1) (hi : i < n) (hv : cs[i]? = some v) :
    (Instr.index t (.agg cs) (.int .i64 i)).run P w = .ok v w := by
  cases hq : P.info? e with
  | none => rw [hq] at hz; cases hz
  | some ti =>
    rw [hq] at hz
    have hz' : ti.size = 1 := by simpa using hz
    have h0 : (i : Int) < n := by omega
    simp [Instr.index, run_underlying h, asIntOf, part, isAgg, run_underlying he, sizeOf, typeInfo, hq, hz', hi, hv, go_sem]
theorem index_rows (n : Nat) (hn : n ≤ 20) (w : World) : (Instr.index 85 (.agg (alF tri)) (.int .i64 n)).run Try.prog w = .ok (.agg (rwF (pas n))) w := by
  have h1 : (alF tri).extract (n * 21) (n * 21 + 21) = rwF (pas n) := by
    apply Array.ext_getElem?
    intro i
    by_cases h : i < 21
    · rw [rwF_get _ h, Array.getElem?_extract, if_pos (by rw [alF_size]; omega), alF_get _ (by omega)]
      unfold tri
      rw [show (n * 21 + i) / 21 = n by omega, show (n * 21 + i) % 21 = i by omega]
      rfl
    · have e1 : (rwF (pas n))[i]? = none := Array.getElem?_eq_none (by rw [rwF_size]; omega)
      have e2 : ((alF tri).extract (n * 21) (n * 21 + 21))[i]? = none := Array.getElem?_eq_none (by rw [Array.size_extract, alF_size]; omega)
      rw [e1, e2]
  rw [run_index_row (n := 21) (sz := 21) (m := 21) (f := 3) w Try.underlying85 Try.underlying83 (by kernel_rfl) (by omega), h1]
theorem index_row (n k : Nat) (hk : k ≤ 20) (w : World) : (Instr.index 83 (.agg (rwF (pas n))) (.int .i64 k)).run Try.prog w = .ok (.int .i64 (pas n k)) w :=
  run_index_int (n := 21) w Try.underlying83 (by kernel_rfl) (by kernel_rfl) (by omega) (rwF_get _ (by omega))
set_option maxHeartbeats 2000000 in
theorem Ways_c (n k : Int) (w : World) :
    Calls Try.prog 19 #[.int .i64 n, .int .i64 k] w fun e w' => e = .returned (.tuple #[.int .i64 (wayA n k).1, .int .i64 (wayA n k).2]) ∧ Below w.heap.size w w' := by
  have hs1 := (Since.refl w).alloc (.cells #[.int .i64 n] 3)
  cases h0 : wi 0 20 n
  · have HV : Hid (wayA n k = (0, 7)) := by show _ = _; unfold wayA; rw [if_neg (by rw [h0]; rintro ⟨h, -⟩; cases h)]
    have H0 := Lib.hid h0
    clear h0
    go_enter Try.func19, Try.ntmps19
    go_wp2_with fail
    refine (within1_c _ _ _ _ 3 _ (Blk.newS (by simp))).mono ?_
    rintro e w' ⟨rfl, rfl⟩
    rw [H0.out]
    go_wp2_with fail
    go_ret2
    exact ⟨by rw [HV.out]; rfl, hs1.1⟩
  · have H0 := Lib.hid h0
    cases h1 : wi 0 n k
    · have HV : Hid (wayA n k = (0, 7)) := by show _ = _; unfold wayA; rw [if_neg (by rw [h1]; rintro ⟨-, h⟩; cases h)]
      have H1 := Lib.hid h1
      clear h0 h1
      go_enter Try.func19, Try.ntmps19
      go_wp2_with fail
      refine (within1_c _ _ _ _ 3 _ (Blk.newS (by simp))).mono ?_
      rintro e w' ⟨rfl, rfl⟩
      rw [H0.out]
      have hs2 := hs1.alloc (.cells #[.int .i64 k] 3)
      go_wp2_with fail
      refine (within1_c _ _ _ _ 3 _ (Blk.newS (by simp))).mono ?_
      rintro e w' ⟨rfl, rfl⟩
      rw [H1.out]
      go_wp2_with fail
      go_ret2
      exact ⟨by rw [HV.out]; rfl, hs2.1⟩
    · have HV : Hid (wayA n k = ((bn n.toNat k.toNat : Int), 0)) := by show _ = _; unfold wayA; rw [if_pos ⟨h0, h1⟩]
      have H1 := Lib.hid h1
      have hw0 := wi_iff.1 h0
      have hw1 := wi_iff.1 h1
      clear h0 h1
      obtain ⟨n', rfl⟩ : ∃ n' : Nat, n = n' := ⟨n.toNat, by omega⟩
      obtain ⟨k', rfl⟩ : ∃ k' : Nat, k = k' := ⟨k.toNat, by omega⟩
      have hn : n' ≤ 20 := by omega
      have hk : k' ≤ 20 := by omega
      have x0 := index_rows n' hn
      have x1 := index_row n' k' hk
      have HV' : Hid (wayA n' k' = (pas n' k', 0)) := by show _ = _; rw [HV.out]; simp only [Int.toNat_natCast]; rfl
      obtain ⟨v, hv⟩ : ∃ v, pas n' k' = v := ⟨_, rfl⟩
      rw [hv] at HV' x1
      clear hv HV hw0 hw1 hn hk
      go_enter Try.func19, Try.ntmps19
      go_wp2_with fail
      refine (within1_c _ _ _ _ 3 _ (Blk.newS (by simp))).mono ?_
      rintro e w' ⟨rfl, rfl⟩
      rw [H0.out]
      have hs2 := hs1.alloc (.cells #[.int .i64 k'] 3)
      go_wp2_with fail
      refine (within1_c _ _ _ _ 3 _ (Blk.newS (by simp))).mono ?_
      rintro e w' ⟨rfl, rfl⟩
      rw [H1.out]
      go_wp2_with fail
      refine (newRows_c _).mono ?_
      rintro e w3 ⟨rfl, hb3⟩
      have hs3 := hs2.keep hb3
      clear hb3
      go_wp2_with fail
      go_ret2
      exact ⟨by rw [HV'.out]; rfl, hs3.1⟩
/-- what Left answers. -/
def lefA (P lo hi n s : Int) : (Int × Int) × Int :=
  if chkE P lo hi = 0 then
    if wi 0 P n = true ∧ wi 0 n s = true then
      if min hi (P - (n - s)) < max lo s then ((0, 0), 9) else ((max lo s - s, min hi (P - (n - s)) - s), 0)
    else ((0, 0), 7)
  else ((0, 0), chkE P lo hi)
set_option maxRecDepth 100000 in
set_option maxHeartbeats 2000000 in
theorem Left_c (P lo hi n s : Int) (w : World) :
    Calls Try.prog 33 #[.agg (gV P lo hi), .int .i64 n, .int .i64 s] w fun e w' => e = .returned (.tuple #[.agg (fV (lefA P lo hi n s).1), .int .i64 (lefA P lo hi n s).2]) ∧ Below w.heap.size w w' := by
  have hs0 := ((Since.refl w).alloc (.cells (gV P lo hi) 25)).alloc (.cells (fV (0, 0)) 23)
  have HG := Lib.hid ((Blk.new w 25 (gV P lo hi)).alloc (.cells (fV (0, 0)) 23))
  have HR := Lib.hid (Blk.new1 w (.cells (gV P lo hi) 25) 23 (fV (0, 0)))
  go_enter Try.func33, Try.ntmps33
  go_wp2_with fail
  refine (Check_c P lo hi _).mono ?_
  rintro e w1 ⟨rfl, hb1⟩
  have hs1 := hs0.keep hb1
  have HG1 := Lib.hid (HG.out.keep hb1)
  have HR1 := Lib.hid (HR.out.keep hb1)
  clear HG HR hb1
  by_cases hc : chkE P lo hi = 0
  · obtain ⟨a1, a2, a3, a4, a5⟩ := chkE_ok.1 hc
    have HC := Lib.hid hc
    rw [hc]
    obtain ⟨c0, c1, c2⟩ := HG1.out.gcells
    have hs2 := hs1.alloc (.cells #[.int .i64 n] 3)
    have HG2 := Lib.hid (HG1.out.alloc (.cells #[.int .i64 n] 3))
    have HR2 := Lib.hid (HR1.out.alloc (.cells #[.int .i64 n] 3))
    clear hc
    cases h0 : wi 0 P n
    · have HV : Hid (lefA P lo hi n s = ((0, 0), 7)) := by show _ = _; unfold lefA; rw [if_pos HC.out, if_neg (by rw [h0]; rintro ⟨h, -⟩; cases h)]
      have H0 := Lib.hid h0
      have HS9 := Lib.hid (hs2.row (g := w.heap.size + 1) (by omega) (fV (0, 0)))
      have HB9 := Lib.hid (HR2.out.row (fV (0, 0)))
      clear h0 a1 a2 a3 a4 a5
      go_wp2_with fail
      refine (within1_c _ _ _ _ 3 _ (Blk.newS (by simp))).mono ?_
      rintro e w' ⟨rfl, rfl⟩
      rw [H0.out]
      clear c0 c1 c2
      go_wp2_with ((refine wpList_store_row rfl 23 _ _ rfl (w.heap.size + 1) _ rfl rfl 23 _ HR2.out (by kernel_rfl) rfl (by simp [Value.oneCell']) ?_))
      refine bodyPost_ret (results_ct Try.results33 _ _ _ _ rfl (load_sp HB9.out)) rfl ⟨by rw [HV.out]; rfl, HS9.out.1⟩
    · have H0 := Lib.hid h0
      have hs3 := hs2.alloc (.cells #[.int .i64 s] 3)
      have HG3 := Lib.hid (HG2.out.alloc (.cells #[.int .i64 s] 3))
      have HR3 := Lib.hid (HR2.out.alloc (.cells #[.int .i64 s] 3))
      have hw0 := wi_iff.1 h0
      cases h1 : wi 0 n s
      · have HV : Hid (lefA P lo hi n s = ((0, 0), 7)) := by show _ = _; unfold lefA; rw [if_pos HC.out, if_neg (by rw [h1]; rintro ⟨-, h⟩; cases h)]
        have H1 := Lib.hid h1
        have HS9 := Lib.hid (hs3.row (g := w.heap.size + 1) (by omega) (fV (0, 0)))
        have HB9 := Lib.hid (HR3.out.row (fV (0, 0)))
        clear h0 h1 hw0 a1 a2 a3 a4 a5
        go_wp2_with fail
        refine (within1_c _ _ _ _ 3 _ (Blk.newS (by simp))).mono ?_
        rintro e w' ⟨rfl, rfl⟩
        rw [H0.out]
        clear c0 c1 c2
        go_wp2_with fail
        refine (within1_c _ _ _ _ 3 _ (Blk.newS (by simp))).mono ?_
        rintro e w' ⟨rfl, rfl⟩
        rw [H1.out]
        go_wp2_with ((refine wpList_store_row rfl 23 _ _ rfl (w.heap.size + 1) _ rfl rfl 23 _ HR3.out (by kernel_rfl) rfl (by simp [Value.oneCell']) ?_))
        refine bodyPost_ret (results_ct Try.results33 _ _ _ _ rfl (load_sp HB9.out)) rfl ⟨by rw [HV.out]; rfl, HS9.out.1⟩
      · have H1 := Lib.hid h1
        have hw1 := wi_iff.1 h1
        obtain ⟨u, hu⟩ : ∃ u, max lo s = u := ⟨_, rfl⟩
        obtain ⟨v, hv⟩ : ∃ v, min hi (P - (n - s)) = v := ⟨_, rfl⟩
        have t1 : IntKind.i64.wrap (n - s) = n - s := wrapI (by unfold I64; omega)
        have t2 : IntKind.i64.wrap (P - (n - s)) = P - (n - s) := wrapI (by unfold I64; omega)
        have t3 : IntKind.i64.wrap (u - s) = u - s := wrapI (by unfold I64; omega)
        have t4 : IntKind.i64.wrap (v - s) = v - s := wrapI (by unfold I64; omega)
        have HV0 : Hid (lefA P lo hi n s = if v < u then ((0, 0), 9) else ((u - s, v - s), 0)) := by show _ = _; unfold lefA; rw [if_pos HC.out, if_pos ⟨h0, h1⟩, hu, hv]
        obtain ⟨d0, d1, d2⟩ := HG3.out.gcells
        have mn1 : (if lo < s then s else lo) = u := by rw [← hu]; omega
        have mn2 : (if s ≤ lo then lo else s) = u := by rw [← hu]; omega
        clear h0 h1 hw0 hw1 a1 a2 a3 a4 a5
        go_wp2_with fail
        refine (within1_c _ _ _ _ 3 _ (Blk.newS (by simp))).mono ?_
        rintro e w' ⟨rfl, rfl⟩
        rw [H0.out]
        clear c0 c1 c2
        go_wp2_with fail
        refine (within1_c _ _ _ _ 3 _ (Blk.newS (by simp))).mono ?_
        rintro e w' ⟨rfl, rfl⟩
        rw [H1.out]
        go_wp2_with fail
        have hs4 := hs3.alloc (.cells #[.int .i64 u, .int .i64 v] 23)
        have hs5 := hs4.alloc (.cells #[.int .i64 u, .int .i64 v] 23)
        have HB4 := Lib.hid ((Blk.new2 w1 (.cells #[.int .i64 n] 3) (.cells #[.int .i64 s] 3) 23 #[.int .i64 u, .int .i64 v]).alloc (.cells #[.int .i64 u, .int .i64 v] 23))
        have HR4 := Lib.hid ((HR3.out.alloc (.cells #[.int .i64 u, .int .i64 v] 23)).alloc (.cells #[.int .i64 u, .int .i64 v] 23))
        refine (turned1_c (u, v) _ 23 _ (Blk.newS (by simp))).mono ?_
        rintro e w6 ⟨rfl, hb6⟩
        have hs6 := hs5.keep hb6
        have HB6 := Lib.hid (HB4.out.keep hb6)
        have HR6 := Lib.hid (HR4.out.keep hb6)
        clear d0 d1 d2 hb6
        by_cases hh : v < u
        · have HV : Hid (lefA P lo hi n s = ((0, 0), 9)) := by show _ = _; rw [HV0.out, if_pos hh]
          rw [show decide ((u, v).2 < (u, v).1) = true from decide_eq_true hh]
          have HS9 := Lib.hid (hs6.row (g := w.heap.size + 1) (by omega) (fV (0, 0)))
          have HB9 := Lib.hid (HR6.out.row (fV (0, 0)))
          clear hh hu hv mn1 mn2
          go_wp2_with ((refine wpList_store_row rfl 23 _ _ rfl (w.heap.size + 1) _ rfl rfl 23 _ HR6.out (by kernel_rfl) rfl (by simp [Value.oneCell']) ?_))
          refine bodyPost_ret (results_ct Try.results33 _ _ _ _ rfl (load_sp HB9.out)) rfl ⟨by rw [HV.out]; rfl, HS9.out.1⟩
        · have HV : Hid (lefA P lo hi n s = ((u - s, v - s), 0)) := by show _ = _; rw [HV0.out, if_neg hh]
          rw [show decide ((u, v).2 < (u, v).1) = false from decide_eq_false hh]
          obtain ⟨b0, b1⟩ := Blk.fcells (s := (u, v)) HB6.out
          have HS9 := Lib.hid (hs6.row (g := w.heap.size + 1) (by omega) (fV (u - s, v - s)))
          have HB9 := Lib.hid (HR6.out.row (fV (u - s, v - s)))
          clear hh hu hv mn1 mn2
          go_wp2_with (refine wpList_store_row rfl 23 _ _ rfl (w.heap.size + 1) (fV (u - s, v - s)) rfl (by first | rfl | (simp; done)) 23 _ HR6.out (by kernel_rfl) rfl (by simp [Value.oneCell']) ?_)
          refine bodyPost_ret (results_ct Try.results33 _ _ _ _ rfl (load_sp HB9.out)) rfl ⟨by rw [HV.out]; rfl, HS9.out.1⟩
  · have HV : Hid (lefA P lo hi n s = ((0, 0), chkE P lo hi)) := by show _ = _; unfold lefA; rw [if_neg hc]
    obtain ⟨e, he⟩ : ∃ e, chkE P lo hi = e := ⟨_, rfl⟩
    rw [he] at HV hc ⊢
    have hc' : (e != 0) = true := by simpa using hc
    have HS9 := Lib.hid (hs1.row (g := w.heap.size + 1) (by omega) (fV (0, 0)))
    have HB9 := Lib.hid (HR1.out.row (fV (0, 0)))
    clear he hc
    go_wp2_with ((refine wpList_store_row rfl 23 _ _ rfl (w.heap.size + 1) _ rfl rfl 23 _ HR1.out (by kernel_rfl) rfl (by simp [Value.oneCell']) ?_))
    refine bodyPost_ret (results_ct Try.results33 _ _ _ _ rfl (load_sp HB9.out)) rfl ⟨by rw [HV.out]; rfl, HS9.out.1⟩
end Td
end Go.Proofs.Ytgkdidnmndmlhaa
