import Derived.Test.YtgkdidnmndmlhaaSml
import Derived.Deep.QuietTactic
import Derived.BigQuiet
/- The exported functions: Passes, Price. -/
namespace Go.Proofs.Ytgkdidnmndmlhaa
open Go.RowKit
namespace Td
set_option linter.unusedSimpArgs false
set_option linter.unusedVariables false
attribute [local go_sem] Oper.semAt_some
/-- what Passes answers. -/
def pasA (P lo hi fi pa fa se to : Int) : (Int × Int) × (Int × Int) × Int :=
  if chkP P lo hi fi pa fa se to = 0 then
    (ip (leastS (eachL (fun d => chS P.toNat fi.toNat pa.toNat fa.toNat se.toNat to.toNat d) lo.toNat hi.toNat)), ip (mostS (eachL (fun d => chS P.toNat fi.toNat pa.toNat fa.toNat se.toNat to.toNat d) lo.toNat hi.toNat)), 0)
  else ((0, 0), (0, 0), chkP P lo hi fi pa fa se to)
theorem chkP_ok {P lo hi fi pa fa se to : Int} (h : chkP P lo hi fi pa fa se to = 0) : chkE P lo hi = 0 ∧ planE P fi pa fa se to = 0 := by
  unfold chkP at h
  by_cases h1 : chkE P lo hi = 0
  · rw [if_pos h1] at h; exact ⟨h1, h⟩
  · rw [if_neg h1] at h; exact absurd h h1
/-- numbers that are not below zero, as such. -/
theorem nats8 {P lo hi fi pa fa se to : Int} (h : chkP P lo hi fi pa fa se to = 0) : ∃ P' lo' hi' F pa' fa' S to' : Nat, P = P' ∧ lo = lo' ∧ hi = hi' ∧ fi = F ∧ pa = pa' ∧ fa = fa' ∧ se = S ∧ to = to' ∧ lo' ≤ hi' ∧ hi' ≤ P' ∧ P' ≤ 20 ∧ ∀ d, d ≤ P' → Fit P' F pa' fa' S d := by
  obtain ⟨h1, h2⟩ := chkP_ok h
  obtain ⟨a1, a2, a3, a4, a5⟩ := chkE_ok.1 h1
  obtain ⟨b1, b2, b3, b4, b5, b6, b7, b8, b9, b10, -, -⟩ := planE_ok h2
  refine ⟨P.toNat, lo.toNat, hi.toNat, fi.toNat, pa.toNat, fa.toNat, se.toNat, to.toNat, by omega, by omega, by omega, by omega, by omega, by omega, by omega, by omega, by omega, by omega, by omega, fun d hd => ⟨hd, by omega, by omega, by omega, by omega⟩⟩
set_option maxRecDepth 100000 in
set_option maxHeartbeats 4000000 in
theorem Passes_c (P lo hi fi pa fa se to : Int) (w : World) :
    Calls Try.prog 27 #[.agg (gV P lo hi), .agg (lV fi pa fa se to)] w fun e w' => e = .returned (.tuple #[.agg (fV (pasA P lo hi fi pa fa se to).1), .agg (fV (pasA P lo hi fi pa fa se to).2.1), .int .i64 (pasA P lo hi fi pa fa se to).2.2]) ∧ Below w.heap.size w w' := by
  have hs0 := ((((Since.refl w).alloc (.cells (gV P lo hi) 25)).alloc (.cells (lV fi pa fa se to) 38)).alloc (.cells (fV (0, 0)) 41)).alloc (.cells (fV (0, 0)) 41)
  have HL := Lib.hid (((Blk.new1 w (.cells (gV P lo hi) 25) 38 (lV fi pa fa se to)).alloc (.cells (fV (0, 0)) 41)).alloc (.cells (fV (0, 0)) 41))
  have H1 := Lib.hid ((Blk.new2 w (.cells (gV P lo hi) 25) (.cells (lV fi pa fa se to) 38) 41 (fV (0, 0))).alloc (.cells (fV (0, 0)) 41))
  have H2 := Lib.hid (Blk.new3 w (.cells (gV P lo hi) 25) (.cells (lV fi pa fa se to) 38) (.cells (fV (0, 0)) 41) 41 (fV (0, 0)))
  have HG := Lib.hid ((((Blk.new w 25 (gV P lo hi)).alloc (.cells (lV fi pa fa se to) 38)).alloc (.cells (fV (0, 0)) 41)).alloc (.cells (fV (0, 0)) 41))
  obtain ⟨c0, c1, c2⟩ := HG.out.gcells
  obtain ⟨d0, d1, d2, d3, d4⟩ := HL.out.lcells
  go_enter Try.func27, Try.ntmps27
  go_wp2_with fail
  refine (lookBy_c P lo hi fi pa fa se to _).mono ?_
  rintro e w1 ⟨hb1, ⟨hc, g, rfl, hg⟩ | ⟨hc, rfl⟩⟩
  · have hs1 := (hs0.keep hb1).alloc (.cells #[hpP g] 87)
    have HL1 := Lib.hid ((HL.out.keep hb1).alloc (.cells #[hpP g] 87))
    have H3 := Lib.hid ((H1.out.keep hb1).alloc (.cells #[hpP g] 87))
    have H4 := Lib.hid ((H2.out.keep hb1).alloc (.cells #[hpP g] 87))
    have HB1 := Lib.hid (Blk.new w1 87 #[hpP g])
    have HG1 := Lib.hid (hg.alloc (.cells #[hpP g] 87))
    clear c0 c1 c2 d0 d1 d2 d3 d4 HG HL H1 H2 hb1 hg
    obtain ⟨P, lo, hi, F, pa, fa, S, to, rfl, rfl, rfl, rfl, rfl, rfl, rfl, rfl, hlh, hhi, hP, hfit⟩ := nats8 hc
    obtain ⟨L, hL⟩ : ∃ L, eachL (fun d => chS P F pa fa S to d) lo hi = L := ⟨_, rfl⟩
    have HV : Hid (pasA P lo hi F pa fa S to = (ip (leastS L), ip (mostS L), 0)) := by show _ = _; unfold pasA; rw [if_pos hc]; simp only [Int.toNat_natCast, hL]
    have hLne : L ≠ [] := hL ▸ eachL_ne hlh
    have hLlen : L.length ≤ 100 := by rw [← hL, eachL_len]; omega
    have hLsm : ∀ x ∈ L, Sm x := fun x hx => by
      rw [← hL] at hx
      obtain ⟨b, h1, h2, rfl⟩ := eachL_mem hx
      exact chS_sm (hfit b (by omega))
    obtain ⟨gb, hgb⟩ : ∃ gb, w1.heap.size = gb := ⟨_, rfl⟩
    rw [hgb] at HB1
    have HEA : Hid (Calls Try.prog 63 #[hpP g, .func (.func 64) #[] #[hpP gb, hpP (w.heap.size + 1)]] (w1.alloc (.cells #[hpP g] 87)) fun e w' => Below (w1.alloc (.cells #[hpP g] 87)).heap.size (w1.alloc (.cells #[hpP g] 87)) w' ∧ ∃ v, e = .returned v ∧ w'.ownsRow (w1.alloc (.cells #[hpP g] 87)).heap.size 90 2 v L.length (flS L)) := by
      rw [← hL]
      exact each_c g P lo hi 64 #[hpP gb, hpP (w.heap.size + 1)] (fun d => chS P F pa fa S to d) _ (enters_of Try.func64 (by kernel_rfl) rfl)
        (fun b W h1 h2 hb => Passes1_c g gb (w.heap.size + 1) lo hi P F pa fa S to b W (HG1.out.keep hb) (HB1.out.keep hb) (HL1.out.keep hb) (hfit b (by omega))) HG1.out hlh (by omega)
    have hcb := HB1.out.cell 0
    simp only [List.getElem?_toArray, List.getElem?_cons_zero] at hcb
    clear hL hfit hc
    go_wp2_with fail
    clear hgb
    refine HEA.out.mono ?_
    rintro e w2 ⟨hb2, v0, rfl, ho⟩
    obtain ⟨gL, cL, rfl, hF, hc1, hc2, -, -⟩ := own_shr ho hLne
    have hs2 := hs1.keep hb2
    have H5 := Lib.hid (H3.out.keep hb2)
    have H6 := Lib.hid (H4.out.keep hb2)
    have HEN := Lib.hid (ends_c gL L cL w2 hLne hLlen hF hLsm hc1 hc2)
    obtain ⟨u, hu⟩ : ∃ u, ip (leastS L) = u := ⟨_, rfl⟩
    obtain ⟨v, hv⟩ : ∃ v, ip (mostS L) = v := ⟨_, rfl⟩
    rw [hu, hv] at HEN HV
    obtain ⟨n, hn⟩ : ∃ n, L.length = n := ⟨_, rfl⟩
    rw [hn] at HEN ⊢
    clear hu hv hn ho hF hc1 hc2 hLlen hLsm hLne hcb HEA H3 H4 HB1 HG1 HL1 hb2
    go_wp2_with fail
    refine HEN.out.mono ?_
    rintro e w3 ⟨rfl, hb3⟩
    have hs3 := hs2.keep hb3
    have K5 := Lib.hid (H5.out.keep hb3)
    have K6 := Lib.hid (H6.out.keep hb3)
    have H7' := Lib.hid (K6.out.rowFar (g' := w.heap.size + 1 + 1) (by omega) (fV u))
    have H7 := Lib.hid ((K5.out.row (fV u)).rowFar (g' := w.heap.size + 1 + 1 + 1) (by omega) (fV v))
    have H8 := Lib.hid (H7'.out.row (fV v))
    have HS8 := Lib.hid ((hs3.row (g := w.heap.size + 1 + 1) (by omega) (fV u)).row (g := w.heap.size + 1 + 1 + 1) (by omega) (fV v))
    clear hs3 H5 H6 hb3 HEN
    go_wp2_with (first | (refine wpList_store_row rfl 41 _ _ rfl (w.heap.size + 1 + 1) _ rfl rfl 41 _ K5.out (by kernel_rfl) rfl (by simp [Value.oneCell']) ?_) | (refine wpList_store_row rfl 41 _ _ rfl (w.heap.size + 1 + 1 + 1) _ rfl rfl 41 _ H7'.out (by kernel_rfl) rfl (by simp [Value.oneCell']) ?_))
    dsimp only [Act.put]
    refine Vals9.region (fun _ X => (Blk X (w.heap.size + 1 + 1) 41 (fV u) ∧ Blk X (w.heap.size + 1 + 1 + 1) 41 (fV v)) ∧ Since w X) [some 26, some 27, none, none, some 6] [.is (.agg (fV u)), .is (.agg (fV v)), .is (undef), .is (undef), .is ?_] (by kernel_rfl) (by kernel_rfl) (by kernel_rfl) (by kernel_rfl) (by kernel_rfl) (by kernel_rfl) (⟨⟨H7.out.drew, H8.out.drew⟩, HS8.out.drew⟩) ?hsteps ?hfin
    case hsteps =>
      refine Vals9.Steps.run rfl ?_ ?_
      · intro a W σ hJ pre K hK
        have e4 := pre.2.2 4 _ (by kernel_rfl) rfl
        clear pre
        simp only [Array.getD_eq_getD_getElem?, List.getElem?_toArray, List.getElem?_cons_zero, List.getElem?_cons_succ, Option.getD_some] at e4
        have hS9 := hJ
        obtain ⟨⟨q1, q2⟩, q3⟩ := hS9
        obtain ⟨f0, f1⟩ := q1.fcells
        obtain ⟨f2, f3⟩ := q2.fcells
        go_simp
        exact hK _ hJ
      refine Vals9.Steps.run rfl ?_ ?_
      · intro a W σ hJ pre K hK
        have e5 := pre.2.2 5 _ (by kernel_rfl) rfl
        clear pre
        simp only [Array.getD_eq_getD_getElem?, List.getElem?_toArray, List.getElem?_cons_zero, List.getElem?_cons_succ, Option.getD_some] at e5
        have hS9 := hJ
        obtain ⟨⟨q1, q2⟩, q3⟩ := hS9
        obtain ⟨f0, f1⟩ := q1.fcells
        obtain ⟨f2, f3⟩ := q2.fcells
        go_simp
        exact hK _ hJ
      refine Vals9.Steps.run rfl ?_ ?_
      · intro a W σ hJ pre K hK
        have e4 := pre.2.2 4 _ (by kernel_rfl) rfl
        have e26 := pre.1 0 26 _ (by kernel_rfl) rfl rfl
        clear pre
        simp only [Array.getD_eq_getD_getElem?, List.getElem?_toArray, List.getElem?_cons_zero, List.getElem?_cons_succ, Option.getD_some] at e4 e26
        obtain ⟨⟨q1, q2⟩, q3⟩ := hJ
        refine wp_store_row 41 _ _ rfl (w.heap.size + 1 + 1) (fV u) (by simpa [Act.eval] using e4) (by simpa [Act.eval] using e26) 41 _ q1 (by kernel_rfl) rfl (by simp [Value.oneCell']) ?_
        exact hK _ ⟨⟨q1.row _, q2.rowFar (by omega) _⟩, q3.row (by omega) _⟩
      refine Vals9.Steps.run rfl ?_ ?_
      · intro a W σ hJ pre K hK
        have e5 := pre.2.2 5 _ (by kernel_rfl) rfl
        have e27 := pre.1 1 27 _ (by kernel_rfl) rfl rfl
        clear pre
        simp only [Array.getD_eq_getD_getElem?, List.getElem?_toArray, List.getElem?_cons_zero, List.getElem?_cons_succ, Option.getD_some] at e5 e27
        obtain ⟨⟨q1, q2⟩, q3⟩ := hJ
        refine wp_store_row 41 _ _ rfl (w.heap.size + 1 + 1 + 1) (fV v) (by simpa [Act.eval] using e5) (by simpa [Act.eval] using e27) 41 _ q2 (by kernel_rfl) rfl (by simp [Value.oneCell']) ?_
        exact hK _ ⟨⟨q1.rowFar (by omega) _, q2.row _⟩, q3.row (by omega) _⟩
      refine Vals9.Steps.run rfl ?_ ?_
      · intro a W σ hJ pre K hK
        clear pre
        go_simp
        exact hK _ hJ
      exact Vals9.Steps.nil
    case hfin =>
    rintro X σ ⟨⟨q1, q2⟩, q3⟩
    simp only [Vals9.All]
    simp only [Vals.putAll, List.setIfInBounds_toArray, List.set_cons_zero, List.set_cons_succ]
    go_wp2_with fail
    refine bodyPost_ret (results_cells2t Try.results27 _ _ _ _ _ _ rfl rfl (load_fr q1) (load_fr q2)) rfl ⟨by rw [HV.out]; rfl, q3.1⟩
  · have hs1 := (hs0.keep hb1).alloc (.cells #[.pointer none] 87)
    have H3 := Lib.hid ((H1.out.keep hb1).alloc (.cells #[.pointer none] 87))
    have H4 := Lib.hid ((H2.out.keep hb1).alloc (.cells #[.pointer none] 87))
    have H7' := Lib.hid (H4.out.rowFar (g' := w.heap.size + 1 + 1) (by omega) (fV (0, 0)))
    have H7 := Lib.hid ((H3.out.row (fV (0, 0))).rowFar (g' := w.heap.size + 1 + 1 + 1) (by omega) (fV (0, 0)))
    have H8 := Lib.hid (H7'.out.row (fV (0, 0)))
    have HS8 := Lib.hid ((hs1.row (g := w.heap.size + 1 + 1) (by omega) (fV (0, 0))).row (g := w.heap.size + 1 + 1 + 1) (by omega) (fV (0, 0)))
    have HV : Hid (pasA P lo hi fi pa fa se to = ((0, 0), (0, 0), chkP P lo hi fi pa fa se to)) := by show _ = _; unfold pasA; rw [if_neg hc]
    obtain ⟨e, he⟩ : ∃ e, chkP P lo hi fi pa fa se to = e := ⟨_, rfl⟩
    rw [he] at HV hc ⊢
    have hc' : (e != 0) = true := by simpa using hc
    clear c0 c1 c2 d0 d1 d2 d3 d4 HG HL H1 H2 hb1 he hc
    go_wp2_with (first | (refine wpList_store_row rfl 41 _ _ rfl (w.heap.size + 1 + 1) _ rfl rfl 41 _ H3.out (by kernel_rfl) rfl (by simp [Value.oneCell']) ?_) | (refine wpList_store_row rfl 41 _ _ rfl (w.heap.size + 1 + 1 + 1) _ rfl rfl 41 _ H7'.out (by kernel_rfl) rfl (by simp [Value.oneCell']) ?_))
    refine bodyPost_ret (results_cells2t Try.results27 _ _ _ _ _ _ rfl rfl (load_fr H7.out) (load_fr H8.out)) rfl ⟨by rw [HV.out]; rfl, HS8.out.1⟩
end Td
end Go.Proofs.Ytgkdidnmndmlhaa
/- The exported functions: Ways, Left. -/
namespace Go.Proofs.Ytgkdidnmndmlhaa
open Go.RowKit
namespace Td
set_option linter.unusedSimpArgs false
set_option linter.unusedVariables false
attribute [local go_sem] Oper.semAt_some
/-- what Ways answers. -/
def wayA (n k : Int) : Int × Int := if wi 0 20 n = true ∧ wi 0 n k = true then ((bn n.toNat k.toNat : Int), 0) else (0, 7)
theorem run_index_row {P : Program} {t e f : TypeId} {n sz m i : Nat} {cs : Array Value} (w : World) (h : P.underlying t = some (.array n e)) (he : P.underlying e = some (.array m f)) (hz : (P.info? e).map (·.size) = some sz) (hi : i < n) :
    (Instr.index t (.agg cs) (.int .i64 i)).run P w = .ok (.agg (cs.extract (i * sz) (i * sz + sz))) w := by
  cases hq : P.info? e with
  | none => rw [hq] at hz; cases hz
  | some ti =>
    rw [hq] at hz
    have hz' : ti.size = sz := by simpa using hz
    have h0 : (i : Int) < n := by omega
    simp [Instr.index, run_underlying h, asIntOf, part, isAgg, run_underlying he, sizeOf, typeInfo, hq, hz', hi, go_sem]
theorem run_index_int {P : Program} {t e : TypeId} {n i : Nat} {cs : Array Value} {v : Value} (w : World) (h : P.underlying t = some (.array n e)) (he : P.underlying e = some (.int .i64)) (hz : (P.info? e).map (·.size) = some 1) (hi : i < n) (hv : cs[i]? = some v) :
    (Instr.index t (.agg cs) (.int .i64 i)).run P w = .ok v w := by
  cases hq : P.info? e with
  | none => rw [hq] at hz; cases hz
  | some ti =>
    rw [hq] at hz
    have hz' : ti.size = 1 := by simpa using hz
    have h0 : (i : Int) < n := by omega
    simp [Instr.index, run_underlying h, asIntOf, part, isAgg, run_underlying he, sizeOf, typeInfo, hq, hz', hi, hv, go_sem]
theorem index_rows (n : Nat) (hn : n ≤ 20) (w : World) : (Instr.index 85 (.agg (alF tri)) (.int .i64 n)).run Try.prog w = .ok (.agg (rwF (pas n))) w := by
  have h1 : (alF tri).extract (n * 21) (n * 21 + 21) = rwF (pas n) := by
    apply Array.ext_getElem?
    intro i
    by_cases h : i < 21
    · rw [rwF_get _ h, Array.getElem?_extract, if_pos (by rw [alF_size]; omega), alF_get _ (by omega)]
      unfold tri
      rw [show (n * 21 + i) / 21 = n by omega, show (n * 21 + i) % 21 = i by omega]
      rfl
    · have e1 : (rwF (pas n))[i]? = none := Array.getElem?_eq_none (by rw [rwF_size]; omega)
      have e2 : ((alF tri).extract (n * 21) (n * 21 + 21))[i]? = none := Array.getElem?_eq_none (by rw [Array.size_extract, alF_size]; omega)
      rw [e1, e2]
  rw [run_index_row (n := 21) (sz := 21) (m := 21) (f := 3) w Try.underlying85 Try.underlying83 (by kernel_rfl) (by omega), h1]
theorem index_row (n k : Nat) (hk : k ≤ 20) (w : World) : (Instr.index 83 (.agg (rwF (pas n))) (.int .i64 k)).run Try.prog w = .ok (.int .i64 (pas n k)) w :=
  run_index_int (n := 21) w Try.underlying83 (by kernel_rfl) (by kernel_rfl) (by omega) (rwF_get _ (by omega))
set_option maxHeartbeats 2000000 in
theorem Ways_c (n k : Int) (w : World) :
    Calls Try.prog 19 #[.int .i64 n, .int .i64 k] w fun e w' => e = .returned (.tuple #[.int .i64 (wayA n k).1, .int .i64 (wayA n k).2]) ∧ Below w.heap.size w w' := by
  have hs1 := (Since.refl w).alloc (.cells #[.int .i64 n] 3)
  cases h0 : wi 0 20 n
  · have HV : Hid (wayA n k = (0, 7)) := by show _ = _; unfold wayA; rw [if_neg (by rw [h0]; rintro ⟨h, -⟩; cases h)]
    have H0 := Lib.hid h0
    clear h0
    go_enter Try.func19, Try.ntmps19
    go_wp2_with fail
    refine (within1_c _ _ _ _ 3 _ (Blk.newS (by simp))).mono ?_
    rintro e w' ⟨rfl, rfl⟩
    rw [H0.out]
    go_wp2_with fail
    go_ret2
    exact ⟨by rw [HV.out]; rfl, hs1.1⟩
  · have H0 := Lib.hid h0
    cases h1 : wi 0 n k
    · have HV : Hid (wayA n k = (0, 7)) := by show _ = _; unfold wayA; rw [if_neg (by rw [h1]; rintro ⟨-, h⟩; cases h)]
      have H1 := Lib.hid h1
      clear h0 h1
      go_enter Try.func19, Try.ntmps19
      go_wp2_with fail
      refine (within1_c _ _ _ _ 3 _ (Blk.newS (by simp))).mono ?_
      rintro e w' ⟨rfl, rfl⟩
      rw [H0.out]
      have hs2 := hs1.alloc (.cells #[.int .i64 k] 3)
      go_wp2_with fail
      refine (within1_c _ _ _ _ 3 _ (Blk.newS (by simp))).mono ?_
      rintro e w' ⟨rfl, rfl⟩
      rw [H1.out]
      go_wp2_with fail
      go_ret2
      exact ⟨by rw [HV.out]; rfl, hs2.1⟩
    · have HV : Hid (wayA n k = ((bn n.toNat k.toNat : Int), 0)) := by show _ = _; unfold wayA; rw [if_pos ⟨h0, h1⟩]
      have H1 := Lib.hid h1
      have hw0 := wi_iff.1 h0
      have hw1 := wi_iff.1 h1
      clear h0 h1
      obtain ⟨n', rfl⟩ : ∃ n' : Nat, n = n' := ⟨n.toNat, by omega⟩
      obtain ⟨k', rfl⟩ : ∃ k' : Nat, k = k' := ⟨k.toNat, by omega⟩
      have hn : n' ≤ 20 := by omega
      have hk : k' ≤ 20 := by omega
      have x0 := index_rows n' hn
      have x1 := index_row n' k' hk
      have HV' : Hid (wayA n' k' = (pas n' k', 0)) := by show _ = _; rw [HV.out]; simp only [Int.toNat_natCast]; rfl
      obtain ⟨v, hv⟩ : ∃ v, pas n' k' = v := ⟨_, rfl⟩
      rw [hv] at HV' x1
      clear hv HV hw0 hw1 hn hk
      go_enter Try.func19, Try.ntmps19
      go_wp2_with fail
      refine (within1_c _ _ _ _ 3 _ (Blk.newS (by simp))).mono ?_
      rintro e w' ⟨rfl, rfl⟩
      rw [H0.out]
      have hs2 := hs1.alloc (.cells #[.int .i64 k'] 3)
      go_wp2_with fail
      refine (within1_c _ _ _ _ 3 _ (Blk.newS (by simp))).mono ?_
      rintro e w' ⟨rfl, rfl⟩
      rw [H1.out]
      go_wp2_with fail
      refine (newRows_c _).mono ?_
      rintro e w3 ⟨rfl, hb3⟩
      have hs3 := hs2.keep hb3
      clear hb3
      go_wp2_with fail
      go_ret2
      exact ⟨by rw [HV'.out]; rfl, hs3.1⟩
/-- what Left answers. -/
def lefA (P lo hi n s : Int) : (Int × Int) × Int :=
  if chkE P lo hi = 0 then
    if wi 0 P n = true ∧ wi 0 n s = true then
      if min hi (P - (n - s)) < max lo s then ((0, 0), 9) else ((max lo s - s, min hi (P - (n - s)) - s), 0)
    else ((0, 0), 7)
  else ((0, 0), chkE P lo hi)
set_option maxRecDepth 100000 in
set_option maxHeartbeats 2000000 in
theorem Left_c (P lo hi n s : Int) (w : World) :
    Calls Try.prog 33 #[.agg (gV P lo hi), .int .i64 n, .int .i64 s] w fun e w' => e = .returned (.tuple #[.agg (fV (lefA P lo hi n s).1), .int .i64 (lefA P lo hi n s).2]) ∧ Below w.heap.size w w' := by
  have hs0 := ((Since.refl w).alloc (.cells (gV P lo hi) 25)).alloc (.cells (fV (0, 0)) 23)
  have HG := Lib.hid ((Blk.new w 25 (gV P lo hi)).alloc (.cells (fV (0, 0)) 23))
  have HR := Lib.hid (Blk.new1 w (.cells (gV P lo hi) 25) 23 (fV (0, 0)))
  go_enter Try.func33, Try.ntmps33
  go_wp2_with fail
  refine (Check_c P lo hi _).mono ?_
  rintro e w1 ⟨rfl, hb1⟩
  have hs1 := hs0.keep hb1
  have HG1 := Lib.hid (HG.out.keep hb1)
  have HR1 := Lib.hid (HR.out.keep hb1)
  clear HG HR hb1
  by_cases hc : chkE P lo hi = 0
  · obtain ⟨a1, a2, a3, a4, a5⟩ := chkE_ok.1 hc
    have HC := Lib.hid hc
    rw [hc]
    obtain ⟨c0, c1, c2⟩ := HG1.out.gcells
    have hs2 := hs1.alloc (.cells #[.int .i64 n] 3)
    have HG2 := Lib.hid (HG1.out.alloc (.cells #[.int .i64 n] 3))
    have HR2 := Lib.hid (HR1.out.alloc (.cells #[.int .i64 n] 3))
    clear hc
    cases h0 : wi 0 P n
    · have HV : Hid (lefA P lo hi n s = ((0, 0), 7)) := by show _ = _; unfold lefA; rw [if_pos HC.out, if_neg (by rw [h0]; rintro ⟨h, -⟩; cases h)]
      have H0 := Lib.hid h0
      have HS9 := Lib.hid (hs2.row (g := w.heap.size + 1) (by omega) (fV (0, 0)))
      have HB9 := Lib.hid (HR2.out.row (fV (0, 0)))
      clear h0 a1 a2 a3 a4 a5
      go_wp2_with fail
      refine (within1_c _ _ _ _ 3 _ (Blk.newS (by simp))).mono ?_
      rintro e w' ⟨rfl, rfl⟩
      rw [H0.out]
      clear c0 c1 c2
      go_wp2_with ((refine wpList_store_row rfl 23 _ _ rfl (w.heap.size + 1) _ rfl rfl 23 _ HR2.out (by kernel_rfl) rfl (by simp [Value.oneCell']) ?_))
      refine bodyPost_ret (results_ct Try.results33 _ _ _ _ rfl (load_sp HB9.out)) rfl ⟨by rw [HV.out]; rfl, HS9.out.1⟩
    · have H0 := Lib.hid h0
      have hs3 := hs2.alloc (.cells #[.int .i64 s] 3)
      have HG3 := Lib.hid (HG2.out.alloc (.cells #[.int .i64 s] 3))
      have HR3 := Lib.hid (HR2.out.alloc (.cells #[.int .i64 s] 3))
      have hw0 := wi_iff.1 h0
      cases h1 : wi 0 n s
      · have HV : Hid (lefA P lo hi n s = ((0, 0), 7)) := by show _ = _; unfold lefA; rw [if_pos HC.out, if_neg (by rw [h1]; rintro ⟨-, h⟩; cases h)]
        have H1 := Lib.hid h1
        have HS9 := Lib.hid (hs3.row (g := w.heap.size + 1) (by omega) (fV (0, 0)))
        have HB9 := Lib.hid (HR3.out.row (fV (0, 0)))
        clear h0 h1 hw0 a1 a2 a3 a4 a5
        go_wp2_with fail
        refine (within1_c _ _ _ _ 3 _ (Blk.newS (by simp))).mono ?_
        rintro e w' ⟨rfl, rfl⟩
        rw [H0.out]
        clear c0 c1 c2
        go_wp2_with fail
        refine (within1_c _ _ _ _ 3 _ (Blk.newS (by simp))).mono ?_
        rintro e w' ⟨rfl, rfl⟩
        rw [H1.out]
        go_wp2_with ((refine wpList_store_row rfl 23 _ _ rfl (w.heap.size + 1) _ rfl rfl 23 _ HR3.out (by kernel_rfl) rfl (by simp [Value.oneCell']) ?_))
        refine bodyPost_ret (results_ct Try.results33 _ _ _ _ rfl (load_sp HB9.out)) rfl ⟨by rw [HV.out]; rfl, HS9.out.1⟩
      · have H1 := Lib.hid h1
        have hw1 := wi_iff.1 h1
        obtain ⟨u, hu⟩ : ∃ u, max lo s = u := ⟨_, rfl⟩
        obtain ⟨v, hv⟩ : ∃ v, min hi (P - (n - s)) = v := ⟨_, rfl⟩
        have t1 : IntKind.i64.wrap (n - s) = n - s := wrapI (by unfold I64; omega)
        have t2 : IntKind.i64.wrap (P - (n - s)) = P - (n - s) := wrapI (by unfold I64; omega)
        have t3 : IntKind.i64.wrap (u - s) = u - s := wrapI (by unfold I64; omega)
        have t4 : IntKind.i64.wrap (v - s) = v - s := wrapI (by unfold I64; omega)
        have HV0 : Hid (lefA P lo hi n s = if v < u then ((0, 0), 9) else ((u - s, v - s), 0)) := by show _ = _; unfold lefA; rw [if_pos HC.out, if_pos ⟨h0, h1⟩, hu, hv]
        obtain ⟨d0, d1, d2⟩ := HG3.out.gcells
        have mn1 : (if lo < s then s else lo) = u := by rw [← hu]; omega
        have mn2 : (if s ≤ lo then lo else s) = u := by rw [← hu]; omega
        clear h0 h1 hw0 hw1 a1 a2 a3 a4 a5
        go_wp2_with fail
        refine (within1_c _ _ _ _ 3 _ (Blk.newS (by simp))).mono ?_
        rintro e w' ⟨rfl, rfl⟩
        rw [H0.out]
        clear c0 c1 c2
        go_wp2_with fail
        refine (within1_c _ _ _ _ 3 _ (Blk.newS (by simp))).mono ?_
        rintro e w' ⟨rfl, rfl⟩
        rw [H1.out]
        go_wp2_with fail
        have hs4 := hs3.alloc (.cells #[.int .i64 u, .int .i64 v] 23)
        have hs5 := hs4.alloc (.cells #[.int .i64 u, .int .i64 v] 23)
        have HB4 := Lib.hid ((Blk.new2 w1 (.cells #[.int .i64 n] 3) (.cells #[.int .i64 s] 3) 23 #[.int .i64 u, .int .i64 v]).alloc (.cells #[.int .i64 u, .int .i64 v] 23))
        have HR4 := Lib.hid ((HR3.out.alloc (.cells #[.int .i64 u, .int .i64 v] 23)).alloc (.cells #[.int .i64 u, .int .i64 v] 23))
        refine (turned1_c (u, v) _ 23 _ (Blk.newS (by simp))).mono ?_
        rintro e w6 ⟨rfl, hb6⟩
        have hs6 := hs5.keep hb6
        have HB6 := Lib.hid (HB4.out.keep hb6)
        have HR6 := Lib.hid (HR4.out.keep hb6)
        clear d0 d1 d2 hb6
        by_cases hh : v < u
        · have HV : Hid (lefA P lo hi n s = ((0, 0), 9)) := by show _ = _; rw [HV0.out, if_pos hh]
          rw [show decide ((u, v).2 < (u, v).1) = true from decide_eq_true hh]
          have HS9 := Lib.hid (hs6.row (g := w.heap.size + 1) (by omega) (fV (0, 0)))
          have HB9 := Lib.hid (HR6.out.row (fV (0, 0)))
          clear hh hu hv mn1 mn2
          go_wp2_with ((refine wpList_store_row rfl 23 _ _ rfl (w.heap.size + 1) _ rfl rfl 23 _ HR6.out (by kernel_rfl) rfl (by simp [Value.oneCell']) ?_))
          refine bodyPost_ret (results_ct Try.results33 _ _ _ _ rfl (load_sp HB9.out)) rfl ⟨by rw [HV.out]; rfl, HS9.out.1⟩
        · have HV : Hid (lefA P lo hi n s = ((u - s, v - s), 0)) := by show _ = _; rw [HV0.out, if_neg hh]
          rw [show decide ((u, v).2 < (u, v).1) = false from decide_eq_false hh]
          obtain ⟨b0, b1⟩ := Blk.fcells (s := (u, v)) HB6.out
          have HS9 := Lib.hid (hs6.row (g := w.heap.size + 1) (by omega) (fV (u - s, v - s)))
          have HB9 := Lib.hid (HR6.out.row (fV (u - s, v - s)))
          clear hh hu hv mn1 mn2
          go_wp2_with (refine wpList_store_row rfl 23 _ _ rfl (w.heap.size + 1) (fV (u - s, v - s)) rfl (by first | rfl | (simp; done)) 23 _ HR6.out (by kernel_rfl) rfl (by simp [Value.oneCell']) ?_)
          refine bodyPost_ret (results_ct Try.results33 _ _ _ _ rfl (load_sp HB9.out)) rfl ⟨by rw [HV.out]; rfl, HS9.out.1⟩
  · have HV : Hid (lefA P lo hi n s = ((0, 0), chkE P lo hi)) := by show _ = _; unfold lefA; rw [if_neg hc]
    obtain ⟨e, he⟩ : ∃ e, chkE P lo hi = e := ⟨_, rfl⟩
    rw [he] at HV hc ⊢
    have hc' : (e != 0) = true := by simpa using hc
    have HS9 := Lib.hid (hs1.row (g := w.heap.size + 1) (by omega) (fV (0, 0)))
    have HB9 := Lib.hid (HR1.out.row (fV (0, 0)))
    clear he hc
    go_wp2_with ((refine wpList_store_row rfl 23 _ _ rfl (w.heap.size + 1) _ rfl rfl 23 _ HR1.out (by kernel_rfl) rfl (by simp [Value.oneCell']) ?_))
    refine bodyPost_ret (results_ct Try.results33 _ _ _ _ rfl (load_sp HB9.out)) rfl ⟨by rw [HV.out]; rfl, HS9.out.1⟩
end Td
end Go.Proofs.Ytgkdidnmndmlhaa
/- The exported function Smallest. -/
namespace Go.Proofs.Ytgkdidnmndmlhaa
open Go.RowKit
namespace Td
set_option linter.unusedSimpArgs false
set_option linter.unusedVariables false
attribute [local go_sem] Oper.semAt_some
/-- what Smallest answers. -/
def smaA (P lo hi pass : Int) (x : Int × Int) : Int × Int :=
  if chkE P lo hi = 0 then
    if wi 0 P pass = true then
      if shrE x = true then
        if smF (okS P.toNat lo.toNat hi.toNat pass.toNat (shr x.1.toNat x.2.toNat)) P.toNat = 0 then (0, 9)
        else ((smF (okS P.toNat lo.toNat hi.toNat pass.toNat (shr x.1.toNat x.2.toNat)) P.toNat : Int), 0)
      else (0, 6)
    else (0, 7)
  else (0, chkE P lo hi)
set_option maxRecDepth 100000 in
set_option maxHeartbeats 2000000 in
theorem Smallest_c (P lo hi pass : Int) (x : Int × Int) (w : World) :
    Calls Try.prog 31 #[.agg (gV P lo hi), .int .i64 pass, .agg (fV x)] w fun e w' => e = .returned (.tuple #[.int .i64 (smaA P lo hi pass x).1, .int .i64 (smaA P lo hi pass x).2]) ∧ Below w.heap.size w w' := by
  have hs0 := ((Since.refl w).alloc (.cells (gV P lo hi) 25)).alloc (.cells (fV x) 41)
  have HX := Lib.hid (Blk.new1 w (.cells (gV P lo hi) 25) 41 (fV x))
  have HG := Lib.hid ((Blk.new w 25 (gV P lo hi)).alloc (.cells (fV x) 41))
  obtain ⟨c0, c1, c2⟩ := HG.out.gcells
  go_enter Try.func31, Try.ntmps31
  go_wp2_with fail
  refine (look_c P lo hi _).mono ?_
  rintro e w1 ⟨hb1, ⟨hc, g, rfl, hg⟩ | ⟨hc, rfl⟩⟩
  · have hs1 := hs0.keep hb1
    have HX1 := Lib.hid (HX.out.keep hb1)
    have HG1 := Lib.hid (HG.out.keep hb1)
    clear c0 c1 c2
    obtain ⟨c0, c1, c2⟩ := HG1.out.gcells
    have HC := Lib.hid hc
    have hs2 := hs1.alloc (.cells #[.int .i64 pass] 3)
    have HX2 := Lib.hid (HX1.out.alloc (.cells #[.int .i64 pass] 3))
    have HQ2 := Lib.hid (hg.alloc (.cells #[.int .i64 pass] 3))
    obtain ⟨f0, f1⟩ := HX2.out.fcells
    obtain ⟨a1, a2, a3, a4, a5⟩ := chkE_ok.1 hc
    clear hc hb1
    cases h0 : wi 0 P pass
    · have HV : Hid (smaA P lo hi pass x = (0, 7)) := by show _ = _; unfold smaA; rw [if_pos HC.out, if_neg (by rw [h0]; intro h; cases h)]
      have H0 := Lib.hid h0
      clear h0 a1 a2 a3 a4 a5 hg
      go_wp2_with fail
      refine (within1_c _ _ _ _ 3 _ (Blk.newS (by simp))).mono ?_
      rintro e w' ⟨rfl, rfl⟩
      rw [H0.out]
      go_wp2_with fail
      go_ret2
      exact ⟨by rw [HV.out]; rfl, hs2.1⟩
    · have H0 := Lib.hid h0
      have hw0 := wi_iff.1 h0
      cases h1 : shrE x
      · have HV : Hid (smaA P lo hi pass x = (0, 6)) := by show _ = _; unfold smaA; rw [if_pos HC.out, if_pos h0, if_neg (by rw [h1]; intro h; cases h)]
        have H1 := Lib.hid h1
        clear h0 h1 a1 a2 a3 a4 a5 hg hw0
        go_wp2_with fail
        refine (within1_c _ _ _ _ 3 _ (Blk.newS (by simp))).mono ?_
        rintro e w' ⟨rfl, rfl⟩
        rw [H0.out]
        go_wp2_with fail
        refine (shareFits_c x _).mono ?_
        rintro e w3 ⟨rfl, hb3⟩
        rw [H1.out]
        have hs3 := hs2.keep hb3
        clear f0 f1 c0 c1 c2 hb3
        go_wp2_with fail
        go_ret2
        exact ⟨by rw [HV.out]; rfl, hs3.1⟩
      · have H1 := Lib.hid h1
        obtain ⟨xo, xi⟩ := x
        have hx : 1 ≤ xi ∧ xi ≤ 1000000 ∧ 0 ≤ xo ∧ xo ≤ xi := by
          have h2 := h1
          unfold shrE at h2
          rw [Bool.and_eq_true] at h2
          have k1 := wi_iff.1 h2.1
          have k2 := wi_iff.1 h2.2
          simp only at k1 k2
          omega
        have HV0 : Hid (smaA P lo hi pass (xo, xi) = if smF (okS P.toNat lo.toNat hi.toNat pass.toNat (shr xo.toNat xi.toNat)) P.toNat = 0 then (0, 9) else ((smF (okS P.toNat lo.toNat hi.toNat pass.toNat (shr xo.toNat xi.toNat)) P.toNat : Int), 0)) := by show _ = _; unfold smaA; rw [if_pos HC.out, if_pos h0, if_pos h1]
        clear h0 h1
        obtain ⟨P, rfl⟩ : ∃ P' : Nat, P = P' := ⟨P.toNat, by omega⟩
        obtain ⟨lo, rfl⟩ : ∃ P' : Nat, lo = P' := ⟨lo.toNat, by omega⟩
        obtain ⟨hi, rfl⟩ : ∃ P' : Nat, hi = P' := ⟨hi.toNat, by omega⟩
        obtain ⟨pass, rfl⟩ : ∃ P' : Nat, pass = P' := ⟨pass.toNat, by omega⟩
        obtain ⟨xo, rfl⟩ : ∃ P' : Nat, xo = P' := ⟨xo.toNat, by omega⟩
        obtain ⟨xi, rfl⟩ : ∃ P' : Nat, xi = P' := ⟨xi.toNat, by omega⟩
        simp only [Int.toNat_natCast] at HV0
        have hsm : Sm (shr xo xi) := by have := shr_le xo xi; exact ⟨by omega, by omega⟩
        have hb1 : lo ≤ hi := by omega
        have hb2 : hi ≤ P := by omega
        have hb3 : P ≤ 20 := by omega
        have hb4 : pass ≤ P := by omega
        have HSO : Hid (∀ W, Calls Try.prog 54 #[.int .i64 xo, .int .i64 xi] W fun e w' => e = .returned (.agg (fV (ip (shr xo xi)))) ∧ Below W.heap.size W w') := fun W => shareOf_c xo xi W (by omega) (by omega) (by omega)
        have HSM : Hid (∀ W, Blk W g 97 (hpV (P : Int) (lo : Int) (hi : Int)) → Calls Try.prog 76 #[hpP g, .int .i64 pass, .agg (fV (ip (shr xo xi)))] W fun e w' => e = .returned (.tuple #[.int .i64 (smF (okS P lo hi pass (shr xo xi)) P), .bool (decide (smF (okS P lo hi pass (shr xo xi)) P ≠ 0))]) ∧ Below W.heap.size W w') := fun W hW => smallest_c g P lo hi pass _ W hW hb1 hb2 hb3 hb4 hsm
        obtain ⟨q, hq⟩ : ∃ q, ip (shr xo xi) = q := ⟨_, rfl⟩
        obtain ⟨m, hm⟩ : ∃ m, smF (okS P lo hi pass (shr xo xi)) P = m := ⟨_, rfl⟩
        rw [hq, hm] at HSM
        rw [hq] at HSO
        rw [hm] at HV0
        clear hq hm hsm hb1 hb2 hb3 hb4 hw0 hx a1 a2 a3 a4 a5 hg
        go_wp2_with fail
        refine (within1_c _ _ _ _ 3 _ (Blk.newS (by simp))).mono ?_
        rintro e w' ⟨rfl, rfl⟩
        rw [H0.out]
        go_wp2_with fail
        refine (shareFits_c (_, _) _).mono ?_
        rintro e w3 ⟨rfl, hb3⟩
        rw [H1.out]
        have hs3 := hs2.keep hb3
        have HX3 := Lib.hid (HX2.out.keep hb3)
        have HQ3 := Lib.hid (HQ2.out.keep hb3)
        clear f0 f1 c0 c1 c2 hb3
        obtain ⟨f0, f1⟩ := HX3.out.fcells
        go_wp2_with fail
        refine (HSO.out _).mono ?_
        rintro e w4 ⟨rfl, hb4⟩
        have hs4 := hs3.keep hb4
        have HQ4 := Lib.hid (HQ3.out.keep hb4)
        clear f0 f1 hb4
        go_wp2_with fail
        refine (HSM.out _ HQ4.out).mono ?_
        rintro e w5 ⟨rfl, hb5⟩
        have hs5 := hs4.keep hb5
        clear hb5
        by_cases hz : m = 0
        · have HV : Hid (smaA P lo hi pass (xo, xi) = (0, 9)) := by show _ = _; rw [HV0.out, if_pos hz]
          rw [show decide (m ≠ 0) = false from decide_eq_false (by omega)]
          clear hz
          go_wp2_with fail
          go_ret2
          exact ⟨by rw [HV.out]; rfl, hs5.1⟩
        · have HV : Hid (smaA P lo hi pass (xo, xi) = ((m : Int), 0)) := by show _ = _; rw [HV0.out, if_neg hz]
          rw [show decide (m ≠ 0) = true from decide_eq_true (by omega)]
          clear hz
          go_wp2_with fail
          go_ret2
          exact ⟨by rw [HV.out]; rfl, hs5.1⟩
  · have hs1 := hs0.keep hb1
    have HV : Hid (smaA P lo hi pass x = (0, chkE P lo hi)) := by show _ = _; unfold smaA; rw [if_neg hc]
    obtain ⟨e, he⟩ : ∃ e, chkE P lo hi = e := ⟨_, rfl⟩
    rw [he] at HV hc ⊢
    have hc' : (e != 0) = true := by simpa using hc
    clear c0 c1 c2 he hc
    go_wp2_with fail
    go_ret2
    exact ⟨by rw [HV.out]; rfl, hs1.1⟩
end Td
end Go.Proofs.Ytgkdidnmndmlhaa
/- The exported function Price. -/
namespace Go.Proofs.Ytgkdidnmndmlhaa
open Go.RowKit
namespace Td
set_option linter.unusedSimpArgs false
set_option linter.unusedVariables false
attribute [local go_sem] Oper.semAt_some
/-- what Price answers. -/
def priA (P lo hi : Int) (xs : List Int) : (Int × Int) × (Int × Int) × Int :=
  if chkE P lo hi = 0 then
    if wi 1 (P + 1) xs.length = true then
      if wl 0 100000 xs = true then
        (ip (leastS (eachL (prS P.toNat (xs.length - 1) xs) lo.toNat hi.toNat)), ip (mostS (eachL (prS P.toNat (xs.length - 1) xs) lo.toNat hi.toNat)), 0)
      else ((0, 0), (0, 0), 7)
    else ((0, 0), (0, 0), 3)
  else ((0, 0), (0, 0), chkE P lo hi)
theorem wl_mem {lo hi : Int} {xs : List Int} (h : wl lo hi xs = true) : ∀ x ∈ xs, lo ≤ x ∧ x ≤ hi := fun x hx => by
  unfold wl at h
  exact wi_iff.1 (List.all_eq_true.1 h x hx)
set_option maxRecDepth 100000 in
set_option maxHeartbeats 4000000 in
theorem Price_c (P lo hi : Int) (A : Option Addr) (xs : List Int) (c : Nat) (w : World) (hp : InAt w A xs) :
    Calls Try.prog 35 #[.agg (gV P lo hi), .slice A xs.length c] w fun e w' => e = .returned (.tuple #[.agg (fV (priA P lo hi xs).1), .agg (fV (priA P lo hi xs).2.1), .int .i64 (priA P lo hi xs).2.2]) ∧ Below w.heap.size w w' := by
  have hs0 := ((((Since.refl w).alloc (.cells (gV P lo hi) 25)).alloc (.cells #[.slice A xs.length c] 51)).alloc (.cells (fV (0, 0)) 41)).alloc (.cells (fV (0, 0)) 41)
  have HL := Lib.hid (((Blk.new1 w (.cells (gV P lo hi) 25) 51 #[.slice A xs.length c]).alloc (.cells (fV (0, 0)) 41)).alloc (.cells (fV (0, 0)) 41))
  have H1 := Lib.hid ((Blk.new2 w (.cells (gV P lo hi) 25) (.cells #[.slice A xs.length c] 51) 41 (fV (0, 0))).alloc (.cells (fV (0, 0)) 41))
  have H2 := Lib.hid (Blk.new3 w (.cells (gV P lo hi) 25) (.cells #[.slice A xs.length c] 51) (.cells (fV (0, 0)) 41) 41 (fV (0, 0)))
  have HG := Lib.hid ((((Blk.new w 25 (gV P lo hi)).alloc (.cells #[.slice A xs.length c] 51)).alloc (.cells (fV (0, 0)) 41)).alloc (.cells (fV (0, 0)) 41))
  obtain ⟨c0, c1, c2⟩ := HG.out.gcells
  have HP := Lib.hid hp
  clear hp
  go_enter Try.func35, Try.ntmps35
  go_wp2_with fail
  refine (look_c P lo hi _).mono ?_
  rintro e w1 ⟨hb1, ⟨hc, g, rfl, hg⟩ | ⟨hc, rfl⟩⟩
  · have hs1 := (hs0.keep hb1).alloc (.cells #[hpP g] 87)
    have HL1 := Lib.hid ((HL.out.keep hb1).alloc (.cells #[hpP g] 87))
    have HQ1 := Lib.hid ((HG.out.keep hb1).alloc (.cells #[hpP g] 87))
    have H3 := Lib.hid ((H1.out.keep hb1).alloc (.cells #[hpP g] 87))
    have H4 := Lib.hid ((H2.out.keep hb1).alloc (.cells #[hpP g] 87))
    have HB1 := Lib.hid (Blk.new w1 87 #[hpP g])
    have HG1 := Lib.hid (hg.alloc (.cells #[hpP g] 87))
    clear c0 c1 c2 HG HL H1 H2 hb1 hg
    obtain ⟨c0, c1, c2⟩ := HQ1.out.gcells
    have l0 := HL1.out.cell 0
    simp only [List.getElem?_toArray, List.getElem?_cons_zero] at l0
    obtain ⟨a1, a2, a3, a4, a5⟩ := chkE_ok.1 hc
    have HC := Lib.hid hc
    have t1 : IntKind.i64.wrap (P + 1) = P + 1 := wrapI (by unfold I64; omega)
    clear hc
    obtain ⟨W1, hW1⟩ : ∃ W1, w1.alloc (.cells #[hpP g] 87) = W1 := ⟨_, rfl⟩
    obtain ⟨gb, hgb⟩ : ∃ gb, w1.heap.size = gb := ⟨_, rfl⟩
    rw [hgb] at HB1
    rw [hW1] at hs1 HL1 HQ1 H3 H4 HB1 HG1 c0 c1 c2 l0
    have hs2 := hs1.alloc (.cells #[.int .i64 xs.length] 3)
    have H5 := Lib.hid (H3.out.alloc (.cells #[.int .i64 xs.length] 3))
    have H6 := Lib.hid (H4.out.alloc (.cells #[.int .i64 xs.length] 3))
    cases h0 : wi 1 (P + 1) xs.length
    · have HV : Hid (priA P lo hi xs = ((0, 0), (0, 0), 3)) := by show _ = _; unfold priA; rw [if_pos HC.out, if_neg (by rw [h0]; intro h; cases h)]
      have H0 := Lib.hid h0
      obtain ⟨n, hn⟩ : ∃ n, xs.length = n := ⟨_, rfl⟩
      rw [hn] at H0 H5 H6 hs2 l0 ⊢
      have H7' := Lib.hid (H6.out.rowFar (g' := w.heap.size + 1 + 1) (by omega) (fV (0, 0)))
      have H7 := Lib.hid ((H5.out.row (fV (0, 0))).rowFar (g' := w.heap.size + 1 + 1 + 1) (by omega) (fV (0, 0)))
      have H8 := Lib.hid (H7'.out.row (fV (0, 0)))
      have HS8 := Lib.hid ((hs2.row (g := w.heap.size + 1 + 1) (by omega) (fV (0, 0))).row (g := w.heap.size + 1 + 1 + 1) (by omega) (fV (0, 0)))
      clear h0 a1 a2 a3 a4 a5 hn hgb H3 H4 HB1 HG1 HL1 HQ1
      go_wp2_with fail
      refine (within1_c _ _ _ _ 3 _ (Blk.newS (by simp))).mono ?_
      rintro e w' ⟨rfl, rfl⟩
      rw [H0.out]
      clear c0 c1 c2 l0
      go_wp2_with (first | (refine wpList_store_row rfl 41 _ _ rfl (w.heap.size + 1 + 1) _ rfl rfl 41 _ H5.out (by kernel_rfl) rfl (by simp [Value.oneCell']) ?_) | (refine wpList_store_row rfl 41 _ _ rfl (w.heap.size + 1 + 1 + 1) _ rfl rfl 41 _ H7'.out (by kernel_rfl) rfl (by simp [Value.oneCell']) ?_))
      refine bodyPost_ret (results_cells2t Try.results35 _ _ _ _ _ _ rfl rfl (load_fr H7.out) (load_fr H8.out)) rfl ⟨by rw [HV.out]; rfl, HS8.out.1⟩
    · have hw0 := wi_iff.1 h0
      have H0 := Lib.hid h0
      have hlen : xs.length ≤ 1000 := by omega
      have HP1 := Lib.hid ((HP.out.keep hs2.1))
      cases h1 : wl 0 100000 xs
      · have HV : Hid (priA P lo hi xs = ((0, 0), (0, 0), 7)) := by show _ = _; unfold priA; rw [if_pos HC.out, if_pos h0, if_neg (by rw [h1]; intro h; cases h)]
        have HWI := Lib.hid (withins_c A xs c 0 100000 _ hlen HP1.out)
        rw [h1] at HWI
        obtain ⟨n, hn⟩ : ∃ n, xs.length = n := ⟨_, rfl⟩
        rw [hn] at H0 H5 H6 hs2 l0 HWI HL1 ⊢
        have HL2 := Lib.hid (HL1.out.alloc (.cells #[.int .i64 n] 3))
        have l1 := HL2.out.cell 0
        simp only [List.getElem?_toArray, List.getElem?_cons_zero] at l1
        have H7' := Lib.hid (H6.out.rowFar (g' := w.heap.size + 1 + 1) (by omega) (fV (0, 0)))
        have H7 := Lib.hid ((H5.out.row (fV (0, 0))).rowFar (g' := w.heap.size + 1 + 1 + 1) (by omega) (fV (0, 0)))
        have H8 := Lib.hid (H7'.out.row (fV (0, 0)))
        have HS8 := Lib.hid ((hs2.row (g := w.heap.size + 1 + 1) (by omega) (fV (0, 0))).row (g := w.heap.size + 1 + 1 + 1) (by omega) (fV (0, 0)))
        clear h0 h1 a1 a2 a3 a4 a5 hn hgb hlen hw0 H3 H4 HB1 HG1 HL1 HQ1
        go_wp2_with fail
        refine (within1_c _ _ _ _ 3 _ (Blk.newS (by simp))).mono ?_
        rintro e w' ⟨rfl, rfl⟩
        rw [H0.out]
        clear c0 c1 c2 l0
        go_wp2_with fail
        refine HWI.out.mono ?_
        rintro e w' ⟨rfl, rfl⟩
        clear l1
        go_wp2_with (first | (refine wpList_store_row rfl 41 _ _ rfl (w.heap.size + 1 + 1) _ rfl rfl 41 _ H5.out (by kernel_rfl) rfl (by simp [Value.oneCell']) ?_) | (refine wpList_store_row rfl 41 _ _ rfl (w.heap.size + 1 + 1 + 1) _ rfl rfl 41 _ H7'.out (by kernel_rfl) rfl (by simp [Value.oneCell']) ?_))
        refine bodyPost_ret (results_cells2t Try.results35 _ _ _ _ _ _ rfl rfl (load_fr H7.out) (load_fr H8.out)) rfl ⟨by rw [HV.out]; rfl, HS8.out.1⟩
      · obtain ⟨P, rfl⟩ : ∃ P' : Nat, P = P' := ⟨P.toNat, by omega⟩
        obtain ⟨lo, rfl⟩ : ∃ P' : Nat, lo = P' := ⟨lo.toNat, by omega⟩
        obtain ⟨hi, rfl⟩ : ∃ P' : Nat, hi = P' := ⟨hi.toNat, by omega⟩
        obtain ⟨L, hL⟩ : ∃ L, eachL (prS P (xs.length - 1) xs) lo hi = L := ⟨_, rfl⟩
        have HV : Hid (priA P lo hi xs = (ip (leastS L), ip (mostS L), 0)) := by show _ = _; unfold priA; rw [if_pos HC.out, if_pos h0, if_pos h1]; simp only [Int.toNat_natCast, hL]
        have hlh : lo ≤ hi := by omega
        have hhi : hi ≤ P := by omega
        have hP : P ≤ 20 := by omega
        have hLne : L ≠ [] := hL ▸ eachL_ne hlh
        have hLlen : L.length ≤ 100 := by rw [← hL, eachL_len]; omega
        have hLsm : ∀ x ∈ L, Sm x := fun x hx => by
          rw [← hL] at hx
          obtain ⟨b, h1', h2', rfl⟩ := eachL_mem hx
          exact prS_sm (wl_mem h1) (by omega) hP
        have HG2 := Lib.hid (HG1.out.alloc (.cells #[.int .i64 xs.length] 3))
        have HB2 := Lib.hid (HB1.out.alloc (.cells #[.int .i64 xs.length] 3))
        have HL2 := Lib.hid (HL1.out.alloc (.cells #[.int .i64 xs.length] 3))
        have HWI := Lib.hid (withins_c A xs c 0 100000 _ hlen HP1.out)
        rw [h1] at HWI
        have HEA : Hid (Calls Try.prog 63 #[hpP g, .func (.func 78) #[] #[hpP gb, hpP (w.heap.size + 1)]] (W1.alloc (.cells #[.int .i64 xs.length] 3)) fun e w' => Below (W1.alloc (.cells #[.int .i64 xs.length] 3)).heap.size (W1.alloc (.cells #[.int .i64 xs.length] 3)) w' ∧ ∃ v, e = .returned v ∧ w'.ownsRow (W1.alloc (.cells #[.int .i64 xs.length] 3)).heap.size 90 2 v L.length (flS L)) := by
          rw [← hL]
          exact each_c g P lo hi 78 #[hpP gb, hpP (w.heap.size + 1)] (prS P (xs.length - 1) xs) _ (enters_of Try.func78 (by kernel_rfl) rfl)
            (fun b W h1' h2' hb => Price1_c g gb (w.heap.size + 1) lo hi P b (xs.length - 1) A xs c W (HG2.out.keep hb) (HB2.out.keep hb) (HL2.out.keep hb) (HP1.out.keep hb) (by omega) (wl_mem h1) (by omega) (by omega) hP) HG2.out hlh (by omega)
        obtain ⟨n, hn⟩ : ∃ n, xs.length = n := ⟨_, rfl⟩
        rw [hn] at H0 H5 H6 hs2 l0 HWI HEA HB2 HL2 ⊢
        have l1 := HL2.out.cell 0
        have hcb := HB2.out.cell 0
        simp only [List.getElem?_toArray, List.getElem?_cons_zero] at l1 hcb
        clear h0 h1 a1 a2 a3 a4 a5 hn hw0 hlen H3 H4 HB1 HG1 HL1 HQ1 hL hlh hhi hP HG2 HB2 HL2
        go_wp2_with fail
        refine (within1_c _ _ _ _ 3 _ (Blk.newS (by simp))).mono ?_
        rintro e w' ⟨rfl, rfl⟩
        rw [H0.out]
        clear c0 c1 c2 l0
        go_wp2_with fail
        refine HWI.out.mono ?_
        rintro e w' ⟨rfl, rfl⟩
        go_wp2_with fail
        clear hW1 hgb
        refine HEA.out.mono ?_
        rintro e w2 ⟨hb2, v0, rfl, ho⟩
        obtain ⟨gL, cL, rfl, hF, hc1, hc2, -, -⟩ := own_shr ho hLne
        have hs3 := hs2.keep hb2
        have K5 := Lib.hid (H5.out.keep hb2)
        have K6 := Lib.hid (H6.out.keep hb2)
        have HEN := Lib.hid (ends_c gL L cL w2 hLne hLlen hF hLsm hc1 hc2)
        obtain ⟨u, hu⟩ : ∃ u, ip (leastS L) = u := ⟨_, rfl⟩
        obtain ⟨v, hv⟩ : ∃ v, ip (mostS L) = v := ⟨_, rfl⟩
        rw [hu, hv] at HEN HV
        obtain ⟨m, hm⟩ : ∃ m, L.length = m := ⟨_, rfl⟩
        rw [hm] at HEN ⊢
        clear hu hv hm ho hF hc1 hc2 hLlen hLsm hLne hcb l1 HEA hb2
        go_wp2_with fail
        refine HEN.out.mono ?_
        rintro e w3 ⟨rfl, hb3⟩
        have hs4 := hs3.keep hb3
        have M5 := Lib.hid (K5.out.keep hb3)
        have M6 := Lib.hid (K6.out.keep hb3)
        have H7' := Lib.hid (M6.out.rowFar (g' := w.heap.size + 1 + 1) (by omega) (fV u))
        have H7 := Lib.hid ((M5.out.row (fV u)).rowFar (g' := w.heap.size + 1 + 1 + 1) (by omega) (fV v))
        have H8 := Lib.hid (H7'.out.row (fV v))
        have HS8 := Lib.hid ((hs4.row (g := w.heap.size + 1 + 1) (by omega) (fV u)).row (g := w.heap.size + 1 + 1 + 1) (by omega) (fV v))
        clear hs4 K5 K6 hb3 HEN
        go_wp2_with (first | (refine wpList_store_row rfl 41 _ _ rfl (w.heap.size + 1 + 1) _ rfl rfl 41 _ M5.out (by kernel_rfl) rfl (by simp [Value.oneCell']) ?_) | (refine wpList_store_row rfl 41 _ _ rfl (w.heap.size + 1 + 1 + 1) _ rfl rfl 41 _ H7'.out (by kernel_rfl) rfl (by simp [Value.oneCell']) ?_))
        dsimp only [Act.put]
        refine Vals9.region (fun _ X => (Blk X (w.heap.size + 1 + 1) 41 (fV u) ∧ Blk X (w.heap.size + 1 + 1 + 1) 41 (fV v)) ∧ Since w X) [some 40, some 41, none, none, some 6] [.is (.agg (fV u)), .is (.agg (fV v)), .is (undef), .is (undef), .is ?_] (by kernel_rfl) (by kernel_rfl) (by kernel_rfl) (by kernel_rfl) (by kernel_rfl) (by kernel_rfl) (⟨⟨H7.out.drew, H8.out.drew⟩, HS8.out.drew⟩) ?hsteps ?hfin
        case hsteps =>
          refine Vals9.Steps.run rfl ?_ ?_
          · intro a W σ hJ pre K hK
            have e4 := pre.2.2 4 _ (by kernel_rfl) rfl
            clear pre
            simp only [Array.getD_eq_getD_getElem?, List.getElem?_toArray, List.getElem?_cons_zero, List.getElem?_cons_succ, Option.getD_some] at e4
            have hS9 := hJ
            obtain ⟨⟨q1, q2⟩, q3⟩ := hS9
            obtain ⟨f0, f1⟩ := q1.fcells
            obtain ⟨f2, f3⟩ := q2.fcells
            go_simp
            exact hK _ hJ
          refine Vals9.Steps.run rfl ?_ ?_
          · intro a W σ hJ pre K hK
            have e5 := pre.2.2 5 _ (by kernel_rfl) rfl
            clear pre
            simp only [Array.getD_eq_getD_getElem?, List.getElem?_toArray, List.getElem?_cons_zero, List.getElem?_cons_succ, Option.getD_some] at e5
            have hS9 := hJ
            obtain ⟨⟨q1, q2⟩, q3⟩ := hS9
            obtain ⟨f0, f1⟩ := q1.fcells
            obtain ⟨f2, f3⟩ := q2.fcells
            go_simp
            exact hK _ hJ
          refine Vals9.Steps.run rfl ?_ ?_
          · intro a W σ hJ pre K hK
            have e4 := pre.2.2 4 _ (by kernel_rfl) rfl
            have e40 := pre.1 0 40 _ (by kernel_rfl) rfl rfl
            clear pre
            simp only [Array.getD_eq_getD_getElem?, List.getElem?_toArray, List.getElem?_cons_zero, List.getElem?_cons_succ, Option.getD_some] at e4 e40
            obtain ⟨⟨q1, q2⟩, q3⟩ := hJ
            refine wp_store_row 41 _ _ rfl (w.heap.size + 1 + 1) (fV u) (by simpa [Act.eval] using e4) (by simpa [Act.eval] using e40) 41 _ q1 (by kernel_rfl) rfl (by simp [Value.oneCell']) ?_
            exact hK _ ⟨⟨q1.row _, q2.rowFar (by omega) _⟩, q3.row (by omega) _⟩
          refine Vals9.Steps.run rfl ?_ ?_
          · intro a W σ hJ pre K hK
            have e5 := pre.2.2 5 _ (by kernel_rfl) rfl
            have e41 := pre.1 1 41 _ (by kernel_rfl) rfl rfl
            clear pre
            simp only [Array.getD_eq_getD_getElem?, List.getElem?_toArray, List.getElem?_cons_zero, List.getElem?_cons_succ, Option.getD_some] at e5 e41
            obtain ⟨⟨q1, q2⟩, q3⟩ := hJ
            refine wp_store_row 41 _ _ rfl (w.heap.size + 1 + 1 + 1) (fV v) (by simpa [Act.eval] using e5) (by simpa [Act.eval] using e41) 41 _ q2 (by kernel_rfl) rfl (by simp [Value.oneCell']) ?_
            exact hK _ ⟨⟨q1.rowFar (by omega) _, q2.row _⟩, q3.row (by omega) _⟩
          refine Vals9.Steps.run rfl ?_ ?_
          · intro a W σ hJ pre K hK
            clear pre
            go_simp
            exact hK _ hJ
          exact Vals9.Steps.nil
        case hfin =>
        rintro X σ ⟨⟨q1, q2⟩, q3⟩
        simp only [Vals9.All]
        simp only [Vals.putAll, List.setIfInBounds_toArray, List.set_cons_zero, List.set_cons_succ]
        go_wp2_with fail
        refine bodyPost_ret (results_cells2t Try.results35 _ _ _ _ _ _ rfl rfl (load_fr q1) (load_fr q2)) rfl ⟨by rw [HV.out]; rfl, q3.1⟩
  · have hs1 := (hs0.keep hb1).alloc (.cells #[.pointer none] 87)
    have H3 := Lib.hid ((H1.out.keep hb1).alloc (.cells #[.pointer none] 87))
    have H4 := Lib.hid ((H2.out.keep hb1).alloc (.cells #[.pointer none] 87))
    have HV : Hid (priA P lo hi xs = ((0, 0), (0, 0), chkE P lo hi)) := by show _ = _; unfold priA; rw [if_neg hc]
    obtain ⟨e, he⟩ : ∃ e, chkE P lo hi = e := ⟨_, rfl⟩
    rw [he] at HV hc ⊢
    have hc' : (e != 0) = true := by simpa using hc
    have H7' := Lib.hid (H4.out.rowFar (g' := w.heap.size + 1 + 1) (by omega) (fV (0, 0)))
    have H7 := Lib.hid ((H3.out.row (fV (0, 0))).rowFar (g' := w.heap.size + 1 + 1 + 1) (by omega) (fV (0, 0)))
    have H8 := Lib.hid (H7'.out.row (fV (0, 0)))
    have HS8 := Lib.hid ((hs1.row (g := w.heap.size + 1 + 1) (by omega) (fV (0, 0))).row (g := w.heap.size + 1 + 1 + 1) (by omega) (fV (0, 0)))
    clear c0 c1 c2 HG HL H1 H2 hb1 he hc
    go_wp2_with (first | (refine wpList_store_row rfl 41 _ _ rfl (w.heap.size + 1 + 1) _ rfl rfl 41 _ H3.out (by kernel_rfl) rfl (by simp [Value.oneCell']) ?_) | (refine wpList_store_row rfl 41 _ _ rfl (w.heap.size + 1 + 1 + 1) _ rfl rfl 41 _ H7'.out (by kernel_rfl) rfl (by simp [Value.oneCell']) ?_))
    refine bodyPost_ret (results_cells2t Try.results35 _ _ _ _ _ _ rfl rfl (load_fr H7.out) (load_fr H8.out)) rfl ⟨by rw [HV.out]; rfl, HS8.out.1⟩
end Td
end Go.Proofs.Ytgkdidnmndmlhaa
/- Where a share stands first. -/
namespace Go.Proofs.Ytgkdidnmndmlhaa
open Go.RowKit
namespace Td
set_option linter.unusedSimpArgs false
set_option linter.unusedVariables false
attribute [local go_sem] Oper.semAt_some
/-- where a share stands first. -/
def posS (x : Nat × Nat) : List (Nat × Nat) → Nat
  | [] => 0
  | y :: r => if y = x then 0 else posS x r + 1
theorem posS_is {x : Nat × Nat} : ∀ {l : List (Nat × Nat)} {k : Nat} (h : k < l.length), l[k] = x → (∀ j (hj : j < k), l[j] ≠ x) → posS x l = k
  | [], k, h, _, _ => by simp at h
  | y :: r, 0, h, e, _ => by
    have e' : y = x := by simpa using e
    unfold posS
    rw [if_pos e']
  | y :: r, k + 1, h, e, hn => by
    have hk : k < r.length := by simpa using h
    have h0 : y ≠ x := by simpa using hn 0 (by omega)
    have ih := posS_is (x := x) (l := r) (k := k) hk (by simpa using e) (fun j hj => by simpa using hn (j + 1) (by omega))
    unfold posS
    rw [if_neg h0, ih]
theorem posS_lt {x : Nat × Nat} : ∀ {l : List (Nat × Nat)}, x ∈ l → posS x l < l.length
  | [], h => by simp at h
  | y :: r, h => by
    unfold posS
    by_cases e : y = x
    · rw [if_pos e]; simp
    · rw [if_neg e]
      have := posS_lt (l := r) (x := x) (by
        rcases List.mem_cons.1 h with h | h
        · exact absurd h.symm e
        · exact h)
      simp; omega
set_option maxRecDepth 100000 in
set_option maxHeartbeats 2000000 in
theorem Index_c (g : Nat) (l : List (Nat × Nat)) (c : Nat) (x : Nat × Nat) (w : World) (hlen : l.length ≤ 100) (hp : FrB w g l) (hx : x ∈ l) :
    Calls Try.prog 73 #[.slice (some ⟨g, 0, none⟩) l.length c, .agg (fV (ip x))] w fun e w' => e = .returned (.int .i64 (posS x l)) ∧ Below w.heap.size w w' := by
  have hl0 : 0 < l.length := List.length_pos_of_mem hx
  have hgl : g < w.heap.size := cell_lt (hp.get hl0).1
  have HS0 := Lib.hid ((Since.refl w).alloc (.cells (fV (ip x)) 90))
  have HX0 := Lib.hid (Blk.new w 90 (fV (ip x)))
  obtain ⟨L, hL⟩ : ∃ L, l.length = L := ⟨_, rfl⟩
  have HL := Lib.hid hL
  rw [hL] at hlen hl0 ⊢
  clear hL
  have HP := Lib.hid hp
  have HM := Lib.hid hx
  clear hp hx
  go_enter Try.func73, Try.ntmps73
  go_wp2_with fail
  obtain ⟨w2, hw2⟩ : ∃ w2, w.alloc (.cells (fV (ip x)) 90) = w2 := ⟨_, rfl⟩
  rw [hw2] at HS0 HX0 ⊢
  clear hw2
  go_loopw [8] (fun i wr => ∃ k : Nat, k ≤ L ∧ i = .int .i64 k ∧ Hid (Blk wr w.heap.size 90 (fV (ip x))) ∧ Hid (Since w wr) ∧ Hid (∀ j (hj : j < k) (hl : j < l.length), l[j] ≠ x)) (fun i _ => L - (intOf i).toNat)
  case atStart => exact ⟨0, by omega, rfl, HX0, HS0, fun j hj => by omega⟩
  case round =>
    obtain ⟨k, hk, rfl, HX, HS, HN⟩ := hrel
    by_cases hlt : k < L
    · have hkl : k < l.length := by have := HL.out; omega
      obtain ⟨d0, d1⟩ := (HP.out.keep HS.out.1).get hkl
      obtain ⟨f0, f1⟩ := HX.out.fcells
      have q2 : (k : Int) < (L : Int) := by omega
      have q4 : (0 : Int) ≤ (k : Int) := by omega
      have HQ : Hid (l[k] = x → posS x l = k) := fun e => posS_is hkl e (fun j hj => HN.out j hj (by omega))
      have HN2 : Hid (l[k] ≠ x → ∀ j (hj : j < k + 1) (hl : j < l.length), l[j] ≠ x) := fun e j hj hl => by
        rcases Nat.lt_or_ge j k with h | h
        · exact HN.out j h hl
        · have : j = k := by omega
          subst this
          exact e
      obtain ⟨y, hyy⟩ : ∃ y, l[k] = y := ⟨_, rfl⟩
      rw [hyy] at d0 d1 HQ HN2
      clear hyy hkl
      by_cases he : y = x
      · subst he
        have HV : Hid (posS y l = k) := HQ.out rfl
        go_wp2_with fail
        go_quiet (fail)
        go_wp2_with fail
        go_ret
        exact ⟨by rw [HV.out]; rfl, bdrew HS.out.1 _⟩
      · have HN3 := Lib.hid (HN2.out he)
        clear HN2 HQ
        have hcase : (¬ (x.1 : Int) = (y.1 : Int)) ∨ ((x.1 : Int) = (y.1 : Int) ∧ ¬ (x.2 : Int) = (y.2 : Int)) := by
          rcases Nat.lt_trichotomy x.1 y.1 with h | h | h
          · left; omega
          · right
            refine ⟨by omega, fun h2 => he (Prod.ext h.symm (by omega))⟩
          · left; omega
        have w1 : IntKind.i64.wrap ((k : Int) + 1) = ((k + 1 : Nat) : Int) := by rw [wrapI (by unfold I64; omega)]; omega
        have HSd : Hid (∀ n, Since w (wr.drewN n)) := fun n => ⟨bdrew HS.out.1 n, HS.out.2⟩
        have HXd : Hid (∀ n, Blk (wr.drewN n) w.heap.size 90 (fV (ip x))) := fun n => HX.out
        clear he
        rcases hcase with r1 | ⟨r1, r2⟩
        · go_wp2_with fail
          go_quiet (fail)
          go_wp2_with fail
          go_roundw
          case rel => exact ⟨k + 1, by omega, by go_num, HXd.out _, HSd.out _, HN3⟩
          case measure => simp [intOf]; omega
        · obtain ⟨x1, x2⟩ := x
          obtain ⟨y1, y2⟩ := y
          obtain rfl : x1 = y1 := by have := r1; simp only at this; omega
          clear r1
          dsimp only at r2
          go_wp2_with fail
          go_quiet (fail)
          go_wp2_with fail
          go_roundw
          case rel => exact ⟨k + 1, by omega, by go_num, HXd.out _, HSd.out _, HN3⟩
          case measure => simp [intOf]; omega
    · exfalso
      obtain ⟨i, hi, e⟩ := List.getElem_of_mem HM.out
      exact HN.out i (by have := HL.out; omega) hi e
end Td
end Go.Proofs.Ytgkdidnmndmlhaa
/- The exported function Worst. -/
namespace Go.Proofs.Ytgkdidnmndmlhaa
open Go.RowKit
namespace Td
set_option linter.unusedSimpArgs false
set_option linter.unusedVariables false
attribute [local go_sem] Oper.semAt_some
theorem FrB.rowFar {w : World} {g g' : Nat} {l : List (Nat × Nat)} (h : FrB w g l) (hg : g' ≠ g) (new : Array Value) : FrB (w.setRow g' new) g l := fun i s hs => by
  have e : ∀ k, (w.setRow g' new).cell? ⟨g, k, none⟩ = w.cell? ⟨g, k, none⟩ := fun k => by
    simp only [World.cell?, setRow_other w g' g new (Ne.symm hg)]
  rw [e, e]
  exact h i s hs
/-- what is worst, as it is told at the end. -/
structure Wo (w : World) (P lo hi : Int) (gL : Nat) (L : List (Nat × Nat)) (g9 : Nat) (m : Nat × Nat) (s : Option Value) (X : World) : Prop where
  sn : Since w X
  bg : Blk X w.heap.size 25 (gV P lo hi)
  b9 : Blk X g9 90 (fV (ip m))
  fr : FrB X gL L
  b5 : ∃ r, Blk X (w.heap.size + 1 + 1) 41 (fV r) ∧ ∀ v, s = some v → r = ip m
theorem Wo.keep {w : World} {P lo hi : Int} {gL : Nat} {L : List (Nat × Nat)} {g9 : Nat} {m : Nat × Nat} {s : Option Value} {X Y : World} (h : Wo w P lo hi gL L g9 m s X) (hb : Below X.heap.size X Y) : Wo w P lo hi gL L g9 m s Y :=
  ⟨h.sn.keep hb, h.bg.keep hb, h.b9.keep hb, h.fr.keep hb, by obtain ⟨r, h1, h2⟩ := h.b5; exact ⟨r, h1.keep hb, h2⟩⟩
theorem Wo.put {w : World} {P lo hi : Int} {gL : Nat} {L : List (Nat × Nat)} {g9 : Nat} {m : Nat × Nat} {s t : Option Value} {X : World} {r : Int × Int} (h : Wo w P lo hi gL L g9 m s X) (hr : Blk X (w.heap.size + 1 + 1) 41 (fV r)) (h9 : w.heap.size + 1 + 1 < g9) (hL : w.heap.size + 1 + 1 < gL) : Wo w P lo hi gL L g9 m t (X.setRow (w.heap.size + 1 + 1) (fV (ip m))) :=
  ⟨h.sn.row (by omega) _, h.bg.rowFar (by omega) _, h.b9.rowFar (by omega) _, h.fr.rowFar (by omega) _, ⟨_, hr.row _, fun _ _ => rfl⟩⟩
/-- what Worst answers. -/
def worA (P lo hi fi pa fa se to : Int) : Int × (Int × Int) × Int :=
  if chkP P lo hi fi pa fa se to = 0 then
    (((lo.toNat + posS (mostS (eachL (fun d => stS P.toNat fi.toNat pa.toNat fa.toNat se.toNat to.toNat d) lo.toNat hi.toNat)) (eachL (fun d => stS P.toNat fi.toNat pa.toNat fa.toNat se.toNat to.toNat d) lo.toNat hi.toNat) : Nat) : Int), ip (mostS (eachL (fun d => stS P.toNat fi.toNat pa.toNat fa.toNat se.toNat to.toNat d) lo.toNat hi.toNat)), 0)
  else (0, (0, 0), chkP P lo hi fi pa fa se to)
set_option maxRecDepth 100000 in
set_option maxHeartbeats 4000000 in
theorem Worst_c (P lo hi fi pa fa se to : Int) (w : World) :
    Calls Try.prog 29 #[.agg (gV P lo hi), .agg (lV fi pa fa se to)] w fun e w' => e = .returned (.tuple #[.int .i64 (worA P lo hi fi pa fa se to).1, .agg (fV (worA P lo hi fi pa fa se to).2.1), .int .i64 (worA P lo hi fi pa fa se to).2.2]) ∧ Below w.heap.size w w' := by
  have hs0 := (((Since.refl w).alloc (.cells (gV P lo hi) 25)).alloc (.cells (lV fi pa fa se to) 38)).alloc (.cells (fV (0, 0)) 41)
  have HL := Lib.hid ((Blk.new1 w (.cells (gV P lo hi) 25) 38 (lV fi pa fa se to)).alloc (.cells (fV (0, 0)) 41))
  have H1 := Lib.hid (Blk.new2 w (.cells (gV P lo hi) 25) (.cells (lV fi pa fa se to) 38) 41 (fV (0, 0)))
  have HG := Lib.hid (((Blk.new w 25 (gV P lo hi)).alloc (.cells (lV fi pa fa se to) 38)).alloc (.cells (fV (0, 0)) 41))
  obtain ⟨c0, c1, c2⟩ := HG.out.gcells
  obtain ⟨d0, d1, d2, d3, d4⟩ := HL.out.lcells
  have hz := hs0.2
  have hz3 : w.heap.size + 1 + 1 < (((w.alloc (.cells (gV P lo hi) 25)).alloc (.cells (lV fi pa fa se to) 38)).alloc (.cells (fV (0, 0)) 41)).heap.size := H1.out.lt
  go_enter Try.func29, Try.ntmps29
  go_wp2_with fail
  refine (lookBy_c P lo hi fi pa fa se to _).mono ?_
  rintro e w1 ⟨hb1, ⟨hc, g, rfl, hg⟩ | ⟨hc, rfl⟩⟩
  · have hz1 : w.heap.size + 1 + 1 < w1.heap.size := Nat.lt_of_lt_of_le hz3 hb1.size
    have hs1 := (hs0.keep hb1).alloc (.cells #[hpP g] 87)
    have HL1 := Lib.hid ((HL.out.keep hb1).alloc (.cells #[hpP g] 87))
    have HQ1 := Lib.hid ((HG.out.keep hb1).alloc (.cells #[hpP g] 87))
    have H3 := Lib.hid ((H1.out.keep hb1).alloc (.cells #[hpP g] 87))
    have HB1 := Lib.hid (Blk.new w1 87 #[hpP g])
    have HG1 := Lib.hid (hg.alloc (.cells #[hpP g] 87))
    clear c0 c1 c2 d0 d1 d2 d3 d4 HG HL H1 hb1 hg hz3 hz
    obtain ⟨P, lo, hi, F, pa, fa, S, to, rfl, rfl, rfl, rfl, rfl, rfl, rfl, rfl, hlh, hhi, hP, hfit⟩ := nats8 hc
    obtain ⟨L, hL⟩ : ∃ L, eachL (fun d => stS P F pa fa S to d) lo hi = L := ⟨_, rfl⟩
    have HV : Hid (worA P lo hi F pa fa S to = (((lo + posS (mostS L) L : Nat) : Int), ip (mostS L), 0)) := by show _ = _; unfold worA; rw [if_pos hc]; simp only [Int.toNat_natCast, hL]
    have hLne : L ≠ [] := hL ▸ eachL_ne hlh
    have hLlen : L.length ≤ 100 := by rw [← hL, eachL_len]; omega
    have hLsm : ∀ x ∈ L, Sm x := fun x hx => by
      rw [← hL] at hx
      obtain ⟨b, h1, h2, rfl⟩ := eachL_mem hx
      exact stS_sm (hfit b (by omega))
    obtain ⟨gb, hgb⟩ : ∃ gb, w1.heap.size = gb := ⟨_, rfl⟩
    rw [hgb] at HB1
    have HEA : Hid (Calls Try.prog 63 #[hpP g, .func (.func 69) #[] #[hpP gb, hpP (w.heap.size + 1)]] (w1.alloc (.cells #[hpP g] 87)) fun e w' => Below (w1.alloc (.cells #[hpP g] 87)).heap.size (w1.alloc (.cells #[hpP g] 87)) w' ∧ ∃ v, e = .returned v ∧ w'.ownsRow (w1.alloc (.cells #[hpP g] 87)).heap.size 90 2 v L.length (flS L)) := by
      rw [← hL]
      exact each_c g P lo hi 69 #[hpP gb, hpP (w.heap.size + 1)] (fun d => stS P F pa fa S to d) _ (enters_of Try.func69 (by kernel_rfl) rfl)
        (fun b W h1 h2 hb => Worst1_c g gb (w.heap.size + 1) lo hi P F pa fa S to b W (HG1.out.keep hb) (HB1.out.keep hb) (HL1.out.keep hb) (hfit b (by omega))) HG1.out hlh (by omega)
    have hcb := HB1.out.cell 0
    simp only [List.getElem?_toArray, List.getElem?_cons_zero] at hcb
    have HHI := Lib.hid hhi
    have HPP := Lib.hid hP
    clear hL hfit hc
    go_wp2_with fail
    clear hgb
    refine HEA.out.mono ?_
    rintro e w2 ⟨hb2, v0, rfl, ho⟩
    obtain ⟨gL, cL, rfl, hF, hc1, hc2, hBL, hgL2⟩ := own_shr ho hLne
    have hgL : w.heap.size + 1 + 1 < gL := Nat.lt_of_lt_of_le hz1 (Nat.le_trans (by simp) hBL)
    have hs2 := hs1.keep hb2
    have HQ2 := Lib.hid (HQ1.out.keep hb2)
    have H5 := Lib.hid (H3.out.keep hb2)
    have hz2 : w.heap.size + 1 + 1 < w2.heap.size := Nat.lt_trans hgL hgL2
    have HFO := Lib.hid (foreA_c gL L cL w2 hLne hLlen hF hLsm hc1 hc2)
    have hmm : mostS L ∈ L := fore_mem _ hLne
    have HIX := Lib.hid (fun W (hW : FrB W gL L) => Index_c gL L cL (mostS L) W hLlen hW hmm)
    have hpl : posS (mostS L) L < L.length := posS_lt hmm
    obtain ⟨m, hm⟩ : ∃ m, mostS L = m := ⟨_, rfl⟩
    rw [hm] at HFO HIX HV hpl
    have t1 : IntKind.i64.wrap ((lo : Int) + ((posS m L : Nat) : Int)) = ((lo + posS m L : Nat) : Int) := by rw [wrapI (by unfold I64; omega)]; omega
    obtain ⟨n, hn⟩ : ∃ n, L.length = n := ⟨_, rfl⟩
    rw [hn] at HFO HIX ⊢
    have HFR := Lib.hid hF
    clear hm hmm hpl hn ho hF hc1 hc2 hLlen hLsm hLne hcb HEA H3 HB1 HG1 HL1 HQ1 hb2 hz1 hgL2 hBL hlh hhi hP
    have ea := enters_of Try.func72 (by kernel_rfl) rfl
    go_wp2_with fail
    refine HFO.out.mono ?_
    rintro e w3 ⟨rfl, hb3⟩
    have HS5 := Lib.hid ((hs2.keep hb3).alloc (.cells (fV (ip m)) 90))
    have HQ5 := Lib.hid ((HQ2.out.keep hb3).alloc (.cells (fV (ip m)) 90))
    have HR5 := Lib.hid ((H5.out.keep hb3).alloc (.cells (fV (ip m)) 90))
    have HF5 := Lib.hid ((HFR.out.keep hb3).keep ((Below.refl _ _).alloc (Nat.le_refl _) (.cells (fV (ip m)) 90)))
    have HM5 := Lib.hid (Blk.new w3 90 (fV (ip m)))
    have hg9 : w.heap.size + 1 + 1 < w3.heap.size := Nat.lt_of_lt_of_le hz2 hb3.size
    obtain ⟨g9, h9⟩ : ∃ g9, w3.heap.size = g9 := ⟨_, rfl⟩
    rw [h9] at HM5 hg9
    clear hs2 HQ2 H5 HFR HFO hb3 hz2 ea
    go_wp2_with fail
    clear h9
    try dsimp only [Act.put]
    refine Vals9.region (fun σ X => Wo w (P : Int) (lo : Int) (hi : Int) gL L g9 m (σ 9) X) [some 25, some 26, some 27, some 28, some 29, some 30, some 31, some 32, some 4, none, some 6] [.is ?_, .is ?_, .is (.int .i64 lo), .is ?_, .is (.agg (fV (ip m))), .is (.int .i64 (posS m L)), .is (.int .i64 ((lo + posS m L : Nat) : Int)), .is (.agg (fV (ip m))), .is (.int .i64 ((lo + posS m L : Nat) : Int)), .any, .is ?_] (by kernel_rfl) (by kernel_rfl) (by kernel_rfl) (by kernel_rfl) (by kernel_rfl) (by kernel_rfl) (⟨HS5.out.drew, HQ5.out.drew, HM5.out.drew, HF5.out, ⟨_, HR5.out.drew, fun v hv => by cases hv⟩⟩) ?hsteps ?hfin
    case hsteps =>
      refine Vals9.Steps.run rfl ?_ ?_
      · intro a W σ hJ pre K hK
        have e2 := pre.2.2 2 _ (by kernel_rfl) rfl
        clear pre
        simp only [Array.getD_eq_getD_getElem?, List.getElem?_toArray, List.getElem?_cons_zero, List.getElem?_cons_succ, Option.getD_some] at e2
        go_simp
        exact hK _ hJ
      refine Vals9.Steps.run rfl ?_ ?_
      · intro a W σ hJ pre K hK
        have e25 := pre.1 0 25 _ (by kernel_rfl) rfl rfl
        clear pre
        simp only [Array.getD_eq_getD_getElem?, List.getElem?_toArray, List.getElem?_cons_zero, List.getElem?_cons_succ, Option.getD_some] at e25
        go_simp
        exact hK _ hJ
      refine Vals9.Steps.run rfl ?_ ?_
      · intro a W σ hJ pre K hK
        have e26 := pre.1 1 26 _ (by kernel_rfl) rfl rfl
        clear pre
        simp only [Array.getD_eq_getD_getElem?, List.getElem?_toArray, List.getElem?_cons_zero, List.getElem?_cons_succ, Option.getD_some] at e26
        have hS9 := hJ
        have hW9 : Wo w (P : Int) (lo : Int) (hi : Int) gL L g9 m (σ 9) W := hS9
        obtain ⟨c0, c1, c2⟩ := hW9.bg.gcells
        obtain ⟨f0, f1⟩ := hW9.b9.fcells
        go_simp
        exact hK _ hJ
      refine Vals9.Steps.run rfl ?_ ?_
      · intro a W σ hJ pre K hK
        have e8 := pre.2.2 8 _ (by kernel_rfl) rfl
        clear pre
        simp only [Array.getD_eq_getD_getElem?, List.getElem?_toArray, List.getElem?_cons_zero, List.getElem?_cons_succ, Option.getD_some] at e8
        go_simp
        exact hK _ hJ
      refine Vals9.Steps.run rfl ?_ ?_
      · intro a W σ hJ pre K hK
        have e9 := pre.2.2 9 _ (by kernel_rfl) rfl
        clear pre
        simp only [Array.getD_eq_getD_getElem?, List.getElem?_toArray, List.getElem?_cons_zero, List.getElem?_cons_succ, Option.getD_some] at e9
        have hS9 := hJ
        have hW9 : Wo w (P : Int) (lo : Int) (hi : Int) gL L g9 m (σ 9) W := hS9
        obtain ⟨c0, c1, c2⟩ := hW9.bg.gcells
        obtain ⟨f0, f1⟩ := hW9.b9.fcells
        go_simp
        exact hK _ hJ
      refine Vals9.Steps.run rfl ?_ ?_
      · intro a W σ hJ pre K hK
        have e28 := pre.1 3 28 _ (by kernel_rfl) rfl rfl
        have e29 := pre.1 4 29 _ (by kernel_rfl) rfl rfl
        clear pre
        simp only [Array.getD_eq_getD_getElem?, List.getElem?_toArray, List.getElem?_cons_zero, List.getElem?_cons_succ, Option.getD_some] at e28 e29
        go_simp
        have hW9 : Wo w (P : Int) (lo : Int) (hi : Int) gL L g9 m (σ 9) W := hJ
        refine (HIX.out W hW9.fr).mono ?_
        rintro e w' ⟨rfl, hb'⟩
        exact hK _ (hW9.keep hb')
      refine Vals9.Steps.run rfl ?_ ?_
      · intro a W σ hJ pre K hK
        have e27 := pre.1 2 27 _ (by kernel_rfl) rfl rfl
        have e30 := pre.1 5 30 _ (by kernel_rfl) rfl rfl
        clear pre
        simp only [Array.getD_eq_getD_getElem?, List.getElem?_toArray, List.getElem?_cons_zero, List.getElem?_cons_succ, Option.getD_some] at e27 e30
        go_simp
        exact hK _ hJ
      refine Vals9.Steps.run rfl ?_ ?_
      · intro a W σ hJ pre K hK
        have e9 := pre.2.2 9 _ (by kernel_rfl) rfl
        clear pre
        simp only [Array.getD_eq_getD_getElem?, List.getElem?_toArray, List.getElem?_cons_zero, List.getElem?_cons_succ, Option.getD_some] at e9
        have hS9 := hJ
        have hW9 : Wo w (P : Int) (lo : Int) (hi : Int) gL L g9 m (σ 9) W := hS9
        obtain ⟨c0, c1, c2⟩ := hW9.bg.gcells
        obtain ⟨f0, f1⟩ := hW9.b9.fcells
        go_simp
        exact hK _ hJ
      refine Vals9.Steps.run rfl ?_ ?_
      · intro a W σ hJ pre K hK
        have e31 := pre.1 6 31 _ (by kernel_rfl) rfl rfl
        clear pre
        simp only [Array.getD_eq_getD_getElem?, List.getElem?_toArray, List.getElem?_cons_zero, List.getElem?_cons_succ, Option.getD_some] at e31
        go_simp
        exact hK _ hJ
      refine Vals9.Steps.mark rfl ?_ ?_
      · intro a W σ hJ hn pre K hK
        have e5 := pre.2.2 5 _ (by kernel_rfl) rfl
        have e32 := pre.1 7 32 _ (by kernel_rfl) rfl rfl
        simp only [Array.getD_eq_getD_getElem?, List.getElem?_toArray, List.getElem?_cons_zero, List.getElem?_cons_succ, Option.getD_some] at e5 e32
        have hJ2 : Wo w (P : Int) (lo : Int) (hi : Int) gL L g9 m (σ 9) W := hJ
        obtain ⟨r, hr, -⟩ := hJ2.b5
        refine wp_store_row 41 _ _ rfl (w.heap.size + 1 + 1) (fV (ip m)) (by simpa [Act.eval] using e5) (by simpa [Act.eval] using e32) 41 _ hr (by kernel_rfl) rfl (by simp [Value.oneCell']) ?_
        exact hK undef _ (hJ2.put hr hg9 hgL)
      refine Vals9.Steps.run rfl ?_ ?_
      · intro a W σ hJ pre K hK
        clear pre
        go_simp
        exact hK _ hJ
      exact Vals9.Steps.nil
    case hfin =>
    rintro X σ hJ
    simp only [Vals9.All]
    intro v9 hv9
    have hW9 : Wo w (P : Int) (lo : Int) (hi : Int) gL L g9 m (σ 9) X := hJ
    obtain ⟨r, hr, hrm⟩ := hW9.b5
    obtain rfl := hrm _ hv9
    have hsn := hW9.sn
    clear hJ hW9 hrm hv9
    simp only [Vals.putAll, List.setIfInBounds_toArray, List.set_cons_zero, List.set_cons_succ]
    go_wp2_with fail
    refine bodyPost_ret (results_tct Try.results29 _ _ _ _ rfl (load_fr hr)) rfl ⟨by rw [HV.out]; rfl, hsn.1⟩
  · have hs1 := (hs0.keep hb1).alloc (.cells #[.pointer none] 87)
    have H3 := Lib.hid ((H1.out.keep hb1).alloc (.cells #[.pointer none] 87))
    have H7 := Lib.hid (H3.out.row (fV (0, 0)))
    have HS8 := Lib.hid (hs1.row (g := w.heap.size + 1 + 1) (by omega) (fV (0, 0)))
    have HV : Hid (worA P lo hi fi pa fa se to = (0, (0, 0), chkP P lo hi fi pa fa se to)) := by show _ = _; unfold worA; rw [if_neg hc]
    obtain ⟨e, he⟩ : ∃ e, chkP P lo hi fi pa fa se to = e := ⟨_, rfl⟩
    rw [he] at HV hc ⊢
    have hc' : (e != 0) = true := by simpa using hc
    clear c0 c1 c2 d0 d1 d2 d3 d4 HG HL H1 hb1 he hc
    go_wp2_with ((refine wpList_store_row rfl 41 _ _ rfl (w.heap.size + 1 + 1) _ rfl rfl 41 _ H3.out (by kernel_rfl) rfl (by simp [Value.oneCell']) ?_))
    refine bodyPost_ret (results_tct Try.results29 _ _ _ _ rfl (load_fr H7.out)) rfl ⟨by rw [HV.out]; rfl, HS8.out.1⟩
end Td
end Go.Proofs.Ytgkdidnmndmlhaa
