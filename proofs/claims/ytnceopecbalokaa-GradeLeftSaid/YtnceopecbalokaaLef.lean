import Derived.Test.YtnceopecbalokaaMathE
import Derived.Test.YtnceopecbalokaaRefA
import Derived.Test.YtnceopecbalokaaAwk
import Derived.Deep.QuietTactic
import Derived.BigQuiet
/- The law GradeLeft: what it returns. -/
namespace Go.Proofs.Ytnceopecbalokaa
open Go.RowKit
namespace Td
set_option linter.unusedSimpArgs false
set_option linter.unusedVariables false
attribute [local go_sem] Oper.semAt_some
/-- the number of a share in a list of them. -/
def Rk (w : World) (g s k : Nat) : Prop := ∃ t cs, Blk w g t cs ∧ cs[s * 2]? = some (.int .i64 (k : Nat))
theorem Rk.keep {w w' : World} {g s k : Nat} (h : Rk w g s k) (hb : Below w.heap.size w w') : Rk w' g s k := by
  obtain ⟨t, cs, h1, h2⟩ := h
  exact ⟨t, cs, h1.keep hb, h2⟩
theorem Rk.cell {w : World} {g s k : Nat} (h : Rk w g s k) : w.cell? ⟨g, s * 2, none⟩ = some (.int .i64 (k : Nat)) := by
  obtain ⟨t, cs, h1, h2⟩ := h
  rw [h1.cell, h2]
theorem shows_at (P lo hi d n s N : Nat) (w : World) (hc : chkE P lo hi = 0) (h1 : lo ≤ d) (h2 : d ≤ hi) (hn : n ≤ P) (hs : s ≤ n) (hN : n + 1 = N) :
    Calls Try.prog 21 #[.agg (gV P lo hi), .int .i64 d, .int .i64 n] w fun e w' => (∃ g, e = .returned (.tuple #[.slice (some ⟨g, 0, none⟩) N N, .int .i64 0]) ∧ Rk w' g s (shr (sh P d n s) (bn P n)).1) ∧ Below w.heap.size w w' := by
  subst hN
  have he : shwE P lo hi d n = 0 := by
    unfold shwE
    rw [if_pos hc, if_pos ⟨wi_iff.2 (by omega), wi_iff.2 (by omega)⟩]
  refine (Shows_c P lo hi d n w).mono ?_
  rintro e w' ⟨hb, ⟨-, g, e1, -, hB⟩ | ⟨h, -⟩⟩
  · simp only [Int.toNat_natCast] at e1 hB
    refine ⟨⟨g, e1, _, _, hB, ?_⟩, hb⟩
    rw [List.getElem?_toArray]
    exact (flS_get _ s _ (shwL_get hs)).1
  · exact absurd he h
theorem shr_one_pos {a b : Nat} (ha : 0 < a) (hb : 0 < b) : 0 < (shr a b).1 := by
  obtain ⟨g, hg, h1, -, -⟩ := shr_spec a hb
  rcases Nat.eq_zero_or_pos (shr a b).1 with h | h
  · rw [h, Nat.mul_zero] at h1; omega
  · exact h
theorem can_pos {P d n s : Nat} (hn : n ≤ P) (h1 : s ≤ d) (h2 : n - s ≤ P - d) : 0 < (shr (sh P d n s) (bn P n)).1 := shr_one_pos (sh_pos h1 h2) (bn_pos hn)
theorem can_none {P d n s : Nat} (hn : n ≤ P) (h : d < s ∨ P - d < n - s) : (shr (sh P d n s) (bn P n)).1 = 0 := by
  rw [sh_none h, shr_zero (bn_pos hn)]
set_option maxRecDepth 100000 in
set_option maxHeartbeats 8000000 in
theorem gradeLeft_c (P lo hi : Int) (xa xb xc : Nat) (w : World) (ha : xa ≤ 255) (hb0 : xb ≤ 255) (hc0 : xc ≤ 255) :
    Calls Try.prog 15 #[.agg (gV P lo hi), .agg #[.int .u8 xa, .int .u8 xb, .int .u8 xc]] w fun e w' => e = .returned (.bool true) ∧ Below w.heap.size w w' := by
  have hs := ((Since.refl w).alloc (.cells (gV P lo hi) 25)).alloc (.cells #[.int .u8 xa, .int .u8 xb, .int .u8 xc] 58)
  have HG := Lib.hid ((Blk.new w 25 (gV P lo hi)).alloc (.cells #[.int .u8 xa, .int .u8 xb, .int .u8 xc] 58))
  have HL := Lib.hid (Blk.new1 w (.cells (gV P lo hi) 25) 58 #[.int .u8 xa, .int .u8 xb, .int .u8 xc])
  obtain ⟨c0, c1, c2⟩ := HG.out.gcells
  go_enter Try.func15, Try.ntmps15
  go_wp2_with fail
  refine (rCheck_c P lo hi _).mono ?_
  rintro e v1 ⟨rfl, hb⟩
  replace hs := hs.keep hb
  replace HG := Lib.hid (HG.out.keep hb)
  replace HL := Lib.hid (HL.out.keep hb)
  clear hb c0 c1 c2
  by_cases hc : chkE P lo hi = 0
  · rw [hc]
    have hcc := hc
    obtain ⟨a1, a2, a3, a4, a5⟩ := chkE_ok.1 hc
    clear hc
    obtain ⟨P, rfl⟩ : ∃ P' : Nat, P = P' := ⟨P.toNat, by omega⟩
    obtain ⟨lo, rfl⟩ : ∃ P' : Nat, lo = P' := ⟨lo.toNat, by omega⟩
    obtain ⟨hi, rfl⟩ : ∃ P' : Nat, hi = P' := ⟨hi.toNat, by omega⟩
    have hlh : lo ≤ hi := by omega
    have hhi : hi ≤ P := by omega
    have hP : P ≤ 20 := by omega
    obtain ⟨p1, hp1⟩ : ∃ m, P + 1 = m := ⟨_, rfl⟩
    obtain ⟨n, hn⟩ : ∃ r, xc % p1 = r := ⟨_, rfl⟩
    obtain ⟨dl, hdl⟩ : ∃ m, hi - lo = m := ⟨_, rfl⟩
    obtain ⟨m, hm⟩ : ∃ m, dl + 1 = m := ⟨_, rfl⟩
    obtain ⟨r, hr⟩ : ∃ r, xb % m = r := ⟨_, rfl⟩
    obtain ⟨d, hd⟩ : ∃ d, lo + r = d := ⟨_, rfl⟩
    obtain ⟨n1, hn1⟩ : ∃ m, n + 1 = m := ⟨_, rfl⟩
    obtain ⟨s, hs'⟩ : ∃ r, xa % n1 = r := ⟨_, rfl⟩
    have hnp : n < p1 := by rw [← hn]; exact Nat.mod_lt _ (by omega)
    have hrm : r < m := by rw [← hr]; exact Nat.mod_lt _ (by omega)
    have hsn : s < n1 := by rw [← hs']; exact Nat.mod_lt _ (by omega)
    have t1 : IntKind.i64.wrap ((P : Int) + 1) = (p1 : Int) := by rw [wrapI (by unfold I64; omega)]; omega
    have t2 : IntKind.i64.wrap ((hi : Int) - (lo : Int)) = (dl : Int) := by rw [wrapI (by unfold I64; omega)]; omega
    have t3 : IntKind.i64.wrap ((dl : Int) + 1) = (m : Int) := by rw [wrapI (by unfold I64; omega)]; omega
    have t4 : IntKind.i64.wrap ((lo : Int) + (r : Int)) = (d : Int) := by rw [wrapI (by unfold I64; omega)]; omega
    have t5 : IntKind.i64.wrap ((n : Int) + 1) = (n1 : Int) := by rw [wrapI (by unfold I64; omega)]; omega
    have u1 : IntKind.i64.wrap (xa : Int) = (xa : Int) := wrapI (by unfold I64; omega)
    have u2 : IntKind.i64.wrap (xb : Int) = (xb : Int) := wrapI (by unfold I64; omega)
    have u3 : IntKind.i64.wrap (xc : Int) = (xc : Int) := wrapI (by unfold I64; omega)
    have m1 : (xc : Int).tmod (p1 : Int) = (n : Int) := by rw [← hn]; rfl
    have m2 : (xb : Int).tmod (m : Int) = (r : Int) := by rw [← hr]; rfl
    have m3 : (xa : Int).tmod (n1 : Int) = (s : Int) := by rw [← hs']; rfl
    have q1 : IntKind.i64.wrap (n : Int) = (n : Int) := wrapI (by unfold I64; omega)
    have q2 : IntKind.i64.wrap (r : Int) = (r : Int) := wrapI (by unfold I64; omega)
    have q3 : IntKind.i64.wrap (s : Int) = (s : Int) := wrapI (by unfold I64; omega)
    have z1 : ¬ p1 = 0 := by omega
    have z2 : ¬ m = 0 := by omega
    have z3 : ¬ n1 = 0 := by omega
    have y1 : ¬ (p1 : Int) = 0 := by omega
    have y2 : ¬ (m : Int) = 0 := by omega
    have y3 : ¬ (n1 : Int) = 0 := by omega
    have x1 : s < n1 := hsn
    have x2 : (s : Int) < (n1 : Int) := by omega
    have hnP : n ≤ P := by omega
    have hsn2 : s ≤ n := by omega
    have hd1 : lo ≤ d := by omega
    have hd2 : d ≤ hi := by omega
    have HSA : Hid (∀ D : Nat, lo ≤ D → D ≤ hi → ∀ W, Calls Try.prog 21 #[.agg (gV P lo hi), .int .i64 D, .int .i64 n] W fun e w' => (∃ g, e = .returned (.tuple #[.slice (some ⟨g, 0, none⟩) n1 n1, .int .i64 0]) ∧ Rk w' g s (shr (sh P D n s) (bn P n)).1) ∧ Below W.heap.size W w') := fun D h1 h2 W => shows_at P lo hi D n s n1 W hcc h1 h2 hnP hsn2 hn1
    have hSA := HSA.out d hd1 hd2
    have hlef : lefA P lo hi n s = if min (hi : Int) ((P : Int) - ((n : Int) - s)) < max (lo : Int) s then ((0, 0), 9) else ((max (lo : Int) s - s, min (hi : Int) ((P : Int) - ((n : Int) - s)) - s), 0) := by
      unfold lefA
      rw [if_pos hcc, if_pos ⟨wi_iff.2 (by omega), wi_iff.2 (by omega)⟩]
    have hcan : ∀ D : Nat, D ≤ P → (0 < (shr (sh P D n s) (bn P n)).1 ↔ s ≤ D ∧ n - s ≤ P - D) := fun D hD => by
      constructor
      · intro h
        refine ⟨Nat.le_of_not_lt fun h2 => ?_, Nat.le_of_not_lt fun h2 => ?_⟩
        · rw [can_none hnP (.inl h2)] at h; omega
        · rw [can_none hnP (.inr h2)] at h; omega
      · rintro ⟨h1, h2⟩
        exact can_pos hnP h1 h2
    obtain ⟨c0, c1, c2⟩ := HG.out.gcells
    have d0 := HL.out.cell 0
    have d1 := HL.out.cell 1
    have d2 := HL.out.cell 2
    simp only [List.getElem?_toArray, List.getElem?_cons_zero, List.getElem?_cons_succ] at d0 d1 d2
    have HGd : Hid (∀ k, Blk (v1.drewN k) w.heap.size 25 (gV P lo hi)) := fun k => HG.out
    have HLd : Hid (∀ k, Blk (v1.drewN k) (w.heap.size + 1) 58 #[.int .u8 xa, .int .u8 xb, .int .u8 xc]) := fun k => HL.out
    have HSd : Hid (∀ k, Since w (v1.drewN k)) := fun k => ⟨bdrew hs.1 k, hs.2⟩
    clear hp1 hn hdl hm hr hd hs' hnp hrm ha hb0 hc0
    go_wp2_with fail
    go_quiet (fail)
    obtain ⟨v2, hv2⟩ : ∃ v2, v1.drewN nq = v2 := ⟨_, rfl⟩
    have hs2 := HSd.out nq
    have HG2 := Lib.hid (HGd.out nq)
    have HL2 := Lib.hid (HLd.out nq)
    rw [hv2] at hs2 HG2 HL2 ⊢
    clear hv2 c0 c1 c2 d0 d1 d2 HGd HLd HSd hs HG HL
    obtain ⟨c0, c1, c2⟩ := HG2.out.gcells
    go_wp2_with fail
    refine (hSA _).mono ?_
    rintro e v3 ⟨⟨gA, rfl, hk⟩, hb⟩
    replace hs2 := hs2.keep hb
    replace HG2 := Lib.hid (HG2.out.keep hb)
    replace HL2 := Lib.hid (HL2.out.keep hb)
    clear hb c0 c1 c2
    have HKA := Lib.hid hk
    clear hk hSA
    obtain ⟨c0, c1, c2⟩ := HG2.out.gcells
    have d0 := HL2.out.cell 0
    simp only [List.getElem?_toArray, List.getElem?_cons_zero, List.getElem?_cons_succ] at d0
    go_wp2_with fail
    refine (Left_c P lo hi n s _).mono ?_
    rintro e v4 ⟨rfl, hb⟩
    replace hs2 := hs2.keep hb
    replace HG2 := Lib.hid (HG2.out.keep hb)
    replace HKA := Lib.hid (HKA.out.keep hb)
    clear hb c0 c1 c2 d0 HL2
    obtain ⟨k, hk⟩ : ∃ k, (shr (sh P d n s) (bn P n)).1 = k := ⟨_, rfl⟩
    have hcd := hcan d (by omega)
    rw [hk] at HKA hcd
    by_cases hdn : min (hi : Int) ((P : Int) - ((n : Int) - s)) < max (lo : Int) s
    · rw [hlef, if_pos hdn]
      have hk0 : k = 0 := by
        rcases Nat.eq_zero_or_pos k with h | h
        · exact h
        · have := hcd.1 h; omega
      have f1 : ¬ 0 < k := by omega
      have f2 : ¬ (0 : Int) < (k : Int) := by omega
      have e1 := ((HKA.out.keep ((Below.refl _ _).alloc (Nat.le_refl _) (.cells #[.int .i64 0, .int .i64 0] 23)))).cell
      replace hs2 := hs2.alloc (.cells #[.int .i64 0, .int .i64 0] 23)
      clear hk hk0 hcd hlef hcan HSA hdn
      go_wp2_with fail
      refine (awake_c _).mono ?_
      rintro e v5 ⟨rfl, hb⟩
      replace hs2 := hs2.keep hb
      clear e1 hb
      go_wp2_with fail
      go_ret
      exact ⟨rfl, hs2.1⟩
    · rw [hlef, if_neg hdn]
      obtain ⟨u, hu⟩ : ∃ u : Nat, (u : Int) = max (lo : Int) s - s := ⟨(max (lo : Int) s - s).toNat, by omega⟩
      obtain ⟨v, hv⟩ : ∃ v : Nat, (v : Int) = min (hi : Int) ((P : Int) - ((n : Int) - s)) - s := ⟨(min (hi : Int) ((P : Int) - ((n : Int) - s)) - s).toNat, by omega⟩
      rw [← hu, ← hv]
      obtain ⟨A, hA⟩ : ∃ A, u + s = A := ⟨_, rfl⟩
      obtain ⟨B, hB⟩ : ∃ B, v + s = B := ⟨_, rfl⟩
      have w1 : IntKind.i64.wrap ((u : Int) + (s : Int)) = (A : Int) := by rw [wrapI (by unfold I64; omega)]; omega
      have w2 : IntKind.i64.wrap ((v : Int) + (s : Int)) = (B : Int) := by rw [wrapI (by unfold I64; omega)]; omega
      obtain ⟨ds, hds⟩ : ∃ ds : Int, (d : Int) - s = ds := ⟨_, rfl⟩
      have w3 : IntKind.i64.wrap ((d : Int) - (s : Int)) = ds := by rw [wrapI (by unfold I64; omega)]; exact hds
      have hpA := (hcan A (by omega)).2 (by omega)
      have hpB := (hcan B (by omega)).2 (by omega)
      have HSB := Lib.hid (HSA.out A (by omega) (by omega))
      have HSC := Lib.hid (HSA.out B (by omega) (by omega))
      obtain ⟨kA, hkA⟩ : ∃ k, (shr (sh P A n s) (bn P n)).1 = k := ⟨_, rfl⟩
      obtain ⟨kB, hkB⟩ : ∃ k, (shr (sh P B n s) (bn P n)).1 = k := ⟨_, rfl⟩
      rw [hkA] at HSB hpA
      rw [hkB] at HSC hpB
      have hpA2 : (0 : Int) < (kA : Int) := by omega
      have hpB2 : (0 : Int) < (kB : Int) := by omega
      have hcase : (0 < k ∧ (u : Int) ≤ ds ∧ ds ≤ (v : Int)) ∨ (¬ 0 < k ∧ ¬ (u : Int) ≤ ds) ∨ (¬ 0 < k ∧ (u : Int) ≤ ds ∧ ¬ ds ≤ (v : Int)) := by
        rcases Nat.eq_zero_or_pos k with h | h
        · have hno : ¬ (s ≤ d ∧ n - s ≤ P - d) := fun e => by have := hcd.2 e; omega
          by_cases h1 : (u : Int) ≤ ds
          · exact .inr (.inr ⟨by omega, h1, by omega⟩)
          · exact .inr (.inl ⟨by omega, h1⟩)
        · have := hcd.1 h
          exact .inl ⟨h, by omega, by omega⟩
      have HSP := Lib.hid (Blk.new v4 23 #[.int .i64 (u : Int), .int .i64 (v : Int)])
      have e1 := ((HKA.out.keep ((Below.refl _ _).alloc (Nat.le_refl _) (.cells #[.int .i64 (u : Int), .int .i64 (v : Int)] 23)))).cell
      replace hs2 := hs2.alloc (.cells #[.int .i64 (u : Int), .int .i64 (v : Int)] 23)
      replace HG2 := Lib.hid (HG2.out.alloc (.cells #[.int .i64 (u : Int), .int .i64 (v : Int)] 23))
      obtain ⟨c0, c1, c2⟩ := HG2.out.gcells
      obtain ⟨b0, b1⟩ := Blk.fcells (s := ((u : Int), (v : Int))) HSP.out
      obtain ⟨gs, hgs⟩ : ∃ gs, v4.heap.size = gs := ⟨_, rfl⟩
      rw [hgs] at HSP b0 b1
      clear hk hcd hlef hcan HSA hdn hu hv hA hB hds hkA hkB hcc hnP hsn2 hsn hn1 HKA
      rcases hcase with ⟨k1, k2, k3⟩ | ⟨k1, k2⟩ | ⟨k1, k2, k3⟩
      · have k4 : (0 : Int) < (k : Int) := by omega
        go_wp2_with fail
        refine (HSB.out _).mono ?_
        rintro e v5 ⟨⟨gB, rfl, hk⟩, hb⟩
        replace hs2 := hs2.keep hb
        replace HG2 := Lib.hid (HG2.out.keep hb)
        replace HSP := Lib.hid (HSP.out.keep hb)
        have HKB := Lib.hid hk
        clear hb hk c0 c1 c2 b0 b1 e1 hgs k1 k2 k4 k3
        obtain ⟨c0, c1, c2⟩ := HG2.out.gcells
        obtain ⟨b0, b1⟩ := Blk.fcells (s := ((u : Int), (v : Int))) HSP.out
        go_wp2_with fail
        refine (HSC.out _).mono ?_
        rintro e v6 ⟨⟨gC, rfl, hk⟩, hb⟩
        replace hs2 := hs2.keep hb
        replace HKB := Lib.hid (HKB.out.keep hb)
        have HKC := Lib.hid hk
        clear hb hk c0 c1 c2 b0 b1 HG2 HSP
        have f1 := HKB.out.cell
        have f2 := HKC.out.cell
        go_wp2_with fail
        refine (awake_c _).mono ?_
        rintro e v7 ⟨rfl, hb⟩
        replace hs2 := hs2.keep hb
        clear f1 f2 hb
        go_wp2_with fail
        go_ret
        exact ⟨rfl, hs2.1⟩
      · have k4 : ¬ (0 : Int) < (k : Int) := by omega
        go_wp2_with fail
        refine (HSB.out _).mono ?_
        rintro e v5 ⟨⟨gB, rfl, hk⟩, hb⟩
        replace hs2 := hs2.keep hb
        replace HG2 := Lib.hid (HG2.out.keep hb)
        replace HSP := Lib.hid (HSP.out.keep hb)
        have HKB := Lib.hid hk
        clear hb hk c0 c1 c2 b0 b1 e1 hgs k1 k2 k4
        obtain ⟨c0, c1, c2⟩ := HG2.out.gcells
        obtain ⟨b0, b1⟩ := Blk.fcells (s := ((u : Int), (v : Int))) HSP.out
        go_wp2_with fail
        refine (HSC.out _).mono ?_
        rintro e v6 ⟨⟨gC, rfl, hk⟩, hb⟩
        replace hs2 := hs2.keep hb
        replace HKB := Lib.hid (HKB.out.keep hb)
        have HKC := Lib.hid hk
        clear hb hk c0 c1 c2 b0 b1 HG2 HSP
        have f1 := HKB.out.cell
        have f2 := HKC.out.cell
        go_wp2_with fail
        refine (awake_c _).mono ?_
        rintro e v7 ⟨rfl, hb⟩
        replace hs2 := hs2.keep hb
        clear f1 f2 hb
        go_wp2_with fail
        go_ret
        exact ⟨rfl, hs2.1⟩
      · have k4 : ¬ (0 : Int) < (k : Int) := by omega
        go_wp2_with fail
        refine (HSB.out _).mono ?_
        rintro e v5 ⟨⟨gB, rfl, hk⟩, hb⟩
        replace hs2 := hs2.keep hb
        replace HG2 := Lib.hid (HG2.out.keep hb)
        replace HSP := Lib.hid (HSP.out.keep hb)
        have HKB := Lib.hid hk
        clear hb hk c0 c1 c2 b0 b1 e1 hgs k1 k2 k4 k3
        obtain ⟨c0, c1, c2⟩ := HG2.out.gcells
        obtain ⟨b0, b1⟩ := Blk.fcells (s := ((u : Int), (v : Int))) HSP.out
        go_wp2_with fail
        refine (HSC.out _).mono ?_
        rintro e v6 ⟨⟨gC, rfl, hk⟩, hb⟩
        replace hs2 := hs2.keep hb
        replace HKB := Lib.hid (HKB.out.keep hb)
        have HKC := Lib.hid hk
        clear hb hk c0 c1 c2 b0 b1 HG2 HSP
        have f1 := HKB.out.cell
        have f2 := HKC.out.cell
        go_wp2_with fail
        refine (awake_c _).mono ?_
        rintro e v7 ⟨rfl, hb⟩
        replace hs2 := hs2.keep hb
        clear f1 f2 hb
        go_wp2_with fail
        go_ret
        exact ⟨rfl, hs2.1⟩
  · have hlef : lefA P lo hi 0 0 = ((0, 0), chkE P lo hi) := by unfold lefA; rw [if_neg hc]
    have hc' : (chkE P lo hi != 0) = true := by simpa using hc
    obtain ⟨c0, c1, c2⟩ := HG.out.gcells
    clear hc
    go_wp2_with fail
    refine (Left_c P lo hi 0 0 _).mono ?_
    rintro e v2 ⟨rfl, hb⟩
    rw [hlef]
    replace hs := (hs.keep hb).alloc (.cells #[.int .i64 0, .int .i64 0] 23)
    clear hlef c0 c1 c2 hb
    go_wp2_with fail
    refine (awake_c _).mono ?_
    rintro e v3 ⟨rfl, hb⟩
    replace hs := hs.keep hb
    go_wp2_with fail
    go_ret
    exact ⟨rfl, hs.1⟩
end Td
end Go.Proofs.Ytnceopecbalokaa
