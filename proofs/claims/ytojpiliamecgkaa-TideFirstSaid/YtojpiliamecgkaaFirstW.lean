import Derived.Test.YtojpiliamecgkaaEnv
import Derived.Test.YtojpiliamecgkaaRefC
namespace Go.Proofs.Ytojpiliamecgkaa
open Go.RowKit
namespace Td
set_option linter.unusedSimpArgs false
set_option linter.unusedVariables false
theorem firstV_in {b : Bch} {s : Shp} {d : Int} (hk : (chk b s).2.2 = 0) (h0 : 0 ≤ d) (h1 : d ≤ 40000) : firstV b s d = .tuple #[.int .i64 (earl (firstFrom (doesB b s) (frm b.ts d) (b.ts.length - frm b.ts d))).1, .int .i64 (earl (firstFrom (doesB b s) (frm b.ts d) (b.ts.length - frm b.ts d))).2.1, .int .i64 (earl (firstFrom (doesB b s) (frm b.ts d) (b.ts.length - frm b.ts d))).2.2] := by
  have hd : wi 0 40000 d = true := wi_iff.2 ⟨h0, h1⟩
  simp [firstV, hk, hd]
theorem frm_mono {d e : Int} (h : d ≤ e) : ∀ {ts : List Tid}, frm ts d ≤ frm ts e
  | [] => by simp [frm]
  | t :: ts => by
    by_cases hd : t.day < d
    · have he : t.day < e := by omega
      have := frm_mono h (ts := ts)
      simp only [frm, List.takeWhile, hd, he, decide_true, List.length_cons] at this ⊢
      omega
    · simp [frm, List.takeWhile, hd]
theorem missesV_six (b : Bch) (s : Shp) (t n : Int) : ∃ p q r u x z : Int, missesV b s t n = .tuple #[.agg (trV p q r u), .int .i64 x, .int .i64 z] := by
  unfold missesV
  split
  · split
    · exact ⟨_, _, _, _, _, _, rfl⟩
    · exact ⟨_, _, _, _, _, _, rfl⟩
  · exact ⟨_, _, _, _, _, _, rfl⟩
set_option maxRecDepth 100000 in
set_option maxHeartbeats 16000000 in
theorem tideFirst_c (b : Bch) (s : Shp) (A : Option Addr) (c : Nat) (n0 n1 n2 n3 : Int) (w : World) (hp : TsAt w A b.ts) (h0 : 0 ≤ n0 ∧ n0 ≤ 65535) (h1 : 0 ≤ n1 ∧ n1 ≤ 65535) (h2 : 0 ≤ n2 ∧ n2 ≤ 65535) (h3 : 0 ≤ n3 ∧ n3 ≤ 65535) :
    Calls Try.prog 11 #[.agg (bV b A c), .agg (sV s), .agg #[.int .u16 n0, .int .u16 n1, .int .u16 n2, .int .u16 n3]] w fun e w' => e = .returned (.bool true) ∧ Below w.heap.size w w' := by
  obtain ⟨xs, hxs⟩ : ∃ xs : List Value, xs = [.int .u16 n0, .int .u16 n1, .int .u16 n2, .int .u16 n3] := ⟨_, rfl⟩
  have hE0 : Env w.heap.size (w.heap.size + 1) (w.heap.size + 1 + 1) b A c s xs none [] w (((w.alloc (.cells (bV b A c) 26)).alloc (.cells (sV s) 28)).alloc (.cells #[.int .u16 n0, .int .u16 n1, .int .u16 n2, .int .u16 n3] 73)) := by
    have hs0 := (((Since.refl w).alloc (.cells (bV b A c) 26)).alloc (.cells (sV s) 28)).alloc (.cells #[.int .u16 n0, .int .u16 n1, .int .u16 n2, .int .u16 n3] 73)
    refine ⟨(((Blk.new w 26 (bV b A c)).alloc (.cells (sV s) 28)).alloc _).beach, ((Blk.new1 w (.cells (bV b A c) 26) 28 (sV s)).alloc _).ship, fun j v hj => ?_, hp.keep hs0.1, fun h => absurd rfl h, hs0⟩
    subst hxs
    rw [(Blk.new2 w (.cells (bV b A c) 26) (.cells (sV s) 28) 73 #[.int .u16 n0, .int .u16 n1, .int .u16 n2, .int .u16 n3]).cell j]
    simpa using hj
  have HX : Hid (xs = [.int .u16 n0, .int .u16 n1, .int .u16 n2, .int .u16 n3]) := hxs
  have HE0 := Lib.hid hE0
  clear hE0 hxs
  obtain ⟨a0, b0⟩ := h0
  obtain ⟨a1, b1⟩ := h1
  obtain ⟨a2, b2⟩ := h2
  obtain ⟨a3, b3⟩ := h3
  by_cases hk : (chk b s).2.2 = 0
  · obtain ⟨hB, hS⟩ := chk_ok.1 hk
    have HD : Hid (decide ((chk b s).2.2 = 0) = true) := decide_eq_true hk
    have hl12 : b.ts.length ≤ 12 := hB.n1
    have hl1 : 1 ≤ b.ts.length := hB.n0
    have HK := Lib.hid hk
    clear hk
    obtain ⟨ad, hA, _⟩ := hp.get (k := 0) (by omega)
    subst hA
    -- the day, the tide, the ballast, the later day
    obtain ⟨d, hd⟩ : ∃ d, n0 % 40001 = d := ⟨_, rfl⟩
    have hd0 : 0 ≤ d := by omega
    have hd1 : d ≤ 40000 := by omega
    have htd : n0.tmod 40001 = d := by rw [Int.tmod_eq_emod_of_nonneg a0]; exact hd
    obtain ⟨N2, rfl⟩ : ∃ N : Nat, n2 = N := ⟨n2.toNat, by omega⟩
    obtain ⟨N3, rfl⟩ : ∃ N : Nat, n3 = N := ⟨n3.toNat, by omega⟩
    obtain ⟨k, hkk⟩ : ∃ k, N2 % b.ts.length = k := ⟨_, rfl⟩
    have hkl : k < b.ts.length := by rw [← hkk]; exact Nat.mod_lt _ (by omega)
    have hek : ((N2 : Int)) % (b.ts.length : Int) = (k : Int) := by rw [← hkk]; omega
    have htk : ((N2 : Int)).tmod (b.ts.length : Int) = (k : Int) := by rw [Int.tmod_eq_emod_of_nonneg (by omega)]; exact hek
    have hlz : ((b.ts.length : Int) == 0) = false := by rw [beq_eq_false_iff_ne]; omega
    obtain ⟨m, hmm⟩ : ∃ m, N3 % 41 = m := ⟨_, rfl⟩
    have hm40 : m ≤ 40 := by omega
    have hem : ((N3 : Int)) % 41 = (m : Int) := by omega
    have htm : ((N3 : Int)).tmod 41 = (m : Int) := by rw [Int.tmod_eq_emod_of_nonneg (by omega)]; exact hem
    obtain ⟨e2, he2⟩ : ∃ e2, d + n1 % (40000 - d + 1) = e2 := ⟨_, rfl⟩
    have hr0 := Int.emod_nonneg n1 (show 40000 - d + 1 ≠ 0 by omega)
    have hr1 := Int.emod_lt_of_pos n1 (show 0 < 40000 - d + 1 by omega)
    have hde2 : d ≤ e2 := by omega
    have he41 : e2 ≤ 40000 := by omega
    have HE2 := Lib.hid he2
    have hv1 : IntKind.i64.wrap (40000 - d) = 40000 - d := IntWalk.i64_in _ (by omega)
    have hv2 : IntKind.i64.wrap (40000 - d + 1) = 40000 - d + 1 := IntWalk.i64_in _ (by omega)
    have hv3 : n1.tmod (40000 - d + 1) = n1 % (40000 - d + 1) := Int.tmod_eq_emod_of_nonneg a1
    have hv4 : IntKind.i64.wrap (n1 % (40000 - d + 1)) = n1 % (40000 - d + 1) := IntWalk.i64_in _ (by omega)
    have hv5 : IntKind.i64.wrap (d + n1 % (40000 - d + 1)) = d + n1 % (40000 - d + 1) := IntWalk.i64_in _ (by omega)
    have hv6 : ((40000 - d + 1) == 0) = false := by rw [beq_eq_false_iff_ne]; omega
    have hv7 : IntKind.i64.wrap n1 = n1 := IntWalk.i64_in _ (by omega)
    have hv8 : IntKind.i64.wrap d = d := IntWalk.i64_in _ (by omega)
    clear hkk hmm he2
    go_enter Try.func11, Try.ntmps11
    go_wp2_with fail
    refine (valid_c b s (some ad) c _ HE0.out.ts).mono ?_
    rintro e w1 ⟨rfl, hb1⟩
    rw [HD.out]
    have HE1 := Lib.hid (HE0.out.keep hb1)
    clear HE0 hb1
    obtain ⟨⟨c0, c1, c2, c3, c4, c5⟩, ⟨d0, d1, d2⟩, sx, _, _, _⟩ := HE1.out
    rw [HX.out] at sx
    have x0 := sx 0 _ rfl
    have x1 := sx 1 _ rfl
    have x2 := sx 2 _ rfl
    have x3 := sx 3 _ rfl
    clear sx
    go_wp2_with fail
    try rw [hd]
    refine (first_c b s (some ad) c d _ HE1.out.ts).mono ?_
    rintro e w2 ⟨rfl, hb2⟩
    have HE2' := Lib.hid (HE1.out.keep hb2)
    clear c0 c1 c2 c3 c4 c5 d0 d1 d2 x0 x1 x2 x3
    clear HE1 hb2
    cases hf : firstFrom (doesB b s) (frm b.ts d) (b.ts.length - frm b.ts d) with
    | none =>
      rw [firstV_in HK.out hd0 hd1, hf]
      have HFN := Lib.hid hf
      have HBF : Hid (∀ k, k < b.ts.length → ∀ (h : k < b.ts.length), d ≤ b.ts[k].day → leastOf (doesB b s k) = none) := fun k _ h hday => by
        have g := (day_from hB h).2 hday
        exact firstFrom_none hf k g (by omega)
      clear hf
      simp only [earl]
      have HE3 := Lib.hid HE2'.out
      clear HE2'
      obtain ⟨⟨c0, c1, c2, c3, c4, c5⟩, ⟨d0, d1, d2⟩, sx, _, _, _⟩ := HE3.out
      rw [HX.out] at sx
      have x0 := sx 0 _ rfl
      have x1 := sx 1 _ rfl
      have x2 := sx 2 _ rfl
      have x3 := sx 3 _ rfl
      clear sx
      go_wp2_with fail
      refine (misses_c b s (some ad) c k m _ HE3.out.ts).mono ?_
      rintro e w5 ⟨rfl, hb5⟩
      rcases (by omega : (k < b.ts.length ∧ d ≤ b.ts[k].day) ∨ b.ts.length ≤ k ∨ (k < b.ts.length ∧ b.ts[k].day < d)) with ⟨hkb, hday⟩ | hkb | ⟨hkb, hday⟩
      · rw [missesV_ok HK.out hkl hm40 (leastOf_no (HBF.out k hkb hkl hday) m (by omega))]
        generalize m0 b.mlo b.mhi (bx b s k) (-s.sink * (m : Int)) = q0
        generalize m1 b.mlo b.mhi (bx b s k) (-s.sink * (m : Int)) = q1
        generalize m2 b.mlo b.mhi (bx b s k) (-s.sink * (m : Int)) = q2
        generalize m3 b.mlo b.mhi (bx b s k) (-s.sink * (m : Int)) = q3
        generalize mAt b.mlo b.mhi (bx b s k) (-s.sink * (m : Int)) = q4
        have HE5 := Lib.hid ((HE3.out.keep hb5).alloc (.cells (trV q0 q1 q2 q3) 45))
        clear HE3 hb5 c0 c1 c2 c3 c4 c5 d0 d1 d2 x0 x1 x2 x3
        obtain ⟨⟨c0, c1, c2, c3, c4, c5⟩, ⟨d0, d1, d2⟩, sx, _, _, _⟩ := HE5.out
        rw [HX.out] at sx
        have x0 := sx 0 _ rfl
        have x1 := sx 1 _ rfl
        have x2 := sx 2 _ rfl
        have x3 := sx 3 _ rfl
        clear sx
        obtain ⟨ad', hA, hat⟩ := HE5.out.ts.get hkl
        obtain rfl : ad = ad' := by simpa using hA
        obtain ⟨td, _, _, _, _⟩ := hat
        go_wp2_with fail
        clear td
        clear c0 c1 c2 c3 c4 c5 d0 d1 d2 x0 x1 x2 x3
        cases hf2 : firstFrom (doesB b s) (frm b.ts e2) (b.ts.length - frm b.ts e2) with
        | none =>
          have HF2 : Hid (firstV b s e2 = .tuple #[.int .i64 0, .int .i64 0, .int .i64 9]) := by
            show _ = _
            rw [firstV_in HK.out (by omega) (by omega), hf2]; rfl
          clear hf2
          refine Vals.region (fun X => Env (w.heap.size) (w.heap.size + 1) (w.heap.size + 1 + 1) b (some ad) c s xs none [] w X) (fun X => Env (w.heap.size) (w.heap.size + 1) (w.heap.size + 1 + 1) b (some ad) c s xs none [] w X) [some 130, some 131, some 132, some 133, some 134, some 135, some 136, some 137, some 138, some 139, some 140, some 141, some 129, some 142, some 143, some 144, some 21, some 22, some 23] [.agg (bV b (some ad) c), .agg (sV s), .int .i64 d, .pointer (some ⟨w.heap.size + 1 + 1, 1, none⟩), .int .u16 n1, .int .i64 n1, .int .i64 d, .int .i64 (40000 - d), .int .i64 (40000 - d + 1), .int .i64 (n1 % (40000 - d + 1)), .int .i64 e2, .tuple #[.int .i64 0, .int .i64 0, .int .i64 9], .tuple #[.int .i64 0, .int .i64 0, .int .i64 9], .int .i64 0, .int .i64 0, .int .i64 9, .int .i64 0, .int .i64 0, .int .i64 9] (by kernel_rfl) (by kernel_rfl) (by kernel_rfl) (by kernel_rfl) (by kernel_rfl) (by kernel_rfl) (by kernel_rfl) HE5.out.drew ?_ ?_
          · refine Vals.Steps.run (by kernel_rfl) ?_ ?_
            · intro a W hSt pre old K hK
              have e3 : a.tmps.getD 3 undef = .pointer (some ⟨w.heap.size, 0, none⟩) := old 3 _ (by kernel_rfl) rfl
              clear pre old
              simp only [Array.getD_eq_getD_getElem?] at e3
              have hS9 := hSt
              obtain ⟨⟨s0, s1, s2, s3, s4, s5⟩, ⟨d0, d1, d2⟩, sx, ts, us, sn⟩ := hS9
              rw [HX.out] at sx
              have x0 := sx 0 _ rfl
              have x1 := sx 1 _ rfl
              have x2 := sx 2 _ rfl
              have x3 := sx 3 _ rfl
              go_simp
              exact hK _ hSt
            refine Vals.Steps.run (by kernel_rfl) ?_ ?_
            · intro a W hSt pre old K hK
              have e4 : a.tmps.getD 4 undef = .pointer (some ⟨w.heap.size + 1, 0, none⟩) := old 4 _ (by kernel_rfl) rfl
              clear pre old
              simp only [Array.getD_eq_getD_getElem?] at e4
              have hS9 := hSt
              obtain ⟨⟨s0, s1, s2, s3, s4, s5⟩, ⟨d0, d1, d2⟩, sx, ts, us, sn⟩ := hS9
              rw [HX.out] at sx
              have x0 := sx 0 _ rfl
              have x1 := sx 1 _ rfl
              have x2 := sx 2 _ rfl
              have x3 := sx 3 _ rfl
              go_simp
              exact hK _ hSt
            refine Vals.Steps.run (by kernel_rfl) ?_ ?_
            · intro a W hSt pre old K hK
              have e10 : a.tmps.getD 10 undef = .int .i64 d := old 10 _ (by kernel_rfl) rfl
              clear pre old
              simp only [Array.getD_eq_getD_getElem?] at e10
              go_simp
              exact hK _ hSt
            refine Vals.Steps.run (by kernel_rfl) ?_ ?_
            · intro a W hSt pre old K hK
              have e5 : a.tmps.getD 5 undef = .pointer (some ⟨w.heap.size + 1 + 1, 0, none⟩) := old 5 _ (by kernel_rfl) rfl
              clear pre old
              simp only [Array.getD_eq_getD_getElem?] at e5
              go_simp
              exact hK _ hSt
            refine Vals.Steps.run (by kernel_rfl) ?_ ?_
            · intro a W hSt pre old K hK
              have e133 : a.tmps.getD 133 undef = .pointer (some ⟨w.heap.size + 1 + 1, 1, none⟩) := pre 3 133 _ (by kernel_rfl) rfl rfl
              clear pre old
              simp only [Array.getD_eq_getD_getElem?] at e133
              have hS9 := hSt
              obtain ⟨⟨s0, s1, s2, s3, s4, s5⟩, ⟨d0, d1, d2⟩, sx, ts, us, sn⟩ := hS9
              rw [HX.out] at sx
              have x0 := sx 0 _ rfl
              have x1 := sx 1 _ rfl
              have x2 := sx 2 _ rfl
              have x3 := sx 3 _ rfl
              go_simp
              exact hK _ hSt
            refine Vals.Steps.run (by kernel_rfl) ?_ ?_
            · intro a W hSt pre old K hK
              have e134 : a.tmps.getD 134 undef = .int .u16 n1 := pre 4 134 _ (by kernel_rfl) rfl rfl
              clear pre old
              simp only [Array.getD_eq_getD_getElem?] at e134
              go_simp
              exact hK _ hSt
            refine Vals.Steps.run (by kernel_rfl) ?_ ?_
            · intro a W hSt pre old K hK
              have e10 : a.tmps.getD 10 undef = .int .i64 d := old 10 _ (by kernel_rfl) rfl
              clear pre old
              simp only [Array.getD_eq_getD_getElem?] at e10
              go_simp
              exact hK _ hSt
            refine Vals.Steps.run (by kernel_rfl) ?_ ?_
            · intro a W hSt pre old K hK
              have e136 : a.tmps.getD 136 undef = .int .i64 d := pre 6 136 _ (by kernel_rfl) rfl rfl
              clear pre old
              simp only [Array.getD_eq_getD_getElem?] at e136
              go_simp
              exact hK _ hSt
            refine Vals.Steps.run (by kernel_rfl) ?_ ?_
            · intro a W hSt pre old K hK
              have e137 : a.tmps.getD 137 undef = .int .i64 (40000 - d) := pre 7 137 _ (by kernel_rfl) rfl rfl
              clear pre old
              simp only [Array.getD_eq_getD_getElem?] at e137
              go_simp
              exact hK _ hSt
            refine Vals.Steps.run (by kernel_rfl) ?_ ?_
            · intro a W hSt pre old K hK
              have e135 : a.tmps.getD 135 undef = .int .i64 n1 := pre 5 135 _ (by kernel_rfl) rfl rfl
              have e138 : a.tmps.getD 138 undef = .int .i64 (40000 - d + 1) := pre 8 138 _ (by kernel_rfl) rfl rfl
              clear pre old
              simp only [Array.getD_eq_getD_getElem?] at e135 e138
              go_simp
              rw [if_neg (by omega)]
              exact hK _ hSt
            refine Vals.Steps.run (by kernel_rfl) ?_ ?_
            · intro a W hSt pre old K hK
              have e132 : a.tmps.getD 132 undef = .int .i64 d := pre 2 132 _ (by kernel_rfl) rfl rfl
              have e139 : a.tmps.getD 139 undef = .int .i64 (n1 % (40000 - d + 1)) := pre 9 139 _ (by kernel_rfl) rfl rfl
              clear pre old
              simp only [Array.getD_eq_getD_getElem?] at e132 e139
              go_simp
              rw [HE2.out]
              exact hK _ hSt
            refine Vals.Steps.run (by kernel_rfl) ?_ ?_
            · intro a W hSt pre old K hK
              have e130 : a.tmps.getD 130 undef = .agg (bV b (some ad) c) := pre 0 130 _ (by kernel_rfl) rfl rfl
              have e131 : a.tmps.getD 131 undef = .agg (sV s) := pre 1 131 _ (by kernel_rfl) rfl rfl
              have e140 : a.tmps.getD 140 undef = .int .i64 e2 := pre 10 140 _ (by kernel_rfl) rfl rfl
              clear pre old
              simp only [Array.getD_eq_getD_getElem?] at e130 e131 e140
              go_simp
              have hE := hSt
              refine (first_c b s (some ad) c e2 _ hE.ts).mono ?_
              rintro e w' ⟨rfl, hb'⟩
              rw [HF2.out]
              exact hK _ (hE.keep hb')
            refine Vals.Steps.run (by kernel_rfl) ?_ ?_
            · intro a W hSt pre old K hK
              have e141 : a.tmps.getD 141 undef = .tuple #[.int .i64 0, .int .i64 0, .int .i64 9] := pre 11 141 _ (by kernel_rfl) rfl rfl
              clear pre old
              simp only [Array.getD_eq_getD_getElem?] at e141
              go_simp
              exact hK _ hSt
            refine Vals.Steps.run (by kernel_rfl) ?_ ?_
            · intro a W hSt pre old K hK
              have e129 : a.tmps.getD 129 undef = .tuple #[.int .i64 0, .int .i64 0, .int .i64 9] := pre 12 129 _ (by kernel_rfl) rfl rfl
              clear pre old
              simp only [Array.getD_eq_getD_getElem?] at e129
              go_simp
              exact hK _ hSt
            refine Vals.Steps.run (by kernel_rfl) ?_ ?_
            · intro a W hSt pre old K hK
              have e129 : a.tmps.getD 129 undef = .tuple #[.int .i64 0, .int .i64 0, .int .i64 9] := pre 12 129 _ (by kernel_rfl) rfl rfl
              clear pre old
              simp only [Array.getD_eq_getD_getElem?] at e129
              go_simp
              exact hK _ hSt
            refine Vals.Steps.run (by kernel_rfl) ?_ ?_
            · intro a W hSt pre old K hK
              have e129 : a.tmps.getD 129 undef = .tuple #[.int .i64 0, .int .i64 0, .int .i64 9] := pre 12 129 _ (by kernel_rfl) rfl rfl
              clear pre old
              simp only [Array.getD_eq_getD_getElem?] at e129
              go_simp
              exact hK _ hSt
            refine Vals.Steps.run (by kernel_rfl) ?_ ?_
            · intro a W hSt pre old K hK
              have e142 : a.tmps.getD 142 undef = .int .i64 0 := pre 13 142 _ (by kernel_rfl) rfl rfl
              clear pre old
              simp only [Array.getD_eq_getD_getElem?] at e142
              go_simp
              exact hK _ hSt
            refine Vals.Steps.run (by kernel_rfl) ?_ ?_
            · intro a W hSt pre old K hK
              have e143 : a.tmps.getD 143 undef = .int .i64 0 := pre 14 143 _ (by kernel_rfl) rfl rfl
              clear pre old
              simp only [Array.getD_eq_getD_getElem?] at e143
              go_simp
              exact hK _ hSt
            refine Vals.Steps.last (by kernel_rfl) ?_
            · intro a W hSt pre old K hK
              have e144 : a.tmps.getD 144 undef = .int .i64 9 := pre 15 144 _ (by kernel_rfl) rfl rfl
              clear pre old
              simp only [Array.getD_eq_getD_getElem?] at e144
              go_simp
              exact hK _ hSt
          · rintro W hE
            simp only [Vals.putAll, List.setIfInBounds_toArray, List.set_cons_zero, List.set_cons_succ]
            go_wp2_with fail
            refine (awake_c _).mono ?_
            rintro e w8 ⟨rfl, hb8⟩
            go_wp2_with fail
            go_ret
            exact ⟨rfl, (hE.keep hb8).sn.1⟩
        | some r =>
          obtain ⟨j, r⟩ := r
          have HF2 : Hid (firstV b s e2 = .tuple #[.int .i64 j, .int .i64 r, .int .i64 0]) := by
            show _ = _
            rw [firstV_in HK.out (by omega) (by omega), hf2]; rfl
          obtain ⟨g1, g2, g3, _⟩ := firstFrom_spec hf2
          have g4 := frm_mono (ts := b.ts) hde2
          exfalso
          have := firstFrom_none HFN.out j (by omega) (by omega)
          rw [this] at g3
          cases g3
      · exfalso; omega
      · obtain ⟨q0, q1, q2, q3, q4, q5, hq⟩ := missesV_six b s k m
        rw [hq]
        clear hq
        have HE5 := Lib.hid ((HE3.out.keep hb5).alloc (.cells (trV q0 q1 q2 q3) 45))
        clear HE3 hb5 c0 c1 c2 c3 c4 c5 d0 d1 d2 x0 x1 x2 x3
        obtain ⟨⟨c0, c1, c2, c3, c4, c5⟩, ⟨d0, d1, d2⟩, sx, _, _, _⟩ := HE5.out
        rw [HX.out] at sx
        have x0 := sx 0 _ rfl
        have x1 := sx 1 _ rfl
        have x2 := sx 2 _ rfl
        have x3 := sx 3 _ rfl
        clear sx
        obtain ⟨ad', hA, hat⟩ := HE5.out.ts.get hkl
        obtain rfl : ad = ad' := by simpa using hA
        obtain ⟨td, _, _, _, _⟩ := hat
        go_wp2_with fail
        clear td
        clear c0 c1 c2 c3 c4 c5 d0 d1 d2 x0 x1 x2 x3
        cases hf2 : firstFrom (doesB b s) (frm b.ts e2) (b.ts.length - frm b.ts e2) with
        | none =>
          have HF2 : Hid (firstV b s e2 = .tuple #[.int .i64 0, .int .i64 0, .int .i64 9]) := by
            show _ = _
            rw [firstV_in HK.out (by omega) (by omega), hf2]; rfl
          clear hf2
          refine Vals.region (fun X => Env (w.heap.size) (w.heap.size + 1) (w.heap.size + 1 + 1) b (some ad) c s xs none [] w X) (fun X => Env (w.heap.size) (w.heap.size + 1) (w.heap.size + 1 + 1) b (some ad) c s xs none [] w X) [some 130, some 131, some 132, some 133, some 134, some 135, some 136, some 137, some 138, some 139, some 140, some 141, some 129, some 142, some 143, some 144, some 21, some 22, some 23] [.agg (bV b (some ad) c), .agg (sV s), .int .i64 d, .pointer (some ⟨w.heap.size + 1 + 1, 1, none⟩), .int .u16 n1, .int .i64 n1, .int .i64 d, .int .i64 (40000 - d), .int .i64 (40000 - d + 1), .int .i64 (n1 % (40000 - d + 1)), .int .i64 e2, .tuple #[.int .i64 0, .int .i64 0, .int .i64 9], .tuple #[.int .i64 0, .int .i64 0, .int .i64 9], .int .i64 0, .int .i64 0, .int .i64 9, .int .i64 0, .int .i64 0, .int .i64 9] (by kernel_rfl) (by kernel_rfl) (by kernel_rfl) (by kernel_rfl) (by kernel_rfl) (by kernel_rfl) (by kernel_rfl) HE5.out.drew ?_ ?_
          · refine Vals.Steps.run (by kernel_rfl) ?_ ?_
            · intro a W hSt pre old K hK
              have e3 : a.tmps.getD 3 undef = .pointer (some ⟨w.heap.size, 0, none⟩) := old 3 _ (by kernel_rfl) rfl
              clear pre old
              simp only [Array.getD_eq_getD_getElem?] at e3
              have hS9 := hSt
              obtain ⟨⟨s0, s1, s2, s3, s4, s5⟩, ⟨d0, d1, d2⟩, sx, ts, us, sn⟩ := hS9
              rw [HX.out] at sx
              have x0 := sx 0 _ rfl
              have x1 := sx 1 _ rfl
              have x2 := sx 2 _ rfl
              have x3 := sx 3 _ rfl
              go_simp
              exact hK _ hSt
            refine Vals.Steps.run (by kernel_rfl) ?_ ?_
            · intro a W hSt pre old K hK
              have e4 : a.tmps.getD 4 undef = .pointer (some ⟨w.heap.size + 1, 0, none⟩) := old 4 _ (by kernel_rfl) rfl
              clear pre old
              simp only [Array.getD_eq_getD_getElem?] at e4
              have hS9 := hSt
              obtain ⟨⟨s0, s1, s2, s3, s4, s5⟩, ⟨d0, d1, d2⟩, sx, ts, us, sn⟩ := hS9
              rw [HX.out] at sx
              have x0 := sx 0 _ rfl
              have x1 := sx 1 _ rfl
              have x2 := sx 2 _ rfl
              have x3 := sx 3 _ rfl
              go_simp
              exact hK _ hSt
            refine Vals.Steps.run (by kernel_rfl) ?_ ?_
            · intro a W hSt pre old K hK
              have e10 : a.tmps.getD 10 undef = .int .i64 d := old 10 _ (by kernel_rfl) rfl
              clear pre old
              simp only [Array.getD_eq_getD_getElem?] at e10
              go_simp
              exact hK _ hSt
            refine Vals.Steps.run (by kernel_rfl) ?_ ?_
            · intro a W hSt pre old K hK
              have e5 : a.tmps.getD 5 undef = .pointer (some ⟨w.heap.size + 1 + 1, 0, none⟩) := old 5 _ (by kernel_rfl) rfl
              clear pre old
              simp only [Array.getD_eq_getD_getElem?] at e5
              go_simp
              exact hK _ hSt
            refine Vals.Steps.run (by kernel_rfl) ?_ ?_
            · intro a W hSt pre old K hK
              have e133 : a.tmps.getD 133 undef = .pointer (some ⟨w.heap.size + 1 + 1, 1, none⟩) := pre 3 133 _ (by kernel_rfl) rfl rfl
              clear pre old
              simp only [Array.getD_eq_getD_getElem?] at e133
              have hS9 := hSt
              obtain ⟨⟨s0, s1, s2, s3, s4, s5⟩, ⟨d0, d1, d2⟩, sx, ts, us, sn⟩ := hS9
              rw [HX.out] at sx
              have x0 := sx 0 _ rfl
              have x1 := sx 1 _ rfl
              have x2 := sx 2 _ rfl
              have x3 := sx 3 _ rfl
              go_simp
              exact hK _ hSt
            refine Vals.Steps.run (by kernel_rfl) ?_ ?_
            · intro a W hSt pre old K hK
              have e134 : a.tmps.getD 134 undef = .int .u16 n1 := pre 4 134 _ (by kernel_rfl) rfl rfl
              clear pre old
              simp only [Array.getD_eq_getD_getElem?] at e134
              go_simp
              exact hK _ hSt
            refine Vals.Steps.run (by kernel_rfl) ?_ ?_
            · intro a W hSt pre old K hK
              have e10 : a.tmps.getD 10 undef = .int .i64 d := old 10 _ (by kernel_rfl) rfl
              clear pre old
              simp only [Array.getD_eq_getD_getElem?] at e10
              go_simp
              exact hK _ hSt
            refine Vals.Steps.run (by kernel_rfl) ?_ ?_
            · intro a W hSt pre old K hK
              have e136 : a.tmps.getD 136 undef = .int .i64 d := pre 6 136 _ (by kernel_rfl) rfl rfl
              clear pre old
              simp only [Array.getD_eq_getD_getElem?] at e136
              go_simp
              exact hK _ hSt
            refine Vals.Steps.run (by kernel_rfl) ?_ ?_
            · intro a W hSt pre old K hK
              have e137 : a.tmps.getD 137 undef = .int .i64 (40000 - d) := pre 7 137 _ (by kernel_rfl) rfl rfl
              clear pre old
              simp only [Array.getD_eq_getD_getElem?] at e137
              go_simp
              exact hK _ hSt
            refine Vals.Steps.run (by kernel_rfl) ?_ ?_
            · intro a W hSt pre old K hK
              have e135 : a.tmps.getD 135 undef = .int .i64 n1 := pre 5 135 _ (by kernel_rfl) rfl rfl
              have e138 : a.tmps.getD 138 undef = .int .i64 (40000 - d + 1) := pre 8 138 _ (by kernel_rfl) rfl rfl
              clear pre old
              simp only [Array.getD_eq_getD_getElem?] at e135 e138
              go_simp
              rw [if_neg (by omega)]
              exact hK _ hSt
            refine Vals.Steps.run (by kernel_rfl) ?_ ?_
            · intro a W hSt pre old K hK
              have e132 : a.tmps.getD 132 undef = .int .i64 d := pre 2 132 _ (by kernel_rfl) rfl rfl
              have e139 : a.tmps.getD 139 undef = .int .i64 (n1 % (40000 - d + 1)) := pre 9 139 _ (by kernel_rfl) rfl rfl
              clear pre old
              simp only [Array.getD_eq_getD_getElem?] at e132 e139
              go_simp
              rw [HE2.out]
              exact hK _ hSt
            refine Vals.Steps.run (by kernel_rfl) ?_ ?_
            · intro a W hSt pre old K hK
              have e130 : a.tmps.getD 130 undef = .agg (bV b (some ad) c) := pre 0 130 _ (by kernel_rfl) rfl rfl
              have e131 : a.tmps.getD 131 undef = .agg (sV s) := pre 1 131 _ (by kernel_rfl) rfl rfl
              have e140 : a.tmps.getD 140 undef = .int .i64 e2 := pre 10 140 _ (by kernel_rfl) rfl rfl
              clear pre old
              simp only [Array.getD_eq_getD_getElem?] at e130 e131 e140
              go_simp
              have hE := hSt
              refine (first_c b s (some ad) c e2 _ hE.ts).mono ?_
              rintro e w' ⟨rfl, hb'⟩
              rw [HF2.out]
              exact hK _ (hE.keep hb')
            refine Vals.Steps.run (by kernel_rfl) ?_ ?_
            · intro a W hSt pre old K hK
              have e141 : a.tmps.getD 141 undef = .tuple #[.int .i64 0, .int .i64 0, .int .i64 9] := pre 11 141 _ (by kernel_rfl) rfl rfl
              clear pre old
              simp only [Array.getD_eq_getD_getElem?] at e141
              go_simp
              exact hK _ hSt
            refine Vals.Steps.run (by kernel_rfl) ?_ ?_
            · intro a W hSt pre old K hK
              have e129 : a.tmps.getD 129 undef = .tuple #[.int .i64 0, .int .i64 0, .int .i64 9] := pre 12 129 _ (by kernel_rfl) rfl rfl
              clear pre old
              simp only [Array.getD_eq_getD_getElem?] at e129
              go_simp
              exact hK _ hSt
            refine Vals.Steps.run (by kernel_rfl) ?_ ?_
            · intro a W hSt pre old K hK
              have e129 : a.tmps.getD 129 undef = .tuple #[.int .i64 0, .int .i64 0, .int .i64 9] := pre 12 129 _ (by kernel_rfl) rfl rfl
              clear pre old
              simp only [Array.getD_eq_getD_getElem?] at e129
              go_simp
              exact hK _ hSt
            refine Vals.Steps.run (by kernel_rfl) ?_ ?_
            · intro a W hSt pre old K hK
              have e129 : a.tmps.getD 129 undef = .tuple #[.int .i64 0, .int .i64 0, .int .i64 9] := pre 12 129 _ (by kernel_rfl) rfl rfl
              clear pre old
              simp only [Array.getD_eq_getD_getElem?] at e129
              go_simp
              exact hK _ hSt
            refine Vals.Steps.run (by kernel_rfl) ?_ ?_
            · intro a W hSt pre old K hK
              have e142 : a.tmps.getD 142 undef = .int .i64 0 := pre 13 142 _ (by kernel_rfl) rfl rfl
              clear pre old
              simp only [Array.getD_eq_getD_getElem?] at e142
              go_simp
              exact hK _ hSt
            refine Vals.Steps.run (by kernel_rfl) ?_ ?_
            · intro a W hSt pre old K hK
              have e143 : a.tmps.getD 143 undef = .int .i64 0 := pre 14 143 _ (by kernel_rfl) rfl rfl
              clear pre old
              simp only [Array.getD_eq_getD_getElem?] at e143
              go_simp
              exact hK _ hSt
            refine Vals.Steps.last (by kernel_rfl) ?_
            · intro a W hSt pre old K hK
              have e144 : a.tmps.getD 144 undef = .int .i64 9 := pre 15 144 _ (by kernel_rfl) rfl rfl
              clear pre old
              simp only [Array.getD_eq_getD_getElem?] at e144
              go_simp
              exact hK _ hSt
          · rintro W hE
            simp only [Vals.putAll, List.setIfInBounds_toArray, List.set_cons_zero, List.set_cons_succ]
            go_wp2_with fail
            refine (awake_c _).mono ?_
            rintro e w8 ⟨rfl, hb8⟩
            go_wp2_with fail
            go_ret
            exact ⟨rfl, (hE.keep hb8).sn.1⟩
        | some r =>
          obtain ⟨j, r⟩ := r
          have HF2 : Hid (firstV b s e2 = .tuple #[.int .i64 j, .int .i64 r, .int .i64 0]) := by
            show _ = _
            rw [firstV_in HK.out (by omega) (by omega), hf2]; rfl
          obtain ⟨g1, g2, g3, _⟩ := firstFrom_spec hf2
          have g4 := frm_mono (ts := b.ts) hde2
          exfalso
          have := firstFrom_none HFN.out j (by omega) (by omega)
          rw [this] at g3
          cases g3
    | some p =>
      obtain ⟨i, n⟩ := p
      rw [firstV_in HK.out hd0 hd1, hf]
      have hsp := firstFrom_spec hf
      have HFS := Lib.hid hsp
      obtain ⟨g1, g2, g3, g4⟩ := hsp
      have hfl := (frm_spec (day := d) (ts := b.ts)).1
      have hil : i < b.ts.length := by omega
      have hdi := (day_from hB hil).1 g1
      have HBF : Hid (∀ k, k < i → ∀ (h : k < b.ts.length), d ≤ b.ts[k].day → leastOf (doesB b s k) = none) := fun k hki h hday => by
        have g := (day_from hB h).2 hday
        exact g4 k g hki
      have HL := Lib.hid (leastV_ok HK.out hil g3)
      clear hf g1 g2 g3 g4
      simp only [earl]
      obtain ⟨⟨c0, c1, c2, c3, c4, c5⟩, ⟨d0, d1, d2⟩, sx, _, _, _⟩ := HE2'.out
      rw [HX.out] at sx
      have x0 := sx 0 _ rfl
      have x1 := sx 1 _ rfl
      have x2 := sx 2 _ rfl
      have x3 := sx 3 _ rfl
      clear sx
      go_wp2_with fail
      refine (tleast_c b s (some ad) c i _ HE2'.out.ts).mono ?_
      rintro e w3 ⟨rfl, hb3⟩
      rw [HL.out]
      have HE3 := Lib.hid (HE2'.out.keep hb3)
      clear c0 c1 c2 c3 c4 c5 d0 d1 d2 x0 x1 x2 x3
      clear HE2' hb3
      obtain ⟨ad', hA, hat⟩ := HE3.out.ts.get hil
      obtain rfl : ad = ad' := by simpa using hA
      obtain ⟨tdi, _, _, _, _⟩ := hat
      obtain ⟨⟨c0, c1, c2, c3, c4, c5⟩, ⟨d0, d1, d2⟩, sx, _, _, _⟩ := HE3.out
      rw [HX.out] at sx
      have x0 := sx 0 _ rfl
      have x1 := sx 1 _ rfl
      have x2 := sx 2 _ rfl
      have x3 := sx 3 _ rfl
      clear sx
      go_wp2_with fail
      refine (misses_c b s (some ad) c k m _ HE3.out.ts).mono ?_
      rintro e w5 ⟨rfl, hb5⟩
      rcases (by omega : (k < i ∧ d ≤ b.ts[k].day) ∨ i ≤ k ∨ (k < i ∧ b.ts[k].day < d)) with ⟨hkb, hday⟩ | hkb | ⟨hkb, hday⟩
      · rw [missesV_ok HK.out hkl hm40 (leastOf_no (HBF.out k hkb hkl hday) m (by omega))]
        generalize m0 b.mlo b.mhi (bx b s k) (-s.sink * (m : Int)) = q0
        generalize m1 b.mlo b.mhi (bx b s k) (-s.sink * (m : Int)) = q1
        generalize m2 b.mlo b.mhi (bx b s k) (-s.sink * (m : Int)) = q2
        generalize m3 b.mlo b.mhi (bx b s k) (-s.sink * (m : Int)) = q3
        generalize mAt b.mlo b.mhi (bx b s k) (-s.sink * (m : Int)) = q4
        have HE5 := Lib.hid ((HE3.out.keep hb5).alloc (.cells (trV q0 q1 q2 q3) 45))
        clear HE3 hb5 c0 c1 c2 c3 c4 c5 d0 d1 d2 x0 x1 x2 x3
        obtain ⟨⟨c0, c1, c2, c3, c4, c5⟩, ⟨d0, d1, d2⟩, sx, _, _, _⟩ := HE5.out
        rw [HX.out] at sx
        have x0 := sx 0 _ rfl
        have x1 := sx 1 _ rfl
        have x2 := sx 2 _ rfl
        have x3 := sx 3 _ rfl
        clear sx
        obtain ⟨ad', hA, hat⟩ := HE5.out.ts.get hkl
        obtain rfl : ad = ad' := by simpa using hA
        obtain ⟨td, _, _, _, _⟩ := hat
        go_wp2_with fail
        clear td
        clear c0 c1 c2 c3 c4 c5 d0 d1 d2 x0 x1 x2 x3
        cases hf2 : firstFrom (doesB b s) (frm b.ts e2) (b.ts.length - frm b.ts e2) with
        | none =>
          have HF2 : Hid (firstV b s e2 = .tuple #[.int .i64 0, .int .i64 0, .int .i64 9]) := by
            show _ = _
            rw [firstV_in HK.out (by omega) (by omega), hf2]; rfl
          clear hf2
          refine Vals.region (fun X => Env (w.heap.size) (w.heap.size + 1) (w.heap.size + 1 + 1) b (some ad) c s xs none [] w X) (fun X => Env (w.heap.size) (w.heap.size + 1) (w.heap.size + 1 + 1) b (some ad) c s xs none [] w X) [some 130, some 131, some 132, some 133, some 134, some 135, some 136, some 137, some 138, some 139, some 140, some 141, some 129, some 142, some 143, some 144, some 21, some 22, some 23] [.agg (bV b (some ad) c), .agg (sV s), .int .i64 d, .pointer (some ⟨w.heap.size + 1 + 1, 1, none⟩), .int .u16 n1, .int .i64 n1, .int .i64 d, .int .i64 (40000 - d), .int .i64 (40000 - d + 1), .int .i64 (n1 % (40000 - d + 1)), .int .i64 e2, .tuple #[.int .i64 0, .int .i64 0, .int .i64 9], .tuple #[.int .i64 0, .int .i64 0, .int .i64 9], .int .i64 0, .int .i64 0, .int .i64 9, .int .i64 0, .int .i64 0, .int .i64 9] (by kernel_rfl) (by kernel_rfl) (by kernel_rfl) (by kernel_rfl) (by kernel_rfl) (by kernel_rfl) (by kernel_rfl) HE5.out.drew ?_ ?_
          · refine Vals.Steps.run (by kernel_rfl) ?_ ?_
            · intro a W hSt pre old K hK
              have e3 : a.tmps.getD 3 undef = .pointer (some ⟨w.heap.size, 0, none⟩) := old 3 _ (by kernel_rfl) rfl
              clear pre old
              simp only [Array.getD_eq_getD_getElem?] at e3
              have hS9 := hSt
              obtain ⟨⟨s0, s1, s2, s3, s4, s5⟩, ⟨d0, d1, d2⟩, sx, ts, us, sn⟩ := hS9
              rw [HX.out] at sx
              have x0 := sx 0 _ rfl
              have x1 := sx 1 _ rfl
              have x2 := sx 2 _ rfl
              have x3 := sx 3 _ rfl
              go_simp
              exact hK _ hSt
            refine Vals.Steps.run (by kernel_rfl) ?_ ?_
            · intro a W hSt pre old K hK
              have e4 : a.tmps.getD 4 undef = .pointer (some ⟨w.heap.size + 1, 0, none⟩) := old 4 _ (by kernel_rfl) rfl
              clear pre old
              simp only [Array.getD_eq_getD_getElem?] at e4
              have hS9 := hSt
              obtain ⟨⟨s0, s1, s2, s3, s4, s5⟩, ⟨d0, d1, d2⟩, sx, ts, us, sn⟩ := hS9
              rw [HX.out] at sx
              have x0 := sx 0 _ rfl
              have x1 := sx 1 _ rfl
              have x2 := sx 2 _ rfl
              have x3 := sx 3 _ rfl
              go_simp
              exact hK _ hSt
            refine Vals.Steps.run (by kernel_rfl) ?_ ?_
            · intro a W hSt pre old K hK
              have e10 : a.tmps.getD 10 undef = .int .i64 d := old 10 _ (by kernel_rfl) rfl
              clear pre old
              simp only [Array.getD_eq_getD_getElem?] at e10
              go_simp
              exact hK _ hSt
            refine Vals.Steps.run (by kernel_rfl) ?_ ?_
            · intro a W hSt pre old K hK
              have e5 : a.tmps.getD 5 undef = .pointer (some ⟨w.heap.size + 1 + 1, 0, none⟩) := old 5 _ (by kernel_rfl) rfl
              clear pre old
              simp only [Array.getD_eq_getD_getElem?] at e5
              go_simp
              exact hK _ hSt
            refine Vals.Steps.run (by kernel_rfl) ?_ ?_
            · intro a W hSt pre old K hK
              have e133 : a.tmps.getD 133 undef = .pointer (some ⟨w.heap.size + 1 + 1, 1, none⟩) := pre 3 133 _ (by kernel_rfl) rfl rfl
              clear pre old
              simp only [Array.getD_eq_getD_getElem?] at e133
              have hS9 := hSt
              obtain ⟨⟨s0, s1, s2, s3, s4, s5⟩, ⟨d0, d1, d2⟩, sx, ts, us, sn⟩ := hS9
              rw [HX.out] at sx
              have x0 := sx 0 _ rfl
              have x1 := sx 1 _ rfl
              have x2 := sx 2 _ rfl
              have x3 := sx 3 _ rfl
              go_simp
              exact hK _ hSt
            refine Vals.Steps.run (by kernel_rfl) ?_ ?_
            · intro a W hSt pre old K hK
              have e134 : a.tmps.getD 134 undef = .int .u16 n1 := pre 4 134 _ (by kernel_rfl) rfl rfl
              clear pre old
              simp only [Array.getD_eq_getD_getElem?] at e134
              go_simp
              exact hK _ hSt
            refine Vals.Steps.run (by kernel_rfl) ?_ ?_
            · intro a W hSt pre old K hK
              have e10 : a.tmps.getD 10 undef = .int .i64 d := old 10 _ (by kernel_rfl) rfl
              clear pre old
              simp only [Array.getD_eq_getD_getElem?] at e10
              go_simp
              exact hK _ hSt
            refine Vals.Steps.run (by kernel_rfl) ?_ ?_
            · intro a W hSt pre old K hK
              have e136 : a.tmps.getD 136 undef = .int .i64 d := pre 6 136 _ (by kernel_rfl) rfl rfl
              clear pre old
              simp only [Array.getD_eq_getD_getElem?] at e136
              go_simp
              exact hK _ hSt
            refine Vals.Steps.run (by kernel_rfl) ?_ ?_
            · intro a W hSt pre old K hK
              have e137 : a.tmps.getD 137 undef = .int .i64 (40000 - d) := pre 7 137 _ (by kernel_rfl) rfl rfl
              clear pre old
              simp only [Array.getD_eq_getD_getElem?] at e137
              go_simp
              exact hK _ hSt
            refine Vals.Steps.run (by kernel_rfl) ?_ ?_
            · intro a W hSt pre old K hK
              have e135 : a.tmps.getD 135 undef = .int .i64 n1 := pre 5 135 _ (by kernel_rfl) rfl rfl
              have e138 : a.tmps.getD 138 undef = .int .i64 (40000 - d + 1) := pre 8 138 _ (by kernel_rfl) rfl rfl
              clear pre old
              simp only [Array.getD_eq_getD_getElem?] at e135 e138
              go_simp
              rw [if_neg (by omega)]
              exact hK _ hSt
            refine Vals.Steps.run (by kernel_rfl) ?_ ?_
            · intro a W hSt pre old K hK
              have e132 : a.tmps.getD 132 undef = .int .i64 d := pre 2 132 _ (by kernel_rfl) rfl rfl
              have e139 : a.tmps.getD 139 undef = .int .i64 (n1 % (40000 - d + 1)) := pre 9 139 _ (by kernel_rfl) rfl rfl
              clear pre old
              simp only [Array.getD_eq_getD_getElem?] at e132 e139
              go_simp
              rw [HE2.out]
              exact hK _ hSt
            refine Vals.Steps.run (by kernel_rfl) ?_ ?_
            · intro a W hSt pre old K hK
              have e130 : a.tmps.getD 130 undef = .agg (bV b (some ad) c) := pre 0 130 _ (by kernel_rfl) rfl rfl
              have e131 : a.tmps.getD 131 undef = .agg (sV s) := pre 1 131 _ (by kernel_rfl) rfl rfl
              have e140 : a.tmps.getD 140 undef = .int .i64 e2 := pre 10 140 _ (by kernel_rfl) rfl rfl
              clear pre old
              simp only [Array.getD_eq_getD_getElem?] at e130 e131 e140
              go_simp
              have hE := hSt
              refine (first_c b s (some ad) c e2 _ hE.ts).mono ?_
              rintro e w' ⟨rfl, hb'⟩
              rw [HF2.out]
              exact hK _ (hE.keep hb')
            refine Vals.Steps.run (by kernel_rfl) ?_ ?_
            · intro a W hSt pre old K hK
              have e141 : a.tmps.getD 141 undef = .tuple #[.int .i64 0, .int .i64 0, .int .i64 9] := pre 11 141 _ (by kernel_rfl) rfl rfl
              clear pre old
              simp only [Array.getD_eq_getD_getElem?] at e141
              go_simp
              exact hK _ hSt
            refine Vals.Steps.run (by kernel_rfl) ?_ ?_
            · intro a W hSt pre old K hK
              have e129 : a.tmps.getD 129 undef = .tuple #[.int .i64 0, .int .i64 0, .int .i64 9] := pre 12 129 _ (by kernel_rfl) rfl rfl
              clear pre old
              simp only [Array.getD_eq_getD_getElem?] at e129
              go_simp
              exact hK _ hSt
            refine Vals.Steps.run (by kernel_rfl) ?_ ?_
            · intro a W hSt pre old K hK
              have e129 : a.tmps.getD 129 undef = .tuple #[.int .i64 0, .int .i64 0, .int .i64 9] := pre 12 129 _ (by kernel_rfl) rfl rfl
              clear pre old
              simp only [Array.getD_eq_getD_getElem?] at e129
              go_simp
              exact hK _ hSt
            refine Vals.Steps.run (by kernel_rfl) ?_ ?_
            · intro a W hSt pre old K hK
              have e129 : a.tmps.getD 129 undef = .tuple #[.int .i64 0, .int .i64 0, .int .i64 9] := pre 12 129 _ (by kernel_rfl) rfl rfl
              clear pre old
              simp only [Array.getD_eq_getD_getElem?] at e129
              go_simp
              exact hK _ hSt
            refine Vals.Steps.run (by kernel_rfl) ?_ ?_
            · intro a W hSt pre old K hK
              have e142 : a.tmps.getD 142 undef = .int .i64 0 := pre 13 142 _ (by kernel_rfl) rfl rfl
              clear pre old
              simp only [Array.getD_eq_getD_getElem?] at e142
              go_simp
              exact hK _ hSt
            refine Vals.Steps.run (by kernel_rfl) ?_ ?_
            · intro a W hSt pre old K hK
              have e143 : a.tmps.getD 143 undef = .int .i64 0 := pre 14 143 _ (by kernel_rfl) rfl rfl
              clear pre old
              simp only [Array.getD_eq_getD_getElem?] at e143
              go_simp
              exact hK _ hSt
            refine Vals.Steps.last (by kernel_rfl) ?_
            · intro a W hSt pre old K hK
              have e144 : a.tmps.getD 144 undef = .int .i64 9 := pre 15 144 _ (by kernel_rfl) rfl rfl
              clear pre old
              simp only [Array.getD_eq_getD_getElem?] at e144
              go_simp
              exact hK _ hSt
          · rintro W hE
            simp only [Vals.putAll, List.setIfInBounds_toArray, List.set_cons_zero, List.set_cons_succ]
            go_wp2_with fail
            refine (awake_c _).mono ?_
            rintro e w8 ⟨rfl, hb8⟩
            go_wp2_with fail
            go_ret
            exact ⟨rfl, (hE.keep hb8).sn.1⟩
        | some r =>
          obtain ⟨j, r⟩ := r
          have HF2 : Hid (firstV b s e2 = .tuple #[.int .i64 j, .int .i64 r, .int .i64 0]) := by
            show _ = _
            rw [firstV_in HK.out (by omega) (by omega), hf2]; rfl
          obtain ⟨g1, g2, g3, _⟩ := firstFrom_spec hf2
          have g4 := frm_mono (ts := b.ts) hde2
          have hij : i ≤ j := by
            rcases Nat.lt_or_ge j i with h | h
            · have := HFS.out.2.2.2 j (by omega) h
              rw [this] at g3
              cases g3
            · exact h
          clear hf2 g1 g2 g3 g4
          refine Vals.region (fun X => Env (w.heap.size) (w.heap.size + 1) (w.heap.size + 1 + 1) b (some ad) c s xs none [] w X) (fun X => Env (w.heap.size) (w.heap.size + 1) (w.heap.size + 1 + 1) b (some ad) c s xs none [] w X) [some 130, some 131, some 132, some 133, some 134, some 135, some 136, some 137, some 138, some 139, some 140, some 141, some 129, some 142, some 143, some 144, some 21, some 22, some 23] [.agg (bV b (some ad) c), .agg (sV s), .int .i64 d, .pointer (some ⟨w.heap.size + 1 + 1, 1, none⟩), .int .u16 n1, .int .i64 n1, .int .i64 d, .int .i64 (40000 - d), .int .i64 (40000 - d + 1), .int .i64 (n1 % (40000 - d + 1)), .int .i64 e2, .tuple #[.int .i64 (j : Int), .int .i64 (r : Int), .int .i64 0], .tuple #[.int .i64 (j : Int), .int .i64 (r : Int), .int .i64 0], .int .i64 (j : Int), .int .i64 (r : Int), .int .i64 0, .int .i64 (j : Int), .int .i64 (r : Int), .int .i64 0] (by kernel_rfl) (by kernel_rfl) (by kernel_rfl) (by kernel_rfl) (by kernel_rfl) (by kernel_rfl) (by kernel_rfl) HE5.out.drew ?_ ?_
          · refine Vals.Steps.run (by kernel_rfl) ?_ ?_
            · intro a W hSt pre old K hK
              have e3 : a.tmps.getD 3 undef = .pointer (some ⟨w.heap.size, 0, none⟩) := old 3 _ (by kernel_rfl) rfl
              clear pre old
              simp only [Array.getD_eq_getD_getElem?] at e3
              have hS9 := hSt
              obtain ⟨⟨s0, s1, s2, s3, s4, s5⟩, ⟨d0, d1, d2⟩, sx, ts, us, sn⟩ := hS9
              rw [HX.out] at sx
              have x0 := sx 0 _ rfl
              have x1 := sx 1 _ rfl
              have x2 := sx 2 _ rfl
              have x3 := sx 3 _ rfl
              go_simp
              exact hK _ hSt
            refine Vals.Steps.run (by kernel_rfl) ?_ ?_
            · intro a W hSt pre old K hK
              have e4 : a.tmps.getD 4 undef = .pointer (some ⟨w.heap.size + 1, 0, none⟩) := old 4 _ (by kernel_rfl) rfl
              clear pre old
              simp only [Array.getD_eq_getD_getElem?] at e4
              have hS9 := hSt
              obtain ⟨⟨s0, s1, s2, s3, s4, s5⟩, ⟨d0, d1, d2⟩, sx, ts, us, sn⟩ := hS9
              rw [HX.out] at sx
              have x0 := sx 0 _ rfl
              have x1 := sx 1 _ rfl
              have x2 := sx 2 _ rfl
              have x3 := sx 3 _ rfl
              go_simp
              exact hK _ hSt
            refine Vals.Steps.run (by kernel_rfl) ?_ ?_
            · intro a W hSt pre old K hK
              have e10 : a.tmps.getD 10 undef = .int .i64 d := old 10 _ (by kernel_rfl) rfl
              clear pre old
              simp only [Array.getD_eq_getD_getElem?] at e10
              go_simp
              exact hK _ hSt
            refine Vals.Steps.run (by kernel_rfl) ?_ ?_
            · intro a W hSt pre old K hK
              have e5 : a.tmps.getD 5 undef = .pointer (some ⟨w.heap.size + 1 + 1, 0, none⟩) := old 5 _ (by kernel_rfl) rfl
              clear pre old
              simp only [Array.getD_eq_getD_getElem?] at e5
              go_simp
              exact hK _ hSt
            refine Vals.Steps.run (by kernel_rfl) ?_ ?_
            · intro a W hSt pre old K hK
              have e133 : a.tmps.getD 133 undef = .pointer (some ⟨w.heap.size + 1 + 1, 1, none⟩) := pre 3 133 _ (by kernel_rfl) rfl rfl
              clear pre old
              simp only [Array.getD_eq_getD_getElem?] at e133
              have hS9 := hSt
              obtain ⟨⟨s0, s1, s2, s3, s4, s5⟩, ⟨d0, d1, d2⟩, sx, ts, us, sn⟩ := hS9
              rw [HX.out] at sx
              have x0 := sx 0 _ rfl
              have x1 := sx 1 _ rfl
              have x2 := sx 2 _ rfl
              have x3 := sx 3 _ rfl
              go_simp
              exact hK _ hSt
            refine Vals.Steps.run (by kernel_rfl) ?_ ?_
            · intro a W hSt pre old K hK
              have e134 : a.tmps.getD 134 undef = .int .u16 n1 := pre 4 134 _ (by kernel_rfl) rfl rfl
              clear pre old
              simp only [Array.getD_eq_getD_getElem?] at e134
              go_simp
              exact hK _ hSt
            refine Vals.Steps.run (by kernel_rfl) ?_ ?_
            · intro a W hSt pre old K hK
              have e10 : a.tmps.getD 10 undef = .int .i64 d := old 10 _ (by kernel_rfl) rfl
              clear pre old
              simp only [Array.getD_eq_getD_getElem?] at e10
              go_simp
              exact hK _ hSt
            refine Vals.Steps.run (by kernel_rfl) ?_ ?_
            · intro a W hSt pre old K hK
              have e136 : a.tmps.getD 136 undef = .int .i64 d := pre 6 136 _ (by kernel_rfl) rfl rfl
              clear pre old
              simp only [Array.getD_eq_getD_getElem?] at e136
              go_simp
              exact hK _ hSt
            refine Vals.Steps.run (by kernel_rfl) ?_ ?_
            · intro a W hSt pre old K hK
              have e137 : a.tmps.getD 137 undef = .int .i64 (40000 - d) := pre 7 137 _ (by kernel_rfl) rfl rfl
              clear pre old
              simp only [Array.getD_eq_getD_getElem?] at e137
              go_simp
              exact hK _ hSt
            refine Vals.Steps.run (by kernel_rfl) ?_ ?_
            · intro a W hSt pre old K hK
              have e135 : a.tmps.getD 135 undef = .int .i64 n1 := pre 5 135 _ (by kernel_rfl) rfl rfl
              have e138 : a.tmps.getD 138 undef = .int .i64 (40000 - d + 1) := pre 8 138 _ (by kernel_rfl) rfl rfl
              clear pre old
              simp only [Array.getD_eq_getD_getElem?] at e135 e138
              go_simp
              rw [if_neg (by omega)]
              exact hK _ hSt
            refine Vals.Steps.run (by kernel_rfl) ?_ ?_
            · intro a W hSt pre old K hK
              have e132 : a.tmps.getD 132 undef = .int .i64 d := pre 2 132 _ (by kernel_rfl) rfl rfl
              have e139 : a.tmps.getD 139 undef = .int .i64 (n1 % (40000 - d + 1)) := pre 9 139 _ (by kernel_rfl) rfl rfl
              clear pre old
              simp only [Array.getD_eq_getD_getElem?] at e132 e139
              go_simp
              rw [HE2.out]
              exact hK _ hSt
            refine Vals.Steps.run (by kernel_rfl) ?_ ?_
            · intro a W hSt pre old K hK
              have e130 : a.tmps.getD 130 undef = .agg (bV b (some ad) c) := pre 0 130 _ (by kernel_rfl) rfl rfl
              have e131 : a.tmps.getD 131 undef = .agg (sV s) := pre 1 131 _ (by kernel_rfl) rfl rfl
              have e140 : a.tmps.getD 140 undef = .int .i64 e2 := pre 10 140 _ (by kernel_rfl) rfl rfl
              clear pre old
              simp only [Array.getD_eq_getD_getElem?] at e130 e131 e140
              go_simp
              have hE := hSt
              refine (first_c b s (some ad) c e2 _ hE.ts).mono ?_
              rintro e w' ⟨rfl, hb'⟩
              rw [HF2.out]
              exact hK _ (hE.keep hb')
            refine Vals.Steps.run (by kernel_rfl) ?_ ?_
            · intro a W hSt pre old K hK
              have e141 : a.tmps.getD 141 undef = .tuple #[.int .i64 (j : Int), .int .i64 (r : Int), .int .i64 0] := pre 11 141 _ (by kernel_rfl) rfl rfl
              clear pre old
              simp only [Array.getD_eq_getD_getElem?] at e141
              go_simp
              exact hK _ hSt
            refine Vals.Steps.run (by kernel_rfl) ?_ ?_
            · intro a W hSt pre old K hK
              have e129 : a.tmps.getD 129 undef = .tuple #[.int .i64 (j : Int), .int .i64 (r : Int), .int .i64 0] := pre 12 129 _ (by kernel_rfl) rfl rfl
              clear pre old
              simp only [Array.getD_eq_getD_getElem?] at e129
              go_simp
              exact hK _ hSt
            refine Vals.Steps.run (by kernel_rfl) ?_ ?_
            · intro a W hSt pre old K hK
              have e129 : a.tmps.getD 129 undef = .tuple #[.int .i64 (j : Int), .int .i64 (r : Int), .int .i64 0] := pre 12 129 _ (by kernel_rfl) rfl rfl
              clear pre old
              simp only [Array.getD_eq_getD_getElem?] at e129
              go_simp
              exact hK _ hSt
            refine Vals.Steps.run (by kernel_rfl) ?_ ?_
            · intro a W hSt pre old K hK
              have e129 : a.tmps.getD 129 undef = .tuple #[.int .i64 (j : Int), .int .i64 (r : Int), .int .i64 0] := pre 12 129 _ (by kernel_rfl) rfl rfl
              clear pre old
              simp only [Array.getD_eq_getD_getElem?] at e129
              go_simp
              exact hK _ hSt
            refine Vals.Steps.run (by kernel_rfl) ?_ ?_
            · intro a W hSt pre old K hK
              have e142 : a.tmps.getD 142 undef = .int .i64 (j : Int) := pre 13 142 _ (by kernel_rfl) rfl rfl
              clear pre old
              simp only [Array.getD_eq_getD_getElem?] at e142
              go_simp
              exact hK _ hSt
            refine Vals.Steps.run (by kernel_rfl) ?_ ?_
            · intro a W hSt pre old K hK
              have e143 : a.tmps.getD 143 undef = .int .i64 (r : Int) := pre 14 143 _ (by kernel_rfl) rfl rfl
              clear pre old
              simp only [Array.getD_eq_getD_getElem?] at e143
              go_simp
              exact hK _ hSt
            refine Vals.Steps.last (by kernel_rfl) ?_
            · intro a W hSt pre old K hK
              have e144 : a.tmps.getD 144 undef = .int .i64 0 := pre 15 144 _ (by kernel_rfl) rfl rfl
              clear pre old
              simp only [Array.getD_eq_getD_getElem?] at e144
              go_simp
              exact hK _ hSt
          · rintro W hE
            simp only [Vals.putAll, List.setIfInBounds_toArray, List.set_cons_zero, List.set_cons_succ]
            go_wp2_with fail
            refine (awake_c _).mono ?_
            rintro e w8 ⟨rfl, hb8⟩
            go_wp2_with fail
            go_ret
            exact ⟨rfl, (hE.keep hb8).sn.1⟩
      · obtain ⟨q0, q1, q2, q3, q4, q5, hq⟩ := missesV_six b s k m
        rw [hq]
        clear hq
        have HE5 := Lib.hid ((HE3.out.keep hb5).alloc (.cells (trV q0 q1 q2 q3) 45))
        clear HE3 hb5 c0 c1 c2 c3 c4 c5 d0 d1 d2 x0 x1 x2 x3
        obtain ⟨⟨c0, c1, c2, c3, c4, c5⟩, ⟨d0, d1, d2⟩, sx, _, _, _⟩ := HE5.out
        rw [HX.out] at sx
        have x0 := sx 0 _ rfl
        have x1 := sx 1 _ rfl
        have x2 := sx 2 _ rfl
        have x3 := sx 3 _ rfl
        clear sx
        obtain ⟨ad', hA, hat⟩ := HE5.out.ts.get hkl
        obtain rfl : ad = ad' := by simpa using hA
        obtain ⟨td, _, _, _, _⟩ := hat
        go_wp2_with fail
        clear td
        clear c0 c1 c2 c3 c4 c5 d0 d1 d2 x0 x1 x2 x3
        cases hf2 : firstFrom (doesB b s) (frm b.ts e2) (b.ts.length - frm b.ts e2) with
        | none =>
          have HF2 : Hid (firstV b s e2 = .tuple #[.int .i64 0, .int .i64 0, .int .i64 9]) := by
            show _ = _
            rw [firstV_in HK.out (by omega) (by omega), hf2]; rfl
          clear hf2
          refine Vals.region (fun X => Env (w.heap.size) (w.heap.size + 1) (w.heap.size + 1 + 1) b (some ad) c s xs none [] w X) (fun X => Env (w.heap.size) (w.heap.size + 1) (w.heap.size + 1 + 1) b (some ad) c s xs none [] w X) [some 130, some 131, some 132, some 133, some 134, some 135, some 136, some 137, some 138, some 139, some 140, some 141, some 129, some 142, some 143, some 144, some 21, some 22, some 23] [.agg (bV b (some ad) c), .agg (sV s), .int .i64 d, .pointer (some ⟨w.heap.size + 1 + 1, 1, none⟩), .int .u16 n1, .int .i64 n1, .int .i64 d, .int .i64 (40000 - d), .int .i64 (40000 - d + 1), .int .i64 (n1 % (40000 - d + 1)), .int .i64 e2, .tuple #[.int .i64 0, .int .i64 0, .int .i64 9], .tuple #[.int .i64 0, .int .i64 0, .int .i64 9], .int .i64 0, .int .i64 0, .int .i64 9, .int .i64 0, .int .i64 0, .int .i64 9] (by kernel_rfl) (by kernel_rfl) (by kernel_rfl) (by kernel_rfl) (by kernel_rfl) (by kernel_rfl) (by kernel_rfl) HE5.out.drew ?_ ?_
          · refine Vals.Steps.run (by kernel_rfl) ?_ ?_
            · intro a W hSt pre old K hK
              have e3 : a.tmps.getD 3 undef = .pointer (some ⟨w.heap.size, 0, none⟩) := old 3 _ (by kernel_rfl) rfl
              clear pre old
              simp only [Array.getD_eq_getD_getElem?] at e3
              have hS9 := hSt
              obtain ⟨⟨s0, s1, s2, s3, s4, s5⟩, ⟨d0, d1, d2⟩, sx, ts, us, sn⟩ := hS9
              rw [HX.out] at sx
              have x0 := sx 0 _ rfl
              have x1 := sx 1 _ rfl
              have x2 := sx 2 _ rfl
              have x3 := sx 3 _ rfl
              go_simp
              exact hK _ hSt
            refine Vals.Steps.run (by kernel_rfl) ?_ ?_
            · intro a W hSt pre old K hK
              have e4 : a.tmps.getD 4 undef = .pointer (some ⟨w.heap.size + 1, 0, none⟩) := old 4 _ (by kernel_rfl) rfl
              clear pre old
              simp only [Array.getD_eq_getD_getElem?] at e4
              have hS9 := hSt
              obtain ⟨⟨s0, s1, s2, s3, s4, s5⟩, ⟨d0, d1, d2⟩, sx, ts, us, sn⟩ := hS9
              rw [HX.out] at sx
              have x0 := sx 0 _ rfl
              have x1 := sx 1 _ rfl
              have x2 := sx 2 _ rfl
              have x3 := sx 3 _ rfl
              go_simp
              exact hK _ hSt
            refine Vals.Steps.run (by kernel_rfl) ?_ ?_
            · intro a W hSt pre old K hK
              have e10 : a.tmps.getD 10 undef = .int .i64 d := old 10 _ (by kernel_rfl) rfl
              clear pre old
              simp only [Array.getD_eq_getD_getElem?] at e10
              go_simp
              exact hK _ hSt
            refine Vals.Steps.run (by kernel_rfl) ?_ ?_
            · intro a W hSt pre old K hK
              have e5 : a.tmps.getD 5 undef = .pointer (some ⟨w.heap.size + 1 + 1, 0, none⟩) := old 5 _ (by kernel_rfl) rfl
              clear pre old
              simp only [Array.getD_eq_getD_getElem?] at e5
              go_simp
              exact hK _ hSt
            refine Vals.Steps.run (by kernel_rfl) ?_ ?_
            · intro a W hSt pre old K hK
              have e133 : a.tmps.getD 133 undef = .pointer (some ⟨w.heap.size + 1 + 1, 1, none⟩) := pre 3 133 _ (by kernel_rfl) rfl rfl
              clear pre old
              simp only [Array.getD_eq_getD_getElem?] at e133
              have hS9 := hSt
              obtain ⟨⟨s0, s1, s2, s3, s4, s5⟩, ⟨d0, d1, d2⟩, sx, ts, us, sn⟩ := hS9
              rw [HX.out] at sx
              have x0 := sx 0 _ rfl
              have x1 := sx 1 _ rfl
              have x2 := sx 2 _ rfl
              have x3 := sx 3 _ rfl
              go_simp
              exact hK _ hSt
            refine Vals.Steps.run (by kernel_rfl) ?_ ?_
            · intro a W hSt pre old K hK
              have e134 : a.tmps.getD 134 undef = .int .u16 n1 := pre 4 134 _ (by kernel_rfl) rfl rfl
              clear pre old
              simp only [Array.getD_eq_getD_getElem?] at e134
              go_simp
              exact hK _ hSt
            refine Vals.Steps.run (by kernel_rfl) ?_ ?_
            · intro a W hSt pre old K hK
              have e10 : a.tmps.getD 10 undef = .int .i64 d := old 10 _ (by kernel_rfl) rfl
              clear pre old
              simp only [Array.getD_eq_getD_getElem?] at e10
              go_simp
              exact hK _ hSt
            refine Vals.Steps.run (by kernel_rfl) ?_ ?_
            · intro a W hSt pre old K hK
              have e136 : a.tmps.getD 136 undef = .int .i64 d := pre 6 136 _ (by kernel_rfl) rfl rfl
              clear pre old
              simp only [Array.getD_eq_getD_getElem?] at e136
              go_simp
              exact hK _ hSt
            refine Vals.Steps.run (by kernel_rfl) ?_ ?_
            · intro a W hSt pre old K hK
              have e137 : a.tmps.getD 137 undef = .int .i64 (40000 - d) := pre 7 137 _ (by kernel_rfl) rfl rfl
              clear pre old
              simp only [Array.getD_eq_getD_getElem?] at e137
              go_simp
              exact hK _ hSt
            refine Vals.Steps.run (by kernel_rfl) ?_ ?_
            · intro a W hSt pre old K hK
              have e135 : a.tmps.getD 135 undef = .int .i64 n1 := pre 5 135 _ (by kernel_rfl) rfl rfl
              have e138 : a.tmps.getD 138 undef = .int .i64 (40000 - d + 1) := pre 8 138 _ (by kernel_rfl) rfl rfl
              clear pre old
              simp only [Array.getD_eq_getD_getElem?] at e135 e138
              go_simp
              rw [if_neg (by omega)]
              exact hK _ hSt
            refine Vals.Steps.run (by kernel_rfl) ?_ ?_
            · intro a W hSt pre old K hK
              have e132 : a.tmps.getD 132 undef = .int .i64 d := pre 2 132 _ (by kernel_rfl) rfl rfl
              have e139 : a.tmps.getD 139 undef = .int .i64 (n1 % (40000 - d + 1)) := pre 9 139 _ (by kernel_rfl) rfl rfl
              clear pre old
              simp only [Array.getD_eq_getD_getElem?] at e132 e139
              go_simp
              rw [HE2.out]
              exact hK _ hSt
            refine Vals.Steps.run (by kernel_rfl) ?_ ?_
            · intro a W hSt pre old K hK
              have e130 : a.tmps.getD 130 undef = .agg (bV b (some ad) c) := pre 0 130 _ (by kernel_rfl) rfl rfl
              have e131 : a.tmps.getD 131 undef = .agg (sV s) := pre 1 131 _ (by kernel_rfl) rfl rfl
              have e140 : a.tmps.getD 140 undef = .int .i64 e2 := pre 10 140 _ (by kernel_rfl) rfl rfl
              clear pre old
              simp only [Array.getD_eq_getD_getElem?] at e130 e131 e140
              go_simp
              have hE := hSt
              refine (first_c b s (some ad) c e2 _ hE.ts).mono ?_
              rintro e w' ⟨rfl, hb'⟩
              rw [HF2.out]
              exact hK _ (hE.keep hb')
            refine Vals.Steps.run (by kernel_rfl) ?_ ?_
            · intro a W hSt pre old K hK
              have e141 : a.tmps.getD 141 undef = .tuple #[.int .i64 0, .int .i64 0, .int .i64 9] := pre 11 141 _ (by kernel_rfl) rfl rfl
              clear pre old
              simp only [Array.getD_eq_getD_getElem?] at e141
              go_simp
              exact hK _ hSt
            refine Vals.Steps.run (by kernel_rfl) ?_ ?_
            · intro a W hSt pre old K hK
              have e129 : a.tmps.getD 129 undef = .tuple #[.int .i64 0, .int .i64 0, .int .i64 9] := pre 12 129 _ (by kernel_rfl) rfl rfl
              clear pre old
              simp only [Array.getD_eq_getD_getElem?] at e129
              go_simp
              exact hK _ hSt
            refine Vals.Steps.run (by kernel_rfl) ?_ ?_
            · intro a W hSt pre old K hK
              have e129 : a.tmps.getD 129 undef = .tuple #[.int .i64 0, .int .i64 0, .int .i64 9] := pre 12 129 _ (by kernel_rfl) rfl rfl
              clear pre old
              simp only [Array.getD_eq_getD_getElem?] at e129
              go_simp
              exact hK _ hSt
            refine Vals.Steps.run (by kernel_rfl) ?_ ?_
            · intro a W hSt pre old K hK
              have e129 : a.tmps.getD 129 undef = .tuple #[.int .i64 0, .int .i64 0, .int .i64 9] := pre 12 129 _ (by kernel_rfl) rfl rfl
              clear pre old
              simp only [Array.getD_eq_getD_getElem?] at e129
              go_simp
              exact hK _ hSt
            refine Vals.Steps.run (by kernel_rfl) ?_ ?_
            · intro a W hSt pre old K hK
              have e142 : a.tmps.getD 142 undef = .int .i64 0 := pre 13 142 _ (by kernel_rfl) rfl rfl
              clear pre old
              simp only [Array.getD_eq_getD_getElem?] at e142
              go_simp
              exact hK _ hSt
            refine Vals.Steps.run (by kernel_rfl) ?_ ?_
            · intro a W hSt pre old K hK
              have e143 : a.tmps.getD 143 undef = .int .i64 0 := pre 14 143 _ (by kernel_rfl) rfl rfl
              clear pre old
              simp only [Array.getD_eq_getD_getElem?] at e143
              go_simp
              exact hK _ hSt
            refine Vals.Steps.last (by kernel_rfl) ?_
            · intro a W hSt pre old K hK
              have e144 : a.tmps.getD 144 undef = .int .i64 9 := pre 15 144 _ (by kernel_rfl) rfl rfl
              clear pre old
              simp only [Array.getD_eq_getD_getElem?] at e144
              go_simp
              exact hK _ hSt
          · rintro W hE
            simp only [Vals.putAll, List.setIfInBounds_toArray, List.set_cons_zero, List.set_cons_succ]
            go_wp2_with fail
            refine (awake_c _).mono ?_
            rintro e w8 ⟨rfl, hb8⟩
            go_wp2_with fail
            go_ret
            exact ⟨rfl, (hE.keep hb8).sn.1⟩
        | some r =>
          obtain ⟨j, r⟩ := r
          have HF2 : Hid (firstV b s e2 = .tuple #[.int .i64 j, .int .i64 r, .int .i64 0]) := by
            show _ = _
            rw [firstV_in HK.out (by omega) (by omega), hf2]; rfl
          obtain ⟨g1, g2, g3, _⟩ := firstFrom_spec hf2
          have g4 := frm_mono (ts := b.ts) hde2
          have hij : i ≤ j := by
            rcases Nat.lt_or_ge j i with h | h
            · have := HFS.out.2.2.2 j (by omega) h
              rw [this] at g3
              cases g3
            · exact h
          clear hf2 g1 g2 g3 g4
          refine Vals.region (fun X => Env (w.heap.size) (w.heap.size + 1) (w.heap.size + 1 + 1) b (some ad) c s xs none [] w X) (fun X => Env (w.heap.size) (w.heap.size + 1) (w.heap.size + 1 + 1) b (some ad) c s xs none [] w X) [some 130, some 131, some 132, some 133, some 134, some 135, some 136, some 137, some 138, some 139, some 140, some 141, some 129, some 142, some 143, some 144, some 21, some 22, some 23] [.agg (bV b (some ad) c), .agg (sV s), .int .i64 d, .pointer (some ⟨w.heap.size + 1 + 1, 1, none⟩), .int .u16 n1, .int .i64 n1, .int .i64 d, .int .i64 (40000 - d), .int .i64 (40000 - d + 1), .int .i64 (n1 % (40000 - d + 1)), .int .i64 e2, .tuple #[.int .i64 (j : Int), .int .i64 (r : Int), .int .i64 0], .tuple #[.int .i64 (j : Int), .int .i64 (r : Int), .int .i64 0], .int .i64 (j : Int), .int .i64 (r : Int), .int .i64 0, .int .i64 (j : Int), .int .i64 (r : Int), .int .i64 0] (by kernel_rfl) (by kernel_rfl) (by kernel_rfl) (by kernel_rfl) (by kernel_rfl) (by kernel_rfl) (by kernel_rfl) HE5.out.drew ?_ ?_
          · refine Vals.Steps.run (by kernel_rfl) ?_ ?_
            · intro a W hSt pre old K hK
              have e3 : a.tmps.getD 3 undef = .pointer (some ⟨w.heap.size, 0, none⟩) := old 3 _ (by kernel_rfl) rfl
              clear pre old
              simp only [Array.getD_eq_getD_getElem?] at e3
              have hS9 := hSt
              obtain ⟨⟨s0, s1, s2, s3, s4, s5⟩, ⟨d0, d1, d2⟩, sx, ts, us, sn⟩ := hS9
              rw [HX.out] at sx
              have x0 := sx 0 _ rfl
              have x1 := sx 1 _ rfl
              have x2 := sx 2 _ rfl
              have x3 := sx 3 _ rfl
              go_simp
              exact hK _ hSt
            refine Vals.Steps.run (by kernel_rfl) ?_ ?_
            · intro a W hSt pre old K hK
              have e4 : a.tmps.getD 4 undef = .pointer (some ⟨w.heap.size + 1, 0, none⟩) := old 4 _ (by kernel_rfl) rfl
              clear pre old
              simp only [Array.getD_eq_getD_getElem?] at e4
              have hS9 := hSt
              obtain ⟨⟨s0, s1, s2, s3, s4, s5⟩, ⟨d0, d1, d2⟩, sx, ts, us, sn⟩ := hS9
              rw [HX.out] at sx
              have x0 := sx 0 _ rfl
              have x1 := sx 1 _ rfl
              have x2 := sx 2 _ rfl
              have x3 := sx 3 _ rfl
              go_simp
              exact hK _ hSt
            refine Vals.Steps.run (by kernel_rfl) ?_ ?_
            · intro a W hSt pre old K hK
              have e10 : a.tmps.getD 10 undef = .int .i64 d := old 10 _ (by kernel_rfl) rfl
              clear pre old
              simp only [Array.getD_eq_getD_getElem?] at e10
              go_simp
              exact hK _ hSt
            refine Vals.Steps.run (by kernel_rfl) ?_ ?_
            · intro a W hSt pre old K hK
              have e5 : a.tmps.getD 5 undef = .pointer (some ⟨w.heap.size + 1 + 1, 0, none⟩) := old 5 _ (by kernel_rfl) rfl
              clear pre old
              simp only [Array.getD_eq_getD_getElem?] at e5
              go_simp
              exact hK _ hSt
            refine Vals.Steps.run (by kernel_rfl) ?_ ?_
            · intro a W hSt pre old K hK
              have e133 : a.tmps.getD 133 undef = .pointer (some ⟨w.heap.size + 1 + 1, 1, none⟩) := pre 3 133 _ (by kernel_rfl) rfl rfl
              clear pre old
              simp only [Array.getD_eq_getD_getElem?] at e133
              have hS9 := hSt
              obtain ⟨⟨s0, s1, s2, s3, s4, s5⟩, ⟨d0, d1, d2⟩, sx, ts, us, sn⟩ := hS9
              rw [HX.out] at sx
              have x0 := sx 0 _ rfl
              have x1 := sx 1 _ rfl
              have x2 := sx 2 _ rfl
              have x3 := sx 3 _ rfl
              go_simp
              exact hK _ hSt
            refine Vals.Steps.run (by kernel_rfl) ?_ ?_
            · intro a W hSt pre old K hK
              have e134 : a.tmps.getD 134 undef = .int .u16 n1 := pre 4 134 _ (by kernel_rfl) rfl rfl
              clear pre old
              simp only [Array.getD_eq_getD_getElem?] at e134
              go_simp
              exact hK _ hSt
            refine Vals.Steps.run (by kernel_rfl) ?_ ?_
            · intro a W hSt pre old K hK
              have e10 : a.tmps.getD 10 undef = .int .i64 d := old 10 _ (by kernel_rfl) rfl
              clear pre old
              simp only [Array.getD_eq_getD_getElem?] at e10
              go_simp
              exact hK _ hSt
            refine Vals.Steps.run (by kernel_rfl) ?_ ?_
            · intro a W hSt pre old K hK
              have e136 : a.tmps.getD 136 undef = .int .i64 d := pre 6 136 _ (by kernel_rfl) rfl rfl
              clear pre old
              simp only [Array.getD_eq_getD_getElem?] at e136
              go_simp
              exact hK _ hSt
            refine Vals.Steps.run (by kernel_rfl) ?_ ?_
            · intro a W hSt pre old K hK
              have e137 : a.tmps.getD 137 undef = .int .i64 (40000 - d) := pre 7 137 _ (by kernel_rfl) rfl rfl
              clear pre old
              simp only [Array.getD_eq_getD_getElem?] at e137
              go_simp
              exact hK _ hSt
            refine Vals.Steps.run (by kernel_rfl) ?_ ?_
            · intro a W hSt pre old K hK
              have e135 : a.tmps.getD 135 undef = .int .i64 n1 := pre 5 135 _ (by kernel_rfl) rfl rfl
              have e138 : a.tmps.getD 138 undef = .int .i64 (40000 - d + 1) := pre 8 138 _ (by kernel_rfl) rfl rfl
              clear pre old
              simp only [Array.getD_eq_getD_getElem?] at e135 e138
              go_simp
              rw [if_neg (by omega)]
              exact hK _ hSt
            refine Vals.Steps.run (by kernel_rfl) ?_ ?_
            · intro a W hSt pre old K hK
              have e132 : a.tmps.getD 132 undef = .int .i64 d := pre 2 132 _ (by kernel_rfl) rfl rfl
              have e139 : a.tmps.getD 139 undef = .int .i64 (n1 % (40000 - d + 1)) := pre 9 139 _ (by kernel_rfl) rfl rfl
              clear pre old
              simp only [Array.getD_eq_getD_getElem?] at e132 e139
              go_simp
              rw [HE2.out]
              exact hK _ hSt
            refine Vals.Steps.run (by kernel_rfl) ?_ ?_
            · intro a W hSt pre old K hK
              have e130 : a.tmps.getD 130 undef = .agg (bV b (some ad) c) := pre 0 130 _ (by kernel_rfl) rfl rfl
              have e131 : a.tmps.getD 131 undef = .agg (sV s) := pre 1 131 _ (by kernel_rfl) rfl rfl
              have e140 : a.tmps.getD 140 undef = .int .i64 e2 := pre 10 140 _ (by kernel_rfl) rfl rfl
              clear pre old
              simp only [Array.getD_eq_getD_getElem?] at e130 e131 e140
              go_simp
              have hE := hSt
              refine (first_c b s (some ad) c e2 _ hE.ts).mono ?_
              rintro e w' ⟨rfl, hb'⟩
              rw [HF2.out]
              exact hK _ (hE.keep hb')
            refine Vals.Steps.run (by kernel_rfl) ?_ ?_
            · intro a W hSt pre old K hK
              have e141 : a.tmps.getD 141 undef = .tuple #[.int .i64 (j : Int), .int .i64 (r : Int), .int .i64 0] := pre 11 141 _ (by kernel_rfl) rfl rfl
              clear pre old
              simp only [Array.getD_eq_getD_getElem?] at e141
              go_simp
              exact hK _ hSt
            refine Vals.Steps.run (by kernel_rfl) ?_ ?_
            · intro a W hSt pre old K hK
              have e129 : a.tmps.getD 129 undef = .tuple #[.int .i64 (j : Int), .int .i64 (r : Int), .int .i64 0] := pre 12 129 _ (by kernel_rfl) rfl rfl
              clear pre old
              simp only [Array.getD_eq_getD_getElem?] at e129
              go_simp
              exact hK _ hSt
            refine Vals.Steps.run (by kernel_rfl) ?_ ?_
            · intro a W hSt pre old K hK
              have e129 : a.tmps.getD 129 undef = .tuple #[.int .i64 (j : Int), .int .i64 (r : Int), .int .i64 0] := pre 12 129 _ (by kernel_rfl) rfl rfl
              clear pre old
              simp only [Array.getD_eq_getD_getElem?] at e129
              go_simp
              exact hK _ hSt
            refine Vals.Steps.run (by kernel_rfl) ?_ ?_
            · intro a W hSt pre old K hK
              have e129 : a.tmps.getD 129 undef = .tuple #[.int .i64 (j : Int), .int .i64 (r : Int), .int .i64 0] := pre 12 129 _ (by kernel_rfl) rfl rfl
              clear pre old
              simp only [Array.getD_eq_getD_getElem?] at e129
              go_simp
              exact hK _ hSt
            refine Vals.Steps.run (by kernel_rfl) ?_ ?_
            · intro a W hSt pre old K hK
              have e142 : a.tmps.getD 142 undef = .int .i64 (j : Int) := pre 13 142 _ (by kernel_rfl) rfl rfl
              clear pre old
              simp only [Array.getD_eq_getD_getElem?] at e142
              go_simp
              exact hK _ hSt
            refine Vals.Steps.run (by kernel_rfl) ?_ ?_
            · intro a W hSt pre old K hK
              have e143 : a.tmps.getD 143 undef = .int .i64 (r : Int) := pre 14 143 _ (by kernel_rfl) rfl rfl
              clear pre old
              simp only [Array.getD_eq_getD_getElem?] at e143
              go_simp
              exact hK _ hSt
            refine Vals.Steps.last (by kernel_rfl) ?_
            · intro a W hSt pre old K hK
              have e144 : a.tmps.getD 144 undef = .int .i64 0 := pre 15 144 _ (by kernel_rfl) rfl rfl
              clear pre old
              simp only [Array.getD_eq_getD_getElem?] at e144
              go_simp
              exact hK _ hSt
          · rintro W hE
            simp only [Vals.putAll, List.setIfInBounds_toArray, List.set_cons_zero, List.set_cons_succ]
            go_wp2_with fail
            refine (awake_c _).mono ?_
            rintro e w8 ⟨rfl, hb8⟩
            go_wp2_with fail
            go_ret
            exact ⟨rfl, (hE.keep hb8).sn.1⟩
      · obtain ⟨q0, q1, q2, q3, q4, q5, hq⟩ := missesV_six b s k m
        rw [hq]
        clear hq
        have HE5 := Lib.hid ((HE3.out.keep hb5).alloc (.cells (trV q0 q1 q2 q3) 45))
        clear HE3 hb5 c0 c1 c2 c3 c4 c5 d0 d1 d2 x0 x1 x2 x3
        obtain ⟨⟨c0, c1, c2, c3, c4, c5⟩, ⟨d0, d1, d2⟩, sx, _, _, _⟩ := HE5.out
        rw [HX.out] at sx
        have x0 := sx 0 _ rfl
        have x1 := sx 1 _ rfl
        have x2 := sx 2 _ rfl
        have x3 := sx 3 _ rfl
        clear sx
        obtain ⟨ad', hA, hat⟩ := HE5.out.ts.get hkl
        obtain rfl : ad = ad' := by simpa using hA
        obtain ⟨td, _, _, _, _⟩ := hat
        go_wp2_with fail
        clear td
        clear c0 c1 c2 c3 c4 c5 d0 d1 d2 x0 x1 x2 x3
        cases hf2 : firstFrom (doesB b s) (frm b.ts e2) (b.ts.length - frm b.ts e2) with
        | none =>
          have HF2 : Hid (firstV b s e2 = .tuple #[.int .i64 0, .int .i64 0, .int .i64 9]) := by
            show _ = _
            rw [firstV_in HK.out (by omega) (by omega), hf2]; rfl
          clear hf2
          refine Vals.region (fun X => Env (w.heap.size) (w.heap.size + 1) (w.heap.size + 1 + 1) b (some ad) c s xs none [] w X) (fun X => Env (w.heap.size) (w.heap.size + 1) (w.heap.size + 1 + 1) b (some ad) c s xs none [] w X) [some 130, some 131, some 132, some 133, some 134, some 135, some 136, some 137, some 138, some 139, some 140, some 141, some 129, some 142, some 143, some 144, some 21, some 22, some 23] [.agg (bV b (some ad) c), .agg (sV s), .int .i64 d, .pointer (some ⟨w.heap.size + 1 + 1, 1, none⟩), .int .u16 n1, .int .i64 n1, .int .i64 d, .int .i64 (40000 - d), .int .i64 (40000 - d + 1), .int .i64 (n1 % (40000 - d + 1)), .int .i64 e2, .tuple #[.int .i64 0, .int .i64 0, .int .i64 9], .tuple #[.int .i64 0, .int .i64 0, .int .i64 9], .int .i64 0, .int .i64 0, .int .i64 9, .int .i64 0, .int .i64 0, .int .i64 9] (by kernel_rfl) (by kernel_rfl) (by kernel_rfl) (by kernel_rfl) (by kernel_rfl) (by kernel_rfl) (by kernel_rfl) HE5.out.drew ?_ ?_
          · refine Vals.Steps.run (by kernel_rfl) ?_ ?_
            · intro a W hSt pre old K hK
              have e3 : a.tmps.getD 3 undef = .pointer (some ⟨w.heap.size, 0, none⟩) := old 3 _ (by kernel_rfl) rfl
              clear pre old
              simp only [Array.getD_eq_getD_getElem?] at e3
              have hS9 := hSt
              obtain ⟨⟨s0, s1, s2, s3, s4, s5⟩, ⟨d0, d1, d2⟩, sx, ts, us, sn⟩ := hS9
              rw [HX.out] at sx
              have x0 := sx 0 _ rfl
              have x1 := sx 1 _ rfl
              have x2 := sx 2 _ rfl
              have x3 := sx 3 _ rfl
              go_simp
              exact hK _ hSt
            refine Vals.Steps.run (by kernel_rfl) ?_ ?_
            · intro a W hSt pre old K hK
              have e4 : a.tmps.getD 4 undef = .pointer (some ⟨w.heap.size + 1, 0, none⟩) := old 4 _ (by kernel_rfl) rfl
              clear pre old
              simp only [Array.getD_eq_getD_getElem?] at e4
              have hS9 := hSt
              obtain ⟨⟨s0, s1, s2, s3, s4, s5⟩, ⟨d0, d1, d2⟩, sx, ts, us, sn⟩ := hS9
              rw [HX.out] at sx
              have x0 := sx 0 _ rfl
              have x1 := sx 1 _ rfl
              have x2 := sx 2 _ rfl
              have x3 := sx 3 _ rfl
              go_simp
              exact hK _ hSt
            refine Vals.Steps.run (by kernel_rfl) ?_ ?_
            · intro a W hSt pre old K hK
              have e10 : a.tmps.getD 10 undef = .int .i64 d := old 10 _ (by kernel_rfl) rfl
              clear pre old
              simp only [Array.getD_eq_getD_getElem?] at e10
              go_simp
              exact hK _ hSt
            refine Vals.Steps.run (by kernel_rfl) ?_ ?_
            · intro a W hSt pre old K hK
              have e5 : a.tmps.getD 5 undef = .pointer (some ⟨w.heap.size + 1 + 1, 0, none⟩) := old 5 _ (by kernel_rfl) rfl
              clear pre old
              simp only [Array.getD_eq_getD_getElem?] at e5
              go_simp
              exact hK _ hSt
            refine Vals.Steps.run (by kernel_rfl) ?_ ?_
            · intro a W hSt pre old K hK
              have e133 : a.tmps.getD 133 undef = .pointer (some ⟨w.heap.size + 1 + 1, 1, none⟩) := pre 3 133 _ (by kernel_rfl) rfl rfl
              clear pre old
              simp only [Array.getD_eq_getD_getElem?] at e133
              have hS9 := hSt
              obtain ⟨⟨s0, s1, s2, s3, s4, s5⟩, ⟨d0, d1, d2⟩, sx, ts, us, sn⟩ := hS9
              rw [HX.out] at sx
              have x0 := sx 0 _ rfl
              have x1 := sx 1 _ rfl
              have x2 := sx 2 _ rfl
              have x3 := sx 3 _ rfl
              go_simp
              exact hK _ hSt
            refine Vals.Steps.run (by kernel_rfl) ?_ ?_
            · intro a W hSt pre old K hK
              have e134 : a.tmps.getD 134 undef = .int .u16 n1 := pre 4 134 _ (by kernel_rfl) rfl rfl
              clear pre old
              simp only [Array.getD_eq_getD_getElem?] at e134
              go_simp
              exact hK _ hSt
            refine Vals.Steps.run (by kernel_rfl) ?_ ?_
            · intro a W hSt pre old K hK
              have e10 : a.tmps.getD 10 undef = .int .i64 d := old 10 _ (by kernel_rfl) rfl
              clear pre old
              simp only [Array.getD_eq_getD_getElem?] at e10
              go_simp
              exact hK _ hSt
            refine Vals.Steps.run (by kernel_rfl) ?_ ?_
            · intro a W hSt pre old K hK
              have e136 : a.tmps.getD 136 undef = .int .i64 d := pre 6 136 _ (by kernel_rfl) rfl rfl
              clear pre old
              simp only [Array.getD_eq_getD_getElem?] at e136
              go_simp
              exact hK _ hSt
            refine Vals.Steps.run (by kernel_rfl) ?_ ?_
            · intro a W hSt pre old K hK
              have e137 : a.tmps.getD 137 undef = .int .i64 (40000 - d) := pre 7 137 _ (by kernel_rfl) rfl rfl
              clear pre old
              simp only [Array.getD_eq_getD_getElem?] at e137
              go_simp
              exact hK _ hSt
            refine Vals.Steps.run (by kernel_rfl) ?_ ?_
            · intro a W hSt pre old K hK
              have e135 : a.tmps.getD 135 undef = .int .i64 n1 := pre 5 135 _ (by kernel_rfl) rfl rfl
              have e138 : a.tmps.getD 138 undef = .int .i64 (40000 - d + 1) := pre 8 138 _ (by kernel_rfl) rfl rfl
              clear pre old
              simp only [Array.getD_eq_getD_getElem?] at e135 e138
              go_simp
              rw [if_neg (by omega)]
              exact hK _ hSt
            refine Vals.Steps.run (by kernel_rfl) ?_ ?_
            · intro a W hSt pre old K hK
              have e132 : a.tmps.getD 132 undef = .int .i64 d := pre 2 132 _ (by kernel_rfl) rfl rfl
              have e139 : a.tmps.getD 139 undef = .int .i64 (n1 % (40000 - d + 1)) := pre 9 139 _ (by kernel_rfl) rfl rfl
              clear pre old
              simp only [Array.getD_eq_getD_getElem?] at e132 e139
              go_simp
              rw [HE2.out]
              exact hK _ hSt
            refine Vals.Steps.run (by kernel_rfl) ?_ ?_
            · intro a W hSt pre old K hK
              have e130 : a.tmps.getD 130 undef = .agg (bV b (some ad) c) := pre 0 130 _ (by kernel_rfl) rfl rfl
              have e131 : a.tmps.getD 131 undef = .agg (sV s) := pre 1 131 _ (by kernel_rfl) rfl rfl
              have e140 : a.tmps.getD 140 undef = .int .i64 e2 := pre 10 140 _ (by kernel_rfl) rfl rfl
              clear pre old
              simp only [Array.getD_eq_getD_getElem?] at e130 e131 e140
              go_simp
              have hE := hSt
              refine (first_c b s (some ad) c e2 _ hE.ts).mono ?_
              rintro e w' ⟨rfl, hb'⟩
              rw [HF2.out]
              exact hK _ (hE.keep hb')
            refine Vals.Steps.run (by kernel_rfl) ?_ ?_
            · intro a W hSt pre old K hK
              have e141 : a.tmps.getD 141 undef = .tuple #[.int .i64 0, .int .i64 0, .int .i64 9] := pre 11 141 _ (by kernel_rfl) rfl rfl
              clear pre old
              simp only [Array.getD_eq_getD_getElem?] at e141
              go_simp
              exact hK _ hSt
            refine Vals.Steps.run (by kernel_rfl) ?_ ?_
            · intro a W hSt pre old K hK
              have e129 : a.tmps.getD 129 undef = .tuple #[.int .i64 0, .int .i64 0, .int .i64 9] := pre 12 129 _ (by kernel_rfl) rfl rfl
              clear pre old
              simp only [Array.getD_eq_getD_getElem?] at e129
              go_simp
              exact hK _ hSt
            refine Vals.Steps.run (by kernel_rfl) ?_ ?_
            · intro a W hSt pre old K hK
              have e129 : a.tmps.getD 129 undef = .tuple #[.int .i64 0, .int .i64 0, .int .i64 9] := pre 12 129 _ (by kernel_rfl) rfl rfl
              clear pre old
              simp only [Array.getD_eq_getD_getElem?] at e129
              go_simp
              exact hK _ hSt
            refine Vals.Steps.run (by kernel_rfl) ?_ ?_
            · intro a W hSt pre old K hK
              have e129 : a.tmps.getD 129 undef = .tuple #[.int .i64 0, .int .i64 0, .int .i64 9] := pre 12 129 _ (by kernel_rfl) rfl rfl
              clear pre old
              simp only [Array.getD_eq_getD_getElem?] at e129
              go_simp
              exact hK _ hSt
            refine Vals.Steps.run (by kernel_rfl) ?_ ?_
            · intro a W hSt pre old K hK
              have e142 : a.tmps.getD 142 undef = .int .i64 0 := pre 13 142 _ (by kernel_rfl) rfl rfl
              clear pre old
              simp only [Array.getD_eq_getD_getElem?] at e142
              go_simp
              exact hK _ hSt
            refine Vals.Steps.run (by kernel_rfl) ?_ ?_
            · intro a W hSt pre old K hK
              have e143 : a.tmps.getD 143 undef = .int .i64 0 := pre 14 143 _ (by kernel_rfl) rfl rfl
              clear pre old
              simp only [Array.getD_eq_getD_getElem?] at e143
              go_simp
              exact hK _ hSt
            refine Vals.Steps.last (by kernel_rfl) ?_
            · intro a W hSt pre old K hK
              have e144 : a.tmps.getD 144 undef = .int .i64 9 := pre 15 144 _ (by kernel_rfl) rfl rfl
              clear pre old
              simp only [Array.getD_eq_getD_getElem?] at e144
              go_simp
              exact hK _ hSt
          · rintro W hE
            simp only [Vals.putAll, List.setIfInBounds_toArray, List.set_cons_zero, List.set_cons_succ]
            go_wp2_with fail
            refine (awake_c _).mono ?_
            rintro e w8 ⟨rfl, hb8⟩
            go_wp2_with fail
            go_ret
            exact ⟨rfl, (hE.keep hb8).sn.1⟩
        | some r =>
          obtain ⟨j, r⟩ := r
          have HF2 : Hid (firstV b s e2 = .tuple #[.int .i64 j, .int .i64 r, .int .i64 0]) := by
            show _ = _
            rw [firstV_in HK.out (by omega) (by omega), hf2]; rfl
          obtain ⟨g1, g2, g3, _⟩ := firstFrom_spec hf2
          have g4 := frm_mono (ts := b.ts) hde2
          have hij : i ≤ j := by
            rcases Nat.lt_or_ge j i with h | h
            · have := HFS.out.2.2.2 j (by omega) h
              rw [this] at g3
              cases g3
            · exact h
          clear hf2 g1 g2 g3 g4
          refine Vals.region (fun X => Env (w.heap.size) (w.heap.size + 1) (w.heap.size + 1 + 1) b (some ad) c s xs none [] w X) (fun X => Env (w.heap.size) (w.heap.size + 1) (w.heap.size + 1 + 1) b (some ad) c s xs none [] w X) [some 130, some 131, some 132, some 133, some 134, some 135, some 136, some 137, some 138, some 139, some 140, some 141, some 129, some 142, some 143, some 144, some 21, some 22, some 23] [.agg (bV b (some ad) c), .agg (sV s), .int .i64 d, .pointer (some ⟨w.heap.size + 1 + 1, 1, none⟩), .int .u16 n1, .int .i64 n1, .int .i64 d, .int .i64 (40000 - d), .int .i64 (40000 - d + 1), .int .i64 (n1 % (40000 - d + 1)), .int .i64 e2, .tuple #[.int .i64 (j : Int), .int .i64 (r : Int), .int .i64 0], .tuple #[.int .i64 (j : Int), .int .i64 (r : Int), .int .i64 0], .int .i64 (j : Int), .int .i64 (r : Int), .int .i64 0, .int .i64 (j : Int), .int .i64 (r : Int), .int .i64 0] (by kernel_rfl) (by kernel_rfl) (by kernel_rfl) (by kernel_rfl) (by kernel_rfl) (by kernel_rfl) (by kernel_rfl) HE5.out.drew ?_ ?_
          · refine Vals.Steps.run (by kernel_rfl) ?_ ?_
            · intro a W hSt pre old K hK
              have e3 : a.tmps.getD 3 undef = .pointer (some ⟨w.heap.size, 0, none⟩) := old 3 _ (by kernel_rfl) rfl
              clear pre old
              simp only [Array.getD_eq_getD_getElem?] at e3
              have hS9 := hSt
              obtain ⟨⟨s0, s1, s2, s3, s4, s5⟩, ⟨d0, d1, d2⟩, sx, ts, us, sn⟩ := hS9
              rw [HX.out] at sx
              have x0 := sx 0 _ rfl
              have x1 := sx 1 _ rfl
              have x2 := sx 2 _ rfl
              have x3 := sx 3 _ rfl
              go_simp
              exact hK _ hSt
            refine Vals.Steps.run (by kernel_rfl) ?_ ?_
            · intro a W hSt pre old K hK
              have e4 : a.tmps.getD 4 undef = .pointer (some ⟨w.heap.size + 1, 0, none⟩) := old 4 _ (by kernel_rfl) rfl
              clear pre old
              simp only [Array.getD_eq_getD_getElem?] at e4
              have hS9 := hSt
              obtain ⟨⟨s0, s1, s2, s3, s4, s5⟩, ⟨d0, d1, d2⟩, sx, ts, us, sn⟩ := hS9
              rw [HX.out] at sx
              have x0 := sx 0 _ rfl
              have x1 := sx 1 _ rfl
              have x2 := sx 2 _ rfl
              have x3 := sx 3 _ rfl
              go_simp
              exact hK _ hSt
            refine Vals.Steps.run (by kernel_rfl) ?_ ?_
            · intro a W hSt pre old K hK
              have e10 : a.tmps.getD 10 undef = .int .i64 d := old 10 _ (by kernel_rfl) rfl
              clear pre old
              simp only [Array.getD_eq_getD_getElem?] at e10
              go_simp
              exact hK _ hSt
            refine Vals.Steps.run (by kernel_rfl) ?_ ?_
            · intro a W hSt pre old K hK
              have e5 : a.tmps.getD 5 undef = .pointer (some ⟨w.heap.size + 1 + 1, 0, none⟩) := old 5 _ (by kernel_rfl) rfl
              clear pre old
              simp only [Array.getD_eq_getD_getElem?] at e5
              go_simp
              exact hK _ hSt
            refine Vals.Steps.run (by kernel_rfl) ?_ ?_
            · intro a W hSt pre old K hK
              have e133 : a.tmps.getD 133 undef = .pointer (some ⟨w.heap.size + 1 + 1, 1, none⟩) := pre 3 133 _ (by kernel_rfl) rfl rfl
              clear pre old
              simp only [Array.getD_eq_getD_getElem?] at e133
              have hS9 := hSt
              obtain ⟨⟨s0, s1, s2, s3, s4, s5⟩, ⟨d0, d1, d2⟩, sx, ts, us, sn⟩ := hS9
              rw [HX.out] at sx
              have x0 := sx 0 _ rfl
              have x1 := sx 1 _ rfl
              have x2 := sx 2 _ rfl
              have x3 := sx 3 _ rfl
              go_simp
              exact hK _ hSt
            refine Vals.Steps.run (by kernel_rfl) ?_ ?_
            · intro a W hSt pre old K hK
              have e134 : a.tmps.getD 134 undef = .int .u16 n1 := pre 4 134 _ (by kernel_rfl) rfl rfl
              clear pre old
              simp only [Array.getD_eq_getD_getElem?] at e134
              go_simp
              exact hK _ hSt
            refine Vals.Steps.run (by kernel_rfl) ?_ ?_
            · intro a W hSt pre old K hK
              have e10 : a.tmps.getD 10 undef = .int .i64 d := old 10 _ (by kernel_rfl) rfl
              clear pre old
              simp only [Array.getD_eq_getD_getElem?] at e10
              go_simp
              exact hK _ hSt
            refine Vals.Steps.run (by kernel_rfl) ?_ ?_
            · intro a W hSt pre old K hK
              have e136 : a.tmps.getD 136 undef = .int .i64 d := pre 6 136 _ (by kernel_rfl) rfl rfl
              clear pre old
              simp only [Array.getD_eq_getD_getElem?] at e136
              go_simp
              exact hK _ hSt
            refine Vals.Steps.run (by kernel_rfl) ?_ ?_
            · intro a W hSt pre old K hK
              have e137 : a.tmps.getD 137 undef = .int .i64 (40000 - d) := pre 7 137 _ (by kernel_rfl) rfl rfl
              clear pre old
              simp only [Array.getD_eq_getD_getElem?] at e137
              go_simp
              exact hK _ hSt
            refine Vals.Steps.run (by kernel_rfl) ?_ ?_
            · intro a W hSt pre old K hK
              have e135 : a.tmps.getD 135 undef = .int .i64 n1 := pre 5 135 _ (by kernel_rfl) rfl rfl
              have e138 : a.tmps.getD 138 undef = .int .i64 (40000 - d + 1) := pre 8 138 _ (by kernel_rfl) rfl rfl
              clear pre old
              simp only [Array.getD_eq_getD_getElem?] at e135 e138
              go_simp
              rw [if_neg (by omega)]
              exact hK _ hSt
            refine Vals.Steps.run (by kernel_rfl) ?_ ?_
            · intro a W hSt pre old K hK
              have e132 : a.tmps.getD 132 undef = .int .i64 d := pre 2 132 _ (by kernel_rfl) rfl rfl
              have e139 : a.tmps.getD 139 undef = .int .i64 (n1 % (40000 - d + 1)) := pre 9 139 _ (by kernel_rfl) rfl rfl
              clear pre old
              simp only [Array.getD_eq_getD_getElem?] at e132 e139
              go_simp
              rw [HE2.out]
              exact hK _ hSt
            refine Vals.Steps.run (by kernel_rfl) ?_ ?_
            · intro a W hSt pre old K hK
              have e130 : a.tmps.getD 130 undef = .agg (bV b (some ad) c) := pre 0 130 _ (by kernel_rfl) rfl rfl
              have e131 : a.tmps.getD 131 undef = .agg (sV s) := pre 1 131 _ (by kernel_rfl) rfl rfl
              have e140 : a.tmps.getD 140 undef = .int .i64 e2 := pre 10 140 _ (by kernel_rfl) rfl rfl
              clear pre old
              simp only [Array.getD_eq_getD_getElem?] at e130 e131 e140
              go_simp
              have hE := hSt
              refine (first_c b s (some ad) c e2 _ hE.ts).mono ?_
              rintro e w' ⟨rfl, hb'⟩
              rw [HF2.out]
              exact hK _ (hE.keep hb')
            refine Vals.Steps.run (by kernel_rfl) ?_ ?_
            · intro a W hSt pre old K hK
              have e141 : a.tmps.getD 141 undef = .tuple #[.int .i64 (j : Int), .int .i64 (r : Int), .int .i64 0] := pre 11 141 _ (by kernel_rfl) rfl rfl
              clear pre old
              simp only [Array.getD_eq_getD_getElem?] at e141
              go_simp
              exact hK _ hSt
            refine Vals.Steps.run (by kernel_rfl) ?_ ?_
            · intro a W hSt pre old K hK
              have e129 : a.tmps.getD 129 undef = .tuple #[.int .i64 (j : Int), .int .i64 (r : Int), .int .i64 0] := pre 12 129 _ (by kernel_rfl) rfl rfl
              clear pre old
              simp only [Array.getD_eq_getD_getElem?] at e129
              go_simp
              exact hK _ hSt
            refine Vals.Steps.run (by kernel_rfl) ?_ ?_
            · intro a W hSt pre old K hK
              have e129 : a.tmps.getD 129 undef = .tuple #[.int .i64 (j : Int), .int .i64 (r : Int), .int .i64 0] := pre 12 129 _ (by kernel_rfl) rfl rfl
              clear pre old
              simp only [Array.getD_eq_getD_getElem?] at e129
              go_simp
              exact hK _ hSt
            refine Vals.Steps.run (by kernel_rfl) ?_ ?_
            · intro a W hSt pre old K hK
              have e129 : a.tmps.getD 129 undef = .tuple #[.int .i64 (j : Int), .int .i64 (r : Int), .int .i64 0] := pre 12 129 _ (by kernel_rfl) rfl rfl
              clear pre old
              simp only [Array.getD_eq_getD_getElem?] at e129
              go_simp
              exact hK _ hSt
            refine Vals.Steps.run (by kernel_rfl) ?_ ?_
            · intro a W hSt pre old K hK
              have e142 : a.tmps.getD 142 undef = .int .i64 (j : Int) := pre 13 142 _ (by kernel_rfl) rfl rfl
              clear pre old
              simp only [Array.getD_eq_getD_getElem?] at e142
              go_simp
              exact hK _ hSt
            refine Vals.Steps.run (by kernel_rfl) ?_ ?_
            · intro a W hSt pre old K hK
              have e143 : a.tmps.getD 143 undef = .int .i64 (r : Int) := pre 14 143 _ (by kernel_rfl) rfl rfl
              clear pre old
              simp only [Array.getD_eq_getD_getElem?] at e143
              go_simp
              exact hK _ hSt
            refine Vals.Steps.last (by kernel_rfl) ?_
            · intro a W hSt pre old K hK
              have e144 : a.tmps.getD 144 undef = .int .i64 0 := pre 15 144 _ (by kernel_rfl) rfl rfl
              clear pre old
              simp only [Array.getD_eq_getD_getElem?] at e144
              go_simp
              exact hK _ hSt
          · rintro W hE
            simp only [Vals.putAll, List.setIfInBounds_toArray, List.set_cons_zero, List.set_cons_succ]
            go_wp2_with fail
            refine (awake_c _).mono ?_
            rintro e w8 ⟨rfl, hb8⟩
            go_wp2_with fail
            go_ret
            exact ⟨rfl, (hE.keep hb8).sn.1⟩
  · have HD : Hid (decide ((chk b s).2.2 = 0) = false) := decide_eq_false hk
    have HF : Hid (firstV b s 0 = .tuple #[.int .i64 0, .int .i64 0, .int .i64 (chk b s).2.2]) := by show _ = _; simp [firstV, hk]
    have hne : ((chk b s).2.2 != 0) = true := by simpa using hk
    clear hk
    go_enter Try.func11, Try.ntmps11
    go_wp2_with fail
    refine (valid_c b s A c _ HE0.out.ts).mono ?_
    rintro e w1 ⟨rfl, hb1⟩
    rw [HD.out]
    have HE1 := Lib.hid (HE0.out.keep hb1)
    clear HE0 hb1
    obtain ⟨⟨c0, c1, c2, c3, c4, c5⟩, ⟨d0, d1, d2⟩, sx, _, _, _⟩ := HE1.out
    rw [HX.out] at sx
    have x0 := sx 0 _ rfl
    have x1 := sx 1 _ rfl
    have x2 := sx 2 _ rfl
    have x3 := sx 3 _ rfl
    clear sx
    go_wp2_with fail
    refine (first_c b s A c 0 _ HE1.out.ts).mono ?_
    rintro e w2 ⟨rfl, hb2⟩
    rw [HF.out]
    clear c0 c1 c2 c3 c4 c5 d0 d1 d2 x0 x1 x2 x3
    have HE2 := Lib.hid (HE1.out.keep hb2)
    go_wp2_with fail
    refine (awake_c _).mono ?_
    rintro e w3 ⟨rfl, hb3⟩
    go_wp2_with fail
    go_ret
    exact ⟨rfl, (HE2.out.keep hb3).sn.1⟩
end Td
end Go.Proofs.Ytojpiliamecgkaa
