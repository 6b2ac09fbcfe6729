import Derived.Test.YtgkdidnmndmlhaaLst
import Derived.Laws.CopyRow
import Derived.Shelf.Bits.Mul64
/- Products of two words; a share repeated. -/
namespace Go.Proofs.Ytgkdidnmndmlhaa
open Go.RowKit
namespace Td
set_option linter.unusedSimpArgs false
set_option linter.unusedVariables false
attribute [local go_sem] Oper.semAt_some
set_option maxHeartbeats 1000000 in
theorem Mul64_c (x y : Nat) (hx : x < 18446744073709551616) (hy : y < 18446744073709551616) (w : World) :
    Calls Try.prog 95 #[.int .u64 x, .int .u64 y] w fun e w' => e = .returned (.tuple #[.int .u64 ((x * y / 18446744073709551616 : Nat) : Int), .int .u64 ((x * y % 18446744073709551616 : Nat) : Int)]) ∧ w = w' := by
  obtain ⟨bd, bt, bw, hhi⟩ := Lib.mul64_hi x y hx hy
  have ba := Lib.half_mul_le (a := x / 4294967296) (b := y / 4294967296) (by omega) (by omega)
  have bb := Lib.half_mul_le (a := x / 4294967296) (b := y % 4294967296) (by omega) (by omega)
  have bc := Lib.half_mul_le (a := x % 4294967296) (b := y / 4294967296) (by omega) (by omega)
  have ba' : x / 4294967296 * (y / 4294967296) < 18446744073709551616 := by omega
  have bb' : x / 4294967296 * (y % 4294967296) < 18446744073709551616 := by omega
  have bc' : x % 4294967296 * (y / 4294967296) < 18446744073709551616 := by omega
  have bh1 : x / 4294967296 * (y / 4294967296) + (x / 4294967296 * (y % 4294967296) + x % 4294967296 * (y % 4294967296) / 4294967296) / 4294967296 < 18446744073709551616 := by omega
  have bh : x / 4294967296 * (y / 4294967296) + (x / 4294967296 * (y % 4294967296) + x % 4294967296 * (y % 4294967296) / 4294967296) / 4294967296 + ((x / 4294967296 * (y % 4294967296) + x % 4294967296 * (y % 4294967296) / 4294967296) % 4294967296 + x % 4294967296 * (y / 4294967296)) / 4294967296 < 18446744073709551616 := by omega
  go_enter Try.func95, Try.ntmps95
  go_wp2
  simp only [Mul64.maskN x hx, Mul64.maskN y hy, Mul64.divN, Mul64.mulN, Mul64.addN, Mul64.wrapN _ bd, Mul64.wrapN _ bb', Mul64.wrapN _ bt, Mul64.maskN _ bt, Mul64.wrapN _ bc', Mul64.wrapN _ bw, Mul64.wrapN _ ba', Mul64.wrapN _ bh1, Mul64.wrapN _ bh, Mul64.wrapM (x * y)]
  rw [hhi]
  go_ret2
  exact ⟨rfl, rfl⟩
theorem Mul_c (x y : Nat) (hx : x < 18446744073709551616) (hy : y < 18446744073709551616) (w : World) :
    Calls Try.prog 84 #[.int .u64 x, .int .u64 y] w fun e w' => e = .returned (.tuple #[.int .u64 ((x * y / 18446744073709551616 : Nat) : Int), .int .u64 ((x * y % 18446744073709551616 : Nat) : Int)]) ∧ w = w' := by
  have c64 := Mul64_c x y hx hy w
  go_enter Try.func84, Try.ntmps84
  go_wp2_with fail
  refine c64.mono ?_
  rintro e w' ⟨rfl, rfl⟩
  go_wp2_with fail
  go_ret2
  exact ⟨rfl, rfl⟩
theorem run_copy_two {P : Program} (w : World) (dT sT ty elem : TypeId) (g o dLen dCap : Nat) (a : Addr) (sLen sCap : Nat) (cur : Array Value) (t : TypeId) (cs : List Value) (n : Nat)
    (hu : P.underlying dT = some (.slice elem)) (hs : (P.info? elem).map (·.size) = some 2)
    (hg : w.heap[g]? = some (.cells cur t (0, 0))) (hn : n = Nat.min sLen dLen) (hc : cs.length = n * 2)
    (hsrc : ∀ j v, cs[j]? = some v → w.cell? (a.add j) = some v) (hfit : o + cs.length ≤ cur.size) (h1 : ∀ v ∈ cs, v.oneCell' = true) :
    (Builtin.copy_ #[dT, sT] ty #[.slice (some ⟨g, o, none⟩) dLen dCap, .slice (some a) sLen sCap]).run P w =
      .ok (goInt n) (w.setRow g (cur.toList.take o ++ cs ++ cur.toList.drop (o + cs.length)).toArray) := by
  have hl := run_loadCells_list (P := P) w a cs hsrc
  have hst := run_storeCells_at P g o t cs 0 cur w hg (by simpa using hfit) h1
  rw [hc] at hl
  cases hq : P.info? elem with
  | none => simp [hq] at hs
  | some i =>
    have hi : i.size = 2 := by simpa [hq] using hs
    simp [Builtin.copy_, run_underlying hu, Builtin.lenOf, Builtin.firstCells, sizeOf, typeInfo, hq, hi, ← hn, hl, hst, hc]
theorem flS_cells (l : List (Nat × Nat)) : ∀ v ∈ flS l, v.oneCell' = true := by
  intro v hv
  unfold flS at hv
  simp only [List.mem_flatMap] at hv
  obtain ⟨s, -, hs⟩ := hv
  simp at hs
  rcases hs with rfl | rfl <;> rfl
/-- a row whose first k shares are s. -/
def rpA (s : Nat × Nat) (k m : Nat) : Array Value := (flS (List.replicate k s ++ List.replicate (m - k) (0, 0))).toArray
theorem rpA_size (s : Nat × Nat) {k m : Nat} (h : k ≤ m) : (rpA s k m).size = m * 2 := by
  unfold rpA
  simp only [List.size_toArray, flS_len, List.length_append, List.length_replicate]
  omega
theorem rp_step (s : Nat × Nat) {k j m : Nat} (h : k + j ≤ m) : ((rpA s k m).toList.take (k * 2) ++ flS (List.replicate j s) ++ (rpA s k m).toList.drop (k * 2 + (flS (List.replicate j s)).length)).toArray = rpA s (k + j) m := by
  have l1 : (flS (List.replicate k s)).length = k * 2 := by rw [flS_len, List.length_replicate]
  have l2 : (flS (List.replicate j s)).length = j * 2 := by rw [flS_len, List.length_replicate]
  have l3 : (flS (List.replicate j (0, 0))).length = j * 2 := by rw [flS_len, List.length_replicate]
  have e1 : (rpA s k m).toList = flS (List.replicate k s) ++ (flS (List.replicate j (0, 0)) ++ flS (List.replicate (m - (k + j)) (0, 0))) := by
    unfold rpA
    rw [show m - k = j + (m - (k + j)) by omega, ← List.replicate_append_replicate, flS_app, flS_app]
  have e2 : rpA s (k + j) m = (flS (List.replicate k s) ++ flS (List.replicate j s) ++ flS (List.replicate (m - (k + j)) (0, 0))).toArray := by
    unfold rpA
    rw [← List.replicate_append_replicate, flS_app, flS_app]
  rw [e1, e2, l2, List.take_append_of_le_length (by omega), ← l1, List.take_length, List.drop_append, List.drop_eq_nil_of_le (by omega), List.nil_append, show (flS (List.replicate k s)).length + j * 2 - (flS (List.replicate k s)).length = j * 2 by omega, ← l3, List.drop_left]
theorem copy_rp {W : World} {gb : Nat} {s : Nat × Nat} {k j m : Nat} (hB : Blk W gb 41 (rpA s k m)) (h : k + j ≤ m) (gs sL sC c : Nat) (hn : j = Nat.min sL (m - k)) (hs : ∀ i v, (flS (List.replicate j s))[i]? = some v → W.cell? ⟨gs, i, none⟩ = some v) (ty : TypeId) :
    (Builtin.copy_ #[31, 31] ty #[.slice (some ⟨gb, k * 2, none⟩) (m - k) c, .slice (some ⟨gs, 0, none⟩) sL sC]).run Try.prog W = .ok (goInt j) (W.setRow gb (rpA s (k + j) m)) := by
  have := run_copy_two (P := Try.prog) W 31 31 ty 41 gb (k * 2) (m - k) c ⟨gs, 0, none⟩ sL sC (rpA s k m) 41 (flS (List.replicate j s)) j Try.underlying31 (by kernel_rfl) hB hn (by rw [flS_len, List.length_replicate]) (fun i v hi => by rw [add_new]; exact hs i v hi) (by rw [flS_len, List.length_replicate, rpA_size s (by omega)]; omega) (flS_cells _)
  rw [rp_step s h] at this
  exact this
theorem rp_pre {W : World} {gb : Nat} {s : Nat × Nat} {k j m : Nat} (hB : Blk W gb 41 (rpA s k m)) (h : j ≤ k) : ∀ i v, (flS (List.replicate j s))[i]? = some v → W.cell? ⟨gb, i, none⟩ = some v := fun i v hi => by
  rw [hB.cell i]
  have e : rpA s k m = (flS (List.replicate j s) ++ (flS (List.replicate (k - j) s) ++ flS (List.replicate (m - k) (0, 0)))).toArray := by
    unfold rpA
    rw [show List.replicate k s = List.replicate j s ++ List.replicate (k - j) s by rw [List.replicate_append_replicate]; congr 1; omega, flS_app, flS_app, List.append_assoc]
  rw [e, List.getElem?_toArray, List.getElem?_append_left (List.getElem?_eq_some_iff.1 hi).1]
  exact hi
theorem made_rp (s : Nat × Nat) (m : Nat) : (madeCells (fV (0, 0)) (m * 2)).toList = (rpA s 0 m).toList := by
  apply List.ext_getElem?
  intro i
  by_cases h : i < m * 2
  · have hq : (List.replicate 0 s ++ List.replicate (m - 0) ((0, 0) : Nat × Nat))[i / 2]? = some (0, 0) := by
      simp only [List.replicate_zero, List.nil_append, Nat.sub_zero]
      rw [List.getElem?_replicate, if_pos (by omega)]
    obtain ⟨e1, e2⟩ := flS_get _ (i / 2) _ hq
    have hl : (madeCells (fV (0, 0)) (m * 2)).toList[i]? = some (.int .i64 0) := by
      unfold madeCells
      rw [Array.getElem?_toList, Array.getElem?_map, Array.getElem?_range, if_pos h]
      show some _ = some _
      have hc : fV (0, 0) = #[Value.int .i64 0, .int .i64 0] := rfl
      rw [hc]
      rcases Nat.mod_two_eq_zero_or_one i with h2 | h2
      · show some (#[Value.int .i64 0, .int .i64 0][i % 2]!) = _
        rw [h2]; rfl
      · show some (#[Value.int .i64 0, .int .i64 0][i % 2]!) = _
        rw [h2]; rfl
    rw [hl]
    unfold rpA
    rcases Nat.mod_two_eq_zero_or_one i with h2 | h2
    · rw [show i = i / 2 * 2 by omega]
      exact e1.symm
    · rw [show i = i / 2 * 2 + 1 by omega]
      exact e2.symm
  · rw [List.getElem?_eq_none (by rw [Array.length_toList, size_madeCells]; omega), List.getElem?_eq_none (by rw [Array.length_toList, rpA_size s (by omega)]; omega)]
/-- a row that is being filled. -/
structure Rp (w : World) (gb : Nat) (s : Nat × Nat) (k j m : Nat) (t : Option Value) (X : World) : Prop where
  sn : Since w X
  row : (t = none ∧ Blk X gb 41 (rpA s k m)) ∨ (t = some (.int .i64 (j : Nat)) ∧ Blk X gb 41 (rpA s (k + j) m))
set_option maxRecDepth 100000 in
set_option maxHeartbeats 2000000 in
theorem Repeat_c (s : Nat × Nat) (g m : Nat) (w : World) (hg : Blk w g 41 (fV (ip s))) (h1 : 1 ≤ m) (h2 : m ≤ 100) :
    Calls Try.prog 55 #[.slice (some ⟨g, 0, none⟩) 1 1, .int .i64 m] w fun e w' => ∃ b, e = .returned (.slice (some ⟨b, 0, none⟩) m m) ∧ w.heap.size ≤ b ∧ Blk w' b 41 (rpA s m m) ∧ Below w.heap.size w w' := by
  obtain ⟨i0, hi0, hi1⟩ := Option.map_eq_some_iff.1 styA.i
  simp only [Prod.mk.injEq] at hi1
  obtain ⟨hz0, hz1, hz2⟩ := hi1
  have w1 : IntKind.u64.wrap (m : Int) = (m : Int) := by rw [IntKind.wrap_u64]; omega
  have w2 : IntKind.i64.wrap (m : Int) = (m : Int) := wrapI (by unfold I64; omega)
  have HM := Lib.hid (Mul_c 1 m (by omega) (by omega))
  rw [show 1 * m / 18446744073709551616 = 0 by omega, show 1 * m % 18446744073709551616 = m by omega] at HM
  have q1 : ¬ (m : Int) < 0 := by omega
  have q2 : ¬ (9223372036854775807 : Int) < (m : Int) := by omega
  have q3 : (0 : Int) < (m : Int) := by omega
  go_enter Try.func55, Try.ntmps55
  go_wp2_with fail
  refine (HM.out _).mono ?_
  rintro e w' ⟨rfl, rfl⟩
  go_wp2_with (at_make; refine wpList_make_full _ rfl _ _ 31 rfl w.heap.size 41 i0 _ 2 Try.underlying31 hi0 hz0 hz1 _ _ _ _ m rfl rfl rfl rfl (by rw [hz2]; omega) (by simp only [maxLen]; omega) (Nat.le_refl _) ?_)
  intro w3 hown hgr
  have hb3 : Below w.heap.size w w3 := (Below.refl _ _).grown hgr (Nat.le_refl _) (fun k h => by cases h)
  have hblk : Blk w3 w.heap.size 41 (rpA s 0 m) := by
    rcases hown.2 with ⟨e, -⟩ | ⟨g', cap, cur, e, hB, hh, c1, c2, c3, c4⟩
    · cases e
    · cases e
      rw [made_rp s m] at c4
      have : cur = rpA s 0 m := by
        apply Array.toList_inj.1
        rw [← c4, List.take_of_length_le (by rw [Array.length_toList, c3]; exact Nat.le_refl _)]
      subst this
      exact hh
  have hg3 := hg.keep hb3
  have hcp : ∀ ty, (Builtin.copy_ #[31, 31] ty #[.slice (some ⟨w.heap.size, 0, none⟩) m m, .slice (some ⟨g, 0, none⟩) 1 1]).run Try.prog w3 = .ok (goInt 1) (w3.setRow w.heap.size (rpA s 1 m)) := fun ty => by
    have := copy_rp (k := 0) (j := 1) (m := m) hblk (by omega) g 1 1 m (by show 1 = min 1 (m - 0); omega) (fun i v hi => by
      rw [hg3.cell i]
      have e : flS (List.replicate 1 s) = (fV (ip s)).toList := flS_one s
      rw [e] at hi
      simpa using hi) ty
    simpa using this
  have HB4 := Lib.hid (Blk.row hblk (rpA s 1 m))
  have HS4 := Lib.hid ((Since.of hb3).row (g := w.heap.size) (Nat.le_refl _) (rpA s 1 m))
  clear hown hgr hb3 hblk hg3 hg HM hi0 hz0 hz1 hz2 w1 w2 q1 q2 q3
  obtain ⟨gb, hgb⟩ : ∃ gb, w.heap.size = gb := ⟨_, rfl⟩
  rw [hgb] at hcp HB4 ⊢
  have hgbl : w.heap.size ≤ gb := by omega
  go_wp2_with fail
  clear hcp h2
  obtain ⟨w4, hw4⟩ : ∃ w4, w3.setRow gb (rpA s 1 m) = w4 := ⟨_, rfl⟩
  rw [hgb] at HS4
  rw [hw4] at HS4 HB4 ⊢
  clear hw4
  go_loopw [8] (fun i wr => ∃ k : Nat, 1 ≤ k ∧ k ≤ m ∧ i = .int .i64 k ∧ Hid (Blk wr gb 41 (rpA s k m)) ∧ Hid (Since w wr)) (fun i _ => m - (intOf i).toNat)
  case atStart => exact ⟨1, by omega, by omega, rfl, HB4, HS4⟩
  case round =>
    obtain ⟨k, hk1, hk, rfl, HB, HS⟩ := hrel
    by_cases hlt : k < m
    · obtain ⟨j, hj⟩ : ∃ j, Nat.min k (m - k) = j := ⟨_, rfl⟩
      have hjk : k + j ≤ m ∧ j ≤ k ∧ 1 ≤ j := by
        have : j = min k (m - k) := hj.symm
        omega
      have HJ := Lib.hid hj
      have q1 : (k : Int) < (m : Int) := by omega
      have q2 : (k : Int) ≤ (m : Int) := by omega
      have q3 : ¬ (m : Int) < (k : Int) := by omega
      have q4 : k ≤ m := hk
      have q5 : (0 : Int) ≤ (k : Int) := by omega
      have q6 : ¬ k = m := by omega
      have q7 : ¬ (m : Int) = (k : Int) := by omega
      have w1 : IntKind.i64.wrap ((k : Int) + (j : Int)) = ((k + j : Nat) : Int) := by rw [wrapI (by unfold I64; omega)]; omega
      clear hj
      have q8 : ¬ m = k := by omega
      have hcp : ∀ ty, (Builtin.copy_ #[31, 31] ty #[.slice (some ⟨gb, k * 2, none⟩) (m - k) (m - k), .slice (some ⟨gb, 0, none⟩) k m]).run Try.prog wr.drew = .ok (goInt j) (wr.drew.setRow gb (rpA s (k + j) m)) := fun ty => copy_rp (W := wr.drew) HB.out hjk.1 gb k m (m - k) HJ.out.symm (rp_pre (W := wr.drew) HB.out hjk.2.1) ty
      have HB2 : Hid (Blk (wr.drew.setRow gb (rpA s (k + j) m)) gb 41 (rpA s (k + j) m)) := Lib.hid (Blk.row (w := wr.drew) HB.out _)
      have HS2 : Hid (Since w (wr.drew.setRow gb (rpA s (k + j) m))) := Lib.hid (HS.out.drew.row hgbl _)
      clear HB HS HJ
      go_wp2_with fail
      go_region
      go_wp2_with fail
      go_roundw
      case rel => exact ⟨k + j, by omega, by omega, by go_num, HB2, HS2⟩
      case measure => simp [intOf]; omega
    · obtain rfl : k = m := by omega
      have q1 : ¬ (k : Int) < (k : Int) := by omega
      go_wp2_with fail
      go_ret
      refine ⟨gb, rfl, by omega, HB.out, ?_⟩
      have := HS.out.1
      rw [hgb] at this
      exact this
end Td
end Go.Proofs.Ytgkdidnmndmlhaa
