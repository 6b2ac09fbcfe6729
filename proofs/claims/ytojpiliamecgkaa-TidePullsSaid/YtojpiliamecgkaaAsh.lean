import Derived.Test.YtojpiliamecgkaaLieA
namespace Go.Proofs.Ytojpiliamecgkaa
open Go.RowKit
namespace Td
set_option linter.unusedSimpArgs false
set_option linter.unusedVariables false
/-- a list of ints that somebody made: a slice of the ints l, nil if there are none. -/
def IntsAt (w : World) (v : Value) (l : List Int) : Prop := (l = [] ∧ v = .slice none 0 0) ∨ ∃ g c, l ≠ [] ∧ v = .slice (some ⟨g, 0, none⟩) l.length c ∧ ∀ j n, l[j]? = some n → w.cell? ⟨g, j, none⟩ = some (.int .i64 n)
theorem IntsAt.keep {w w' : World} {v : Value} {l : List Int} (h : IntsAt w v l) (hb : Below w.heap.size w w') : IntsAt w' v l := by
  rcases h with h | ⟨g, c, h0, h1, h2⟩
  · exact .inl h
  · exact .inr ⟨g, c, h0, h1, fun j n hj => keep_cell hb (h2 j n hj)⟩
theorem Try.infoInt : (Try.prog.info? 3).map (fun i => (i.zero, i.size, i.bytes)) = some (some (.int .i64 0), 1, 8) := by kernel_rfl
/-- what Ashore comes to. -/
def AshV (b : Bch) (s : Shp) (bal : Int) (e : Ending) (w' : World) : Prop :=
  (stepE b s 0 bal ≠ 0 ∧ e = .returned (.tuple #[.slice none 0 0, .int .i64 (stepE b s 0 bal)])) ∨
  (stepE b s 0 bal = 0 ∧ ∃ v, e = .returned (.tuple #[v, .int .i64 0]) ∧ IntsAt w' v (ashL b s bal.toNat b.ts.length))
theorem own_keep {w w' : World} {B : Nat} {e : TypeId} {size : Nat} {v : Value} {n : Nat} {xs : List Value} (h : w.ownsRow B e size v n xs) (hb : Below w.heap.size w w') : w'.ownsRow B e size v n xs := by
  obtain ⟨h1, h2⟩ := h
  refine ⟨h1, ?_⟩
  rcases h2 with h | ⟨g, cap, cur, a1, a2, a3, rest⟩
  · exact .inl h
  · exact .inr ⟨g, cap, cur, a1, a2, (hb.block g (Array.getElem?_eq_some_iff.1 a3).1).trans a3, rest⟩
theorem ints_of_own {w : World} {B : Nat} {e : TypeId} {v : Value} {l : List Int} (h : w.ownsRow B e 1 v l.length (l.map (Value.int .i64))) (hn : l = [] → v = .slice none 0 0) : IntsAt w v l := by
  by_cases hl : l = []
  · exact .inl ⟨hl, hn hl⟩
  · have h' := h
    obtain ⟨h1, h2⟩ := h
    rcases h2 with ⟨_, h0⟩ | ⟨g, cap, cur, a1, a2, a3, rest⟩
    · exact absurd (List.eq_nil_of_length_eq_zero h0) hl
    · refine .inr ⟨g, cap, hl, a1, fun j n hj => ?_⟩
      have := h'.cells (g := g) (by rw [a1]; rfl) j (.int .i64 n) (by rw [List.getElem?_map, hj]; rfl)
      rwa [show (⟨g, 0, none⟩ : Addr).add j = ⟨g, j, none⟩ from add_new g j] at this
theorem since_grown {w W W' : World} {row : Option Nat} (h : Since w W) (hg : W.grownBy W' row) (hr : ∀ k, row = some k → w.heap.size ≤ k) : Since w W' := ⟨h.1.grown hg h.2 hr, Nat.le_trans h.2 hg.size⟩
set_option maxRecDepth 100000 in
set_option maxHeartbeats 4000000 in
theorem ashore_c (b : Bch) (s : Shp) (A : Option Addr) (c : Nat) (bal : Int) (w : World) (hp : TsAt w A b.ts) :
    Calls Try.prog 20 #[.agg (bV b A c), .agg (sV s), .int .i64 bal] w fun e w' => AshV b s bal e w' ∧ Below w.heap.size w w' := by
  have hs0 := ((Since.refl w).alloc (.cells (bV b A c) 26)).alloc (.cells (sV s) 28)
  obtain ⟨i0, hi, hz0, hz1, hz2⟩ := info_parts Try.infoInt
  have HI := Lib.hid hi
  have HZ0 := Lib.hid hz0
  have HZ1 := Lib.hid hz1
  have HZ2 := Lib.hid hz2
  clear hi hz0 hz1 hz2
  go_enter Try.func20, Try.ntmps20
  go_wp2_with fail
  refine (look_c b s A c 0 bal _ (hp.keep hs0.1)).mono ?_
  rintro e w1 ⟨rfl, hb1⟩
  have hs1 := hs0.keep hb1
  clear hs0
  by_cases hc : stepE b s 0 bal = 0
  · obtain ⟨hk, hr1, hr2, hr3⟩ := stepE_ok hc
    obtain ⟨hB, hS⟩ := chk_ok.1 hk
    have hl : b.ts.length ≤ 12 := hB.n1
    rw [lookV_yes hk, hc]
    have HC := Lib.hid hc
    clear hc hk hr1
    obtain ⟨n, rfl⟩ : ∃ n : Nat, bal = n := ⟨bal.toNat, by omega⟩
    have hn40 : n ≤ 40 := by omega
    have hs2 := hs1.alloc (.cells (shV b A c s) 95)
    have HL2 := Lib.hid (Blk.new w1 95 (shV b A c s))
    obtain ⟨q0, q1, q2, q3, q4, q5, q6, q7, q8⟩ := HL2.out.shore
    clear q0 q1 q2 q3 q4 q6 q7 q8 hs1
    go_wp2_with fail
    obtain ⟨gl, hgl⟩ : ∃ gl, w1.heap.size = gl := ⟨_, rfl⟩
    obtain ⟨W0, hW0⟩ : ∃ W0, w1.alloc (.cells (shV b A c s) 95) = W0 := ⟨_, rfl⟩
    rw [hW0] at hs2 HL2 q5 ⊢
    rw [hgl] at HL2 ⊢
    clear hW0 hgl hb1 q5
    have hsz := hs2.2
    go_loopw [10, 11, 27] (fun v _ i wr => ∃ k : Nat, k ≤ b.ts.length ∧ i = .int .i64 k ∧ Since W0 wr ∧ Hid (wr.ownsRow W0.heap.size 3 1 v (ashL b s n k).length ((ashL b s n k).map (Value.int .i64))) ∧ Hid (ashL b s n k = [] → v = .slice none 0 0)) (fun _ _ i _ => b.ts.length - (intOf i).toNat)
    case atStart => exact ⟨0, Nat.zero_le _, rfl, Since.refl _, World.ownsRow_nil _ _ _ _, fun _ => rfl⟩
    case round =>
      obtain ⟨k, hk, rfl, hsn, HO, HN⟩ := hrel
      by_cases hlt : k < b.ts.length
      · have HL3 := Lib.hid (HL2.out.keep hsn.1)
        have hsw := hs2.keep hsn.1
        have hal := ashL_len b s n k
        go_wp2_with (first | (refine wpList_load_row rfl 95 _ rfl (gl) rfl 95 (shV b A c s) (0, 0) _ HL3.out Try.underlying95 rfl (by kernel_rfl) ?_))
        refine (does_c b A c s k n _ (hp.keep hsw.1) hB hS hlt hn40).mono ?_
        rintro e w2 ⟨rfl, hb2⟩
        have hs3 := hsn.keep hb2
        have HO2 := Lib.hid (own_keep HO.out hb2)
        cases hd : doesB b s k n
        · have HE : Hid (ashL b s n (k + 1) = ashL b s n k) := by show _ = _; rw [ashL_succ, hd]; rfl
          clear hd
          go_wp2_with fail
          go_roundw
          case rel => exact ⟨k + 1, by omega, by go_num, hs3, by rw [HE.out]; exact HO2, by rw [HE.out]; exact HN⟩
          case measure => simp [intOf]; omega
        · have HE : Hid (ashL b s n (k + 1) = ashL b s n k ++ [(k : Int)]) := by show _ = _; rw [ashL_succ, hd]; rfl
          clear hd
          have hz3 := hs3.2
          go_wp2_with (first
            | (at_builtin; refine wpList_append_own _ rfl _ _ 35 rfl W0.heap.size 3 i0 (.int .i64 0) 1 8 Try.underlying35 HI.out HZ0.out HZ1.out HZ2.out rfl (by decide) _ _ _ rfl (HO2.out.alloc _) ⟨w2.heap.size, 0, none⟩ 1 1 [.int .i64 (k : Int)] rfl rfl ?c1 ?c2 ?c3 ?c4 ?c5 ?_))
          case c1 =>
            intro j u hj
            match j, hj with
            | 0, hj => simp at hj; subst hj; simp [Addr.add]
          case c2 => intro u hu; simp at hu; subst hu; rfl
          case c3 => unfold maxLen; omega
          case c4 => omega
          case c5 => simp; omega
          · intro v' w3 hown' hgrow _
            have hr : ∀ q, Value.ownBlock _ = some q → W0.heap.size ≤ q := fun q hq => ((HO2.out).lt q hq).1
            have hs4 := since_grown (hs3.alloc _) hgrow hr
            have HO3 : Hid (w3.ownsRow W0.heap.size 3 1 v' (ashL b s n (k + 1)).length ((ashL b s n (k + 1)).map (Value.int .i64))) := by
              show World.ownsRow _ _ _ _ _ _ _
              rw [HE.out, List.length_append, List.map_append]
              exact hown'
            have HN3 : Hid (ashL b s n (k + 1) = [] → v' = .slice none 0 0) := by
              show _ → _
              rw [HE.out]
              intro h; simp at h
            clear hown' hgrow hr HO HO2 HN
            go_wp2_with fail
            go_roundw
            case rel => exact ⟨k + 1, by omega, by go_num, hs4, HO3, HN3⟩
            case measure => simp [intOf]; omega
      · have HE : Hid (k = b.ts.length) := by show _ = _; omega
        have HR := Lib.hid (ints_of_own HO.out HN.out)
        rw [HE.out] at HR
        have hsw := hs2.keep hsn.1
        go_wp2_with fail
        go_ret2
        exact ⟨.inr ⟨HC.out, _, rfl, by simpa using HR.out⟩, hsw.1⟩
  · have hc' : (stepE b s 0 bal != 0) = true := by simpa using hc
    have HC := Lib.hid hc
    clear hc
    rcases lookV_some b s A c 0 bal with hL | hL
    all_goals
      rw [hL]
      clear hL
      go_wp2_with fail
      go_ret2
      exact ⟨.inl ⟨HC.out, rfl⟩, (hs1.alloc _).1⟩
end Td
end Go.Proofs.Ytojpiliamecgkaa
