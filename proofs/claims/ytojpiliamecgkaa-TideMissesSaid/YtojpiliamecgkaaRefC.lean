import Derived.Test.YtojpiliamecgkaaRefB
namespace Go.Proofs.Ytojpiliamecgkaa
open Go.RowKit
namespace Td
set_option linter.unusedSimpArgs false
set_option linter.unusedVariables false
theorem frm_spec {day : Int} : ∀ {ts : List Tid}, frm ts day ≤ ts.length ∧ (∀ j (h : j < ts.length), j < frm ts day → ts[j].day < day) ∧ (∀ h : frm ts day < ts.length, ¬ ts[frm ts day].day < day)
  | [] => ⟨by simp [frm], fun j h => absurd h (by simp), fun h => absurd h (by simp [frm])⟩
  | t :: ts => by
    by_cases hd : t.day < day
    · have e : frm (t :: ts) day = frm ts day + 1 := by simp [frm, List.takeWhile, hd]
      obtain ⟨h1, h2, h3⟩ := frm_spec (day := day) (ts := ts)
      refine ⟨by rw [e]; simp; omega, fun j hj hlt => ?_, fun h => ?_⟩
      · match j, hj with
        | 0, _ => simpa using hd
        | j + 1, hj =>
          have := h2 j (by simpa using hj) (by omega)
          simpa using this
      · have h' : frm ts day < ts.length := by rw [e] at h; simpa using h
        have := h3 h'
        simpa [e] using this
    · have e : frm (t :: ts) day = 0 := by simp [frm, List.takeWhile, hd]
      refine ⟨by omega, fun j hj hlt => by omega, fun h => ?_⟩
      simpa [e] using hd
theorem days_mono {b : Bch} (hB : BchOk b) : ∀ (k i : Nat) (h : i + k < b.ts.length), b.ts[i].day ≤ b.ts[i + k].day
  | 0, i, h => Int.le_refl _
  | k + 1, i, h => by
    have h1 := days_mono hB k i (by omega)
    have h2 := hB.days (i + k) (by omega)
    have e : i + (k + 1) = i + k + 1 := by omega
    simp only [e]
    omega
theorem day_from {b : Bch} (hB : BchOk b) {day : Int} {i : Nat} (hi : i < b.ts.length) : frm b.ts day ≤ i ↔ day ≤ b.ts[i].day := by
  obtain ⟨h1, h2, h3⟩ := frm_spec (day := day) (ts := b.ts)
  constructor
  · intro h
    have h4 := h3 (by omega)
    have h5 := days_mono hB (i - frm b.ts day) (frm b.ts day) (by omega)
    have e : frm b.ts day + (i - frm b.ts day) = i := by omega
    simp only [e] at h5
    omega
  · intro h
    rcases Nat.lt_or_ge i (frm b.ts day) with h4 | h4
    · have := h2 i hi h4
      omega
    · exact h4
theorem firstFrom_at {p : Nat → Nat → Bool} : ∀ {k i j n : Nat}, i ≤ j → j < i + k → leastOf (p j) = some n → (∀ m, i ≤ m → m < j → leastOf (p m) = none) → firstFrom p i k = some (j, n)
  | 0, i, j, n, h1, h2, _, _ => by omega
  | k + 1, i, j, n, h1, h2, h3, h4 => by
    rcases Nat.eq_or_lt_of_le h1 with rfl | hlt
    · exact firstFrom_hit h3
    · rw [firstFrom_step (h4 i (by omega) hlt)]
      exact firstFrom_at (by omega) (by omega) h3 (fun m h5 h6 => h4 m (by omega) h6)
theorem firstFrom_no {p : Nat → Nat → Bool} : ∀ {k i : Nat}, (∀ m, i ≤ m → m < i + k → leastOf (p m) = none) → firstFrom p i k = none
  | 0, _, _ => rfl
  | k + 1, i, h => by
    rw [firstFrom_step (h i (by omega) (by omega))]
    exact firstFrom_no (fun m h1 h2 => h m (by omega) (by omega))
set_option maxRecDepth 100000 in
set_option maxHeartbeats 4000000 in
theorem rFirst_c (b : Bch) (s : Shp) (A : Option Addr) (c : Nat) (day : Int) (w : World) (hp : TsAt w A b.ts) :
    Calls Try.prog 27 #[.agg (bV b A c), .agg (sV s), .int .i64 day] w fun e w' => e = .returned (firstV b s day) ∧ Below w.heap.size w w' := by
  have hs0 := ((Since.refl w).alloc (.cells (bV b A c) 26)).alloc (.cells (sV s) 28)
  have HB0 := Lib.hid ((Blk.new w 26 (bV b A c)).alloc (.cells (sV s) 28))
  have HS0 := Lib.hid (Blk.new1 w (.cells (bV b A c) 26) 28 (sV s))
  go_enter Try.func27, Try.ntmps27
  go_wp2_with fail
  refine (rcheck_c b s A c _ (hp.keep hs0.1)).mono ?_
  rintro e w1 ⟨rfl, hb1⟩
  have hs1 := hs0.keep hb1
  have HB1 : Hid (SB w.heap.size b A c w1) := (HB0.out.keep hb1).beach
  have HS1 : Hid (SS (w.heap.size + 1) s w1) := (HS0.out.keep hb1).ship
  clear HB0 HS0 hb1 hs0
  by_cases hk : (chk b s).2.2 = 0
  · obtain ⟨hB, hS⟩ := chk_ok.1 hk
    have hl12 : b.ts.length ≤ 12 := hB.n1
    rw [hk]
    rcases Bool.eq_false_or_eq_true (wi 0 40000 day) with hd | hd
    · have HV : Hid (firstV b s day = .tuple #[.int .i64 (earl (firstFrom (doesB b s) (frm b.ts day) (b.ts.length - frm b.ts day))).1, .int .i64 (earl (firstFrom (doesB b s) (frm b.ts day) (b.ts.length - frm b.ts day))).2.1, .int .i64 (earl (firstFrom (doesB b s) (frm b.ts day) (b.ts.length - frm b.ts day))).2.2]) := by show _ = _; simp [firstV, hk, hd]
      have HR : Hid (rgE 0 40000 day = 0) := by show _ = _; unfold rgE; rw [hd]; rfl
      clear hk hd
      go_wp2_with fail
      refine (ranged_c _ _ _ _).mono ?_
      rintro e w' ⟨rfl, rfl⟩
      rw [HR.out]
      go_wp2_with fail
      go_loopw [12, 13] (fun i _ wr => ∃ k : Nat, k ≤ b.ts.length ∧ i = .int .i64 k ∧ Since w wr ∧ Hid (SB w.heap.size b A c wr) ∧ Hid (SS (w.heap.size + 1) s wr) ∧ Hid (∀ j (h : j < b.ts.length), j < k → b.ts[j].day < day ∨ leastOf (doesB b s j) = none)) (fun i _ _ => b.ts.length - (intOf i).toNat)
      case atStart => exact ⟨0, Nat.zero_le _, rfl, hs1, HB1, HS1, fun j _ h => absurd h (by omega)⟩
      case round =>
        clear HB1 HS1 hs1
        obtain ⟨k, hk, rfl, hsn, HB2, HS2, H0⟩ := hrel
        obtain ⟨c0, c1, c2, c3, c4, c5⟩ := HB2.out
        obtain ⟨d0, d1, d2⟩ := HS2.out
        by_cases hlt : k < b.ts.length
        · go_wp2_with fail
          refine (rleast_c b s A c k _ (hp.keep hsn.1) hB hS hlt).mono ?_
          rintro e w2 ⟨rfl, hb2⟩
          have hs2 := hsn.keep hb2
          have HB3 : Hid (SB w.heap.size b A c w2) := SB.keep HB2.out hb2
          have HS3 : Hid (SS (w.heap.size + 1) s w2) := SS.keep HS2.out hb2
          clear c0 c1 c2 c3 c4 c5 d0 d1 d2
          obtain ⟨c0, c1, c2, c3, c4, c5⟩ := HB3.out
          obtain ⟨ad, hA, hat⟩ := (hp.keep hs2.1).get hlt
          subst hA
          obtain ⟨t0, _, _, _, _⟩ := hat
          have hstep : (b.ts[k].day < day ∨ leastOf (doesB b s k) = none) → ∀ j (h : j < b.ts.length), j < k + 1 → b.ts[j].day < day ∨ leastOf (doesB b s j) = none := fun hk' j h hj => by
            rcases Nat.lt_or_ge j k with h1 | h1
            · exact H0.out j h h1
            · obtain rfl : j = k := by omega
              exact hk'
          have HSt := Lib.hid hstep
          clear hstep
          by_cases hday : b.ts[k].day < day
          · have HK := Lib.hid (HSt.out (.inl hday))
            go_wp2_with fail
            go_roundw
            case rel => first | exact ⟨k + 1, by omega, by go_num, hs2, HB3, HS3, HK⟩ | ((repeat apply Exists.intro); exact ⟨⟨k + 1, by omega, by go_num, hs2, HB3, HS3, HK⟩, rfl⟩)
            case measure => simp [intOf]; omega
          · cases hlo : leastOf (doesB b s k) with
            | none =>
              have HK := Lib.hid (HSt.out (.inr hlo))
              rw [rlV_none hlo]
              clear hlo
              go_wp2_with fail
              go_roundw
              case rel => first | exact ⟨k + 1, by omega, by go_num, hs2, HB3, HS3, HK⟩ | ((repeat apply Exists.intro); exact ⟨⟨k + 1, by omega, by go_num, hs2, HB3, HS3, HK⟩, rfl⟩)
              case measure => simp [intOf]; omega
            | some n =>
              have HF : Hid (firstFrom (doesB b s) (frm b.ts day) (b.ts.length - frm b.ts day) = some (k, n)) := by
                have h1 := (day_from hB hlt).2 (show day ≤ b.ts[k].day by omega)
                refine firstFrom_at h1 (by omega) hlo (fun m h2 h3 => ?_)
                rcases H0.out m (by omega) h3 with h4 | h4
                · have := (day_from hB (show m < b.ts.length by omega)).1 h2
                  omega
                · exact h4
              rw [rlV_some hlo]
              clear hlo
              go_wp2_with fail
              go_ret3
              exact ⟨by rw [HV.out, HF.out]; first | done | rfl, hs2.1⟩
        · have HF : Hid (firstFrom (doesB b s) (frm b.ts day) (b.ts.length - frm b.ts day) = none) := by
            refine firstFrom_no (fun m h2 h3 => ?_)
            have hm : m < b.ts.length := by have := (frm_spec (day := day) (ts := b.ts)).1; omega
            rcases H0.out m hm (by omega) with h4 | h4
            · have := (day_from hB hm).1 h2
              omega
            · exact h4
          go_wp2_with fail
          go_ret3
          exact ⟨by rw [HV.out, HF.out]; first | done | rfl, hsn.1⟩
    · have HV : Hid (firstV b s day = .tuple #[.int .i64 0, .int .i64 0, .int .i64 7]) := by show _ = _; simp [firstV, hk, hd]
      have HR : Hid (rgE 0 40000 day = 7) := by show _ = _; unfold rgE; rw [hd]; rfl
      clear hk hd
      go_wp2_with fail
      refine (ranged_c _ _ _ _).mono ?_
      rintro e w' ⟨rfl, rfl⟩
      rw [HR.out]
      go_wp2_with fail
      go_ret3
      exact ⟨by rw [HV.out]; first | done | rfl, hs1.1⟩
  · have HV : Hid (firstV b s day = .tuple #[.int .i64 0, .int .i64 0, .int .i64 (chk b s).2.2]) := by show _ = _; simp [firstV, hk]
    have h1 : ((chk b s).2.2 == 0) = false := by simpa using hk
    have h2 : ((chk b s).2.2 != 0) = true := by simpa using hk
    clear hk
    go_wp2_with fail
    go_ret3
    exact ⟨by rw [HV.out]; first | done | rfl, hs1.1⟩
end Td
end Go.Proofs.Ytojpiliamecgkaa
