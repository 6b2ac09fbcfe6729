import Derived.Test.YtmofbnadfgejiaaHldC
import Derived.Test.YtmofbnadfgejiaaRflW
/- The reference: Fewest. -/
namespace Go.Proofs.Ytmofbnadfgejiaa
open Go.RowKit
namespace Td
set_option linter.unusedSimpArgs false
set_option linter.unusedVariables false
attribute [local go_sem] Oper.semAt_some
theorem tooE_fewE (s : Spc) (r : Rd) (to : Int) : tooE s r.tool r.shown r.min to = if toolE2 s r ≠ 0 then toolE2 s r else if wi 0 60 to then 0 else 7 := by
  unfold tooE toolE2 rdE
  by_cases h1 : (chk s).2.2 = 0
  · rcases Bool.eq_false_or_eq_true (wi 0 ((s.tools.length : Int) - 1) r.tool) with a | a <;> rcases Bool.eq_false_or_eq_true (wi 0 60 r.min) with b | b <;> rcases Bool.eq_false_or_eq_true (wi (-50) 250 r.shown) with c | c <;> rcases Bool.eq_false_or_eq_true (wi 0 60 to) with d | d <;> simp [h1, a, b, c, d]
  · simp [h1]
theorem fewE_is (s : Spc) (r : Rd) (to : Int) : fewestE s r to = if tooE s r.tool r.shown r.min to ≠ 0 then tooE s r.tool r.shown r.min to else if to < r.min then 2 else if hol s r < r.min then 9 else 0 := by
  rw [tooE_fewE]
  unfold fewestE
  by_cases h : toolE2 s r = 0
  · rcases Bool.eq_false_or_eq_true (wi 0 60 to) with d | d <;> simp [h, d]
  · simp [h]
theorem tooE_zero {s : Spc} {r : Rd} {to : Int} (h : tooE s r.tool r.shown r.min to = 0) : SOk s ∧ ROk s r ∧ 0 ≤ to ∧ to ≤ 60 := by
  rw [tooE_fewE] at h
  by_cases h1 : toolE2 s r = 0
  · simp only [h1, ne_eq, not_true_eq_false, if_false] at h
    split at h
    · rename_i h2
      have h3 := wi_iff.1 h2
      unfold toolE2 at h1
      by_cases h4 : (chk s).2.2 = 0
      · simp [h4] at h1
        exact ⟨chk_ok h4, rdE_ok.1 h1, h3.1, h3.2⟩
      · simp [h4] at h1
    · omega
  · simp [h1] at h
theorem pkI_some {U : Nat → Int} {th : Nat → Nat} {at_ early : Nat} : ∀ k, pkI U th at_ early k = (62, -1) ∨ ∃ j, j < k ∧ (at_ : Int) ≤ U (early + j) ∧ pkI U th at_ early k = (th (early + j), ((early + j : Nat) : Int))
  | 0 => .inl rfl
  | k + 1 => by
    rw [pkI]
    by_cases e : (at_ : Int) ≤ U (early + k) ∧ th (early + k) < (pkI U th at_ early k).1
    · rw [if_pos e]
      exact .inr ⟨k, by omega, e.1, rfl⟩
    · rw [if_neg e]
      rcases pkI_some (U := U) (th := th) (at_ := at_) (early := early) k with q | ⟨j, h1, h3⟩
      · exact .inl q
      · exact .inr ⟨j, by omega, h3⟩
theorem pkI_fst {U : Nat → Int} {th : Nat → Nat} {at_ early k : Nat} (h : ∀ t, th t ≤ 63) : (pkI U th at_ early k).1 ≤ 63 := by
  rcases pkI_some (U := U) (th := th) (at_ := at_) (early := early) k with q | ⟨j, h1, h3, q⟩
  · rw [q]; show (62 : Nat) ≤ 63; omega
  · rw [q]; exact h _
theorem outI_end {U : Nat → Int} {th : Nat → Nat} {to f a e : Nat} (h : ¬ a ≤ to) : outI U th to f a e = some [] := by
  cases f with
  | zero => rfl
  | succ f => rw [outI, if_neg h]
theorem outI_bad2 {U : Nat → Int} {th : Nat → Nat} {to f a e : Nat} (h : a ≤ to) {p : Nat × Int} (hp : pkI U th a e (a + 1 - e) = p) (hb : p.2 < 0 ∨ 61 < p.1) : outI U th to (f + 1) a e = none := by
  rw [outI, if_pos h, hp, if_pos hb]
theorem outI_next {U : Nat → Int} {th : Nat → Nat} {to f a e b j : Nat} (h : a ≤ to) (hp : pkI U th a e (a + 1 - e) = (b, (j : Int))) (hb : b ≤ 61) : outI U th to (f + 1) a e = (outI U th to f (U j + 1).toNat (j + 1)).map ((j : Int) :: ·) := by
  rw [outI, if_pos h, hp]
  show (if (j : Int) < 0 ∨ 61 < b then none else (outI U th to f (U ((j : Int)).toNat + 1).toNat (((j : Int)).toNat + 1)).map ((j : Int) :: ·)) = _
  rw [if_neg (by omega), Int.toNat_natCast]
set_option maxRecDepth 100000 in
set_option maxHeartbeats 8000000 in
theorem rfewest_c (s : Spc) (m : Sl) (r : Rd) (to : Int) (w : World) (hsa : SAt w m s) :
    Calls Try.prog 28 #[.agg (sV s m), .int .i64 r.tool, .int .i64 r.shown, .int .i64 r.min, .int .i64 to] w fun e w' => (∃ v, e = .returned (.tuple #[v, .int .i64 (fewestA s r to).2]) ∧ Lv w' v (fewestA s r to).1) ∧ Below w.heap.size w w' := by
  have hS0 := Sp.start w s m
  have hfe := fewE_is s r to
  have hz := fun h => tooE_zero (s := s) (r := r) (to := to) h
  have hT := fun w => tooled_c s m r.tool r.shown r.min to w
  have hfi := fun fr to' h1 h2 h3 => few_is s r (fr := fr) (to := to') h1 h2 h3
  obtain ⟨rmin, tool, shown⟩ := r
  dsimp only at hfe hz hT hfi ⊢
  obtain ⟨E, hE⟩ : ∃ E, tooE s tool shown rmin to = E := ⟨_, rfl⟩
  rw [hE] at hfe hz
  simp only [hE] at hT
  have HZ := Lib.hid hz
  have HFI := Lib.hid hfi
  obtain ⟨c0, c1, c2, c3, c4, c5, c6, c7, c8⟩ := hS0.bk.space
  clear hE hz hfi
  go_enter Try.func28, Try.ntmps28
  go_wp2_with fail
  refine (hT _ (hsa.keep hS0.sn.1)).mono ?_
  rintro e w1 ⟨rfl, hb1⟩
  have hS1 := hS0.keep hb1
  clear c0 c1 c2 c3 c4 c5 c6 c7 c8 hS0 hb1 hT
  by_cases h0 : E = 0
  · subst h0
    rw [if_neg (by simp)] at hfe
    obtain ⟨hs, hr, ht0, ht1⟩ := HZ.out rfl
    by_cases hlt : to < rmin
    · rw [if_pos hlt] at hfe
      have hgt : rmin > to := hlt
      have HV : Hid (fewestA s ⟨rmin, tool, shown⟩ to = ([], 2)) := by show _ = _; unfold fewestA; rw [hfe, if_neg (by omega)]
      clear hfe HZ HFI hs hr
      go_wp2_with fail
      go_ret2
      rw [HV.out]
      exact ⟨⟨_, rfl, Lv.nil _⟩, hS1.sn.1⟩
    · rw [if_neg hlt] at hfe
      have hm0 := hr.m0
      dsimp only at hm0
      obtain ⟨fr, rfl⟩ : ∃ fr : Nat, rmin = (fr : Int) := ⟨rmin.toNat, by omega⟩
      obtain ⟨tn, rfl⟩ : ∃ tn : Nat, to = (tn : Int) := ⟨to.toNat, by omega⟩
      have hft : fr ≤ tn := by omega
      have h60 : tn ≤ 60 := by omega
      have hno : ¬ (fr : Int) > (tn : Int) := by omega
      have hfi := HFI.out fr tn rfl h60 hft
      obtain ⟨U, hUd⟩ : ∃ U : Nat → Int, (fun (t : Nat) => hol s ⟨(t : Int), tool, shown⟩) = U := ⟨_, rfl⟩
      have hUx : ∀ x : Nat, x ≤ 60 → ROk s ⟨(x : Int), tool, shown⟩ ∧ hol s ⟨(x : Int), tool, shown⟩ = U x ∧ -1 ≤ U x ∧ U x ≤ 60 := fun x hx => by
        have h1 := hol_in (s := s) (r := ⟨(x : Int), tool, shown⟩) (by show (0 : Int) ≤ (x : Int); omega) (by show (x : Int) ≤ 60; omega)
        have h2 : hol s ⟨(x : Int), tool, shown⟩ = U x := by rw [← hUd]
        rw [h2] at h1
        exact ⟨⟨hr.t0, hr.t1, by show (0 : Int) ≤ (x : Int); omega, by show (x : Int) ≤ 60; omega, hr.h0, hr.h1⟩, h2, h1.1, h1.2.1⟩
      rw [hUd] at hfi
      have hF := rfew_c s m tool shown U fr tn w1 hs (hsa.keep hS1.sn.1) hUx hft h60
      have HC : Hid (∀ (W : World) (x : Nat), x ≤ 60 → Sp w s m W → Calls Try.prog 62 #[.agg (sV s m), .int .i64 tool, .int .i64 shown, .int .i64 x] W fun e w' => e = .returned (.int .i64 (U x)) ∧ Below W.heap.size W w') := fun W x hx hW => by
        have := rholds_c s m ⟨(x : Int), tool, shown⟩ W hs (hsa.keep hW.sn.1) (hUx x hx).1
        rw [(hUx x hx).2.1] at this
        exact this
      have HB : Hid (∀ x : Nat, x ≤ 60 → -1 ≤ U x ∧ U x ≤ 60) := fun x hx => (hUx x hx).2.2
      obtain ⟨NI, hNI⟩ : ∃ NI, ni U fr tn (tn + 1 - fr) = NI := ⟨_, rfl⟩
      rw [hNI] at hF hfi
      have HNI : Hid (∀ i, NI i ≤ 62) := fun i => by rw [← hNI]; exact ni_le _ _
      obtain ⟨TH, hTH⟩ : ∃ TH, thI U tn NI = TH := ⟨_, rfl⟩
      have HTX : Hid (∀ x, TH x = if U x < (tn : Int) then 1 + NI (U x + 1).toNat else 1) := fun x => by rw [← hTH]; rfl
      have HTL : Hid (∀ x, TH x ≤ 63) := fun x => by rw [← hTH]; exact (thI_le HNI.out).1
      rw [hTH] at hfi
      have HFA : Hid (fewestA s ⟨(fr : Int), tool, shown⟩ (tn : Int) = match outI U TH tn (tn + 1 - fr) fr fr with | some l => (l, 0) | none => ([], 9)) := by
        show _ = _
        rw [hfi]
        unfold fewestA
        rw [hfe]
        by_cases hh : hol s ⟨(fr : Int), tool, shown⟩ < (fr : Int)
        · rw [if_pos hh, if_pos hh, if_neg (by omega)]
        · rw [if_neg hh, if_neg hh, if_pos rfl]
      clear hfe HZ HFI hfi hUd hUx hNI hTH hs hr hlt ht0 ht1 hm0
      obtain ⟨R, hR⟩ : ∃ R, outI U TH tn (tn + 1 - fr) fr fr = R := ⟨_, rfl⟩
      rw [hR] at HFA
      obtain ⟨c0, c1, c2, c3, c4, c5, c6, c7, c8⟩ := hS1.bk.space
      go_wp2_with fail
      refine hF.mono ?_
      rintro e w2 ⟨⟨gN, rfl, hgN, hBN⟩, hb2⟩
      have hS2 := hS1.keep hb2
      have hgw : w.heap.size < gN := Nat.lt_of_le_of_lt hS1.sn.2 hgN
      have hgl := hBN.lt
      clear c0 c1 c2 c3 c4 c5 c6 c7 c8 hS1 hb2 hF
      have HS2 := Lib.hid hS2
      have HBN := Lib.hid hBN
      have HO2 : Hid (w2.ownsRow w2.heap.size 3 1 (.slice none 0 0) ([] : List Int).length (([] : List Int).map fun x => .int .i64 x)) := ⟨rfl, .inl ⟨rfl, rfl⟩⟩
      have HR0 : Hid ((outI U TH tn (tn + 1 - fr) fr fr).map (([] : List Int) ++ ·) = R) := by
        show _ = _
        rw [hR]
        cases R <;> simp
      obtain ⟨B, hB⟩ : ∃ B, w2.heap.size = B := ⟨_, rfl⟩
      rw [hB] at HO2 hgl
      have HBw : Hid (B ≤ w2.heap.size) := Nat.le_of_eq hB.symm
      clear hS2 hBN hR hB
      go_wp2_with fail
      go_loopw [14, 15, 16, 17, 18, 19, 20, 21] (fun out at_ ea _ _ _ _ _ wr => ∃ (l : List Int) (f a e : Nat) (A : Option Addr) (c : Nat), out = .slice A l.length c ∧ fr ≤ e ∧ e ≤ a ∧ a ≤ 61 ∧ tn + 1 ≤ a + f ∧ l.length ≤ a ∧ at_ = .int .i64 (a : Int) ∧ ea = .int .i64 (e : Int) ∧ Hid (B ≤ wr.heap.size) ∧ Hid ((outI U TH tn f a e).map (l ++ ·) = R) ∧ Hid (Sp w s m wr) ∧ Hid (Blk wr gN 3 (cnI 62 NI)) ∧ Hid (wr.ownsRow B 3 1 (.slice A l.length c) l.length (l.map fun x => .int .i64 x))) (fun _ at_ _ _ _ _ _ _ _ => (61 - intOf at_).toNat)
      case atStart => exact ⟨[], tn + 1 - fr, fr, fr, none, 0, rfl, Nat.le_refl _, Nat.le_refl _, by omega, by omega, by simp, rfl, rfl, HBw, HR0, HS2, HBN, HO2⟩
      case round =>
        clear HBw HR0 HS2 HBN HO2
        obtain ⟨l, f, a, e, A7, c7, rfl, hfe, hea, ha61, hf, hll, rfl, rfl, HBw, HR, HS, HN, HO⟩ := hrel
        by_cases hat : a ≤ tn
        · have hat' : (a : Int) ≤ (tn : Int) := by omega
          obtain ⟨f', rfl⟩ : ∃ f', f = f' + 1 := ⟨f - 1, by omega⟩
          obtain ⟨wo, hwo⟩ : ∃ wo, wr = wo := ⟨_, rfl⟩
          subst hwo
          have HQ0 := Lib.hid (Since.refl wr)
          go_wp2_with fail
          go_loopw [17, 18, 19, 20, 21] (fun bs mm t _ _ wy => ∃ k : Nat, k ≤ a + 1 - e ∧ bs = .int .i64 ((pkI U TH a e k).1 : Nat) ∧ mm = .int .i64 (pkI U TH a e k).2 ∧ t = .int .i64 ((e : Int) + (k : Int)) ∧ Hid (Since wr wy)) (fun _ _ t _ _ _ => ((a : Int) + 1 - intOf t).toNat)
          case atStart => exact ⟨0, by omega, rfl, rfl, by simp, HQ0⟩
          case round =>
            clear HQ0
            obtain ⟨k, hk, rfl, rfl, rfl, HQ⟩ := hrel
            have HS5 := Lib.hid (HS.out.keep HQ.out.1)
            have HN5 := Lib.hid (HN.out.keep HQ.out.1)
            have HO5 := Lib.hid (own_keep HO.out HQ.out.1)
            have HB5 : Hid (B ≤ wr.heap.size) := Nat.le_trans HBw.out HQ.out.1.size
            obtain ⟨x, hx⟩ : ∃ x : Nat, x = e + k := ⟨_, rfl⟩
            have hx2 : (e : Int) + (k : Int) = (x : Int) := by omega
            rw [hx2]
            obtain ⟨c0, c1, c2, c3, c4, c5, c6, c7, c8⟩ := HS5.out.bk.space
            by_cases hxa : x ≤ a
            · have hxa' : (x : Int) ≤ (a : Int) := by omega
              have hsu : pkI U TH a e (k + 1) = if (a : Int) ≤ U x ∧ TH x < (pkI U TH a e k).1 then (TH x, ((x : Nat) : Int)) else pkI U TH a e k := by rw [pkI, ← hx]
              have hp63 := pkI_fst (U := U) (th := TH) (at_ := a) (early := e) (k := k) HTL.out
              obtain ⟨p, hp⟩ : ∃ p, pkI U TH a e k = p := ⟨_, rfl⟩
              rw [hp] at hsu hp63 ⊢
              obtain ⟨b, mm⟩ := p
              dsimp only at hsu hp63 ⊢
              have hub := HB.out x (by omega)
              have hc := HC.out wr x (by omega) HS5.out
              have htx := HTX.out x
              have htl := HTL.out x
              obtain ⟨u, hu⟩ : ∃ u, U x = u := ⟨_, rfl⟩
              obtain ⟨T, hT⟩ : ∃ T, TH x = T := ⟨_, rfl⟩
              rw [hu] at hub hc htx hsu
              rw [hT] at htx htl hsu
              have hw2 : IntKind.i64.wrap ((x : Int) + 1) = (e : Int) + ((k + 1 : Nat) : Int) := by rw [IntWalk.i64_in _ (by omega)]; push_cast; omega
              have HX := Lib.hid hx
              clear hp hu hT hx hx2
              by_cases hut : u < (tn : Int)
              · rw [if_pos hut] at htx
                obtain ⟨j, hj⟩ : ∃ j : Nat, (u + 1).toNat = j := ⟨_, rfl⟩
                rw [hj] at htx
                have hw3 : IntKind.i64.wrap (u + 1) = (j : Int) := by rw [IntWalk.i64_in _ (by omega)]; omega
                have hmx : max (0 : Int) (j : Int) = (j : Int) := by omega
                have hj62 : j < 62 := by omega
                have hj62' : (j : Int) < 62 := by omega
                obtain ⟨y, hy⟩ : ∃ y, NI j = y := ⟨_, rfl⟩
                rw [hy] at htx
                have HY := Lib.hid hy
                have hy62 : y ≤ 62 := by rw [← hy]; exact HNI.out j
                have hw4 : IntKind.i64.wrap (1 + (y : Int)) = (T : Int) := by rw [IntWalk.i64_in _ (by omega)]; omega
                by_cases hj0 : 0 < j
                · have hj0' : (0 : Int) < (j : Int) := by omega
                  clear hy hj htx
                  by_cases q1 : (a : Int) ≤ u
                  · by_cases q2 : T < b
                    · have q2' : (T : Int) < (b : Int) := by omega
                      rw [if_pos ⟨q1, q2⟩] at hsu
                      have HSU := Lib.hid hsu
                      clear hsu
                      go_wp2_with fail
                      refine hc.mono ?_
                      rintro e' w5 ⟨rfl, hb5⟩
                      have HQ6 : Hid (Since _ w5) := HQ.out.keep hb5
                      have g1 := (HN5.out.keep hb5).cell j
                      rw [cnI_get _ hj62, HY.out] at g1
                      clear hc c0 c1 c2 c3 c4 c5 c6 c7 c8 hb5
                      go_wp2_with fail
                      go_roundw
                      case rel => exact ⟨k + 1, by have := HX.out; omega, by rw [HSU.out] <;> rfl, by rw [HSU.out] <;> rfl, rfl, HQ6⟩
                      case measure => have := HX.out; simp [intOf]; omega
                    · have q2' : ¬ (T : Int) < (b : Int) := by omega
                      rw [if_neg (fun h => q2 h.2)] at hsu
                      have HSU := Lib.hid hsu
                      clear hsu
                      go_wp2_with fail
                      refine hc.mono ?_
                      rintro e' w5 ⟨rfl, hb5⟩
                      have HQ6 : Hid (Since _ w5) := HQ.out.keep hb5
                      have g1 := (HN5.out.keep hb5).cell j
                      rw [cnI_get _ hj62, HY.out] at g1
                      clear hc c0 c1 c2 c3 c4 c5 c6 c7 c8 hb5
                      go_wp2_with fail
                      go_roundw
                      case rel => exact ⟨k + 1, by have := HX.out; omega, by rw [HSU.out] <;> rfl, by rw [HSU.out] <;> rfl, rfl, HQ6⟩
                      case measure => have := HX.out; simp [intOf]; omega
                  · rw [if_neg (fun h => q1 h.1)] at hsu
                    have HSU := Lib.hid hsu
                    clear hsu
                    go_wp2_with fail
                    refine hc.mono ?_
                    rintro e' w5 ⟨rfl, hb5⟩
                    have HQ6 : Hid (Since _ w5) := HQ.out.keep hb5
                    have g1 := (HN5.out.keep hb5).cell j
                    rw [cnI_get _ hj62, HY.out] at g1
                    clear hc c0 c1 c2 c3 c4 c5 c6 c7 c8 hb5
                    go_wp2_with fail
                    go_roundw
                    case rel => exact ⟨k + 1, by have := HX.out; omega, by rw [HSU.out] <;> rfl, by rw [HSU.out] <;> rfl, rfl, HQ6⟩
                    case measure => have := HX.out; simp [intOf]; omega
                · have hj00 : j = 0 := by omega
                  have hu1 : u = -1 := by omega
                  have q1 : ¬ (a : Int) ≤ u := by omega
                  rw [if_neg (fun h => q1 h.1)] at hsu
                  subst hj00
                  clear hy hj htx hj0
                  have HSU := Lib.hid hsu
                  clear hsu
                  go_wp2_with fail
                  refine hc.mono ?_
                  rintro e' w5 ⟨rfl, hb5⟩
                  have HQ6 : Hid (Since _ w5) := HQ.out.keep hb5
                  have g1 := (HN5.out.keep hb5).cell 0
                  rw [cnI_get _ hj62, HY.out] at g1
                  clear hc c0 c1 c2 c3 c4 c5 c6 c7 c8 hb5
                  go_wp2_with fail
                  go_roundw
                  case rel => exact ⟨k + 1, by have := HX.out; omega, by rw [HSU.out] <;> rfl, by rw [HSU.out] <;> rfl, rfl, HQ6⟩
                  case measure => have := HX.out; simp [intOf]; omega
              · rw [if_neg hut] at htx
                subst htx
                have q1 : (a : Int) ≤ u := by omega
                by_cases q2 : 1 < b
                · have q2' : (1 : Int) < (b : Int) := by omega
                  rw [if_pos ⟨q1, q2⟩] at hsu
                  have HSU := Lib.hid hsu
                  clear hsu
                  go_wp2_with fail
                  refine hc.mono ?_
                  rintro e' w5 ⟨rfl, hb5⟩
                  have HQ6 : Hid (Since _ w5) := HQ.out.keep hb5
                  clear hc c0 c1 c2 c3 c4 c5 c6 c7 c8 hb5
                  go_wp2_with fail
                  go_roundw
                  case rel => exact ⟨k + 1, by have := HX.out; omega, by rw [HSU.out] <;> rfl, by rw [HSU.out] <;> rfl, rfl, HQ6⟩
                  case measure => have := HX.out; simp [intOf]; omega
                · have q2' : ¬ (1 : Int) < (b : Int) := by omega
                  rw [if_neg (fun h => q2 h.2)] at hsu
                  have HSU := Lib.hid hsu
                  clear hsu
                  go_wp2_with fail
                  refine hc.mono ?_
                  rintro e' w5 ⟨rfl, hb5⟩
                  have HQ6 : Hid (Since _ w5) := HQ.out.keep hb5
                  clear hc c0 c1 c2 c3 c4 c5 c6 c7 c8 hb5
                  go_wp2_with fail
                  go_roundw
                  case rel => exact ⟨k + 1, by have := HX.out; omega, by rw [HSU.out] <;> rfl, by rw [HSU.out] <;> rfl, rfl, HQ6⟩
                  case measure => have := HX.out; simp [intOf]; omega
            · have hxa' : ¬ (x : Int) ≤ (a : Int) := by omega
              have hka : k = a + 1 - e := by omega
              subst hka
              obtain ⟨p, hp⟩ : ∃ p, pkI U TH a e (a + 1 - e) = p := ⟨_, rfl⟩
              have hps := pkI_some (U := U) (th := TH) (at_ := a) (early := e) (a + 1 - e)
              rw [hp] at hps ⊢
              have HP := Lib.hid hp
              clear hp hx hx2 HS HN HO HBw HQ
              rcases hps with rfl | ⟨j0, hj0, hj1, rfl⟩
              · have hRn : R = none := by rw [← HR.out, outI_bad2 hat HP.out (.inl (show (-1 : Int) < 0 by omega))]; rfl
                have HV : Hid (fewestA s ⟨(fr : Int), tool, shown⟩ (tn : Int) = ([], 9)) := by show _ = _; rw [HFA.out, hRn]
                dsimp only
                clear hRn
                go_wp2_with fail
                go_ret2
                rw [HV.out]
                exact ⟨⟨_, rfl, Lv.nil _⟩, HS5.out.sn.1⟩
              · obtain ⟨jj, hjj⟩ : ∃ jj, e + j0 = jj := ⟨_, rfl⟩
                rw [hjj] at hj1 HP ⊢
                have hjja : jj ≤ a := by omega
                have hjje : e ≤ jj := by omega
                obtain ⟨b, hbT⟩ : ∃ b, TH jj = b := ⟨_, rfl⟩
                rw [hbT] at HP ⊢
                dsimp only
                have hnn : ¬ (jj : Int) < 0 := by omega
                clear hbT hjj hj0
                by_cases hb61 : b ≤ 61
                · have hb61' : ¬ (b : Int) > 61 := by omega
                  obtain ⟨u, hu⟩ : ∃ u : Nat, U jj = (u : Int) := ⟨(U jj).toNat, by omega⟩
                  have hub := HB.out jj (by omega)
                  rw [hu] at hub hj1
                  have hRn := HR.out
                  rw [outI_next hat HP.out hb61, hu, show ((u : Int) + 1).toNat = u + 1 by omega] at hRn
                  have HR6 : Hid ((outI U TH tn f' (u + 1) (jj + 1)).map ((l ++ [(jj : Int)]) ++ ·) = R) := by
                    show _ = _
                    rw [← hRn]
                    cases outI U TH tn f' (u + 1) (jj + 1) <;> simp
                  have hHC := fun W hW => HC.out W jj (by omega) hW
                  rw [hu] at hHC
                  have HHC := Lib.hid hHC
                  have hw3 : IntKind.i64.wrap ((u : Int) + 1) = ((u + 1 : Nat) : Int) := by rw [IntWalk.i64_in _ (by omega)]; push_cast; rfl
                  have hw4 : IntKind.i64.wrap ((jj : Int) + 1) = ((jj + 1 : Nat) : Int) := by rw [IntWalk.i64_in _ (by omega)]; push_cast; rfl
                  have hq3 : Below wr.heap.size wr (wr.alloc (.cells #[.int .i64 (jj : Int)] 3)) := (Below.refl _ _).alloc (Nat.le_refl _) _
                  have HO3 := Lib.hid (own_keep HO5.out hq3)
                  have HN3 := Lib.hid (Blk.new wr 3 #[.int .i64 (jj : Int)])
                  have HNN := Lib.hid (HN5.out.keep hq3)
                  have HSS := Lib.hid (HS5.out.keep hq3)
                  have hzB : B ≤ (wr.alloc (.cells #[.int .i64 (jj : Int)] 3)).heap.size := Nat.le_trans HB5.out hq3.size
                  have hl1 : l.length ≤ 1000 := by omega
                  clear hq3 hu hRn hHC HR HP HB5 HO5 HN5 HS5 c0 c1 c2 c3 c4 c5 c6 c7 c8
                  go_wp2_with (at_builtin; refine wpList_append_one rfl (.tmp 86) (.tmp 88) rfl B wr.heap.size _ l (jj : Int) (by go_simp) (by go_simp) HO3.out HN3.out hl1 hzB ?_)
                  intro v3 w3 ho3 hg3
                  have hlt3 := HO3.out.lt
                  have HS4 := Lib.hid (HSS.out.grown hg3 (fun q h => by have := (hlt3 q h).1; omega))
                  have HN4 := Lib.hid (HNN.out.grown hg3 (fun h => by have := (hlt3 _ h.symm).1; omega))
                  have HO4 : Hid (w3.ownsRow B 3 1 v3 (l ++ [(jj : Int)]).length ((l ++ [(jj : Int)]).map fun x => .int .i64 x)) := by
                    show World.ownsRow _ _ _ _ _ _ _
                    rw [List.length_append, List.map_append]
                    exact ho3
                  obtain ⟨l2, hl2⟩ : ∃ l2, l ++ [(jj : Int)] = l2 := ⟨_, rfl⟩
                  have hll2 : l2.length = l.length + 1 := by rw [← hl2]; simp
                  rw [hl2] at HO4 HR6
                  replace hll2 := Lib.hid hll2
                  clear hl2
                  have HB4 : Hid (B ≤ w3.heap.size) := Nat.le_trans hzB hg3.size
                  obtain ⟨A8, c8', rfl, hA8⟩ : ∃ A c, v3 = .slice A l2.length c ∧ True := by
                    obtain ⟨A, c, h, -⟩ := lv_own rfl HO4.out
                    exact ⟨A, c, h, trivial⟩
                  have hc := HHC.out w3 HS4.out
                  obtain ⟨c0, c1, c2, c3, c4, c5, c6, c7, c8⟩ := HS4.out.bk.space
                  clear ho3 hg3 hlt3 hzB HO3 HN3 HNN HSS HHC hA8
                  go_wp2_with fail
                  refine hc.mono ?_
                  rintro e' w5 ⟨rfl, hb5⟩
                  have HS6 := Lib.hid (HS4.out.keep hb5)
                  have HN6 := Lib.hid (HN4.out.keep hb5)
                  have HO6 := Lib.hid (own_keep HO4.out hb5)
                  have HB6 : Hid (B ≤ w5.heap.size) := Nat.le_trans HB4.out hb5.size
                  clear hc c0 c1 c2 c3 c4 c5 c6 c7 c8 HS4 HN4 HO4 HB4 hb5
                  go_wp2_with fail
                  go_roundw
                  case rel => exact ⟨l2, f', u + 1, jj + 1, A8, c8', rfl, by omega, by omega, by omega, by omega, by have := hll2.out; omega, rfl, rfl, HB6, HR6, HS6, HN6, HO6⟩
                  case measure => simp [intOf]; omega
                · have hb61' : (b : Int) > 61 := by omega
                  have hRn : R = none := by rw [← HR.out, outI_bad2 hat HP.out (.inr (by show 61 < b; omega))]; rfl
                  have HV : Hid (fewestA s ⟨(fr : Int), tool, shown⟩ (tn : Int) = ([], 9)) := by show _ = _; rw [HFA.out, hRn]
                  clear hRn
                  go_wp2_with fail
                  go_ret2
                  rw [HV.out]
                  exact ⟨⟨_, rfl, Lv.nil _⟩, HS5.out.sn.1⟩
        · have hat' : ¬ (a : Int) ≤ (tn : Int) := by omega
          have hl : R = some l := by rw [← HR.out, outI_end hat]; simp
          have HV : Hid (fewestA s ⟨(fr : Int), tool, shown⟩ (tn : Int) = (l, 0)) := by show _ = _; rw [HFA.out, hl]
          have hlv := lv_own rfl HO.out
          have HL := Lib.hid hlv
          clear hl hlv
          go_wp2_with fail
          go_ret2
          rw [HV.out]
          exact ⟨⟨_, rfl, HL.out⟩, HS.out.sn.1⟩
  · have hfe2 : fewestE s ⟨rmin, tool, shown⟩ to = E := by rw [hfe, if_pos h0]
    have HV : Hid (fewestA s ⟨rmin, tool, shown⟩ to = ([], E)) := by show _ = _; unfold fewestA; rw [hfe2, if_neg h0]
    have h0' : (E == 0) = false := by simpa using h0
    have h1' : (E != 0) = true := by simpa using h0
    clear hfe hfe2 HZ HFI
    go_wp2_with fail
    go_ret2
    rw [HV.out]
    exact ⟨⟨_, rfl, Lv.nil _⟩, hS1.sn.1⟩
end Td
end Go.Proofs.Ytmofbnadfgejiaa
