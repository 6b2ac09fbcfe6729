import Derived.Test.YtmofbnadfgejiaaLvlD
/- The reference: until when a reading holds. -/
namespace Go.Proofs.Ytmofbnadfgejiaa
open Go.RowKit
namespace Td
set_option linter.unusedSimpArgs false
set_option linter.unusedVariables false
attribute [local go_sem] Oper.semAt_some
theorem span_snd (a b : Int) (W : World) : (Instr.field 23 (.agg #[.int .i64 a, .int .i64 b]) 1).run Try.prog W = .ok (.int .i64 b) W := by kernel_rfl
theorem Tp_in (s : Spc) (m : Int) {L : Int} (h0 : 0 ≤ L) (h1 : L ≤ 200) (k : Nat) : 0 ≤ Tp s m L k ∧ Tp s m L k ≤ 200 := by
  cases k with
  | zero => exact ⟨h0, h1⟩
  | succ k => exact hld_in _
set_option maxRecDepth 100000 in
set_option maxHeartbeats 8000000 in
theorem rholds_c (s : Spc) (m : Sl) (r : Rd) (w : World) (hs : SOk s) (hsa : SAt w m s) (hr : ROk s r) :
    Calls Try.prog 62 #[.agg (sV s m), .int .i64 r.tool, .int .i64 r.shown, .int .i64 r.min] w fun e w' => e = .returned (.int .i64 (hol s r)) ∧ Below w.heap.size w w' := by
  obtain ⟨rmin, tool, sh⟩ := r
  have hm0 := hr.m0
  have hm1 := hr.m1
  have ht0 := hr.t0
  have ht1 := hr.t1
  have hh0 := hr.h0
  have hh1 := hr.h1
  dsimp only at hm0 hm1 ht0 ht1 hh0 hh1 ⊢
  obtain ⟨tl, rfl⟩ : ∃ tl : Nat, tool = (tl : Int) := ⟨tool.toNat, by omega⟩
  obtain ⟨mn, rfl⟩ : ∃ mn : Nat, rmin = (mn : Int) := ⟨rmin.toNat, by omega⟩
  have htl : tl < s.tools.length := by omega
  have hti : (tl : Int) < (s.tools.length : Int) := by omega
  obtain ⟨at', hT, _, ee⟩ := hsa.tl.get htl
  have heb := hs.er _ (List.getElem_mem htl)
  obtain ⟨er, her⟩ : ∃ er, s.tools[tl].err = er := ⟨_, rfl⟩
  have hEO : errOf s ⟨(mn : Int), (tl : Int), sh⟩ = er := by simp [errOf, List.getElem?_eq_getElem htl, her]
  rw [her] at ee heb
  have hS0 := Sp.start w s m
  have ee := keep_cell hS0.sn.1 ee
  obtain ⟨c0, c1, c2, c3, c4, c5, c6, c7, c8⟩ := hS0.bk.space
  rw [hT] at c8
  have hw1 : IntKind.i64.wrap (sh + er) = sh + er := IntWalk.i64_in _ (by omega)
  have HTT := Lib.hid hT
  obtain ⟨sm, hsm⟩ : ∃ sm, sh + er = sm := ⟨_, rfl⟩
  rw [hsm] at hw1
  clear her hr hT
  by_cases hneg : sm < 0
  · have HU : Hid (hol s ⟨(mn : Int), (tl : Int), sh⟩ = -1) := by show _ = _; unfold hol; rw [if_pos (by rw [hEO]; show sh + er < 0; omega)]
    have hq1 : sm < 200 := by omega
    have hq2 : ¬ (0 : Int) ≤ sm := by omega
    have hki : (mn : Int) ≤ 60 := by omega
    clear hEO
    go_enter Try.func62, Try.ntmps62
    go_wp2_with fail
    clear hsm
    go_loopw [9, 10, 11] (fun lv last t wr => lv = .int .i64 sm ∧ last = .int .i64 (-1) ∧ t = .int .i64 (mn : Int) ∧ Sp w s m wr) (fun _ _ _ _ => 0)
    case atStart => exact ⟨rfl, rfl, rfl, hS0⟩
    case round =>
      obtain ⟨rfl, rfl, rfl, hS⟩ := hrel
      go_wp2_with fail
      go_ret
      exact ⟨by rw [HU.out]; rfl, hS.sn.1⟩
  · have HH : Hid (hol s ⟨(mn : Int), (tl : Int), sh⟩ = untl s [] (mn : Int) (some (hld sm, hld sm))) := by
      show _ = _
      rw [hol_eq (by rw [hEO]; show 0 ≤ sh + er; omega), hEO]
      show untl s [] (mn : Int) (some (hld (sh + er), hld (sh + er))) = _
      rw [hsm]
    clear hEO
    by_cases hq : sm < 200
    · have hL : hld sm = sm := hld_id (by omega) (by omega)
      rw [hL] at HH
      clear hL
      go_enter Try.func62, Try.ntmps62
      go_wp2_with fail
      clear c0 c1 c2 c3 c4 c5 c6 c7 c8 ee hw1 hsm
      go_loopw [9, 10, 11] (fun lv last t wr => ∃ k : Nat, mn + k ≤ 61 ∧ t = .int .i64 ((mn : Int) + (k : Int)) ∧ last = .int .i64 (if k = 0 then -1 else (mn : Int) + (k : Int) - 1) ∧ lv = .int .i64 (Tp s (mn : Int) (sm) k) ∧ Sp w s m wr ∧ Hid (∀ j, j < k → good s [] (mn : Int) (some (sm, sm)) j = true)) (fun _ _ t _ => (61 - intOf t).toNat)
      case atStart => exact ⟨0, by omega, by simp, rfl, rfl, hS0, fun j h => absurd h (by omega)⟩
      case round =>
        obtain ⟨k, hk, rfl, hlast, rfl, hS, HG⟩ := hrel
        obtain ⟨lu, hlu⟩ : ∃ lu, (if k = 0 then -1 else (mn : Int) + (k : Int) - 1) = lu := ⟨_, rfl⟩
        rw [hlu] at hlast
        subst hlast
        have HLU := Lib.hid hlu
        have htb := Tp_in s (mn : Int) (L := sm) (by omega) (by omega) k
        have hgd := good_hol hs (mn : Int) (sm) k
        have hnx : Tp s (mn : Int) (sm) (k + 1) = hld (Tp s (mn : Int) (sm) k + (chg s ((mn : Int) + (k : Int))).2) := rfl
        obtain ⟨tk, htk⟩ : ∃ tk, Tp s (mn : Int) (sm) k = tk := ⟨_, rfl⟩
        rw [htk] at htb hgd hnx ⊢
        have HNX := Lib.hid hnx
        clear hlu hnx htk
        obtain ⟨c0, c1, c2, c3, c4, c5, c6, c7, c8⟩ := hS.bk.space
        by_cases hlt : mn + k ≤ 60
        · have hki : (mn : Int) + (k : Int) ≤ 60 := by omega
          have htk0 : (0 : Int) ≤ tk := by omega
          by_cases hlim : tk ≤ s.lim
          · have hyes : decide (tk ≤ s.lim) = true := decide_eq_true hlim
            rw [hyes] at hgd
            have HG2 : Hid (∀ j, j < k + 1 → good s [] (mn : Int) (some (sm, sm)) j = true) := fun j hj => by
              rcases Nat.lt_or_ge j k with h | h
              · exact HG.out j h
              · obtain rfl : j = k := by omega
                exact hgd
            have hck := chg_ok hs ((mn : Int) + (k : Int))
            have hRi := rise_c s m ((mn : Int) + (k : Int)) wr (by have := hs.nb; omega) (hsa.keep hS.sn.1)
            obtain ⟨lo, hlo⟩ : ∃ lo, (chg s ((mn : Int) + (k : Int))).1 = lo := ⟨_, rfl⟩
            obtain ⟨hi, hhi⟩ : ∃ hi, (chg s ((mn : Int) + (k : Int))).2 = hi := ⟨_, rfl⟩
            rw [hlo, hhi] at hRi hck
            rw [hhi] at HNX
            have hw2 : IntKind.i64.wrap (tk + hi) = tk + hi := IntWalk.i64_in _ (by omega)
            have hw5 : IntKind.i64.wrap ((mn : Int) + (k : Int) + 1) = (mn : Int) + ((k + 1 : Nat) : Int) := by rw [IntWalk.i64_in _ (by omega)]; push_cast; omega
            have hne : (if k + 1 = 0 then -1 else (mn : Int) + ((k + 1 : Nat) : Int) - 1) = (mn : Int) + (k : Int) := by rw [if_neg (by omega)]; push_cast; omega
            have HNE := Lib.hid hne
            clear hlo hhi hgd hne
            go_wp2_with fail
            refine hRi.mono ?_
            rintro e w5 ⟨rfl, hb5⟩
            have hS5 := hS.keep hb5
            have hfld := span_snd lo hi w5
            clear c0 c1 c2 c3 c4 c5 c6 c7 c8 hRi
            go_wp2_with fail
            refine (limited_c _ _).mono ?_
            rintro e w' ⟨rfl, rfl⟩
            go_wp2_with fail
            go_roundw
            case rel => exact ⟨k + 1, by omega, rfl, by rw [HNE.out], by rw [HNX.out], hS5, HG2⟩
            case measure => simp [intOf]; omega
          · have hno : decide (tk ≤ s.lim) = false := decide_eq_false hlim
            rw [hno] at hgd
            have hU := untl_stop (by omega) HG.out hgd
            have HU : Hid (hol s ⟨(mn : Int), (tl : Int), sh⟩ = lu) := by show _ = _; rw [HH.out, hU, HLU.out]
            clear hgd hU
            go_wp2_with fail
            go_ret
            exact ⟨by rw [HU.out]; rfl, hS.sn.1⟩
        · have hki : ¬ (mn : Int) + (k : Int) ≤ 60 := by omega
          have hU := untl_end (s := s) (l := []) (o := some (sm, sm)) (mi := mn) (by omega) (fun j hj => HG.out j (by omega))
          obtain rfl : lu = 60 := by have := HLU.out; rw [if_neg (by omega)] at this; omega
          have HU : Hid (hol s ⟨(mn : Int), (tl : Int), sh⟩ = 60) := by show _ = _; rw [HH.out, hU]
          clear hU hgd
          go_wp2_with fail
          go_ret
          exact ⟨by rw [HU.out]; rfl, hS.sn.1⟩
    · have hL : hld sm = 200 := by unfold hld; omega
      rw [hL] at HH
      clear hL
      go_enter Try.func62, Try.ntmps62
      go_wp2_with fail
      clear c0 c1 c2 c3 c4 c5 c6 c7 c8 ee hw1 hsm
      go_loopw [9, 10, 11] (fun lv last t wr => ∃ k : Nat, mn + k ≤ 61 ∧ t = .int .i64 ((mn : Int) + (k : Int)) ∧ last = .int .i64 (if k = 0 then -1 else (mn : Int) + (k : Int) - 1) ∧ lv = .int .i64 (Tp s (mn : Int) (200) k) ∧ Sp w s m wr ∧ Hid (∀ j, j < k → good s [] (mn : Int) (some (200, 200)) j = true)) (fun _ _ t _ => (61 - intOf t).toNat)
      case atStart => exact ⟨0, by omega, by simp, rfl, rfl, hS0, fun j h => absurd h (by omega)⟩
      case round =>
        obtain ⟨k, hk, rfl, hlast, rfl, hS, HG⟩ := hrel
        obtain ⟨lu, hlu⟩ : ∃ lu, (if k = 0 then -1 else (mn : Int) + (k : Int) - 1) = lu := ⟨_, rfl⟩
        rw [hlu] at hlast
        subst hlast
        have HLU := Lib.hid hlu
        have htb := Tp_in s (mn : Int) (L := 200) (by omega) (by omega) k
        have hgd := good_hol hs (mn : Int) (200) k
        have hnx : Tp s (mn : Int) (200) (k + 1) = hld (Tp s (mn : Int) (200) k + (chg s ((mn : Int) + (k : Int))).2) := rfl
        obtain ⟨tk, htk⟩ : ∃ tk, Tp s (mn : Int) (200) k = tk := ⟨_, rfl⟩
        rw [htk] at htb hgd hnx ⊢
        have HNX := Lib.hid hnx
        clear hlu hnx htk
        obtain ⟨c0, c1, c2, c3, c4, c5, c6, c7, c8⟩ := hS.bk.space
        by_cases hlt : mn + k ≤ 60
        · have hki : (mn : Int) + (k : Int) ≤ 60 := by omega
          have htk0 : (0 : Int) ≤ tk := by omega
          by_cases hlim : tk ≤ s.lim
          · have hyes : decide (tk ≤ s.lim) = true := decide_eq_true hlim
            rw [hyes] at hgd
            have HG2 : Hid (∀ j, j < k + 1 → good s [] (mn : Int) (some (200, 200)) j = true) := fun j hj => by
              rcases Nat.lt_or_ge j k with h | h
              · exact HG.out j h
              · obtain rfl : j = k := by omega
                exact hgd
            have hck := chg_ok hs ((mn : Int) + (k : Int))
            have hRi := rise_c s m ((mn : Int) + (k : Int)) wr (by have := hs.nb; omega) (hsa.keep hS.sn.1)
            obtain ⟨lo, hlo⟩ : ∃ lo, (chg s ((mn : Int) + (k : Int))).1 = lo := ⟨_, rfl⟩
            obtain ⟨hi, hhi⟩ : ∃ hi, (chg s ((mn : Int) + (k : Int))).2 = hi := ⟨_, rfl⟩
            rw [hlo, hhi] at hRi hck
            rw [hhi] at HNX
            have hw2 : IntKind.i64.wrap (tk + hi) = tk + hi := IntWalk.i64_in _ (by omega)
            have hw5 : IntKind.i64.wrap ((mn : Int) + (k : Int) + 1) = (mn : Int) + ((k + 1 : Nat) : Int) := by rw [IntWalk.i64_in _ (by omega)]; push_cast; omega
            have hne : (if k + 1 = 0 then -1 else (mn : Int) + ((k + 1 : Nat) : Int) - 1) = (mn : Int) + (k : Int) := by rw [if_neg (by omega)]; push_cast; omega
            have HNE := Lib.hid hne
            clear hlo hhi hgd hne
            go_wp2_with fail
            refine hRi.mono ?_
            rintro e w5 ⟨rfl, hb5⟩
            have hS5 := hS.keep hb5
            have hfld := span_snd lo hi w5
            clear c0 c1 c2 c3 c4 c5 c6 c7 c8 hRi
            go_wp2_with fail
            refine (limited_c _ _).mono ?_
            rintro e w' ⟨rfl, rfl⟩
            go_wp2_with fail
            go_roundw
            case rel => exact ⟨k + 1, by omega, rfl, by rw [HNE.out], by rw [HNX.out], hS5, HG2⟩
            case measure => simp [intOf]; omega
          · have hno : decide (tk ≤ s.lim) = false := decide_eq_false hlim
            rw [hno] at hgd
            have hU := untl_stop (by omega) HG.out hgd
            have HU : Hid (hol s ⟨(mn : Int), (tl : Int), sh⟩ = lu) := by show _ = _; rw [HH.out, hU, HLU.out]
            clear hgd hU
            go_wp2_with fail
            go_ret
            exact ⟨by rw [HU.out]; rfl, hS.sn.1⟩
        · have hki : ¬ (mn : Int) + (k : Int) ≤ 60 := by omega
          have hU := untl_end (s := s) (l := []) (o := some (200, 200)) (mi := mn) (by omega) (fun j hj => HG.out j (by omega))
          obtain rfl : lu = 60 := by have := HLU.out; rw [if_neg (by omega)] at this; omega
          have HU : Hid (hol s ⟨(mn : Int), (tl : Int), sh⟩ = 60) := by show _ = _; rw [HH.out, hU]
          clear hU hgd
          go_wp2_with fail
          go_ret
          exact ⟨by rw [HU.out]; rfl, hS.sn.1⟩
end Td
end Go.Proofs.Ytmofbnadfgejiaa
