import Derived.Test.YtccacinnelmnpaaRefE
/- The reference: Check, whole. -/
namespace Go.Proofs.Ytccacinnelmnpaa
open Go.RowKit
namespace Td
set_option linter.unusedSimpArgs false
set_option linter.unusedVariables false
attribute [local go_sem] Oper.semAt_some
theorem own_keep {W W' : World} {B sz n : Nat} {t : TypeId} {v : Value} {xs : List Value} (h : W.ownsRow B t sz v n xs) (hb : Below W.heap.size W W') : W'.ownsRow B t sz v n xs :=
  h.kept (row := none) ⟨hb.os, hb.tape, hb.output, hb.size, fun k hk _ => hb.block k hk⟩ (by cases hv : v.ownBlock <;> simp)
theorem names_next {l : List Tl} {k : Nat} (hk : k < l.length) : (l.take (k + 1)).map Tl.name = (l.take k).map Tl.name ++ [l[k].name] := by
  rw [List.take_succ_eq_append_getElem hk, List.map_append]
  rfl
set_option maxRecDepth 100000 in
set_option maxHeartbeats 8000000 in
theorem rcheck_c (s : Spc) (m : Sl) (w : World) (hp : SAt w m s) :
    Calls Try.prog 16 #[.agg (sV s m)] w fun e w' => e = .returned (.tuple #[.int .i64 (chk s).1, .int .i64 (chk s).2.1, .int .i64 (chk s).2.2]) ∧ Below w.heap.size w w' := by
  have hs0 := (Since.refl w).alloc (.cells (sV s m) 27)
  have HB0 := Lib.hid (Blk.new w 27 (sV s m))
  go_enter Try.func16, Try.ntmps16
  go_wp2_with fail
  refine (rplan_c s m _).mono ?_
  rintro e w1 ⟨rfl, hb1⟩
  have hs1 := hs0.keep hb1
  have HB1 := Lib.hid (HB0.out.keep hb1)
  clear hs0 HB0 hb1
  by_cases h1 : levE s = 0
  · rw [h1]
    have H1 := Lib.hid h1
    clear h1
    obtain ⟨c0, c1, c2, c3, c4, c5, c6, c7, c8⟩ := HB1.out.space
    by_cases h4 : 4 < s.blows.length
    · have HV : Hid (chk s = (2, 0, 3)) := by show _ = _; simp [chk, H1.out, blowsE, h4]
      have h4' : (4 : Int) < (s.blows.length : Int) := by omega
      clear h4
      go_wp2_with fail
      go_ret3
      exact ⟨by rw [HV.out]; rfl, hs1.1⟩
    · have h4n : s.blows.length ≤ 4 := by omega
      have h4' : ¬ (4 : Int) < (s.blows.length : Int) := by omega
      clear h4
      go_wp2_with fail
      clear c0 c1 c2 c3 c4 c5 c6 c7 c8 h4'
      go_loopw [5, 6] (fun _ i wr => ∃ k : Nat, k ≤ s.blows.length ∧ i = .int .i64 k ∧ Since w wr ∧ Hid (Blk wr w.heap.size 27 (sV s m)) ∧ Hid (∀ j, j < k → blowAt s.blows j = 0)) (fun _ i _ => s.blows.length - (intOf i).toNat)
      case atStart => exact ⟨0, Nat.zero_le _, rfl, hs1, HB1, fun j h => absurd h (by omega)⟩
      case round =>
        obtain ⟨k, hk, rfl, hsn, HB, H0⟩ := hrel
        by_cases hlt : k < s.blows.length
        · obtain ⟨ad, hA, b0, b1⟩ := hp.bl.get hlt
          have k0 := keep_cell hsn.1 b0
          have k1 := keep_cell hsn.1 b1
          have HA := Lib.hid hA
          clear hA
          have hki : (k : Int) < (s.blows.length : Int) := by omega
          obtain ⟨_, _, _, _, _, _, _, c7, _⟩ := HB.out.space
          rw [HA.out] at c7
          clear b0 b1
          go_wp2_with fail
          refine (range_c s.blows[k] 0 60 _).mono ?_
          rintro e w2 ⟨rfl, hb2⟩
          have hsn2 := hsn.keep hb2
          have HB2 := Lib.hid (HB.out.keep hb2)
          have k2 := keep_cell hb2 k0
          clear k0 k1 c7
          obtain ⟨_, _, _, _, _, _, _, c7, _⟩ := HB2.out.space
          rw [HA.out] at c7
          obtain ⟨E, hE⟩ : ∃ E, spr 0 60 [s.blows[k]] = E := ⟨_, rfl⟩
          rw [hE]
          by_cases h5 : E = 0
          · subst h5
            cases k with
            | zero =>
              have HF := Lib.hid (blow_first hlt hE)
              clear hE
              go_wp2_with fail
              go_quiet (fail)
              go_wp2_with fail
              go_roundw
              case rel =>
                refine ⟨1, by omega, by go_num, ⟨bdrew hsn2.1 _, hsn2.2⟩, HB2, fun j h => ?_⟩
                obtain rfl : j = 0 := by omega
                exact HF.out
              case measure => simp [intOf]; omega
            | succ j =>
              have HF := Lib.hid (blow_next hlt hE)
              clear hE
              obtain ⟨ad2, hA2, b2, b3⟩ := hp.bl.get (show j < s.blows.length by omega)
              rw [HA.out] at hA2
              obtain rfl : ad = ad2 := Option.some.inj hA2
              have k3 := keep_cell hsn2.1 b3
              have hj0 : (0 : Int) < ((j + 1 : Nat) : Int) := by omega
              have hj2 : (j : Int) < (s.blows.length : Int) := by omega
              have hw9 : IntKind.i64.wrap (((j + 1 : Nat) : Int) - 1) = (j : Int) := by rw [IntWalk.i64_in _ (by omega)]; omega
              push_cast at hj0 hw9 hki k2 ⊢
              clear b2 b3 hA2
              by_cases h6 : s.blows[j + 1].1 ≤ s.blows[j].2
              · have HV : Hid (chk s = (2, ((j + 1 : Nat) : Int), 2)) := by
                  show _ = _
                  have hh : blowAt s.blows (j + 1) = 2 := by rw [HF.out, if_pos h6]
                  rw [chk_blow H1.out h4n hlt H0.out (by rw [hh]; decide), hh]
                go_wp2_with fail
                go_quiet (fail)
                go_wp2_with fail
                go_ret3
                exact ⟨by rw [HV.out]; push_cast; rfl, bdrew hsn2.1 _⟩
              · have HN : Hid (blowAt s.blows (j + 1) = 0) := by show _ = _; rw [HF.out, if_neg h6]
                have h6' : ¬ s.blows[j + 1].1 ≤ s.blows[j].2 := h6
                go_wp2_with fail
                go_quiet (fail)
                go_wp2_with fail
                go_roundw
                case rel =>
                  refine ⟨j + 1 + 1, by omega, by first | go_num | (push_cast; rfl), ⟨bdrew hsn2.1 _, hsn2.2⟩, HB2, fun i h => ?_⟩
                  rcases Nat.lt_or_ge i (j + 1) with h7 | h7
                  · exact H0.out i h7
                  · obtain rfl : i = j + 1 := by omega
                    exact HN.out
                case measure => simp [intOf]; omega
          · have HV : Hid (chk s = (2, (k : Int), E)) := by
              show _ = _
              have hh := blow_bad hlt (by rw [hE]; exact h5)
              rw [hE] at hh
              rw [chk_blow H1.out h4n hlt H0.out (by rw [hh]; exact h5), hh]
            have h5' : ((E : Int) == 0) = false := by simpa using h5
            have h5n : ((E : Int) != 0) = true := by simpa using h5
            clear h5 hE
            go_wp2_with fail
            go_quiet (fail)
            go_wp2_with fail
            go_ret3
            exact ⟨by rw [HV.out]; rfl, bdrew hsn2.1 _⟩
        · obtain rfl : k = s.blows.length := by omega
          have H2 : Hid ((blowsE s.blows).2 = 0) := by show _ = _; unfold blowsE; rw [if_neg (by omega), ff_ok H0.out]
          clear H0
          obtain ⟨c0, c1, c2, c3, c4, c5, c6, c7, c8⟩ := HB.out.space
          go_wp2_with fail
          refine (rin_c 1 3 _ _).mono ?_
          rintro e w2 ⟨rfl, rfl⟩
          rcases Bool.eq_false_or_eq_true (wi 1 3 s.tools.length) with h3 | h3
          · rw [h3]
            have H3 := Lib.hid h3
            obtain ⟨t1, t3⟩ := wi_iff.1 h3
            clear h3
            go_wp2_with fail
            clear c0 c1 c2 c3 c4 c5 c6 c7 c8
            have hown0 : wr.ownsRow w.heap.size 9 1 (.slice none 0 0) ((s.tools.take 0).map Tl.name).length (((s.tools.take 0).map Tl.name).map Value.string) := ⟨rfl, .inl ⟨rfl, rfl⟩⟩
            have HO0 := Lib.hid hown0
            clear hown0
            go_loopw [5, 7, 8] (fun _ nv i wx => ∃ k : Nat, k ≤ s.tools.length ∧ i = .int .i64 k ∧ Since w wx ∧ Hid (Blk wx w.heap.size 27 (sV s m)) ∧ Hid (wx.ownsRow (w.heap.size + 1) 9 1 nv ((s.tools.take k).map Tl.name).length (((s.tools.take k).map Tl.name).map Value.string)) ∧ Hid (∀ j, j < k → toolAt s.tools j = 0)) (fun _ _ i _ => s.tools.length - (intOf i).toNat)
            case atStart => exact ⟨0, Nat.zero_le _, rfl, hsn, HB, ⟨rfl, .inl ⟨rfl, rfl⟩⟩, fun j h => absurd h (by omega)⟩
            case round =>
              obtain ⟨k, hk, rfl, hsk, HBk, HOk, HTk⟩ := hrel
              by_cases hkt : k < s.tools.length
              · obtain ⟨ad, hA, n0, n1⟩ := hp.tl.get hkt
                have HA := Lib.hid hA
                have k0 := keep_cell hsk.1 n0
                have HN1 := Lib.hid n1
                have hnm := hp.nm _ (List.getElem_mem hkt)
                have HNX := Lib.hid (names_next hkt)
                obtain ⟨NA, Nc, hnv, hst⟩ := own_st HOk.out
                have hki : (k : Int) < (s.tools.length : Int) := by omega
                have HF1 : Hid (freshE s.tools[k].name ((s.tools.take k).map Tl.name) ≠ 0 → toolAt s.tools k = freshE s.tools[k].name ((s.tools.take k).map Tl.name)) := fun h => tool_fresh hkt h
                have HF2 : Hid (freshE s.tools[k].name ((s.tools.take k).map Tl.name) = 0 → toolAt s.tools k = if wi 0 50 s.tools[k].err then 0 else 7) := fun h => tool_err hkt h
                obtain ⟨L, hL⟩ : ∃ L, (s.tools.take k).map Tl.name = L := ⟨_, rfl⟩
                have hLl : L.length ≤ 1000 := by rw [← hL]; simp; omega
                rw [hL] at HOk hnv hst HF1 HF2 HNX
                have hnv' := hnv
                subst hnv
                obtain ⟨_, _, _, _, _, _, _, _, c8⟩ := HBk.out.space
                rw [HA.out] at c8
                clear hA n0 n1 hL
                go_wp2_with fail
                refine (fresh_c NA L Nc s.tools[k].name _ hLl hnm hst).mono ?_
                rintro e w2 ⟨rfl, hb2⟩
                obtain ⟨E, hE⟩ : ∃ E, freshE s.tools[k].name L = E := ⟨_, rfl⟩
                rw [hE] at HF1 HF2 ⊢
                have hs2 := hsk.keep hb2
                have HB2 := Lib.hid (HBk.out.keep hb2)
                have HO2 := Lib.hid (own_keep HOk.out hb2)
                have k2 := keep_cell hb2 k0
                clear k0 c8 hst hE HOk HBk
                obtain ⟨_, _, _, _, _, _, _, _, c8⟩ := HB2.out.space
                rw [HA.out] at c8
                have hq3 : Below w2.heap.size w2 (w2.alloc (.cells #[.string s.tools[k].name] 9)) := (Below.refl _ _).alloc (Nat.le_refl _) _
                have HO3 := Lib.hid (own_keep HO2.out hq3)
                have HN3 := Lib.hid (Blk.new w2 9 #[.string s.tools[k].name])
                have hzb := HB2.out.lt
                have HLl := Lib.hid hLl
                clear hLl hnm
                go_wp2_with (at_builtin; refine wpList_append_str rfl (.tmp 77) (.tmp 84) rfl (w.heap.size + 1) w2.heap.size _ L s.tools[k].name (by go_simp) (by go_simp) HO3.out HN3.out HLl.out (by simp; omega) ?_)
                intro v3 w3 ho3 hg3
                have hlt3 := HO3.out.lt
                have HB4 := Lib.hid ((HB2.out.keep hq3).grown hg3 (fun h => by have := (hlt3 _ h.symm).1; omega))
                have hs4 : Since w w3 := ⟨(hs2.keep hq3).1.grown hg3 (hs2.keep hq3).2 (fun q h => by have := (hlt3 q h).1; omega), Nat.le_trans (hs2.keep hq3).2 hg3.size⟩
                have HO4 : Hid (w3.ownsRow (w.heap.size + 1) 9 1 v3 ((s.tools.take (k + 1)).map Tl.name).length (((s.tools.take (k + 1)).map Tl.name).map Value.string)) := by
                  show World.ownsRow _ _ _ _ _ _ _
                  rw [HNX.out]
                  rw [List.length_append, List.map_append]
                  exact ho3
                have k4 := keep_cell hs4.1 HN1.out
                clear c8 k2 ho3 hg3 hlt3 HO3 HN3 hq3
                obtain ⟨_, _, _, _, _, _, _, _, c8⟩ := HB4.out.space
                rw [HA.out] at c8
                by_cases h5 : E = 0
                · have HT := Lib.hid (HF2.out h5)
                  subst h5
                  go_wp2_with fail
                  refine (rin_c 0 50 s.tools[k].err _).mono ?_
                  rintro e w5 ⟨rfl, rfl⟩
                  clear c8 k4
                  rcases Bool.eq_false_or_eq_true (wi 0 50 s.tools[k].err) with h6 | h6
                  · have HT2 : Hid (toolAt s.tools k = 0) := by show _ = _; rw [HT.out, if_pos h6]
                    rw [h6]
                    clear h6
                    go_wp2_with fail
                    go_roundw
                    case rel =>
                      refine ⟨k + 1, by omega, by go_num, hs4, HB4, HO4, fun j h => ?_⟩
                      rcases Nat.lt_or_ge j k with h7 | h7
                      · exact HTk.out j h7
                      · obtain rfl : j = k := by omega
                        exact HT2.out
                    case measure => simp [intOf]; omega
                  · have HV : Hid (chk s = (3, (k : Int), 7)) := by
                      show _ = _
                      have hh : toolAt s.tools k = 7 := by rw [HT.out, if_neg (by rw [h6]; decide)]
                      rw [chk_tool H1.out H2.out H3.out hkt HTk.out (by rw [hh]; decide), hh]
                    rw [h6]
                    clear h6
                    go_wp2_with fail
                    go_ret3
                    exact ⟨by rw [HV.out]; rfl, hs4.1⟩
                · have HV : Hid (chk s = (3, (k : Int), E)) := by
                    show _ = _
                    rw [chk_tool H1.out H2.out H3.out hkt HTk.out (by rw [HF1.out h5]; exact h5), HF1.out h5]
                  have h5' : ((E : Int) == 0) = false := by simpa using h5
                  have h5n : ((E : Int) != 0) = true := by simpa using h5
                  clear h5
                  go_wp2_with fail
                  go_ret3
                  exact ⟨by rw [HV.out]; rfl, hs4.1⟩
              · have hkl : k = s.tools.length := by omega
                have HV : Hid (chk s = (0, 0, 0)) := by
                  show _ = _
                  have ht : toolsE s.tools = (0, 0) := by unfold toolsE; rw [if_pos H3.out, ff_ok (fun j h => HTk.out j (by omega))]
                  simp [chk, H1.out, H2.out, ht]
                obtain ⟨_, _, _, _, _, _, _, _, c8⟩ := HBk.out.space
                subst hkl
                go_wp2_with fail
                go_ret3
                exact ⟨by rw [HV.out]; rfl, hsk.1⟩
          · have HV : Hid (chk s = (3, 0, 3)) := by show _ = _; simp [chk, H1.out, H2.out, toolsE, h3]
            rw [h3]
            clear h3
            go_wp2_with fail
            go_ret3
            exact ⟨by rw [HV.out]; rfl, hsn.1⟩
  · have HV : Hid (chk s = (1, 0, levE s)) := by show _ = _; simp [chk, h1]
    have h1' : (levE s != 0) = true := by simpa using h1
    clear h1
    go_wp2_with fail
    go_ret3
    exact ⟨by rw [HV.out]; rfl, hs1.1⟩
end Td
end Go.Proofs.Ytccacinnelmnpaa
