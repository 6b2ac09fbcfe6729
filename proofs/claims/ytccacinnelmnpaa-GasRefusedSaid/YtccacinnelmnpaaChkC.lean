import Derived.Test.YtccacinnelmnpaaChkB
/- The errors of instruments, of readings, and Check. -/
namespace Go.Proofs.Ytccacinnelmnpaa
open Go.RowKit
namespace Td
set_option linter.unusedSimpArgs false
set_option linter.unusedVariables false
attribute [local go_sem] Oper.semAt_some
theorem Blk.tool {w : World} {g : Nat} {t : TypeId} {a : ByteArray} {b : Int} (h : Blk w g t #[.string a, .int .i64 b]) : w.cell? ⟨g, 0, none⟩ = some (.string a) ∧ w.cell? ⟨g, 1, none⟩ = some (.int .i64 b) := ⟨h.cell 0, h.cell 1⟩
theorem same1_c (u : Tl) (nm : ByteArray) (er : Int) (g : Nat) (w : World) (hg : Blk w g 65 #[.string nm, .int .i64 er]) :
    Calls Try.prog 74 #[.agg #[.string u.name, .int .i64 u.err], .pointer (some ⟨g, 0, none⟩)] w fun e w' => e = .returned (.bool (eqS u.name nm)) ∧ Below w.heap.size w w' := by
  have hs0 := (Since.refl w).alloc (.cells #[.string u.name, .int .i64 u.err] 65)
  obtain ⟨c0, c1⟩ := (hg.alloc (.cells #[.string u.name, .int .i64 u.err] 65)).tool
  go_enter Try.func74, Try.ntmps74
  go_wp2_with fail
  go_ret
  exact ⟨rfl, hs0.1⟩
def idxT (l : List Tl) (nm : ByteArray) : Int := match l.findIdx? (fun u => eqS u.name nm) with | some i => i | none => -1
theorem idxT_at {l : List Tl} {nm : ByteArray} {k : Nat} (hk : k < l.length) (h0 : ∀ j (h : j < l.length), j < k → eqS l[j].name nm = false) (h1 : eqS l[k].name nm = true) : idxT l nm = k := by
  have : l.findIdx? (fun u => eqS u.name nm) = some k := by
    rw [List.findIdx?_eq_some_iff_getElem]
    exact ⟨hk, h1, fun j hj => by simp [h0 j (by omega) hj]⟩
  simp [idxT, this]
theorem idxT_none {l : List Tl} {nm : ByteArray} (h0 : ∀ j (h : j < l.length), j < l.length → eqS l[j].name nm = false) : idxT l nm = -1 := by
  have : l.findIdx? (fun u => eqS u.name nm) = none := by
    rw [List.findIdx?_eq_none_iff]
    intro x hx
    obtain ⟨j, hj, rfl⟩ := List.mem_iff_getElem.1 hx
    exact h0 j hj hj
  simp [idxT, this]
theorem idxT_any (l : List Tl) (nm : ByteArray) : decide (0 ≤ idxT l nm) = l.any (fun u => eqS u.name nm) := by
  unfold idxT
  cases h : l.findIdx? (fun u => eqS u.name nm) with
  | none =>
    rw [List.findIdx?_eq_none_iff] at h
    symm
    simpa using h
  | some i =>
    rw [List.findIdx?_eq_some_iff_getElem] at h
    obtain ⟨hi, h1, _⟩ := h
    simp
    exact ⟨l[i], List.getElem_mem _, h1⟩
set_option maxHeartbeats 1000000 in
theorem indexFunc_c (A : Option Addr) (l : List Tl) (c : Nat) (nm : ByteArray) (er : Int) (g : Nat) (w : World) (hl : l.length ≤ 9223372036854775807) (hp : TlAt w A l) (hg : Blk w g 65 #[.string nm, .int .i64 er]) :
    Calls Try.prog 89 #[.slice A l.length c, .func (.func 74) #[] #[.pointer (some ⟨g, 0, none⟩)]] w fun e w' => e = .returned (.int .i64 (idxT l nm)) ∧ Below w.heap.size w w' := by
  go_enter Try.func89, Try.ntmps89
  go_wp2_with fail
  go_loopw [8] (fun i wr => ∃ k : Nat, k ≤ l.length ∧ i = .int .i64 k ∧ Since w wr ∧ Hid (∀ j (h : j < l.length), j < k → eqS l[j].name nm = false)) (fun i _ => l.length - (intOf i).toNat)
  case atStart => exact ⟨0, Nat.zero_le _, rfl, Since.refl _, fun j _ h => absurd h (by omega)⟩
  case round =>
    obtain ⟨k, hk, rfl, hsn, H0⟩ := hrel
    by_cases hlt : k < l.length
    · obtain ⟨ad, hA, c0, c1⟩ := hp.get hlt
      subst hA
      have k0 := keep_cell hsn.1 c0
      have k1 := keep_cell hsn.1 c1
      clear c0 c1
      go_wp2_with fail
      refine (same1_c l[k] nm er g _ (hg.keep hsn.1)).mono ?_
      rintro e w' ⟨rfl, hb⟩
      have hsn2 := hsn.keep hb
      rcases Bool.eq_false_or_eq_true (eqS l[k].name nm) with he | he
      · have HV := Lib.hid (idxT_at hlt H0.out he)
        rw [he]
        clear he k0 k1
        go_wp2_with fail
        go_ret
        exact ⟨ret_int HV.out.symm, hsn2.1⟩
      · have HE := Lib.hid he
        rw [he]
        clear he k0 k1
        go_wp2_with fail
        go_roundw
        case rel =>
          refine ⟨k + 1, by omega, by go_num, hsn2, fun j h hj => ?_⟩
          rcases Nat.lt_or_ge j k with h1 | h1
          · exact H0.out j h h1
          · obtain rfl : j = k := by omega
            exact HE.out
        case measure => simp [intOf]; omega
    · have HV := Lib.hid (idxT_none (l := l) (nm := nm) (by obtain rfl : k = l.length := by omega
                                                            exact H0.out))
      go_wp2_with fail
      go_ret
      exact ⟨ret_int HV.out.symm, hsn.1⟩
theorem containsFunc_c (A : Option Addr) (l : List Tl) (c : Nat) (nm : ByteArray) (er : Int) (g : Nat) (w : World) (hl : l.length ≤ 9223372036854775807) (hp : TlAt w A l) (hg : Blk w g 65 #[.string nm, .int .i64 er]) :
    Calls Try.prog 73 #[.slice A l.length c, .func (.func 74) #[] #[.pointer (some ⟨g, 0, none⟩)]] w fun e w' => e = .returned (.bool (l.any fun u => eqS u.name nm)) ∧ Below w.heap.size w w' := by
  go_enter Try.func73, Try.ntmps73
  go_wp2_with fail
  refine (indexFunc_c A l c nm er g _ hl hp hg).mono ?_
  rintro e w' ⟨rfl, hb⟩
  go_wp2_with fail
  go_ret
  exact ⟨ret_bool (idxT_any l nm), hb⟩
set_option maxHeartbeats 1000000 in
theorem tool1_c (ad : Addr) (l : List Tl) (k c : Nat) (w : World) (hk : k < l.length) (hl : l.length ≤ 1000) (hp : TlAt w (some ad) l) (hn : l[k].name.size ≤ maxLen) :
    Calls Try.prog 71 #[.agg #[.string l[k].name, .int .i64 l[k].err], .slice (some ad) k c] w fun e w' => e = .returned (.int .i64 (toolE l[k] (l.take k))) ∧ Below w.heap.size w w' := by
  obtain ⟨E, hE⟩ : ∃ E, toolE l[k] (l.take k) = E := ⟨_, rfl⟩
  rw [hE]
  unfold toolE at hE
  have hs0 := (Since.refl w).alloc (.cells #[.string l[k].name, .int .i64 l[k].err] 65)
  have HB0 := Lib.hid (Blk.new w 65 #[.string l[k].name, .int .i64 l[k].err])
  go_enter Try.func71, Try.ntmps71
  go_wp2_with fail
  refine (name_c _ _ hn).mono ?_
  rintro e w1 ⟨rfl, rfl⟩
  rcases Bool.eq_false_or_eq_true (isName l[k].name) with h1 | h1
  · rw [if_pos h1] at hE
    rw [h1]
    clear h1
    go_wp2_with fail
    have hlk : (l.take k).length = k := by rw [List.length_take]; omega
    have hcf := containsFunc_c (some ad) (l.take k) c l[k].name l[k].err w.heap.size (w.alloc (.cells #[.string l[k].name, .int .i64 l[k].err] 65)) (by omega) ((hp.keep hs0.1).take k) HB0.out
    rw [hlk] at hcf
    refine hcf.mono ?_
    clear hcf
    rintro e w2 ⟨rfl, hb2⟩
    have hs2 := hs0.keep hb2
    have HB2 := Lib.hid (HB0.out.keep hb2)
    rcases Bool.eq_false_or_eq_true ((l.take k).any fun u => eqS u.name l[k].name) with h2 | h2
    · rw [if_pos h2] at hE
      rw [h2]
      clear h2
      go_wp2_with fail
      go_ret
      exact ⟨ret_int hE, hs2.1⟩
    · rw [if_neg (by rw [h2]; decide)] at hE
      rw [h2]
      clear h2
      obtain ⟨c0, c1⟩ := HB2.out.tool
      go_wp2_with fail
      refine (within_c _ _ _ _ _ _ (Blk.new _ _ _)).mono ?_
      rintro e w3 ⟨rfl, hb3⟩
      have hs3 := (hs2.alloc _).keep hb3
      clear c0 c1
      rcases Bool.eq_false_or_eq_true (wi 0 50 l[k].err) with h3 | h3
      · rw [if_pos h3] at hE
        rw [h3]
        go_wp2_with fail
        go_ret
        exact ⟨ret_int hE, hs3.1⟩
      · rw [if_neg (by rw [h3]; decide)] at hE
        rw [h3]
        go_wp2_with fail
        go_ret
        exact ⟨ret_int hE, hs3.1⟩
  · rw [if_neg (by rw [h1]; decide)] at hE
    rw [h1]
    go_wp2_with fail
    go_ret
    exact ⟨ret_int hE, hs0.1⟩
set_option maxHeartbeats 1000000 in
theorem toolsFault_c (A : Option Addr) (l : List Tl) (c : Nat) (w : World) (hc : l.length ≤ c) (hcM : c ≤ 9223372036854775807) (hp : TlAt w A l) (hn : ∀ t ∈ l, t.name.size ≤ maxLen) :
    Calls Try.prog 43 #[.slice A l.length c] w fun e w' => e = .returned (.tuple #[.int .i64 (toolsE l).1, .int .i64 (toolsE l).2]) ∧ Below w.heap.size w w' := by
  obtain ⟨E, hE⟩ : ∃ E, toolsE l = E := ⟨_, rfl⟩
  rw [hE]
  unfold toolsE at hE
  have hs0 := (Since.refl w).alloc (.cells #[.int .i64 (l.length : Int)] 3)
  go_enter Try.func43, Try.ntmps43
  go_wp2_with fail
  refine (within_c _ _ _ _ _ _ (Blk.new _ _ _)).mono ?_
  rintro e w1 ⟨rfl, hb1⟩
  have hs1 := hs0.keep hb1
  rcases Bool.eq_false_or_eq_true (wi 1 3 l.length) with h1 | h1
  · have h3 : l.length ≤ 3 := by have := wi_iff.1 h1; omega
    rw [if_pos h1] at hE
    rw [h1]
    clear h1
    go_wp2_with fail
    refine (ff_tool_c A l c _ #[] (toolAt l) _ hc hcM (hp.keep hs1.1) (enters_of Try.func71 (by kernel_rfl) rfl) ?_).mono ?_
    · rintro k hk ad hA W hW
      rw [show toolAt l k = toolE l[k] (l.take k) from by simp [toolAt, List.getElem?_eq_getElem hk]]
      subst hA
      exact tool1_c ad l k c W hk (by omega) ((hp.keep hs1.1).keep hW) (hn _ (List.getElem_mem hk))
    rintro e w' ⟨rfl, hb⟩
    rw [hE]
    go_wp2_with fail
    go_ret2
    exact ⟨rfl, (hs1.keep hb).1⟩
  · rw [if_neg (by rw [h1]; decide)] at hE
    subst hE
    rw [h1]
    go_wp2_with fail
    go_ret2
    exact ⟨rfl, hs1.1⟩
set_option maxHeartbeats 1000000 in
theorem readingFault_c (s : Spc) (m : Sl) (r : Rd) (w : World) (hl : s.tools.length ≤ 1000) :
    Calls Try.prog 59 #[.agg (sV s m), .agg (rV r)] w fun e w' => e = .returned (.int .i64 (rdE s.tools.length r)) ∧ Below w.heap.size w w' := by
  obtain ⟨E, hE⟩ : ∃ E, rdE s.tools.length r = E := ⟨_, rfl⟩
  rw [hE]
  unfold rdE at hE
  have hs0 := ((Since.refl w).alloc (.cells (sV s m) 27)).alloc (.cells (rV r) 61)
  have HB0 := Lib.hid (Blk.new1 w (.cells (sV s m) 27) 61 (rV r))
  have hw : IntKind.i64.wrap ((s.tools.length : Int) - 1) = (s.tools.length : Int) - 1 := IntWalk.i64_in _ (by omega)
  go_enter Try.func59, Try.ntmps59
  go_wp2_with fail
  refine (within_c _ _ _ _ _ _ (Blk.new2 _ _ _ _ _)).mono ?_
  rintro e w1 ⟨rfl, hb1⟩
  have hs1 := (hs0.alloc _).keep hb1
  have HB1 := Lib.hid ((HB0.out.alloc _).keep hb1)
  rcases Bool.eq_false_or_eq_true (wi 0 ((s.tools.length : Int) - 1) r.tool) with h1 | h1
  · rw [if_pos h1] at hE
    rw [h1]
    clear h1
    have c0 := HB1.out.cell 0
    have c1 := HB1.out.cell 1
    have c2 := HB1.out.cell 2
    simp only [List.getElem?_toArray, List.getElem?_cons_zero, List.getElem?_cons_succ] at c0 c1 c2
    go_wp2_with fail
    refine (within_c _ _ _ _ _ _ (Blk.new _ _ _)).mono ?_
    rintro e w2 ⟨rfl, hb2⟩
    have hs2 := (hs1.alloc _).keep hb2
    have HB2 := Lib.hid ((HB1.out.alloc _).keep hb2)
    clear c0 c1 c2
    rcases Bool.eq_false_or_eq_true (wi 0 60 r.min) with h2 | h2
    · rw [h2] at hE ⊢
      rw [Bool.true_and] at hE
      clear h2
      have c0 := HB2.out.cell 0
      have c1 := HB2.out.cell 1
      have c2 := HB2.out.cell 2
      simp only [List.getElem?_toArray, List.getElem?_cons_zero, List.getElem?_cons_succ] at c0 c1 c2
      go_wp2_with fail
      refine (within_c _ _ _ _ _ _ (Blk.new _ _ _)).mono ?_
      rintro e w3 ⟨rfl, hb3⟩
      have hs3 := (hs2.alloc _).keep hb3
      clear c0 c1 c2
      rcases Bool.eq_false_or_eq_true (wi (-50) 250 r.shown) with h3 | h3
      · rw [if_pos h3] at hE
        rw [h3]
        go_wp2_with fail
        go_ret
        exact ⟨ret_int hE, hs3.1⟩
      · rw [if_neg (by rw [h3]; decide)] at hE
        rw [h3]
        go_wp2_with fail
        go_ret
        exact ⟨ret_int hE, hs3.1⟩
    · rw [h2] at hE ⊢
      rw [Bool.false_and, if_neg (by decide)] at hE
      go_wp2_with fail
      go_ret
      exact ⟨ret_int hE, hs2.1⟩
  · rw [if_neg (by rw [h1]; decide)] at hE
    rw [h1]
    go_wp2_with fail
    go_ret
    exact ⟨ret_int hE, hs1.1⟩
theorem read1_c (s : Spc) (m : Sl) (r : Rd) (A : Option Addr) (k c g : Nat) (w : World) (hl : s.tools.length ≤ 1000) (hg : Blk w g 27 (sV s m)) :
    Calls Try.prog 92 #[.agg (rV r), .slice A k c, .pointer (some ⟨g, 0, none⟩)] w fun e w' => e = .returned (.int .i64 (rdE s.tools.length r)) ∧ Below w.heap.size w w' := by
  have hs0 := (Since.refl w).alloc (.cells (rV r) 61)
  obtain ⟨c0, c1, c2, c3, c4, c5, c6, c7, c8⟩ := (hg.alloc (.cells (rV r) 61)).space
  go_enter Try.func92, Try.ntmps92
  go_wp2_with fail
  refine (readingFault_c s m r _ hl).mono ?_
  rintro e w1 ⟨rfl, hb1⟩
  clear c0 c1 c2 c3 c4 c5 c6 c7 c8
  go_wp2_with fail
  go_ret
  exact ⟨rfl, (hs0.keep hb1).1⟩
set_option maxHeartbeats 1000000 in
theorem readingsFault_c (s : Spc) (m : Sl) (A : Option Addr) (l : List Rd) (c : Nat) (w : World) (ht : s.tools.length ≤ 1000) (hc : l.length ≤ c) (hcM : c ≤ 9223372036854775807) (hp : RdAt w A l) :
    Calls Try.prog 78 #[.agg (sV s m), .slice A l.length c] w fun e w' => e = .returned (.int .i64 (rdsE s.tools.length l)) ∧ Below w.heap.size w w' := by
  obtain ⟨E, hE⟩ : ∃ E, rdsE s.tools.length l = E := ⟨_, rfl⟩
  rw [hE]
  unfold rdsE at hE
  have hs0 := (Since.refl w).alloc (.cells (sV s m) 27)
  have HB0 := Lib.hid (Blk.new w 27 (sV s m))
  have hlM : (l.length : Int) ≤ 9223372036854775807 := by omega
  by_cases h1 : 12 < l.length
  · rw [if_pos h1] at hE
    have h1' : (12 : Int) < (l.length : Int) := by omega
    go_enter Try.func78, Try.ntmps78
    go_wp2_with fail
    go_ret
    exact ⟨ret_int hE, hs0.1⟩
  · rw [if_neg h1] at hE
    have h2 : l.length ≤ 12 := by omega
    clear h1
    go_enter Try.func78, Try.ntmps78
    go_wp2_with fail
    refine (ff_read_c A l c _ #[.pointer (some ⟨w.heap.size, 0, none⟩)] (rdAt s.tools.length l) _ hc hcM (hp.keep hs0.1) (enters_of Try.func92 (by kernel_rfl) rfl) ?_).mono ?_
    · rintro k hk ad hA W hW
      rw [show rdAt s.tools.length l k = rdE s.tools.length l[k] from by simp [rdAt, List.getElem?_eq_getElem hk]]
      subst hA
      exact read1_c s m l[k] (some ad) k c w.heap.size W ht (HB0.out.keep hW)
    rintro e w' ⟨rfl, hb⟩
    rw [hE]
    go_wp2_with fail
    go_ret
    exact ⟨rfl, (hs0.keep hb).1⟩
set_option maxHeartbeats 1000000 in
theorem check_c (s : Spc) (m : Sl) (w : World) (hp : SAt w m s) :
    Calls Try.prog 15 #[.agg (sV s m)] w fun e w' => e = .returned (.tuple #[.int .i64 (chk s).1, .int .i64 (chk s).2.1, .int .i64 (chk s).2.2]) ∧ Below w.heap.size w w' := by
  have hs0 := (Since.refl w).alloc (.cells (sV s m) 27)
  have HB0 := Lib.hid (Blk.new w 27 (sV s m))
  go_enter Try.func15, Try.ntmps15
  go_wp2_with fail
  refine (levelsFault_c s m _).mono ?_
  rintro e w1 ⟨rfl, hb1⟩
  have hs1 := hs0.keep hb1
  have HB1 := Lib.hid (HB0.out.keep hb1)
  by_cases h1 : levE s = 0
  · rw [h1]
    obtain ⟨c0, c1, c2, c3, c4, c5, c6, c7, c8⟩ := HB1.out.space
    go_wp2_with fail
    refine (blowsFault_c m.A s.blows m.c _ hp.bc hp.cM (hp.bl.keep hs1.1)).mono ?_
    rintro e w2 ⟨rfl, hb2⟩
    have hs2 := hs1.keep hb2
    have HB2 := Lib.hid (HB1.out.keep hb2)
    clear c0 c1 c2 c3 c4 c5 c6 c7 c8
    by_cases h2 : (blowsE s.blows).2 = 0
    · rw [h2]
      obtain ⟨c0, c1, c2, c3, c4, c5, c6, c7, c8⟩ := HB2.out.space
      go_wp2_with fail
      refine (toolsFault_c m.T s.tools m.d _ hp.tc hp.dM (hp.tl.keep hs2.1) hp.nm).mono ?_
      rintro e w3 ⟨rfl, hb3⟩
      have hs3 := hs2.keep hb3
      clear c0 c1 c2 c3 c4 c5 c6 c7 c8
      by_cases h3 : (toolsE s.tools).2 = 0
      · have HV : Hid (chk s = (0, 0, 0)) := by show _ = _; simp [chk, h1, h2, h3]
        rw [h3]
        go_wp2_with fail
        go_ret3
        exact ⟨by rw [HV.out]; rfl, hs3.1⟩
      · have HV : Hid (chk s = (3, (toolsE s.tools).1, (toolsE s.tools).2)) := by show _ = _; simp [chk, h1, h2, h3]
        have h3' : ((toolsE s.tools).2 != 0) = true := by simpa using h3
        clear h3
        go_wp2_with fail
        go_ret3
        exact ⟨by rw [HV.out]; rfl, hs3.1⟩
    · have HV : Hid (chk s = (2, (blowsE s.blows).1, (blowsE s.blows).2)) := by show _ = _; simp [chk, h1, h2]
      have h2' : ((blowsE s.blows).2 != 0) = true := by simpa using h2
      clear h2
      go_wp2_with fail
      go_ret3
      exact ⟨by rw [HV.out]; rfl, hs2.1⟩
  · have HV : Hid (chk s = (1, 0, levE s)) := by show _ = _; simp [chk, h1]
    have h1' : (levE s != 0) = true := by simpa using h1
    clear h1
    go_wp2_with fail
    go_ret3
    exact ⟨by rw [HV.out]; rfl, hs1.1⟩
end Td
end Go.Proofs.Ytccacinnelmnpaa
