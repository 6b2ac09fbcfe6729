import Derived.Test.YthdcklonamgpiaaBer
import Derived.Test.YthdcklonamgpiaaRefs0
/- The law package's turn, among, span of two numbers, and whether a hull stands. -/
namespace Go.Proofs.Ythdcklonamgpiaa
open Go.RowKit
namespace Td
set_option linter.unusedSimpArgs false
set_option linter.unusedVariables false
attribute [local go_sem] Oper.semAt_some
/-- numbers of 32 bits in a row. -/
def U32At (w : World) (A : Option Addr) (l : List Int) : Prop :=
  l ≠ [] → ∃ a, A = some a ∧ ∀ i p, l[i]? = some p → w.cell? (a.add i) = some (.int .u32 p)
theorem U32At.keep {w w' : World} {A : Option Addr} {l : List Int} (h : U32At w A l) (hb : Below w.heap.size w w') : U32At w' A l := fun hx =>
  let ⟨a, ha, hc⟩ := h hx; ⟨a, ha, fun i p hp => keep_cell hb (hc i p hp)⟩
theorem U32At.get {w : World} {A : Option Addr} {l : List Int} (h : U32At w A l) {k : Nat} (hk : k < l.length) : ∃ a, A = some a ∧ w.cell? (a.add k) = some (.int .u32 l[k]) := by
  obtain ⟨a, ha, hc⟩ := h (fun e => by simp [e] at hk)
  exact ⟨a, ha, hc k _ (List.getElem?_eq_getElem hk)⟩
def U32Ok (l : List Int) : Prop := ∀ j (h : j < l.length), 0 ≤ l[j] ∧ l[j] ≤ 4294967295
/-- the n-th number, by turns. -/
def turnV (l : List Int) (n : Nat) : Int := l[n % l.length]?.getD 0
theorem turnV_nil (n : Nat) : turnV [] n = 0 := by simp [turnV]
theorem turnV_at {l : List Int} {n : Nat} (h : n % l.length < l.length) : turnV l n = l[n % l.length] := by simp [turnV, List.getElem?_eq_getElem h]
theorem turnV_bd {l : List Int} (ho : U32Ok l) (n : Nat) : 0 ≤ turnV l n ∧ turnV l n ≤ 4294967295 := by
  rcases Nat.eq_zero_or_pos l.length with h | h
  · obtain rfl := List.eq_nil_of_length_eq_zero h
    rw [turnV_nil]; omega
  · have hm := Nat.mod_lt n h
    rw [turnV_at hm]
    exact ho _ hm
set_option maxRecDepth 100000 in
set_option maxHeartbeats 2000000 in
theorem turn_c (P : Option Addr) (l : List Int) (pc n : Nat) (w : World) (hn : n ≤ 1000000) (hp : U32At w P l) (ho : U32Ok l) :
    Calls Try.prog 43 #[.slice P l.length pc, .int .i64 n] w fun e w' => e = .returned (.int .i64 (turnV l n)) ∧ w = w' := by
  rcases Nat.eq_zero_or_pos l.length with h | h
  · obtain rfl := List.eq_nil_of_length_eq_zero h
    have HV := Lib.hid (turnV_nil n)
    go_enter Try.func43, Try.ntmps43
    go_wp2_with fail
    go_ret
    exact ⟨ret_int HV.out.symm, rfl⟩
  · have hm := Nat.mod_lt n h
    have HV := Lib.hid (turnV_at hm)
    obtain ⟨ad, hA, c0⟩ := hp.get hm
    subst hA
    obtain ⟨v, hv⟩ : ∃ v, l[n % l.length] = v := ⟨_, rfl⟩
    obtain ⟨v0, v1⟩ := ho _ hm
    rw [hv] at c0 HV v0 v1
    have ew : IntKind.i64.wrap v = v := IntWalk.i64_in _ (by omega)
    clear hv ho
    obtain ⟨L, hL⟩ : ∃ L, l.length = L := ⟨_, rfl⟩
    rw [hL] at h hm c0 ⊢
    have HL := Lib.hid hL
    clear hL hp
    have hz : ((L : Int) == 0) = false := by simp; omega
    have hz2 : (L == 0) = false := by simp; omega
    have hcast : ((n : Int) % (L : Int)) = ((n % L : Nat) : Int) := by omega
    have htm : ((n : Int).tmod (L : Int)) = ((n % L : Nat) : Int) := by rw [Int.tmod_eq_emod_of_nonneg (by omega)]; omega
    obtain ⟨m, hmm⟩ : ∃ m, n % L = m := ⟨_, rfl⟩
    rw [hmm] at hm c0 hcast htm
    have HM := Lib.hid hmm
    clear hmm
    go_enter Try.func43, Try.ntmps43
    go_wp2_with fail
    go_ret
    exact ⟨ret_int HV.out.symm, rfl⟩
def amongV (lo hi n : Int) : Int := lo + n % (hi - lo + 1)
theorem amongV_in {lo hi n : Int} (h : lo ≤ hi) : lo ≤ amongV lo hi n ∧ amongV lo hi n ≤ hi := by
  unfold amongV
  have := Int.emod_nonneg n (show hi - lo + 1 ≠ 0 by omega)
  have := Int.emod_lt_of_pos n (show 0 < hi - lo + 1 by omega)
  omega
set_option maxRecDepth 100000 in
set_option maxHeartbeats 2000000 in
theorem among_c (lo hi n : Int) (w : World) (h : lo ≤ hi) (h0 : -10000000 ≤ lo) (h1 : hi ≤ 10000000) (n0 : 0 ≤ n) (n1 : n ≤ 4294967295) :
    Calls Try.prog 38 #[.agg #[.int .i64 lo, .int .i64 hi], .int .i64 n] w fun e w' => e = .returned (.int .i64 (amongV lo hi n)) ∧ Below w.heap.size w w' := by
  have hin := amongV_in (n := n) h
  have HV : Hid (lo + n % (hi - lo + 1) = amongV lo hi n) := by rfl
  have e1 : IntKind.i64.wrap (hi - lo) = hi - lo := IntWalk.i64_in _ (by omega)
  have e2 : IntKind.i64.wrap (hi - lo + 1) = hi - lo + 1 := IntWalk.i64_in _ (by omega)
  have e4 : n.tmod (hi - lo + 1) = n % (hi - lo + 1) := Int.tmod_eq_emod_of_nonneg n0
  have e3 : IntKind.i64.wrap (lo + n % (hi - lo + 1)) = lo + n % (hi - lo + 1) := IntWalk.i64_in _ (by rw [HV.out]; omega)
  have hne : ((hi - lo + 1) == 0) = false := by simp; omega
  have hne2 : hi - lo + 1 ≠ 0 := by omega
  have e5 : IntKind.i64.wrap (n % (hi - lo + 1)) = n % (hi - lo + 1) := IntWalk.i64_in _ (by
    have := Int.emod_nonneg n (show hi - lo + 1 ≠ 0 by omega)
    have := Int.emod_lt_of_pos n (show 0 < hi - lo + 1 by omega)
    omega)
  obtain ⟨hi0, hi1⟩ := hin
  go_enter Try.func38, Try.ntmps38
  go_wp2_with fail
  go_quiet (fail)
  go_wp2_with fail
  go_ret
  exact ⟨ret_int HV.out, bdrew ((Below.refl _ _).alloc (Nat.le_refl _) _) _⟩
/-- whether a hull stands, as Forces and Bears say. -/
def standsV (h : Hul) (gs ls : List Int) (wt : Int) : Bool := (forcesA h gs ls wt).2 == 0 && ((bearsA h gs ls wt (forcesA h gs ls wt).1).2 == 0 && (bearsA h gs ls wt (forcesA h gs ls wt).1).1)
theorem forces_len (h : Hul) (gs ls : List Int) (wt : Int) : (forcesA h gs ls wt).1.length ≤ 9223372036854775807 := by
  unfold forcesA
  split
  · simp
  · split
    · simp
    · simp
set_option maxRecDepth 100000 in
set_option maxHeartbeats 4000000 in
theorem stands_c (h : Hul) (m : Sl) (GA : Option Addr) (gs : List Int) (gc : Nat) (LA : Option Addr) (ls : List Int) (lc : Nat) (wt : Int) (w : World) (hp : HAt w m h) (hG : InAt w GA gs) (hL : InAt w LA ls) :
    Calls Try.prog 36 #[.agg (hV h m), .agg (tV GA gs.length gc LA ls.length lc), .int .i64 wt] w fun e w' => e = .returned (.bool (standsV h gs ls wt)) ∧ Below w.heap.size w w' := by
  have HP := Lib.hid hp
  have HG := Lib.hid hG
  have HL := Lib.hid hL
  have hs := ((Since.refl w).alloc (.cells (hV h m) 24)).alloc (.cells (tV GA gs.length gc LA ls.length lc) 27)
  have HB := Lib.hid ((Blk.new w 24 (hV h m)).alloc (.cells (tV GA gs.length gc LA ls.length lc) 27))
  have HX := Lib.hid (Blk.new1 w (.cells (hV h m) 24) 27 (tV GA gs.length gc LA ls.length lc))
  have HV : Hid (standsV h gs ls wt = ((forcesA h gs ls wt).2 == 0 && ((bearsA h gs ls wt (forcesA h gs ls wt).1).2 == 0 && (bearsA h gs ls wt (forcesA h gs ls wt).1).1))) := by rfl
  have hfl := forces_len h gs ls wt
  clear hp hG hL
  obtain ⟨c0, c1, c2⟩ := HB.out.hull
  have x0 := HX.out.cell 0
  have x1 := HX.out.cell 1
  simp only [List.getElem?_toArray, List.getElem?_cons_zero, List.getElem?_cons_succ] at x0 x1
  go_enter Try.func36, Try.ntmps36
  go_wp2_with fail
  refine (Forces_c h m GA gs gc LA ls lc wt _ (HP.out.keep hs.1) (HG.out.keep hs.1) (HL.out.keep hs.1)).mono ?_
  rintro e w1 ⟨⟨v, rfl, A, c, rfl, hf, -⟩, hb⟩
  replace hs := hs.keep hb
  replace HB := Lib.hid (HB.out.keep hb)
  replace HX := Lib.hid (HX.out.keep hb)
  clear hb c0 c1 c2 x0 x1
  obtain ⟨F, hF⟩ : ∃ F, forcesA h gs ls wt = F := ⟨_, rfl⟩
  rw [hF] at HV hf hfl ⊢
  obtain ⟨fl, fe⟩ := F
  obtain ⟨Bv, hB⟩ : ∃ Bv, bearsA h gs ls wt fl = Bv := ⟨_, rfl⟩
  obtain ⟨c0, c1, c2⟩ := HB.out.hull
  have x0 := HX.out.cell 0
  have x1 := HX.out.cell 1
  simp only [List.getElem?_toArray, List.getElem?_cons_zero, List.getElem?_cons_succ] at x0 x1
  replace hf : FoAt w1 A fl := hf
  replace hfl : fl.length ≤ 9223372036854775807 := hfl
  replace HV : Hid (standsV h gs ls wt = (fe == 0 && ((bearsA h gs ls wt fl).2 == 0 && (bearsA h gs ls wt fl).1))) := HV
  rw [hB] at HV
  have HBe := Lib.hid hB
  clear hF hB
  by_cases hz : fe = 0
  · subst hz
    have HF := Lib.hid hf
    have HFL := Lib.hid hfl
    clear hf hfl
    go_wp2_with fail
    refine (Bears_c h m GA gs gc LA ls lc wt A fl c _ (HP.out.keep hs.1) (HG.out.keep hs.1) (HL.out.keep hs.1) HF.out HFL.out).mono ?_
    rintro e w2 ⟨rfl, hb⟩
    rw [HBe.out]
    replace hs := hs.keep hb
    clear hb c0 c1 c2 x0 x1 HB HX HF
    obtain ⟨b1, b2⟩ := Bv
    by_cases h2 : b2 = 0
    · subst h2
      replace HV : Hid (standsV h gs ls wt = b1) := HV
      go_wp2_with fail
      go_ret
      exact ⟨ret_bool HV.out.symm, hs.1⟩
    · have h2' : (b2 == 0) = false := by simpa using h2
      replace HV : Hid (standsV h gs ls wt = false) := by show _ = _; rw [HV.out]; simp [h2]
      go_wp2_with fail
      go_ret
      exact ⟨ret_bool HV.out.symm, hs.1⟩
  · have hz' : (fe != 0) = true := by simpa using hz
    replace HV : Hid (standsV h gs ls wt = false) := by show _ = _; rw [HV.out]; simp [hz]
    clear hz
    go_wp2_with fail
    go_ret
    exact ⟨ret_bool HV.out.symm, hs.1⟩
end Td
end Go.Proofs.Ythdcklonamgpiaa
