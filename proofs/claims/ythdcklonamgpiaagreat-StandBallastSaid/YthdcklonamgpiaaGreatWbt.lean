import Derived.Test.YthdcklonamgpiaaGreatRwh
import Derived.Test.YthdcklonamgpiaaGreatAwk
/- The law StandBallast: what it returns. -/
namespace Go.Proofs.YthdcklonamgpiaaGreat
open Go.RowKit
namespace Td
set_option linter.unusedSimpArgs false
set_option linter.unusedVariables false
attribute [local go_sem] Oper.semAt_some
def tLo (a0 : Nat) : Int := (a0 : Int) % 1001
def tHi (a0 a1 : Nat) : Int := tLo a0 + (a1 : Int) % (1000 - tLo a0 + 1)
theorem tide_in (a0 a1 : Nat) : 0 ≤ tLo a0 ∧ tLo a0 ≤ tHi a0 a1 ∧ tHi a0 a1 ≤ 1000 := by
  have h0 : 0 ≤ tLo a0 := Int.emod_nonneg _ (by decide)
  have h1 : tLo a0 < 1001 := Int.emod_lt_of_pos _ (by decide)
  have h2 := Int.emod_nonneg (a1 : Int) (show 1000 - tLo a0 + 1 ≠ 0 by omega)
  have h3 := Int.emod_lt_of_pos (a1 : Int) (show 0 < 1000 - tLo a0 + 1 by omega)
  unfold tHi
  omega
set_option maxRecDepth 100000 in
set_option maxHeartbeats 4000000 in
theorem lawtide_c (a0 a1 : Nat) (w : World) (b0 : a0 ≤ 65535) (b1 : a1 ≤ 65535) :
    Calls Tryz.prog 13 #[.agg #[.int .u16 a0, .int .u16 a1]] w fun e w' => e = .returned (.agg #[.int .i64 (tLo a0), .int .i64 (tHi a0 a1)]) ∧ Below w.heap.size w w' := by
  obtain ⟨i0, i1, i2⟩ := tide_in a0 a1
  have hs := ((Since.refl w).alloc (.cells #[.int .u16 a0, .int .u16 a1] 41)).alloc (.cells #[.int .i64 0, .int .i64 0] 26)
  have HX := Lib.hid ((Blk.new w 41 #[.int .u16 a0, .int .u16 a1]).alloc (.cells #[.int .i64 0, .int .i64 0] 26))
  have HS := Lib.hid (Blk.new1 w (.cells #[.int .u16 a0, .int .u16 a1] 41) 26 #[.int .i64 0, .int .i64 0])
  obtain ⟨L, hL⟩ : ∃ L, tLo a0 = L := ⟨_, rfl⟩
  obtain ⟨D, hD⟩ : ∃ D, (a1 : Int) % (1000 - L + 1) = D := ⟨_, rfl⟩
  have hH : tHi a0 a1 = L + D := by unfold tHi; rw [hL, hD]
  rw [hL] at i0 i1 ⊢
  rw [hH] at i1 i2 ⊢
  have eA : IntKind.i64.wrap (a0 : Int) = a0 := IntWalk.i64_in _ (by omega)
  have eB : IntKind.i64.wrap (a1 : Int) = a1 := IntWalk.i64_in _ (by omega)
  have eR : (a0 : Int).tmod 1001 = L := by rw [Int.tmod_eq_emod_of_nonneg (by omega)]; exact hL
  have d0 : 0 ≤ D := by rw [← hD]; exact Int.emod_nonneg _ (by omega)
  have eL : IntKind.i64.wrap L = L := IntWalk.i64_in _ (by omega)
  have eS : IntKind.i64.wrap (1000 - L) = 1000 - L := IntWalk.i64_in _ (by omega)
  have eT : IntKind.i64.wrap (1000 - L + 1) = 1000 - L + 1 := IntWalk.i64_in _ (by omega)
  have eQ : (a1 : Int).tmod (1000 - L + 1) = D := by rw [Int.tmod_eq_emod_of_nonneg (by omega)]; exact hD
  have eD : IntKind.i64.wrap D = D := IntWalk.i64_in _ (by omega)
  have eU : IntKind.i64.wrap (L + D) = L + D := IntWalk.i64_in _ (by omega)
  have n3 : ((1000 - L + 1) == 0) = false := by simp; omega
  have n4 : 1000 - L + 1 ≠ 0 := by omega
  have x0 := HX.out.cell 0
  have x1 := HX.out.cell 1
  simp only [List.getElem?_toArray, List.getElem?_cons_zero, List.getElem?_cons_succ] at x0 x1
  clear hL hD hH
  go_enter Tryz.func13, Tryz.ntmps13
  go_wp2_with fail
  refine (span_c _ _ _).mono ?_
  rintro e w1 ⟨rfl, hb⟩
  replace hs := hs.keep hb
  replace HS := Lib.hid (HS.out.keep hb)
  clear hb x0 x1
  go_wp2_with (refine wpList_store_row rfl 26 _ _ rfl (w.heap.size + 1) _ rfl rfl 26 _ HS.out (by kernel_rfl) rfl (by simp [Value.oneCell']) ?_)
  (refine bodyPost_ret (v := .agg _) ?_ rfl ⟨rfl, ?_⟩)
  · exact (results_cell_row Tryz.results13 _ _ (w.heap.size + 1) 26 _ (0, 0) _ rfl (HS.out.row _) Tryz.underlying26 rfl (by kernel_rfl))
  · exact (hs.row (by omega) _).1
theorem why_goodz {h : Hul} {lo hi : Int} (hc : (chk h).2.2 = 0) (h0 : 0 ≤ lo) (h1 : lo ≤ hi) (h2 : hi ≤ 1000) : whyA h lo hi = ((fall h lo hi).2, (fall h lo hi).1, 0) := by
  have e : lookE h lo hi = 0 := lookE_ok.2 ⟨hc, h0, h1, h2⟩
  unfold whyA
  rw [if_neg (by simpa using e)]
theorem wbt_bad {h : Hul} {p lo hi : Int} (hc : (chk h).2.2 ≠ 0) : ballastA h p lo hi = (0, (chk h).2.2) := by simp [ballastA, ballE, hc]
theorem wbt_out {h : Hul} {q : Nat} {lo hi : Int} (hc : (chk h).2.2 = 0) (hq : q < h.parts.length) (ho : h.parts[q].pt < h.aft ∨ h.fore < h.parts[q].pt) : ballastA h q lo hi = (0, 2) := by
  have h1 : wi 0 ((h.parts.length : Int) - 1) q = true := wi_iff.2 (by omega)
  have h2 : wi h.aft h.fore (pa h.parts (q : Int).toNat).pt = false := by
    rw [show (q : Int).toNat = q from by simp, pa_at hq]
    exact wi_no.2 (by omega)
  simp only [ballastA, ballE, hc, h1, h2]
  simp
theorem wbt_in {h : Hul} {q : Nat} {lo hi : Int} (hc : (chk h).2.2 = 0) (hq : q < h.parts.length) (ha : h.aft ≤ h.parts[q].pt) (hf : h.parts[q].pt ≤ h.fore) (h0 : 0 ≤ lo) (h01 : lo ≤ hi) (h1 : hi ≤ 1000) :
    (ballastA h q lo hi = (0, 9) ∧ ∃ y v, y ≠ 0 ∧ whyA h lo hi = (y, v, 0)) ∨
    ∃ n : Nat, n ≤ 1000000 ∧ ballastA h q lo hi = ((n : Int), 0) ∧ ((chk (ldH h q n)).2.2 = 0 → ∃ v, whyA (ldH h q n) lo hi = (0, v, 0)) ∧ ∀ k : Nat, k < n → (chk (ldH h q k)).2.2 = 0 → ∃ y v, y ≠ 0 ∧ whyA (ldH h q k) lo hi = (y, v, 0) := by
  have e1 : wi 0 ((h.parts.length : Int) - 1) q = true := wi_iff.2 (by omega)
  have e2 : wi h.aft h.fore (pa h.parts (q : Int).toNat).pt = true := by
    rw [show (q : Int).toNat = q from by simp, pa_at hq]
    exact wi_iff.2 (by omega)
  have e3 : tideE lo hi = 0 := tideE_ok.2 ⟨h0, h01, h1⟩
  have eB : ballE h q lo hi = 0 := by unfold ballE; rw [hc, e1, e2, e3]; simp
  have eA : ballastA h q lo hi = if 1000000 < blst h q lo hi then (0, 9) else ((blst h q lo hi : Int), 0) := by
    unfold ballastA; rw [eB]; simp
  obtain ⟨s1, s2, s3⟩ := frst_spec (does h q lo hi) 1000001
  have hno : ∀ k : Nat, does h q lo hi k = false → (chk (ldH h q k)).2.2 = 0 → ∃ y v, y ≠ 0 ∧ whyA (ldH h q k) lo hi = (y, v, 0) := fun k hk hv => by
    refine ⟨_, _, ?_, why_goodz hv h0 h01 h1⟩
    intro e
    have : does h q lo hi k = true := by show ((fall (ldH h q k) lo hi).2 == 0) = true; rw [e]; rfl
    rw [hk] at this; cases this
  by_cases hb : 1000000 < blst h q lo hi
  · left
    refine ⟨by rw [eA, if_pos hb], ?_⟩
    have := hno 0 (s2 0 (by unfold blst at hb; omega)) (by rw [show ((0 : Nat) : Int) = 0 from rfl, ldH_zero hq]; exact hc)
    rw [show ((0 : Nat) : Int) = 0 from rfl, ldH_zero hq] at this
    exact this
  · right
    refine ⟨blst h q lo hi, by omega, by rw [eA, if_neg hb], fun hv => ?_, fun k hk hv => hno k (s2 k hk) hv⟩
    have hd := s3 (by unfold blst at hb; omega)
    have hwz := why_goodz hv h0 h01 h1
    have e : (fall (ldH h q (blst h q lo hi)) lo hi).2 = 0 := by
      have : ((fall (ldH h q (blst h q lo hi)) lo hi).2 == 0) = true := hd
      simpa using this
    rw [e] at hwz
    exact ⟨_, hwz⟩
/-- parts do not lie in an empty hull's block. -/
theorem PtAt.put {W : World} {A : Option Addr} {l : List Prt} (h : PtAt W A l) {g : Nat} {t : TypeId} (hb : Blk W g t w0V) (cs : Array Value) : PtAt (W.setRow g cs) A l := fun hx => by
  obtain ⟨a, ha, hc⟩ := h hx
  have h0 : ∃ p, l[0]? = some p := by
    cases l with
    | nil => exact absurd rfl hx
    | cons p r => exact ⟨p, rfl⟩
  obtain ⟨p0, hp0⟩ := h0
  have hne : a.block ≠ g := by
    intro e
    have h1 := (hc 0 p0 hp0).1
    have hb' : W.heap[g]? = some (.cells w0V t (0, 0)) := hb
    unfold World.cell? at h1
    rw [add_block, e, hb'] at h1
    generalize (a.add (0 * 7)).off = n at h1
    match n, h1 with
    | 0, h1 => simp at h1
    | 1, h1 => simp at h1
    | 2, h1 => simp at h1
    | n + 3, h1 => simp at h1
  have far : ∀ (x : Addr) (u : Value), x.block = a.block → W.cell? x = some u → (W.setRow g cs).cell? x = some u := fun x u hxb hu => by
    unfold World.cell? at hu ⊢
    rw [setRow_other W g _ cs (by rw [hxb]; exact hne)]
    exact hu
  refine ⟨a, ha, fun i p hp => ?_⟩
  obtain ⟨z0, z1, z2, z3, z4, z5, z6⟩ := hc i p hp
  have hbk : (a.add (i * 7)).block = a.block := add_block _ _
  exact ⟨far _ _ hbk z0, far _ _ hbk z1, far _ _ hbk z2, far _ _ hbk z3, far _ _ hbk z4, far _ _ hbk z5, far _ _ hbk z6⟩
theorem HAt.put {W : World} {m : Sl} {f : Hul} (h : HAt W m f) {g : Nat} {t : TypeId} (hb : Blk W g t w0V) (cs : Array Value) : HAt (W.setRow g cs) m f := ⟨h.ps.put hb cs, h.pc, h.cM, h.nm⟩
/-- where a region stands that puts a hull, which a call returns, into a new struct. -/
structure Hn (w : World) (L : List (Nat × TypeId × Array Value)) (f : Hul) (oH oN oW : Option Value) (X : World) : Prop where
  sn : Since w X
  bl : ∀ b ∈ L, Blk X b.1 b.2.1 b.2.2
  hv : ∀ v, oH = some v → ∃ m', v = .agg (hV f m') ∧ HAt X m' f
  nw : ∀ v, oN = some v → ∃ g, v = .pointer (some ⟨g, 0, none⟩) ∧ w.heap.size ≤ g ∧ (∀ b ∈ L, b.1 < g) ∧ (oW = none → Blk X g 24 w0V) ∧ (oW ≠ none → ∃ m', Blk X g 24 (hV f m') ∧ HAt X m' f)
  wn : oW ≠ none → oH ≠ none ∧ oN ≠ none
section
variable {w : World} {L : List (Nat × TypeId × Array Value)} {f : Hul} {oH oN oW : Option Value} {X X' : World}
theorem Hn.keep (h : Hn w L f oH oN oW X) (hb : Below X.heap.size X X') : Hn w L f oH oN oW X' :=
  ⟨h.sn.keep hb, fun b q => (h.bl b q).keep hb, fun v hv => (by obtain ⟨m', e, k⟩ := h.hv v hv; exact ⟨m', e, k.keep hb⟩), fun v hv => (by
    obtain ⟨g, e, e0, e1, e2, e3⟩ := h.nw v hv
    exact ⟨g, e, e0, e1, fun k => (e2 k).keep hb, fun k => (by obtain ⟨m', k1, k2⟩ := e3 k; exact ⟨m', k1.keep hb, k2.keep hb⟩)⟩), h.wn⟩
theorem Hn.call {m' : Sl} (h : Hn w L f none oN oW X) (hv : HAt X m' f) : Hn w L f (some (.agg (hV f m'))) oN oW X :=
  ⟨h.sn, h.bl, fun v e => ⟨m', (Option.some.inj e).symm, hv⟩, h.nw, fun k => absurd rfl (h.wn k).1⟩
theorem Hn.made (h : Hn w L f oH none oW X) : Hn w L f oH (some (.pointer (some ⟨X.heap.size, 0, none⟩))) oW (X.alloc (.cells w0V 24)) := by
  have h2 := h.keep ((Below.refl _ _).alloc (Nat.le_refl _) (.cells w0V 24))
  have hw : oW = none := by
    cases e : oW with
    | none => rfl
    | some q => exact absurd rfl (h.wn (by rw [e]; exact fun e => by cases e)).2
  exact ⟨h2.sn, h2.bl, h2.hv, fun v hv => ⟨_, (Option.some.inj hv).symm, h.sn.2, fun b hb => (h.bl b hb).lt, fun _ => Blk.new _ _ _, fun k => absurd hw k⟩, fun k => absurd hw k⟩
theorem Hn.put {b n : Value} (h : Hn w L f (some b) (some n) none X) (u : Value) : ∃ g m', n = .pointer (some ⟨g, 0, none⟩) ∧ b = .agg (hV f m') ∧ Blk X g 24 w0V ∧ Hn w L f (some b) (some n) (some u) (X.setRow g (hV f m')) := by
  obtain ⟨g, e, e0, e1, e2, e3⟩ := h.nw n rfl
  obtain ⟨m', eb, hm⟩ := h.hv b rfl
  have hb := e2 rfl
  exact ⟨g, m', e, eb, hb, h.sn.row e0 _, fun q hq => (h.bl q hq).rowFar (by have := e1 q hq; omega) _, fun v hv => ⟨m', (Option.some.inj hv).symm.trans eb, hm.put hb _⟩, fun v hv => ⟨g, (Option.some.inj hv).symm.trans e, e0, e1, fun k => (by cases k), fun _ => ⟨m', hb.row _, hm.put hb _⟩⟩, fun _ => ⟨fun e => (by cases e), fun e => (by cases e)⟩⟩
theorem Hn.end_ {n u : Value} (h : Hn w L f oH (some n) (some u) X) : ∃ g m', n = .pointer (some ⟨g, 0, none⟩) ∧ (∀ q ∈ L, q.1 < g) ∧ Blk X g 24 (hV f m') ∧ HAt X m' f := by
  obtain ⟨g, e, e0, e1, e2, e3⟩ := h.nw n rfl
  obtain ⟨m', k1, k2⟩ := e3 (fun e => by cases e)
  exact ⟨g, m', e, e1, k1, k2⟩
end
set_option maxRecDepth 100000 in
set_option maxHeartbeats 8000000 in
theorem standBallast_c (h : Hul) (m : Sl) (a0 a1 aw : Nat) (u : Value) (n0 n1 : Nat) (w : World) (hp : HAt w m h) (b0 : a0 ≤ 65535) (b1 : a1 ≤ 65535) (d0 : n0 ≤ 4294967295) (d1 : n1 ≤ 4294967295) :
    Calls Tryz.prog 4 #[.agg (hV h m), .agg #[.int .u16 a0, .int .u16 a1, .int .u16 aw, u], .agg #[.int .u32 n0, .int .u32 n1]] w fun e w' => e = .returned (.bool true) ∧ Below w.heap.size w w' := by
  have hs := (((Since.refl w).alloc (.cells (hV h m) 24)).alloc (.cells #[.int .u16 a0, .int .u16 a1, .int .u16 aw, u] 44)).alloc (.cells #[.int .u32 n0, .int .u32 n1] 46)
  have HB := Lib.hid (((Blk.new w 24 (hV h m)).alloc (.cells #[.int .u16 a0, .int .u16 a1, .int .u16 aw, u] 44)).alloc (.cells #[.int .u32 n0, .int .u32 n1] 46))
  have HX := Lib.hid ((Blk.new1 w (.cells (hV h m) 24) 44 #[.int .u16 a0, .int .u16 a1, .int .u16 aw, u]).alloc (.cells #[.int .u32 n0, .int .u32 n1] 46))
  have HY := Lib.hid (Blk.new2 w (.cells (hV h m) 24) (.cells #[.int .u16 a0, .int .u16 a1, .int .u16 aw, u] 44) 46 #[.int .u32 n0, .int .u32 n1])
  have HP := Lib.hid hp
  obtain ⟨i0, i1, i2⟩ := tide_in a0 a1
  clear hp
  have x0 := HX.out.cell 0
  have x1 := HX.out.cell 1
  simp only [List.getElem?_toArray, List.getElem?_cons_zero, List.getElem?_cons_succ] at x0 x1
  go_enter Tryz.func4, Tryz.ntmps4
  go_wp2_with fail
  refine (lawtide_c a0 a1 _ b0 b1).mono ?_
  rintro e w1 ⟨rfl, hb⟩
  replace hs := hs.keep hb
  replace HB := Lib.hid (HB.out.keep hb)
  replace HY := Lib.hid (HY.out.keep hb)
  clear hb x0 x1 HX
  obtain ⟨lo, hlo⟩ : ∃ lo, tLo a0 = lo := ⟨_, rfl⟩
  obtain ⟨hi, hhi⟩ : ∃ hi, tHi a0 a1 = hi := ⟨_, rfl⟩
  rw [hlo] at i0 i1 ⊢
  rw [hhi] at i1 i2 ⊢
  clear hlo hhi
  have hq : Below w1.heap.size w1 (w1.alloc (.cells #[.int .i64 lo, .int .i64 hi] 26)) := (Below.refl _ _).alloc (Nat.le_refl _) _
  replace hs := hs.keep hq
  replace HB := Lib.hid (HB.out.keep hq)
  replace HY := Lib.hid (HY.out.keep hq)
  have HS := Lib.hid (Blk.new w1 26 #[.int .i64 lo, .int .i64 hi])
  obtain ⟨c0, c1, c2⟩ := HB.out.hull
  clear hq
  go_wp2_with fail
  refine (valid_c h m _ (HP.out.keep hs.1)).mono ?_
  rintro e w2 ⟨rfl, hb⟩
  obtain ⟨gS, hgS⟩ : ∃ g, w1.heap.size = g := ⟨_, rfl⟩
  rw [hgS] at HS ⊢
  replace hs := hs.keep hb
  replace HB := Lib.hid (HB.out.keep hb)
  replace HY := Lib.hid (HY.out.keep hb)
  replace HS := Lib.hid (HS.out.keep hb)
  clear hb c0 c1 c2 hgS
  by_cases hc : (chk h).2.2 = 0
  · rw [decide_eq_true hc]
    have HC := Lib.hid hc
    have hh := chk_ok hc
    have hn1 := hh.n1
    have hn10 := hh.n10
    clear hc
    obtain ⟨q, hq⟩ : ∃ q, n0 % h.parts.length = q := ⟨_, rfl⟩
    have hlt : q < h.parts.length := by rw [← hq]; exact Nat.mod_lt _ (by omega)
    have eA : IntKind.i64.wrap (n0 : Int) = n0 := IntWalk.i64_in _ (by omega)
    have eR : (n0 : Int).tmod (h.parts.length : Int) = q := by rw [Int.tmod_eq_emod_of_nonneg (by omega), ← hq]; exact (Int.natCast_emod _ _).symm
    have eW : IntKind.i64.wrap (q : Int) = q := IntWalk.i64_in _ (by omega)
    have n3 : ((h.parts.length : Int) == 0) = false := by rw [beq_eq_false_iff_ne]; omega
    have n4 : (h.parts.length : Int) ≠ 0 := by omega
    clear hq
    obtain ⟨c0, c1, c2⟩ := HB.out.hull
    have y0 := HY.out.cell 0
    obtain ⟨s0, s1⟩ := HS.out.span
    simp only [List.getElem?_toArray, List.getElem?_cons_zero, List.getElem?_cons_succ] at y0
    go_wp2_with fail
    have k1 := Ballast_c h m q lo hi _ (HP.out.keep hs.1)
    obtain ⟨⟨a, eb⟩, hi_⟩ : ∃ x, ballastA h q lo hi = x := ⟨_, rfl⟩
    have HI := Lib.hid hi_
    rw [hi_] at k1
    clear hi_
    refine k1.mono ?_
    rintro e w3 ⟨rfl, hb⟩
    replace hs := hs.keep hb
    replace HB := Lib.hid (HB.out.keep hb)
    replace HY := Lib.hid (HY.out.keep hb)
    replace HS := Lib.hid (HS.out.keep hb)
    clear hb c0 c1 c2 k1 s0 s1 y0 eA eR eW n3 n4
    obtain ⟨ad, hA, -, z1, -⟩ := (HP.out.keep hs.1).ps.get hlt
    obtain ⟨mA, mc⟩ := m
    replace hA : mA = some ad := hA
    subst hA
    obtain ⟨c0, c1, c2⟩ := HB.out.hull
    have hqi : (q : Int) < (h.parts.length : Int) := by omega
    obtain ⟨pt, hpt⟩ : ∃ p, h.parts[q].pt = p := ⟨_, rfl⟩
    rw [hpt] at z1
    have HPT := Lib.hid hpt
    clear hpt
    by_cases o1 : pt < h.aft
    · have hO := wbt_out (lo := lo) (hi := hi) HC.out hlt (.inl (by rw [HPT.out]; exact o1))
      rw [HI.out] at hO
      cases hO
      clear HI
      go_wp2_with fail
      go_quiet (fail)
      replace hs : Since w (w3.drewN nq) := ⟨bdrew hs.1 _, hs.2⟩
      clear c0 c1 c2 z1
      obtain ⟨X, hX⟩ : ∃ X, w3.drewN nq = X := ⟨_, rfl⟩
      rw [hX] at hs ⊢
      clear hX HB HY HS
      go_wp2_with fail
      refine (awake_c _).mono ?_
      rintro e w9 ⟨rfl, hb⟩
      replace hs := hs.keep hb
      go_wp2_with fail
      go_ret
      exact ⟨rfl, hs.1⟩
    · by_cases o2 : h.fore < pt
      · have hO := wbt_out (lo := lo) (hi := hi) HC.out hlt (.inr (by rw [HPT.out]; exact o2))
        rw [HI.out] at hO
        cases hO
        clear HI
        go_wp2_with fail
        go_quiet (fail)
        replace hs : Since w (w3.drewN nq) := ⟨bdrew hs.1 _, hs.2⟩
        clear c0 c1 c2 z1
        obtain ⟨X, hX⟩ : ∃ X, w3.drewN nq = X := ⟨_, rfl⟩
        rw [hX] at hs ⊢
        clear hX HB HY HS
        go_wp2_with fail
        refine (awake_c _).mono ?_
        rintro e w9 ⟨rfl, hb⟩
        replace hs := hs.keep hb
        go_wp2_with fail
        go_ret
        exact ⟨rfl, hs.1⟩
      · have HM := Lib.hid (wbt_in HC.out hlt (by rw [HPT.out]; omega) (by rw [HPT.out]; omega) i0 i1 i2)
        rw [HI.out] at HM
        clear HI HPT
        go_wp2_with fail
        go_quiet (fail)
        replace hs : Since w (w3.drewN nq) := ⟨bdrew hs.1 _, hs.2⟩
        replace HB : Hid (Blk (w3.drewN nq) w.heap.size 24 (hV h ⟨some ad, mc⟩)) := HB
        replace HY : Hid (Blk (w3.drewN nq) (w.heap.size + 1 + 1) 46 #[.int .u32 n0, .int .u32 n1]) := HY
        replace HS : Hid (Blk (w3.drewN nq) gS 26 #[.int .i64 lo, .int .i64 hi]) := HS
        clear c0 c1 c2 z1
        obtain ⟨X, hX⟩ : ∃ X, w3.drewN nq = X := ⟨_, rfl⟩
        rw [hX] at hs HB HY HS ⊢
        clear hX
        rcases HM.out with ⟨hE, y, v, hy, hW⟩ | ⟨n, hn, hE, hG, hL⟩
        · cases hE
          have hyn : (y != 0) = true := by simpa using hy
          have HW := Lib.hid hW
          clear hy hW HM
          obtain ⟨c0, c1, c2⟩ := HB.out.hull
          obtain ⟨s0, s1⟩ := HS.out.span
          go_wp2_with fail
          have k1 := rwhy_c h ⟨some ad, mc⟩ lo hi _ (HP.out.keep hs.1)
          rw [HW.out] at k1
          refine k1.mono ?_
          rintro e w4 ⟨rfl, hb⟩
          replace hs := hs.keep hb
          clear hb k1 c0 c1 c2 s0 s1
          go_wp2_with fail
          refine (awake_c _).mono ?_
          rintro e w9 ⟨rfl, hb⟩
          replace hs := hs.keep hb
          go_wp2_with fail
          go_ret
          exact ⟨rfl, hs.1⟩
        · cases hE
          have HGd := Lib.hid hG
          have HLd := Lib.hid hL
          clear hG hL HM
          have ni0 : ¬ (n : Int) < 0 := by omega
          have ni1 : ¬ (1000000 : Int) < (n : Int) := by omega
          obtain ⟨c0, c1, c2⟩ := HB.out.hull
          go_wp2_with fail
          refine (rheavier_c h ⟨some ad, mc⟩ q (n : Int) _ hh (HP.out.keep hs.1) hlt (by omega) (by omega)).mono ?_
          rintro e w4 ⟨⟨m', rfl, hM⟩, hb⟩
          replace hs := hs.keep hb
          replace HB := Lib.hid (HB.out.keep hb)
          replace HY := Lib.hid (HY.out.keep hb)
          replace HS := Lib.hid (HS.out.keep hb)
          obtain ⟨f, hf⟩ : ∃ f, ldH h q (n : Int) = f := ⟨_, rfl⟩
          rw [hf] at hM HGd ⊢
          clear hf
          have HM := Lib.hid hM
          clear hb c0 c1 c2 hM
          have hq : Below w4.heap.size w4 (w4.alloc (.cells (hV f m') 24)) := (Below.refl _ _).alloc (Nat.le_refl _) _
          replace hs := hs.keep hq
          replace HB := Lib.hid (HB.out.keep hq)
          replace HY := Lib.hid (HY.out.keep hq)
          replace HS := Lib.hid (HS.out.keep hq)
          replace HM := Lib.hid (HM.out.keep hq)
          have HK := Lib.hid (Blk.new w4 24 (hV f m'))
          clear hq
          obtain ⟨k0, k1, k2⟩ := HK.out.hull
          go_wp2_with fail
          refine (valid_c f m' _ HM.out).mono ?_
          rintro e w5 ⟨rfl, hb⟩
          obtain ⟨gK, hgK⟩ : ∃ g, w4.heap.size = g := ⟨_, rfl⟩
          rw [hgK] at HK ⊢
          replace hs := hs.keep hb
          replace HB := Lib.hid (HB.out.keep hb)
          replace HY := Lib.hid (HY.out.keep hb)
          replace HS := Lib.hid (HS.out.keep hb)
          replace HM := Lib.hid (HM.out.keep hb)
          replace HK := Lib.hid (HK.out.keep hb)
          clear hb k0 k1 k2 hgK
          by_cases hv : (chk f).2.2 = 0
          · rw [decide_eq_true hv]
            obtain ⟨v0, hW⟩ := HGd.out hv
            have HW := Lib.hid hW
            clear hv hW
            obtain ⟨k0, k1, k2⟩ := HK.out.hull
            obtain ⟨s0, s1⟩ := HS.out.span
            go_wp2_with fail
            have k9 := Why_c f m' lo hi _ HM.out
            rw [HW.out] at k9
            refine k9.mono ?_
            rintro e w6 ⟨rfl, hb⟩
            replace hs := hs.keep hb
            replace HB := Lib.hid (HB.out.keep hb)
            replace HY := Lib.hid (HY.out.keep hb)
            replace HS := Lib.hid (HS.out.keep hb)
            clear hb k0 k1 k2 s0 s1 k9 HK HM
            by_cases hz : n = 0
            · subst hz
              go_wp2_with fail
              refine (awake_c _).mono ?_
              rintro e w9 ⟨rfl, hb⟩
              replace hs := hs.keep hb
              go_wp2_with fail
              go_ret
              exact ⟨rfl, hs.1⟩
            · have hz2 : ((n : Int) == 0) = false := by rw [beq_eq_false_iff_ne]; omega
              have hz3 : (n : Int) ≠ 0 := by omega
              obtain ⟨k, hk⟩ : ∃ k, n1 % n = k := ⟨_, rfl⟩
              have hkn : k < n := by rw [← hk]; exact Nat.mod_lt _ (by omega)
              have eA : IntKind.i64.wrap (n1 : Int) = n1 := IntWalk.i64_in _ (by omega)
              have eR : (n1 : Int).tmod (n : Int) = k := by rw [Int.tmod_eq_emod_of_nonneg (by omega), ← hk]; exact (Int.natCast_emod _ _).symm
              have eW : IntKind.i64.wrap (k : Int) = k := IntWalk.i64_in _ (by omega)
              clear hk
              go_wp2_with fail
              refine Vals9.region (fun σ Z => Hn w [(w.heap.size, 24, hV h ⟨some ad, mc⟩), (w.heap.size + 1 + 1, 46, #[.int .u32 n0, .int .u32 n1]), (gS, 26, #[.int .i64 lo, .int .i64 hi])] (ldH h q (k : Int)) (σ 7) (σ 8) (σ 9) Z) [some 134, some 135, some 136, some 137, some 138, some 139, some 140, some 141, some 20, none] [.is ?_, .is ?_, .is ?_, .is ?_, .is ?_, .is ?_, .is ?_, .any, .any, .any] (by kernel_rfl) (by kernel_rfl) (by kernel_rfl) (by kernel_rfl) (by kernel_rfl) (by kernel_rfl) (⟨hs.drew, (fun b hb => by simp only [List.mem_cons, List.not_mem_nil, or_false] at hb; rcases hb with rfl | rfl | rfl; exact HB.out.drew; exact HY.out.drew; exact HS.out.drew), (fun v hv => by cases hv), (fun v hv => by cases hv), (fun k => absurd rfl k)⟩) ?hsteps ?hfin
              case hsteps =>
                refine Vals9.Steps.run rfl ?_ ?_
                · intro a W σ hJ pre K hK
                  have e3 := pre.2.2 3 _ (by kernel_rfl) rfl
                  clear pre
                  simp only [Array.getD_eq_getD_getElem?, List.getElem?_toArray, List.getElem?_cons_zero, List.getElem?_cons_succ, Option.getD_some] at e3
                  have hJ2 : Hn w [(w.heap.size, 24, hV h ⟨some ad, mc⟩), (w.heap.size + 1 + 1, 46, #[.int .u32 n0, .int .u32 n1]), (gS, 26, #[.int .i64 lo, .int .i64 hi])] (ldH h q (k : Int)) (σ 7) (σ 8) (σ 9) W := hJ
                  obtain ⟨c0, c1, c2⟩ := (show Blk W w.heap.size 24 (hV h ⟨some ad, mc⟩) from hJ2.bl (w.heap.size, 24, hV h ⟨some ad, mc⟩) (by simp)).hull
                  have y1 := (show Blk W (w.heap.size + 1 + 1) 46 #[.int .u32 n0, .int .u32 n1] from hJ2.bl (w.heap.size + 1 + 1, 46, #[.int .u32 n0, .int .u32 n1]) (by simp)).cell 1
                  simp only [List.getElem?_toArray, List.getElem?_cons_zero, List.getElem?_cons_succ] at y1
                  go_simp
                  exact hK _ hJ
                refine Vals9.Steps.run rfl ?_ ?_
                · intro a W σ hJ pre K hK
                  have e10 := pre.2.2 10 _ (by kernel_rfl) rfl
                  clear pre
                  simp only [Array.getD_eq_getD_getElem?, List.getElem?_toArray, List.getElem?_cons_zero, List.getElem?_cons_succ, Option.getD_some] at e10
                  go_simp
                  exact hK _ hJ
                refine Vals9.Steps.run rfl ?_ ?_
                · intro a W σ hJ pre K hK
                  have e5 := pre.2.2 5 _ (by kernel_rfl) rfl
                  clear pre
                  simp only [Array.getD_eq_getD_getElem?, List.getElem?_toArray, List.getElem?_cons_zero, List.getElem?_cons_succ, Option.getD_some] at e5
                  go_simp
                  exact hK _ hJ
                refine Vals9.Steps.run rfl ?_ ?_
                · intro a W σ hJ pre K hK
                  have e136 := pre.1 2 136 _ (by kernel_rfl) rfl rfl
                  clear pre
                  simp only [Array.getD_eq_getD_getElem?, List.getElem?_toArray, List.getElem?_cons_zero, List.getElem?_cons_succ, Option.getD_some] at e136
                  have hJ2 : Hn w [(w.heap.size, 24, hV h ⟨some ad, mc⟩), (w.heap.size + 1 + 1, 46, #[.int .u32 n0, .int .u32 n1]), (gS, 26, #[.int .i64 lo, .int .i64 hi])] (ldH h q (k : Int)) (σ 7) (σ 8) (σ 9) W := hJ
                  obtain ⟨c0, c1, c2⟩ := (show Blk W w.heap.size 24 (hV h ⟨some ad, mc⟩) from hJ2.bl (w.heap.size, 24, hV h ⟨some ad, mc⟩) (by simp)).hull
                  have y1 := (show Blk W (w.heap.size + 1 + 1) 46 #[.int .u32 n0, .int .u32 n1] from hJ2.bl (w.heap.size + 1 + 1, 46, #[.int .u32 n0, .int .u32 n1]) (by simp)).cell 1
                  simp only [List.getElem?_toArray, List.getElem?_cons_zero, List.getElem?_cons_succ] at y1
                  go_simp
                  exact hK _ hJ
                refine Vals9.Steps.run rfl ?_ ?_
                · intro a W σ hJ pre K hK
                  have e137 := pre.1 3 137 _ (by kernel_rfl) rfl rfl
                  clear pre
                  simp only [Array.getD_eq_getD_getElem?, List.getElem?_toArray, List.getElem?_cons_zero, List.getElem?_cons_succ, Option.getD_some] at e137
                  go_simp
                  exact hK _ hJ
                refine Vals9.Steps.run rfl ?_ ?_
                · intro a W σ hJ pre K hK
                  have e11 := pre.2.2 11 _ (by kernel_rfl) rfl
                  clear pre
                  simp only [Array.getD_eq_getD_getElem?, List.getElem?_toArray, List.getElem?_cons_zero, List.getElem?_cons_succ, Option.getD_some] at e11
                  go_simp
                  exact hK _ hJ
                refine Vals9.Steps.run rfl ?_ ?_
                · intro a W σ hJ pre K hK
                  have e138 := pre.1 4 138 _ (by kernel_rfl) rfl rfl
                  have e139 := pre.1 5 139 _ (by kernel_rfl) rfl rfl
                  clear pre
                  simp only [Array.getD_eq_getD_getElem?, List.getElem?_toArray, List.getElem?_cons_zero, List.getElem?_cons_succ, Option.getD_some] at e138 e139
                  go_simp
                  exact hK _ hJ
                refine Vals9.Steps.mark rfl ?_ ?_
                · intro a W σ hJ hn pre K hK
                  have e134 := pre.1 0 134 _ (by kernel_rfl) rfl rfl
                  have e135 := pre.1 1 135 _ (by kernel_rfl) rfl rfl
                  have e140 := pre.1 6 140 _ (by kernel_rfl) rfl rfl
                  simp only [Array.getD_eq_getD_getElem?, List.getElem?_toArray, List.getElem?_cons_zero, List.getElem?_cons_succ, Option.getD_some] at e134 e135 e140
                  have hJ2 : Hn w [(w.heap.size, 24, hV h ⟨some ad, mc⟩), (w.heap.size + 1 + 1, 46, #[.int .u32 n0, .int .u32 n1]), (gS, 26, #[.int .i64 lo, .int .i64 hi])] (ldH h q (k : Int)) (σ 7) (σ 8) (σ 9) W := hJ
                  rw [hn] at hJ2
                  have hC := rheavier_c h ⟨some ad, mc⟩ q (k : Int) W hh (HP.out.keep hJ2.sn.1) hlt (by omega) (by omega)
                  go_simp
                  refine hC.mono ?_
                  rintro e w' ⟨⟨m2, rfl, hv⟩, hb'⟩
                  exact hK _ _ ((hJ2.keep hb').call hv)
                refine Vals9.Steps.mark rfl ?_ ?_
                · intro a W σ hJ hn pre K hK
                  have hJ2 : Hn w [(w.heap.size, 24, hV h ⟨some ad, mc⟩), (w.heap.size + 1 + 1, 46, #[.int .u32 n0, .int .u32 n1]), (gS, 26, #[.int .i64 lo, .int .i64 hi])] (ldH h q (k : Int)) (σ 7) (σ 8) (σ 9) W := hJ
                  rw [hn] at hJ2
                  go_simp
                  exact hK _ _ hJ2.made
                refine Vals9.Steps.mark rfl ?_ ?_
                · intro a W σ hJ hn pre K hK
                  obtain ⟨v20, s20, e20⟩ := pre.2.1 8 (by kernel_rfl) rfl
                  replace e20 : a.tmps.getD 20 undef = v20 := e20 20 rfl
                  obtain ⟨v141, s141, e141⟩ := pre.2.1 7 (by kernel_rfl) rfl
                  replace e141 : a.tmps.getD 141 undef = v141 := e141 141 rfl
                  simp only [Array.getD_eq_getD_getElem?, List.getElem?_toArray, List.getElem?_cons_zero, List.getElem?_cons_succ, Option.getD_some] at e20 e141
                  have hJ2 : Hn w [(w.heap.size, 24, hV h ⟨some ad, mc⟩), (w.heap.size + 1 + 1, 46, #[.int .u32 n0, .int .u32 n1]), (gS, 26, #[.int .i64 lo, .int .i64 hi])] (ldH h q (k : Int)) (σ 7) (σ 8) (σ 9) W := hJ
                  rw [hn, s141, s20] at hJ2
                  obtain ⟨g, m2, e9, e8, hb, h2⟩ := hJ2.put undef
                  rw [← s141, ← s20] at h2
                  have hfin := hK undef _ h2
                  rw [e9] at e20
                  rw [e8] at e141
                  have hx : a.eval (.tmp 20) = .pointer (some ⟨g, 0, none⟩) := by go_simp
                  have hy : a.eval (.tmp 141) = .agg (hV (ldH h q (k : Int)) m2) := by go_simp
                  refine wp_store_row 24 _ _ rfl g (hV (ldH h q (k : Int)) m2) hx hy 24 _ hb (by kernel_rfl) rfl (by simp [Value.oneCell']) ?_
                  exact hfin
                exact Vals9.Steps.nil
              case hfin =>
                rintro Y σ hJ
                simp only [Vals9.All]
                rintro v7 s7 v8 s8 v9 s9
                simp only [Vals.putAll, List.setIfInBounds_toArray, List.set_cons_zero, List.set_cons_succ]
                have hJ2 : Hn w [(w.heap.size, 24, hV h ⟨some ad, mc⟩), (w.heap.size + 1 + 1, 46, #[.int .u32 n0, .int .u32 n1]), (gS, 26, #[.int .i64 lo, .int .i64 hi])] (ldH h q (k : Int)) (σ 7) (σ 8) (σ 9) Y := hJ
                rw [s8, s9] at hJ2
                obtain ⟨gL, m2, e9, hlg, hbz, hmz⟩ := hJ2.end_
                subst e9
                have hs2 := hJ2.sn
                have HS2 := Lib.hid (show Blk Y gS 26 #[.int .i64 lo, .int .i64 hi] from hJ2.bl (gS, 26, #[.int .i64 lo, .int .i64 hi]) (by simp))
                have HK := Lib.hid hbz
                have HM := Lib.hid hmz
                have HLk := Lib.hid (HLd.out k hkn)
                obtain ⟨f2, hf2⟩ : ∃ f, ldH h q (k : Int) = f := ⟨_, rfl⟩
                rw [hf2] at HK HM HLk
                clear hf2 hbz hmz hlg
                clear hJ hJ2 s7 s8 s9
                replace hs := hs2
                replace HS := HS2
                clear hs2 HS2 HB HY
                obtain ⟨k0, k1, k2⟩ := HK.out.hull
                go_wp2_with fail
                refine (valid_c f2 m2 _ HM.out).mono ?_
                rintro e w7 ⟨rfl, hb⟩
                replace hs := hs.keep hb
                replace HS := Lib.hid (HS.out.keep hb)
                replace HM := Lib.hid (HM.out.keep hb)
                replace HK := Lib.hid (HK.out.keep hb)
                clear hb k0 k1 k2
                by_cases hv : (chk f2).2.2 = 0
                · rw [decide_eq_true hv]
                  obtain ⟨y, v8, hy, hW⟩ := HLk.out hv
                  have hyn : (y != 0) = true := by simpa using hy
                  have HW := Lib.hid hW
                  clear hv hW hy
                  obtain ⟨k0, k1, k2⟩ := HK.out.hull
                  obtain ⟨s0, s1⟩ := HS.out.span
                  go_wp2_with fail
                  have k9 := Why_c f2 m2 lo hi _ HM.out
                  rw [HW.out] at k9
                  refine k9.mono ?_
                  rintro e w8 ⟨rfl, hb⟩
                  replace hs := hs.keep hb
                  clear hb k0 k1 k2 s0 s1 k9
                  go_wp2_with fail
                  refine (awake_c _).mono ?_
                  rintro e w9 ⟨rfl, hb⟩
                  replace hs := hs.keep hb
                  go_wp2_with fail
                  go_ret
                  exact ⟨rfl, hs.1⟩
                · rw [decide_eq_false hv]
                  clear hv
                  go_wp2_with fail
                  refine (awake_c _).mono ?_
                  rintro e w9 ⟨rfl, hb⟩
                  replace hs := hs.keep hb
                  go_wp2_with fail
                  go_ret
                  exact ⟨rfl, hs.1⟩
          · rw [decide_eq_false hv]
            clear hv HK HM
            by_cases hz : n = 0
            · subst hz
              go_wp2_with fail
              refine (awake_c _).mono ?_
              rintro e w9 ⟨rfl, hb⟩
              replace hs := hs.keep hb
              go_wp2_with fail
              go_ret
              exact ⟨rfl, hs.1⟩
            · have hz2 : ((n : Int) == 0) = false := by rw [beq_eq_false_iff_ne]; omega
              have hz3 : (n : Int) ≠ 0 := by omega
              obtain ⟨k, hk⟩ : ∃ k, n1 % n = k := ⟨_, rfl⟩
              have hkn : k < n := by rw [← hk]; exact Nat.mod_lt _ (by omega)
              have eA : IntKind.i64.wrap (n1 : Int) = n1 := IntWalk.i64_in _ (by omega)
              have eR : (n1 : Int).tmod (n : Int) = k := by rw [Int.tmod_eq_emod_of_nonneg (by omega), ← hk]; exact (Int.natCast_emod _ _).symm
              have eW : IntKind.i64.wrap (k : Int) = k := IntWalk.i64_in _ (by omega)
              clear hk
              go_wp2_with fail
              refine Vals9.region (fun σ Z => Hn w [(w.heap.size, 24, hV h ⟨some ad, mc⟩), (w.heap.size + 1 + 1, 46, #[.int .u32 n0, .int .u32 n1]), (gS, 26, #[.int .i64 lo, .int .i64 hi])] (ldH h q (k : Int)) (σ 7) (σ 8) (σ 9) Z) [some 134, some 135, some 136, some 137, some 138, some 139, some 140, some 141, some 20, none] [.is ?_, .is ?_, .is ?_, .is ?_, .is ?_, .is ?_, .is ?_, .any, .any, .any] (by kernel_rfl) (by kernel_rfl) (by kernel_rfl) (by kernel_rfl) (by kernel_rfl) (by kernel_rfl) (⟨hs.drew, (fun b hb => by simp only [List.mem_cons, List.not_mem_nil, or_false] at hb; rcases hb with rfl | rfl | rfl; exact HB.out.drew; exact HY.out.drew; exact HS.out.drew), (fun v hv => by cases hv), (fun v hv => by cases hv), (fun k => absurd rfl k)⟩) ?hsteps ?hfin
              case hsteps =>
                refine Vals9.Steps.run rfl ?_ ?_
                · intro a W σ hJ pre K hK
                  have e3 := pre.2.2 3 _ (by kernel_rfl) rfl
                  clear pre
                  simp only [Array.getD_eq_getD_getElem?, List.getElem?_toArray, List.getElem?_cons_zero, List.getElem?_cons_succ, Option.getD_some] at e3
                  have hJ2 : Hn w [(w.heap.size, 24, hV h ⟨some ad, mc⟩), (w.heap.size + 1 + 1, 46, #[.int .u32 n0, .int .u32 n1]), (gS, 26, #[.int .i64 lo, .int .i64 hi])] (ldH h q (k : Int)) (σ 7) (σ 8) (σ 9) W := hJ
                  obtain ⟨c0, c1, c2⟩ := (show Blk W w.heap.size 24 (hV h ⟨some ad, mc⟩) from hJ2.bl (w.heap.size, 24, hV h ⟨some ad, mc⟩) (by simp)).hull
                  have y1 := (show Blk W (w.heap.size + 1 + 1) 46 #[.int .u32 n0, .int .u32 n1] from hJ2.bl (w.heap.size + 1 + 1, 46, #[.int .u32 n0, .int .u32 n1]) (by simp)).cell 1
                  simp only [List.getElem?_toArray, List.getElem?_cons_zero, List.getElem?_cons_succ] at y1
                  go_simp
                  exact hK _ hJ
                refine Vals9.Steps.run rfl ?_ ?_
                · intro a W σ hJ pre K hK
                  have e10 := pre.2.2 10 _ (by kernel_rfl) rfl
                  clear pre
                  simp only [Array.getD_eq_getD_getElem?, List.getElem?_toArray, List.getElem?_cons_zero, List.getElem?_cons_succ, Option.getD_some] at e10
                  go_simp
                  exact hK _ hJ
                refine Vals9.Steps.run rfl ?_ ?_
                · intro a W σ hJ pre K hK
                  have e5 := pre.2.2 5 _ (by kernel_rfl) rfl
                  clear pre
                  simp only [Array.getD_eq_getD_getElem?, List.getElem?_toArray, List.getElem?_cons_zero, List.getElem?_cons_succ, Option.getD_some] at e5
                  go_simp
                  exact hK _ hJ
                refine Vals9.Steps.run rfl ?_ ?_
                · intro a W σ hJ pre K hK
                  have e136 := pre.1 2 136 _ (by kernel_rfl) rfl rfl
                  clear pre
                  simp only [Array.getD_eq_getD_getElem?, List.getElem?_toArray, List.getElem?_cons_zero, List.getElem?_cons_succ, Option.getD_some] at e136
                  have hJ2 : Hn w [(w.heap.size, 24, hV h ⟨some ad, mc⟩), (w.heap.size + 1 + 1, 46, #[.int .u32 n0, .int .u32 n1]), (gS, 26, #[.int .i64 lo, .int .i64 hi])] (ldH h q (k : Int)) (σ 7) (σ 8) (σ 9) W := hJ
                  obtain ⟨c0, c1, c2⟩ := (show Blk W w.heap.size 24 (hV h ⟨some ad, mc⟩) from hJ2.bl (w.heap.size, 24, hV h ⟨some ad, mc⟩) (by simp)).hull
                  have y1 := (show Blk W (w.heap.size + 1 + 1) 46 #[.int .u32 n0, .int .u32 n1] from hJ2.bl (w.heap.size + 1 + 1, 46, #[.int .u32 n0, .int .u32 n1]) (by simp)).cell 1
                  simp only [List.getElem?_toArray, List.getElem?_cons_zero, List.getElem?_cons_succ] at y1
                  go_simp
                  exact hK _ hJ
                refine Vals9.Steps.run rfl ?_ ?_
                · intro a W σ hJ pre K hK
                  have e137 := pre.1 3 137 _ (by kernel_rfl) rfl rfl
                  clear pre
                  simp only [Array.getD_eq_getD_getElem?, List.getElem?_toArray, List.getElem?_cons_zero, List.getElem?_cons_succ, Option.getD_some] at e137
                  go_simp
                  exact hK _ hJ
                refine Vals9.Steps.run rfl ?_ ?_
                · intro a W σ hJ pre K hK
                  have e11 := pre.2.2 11 _ (by kernel_rfl) rfl
                  clear pre
                  simp only [Array.getD_eq_getD_getElem?, List.getElem?_toArray, List.getElem?_cons_zero, List.getElem?_cons_succ, Option.getD_some] at e11
                  go_simp
                  exact hK _ hJ
                refine Vals9.Steps.run rfl ?_ ?_
                · intro a W σ hJ pre K hK
                  have e138 := pre.1 4 138 _ (by kernel_rfl) rfl rfl
                  have e139 := pre.1 5 139 _ (by kernel_rfl) rfl rfl
                  clear pre
                  simp only [Array.getD_eq_getD_getElem?, List.getElem?_toArray, List.getElem?_cons_zero, List.getElem?_cons_succ, Option.getD_some] at e138 e139
                  go_simp
                  exact hK _ hJ
                refine Vals9.Steps.mark rfl ?_ ?_
                · intro a W σ hJ hn pre K hK
                  have e134 := pre.1 0 134 _ (by kernel_rfl) rfl rfl
                  have e135 := pre.1 1 135 _ (by kernel_rfl) rfl rfl
                  have e140 := pre.1 6 140 _ (by kernel_rfl) rfl rfl
                  simp only [Array.getD_eq_getD_getElem?, List.getElem?_toArray, List.getElem?_cons_zero, List.getElem?_cons_succ, Option.getD_some] at e134 e135 e140
                  have hJ2 : Hn w [(w.heap.size, 24, hV h ⟨some ad, mc⟩), (w.heap.size + 1 + 1, 46, #[.int .u32 n0, .int .u32 n1]), (gS, 26, #[.int .i64 lo, .int .i64 hi])] (ldH h q (k : Int)) (σ 7) (σ 8) (σ 9) W := hJ
                  rw [hn] at hJ2
                  have hC := rheavier_c h ⟨some ad, mc⟩ q (k : Int) W hh (HP.out.keep hJ2.sn.1) hlt (by omega) (by omega)
                  go_simp
                  refine hC.mono ?_
                  rintro e w' ⟨⟨m2, rfl, hv⟩, hb'⟩
                  exact hK _ _ ((hJ2.keep hb').call hv)
                refine Vals9.Steps.mark rfl ?_ ?_
                · intro a W σ hJ hn pre K hK
                  have hJ2 : Hn w [(w.heap.size, 24, hV h ⟨some ad, mc⟩), (w.heap.size + 1 + 1, 46, #[.int .u32 n0, .int .u32 n1]), (gS, 26, #[.int .i64 lo, .int .i64 hi])] (ldH h q (k : Int)) (σ 7) (σ 8) (σ 9) W := hJ
                  rw [hn] at hJ2
                  go_simp
                  exact hK _ _ hJ2.made
                refine Vals9.Steps.mark rfl ?_ ?_
                · intro a W σ hJ hn pre K hK
                  obtain ⟨v20, s20, e20⟩ := pre.2.1 8 (by kernel_rfl) rfl
                  replace e20 : a.tmps.getD 20 undef = v20 := e20 20 rfl
                  obtain ⟨v141, s141, e141⟩ := pre.2.1 7 (by kernel_rfl) rfl
                  replace e141 : a.tmps.getD 141 undef = v141 := e141 141 rfl
                  simp only [Array.getD_eq_getD_getElem?, List.getElem?_toArray, List.getElem?_cons_zero, List.getElem?_cons_succ, Option.getD_some] at e20 e141
                  have hJ2 : Hn w [(w.heap.size, 24, hV h ⟨some ad, mc⟩), (w.heap.size + 1 + 1, 46, #[.int .u32 n0, .int .u32 n1]), (gS, 26, #[.int .i64 lo, .int .i64 hi])] (ldH h q (k : Int)) (σ 7) (σ 8) (σ 9) W := hJ
                  rw [hn, s141, s20] at hJ2
                  obtain ⟨g, m2, e9, e8, hb, h2⟩ := hJ2.put undef
                  rw [← s141, ← s20] at h2
                  have hfin := hK undef _ h2
                  rw [e9] at e20
                  rw [e8] at e141
                  have hx : a.eval (.tmp 20) = .pointer (some ⟨g, 0, none⟩) := by go_simp
                  have hy : a.eval (.tmp 141) = .agg (hV (ldH h q (k : Int)) m2) := by go_simp
                  refine wp_store_row 24 _ _ rfl g (hV (ldH h q (k : Int)) m2) hx hy 24 _ hb (by kernel_rfl) rfl (by simp [Value.oneCell']) ?_
                  exact hfin
                exact Vals9.Steps.nil
              case hfin =>
                rintro Y σ hJ
                simp only [Vals9.All]
                rintro v7 s7 v8 s8 v9 s9
                simp only [Vals.putAll, List.setIfInBounds_toArray, List.set_cons_zero, List.set_cons_succ]
                have hJ2 : Hn w [(w.heap.size, 24, hV h ⟨some ad, mc⟩), (w.heap.size + 1 + 1, 46, #[.int .u32 n0, .int .u32 n1]), (gS, 26, #[.int .i64 lo, .int .i64 hi])] (ldH h q (k : Int)) (σ 7) (σ 8) (σ 9) Y := hJ
                rw [s8, s9] at hJ2
                obtain ⟨gL, m2, e9, hlg, hbz, hmz⟩ := hJ2.end_
                subst e9
                have hs2 := hJ2.sn
                have HS2 := Lib.hid (show Blk Y gS 26 #[.int .i64 lo, .int .i64 hi] from hJ2.bl (gS, 26, #[.int .i64 lo, .int .i64 hi]) (by simp))
                have HK := Lib.hid hbz
                have HM := Lib.hid hmz
                have HLk := Lib.hid (HLd.out k hkn)
                obtain ⟨f2, hf2⟩ : ∃ f, ldH h q (k : Int) = f := ⟨_, rfl⟩
                rw [hf2] at HK HM HLk
                clear hf2 hbz hmz hlg
                clear hJ hJ2 s7 s8 s9
                replace hs := hs2
                replace HS := HS2
                clear hs2 HS2 HB HY
                obtain ⟨k0, k1, k2⟩ := HK.out.hull
                go_wp2_with fail
                refine (valid_c f2 m2 _ HM.out).mono ?_
                rintro e w7 ⟨rfl, hb⟩
                replace hs := hs.keep hb
                replace HS := Lib.hid (HS.out.keep hb)
                replace HM := Lib.hid (HM.out.keep hb)
                replace HK := Lib.hid (HK.out.keep hb)
                clear hb k0 k1 k2
                by_cases hv : (chk f2).2.2 = 0
                · rw [decide_eq_true hv]
                  obtain ⟨y, v8, hy, hW⟩ := HLk.out hv
                  have hyn : (y != 0) = true := by simpa using hy
                  have HW := Lib.hid hW
                  clear hv hW hy
                  obtain ⟨k0, k1, k2⟩ := HK.out.hull
                  obtain ⟨s0, s1⟩ := HS.out.span
                  go_wp2_with fail
                  have k9 := Why_c f2 m2 lo hi _ HM.out
                  rw [HW.out] at k9
                  refine k9.mono ?_
                  rintro e w8 ⟨rfl, hb⟩
                  replace hs := hs.keep hb
                  clear hb k0 k1 k2 s0 s1 k9
                  go_wp2_with fail
                  refine (awake_c _).mono ?_
                  rintro e w9 ⟨rfl, hb⟩
                  replace hs := hs.keep hb
                  go_wp2_with fail
                  go_ret
                  exact ⟨rfl, hs.1⟩
                · rw [decide_eq_false hv]
                  clear hv
                  go_wp2_with fail
                  refine (awake_c _).mono ?_
                  rintro e w9 ⟨rfl, hb⟩
                  replace hs := hs.keep hb
                  go_wp2_with fail
                  go_ret
                  exact ⟨rfl, hs.1⟩
  · rw [decide_eq_false hc]
    have hE := wbt_bad (p := 0) (lo := lo) (hi := hi) hc
    have hcn : ((chk h).2.2 != 0) = true := by simpa using hc
    clear hc
    obtain ⟨c0, c1, c2⟩ := HB.out.hull
    obtain ⟨s0, s1⟩ := HS.out.span
    go_wp2_with fail
    have k1 := Ballast_c h m 0 lo hi _ (HP.out.keep hs.1)
    rw [hE] at k1
    refine k1.mono ?_
    rintro e w3 ⟨rfl, hb⟩
    replace hs := hs.keep hb
    clear hb c0 c1 c2 k1 s0 s1 hE
    go_wp2_with fail
    refine (awake_c _).mono ?_
    rintro e w9 ⟨rfl, hb⟩
    replace hs := hs.keep hb
    go_wp2_with fail
    go_ret
    exact ⟨rfl, hs.1⟩
end Td
end Go.Proofs.YthdcklonamgpiaaGreat
