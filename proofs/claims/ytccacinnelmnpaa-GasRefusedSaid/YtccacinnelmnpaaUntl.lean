import Derived.Test.YtccacinnelmnpaaFol
/- Until when a torch may burn. -/
namespace Go.Proofs.Ytccacinnelmnpaa
open Go.RowKit
namespace Td
set_option linter.unusedSimpArgs false
set_option linter.unusedVariables false
attribute [local go_sem] Oper.semAt_some
theorem follow_seq (n : Nat) (hn : 1 ≤ n) {a b c : Nat} {w₀ : World} {gS gM gL : Nat} {s : Spc} {m : Sl} {M : Option Nat} {rs : List Rd} {mi : Int} {o : Option (Int × Int)} (C : Cx a b c w₀ gS gM gL s m M rs mi o) (hb : b ≤ w₀.heap.size) :
    SeqC Fence.wide n Try.prog 93 #[.pointer (some ⟨gL, 0, none⟩), .pointer (some ⟨gM, 0, none⟩), .pointer (some ⟨gS, 0, none⟩)] (encF s rs mi o) (Kp a b c) (fun xs => ∃ k, xs = List.range k ∧ Ended s rs mi o k) (fun pre => ∃ k, pre = List.range (k + 1) ∧ Some_ s rs mi o (k + 1)) (Next_ s rs mi o) w₀ :=
  fun l J Jx W hW hJ hJx hY h0 => follow1_in n hn C l J Jx W hb hW hJ hY h0
theorem lead_of {p : Nat → Bool} {n k : Nat} (h0 : ∀ j, j < k → p j = true) (h : k = n ∨ (k < n ∧ p k = false)) : lead p n = k := by
  unfold lead
  have hsp : List.range n = List.range k ++ List.range' k (n - k) := by
    have e : List.range n = List.range' 0 (k + (n - k)) := by rw [List.range_eq_range']; congr 1; omega
    rw [e, ← List.range'_append_1, ← List.range_eq_range', Nat.zero_add]
  rw [hsp, List.takeWhile_append_of_pos (by intro a ha; exact h0 a (List.mem_range.1 ha))]
  rcases h with h | ⟨h1, h2⟩
  · subst h; simp
  · obtain ⟨d, hd⟩ : ∃ d, n - k = d + 1 := ⟨n - k - 1, by omega⟩
    rw [hd, List.range'_succ, List.takeWhile_cons, h2]
    simp
/-- the last minute so far. -/
def lastM (mi : Int) (k : Nat) : Int := if k = 0 then -1 else mi + k - 1
theorem untl_of {s : Spc} {rs : List Rd} {mi : Int} {o : Option (Int × Int)} {k : Nat} (h0 : 0 ≤ mi) (h1 : mi ≤ 60) (hk : mi + k ≤ 61) (hg : ∀ j, j < k → good s rs mi o j = true) (h : mi + k = 61 ∨ good s rs mi o k = false) : untl s rs mi o = lastM mi k := by
  have hl : lead (good s rs mi o) (61 - mi).toNat = k := by
    refine lead_of hg ?_
    rcases h with h | h
    · left; omega
    · by_cases e : mi + k = 61
      · left; omega
      · right; exact ⟨by omega, h⟩
  unfold untl lastM
  rw [hl]
/-- so far no level is above the limit. -/
def PG (s : Spc) (rs : List Rd) (mi : Int) (o : Option (Int × Int)) (pre : List Nat) : Prop := ∀ j, j < pre.length → good s rs mi o j = true
theorem below_kp {w W X : World} {a b c : Nat} (h : Below w.heap.size w W) (k : Kp a b c W X) (hn : w.heap.size ≤ a ∧ w.heap.size ≤ c) : Below w.heap.size w X :=
  ⟨k.os.trans h.os, k.tape.trans h.tape, k.output.trans h.output, Nat.le_trans h.size k.size, fun i hi => by
    have hiW : i < W.heap.size := Nat.lt_of_lt_of_le hi h.size
    have e : W.heap[i]? = some W.heap[i] := Array.getElem?_eq_getElem hiW
    exact (k.kept i _ e (by omega) (.inr (by omega))).trans (e.symm.trans (h.block i hi))⟩
set_option maxRecDepth 100000 in
set_option maxHeartbeats 4000000 in
theorem until_c (s : Spc) (m : Sl) (M : Option Nat) (rs : List Rd) (mi : Int) (o : Option (Int × Int)) (w : World) (hs : SOk s) (ho : Vd o) (hr : ∀ r ∈ rs, ROk s r) (hrl : rs.length ≤ 1000) (hsa : SAt w m s) (hm : Mp w M rs) (h0 : 0 ≤ mi) (h1 : mi ≤ 60) :
    Calls Try.prog 51 #[.agg (wV s m M), .int .i64 mi, .agg (lV o)] w fun e w' => e = .returned (.int .i64 (untl s rs mi o)) ∧ Below w.heap.size w w' := by
  obtain ⟨p0, q0, r0, hv0⟩ := lV_ex o
  have HV0 := Lib.hid hv0
  refine (callsIn_wide (n := 6)).1 ?_
  refine callsIn_of_wp_marks Try.func51 rfl trivial ?_ rfl
  rw [hv0]
  clear hv0
  simp only [Try.ntmps51, List.size_toArray, List.length_cons, List.length_nil, Nat.reduceAdd, Nat.reduceSub, Array.replicate_succ, Array.replicate_zero, List.push_toArray, List.append_toArray, List.nil_append, List.cons_append]
  refine wpIn_wide.2 ?_
  have hsn0 := (((Since.refl w).alloc (.cells (wV s m M) 93)).alloc (.cells #[.int .i64 p0, .int .i64 q0, .bool r0] 95)).alloc (.cells #[.int .i64 (-1)] 3)
  have bS0 := ((Blk.new w 93 (wV s m M)).alloc (.cells #[.int .i64 p0, .int .i64 q0, .bool r0] 95)).alloc (.cells #[.int .i64 (-1)] 3)
  have bT0 := Blk.new2 w (.cells (wV s m M) 93) (.cells #[.int .i64 p0, .int .i64 q0, .bool r0] 95) 3 #[.int .i64 (-1)]
  go_wp2_with fail
  have hF := follow_c s m M mi o (((w.alloc (.cells (wV s m M) 93)).alloc (.cells #[.int .i64 p0, .int .i64 q0, .bool r0] 95)).alloc (.cells #[.int .i64 (-1)] 3))
  rw [HV0.out] at hF
  refine hF.mono ?_
  clear hF
  rintro e w0 ⟨rfl, hw0⟩
  have hz0 : w0.heap.size = w.heap.size + 6 := by rw [← hw0]; simp
  have hsn1 : Since w w0 := by rw [← hw0]; exact ((hsn0.alloc _).alloc _).alloc _
  have bS1 : Blk w0 w.heap.size 93 (wV s m M) := by rw [← hw0]; exact ((bS0.alloc _).alloc _).alloc _
  have bT1 : Blk w0 (w.heap.size + 1 + 1) 3 #[.int .i64 (-1)] := by rw [← hw0]; exact ((bT0.alloc _).alloc _).alloc _
  have C : Cx (w.heap.size + 1 + 1) (w.heap.size + 1 + 1 + 1) w0.heap.size w0 (w.heap.size + 1 + 1 + 1) (w.heap.size + 1 + 1 + 1 + 1) (w.heap.size + 1 + 1 + 1 + 1 + 1) s m M rs mi o := by
    refine ⟨?_, ?_, ?_, by omega, by omega, by omega, ?_, ?_, hs, ho, hr, hrl, h0, h1⟩
    · rw [← hw0]
      have := Blk.new (((w.alloc (.cells (wV s m M) 93)).alloc (.cells #[.int .i64 p0, .int .i64 q0, .bool r0] 95)).alloc (.cells #[.int .i64 (-1)] 3)) 93 (wV s m M)
      simp only [World.size_alloc] at this
      exact (this.alloc _).alloc _
    · rw [← hw0]
      have := Blk.new1 (((w.alloc (.cells (wV s m M) 93)).alloc (.cells #[.int .i64 p0, .int .i64 q0, .bool r0] 95)).alloc (.cells #[.int .i64 (-1)] 3)) (.cells (wV s m M) 93) 3 #[.int .i64 mi]
      simp only [World.size_alloc] at this
      exact this.alloc _
    · rw [← hw0, HV0.out]
      have := Blk.new2 (((w.alloc (.cells (wV s m M) 93)).alloc (.cells #[.int .i64 p0, .int .i64 q0, .bool r0] 95)).alloc (.cells #[.int .i64 (-1)] 3)) (.cells (wV s m M) 93) (.cells #[.int .i64 mi] 3) 95 #[.int .i64 p0, .int .i64 q0, .bool r0]
      simp only [World.size_alloc] at this
      exact this
    · intro W hW
      exact hsa.keep (below_kp hsn1.1 hW (by omega))
    · intro W hW
      exact hm.keep (below_kp hsn1.1 hW (by omega))
  clear hsn0 bS0 bT0 hw0
  go_wp2_with fail
  refine (wpIn_wide (n := 6)).1 ?_
  refine rangeFunc_c (w := w0) rfl (by omega) (gf := 93) (lb := #[.pointer (some ⟨w.heap.size + 1 + 1 + 1 + 1 + 1, 0, none⟩), .pointer (some ⟨w.heap.size + 1 + 1 + 1 + 1, 0, none⟩), .pointer (some ⟨w.heap.size + 1 + 1 + 1, 0, none⟩)]) rfl trivial (enters_of Try.func93 (by kernel_rfl) rfl)
    (follow_seq _ (by omega) C (by omega)) Kp.trans (fun W l o o' hl hg hc _ => Kp.put W l o o' (by omega) hg hc) (Below.refl _ _) (fun _ => rfl)
    (fun pre W => ((Blk W (w.heap.size + 1 + 1) 3 #[.int .i64 (lastM mi pre.length)] ∧ Blk W w.heap.size 93 (wV s m M)) ∧ PG s rs mi o pre) ∧ Below w.heap.size w W)
    (fun c _ W => (c = .exit 0 ∧ Blk W (w.heap.size + 1 + 1) 3 #[.int .i64 (untl s rs mi o)]) ∧ Below w.heap.size w W)
    ((((AllFrom.blk (by omega) _ _).and (AllFrom.blk (by omega) _ _)).and (AllFrom.pure _ _)).and (AllFrom.below (Nat.le_refl _) (by omega)))
    (fun _ => ((AllFrom.pure _ _).and (AllFrom.blk (by omega) _ _)).and (AllFrom.below (Nat.le_refl _) (by omega)))
    ⟨⟨⟨bT1, bS1⟩, fun j hj => absurd hj (by simp)⟩, hsn1.1⟩
    (fun x a' W => ∃ Bx, w.heap.size + 1 + 1 < Bx ∧ Blk W Bx 95 (lV (lv s rs mi o x)) ∧ a' = { tmps := #[.agg (wV s m M), .int .i64 mi, .agg #[.int .i64 p0, .int .i64 q0, .bool r0], .pointer (some ⟨w.heap.size, 0, none⟩), undef, .pointer (some ⟨w.heap.size + 1, 0, none⟩), .int .i64 0, .pointer (some ⟨w.heap.size + 1 + 1, 0, none⟩), .int .i64 (mi + (x : Int)), .pointer (some ⟨Bx, 0, none⟩), .agg (wV s m M), .int .i64 mi, .agg #[.int .i64 p0, .int .i64 q0, .bool r0], .func (.func 93) #[] #[.pointer (some ⟨w.heap.size + 1 + 1 + 1 + 1 + 1, 0, none⟩), .pointer (some ⟨w.heap.size + 1 + 1 + 1 + 1, 0, none⟩), .pointer (some ⟨w.heap.size + 1 + 1 + 1, 0, none⟩)], .int .i64 (mi + (x : Int)), .agg (lV (lv s rs mi o x)), undef, undef, undef, undef, undef, undef, undef, undef, undef], defers := [] })
    (fun x a' _ X Y row hs hg hr => by
      obtain ⟨Bx, h1, h2, h3⟩ := hs
      exact ⟨Bx, h1, h2.grown hg (fun e => by obtain ⟨_, o, ho, hc⟩ := hr Bx e.symm; rw [show X.heap[Bx]? = _ from h2] at ho; cases ho; cases hc), h3⟩)
    ?assign ?body ?done ?stop
  case assign =>
    rintro l pre x W K ⟨⟨⟨i1, i2⟩, i3⟩, i5⟩ hK
    obtain ⟨p1, q1, r1, hv1⟩ := lV_ex (lv s rs mi o x)
    dsimp only [encF]
    rw [hv1] at hK ⊢
    gi_wp2
    exact hK _ _ ((KeepsOthers.alloc _ _).from _) (.of ((Below.refl _ W).alloc (Nat.le_refl _) _)) ⟨⟨⟨i1.alloc _, i2.alloc _⟩, i3⟩, i5.alloc i5.size _⟩ ⟨W.heap.size, by have := i1.lt; omega, Blk.new W _ _, rfl⟩
  case body =>
    rintro l pre x a' W hl ⟨r, hr⟩ ⟨⟨⟨i1, i2⟩, i3⟩, i5⟩ ⟨Bx, hBx, bX, rfl⟩ ⟨rfl, hSx⟩
    have hx60 := (hSx x (by omega)).2
    cases hlv : lv s rs mi o x with
    | none => have := (hSx x (by omega)).1; rw [hlv] at this; cases this
    | some y =>
      try rw [hlv] at bX
      simp only [lV] at bX ⊢
      obtain ⟨e0, e1, e2⟩ := bX.lev
      obtain ⟨d0, d1, d2, d3, d4, d5, d6, d7, d8, d9⟩ := i2.watch
      have t0 := i1.cell 0
      have f0 := i1.frozen 0
      simp only [List.getElem?_toArray, List.getElem?_cons_zero] at t0
      have hxl : (List.range x).length = x := List.length_range
      rw [hxl] at t0
      by_cases hg : y.2 ≤ s.lim
      · have hgd : good s rs mi o x = true := by simp [good, hlv, hg]
        have hg' : ¬ s.lim < y.2 := by omega
        have HG := Lib.hid hgd
        have hlast : lastM mi (List.range x ++ [x]).length = mi + (x : Int) := by simp [lastM, hxl]; omega
        have HLA := Lib.hid hlast
        clear hgd hlast hg
        gi_wp2
        refine ⟨(KeepsOthers.setCell _ _ _).from _, (Kp.refl _ _ _ _).setCell _ _ _ (by omega) (by omega), ⟨⟨?_, i2.far (by omega) _ _⟩, fun j hj => ?_⟩, i5.setCell (p := ⟨w.heap.size + 1 + 1, 0, none⟩) (by simp; omega) _⟩
        · rw [HLA.out]
          exact i1.set 0 _
        · rw [List.length_append, List.length_singleton, hxl] at hj
          by_cases e : j < x
          · exact i3 j (by omega)
          · obtain rfl : j = x := by omega
            exact HG.out
      · have hgd : good s rs mi o x = false := by simp [good, hlv]; omega
        have hg' : s.lim < y.2 := by omega
        have HU : Hid (untl s rs mi o = lastM mi (List.range x).length) := untl_of h0 h1 (by omega) (fun j hj => i3 j hj) (.inr (by rw [hxl]; exact hgd))
        clear hg hgd
        gi_wp2
        exact ⟨⟨Nat.le_refl _, fun _ _ _ h _ => h⟩, ⟨rfl, by rw [HU.out]; exact i1⟩, i5⟩
  case done =>
    rintro D xs W hD ⟨k, rfl, hE⟩ ⟨⟨⟨i1, i2⟩, i3⟩, i5⟩ hK
    have hk : mi + (k : Int) ≤ 61 := by
      rcases Nat.eq_zero_or_pos k with e | e
      · omega
      · have := (hE.1 (k - 1) (by omega)).2; omega
    have HU : Hid (untl s rs mi o = lastM mi (List.range k).length) := by
      show _ = _
      rw [List.length_range]
      refine untl_of h0 h1 hk (fun j hj => i3 j (by rw [List.length_range]; exact hj)) ?_
      rcases hE.2 with h | h
      · right; simp [good, h]
      · left; omega
    rw [← HU.out] at i1
    have t0 := i1.cell 0
    have f0 := i1.frozen 0
    simp only [List.getElem?_toArray, List.getElem?_cons_zero] at t0
    go_wp2_with fail
    refine ⟨by simp, .inl ⟨_, _, rfl, run_takeDeferred hK, ?_⟩⟩
    exact ⟨_, results_tmp rfl _ _ _, rfl, i5.trans (belowK_b (w := w) (Nat.le_refl _) _ D _ _ (by omega) hK rfl rfl)⟩
  case stop =>
    rintro D c pre W hD ⟨k, rfl, hE⟩ ⟨⟨rfl, i1⟩, i5⟩ hK
    have t0 := i1.cell 0
    have f0 := i1.frozen 0
    simp only [List.getElem?_toArray, List.getElem?_cons_zero] at t0
    gi_wp2
    go_wp2_with fail
    refine ⟨by simp, .inl ⟨_, _, rfl, run_takeDeferred hK, ?_⟩⟩
    exact ⟨_, results_tmp rfl _ _ _, rfl, i5.trans (belowK_b (w := w) (Nat.le_refl _) _ D _ _ (by omega) hK rfl rfl)⟩
end Td
end Go.Proofs.Ytccacinnelmnpaa
