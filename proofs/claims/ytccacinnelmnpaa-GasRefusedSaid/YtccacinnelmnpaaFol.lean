import Derived.Test.YtccacinnelmnpaaChkC
import Derived.Test.YtccacinnelmnpaaPlainB
/- Following the levels minute by minute: the range over a function. -/
namespace Go.Proofs.Ytccacinnelmnpaa
open Go.RowKit
namespace Td
set_option linter.unusedSimpArgs false
set_option linter.unusedVariables false
attribute [local go_sem] Oper.semAt_some
/-- W' keeps what W has, but for the blocks from a to b, and for what is no cells and lies at c or beyond. -/
structure Kp (a b c : Nat) (W W' : World) : Prop where
  os : W'.os = W.os
  tape : W'.tape = W.tape
  output : W'.output = W.output
  size : W.heap.size ≤ W'.heap.size
  kept : ∀ (k : Nat) (o : Obj), W.heap[k]? = some o → ¬ (a ≤ k ∧ k < b) → (o.isCells = true ∨ k < c) → W'.heap[k]? = some o
theorem Kp.of {a b c : Nat} {W W' : World} (h : Below W.heap.size W W') : Kp a b c W W' :=
  ⟨h.os, h.tape, h.output, h.size, fun k o hk _ _ => (h.block k (Array.getElem?_eq_some_iff.1 hk).1).trans hk⟩
theorem Kp.refl (a b c : Nat) (W : World) : Kp a b c W W := .of (Below.refl _ _)
theorem Kp.trans {a b c : Nat} {A B C : World} (h : Kp a b c A B) (k : Kp a b c B C) : Kp a b c A C :=
  ⟨k.os.trans h.os, k.tape.trans h.tape, k.output.trans h.output, Nat.le_trans h.size k.size, fun i o hi hn hc => k.kept i o (h.kept i o hi hn hc) hn hc⟩
theorem Kp.put {a b c : Nat} (W : World) (l : Nat) (o o' : Obj) (hl : c ≤ l) (hg : W.heap[l]? = some o) (hc : o.isCells = false) : Kp a b c W (W.putObj l o') :=
  ⟨rfl, rfl, rfl, by simp [World.putObj], fun k u hk _ hu => by
    by_cases hkl : k = l
    · subst hkl
      rw [hg] at hk
      cases hk
      rcases hu with hu | hu
      · rw [hc] at hu; cases hu
      · omega
    · exact (World.putObj_heap_other (fun e => hkl e)).trans hk⟩
theorem Kp.setCell {a b c : Nat} {A W : World} (h : Kp a b c A W) (g i : Nat) (v : Value) (ha : a ≤ g) (hb : g < b) : Kp a b c A (W.setCell ⟨g, i, none⟩ v) :=
  ⟨h.os, h.tape, h.output, by simpa using h.size, fun k o hk hn hc => (heap_setCell_other W ⟨g, i, none⟩ k v (fun e => hn (by subst e; exact ⟨ha, hb⟩))).trans (h.kept k o hk hn hc)⟩
theorem Kp.row {a b c : Nat} {A W : World} (h : Kp a b c A W) (g : Nat) (cs : Array Value) (ha : a ≤ g) (hb : g < b) : Kp a b c A (W.setRow g cs) :=
  ⟨h.os, h.tape, h.output, by rw [size_setRow]; exact h.size, fun k o hk hn hc => (setRow_other W g k cs (fun e => hn (by subst e; exact ⟨ha, hb⟩))).trans (h.kept k o hk hn hc)⟩
theorem Kp.then {a b c : Nat} {A W W' : World} (h : Kp a b c A W) (hb : Below W.heap.size W W') : Kp a b c A W' := h.trans (.of hb)
theorem Blk.kp {a b c : Nat} {W W' : World} {g : Nat} {t : TypeId} {cs : Array Value} (h : Blk W g t cs) (k : Kp a b c W W') (hg : ¬ (a ≤ g ∧ g < b)) : Blk W' g t cs := k.kept g _ h hg (.inl rfl)
theorem AllFrom.kp {β : Type} {a b c B : Nat} {w₀ : World} (hB : w₀.heap.size ≤ B) : AllFrom B (fun (_ : β) W => Kp a b c w₀ W) :=
  fun _ W W' row hs hg hr => ⟨hg.os.trans hs.os, hg.tape.trans hs.tape, hg.output.trans hs.output, Nat.le_trans hs.size hg.size, fun k o hk hn hc =>
    (hg.block k (Nat.lt_of_lt_of_le (Array.getElem?_eq_some_iff.1 hk).1 hs.size) (fun e => by have := hr k e.symm; have := (Array.getElem?_eq_some_iff.1 hk).1; omega)).trans (hs.kept k o hk hn hc)⟩
theorem AllFrom.keep {β : Type} {B : Nat} {I : β → World → Prop} (h : AllFrom B I) {s : β} {W W' : World} (hs : I s W) (hb : Below W.heap.size W W') : I s W' :=
  h s W W' none hs ⟨hb.os, hb.tape, hb.output, hb.size, fun k hk _ => hb.block k hk⟩ (fun r e => by cases e)
theorem AllFrom.row {β : Type} {B : Nat} {I : β → World → Prop} (h : AllFrom B I) {s : β} {W : World} (g : Nat) (cs : Array Value) (hs : I s W) (hB : B ≤ g) : I s (W.setRow g cs) :=
  h s W _ (some g) hs ⟨rfl, rfl, rfl, by simp, fun k hk hne => setRow_other W g k cs (fun e => hne (by rw [e]))⟩ (fun r e => by cases e; exact hB)
/-- the iterator's boxes, and what it follows, as far as rounds leave them. -/
structure Cx (a b c : Nat) (w₀ : World) (gS gM gL : Nat) (s : Spc) (m : Sl) (M : Option Nat) (rs : List Rd) (mi : Int) (o : Option (Int × Int)) : Prop where
  sb : Blk w₀ gS 93 (wV s m M)
  mb : Blk w₀ gM 3 #[.int .i64 mi]
  lb : Blk w₀ gL 95 (lV o)
  nS : ¬ (a ≤ gS ∧ gS < b)
  nM : ¬ (a ≤ gM ∧ gM < b)
  nL : ¬ (a ≤ gL ∧ gL < b)
  sa : ∀ W, Kp a b c w₀ W → SAt W m s
  mp : ∀ W, Kp a b c w₀ W → Mp W M rs
  ok : SOk s
  vd : Vd o
  ro : ∀ r ∈ rs, ROk s r
  rl : rs.length ≤ 1000
  m0 : 0 ≤ mi
  m1 : mi ≤ 60
/-- minutes that are yielded: so far there are levels. -/
def Some_ (s : Spc) (rs : List Rd) (mi : Int) (o : Option (Int × Int)) (k : Nat) : Prop := ∀ j, j < k → (lv s rs mi o j).isSome = true ∧ mi + j ≤ 60
def Ended (s : Spc) (rs : List Rd) (mi : Int) (o : Option (Int × Int)) (k : Nat) : Prop := Some_ s rs mi o k ∧ (lv s rs mi o k = none ∨ 60 < mi + k)
def Next_ (s : Spc) (rs : List Rd) (mi : Int) (o : Option (Int × Int)) (pre : List Nat) (x : Nat) : Prop := pre = List.range x ∧ Some_ s rs mi o (x + 1)
abbrev encF (s : Spc) (rs : List Rd) (mi : Int) (o : Option (Int × Int)) (k : Nat) : Array Value := #[.int .i64 (mi + (k : Int)), .agg (lV (lv s rs mi o k))]
theorem Some_.succ {s : Spc} {rs : List Rd} {mi : Int} {o : Option (Int × Int)} {k : Nat} (h : Some_ s rs mi o k) (h1 : (lv s rs mi o k).isSome = true) (h2 : mi + k ≤ 60) : Some_ s rs mi o (k + 1) := fun j hj => by
  by_cases e : j < k
  · exact h j e
  · obtain rfl : j = k := by omega
    exact ⟨h1, h2⟩
theorem follow_c (s : Spc) (m : Sl) (M : Option Nat) (mi : Int) (o : Option (Int × Int)) (w : World) :
    Calls Try.prog 79 #[.agg (wV s m M), .int .i64 mi, .agg (lV o)] w fun e w' =>
      e = .returned (.func (.func 93) #[] #[.pointer (some ⟨w.heap.size + 1 + 1, 0, none⟩), .pointer (some ⟨w.heap.size + 1, 0, none⟩), .pointer (some ⟨w.heap.size, 0, none⟩)]) ∧ ((w.alloc (.cells (wV s m M) 93)).alloc (.cells #[.int .i64 mi] 3)).alloc (.cells (lV o) 95) = w' := by
  obtain ⟨p, q, r, hv⟩ := lV_ex o
  rw [hv]
  go_enter Try.func79, Try.ntmps79
  go_wp2
  go_ret
  exact ⟨rfl, rfl⟩
set_option maxRecDepth 100000 in
set_option maxHeartbeats 4000000 in
theorem follow1_in (n : Nat) (hn : 1 ≤ n) {a b c : Nat} {w₀ : World} {gS gM gL : Nat} {s : Spc} {m : Sl} {M : Option Nat} {rs : List Rd} {mi : Int} {o : Option (Int × Int)} (C : Cx a b c w₀ gS gM gL s m M rs mi o)
    (l : Nat) (J Jx : List Nat → World → Prop) (Y : World) (hb : b ≤ w₀.heap.size) (hW : Below w₀.heap.size w₀ Y) (hJ : AllFrom Y.heap.size J)
    (hY : ∀ pre x W1, J pre W1 → Next_ s rs mi o pre x → YieldAt Fence.wide (n - 1) Try.prog l (encF s rs mi o x) W1 fun e Y' =>
      (e = .returned (.bool true) ∧ J (pre ++ [x]) Y' ∧ Kp a b c W1 Y') ∨ (e = .returned (.bool false) ∧ Jx (pre ++ [x]) Y'))
    (h0 : J [] Y) :
    CallsIn Fence.wide n Try.prog 93 #[.func (.yield l) #[] #[], .pointer (some ⟨gL, 0, none⟩), .pointer (some ⟨gM, 0, none⟩), .pointer (some ⟨gS, 0, none⟩)] Y fun e Y' =>
      (∃ v, e = .returned v) ∧ ((∃ xs, (∃ k, xs = List.range k ∧ Ended s rs mi o k) ∧ J xs Y') ∨ (∃ pre, (∃ k, pre = List.range (k + 1) ∧ Some_ s rs mi o (k + 1)) ∧ Jx pre Y')) := by
  have hsz := hW.size
  have hs := C.ok
  have hm0 := C.m0
  have hm1 := C.m1
  have hKW : Kp a b c w₀ Y := .of hW
  obtain ⟨p0, q0, r0, hv0⟩ := lV_ex o
  have bL := C.lb.kp hKW C.nL
  have bM := C.mb.kp hKW C.nM
  rw [hv0] at bL
  obtain ⟨c0, c1, c2⟩ := bL.lev
  have d0 := (bM.alloc (.cells #[.int .i64 p0, .int .i64 q0, .bool r0] 95)).cell 0
  simp only [List.getElem?_toArray, List.getElem?_cons_zero] at d0
  refine callsIn_of_wp Try.func93 rfl trivial ?_ rfl
  simp only [Try.ntmps93, List.size_toArray, List.length_cons, List.length_nil, Nat.reduceAdd, Nat.reduceSub, Array.replicate_succ, Array.replicate_zero, List.push_toArray, List.append_toArray, List.nil_append, List.cons_append]
  have HV0 := Lib.hid hv0
  clear hv0
  gi_wp2
  clear c0 c1 c2 d0
  gi_loopw [6] (fun i wr => ∃ k : Nat, i = .int .i64 (mi + (k : Int)) ∧ mi + k ≤ 61 ∧ Some_ s rs mi o k ∧ J (List.range k) wr ∧ Kp a b c w₀ wr ∧ Y.heap.size < wr.heap.size ∧ Hid (Blk wr Y.heap.size 95 (lV (pre s rs mi o k)))) (fun i _ => 61 - (intOf i).toNat)
  case atStart => exact ⟨0, by simp, by omega, fun j hj => absurd hj (by omega), hJ.alloc _ h0, hKW.then ((Below.refl _ _).alloc (Nat.le_refl _) _), by simp, Lib.hid (by show Blk _ _ _ (lV o); rw [HV0.out]; exact Blk.new _ _ _)⟩
  case round =>
    obtain ⟨k, rfl, hk61, hSo, hJk, hKp, hzr, HN⟩ := hrel
    by_cases h60 : mi + (k : Int) ≤ 60
    · obtain ⟨p1, q1, r1, hv1⟩ := lV_ex (pre s rs mi o k)
      have hAG := agreeing_c s m M rs (mi + (k : Int)) (pre s rs mi o k) wr hs (C.sa wr hKp) (C.mp wr hKp) C.ro C.rl
      rw [hv1] at HN hAG
      rw [← lv_eq] at hAG
      clear hv1
      have bS := C.sb.kp hKp C.nS
      obtain ⟨d0, d1, d2, d3, d4, d5, d6, d7, d8, d9⟩ := bS.watch
      obtain ⟨c0, c1, c2⟩ := HN.out.lev
      refine wpIn_wide.2 ?_
      go_wp2_with fail
      refine hAG.mono ?_
      clear hAG
      rintro e w2 ⟨rfl, hb2⟩
      have hK2 := hKp.then hb2
      have hN2 := HN.out.keep hb2
      have hJ2 := hJ.keep hJk hb2
      have hz2 := hb2.size
      clear c0 c1 c2 d0 d1 d2 d3 d4 d5 d6 d7 d8 d9 HN bS
      cases hlv : lv s rs mi o k with
      | none =>
        have hN := fun w => eqNone w
        simp only [lV]
        go_upto_region 5 with (refine wpList_store_row rfl 95 _ _ rfl (Y.heap.size) _ rfl rfl 95 _ hN2 (by kernel_rfl) rfl (by simp [Value.oneCell']) ?_)
        obtain ⟨e0, e1, e2⟩ := (hN2.row #[.int .i64 0, .int .i64 0, .bool false]).lev
        obtain ⟨w3, hw3⟩ : ∃ w3, w2.setRow Y.heap.size #[.int .i64 0, .int .i64 0, .bool false] = w3 := ⟨_, rfl⟩
        have hJ3 : J (List.range k) w3 := by rw [← hw3]; exact hJ.row _ _ hJ2 (Nat.le_refl _)
        rw [hw3] at e0 e1 e2 ⊢
        clear hw3
        go_wp2_with fail
        refine bodyPost_ret (results_none rfl _ _ _) rfl ?_
        exact ⟨⟨_, rfl⟩, .inl ⟨_, ⟨k, rfl, hSo, .inl hlv⟩, hJ3⟩⟩
      | some x =>
        have hX := fun w => eqSome x.1 x.2 w
        simp only [lV]
        go_upto_region 5 with (refine wpList_store_row rfl 95 _ _ rfl (Y.heap.size) _ rfl rfl 95 _ hN2 (by kernel_rfl) rfl (by simp [Value.oneCell']) ?_)
        have bN3 := hN2.row #[.int .i64 x.1, .int .i64 x.2, .bool true]
        obtain ⟨e0, e1, e2⟩ := bN3.lev
        obtain ⟨w3, hw3⟩ : ∃ w3, w2.setRow Y.heap.size #[.int .i64 x.1, .int .i64 x.2, .bool true] = w3 := ⟨_, rfl⟩
        have hJ3 : J (List.range k) w3 := by rw [← hw3]; exact hJ.row _ _ hJ2 (Nat.le_refl _)
        have hK3 : Kp a b c w₀ w3 := by
          rw [← hw3]
          exact ⟨hK2.os, hK2.tape, hK2.output, by rw [size_setRow]; exact hK2.size, fun i u hi hn' hc' => (setRow_other w2 Y.heap.size i _ (fun e => by have := (Array.getElem?_eq_some_iff.1 hi).1; omega)).trans (hK2.kept i u hi hn' hc')⟩
        have hz3 : w2.heap.size = w3.heap.size := by rw [← hw3, size_setRow]
        rw [hw3] at e0 e1 e2 bN3 ⊢
        have BN3 := Lib.hid bN3
        clear hw3 bN3 hN2 hJ2 hK2
        have hS1 : Some_ s rs mi o (k + 1) := hSo.succ (by rw [hlv]; rfl) h60
        obtain ⟨fn, tmps, assign, body, hy, hR⟩ := hY (List.range k) k w3 hJ3 ⟨rfl, hS1⟩
        dsimp only [encF] at hy
        rw [hlv] at hy
        simp only [lV] at hy
        refine (wpIn_wide (n := n)).1 ?_
        gi_wp2
        refine hR.mono ?_
        clear hR hy
        rintro e W3 (⟨rfl, hJ4, hk4⟩ | ⟨rfl, hJx4⟩)
        · have hN3 := BN3.out.kp hk4 (by omega)
          have hK4 := hK3.trans hk4
          have hS3 := C.sb.kp hK4 C.nS
          have hA3 := C.sa W3 hK4
          have hz4 := hk4.size
          clear e0 e1 e2
          gi_wp2
          obtain ⟨p, q, r, hv⟩ := lV_ex (aft x (chg s (mi + (k : Int))))
          have HV := Lib.hid hv
          clear hv
          have hvx := vd_lv (m := mi) (l := rs) C.vd k x hlv
          have hch := chg_ok hs (mi + (k : Int))
          go_wp2_with fail
          refine Vals6.regionAll (fun X => Blk X Y.heap.size 95 #[.int .i64 x.1, .int .i64 x.2, .bool true] ∧ Blk X gS 93 (wV s m M) ∧ SAt X m s ∧ Since W3 X) [some 27, some 28, some 29, some 30, some 31] [.is (.agg #[.int .i64 x.1, .int .i64 x.2, .bool true]), .is (.agg (wV s m M)), .is (.int .i64 (mi + (k : Int))), .is (.agg #[.int .i64 (chg s (mi + (k : Int))).1, .int .i64 (chg s (mi + (k : Int))).2]), .is (.agg #[.int .i64 p, .int .i64 q, .bool r])] (by kernel_rfl) rfl rfl (by kernel_rfl) (by kernel_rfl) (by kernel_rfl) (by kernel_rfl) (by kernel_rfl) (by kernel_rfl) (by kernel_rfl) (⟨hN3.drew, hS3.drew, hA3.keep (Below.refl _ _).drew, (Since.refl W3).drew⟩) ?_ ?_
          · refine Vals5.Steps.run (by kernel_rfl) (Vals5.Stable.is _) ?_ ?_
            · intro a W hS pre old K hK
              have e5 : a.tmps.getD 5 undef = .pointer (some ⟨Y.heap.size, 0, none⟩) := old 5 _ (by kernel_rfl) rfl
              clear pre old
              simp only [Array.getD_eq_getD_getElem?] at e5
              have hS9 := hS
              obtain ⟨l1, l2, _, _⟩ := hS9
              have c0 := l1.cell 0
              have c1 := l1.cell 1
              have c2 := l1.cell 2
              simp only [List.getElem?_toArray, List.getElem?_cons_zero, List.getElem?_cons_succ] at c0 c1 c2
              obtain ⟨d0, d1, d2, d3, d4, d5, d6, d7, d8, d9⟩ := l2.watch
              go_simp
              exact hK _ _ hS (Below.refl _ _) rfl
            refine Vals5.Steps.run (by kernel_rfl) (Vals5.Stable.is _) ?_ ?_
            · intro a W hS pre old K hK
              have e3 : a.tmps.getD 3 undef = .pointer (some ⟨gS, 0, none⟩) := old 3 _ (by kernel_rfl) rfl
              clear pre old
              simp only [Array.getD_eq_getD_getElem?] at e3
              have hS9 := hS
              obtain ⟨l1, l2, _, _⟩ := hS9
              have c0 := l1.cell 0
              have c1 := l1.cell 1
              have c2 := l1.cell 2
              simp only [List.getElem?_toArray, List.getElem?_cons_zero, List.getElem?_cons_succ] at c0 c1 c2
              obtain ⟨d0, d1, d2, d3, d4, d5, d6, d7, d8, d9⟩ := l2.watch
              go_simp
              exact hK _ _ hS (Below.refl _ _) rfl
            refine Vals5.Steps.run (by kernel_rfl) (Vals5.Stable.is _) ?_ ?_
            · intro a W hS pre old K hK
              have e6 : a.tmps.getD 6 undef = .int .i64 (mi + (k : Int)) := old 6 _ (by kernel_rfl) rfl
              clear pre old
              simp only [Array.getD_eq_getD_getElem?] at e6
              go_simp
              exact hK _ _ hS (Below.refl _ _) rfl
            refine Vals5.Steps.run (by kernel_rfl) (Vals5.Stable.is _) ?_ ?_
            · intro a W hS pre old K hK
              have e28 : a.tmps.getD 28 undef = .agg (wV s m M) := pre 1 28 _ (by kernel_rfl) rfl rfl
              have e29 : a.tmps.getD 29 undef = .int .i64 (mi + (k : Int)) := pre 2 29 _ (by kernel_rfl) rfl rfl
              clear pre old
              simp only [Array.getD_eq_getD_getElem?] at e28 e29
              go_simp
              refine (change_c s m M (mi + (k : Int)) _ (by have := hs.nb; omega) hS.2.2.1.bl).mono ?_
              rintro e w' ⟨rfl, hb'⟩
              obtain ⟨h1, h2, h3, h4⟩ := hS
              exact hK _ _ ⟨h1.keep hb', h2.keep hb', h3.keep hb', h4.keep hb'⟩ hb' rfl
            refine Vals5.Steps.run (by kernel_rfl) (Vals5.Stable.is _) ?_ ?_
            · intro a W hS pre old K hK
              have e27 : a.tmps.getD 27 undef = .agg #[.int .i64 x.1, .int .i64 x.2, .bool true] := pre 0 27 _ (by kernel_rfl) rfl rfl
              have e30 : a.tmps.getD 30 undef = .agg #[.int .i64 (chg s (mi + (k : Int))).1, .int .i64 (chg s (mi + (k : Int))).2] := pre 3 30 _ (by kernel_rfl) rfl rfl
              clear pre old
              simp only [Array.getD_eq_getD_getElem?] at e27 e30
              go_simp
              refine (after_c x (chg s (mi + (k : Int))) _ (by omega) (by omega) (by omega) (by omega) (by omega) (by omega) (by omega) (by omega)).mono ?_
              rintro e w' ⟨rfl, hb'⟩
              obtain ⟨h1, h2, h3, h4⟩ := hS
              exact hK _ _ ⟨h1.keep hb', h2.keep hb', h3.keep hb', h4.keep hb'⟩ hb' (by show Value.agg _ = Value.agg _; rw [HV.out])
            exact Vals5.Steps.nil
          rintro X ⟨h1, h2, h3, h4⟩
          simp only [Vals5.All, List.getLast_cons_cons, List.getLast_singleton]
          simp only [Vals.putAll, List.setIfInBounds_toArray, List.set_cons_zero, List.set_cons_succ]
          intro K hK
          refine wp_store_row 95 _ _ rfl Y.heap.size #[.int .i64 p, .int .i64 q, .bool r] rfl rfl 95 _ h1 (by kernel_rfl) rfl (by simp [Value.oneCell']) ?_
          refine hK _ _ ?_
          clear hK K
          have hN9 := h1.row #[.int .i64 p, .int .i64 q, .bool r]
          have hJ9 : J (List.range (k + 1)) (X.setRow Y.heap.size #[.int .i64 p, .int .i64 q, .bool r]) := hJ.row _ _ (hJ.keep (by rw [List.range_succ]; exact hJ4) h4.1) (Nat.le_refl _)
          have hK9 : Kp a b c w₀ (X.setRow Y.heap.size #[.int .i64 p, .int .i64 q, .bool r]) := by
            have hKX := hK4.then h4.1
            exact ⟨hKX.os, hKX.tape, hKX.output, by rw [size_setRow]; exact hKX.size, fun i u hi hn' hc' => (setRow_other X Y.heap.size i _ (fun e => by have := (Array.getElem?_eq_some_iff.1 hi).1; omega)).trans (hKX.kept i u hi hn' hc')⟩
          have hpre : pre s rs mi o (k + 1) = aft x (chg s (mi + (k : Int))) := by rw [pre, hlv]; rfl
          have hz9 := h4.2
          go_wp2_with fail
          go_roundw
          case rel => exact ⟨k + 1, by congr 1; push_cast; omega, by push_cast; omega, hS1, hJ9, hK9, by rw [size_setRow]; omega, Lib.hid (by rw [hpre, HV.out]; exact hN9)⟩
          case measure => simp [intOf]; omega
        · gi_wp2
          go_wp2_with fail
          refine bodyPost_ret (results_none rfl _ _ _) rfl ?_
          exact ⟨⟨_, rfl⟩, .inr ⟨_, ⟨k, rfl, hS1⟩, by rw [List.range_succ]; exact hJx4⟩⟩
    · gi_wp2
      go_end0
      exact ⟨⟨_, rfl⟩, .inl ⟨_, ⟨k, rfl, hSo, .inr (by omega)⟩, hJk⟩⟩
end Td
end Go.Proofs.Ytccacinnelmnpaa
