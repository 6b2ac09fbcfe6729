import Derived.Test.YthdcklonamgpiaaAns
import Derived.Test.YthdcklonamgpiaaMathD
import Derived.Test.YthdcklonamgpiaaRefs0
import Derived.Test.YthdcklonamgpiaaShelf
import Derived.Deep.OwnRows
import Derived.MapKept
import Derived.Sort.OwnSortedInts
import Derived.Lib.OwnBridge
/- The turning heights of a tide, one after the other: the range over a function. -/
namespace Go.Proofs.Ythdcklonamgpiaa
open Go.RowKit
namespace Td
set_option linter.unusedSimpArgs false
set_option linter.unusedVariables false
attribute [local go_sem] Oper.semAt_some
/-- W' keeps what W has, but for the blocks from a to b, and for what is no cells and lies at c or beyond. -/
structure Kp (a b c : Nat) (W W' : World) : Prop where
  os : W'.os = W.os
  tape : W'.tape = W.tape
  output : W'.output = W.output
  size : W.heap.size ≤ W'.heap.size
  kept : ∀ (k : Nat) (o : Obj), W.heap[k]? = some o → ¬ (a ≤ k ∧ k < b) → (o.isCells = true ∨ k < c) → W'.heap[k]? = some o
theorem Kp.of {a b c : Nat} {W W' : World} (h : Below W.heap.size W W') : Kp a b c W W' :=
  ⟨h.os, h.tape, h.output, h.size, fun k o hk _ _ => (h.block k (Array.getElem?_eq_some_iff.1 hk).1).trans hk⟩
theorem Kp.refl (a b c : Nat) (W : World) : Kp a b c W W := .of (Below.refl _ _)
theorem Kp.trans {a b c : Nat} {A B C : World} (h : Kp a b c A B) (k : Kp a b c B C) : Kp a b c A C :=
  ⟨k.os.trans h.os, k.tape.trans h.tape, k.output.trans h.output, Nat.le_trans h.size k.size, fun i o hi hn hc => k.kept i o (h.kept i o hi hn hc) hn hc⟩
theorem Kp.put {a b c : Nat} (W : World) (l : Nat) (o o' : Obj) (hl : c ≤ l) (hg : W.heap[l]? = some o) (hc : o.isCells = false) : Kp a b c W (W.putObj l o') :=
  ⟨rfl, rfl, rfl, by simp [World.putObj], fun k u hk _ hu => by
    by_cases hkl : k = l
    · subst hkl
      rw [hg] at hk
      cases hk
      rcases hu with hu | hu
      · rw [hc] at hu; cases hu
      · omega
    · exact (World.putObj_heap_other (fun e => hkl e)).trans hk⟩
theorem Kp.setCell {a b c : Nat} {A W : World} (h : Kp a b c A W) (g i : Nat) (v : Value) (ha : a ≤ g) (hb : g < b) : Kp a b c A (W.setCell ⟨g, i, none⟩ v) :=
  ⟨h.os, h.tape, h.output, by simpa using h.size, fun k o hk hn hc => (heap_setCell_other W ⟨g, i, none⟩ k v (fun e => hn (by subst e; exact ⟨ha, hb⟩))).trans (h.kept k o hk hn hc)⟩
theorem Kp.row {a b c : Nat} {A W : World} (h : Kp a b c A W) (g : Nat) (cs : Array Value) (ha : a ≤ g) (hb : g < b) : Kp a b c A (W.setRow g cs) :=
  ⟨h.os, h.tape, h.output, by rw [size_setRow]; exact h.size, fun k o hk hn hc => (setRow_other W g k cs (fun e => hn (by subst e; exact ⟨ha, hb⟩))).trans (h.kept k o hk hn hc)⟩
theorem Kp.then {a b c : Nat} {A W W' : World} (h : Kp a b c A W) (hb : Below W.heap.size W W') : Kp a b c A W' := h.trans (.of hb)
theorem Blk.kp {a b c : Nat} {W W' : World} {g : Nat} {t : TypeId} {cs : Array Value} (h : Blk W g t cs) (k : Kp a b c W W') (hg : ¬ (a ≤ g ∧ g < b)) : Blk W' g t cs := k.kept g _ h hg (.inl rfl)
theorem AllFrom.kp {β : Type} {a b c B : Nat} {w₀ : World} (hB : w₀.heap.size ≤ B) : AllFrom B (fun (_ : β) W => Kp a b c w₀ W) :=
  fun _ W W' row hs hg hr => ⟨hg.os.trans hs.os, hg.tape.trans hs.tape, hg.output.trans hs.output, Nat.le_trans hs.size hg.size, fun k o hk hn hc =>
    (hg.block k (Nat.lt_of_lt_of_le (Array.getElem?_eq_some_iff.1 hk).1 hs.size) (fun e => by have := hr k e.symm; have := (Array.getElem?_eq_some_iff.1 hk).1; omega)).trans (hs.kept k o hk hn hc)⟩
theorem AllFrom.keep {β : Type} {B : Nat} {I : β → World → Prop} (h : AllFrom B I) {s : β} {W W' : World} (hs : I s W) (hb : Below W.heap.size W W') : I s W' :=
  h s W W' none hs ⟨hb.os, hb.tape, hb.output, hb.size, fun k hk _ => hb.block k hk⟩ (fun r e => by cases e)
theorem AllFrom.row {β : Type} {B : Nat} {I : β → World → Prop} (h : AllFrom B I) {s : β} {W : World} (g : Nat) (cs : Array Value) (hs : I s W) (hB : B ≤ g) : I s (W.setRow g cs) :=
  h s W _ (some g) hs ⟨rfl, rfl, rfl, by simp, fun k hk hne => setRow_other W g k cs (fun e => hne (by rw [e]))⟩ (fun r e => by cases e; exact hB)
theorem below_kp {w W X : World} {a b c : Nat} (h : Below w.heap.size w W) (k : Kp a b c W X) (hn : w.heap.size ≤ a ∧ w.heap.size ≤ c) : Below w.heap.size w X :=
  ⟨k.os.trans h.os, k.tape.trans h.tape, k.output.trans h.output, Nat.le_trans h.size k.size, fun i hi => by
    have hiW : i < W.heap.size := Nat.lt_of_lt_of_le hi h.size
    have e : W.heap[i]? = some W.heap[i] := Array.getElem?_eq_getElem hiW
    exact (k.kept i _ e (by omega) (.inr (by omega))).trans (e.symm.trans (h.block i hi))⟩
/-- the iterator's boxes, as far as rounds leave them. -/
structure Cx (a b c : Nat) (w₀ : World) (gT gW : Nat) (h : Hul) (m : Sl) (lo hi : Int) : Prop where
  tb : Blk w₀ gT 48 #[.int .i64 lo, .int .i64 hi]
  wb : Blk w₀ gW 92 (hV h m)
  nT : ¬ (a ≤ gT ∧ gT < b)
  nW : ¬ (a ≤ gW ∧ gW < b)
  pt : ∀ W, Kp a b c w₀ W → HAt W m h
  n10 : h.parts.length ≤ 10
theorem turns_c (h : Hul) (m : Sl) (lo hi : Int) (w : World) :
    Calls Try.prog 92 #[.agg (hV h m), .agg #[.int .i64 lo, .int .i64 hi]] w fun e w' =>
      e = .returned (.func (.func 104) #[] #[.pointer (some ⟨w.heap.size + 1, 0, none⟩), .pointer (some ⟨w.heap.size, 0, none⟩)]) ∧ (w.alloc (.cells (hV h m) 92)).alloc (.cells #[.int .i64 lo, .int .i64 hi] 48) = w' := by
  go_enter Try.func92, Try.ntmps92
  go_wp2
  go_ret
  exact ⟨rfl, rfl⟩
/-- behind the sort. -/
theorem sorted_own {w : World} {B g cap : Nat} {zs : List Int} (hown : w.ownsRow B 3 1 (.slice (some ⟨g, 0, none⟩) zs.length cap) zs.length (zs.map fun x => .int .i64 x)) (n : Nat) (os : Array Obj) :
    (Go.Sort.grow (Go.Sort.putRow (Value.int .i64) (Go.Sort.ahead w n) g 0 (zs.mergeSort fun x y => decide (x ≤ y)).toArray) os).ownsRow B 3 1 (.slice (some ⟨g, 0, none⟩) zs.length cap) zs.length ((zs.mergeSort fun x y => decide (x ≤ y)).map (Value.int .i64)) := by
  rcases hown.2 with ⟨h0, _⟩ | ⟨g', cap', cur, hv, hbase, hb, h1, h2, h3, h4⟩
  · cases h0
  cases hv
  exact ownsRow_sortedI (List.length_mergeSort zs) hbase hb h1 h2 h3
set_option maxRecDepth 100000 in
set_option maxHeartbeats 4000000 in
theorem turns1_in (n : Nat) (hn : 1 ≤ n) {a b c : Nat} {w₀ : World} {gT gW : Nat} {h : Hul} {m : Sl} {lo hi : Int} (C : Cx a b c w₀ gT gW h m lo hi)
    (l : Nat) (J Jx : List Int → World → Prop) (Y : World) (hb : b ≤ w₀.heap.size) (hW : Below w₀.heap.size w₀ Y) (hJ : AllFrom Y.heap.size J)
    (hY : ∀ pre x W1, J pre W1 → (∃ rest, turnL h lo hi = pre ++ x :: rest) → YieldAt Fence.wide (n - 1) Try.prog l #[.int .i64 x] W1 fun e Y' =>
      (e = .returned (.bool true) ∧ J (pre ++ [x]) Y' ∧ Kp a b c W1 Y') ∨ (e = .returned (.bool false) ∧ Jx (pre ++ [x]) Y'))
    (h0 : J [] Y) :
    CallsIn Fence.wide n Try.prog 104 #[.func (.yield l) #[] #[], .pointer (some ⟨gT, 0, none⟩), .pointer (some ⟨gW, 0, none⟩)] Y fun e Y' =>
      (∃ v, e = .returned v) ∧ ((∃ xs, xs = turnL h lo hi ∧ J xs Y') ∨ (∃ pre, (∃ rest, turnL h lo hi = pre ++ rest) ∧ Jx pre Y')) := by
  have hsz := hW.size
  have hn10 := C.n10
  have hKW : Kp a b c w₀ Y := .of hW
  obtain ⟨t0, t1⟩ := (C.tb.kp hKW C.nT).span
  have hz0 : (w₀.heap.size ≤ Y.heap.size) := hsz
  have HO0 : Hid ((Y.alloc (.cells #[.int .i64 lo, .int .i64 hi] 3)).ownsRow Y.heap.size 3 1 (.slice (some ⟨Y.heap.size, 0, none⟩) 2 2) (hts h.parts lo hi 0).length ((hts h.parts lo hi 0).map fun x => .int .i64 x)) :=
    ⟨by simp [hts], .inr ⟨Y.heap.size, 2, #[.int .i64 lo, .int .i64 hi], by simp [hts], Nat.le_refl _, Blk.new _ _ _, by simp [hts], by simp [maxLen], rfl, by simp [hts]⟩⟩
  have HJ0 := Lib.hid (hJ.alloc (.cells #[.int .i64 lo, .int .i64 hi] 3) h0)
  have hK0 : Kp a b c w₀ (Y.alloc (.cells #[.int .i64 lo, .int .i64 hi] 3)) := hKW.then ((Below.refl _ _).alloc (Nat.le_refl _) _)
  have hK1 := hK0
  obtain ⟨c0, c1, c2⟩ := (C.wb.kp hK0 C.nW).hull
  refine callsIn_of_wp Try.func104 rfl trivial ?_ rfl
  simp only [Try.ntmps104, List.size_toArray, List.length_cons, List.length_nil, Nat.reduceAdd, Nat.reduceSub, Array.replicate_succ, Array.replicate_zero, List.push_toArray, List.append_toArray, List.nil_append, List.cons_append]
  refine wpIn_wide.2 ?_
  go_wp2_with fail
  clear t0 t1 c0 c1 c2
  go_loopw [4, 18] (fun hv i wr => ∃ k : Nat, k ≤ h.parts.length ∧ i = .int .i64 k ∧ Hid (Kp a b c w₀ wr) ∧ Hid (J [] wr) ∧ Hid (Y.heap.size < wr.heap.size) ∧ Hid (wr.ownsRow Y.heap.size 3 1 hv (hts h.parts lo hi k).length ((hts h.parts lo hi k).map fun x => .int .i64 x))) (fun _ i _ => h.parts.length - (intOf i).toNat)
  case atStart => exact ⟨0, by omega, rfl, hK1, HJ0, Lib.hid (by simp), HO0⟩
  case round =>
    obtain ⟨k, hk, rfl, HK, HJk, HZ, HO⟩ := hrel
    by_cases hlt : k < h.parts.length
    · obtain ⟨ad, hA, z0, z1, z2, z3, z4, z5, z6⟩ := (C.pt _ HK.out).ps.get hlt
      obtain ⟨mA, mc⟩ := m
      replace hA : mA = some ad := hA
      subst hA
      have bT := C.tb.kp HK.out C.nT
      obtain ⟨t0, t1⟩ := (bT.alloc (.cells (pV h.parts[k]) 74)).span
      have hq1 : Below wr.heap.size wr (wr.alloc (.cells (pV h.parts[k]) 74)) := (Below.refl _ _).alloc (Nat.le_refl _) _
      by_cases hc : lo < h.parts[k].kl ∧ h.parts[k].kl < hi
      · obtain ⟨hc1, hc2⟩ := hc
        have HN : Hid (hts h.parts lo hi (k + 1) = hts h.parts lo hi k ++ [h.parts[k].kl]) := by show _ = _; rw [hts_next hlt, if_pos ⟨hc1, hc2⟩]
        have hq3 : Below wr.heap.size wr ((wr.alloc (.cells (pV h.parts[k]) 74)).alloc (.cells #[.int .i64 h.parts[k].kl] 3)) := hq1.alloc hq1.size _
        have HO3 := Lib.hid (own_keep HO.out hq3)
        have HN3 := Lib.hid (Blk.new1 wr (.cells (pV h.parts[k]) 74) 3 #[.int .i64 h.parts[k].kl])
        have HK3 := Lib.hid (HK.out.then hq3)
        have HJ3 := Lib.hid (hJ.keep HJk.out hq3)
        have hLl : (hts h.parts lo hi k).length ≤ 1000 := by have := hts_len h.parts lo hi k; omega
        have HLl := Lib.hid hLl
        have HZ3 : Hid (Y.heap.size < ((wr.alloc (.cells (pV h.parts[k]) 74)).alloc (.cells #[.int .i64 h.parts[k].kl] 3)).heap.size) := by show _ < _; have := HZ.out; simp; omega
        clear hLl bT HO HJk HK HZ hq1
        go_wp2_with (at_builtin; refine wpList_append_one rfl (.tmp 34) (.tmp 37) rfl Y.heap.size (wr.heap.size + 1) _ (hts h.parts lo hi k) h.parts[k].kl (by go_simp) (by go_simp) HO3.out HN3.out HLl.out (Nat.le_of_lt HZ3.out) ?_)
        intro v3 w3 ho3 hg3
        have hlt3 := HO3.out.lt
        have HK4 : Hid (Kp a b c w₀ w3) := (AllFrom.kp (β := Unit) hz0) () _ _ _ HK3.out hg3 (fun r hr => (hlt3 r hr).1)
        have HJ4 : Hid (J [] w3) := hJ _ _ _ _ HJ3.out hg3 (fun r hr => (hlt3 r hr).1)
        have HZ4 : Hid (Y.heap.size < w3.heap.size) := Nat.lt_of_lt_of_le HZ3.out hg3.size
        have HO4 : Hid (w3.ownsRow Y.heap.size 3 1 v3 (hts h.parts lo hi (k + 1)).length ((hts h.parts lo hi (k + 1)).map fun x => .int .i64 x)) := by
          show World.ownsRow _ _ _ _ _ _ _
          rw [HN.out, List.length_append, List.map_append]
          exact ho3
        clear ho3 hg3 hlt3 HO3 HN3 hq3 HLl HN z0 z1 z2 z3 z4 z5 z6 t0 t1 HK3 HJ3 HZ3
        go_wp2_with fail
        go_roundw
        case rel => exact ⟨k + 1, by omega, by go_num, HK4, HJ4, HZ4, HO4⟩
        case measure => simp [intOf]; omega
      · have HN : Hid (hts h.parts lo hi (k + 1) = hts h.parts lo hi k) := by show _ = _; rw [hts_next hlt, if_neg hc]
        have HK3 := Lib.hid (HK.out.then hq1)
        have HJ3 := Lib.hid (hJ.keep HJk.out hq1)
        have HZ3 : Hid (Y.heap.size < (wr.alloc (.cells (pV h.parts[k]) 74)).heap.size) := by show _ < _; have := HZ.out; simp; omega
        have HO3 := Lib.hid (own_keep HO.out hq1)
        rw [← HN.out] at HO3
        clear bT HO HJk HK HZ hq1 HN
        by_cases hc1 : lo < h.parts[k].kl
        · have hc2 : ¬ h.parts[k].kl < hi := fun e => hc ⟨hc1, e⟩
          clear hc
          go_wp2_with fail
          go_roundw
          case rel => exact ⟨k + 1, by omega, by go_num, HK3, HJ3, HZ3, HO3⟩
          case measure => simp [intOf]; omega
        · clear hc
          go_wp2_with fail
          go_roundw
          case rel => exact ⟨k + 1, by omega, by go_num, HK3, HJ3, HZ3, HO3⟩
          case measure => simp [intOf]; omega
    · obtain rfl : k = h.parts.length := by omega
      have hlz := hts_len h.parts lo hi h.parts.length
      have hTL : turnL h lo hi = Lib.compact ((hts h.parts lo hi h.parts.length).mergeSort fun x y => decide (x ≤ y)) := rfl
      have h2z : 2 ≤ (hts h.parts lo hi h.parts.length).length := by simp [hts]
      obtain ⟨zs, hzs⟩ : ∃ zs, hts h.parts lo hi h.parts.length = zs := ⟨_, rfl⟩
      rw [hzs] at HO hlz hTL h2z
      clear hzs
      obtain ⟨ys, hys⟩ : ∃ ys : List Int, (zs.mergeSort fun x y => decide (x ≤ y)) = ys := ⟨_, rfl⟩
      have hly : ys.length = zs.length := by rw [← hys]; exact List.length_mergeSort zs
      rw [hys] at hTL
      obtain ⟨ts, hts⟩ : ∃ ts : List Int, Lib.compact ys = ts := ⟨_, rfl⟩
      have hlt' : ts.length ≤ ys.length := by rw [← hts]; exact Lib.compact_length_le ys
      rw [hts] at hTL
      rcases HO.out.2 with ⟨_, h0'⟩ | ⟨g, cap, cur, hv, hbase, hb', hc1, hc2, hc3, hc4⟩
      · omega
      subst hv
      have hgl : g < wr.heap.size := (Array.getElem?_eq_some_iff.1 hb').1
      have HS := Lib.hid (Try.slices_Sort_int g 0 cap zs wr (holds_of_blockI hb' (by rw [Nat.mul_one] at hc4; exact hc4)) hgl (by omega))
      have HOs := Lib.hid (fun q os => sorted_own HO.out q os)
      have HG5 : Hid (∀ q os, wr.grownBy (Go.Sort.grow (Go.Sort.putRow (Value.int .i64) (Go.Sort.ahead wr q) g 0 ys.toArray) os) (some g)) := fun q os => grownBy_sortedI _
      rw [hys] at HOs HS
      have HLZ := Lib.hid hlz
      have HLT := Lib.hid hlt'
      have HLY := Lib.hid hly
      have HCC := Lib.hid hts
      have HTL := Lib.hid hTL
      have hzc : zs.length ≤ cap := hc1
      have HZC := Lib.hid hzc
      have HBS := Lib.hid hbase
      clear hlz hlt' hly hts hTL hc1 hc2 hc3 hc4 hb' h2z HO hys hbase hzc
      go_wp2_with fail
      refine HS.out.mono ?_
      rintro e w5 ⟨rfl, q5, os5, rfl⟩
      have ho5 := HOs.out q5 os5
      have hg5 := HG5.out q5 os5
      obtain ⟨W5, hW5⟩ : ∃ W5, Go.Sort.grow (Go.Sort.putRow (Value.int .i64) (Go.Sort.ahead wr q5) g 0 ys.toArray) os5 = W5 := ⟨_, rfl⟩
      rw [hW5] at ho5 hg5 ⊢
      clear hW5 HS HOs HG5
      have HK5 : Hid (Kp a b c w₀ W5) := (AllFrom.kp (β := Unit) hz0) () _ _ _ HK.out hg5 (fun r hr => by cases hr; exact HBS.out)
      have HJ5 : Hid (J [] W5) := hJ _ _ _ _ HJk.out hg5 (fun r hr => by cases hr; exact HBS.out)
      obtain ⟨g', cap', hv5, hbase5, hgl5, hnc5, hcm5, -, hH5⟩ := Lib.holds_of_ownsRow ho5 (by intro h; cases h)
      cases hv5
      have HC := Lib.hid (Try.slices_Compact_int g 0 cap ys W5 hH5 (by have := HLY.out; have := HLZ.out; omega) (by have := HLY.out; have := HZC.out; omega))
      rw [HCC.out, HLY.out] at HC
      have HOc : Hid (∀ q, (Go.Sort.putRow (Value.int .i64) (Go.Sort.ahead W5 q) g 0 (ts ++ List.replicate (zs.length - ts.length) 0).toArray).ownsRow Y.heap.size 3 1 (.slice (some ⟨g, 0, none⟩) ts.length cap) ts.length (ts.map (Value.int .i64))) := fun q => by
        have hle : ts.length ≤ zs.length := by have := HLT.out; have := HLY.out; omega
        have := Lib.ownsRow_putRow (q := q) (k := ts.length) (ys := ts ++ List.replicate (zs.length - ts.length) 0) ho5 (by simp; omega) hle
        rwa [List.take_left] at this
      have HG6 : Hid (∀ q, W5.grownBy (Go.Sort.putRow (Value.int .i64) (Go.Sort.ahead W5 q) g 0 (ts ++ List.replicate (zs.length - ts.length) 0).toArray) (some g)) := fun q => by
        have := grownBy_sortedI (w := W5) (g := g) (n := q) (os := #[]) (ts ++ List.replicate (zs.length - ts.length) 0).toArray
        rwa [Go.Sort.grow_empty] at this
      clear ho5 hg5 hH5 HK HJk hbase5 hgl5 hnc5 hcm5
      go_wp2_with fail
      refine HC.out.mono ?_
      rintro e w6 ⟨rfl, q6, rfl⟩
      have ho6 := HOc.out q6
      have hg6 := HG6.out q6
      obtain ⟨W6, hW6⟩ : ∃ W6, Go.Sort.putRow (Value.int .i64) (Go.Sort.ahead W5 q6) g 0 (ts ++ List.replicate (zs.length - ts.length) 0).toArray = W6 := ⟨_, rfl⟩
      rw [hW6] at ho6 hg6 ⊢
      clear hW6 HC HOc HG6
      have HK6 : Hid (Kp a b c w₀ W6) := (AllFrom.kp (β := Unit) hz0) () _ _ _ HK5.out hg6 (fun r hr => by cases hr; exact HBS.out)
      have HJ6 : Hid (J [] W6) := hJ _ _ _ _ HJ5.out hg6 (fun r hr => by cases hr; exact HBS.out)
      obtain ⟨cu, hcu, hct⟩ : ∃ cu : Array Value, Blk W6 g 3 cu ∧ ∀ (j : Nat) (x : Int), ts[j]? = some x → cu[j]? = some (Value.int .i64 x) := by
        rcases ho6.2 with ⟨h0, _⟩ | ⟨g', cap', cur, hv, _, hb6, h1, h2, h3, h4⟩
        · cases h0
        · cases hv
          refine ⟨cur, hb6, fun j x hj => ?_⟩
          have hjl : j < ts.length := (List.getElem?_eq_some_iff.1 hj).1
          have h5 : (ts.map (Value.int .i64))[j]? = some (.int .i64 x) := by rw [List.getElem?_map, hj]; rfl
          rw [← h4, Nat.mul_one, List.getElem?_take, if_pos hjl] at h5
          simpa using h5
      have HCU := Lib.hid hcu
      have HCT := Lib.hid hct
      have hl12 : ts.length ≤ 12 := by have := HLT.out; have := HLY.out; have := HLZ.out; omega
      clear ho6 hg6 hcu hct HK5 HJ5
      go_wp2_with fail
      refine (wpIn_wide (n := n)).1 ?_
      gi_loopw [45] (fun i wr => ∃ k : Nat, k ≤ ts.length ∧ i = .int .i64 k ∧ Hid (J (ts.take k) wr) ∧ Hid (Kp a b c w₀ wr) ∧ Hid (Blk wr g 3 cu)) (fun i _ => ts.length - (intOf i).toNat)
      case atStart => exact ⟨0, by omega, rfl, HJ6, HK6, HCU⟩
      case round =>
        obtain ⟨k, hk, rfl, HJr, HKr, HCr⟩ := hrel
        by_cases hlt : k < ts.length
        · have z0 := HCr.out.cell k
          rw [HCT.out k ts[k] (List.getElem?_eq_getElem hlt)] at z0
          obtain ⟨fn, tmps, assign, body, hy, hR⟩ := hY _ ts[k] wr HJr.out ⟨ts.drop (k + 1), by rw [HTL.out]; exact (by rw [← List.drop_eq_getElem_cons hlt, List.take_append_drop])⟩
          gi_wp2
          refine hR.mono ?_
          clear hR hy
          rintro e W3 (⟨rfl, hJ3, hk3⟩ | ⟨rfl, hJx3⟩)
          · have HJ3 : Hid (J (ts.take (k + 1)) W3) := by
              show J _ _
              rw [List.take_succ_eq_append_getElem hlt]; exact hJ3
            have HK3 := Lib.hid (HKr.out.trans hk3)
            have HC3 := Lib.hid (HCr.out.kp hk3 (by have := HBS.out; omega))
            clear z0
            gi_wp2
            go_roundw
            case rel => exact ⟨k + 1, by omega, by go_num, HJ3, HK3, HC3⟩
            case measure => simp [intOf]; omega
          · clear z0
            gi_wp2
            refine bodyPost_ret (results_none rfl _ _ _) rfl ?_
            exact ⟨⟨_, rfl⟩, .inr ⟨_, ⟨ts.drop (k + 1), by rw [HTL.out, List.append_assoc]; exact (by rw [List.singleton_append, ← List.drop_eq_getElem_cons hlt, List.take_append_drop])⟩, hJx3⟩⟩
        · obtain rfl : k = ts.length := by omega
          have HJ3 := HJr.out
          rw [List.take_length] at HJ3
          gi_wp2
          go_end0
          exact ⟨⟨_, rfl⟩, .inl ⟨_, HTL.out.symm, HJ3⟩⟩
end Td
end Go.Proofs.Ythdcklonamgpiaa
