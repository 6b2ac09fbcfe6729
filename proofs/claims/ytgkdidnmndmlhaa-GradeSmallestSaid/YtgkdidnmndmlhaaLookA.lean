import Derived.Test.YtgkdidnmndmlhaaPas2
/- A heap that is looked at; Ways. -/
namespace Go.Proofs.Ytgkdidnmndmlhaa
open Go.RowKit
namespace Td
set_option linter.unusedSimpArgs false
set_option linter.unusedVariables false
attribute [local go_sem] Oper.semAt_some
/-- the cells of a heap that is looked at. -/
def hpV (P lo hi : Int) : Array Value := gV P lo hi ++ alF tri
theorem hpV_size (P lo hi : Int) : (hpV P lo hi).size = 444 := by simp [hpV, alF_size]
theorem hpV_get (P lo hi : Int) {q : Nat} (h : q < 441) : (hpV P lo hi)[3 + q]? = some (.int .i64 (tri q)) := by
  unfold hpV
  rw [Array.getElem?_append_right (by simp)]
  simp only [List.size_toArray, List.length_cons, List.length_nil, Nat.zero_add, Nat.reduceAdd, Nat.add_sub_cancel_left]
  exact alF_get _ h
theorem hpV_way (P lo hi : Int) {n k : Nat} (hn : n ≤ 20) (hk : k ≤ 20) : (hpV P lo hi)[3 + n * 21 + k]? = some (.int .i64 (bn n k : Int)) := by
  have h := hpV_get P lo hi (q := n * 21 + k) (by omega)
  rw [← Nat.add_assoc] at h
  rw [h]
  unfold tri
  rw [show (n * 21 + k) / 21 = n by omega, show (n * 21 + k) % 21 = k by omega]
theorem hpV_0 (P lo hi : Int) : (hpV P lo hi)[0]? = some (.int .i64 P) ∧ (hpV P lo hi)[1]? = some (.int .i64 lo) ∧ (hpV P lo hi)[2]? = some (.int .i64 hi) := by
  unfold hpV
  refine ⟨?_, ?_, ?_⟩ <;> (rw [Array.getElem?_append_left (by simp)]; rfl)
theorem Blk.hcells {w : World} {g : Nat} {t : TypeId} {a b c : Int} (k : Blk w g t (hpV a b c)) : w.cell? ⟨g, 0, none⟩ = some (.int .i64 a) ∧ w.cell? ⟨g, 1, none⟩ = some (.int .i64 b) ∧ w.cell? ⟨g, 2, none⟩ = some (.int .i64 c) :=
  ⟨(k.cell 0).trans (hpV_0 a b c).1, (k.cell 1).trans (hpV_0 a b c).2.1, (k.cell 2).trans (hpV_0 a b c).2.2⟩
theorem Blk.way {w : World} {g : Nat} {t : TypeId} {a b c : Int} (h : Blk w g t (hpV a b c)) {n k : Nat} (hn : n ≤ 20) (hk : k ≤ 20) : w.cell? ⟨g, 3 + n * 21 + k, none⟩ = some (.int .i64 (bn n k : Int)) := (h.cell _).trans (hpV_way a b c hn hk)
theorem fold_putL : ∀ (vs : List Value) (o j0 : Nat) (cs : Array Value), (vs.zipIdx j0).foldl (fun cs x => cs.setIfInBounds (o + x.2) x.1) cs = putL cs (o + j0) vs
  | [], _, _, _ => rfl
  | v :: r, o, j0, cs => by
    rw [List.zipIdx_cons, List.foldl_cons, fold_putL r o (j0 + 1)]
    rfl
theorem fill_one {place : Nat → Option (Nat × Nat)} {i off size : Nat} {vs cs : Array Value} {rest : List (Nat × Value)} (hp : place i = some (off, size)) (hv : vs.size = size) (hc : off + size ≤ cs.size) :
    Instr.fill place cs ((i, .agg vs) :: rest) = Instr.fill place (putL cs off vs.toList) rest := by
  rw [Instr.fill, hp]
  have e : (Value.agg vs).cells = vs := rfl
  simp only [e]
  rw [if_neg (by subst hv; simp; omega)]
  congr 1
  rw [← Array.foldl_toList, Array.toList_zipIdx]
  exact fold_putL vs.toList off 0 cs
def zeros (n : Nat) : Array Value := (List.replicate n (Value.int .i64 0)).toArray
theorem zeros_size (n : Nat) : (zeros n).size = n := by unfold zeros; rw [List.size_toArray, List.length_replicate]
theorem built_is (parts : List (Nat × Value)) : Try.prog.built 97 parts = Instr.fill (fun x => #[(0, 3), (3, 441)][x]?) (zeros 444) parts := by kernel_rfl
theorem putL_app (A B : Array Value) (hA : A.size = 3) (hB : B.size = 441) : putL (putL (zeros 444) 0 A.toList) 3 B.toList = A ++ B := by
  have hz : (zeros 444).size = 444 := zeros_size _
  apply Array.ext_getElem?
  intro i
  by_cases h : i < 444
  · by_cases h3 : i < 3
    · rw [putL_out _ _ _ _ (by omega), Array.getElem?_append_left (by omega)]
      have := putL_in A.toList 0 (zeros 444) i A[i] (by rw [Array.getElem?_toList, Array.getElem?_eq_getElem (by omega)]) (by omega)
      rw [Nat.zero_add] at this
      rw [this, Array.getElem?_eq_getElem (by omega)]
    · rw [Array.getElem?_append_right (by omega)]
      have := putL_in B.toList 3 (putL (zeros 444) 0 A.toList) (i - 3) B[i - 3] (by rw [Array.getElem?_toList, Array.getElem?_eq_getElem (by omega)]) (by rw [putL_size]; omega)
      rw [show 3 + (i - 3) = i by omega] at this
      rw [this, hA, Array.getElem?_eq_getElem (by omega)]
  · rw [Array.getElem?_eq_none (by rw [putL_size, putL_size]; omega), Array.getElem?_eq_none (by simp; omega)]
theorem built_hp (P lo hi : Int) : Try.prog.built 97 [(0, .agg (gV P lo hi)), (1, .agg (alF tri))] = some (hpV P lo hi) := by
  have hz : (zeros 444).size = 444 := zeros_size _
  rw [built_is, fill_one (off := 0) (size := 3) rfl rfl (by omega), fill_one (off := 3) (size := 441) rfl (alF_size _) (by rw [putL_size]; omega), Instr.fill, putL_app _ _ rfl (alF_size _)]
  rfl
theorem wp_buildTo {P : Program} {o : Oper} {a : Act} {w : World} {K : Act → World → Prop} {Q : Exit → Act → World → Prop} (t : TypeId) (parts : Array (Nat × Operand)) (ho : o.op = .build t parts) (cells : Array Value)
    (hf : P.built t (parts.toList.map fun p => (p.1, a.eval p.2)) = some cells) (h : K (a.put o.dst (.agg cells)) w) : o.wp P a w K Q := by
  have e : (parts.map fun (i, x) => (i, a.eval x)).toList = parts.toList.map fun p => (p.1, a.eval p.2) := by rw [Array.toList_map]
  exact wp_build t parts ho (by rw [e, hf]; rfl) (by rw [e, hf]; exact h)
theorem wp_boxTo {P : Program} {o : Oper} {a : Act} {w : World} {K : Act → World → Prop} {Q : Exit → Act → World → Prop} (t : TypeId) (x : Operand) (ho : o.op = .box t x) (cells : Array Value) (hx : (a.eval x).cells = cells)
    (h : K (a.put o.dst (.pointer (some ⟨w.heap.size, 0, none⟩))) (w.alloc (.cells cells t))) : o.wp P a w K Q := by
  subst hx
  unfold Oper.wp execOp
  simp only [ho, Sem.run_bind, Instr.box, newVar, newRow, run_newObj_alloc, Sem.run_pure, Result.andThen_ok]
  exact h
/-- a heap that is looked at: what the region that makes it keeps. -/
structure Lk (w : World) (P lo hi : Int) (s t : Option Value) (X : World) : Prop where
  sn : Since w X
  bg : Blk X w.heap.size 25 (gV P lo hi)
  nw : ∀ v, s = some v → ∃ g, v = .pointer (some ⟨g, 0, none⟩) ∧ Blk X g 97 (hpV P lo hi)
  eq : ∀ v, t = some v → s = some v
theorem Lk.keep {w : World} {P lo hi : Int} {s t : Option Value} {X Y : World} (h : Lk w P lo hi s t X) (hb : Below X.heap.size X Y) : Lk w P lo hi s t Y :=
  ⟨h.sn.keep hb, h.bg.keep hb, fun v hv => by obtain ⟨g, e1, e2⟩ := h.nw v hv; exact ⟨g, e1, e2.keep hb⟩, h.eq⟩
theorem Lk.box {w : World} {P lo hi : Int} {X : World} {s t : Option Value} (hs : s = none) (h : Lk w P lo hi s t X) : Lk w P lo hi (some (.pointer (some ⟨X.heap.size, 0, none⟩))) t (X.alloc (.cells (hpV P lo hi) 97)) :=
  ⟨h.sn.alloc _, h.bg.alloc _, fun v hv => ⟨_, (Option.some.inj hv).symm, Blk.new _ _ _⟩, fun v hv => by rw [hs] at h; cases h.eq v hv⟩
theorem Lk.put {w : World} {P lo hi : Int} {X : World} {v : Value} {t : Option Value} (h : Lk w P lo hi (some v) t X) : Lk w P lo hi (some v) (some v) X := ⟨h.sn, h.bg, h.nw, fun u hu => hu⟩
end Td
end Go.Proofs.Ytgkdidnmndmlhaa
