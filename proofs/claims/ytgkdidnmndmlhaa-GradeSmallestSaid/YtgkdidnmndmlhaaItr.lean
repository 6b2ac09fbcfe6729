import Derived.Test.YtgkdidnmndmlhaaTail
/- What a round of a loop over an iterator keeps; a loop over an iterator within a round. -/
namespace Go.Proofs.Ytgkdidnmndmlhaa
open Go.RowKit
namespace Td
set_option linter.unusedSimpArgs false
set_option linter.unusedVariables false
/-- W' keeps what W has, but for the blocks from a to b, and for what is no cells and lies from c to e. -/
structure Kp (a b c e : Nat) (W W' : World) : Prop where
  os : W'.os = W.os
  tape : W'.tape = W.tape
  output : W'.output = W.output
  size : W.heap.size ≤ W'.heap.size
  kept : ∀ (k : Nat) (o : Obj), W.heap[k]? = some o → ¬ (a ≤ k ∧ k < b) → (o.isCells = true ∨ k < c ∨ e ≤ k) → W'.heap[k]? = some o
theorem Kp.of {a b c e : Nat} {W W' : World} (h : Below W.heap.size W W') : Kp a b c e W W' :=
  ⟨h.os, h.tape, h.output, h.size, fun k o hk _ _ => (h.block k (Array.getElem?_eq_some_iff.1 hk).1).trans hk⟩
theorem Kp.refl (a b c e : Nat) (W : World) : Kp a b c e W W := .of (Below.refl _ _)
theorem Kp.trans {a b c e : Nat} {A B C : World} (h : Kp a b c e A B) (k : Kp a b c e B C) : Kp a b c e A C :=
  ⟨k.os.trans h.os, k.tape.trans h.tape, k.output.trans h.output, Nat.le_trans h.size k.size, fun i o hi hn hc => k.kept i o (h.kept i o hi hn hc) hn hc⟩
theorem Kp.put {a b c e : Nat} (W : World) (l : Nat) (o o' : Obj) (hl : c ≤ l) (hl2 : l < e) (hg : W.heap[l]? = some o) (hc : o.isCells = false) : Kp a b c e W (W.putObj l o') :=
  ⟨rfl, rfl, rfl, by simp [World.putObj], fun k u hk _ hu => by
    by_cases hkl : k = l
    · subst hkl
      rw [hg] at hk
      cases hk
      rcases hu with hu | hu
      · rw [hc] at hu; cases hu
      · omega
    · exact (World.putObj_heap_other (fun e => hkl e)).trans hk⟩
theorem Kp.setCell {a b c e : Nat} {A W : World} (h : Kp a b c e A W) (g i : Nat) (v : Value) (ha : a ≤ g) (hb : g < b) : Kp a b c e A (W.setCell ⟨g, i, none⟩ v) :=
  ⟨h.os, h.tape, h.output, by simpa using h.size, fun k o hk hn hc => (heap_setCell_other W ⟨g, i, none⟩ k v (fun e => hn (by subst e; exact ⟨ha, hb⟩))).trans (h.kept k o hk hn hc)⟩
theorem Kp.row {a b c e : Nat} {A W : World} (h : Kp a b c e A W) (g : Nat) (cs : Array Value) (ha : a ≤ g) (hb : g < b) : Kp a b c e A (W.setRow g cs) :=
  ⟨h.os, h.tape, h.output, by rw [size_setRow]; exact h.size, fun k o hk hn hc => (setRow_other W g k cs (fun e => hn (by subst e; exact ⟨ha, hb⟩))).trans (h.kept k o hk hn hc)⟩
theorem Kp.then {a b c e : Nat} {A W W' : World} (h : Kp a b c e A W) (hb : Below W.heap.size W W') : Kp a b c e A W' := h.trans (.of hb)
theorem Blk.kp {a b c e : Nat} {W W' : World} {g : Nat} {t : TypeId} {cs : Array Value} (h : Blk W g t cs) (k : Kp a b c e W W') (hg : ¬ (a ≤ g ∧ g < b)) : Blk W' g t cs := k.kept g _ h hg (.inl rfl)
theorem AllFrom.kp {β : Type} {a b c e B : Nat} {w₀ : World} (hB : w₀.heap.size ≤ B) : AllFrom B (fun (_ : β) W => Kp a b c e w₀ W) :=
  fun _ W W' row hs hg hr => ⟨hg.os.trans hs.os, hg.tape.trans hs.tape, hg.output.trans hs.output, Nat.le_trans hs.size hg.size, fun k o hk hn hc =>
    (hg.block k (Nat.lt_of_lt_of_le (Array.getElem?_eq_some_iff.1 hk).1 hs.size) (fun e => by have := hr k e.symm; have := (Array.getElem?_eq_some_iff.1 hk).1; omega)).trans (hs.kept k o hk hn hc)⟩
theorem AllFrom.keep {β : Type} {B : Nat} {I : β → World → Prop} (h : AllFrom B I) {s : β} {W W' : World} (hs : I s W) (hb : Below W.heap.size W W') : I s W' :=
  h s W W' none hs ⟨hb.os, hb.tape, hb.output, hb.size, fun k hk _ => hb.block k hk⟩ (fun r e => by cases e)
theorem AllFrom.row {β : Type} {B : Nat} {I : β → World → Prop} (h : AllFrom B I) {s : β} {W : World} (g : Nat) (cs : Array Value) (hs : I s W) (hB : B ≤ g) : I s (W.setRow g cs) :=
  h s W _ (some g) hs ⟨rfl, rfl, rfl, by simp, fun k hk hne => setRow_other W g k cs (fun e => hne (by rw [e]))⟩ (fun r e => by cases e; exact hB)
theorem below_kp {w W X : World} {a b c e : Nat} (h : Below w.heap.size w W) (k : Kp a b c e W X) (hn : w.heap.size ≤ a ∧ w.heap.size ≤ c) : Below w.heap.size w X :=
  ⟨k.os.trans h.os, k.tape.trans h.tape, k.output.trans h.output, Nat.le_trans h.size k.size, fun i hi => by
    have hiW : i < W.heap.size := Nat.lt_of_lt_of_le hi h.size
    have e : W.heap[i]? = some W.heap[i] := Array.getElem?_eq_getElem hiW
    exact (k.kept i _ e (by omega) (.inr (.inl (by omega)))).trans (e.symm.trans (h.block i hi))⟩
variable {F : Fence} {n : Nat} {P : Program} {w : World}
theorem rangeFunc_d {α : Type} {g : Operand} {ps : Array Tmp} {assign body : Code} {Q : Exit → Act → World → Prop} {a : Act}
    (hro : F.round = none) (h1 : 1 ≤ n) {gf : Nat} {lb : Array Value} (hg : a.eval g = .func (.func gf) #[] lb) (hFg : F.fn gf) (eg : ∀ args w, (callFunc gf args).run P w = .ok (.enter gf args) w)
    {encs : α → Array Value} {Kp : World → World → Prop} {S Sp : List α → Prop} {R : List α → α → Prop} {w0 : World} (hseq : SeqC F (n - 1) P gf lb encs Kp S Sp R w0)
    (hKt : ∀ {A B C : World}, Kp A B → Kp B C → Kp A C) (hKb : ∀ (W : World) (o o' : Obj), W.heap[w.heap.size + 1]? = some o → o.isCells = false → o.isWalk = false → Kp W (W.putObj (w.heap.size + 1) o')) (hb0 : Below w0.heap.size w0 w) (hps : ∀ x, (encs x).size = ps.size)
    (I : List α → World → Prop) (Ix : Code → List α → World → Prop) (hI : AllFrom w.heap.size I) (hIx : ∀ c, AllFrom w.heap.size (Ix c)) (h0 : I [] w) (Ax : α → Act → World → Prop) (hAx : ∀ x a', OwnFrom w.heap.size (fun (_ : Unit) W => Ax x a' W))
    (hassign : ∀ (l : Nat) (pre : List α) (x : α) (W : World) (K : Act → World → Prop), I pre W → (∀ a' W', KeepsFrom w.heap.size W W' → Kp W W' → I pre W' → Ax x a' W' → K a' W') →
      assign.wpIn (F.inRound l) (n - 1 - 1) P (Exit.then K (fun _ _ _ => False)) { tmps := (ps.zip (encs x)).foldl (fun t (p, v) => t.setIfInBounds p v) a.tmps, defers := [] } W)
    (hbody : ∀ (l : Nat) (pre : List α) (x : α) (a' : Act) (W : World), w.heap.size ≤ l → (∃ r, W.heap[l]? = some (.loop r)) → I pre W → Ax x a' W → R pre x → body.wpIn (F.inRound l) (n - 1 - 1) P (ownPostG w.heap.size Kp I Ix (pre ++ [x]) W) a' W)
    (hdone : ∀ (D : Nat) (xs : List α) (W : World), w.heap.size ≤ D → S xs → I xs W → W.heap[D]? = some (.deferred (some [])) → Q .normal { a with defers := { target := .collected D, args := #[] } :: a.defers } W)
    (hstop : ∀ (D : Nat) (c : Code) (pre : List α) (W : World), w.heap.size ≤ D → Sp pre → Ix c pre W → W.heap[D]? = some (.deferred (some [])) → c.wpIn F n P Q { a with defers := { target := .collected D, args := #[] } :: a.defers } W) :
    (Code.rangeFunc g ps assign body).wpIn F n P Q a w := by
  refine wpIn_rangeFunc fun fn hfn => ?_
  rw [hro]
  -- the loop's record, by its state and what is pending; its two blocks
  obtain ⟨rc, hrc⟩ : ∃ rc : LoopState → Option Code → Loop, rc = fun st pe => { state := st, pending := pe, fn, tmps := a.tmps, params := ps, assign, body, defers := w.heap.size } := ⟨_, rfl⟩
  obtain ⟨W1, hW1⟩ : ∃ W1, (w.alloc (.deferred (some []))).alloc (.loop (rc .ready none)) = W1 := ⟨_, rfl⟩
  have hz1 : W1.heap.size = w.heap.size + 1 + 1 := by rw [← hW1]; simp
  have hL1 : W1.heap[w.heap.size + 1]? = some (.loop (rc .ready none)) := by
    rw [← hW1]
    have := World.alloc_heap_new (w.alloc (.deferred (some []))) (.loop (rc .ready none))
    rwa [World.size_alloc] at this
  have hK1 : W1.heap[w.heap.size]? = some (.deferred (some [])) := by
    rw [← hW1]
    exact (Below.heap_alloc _ _ _ (by simp)).trans (World.alloc_heap_new w _)
  have hI1 : I [] W1 := by rw [← hW1]; exact hI.alloc _ (hI.alloc _ h0)
  have hb1 : Below w0.heap.size w0 W1 := by
    rw [← hW1]
    exact hb0.trans ((((Below.refl _ w).alloc (Nat.le_refl _) _).alloc (by simp) _).mono hb0.size)
  refine ⟨w.heap.size + 1, [{ target := .collected w.heap.size, args := #[] }], W1, { target := .fn (.func gf) lb, args := #[.func (.yield (w.heap.size + 1)) #[] #[]] }, W1, gf,
    #[.func (.yield (w.heap.size + 1)) #[] #[]] ++ lb, W1, ?_, ?_, ?_, ?_, fun _ => h1, ?_⟩
  · rw [← hW1, hrc]; exact run_enterLoop_outer _ _ _ _ _
  · simp only [resolve, hg]
    simp [go_sem]
  · intro f' hf'
    simp [Target.leads] at hf'
    subst hf'
    exact hFg
  · simp [invoke, go_sem, eg]
  have hfar : ∀ {X Y : World} {row : Option Nat} {k : Nat} {o : Obj}, X.grownBy Y row → (∀ r, row = some r → W1.heap.size ≤ r) → k < W1.heap.size → X.heap[k]? = some o → Y.heap[k]? = some o := fun hg' hr hk ho =>
    (hg'.block _ (Array.getElem?_eq_some_iff.1 ho).1 (fun e => by have := hr _ e.symm; omega)).trans ho
  refine (hseq (w.heap.size + 1)
    (fun pre W => I pre W ∧ W.heap[w.heap.size + 1]? = some (.loop (rc .ready none)) ∧ W.heap[w.heap.size]? = some (.deferred (some [])))
    (fun pre W => ∃ c, Ix c pre W ∧ W.heap[w.heap.size + 1]? = some (.loop (rc .done (some c))) ∧ W.heap[w.heap.size]? = some (.deferred (some [])))
    W1 hb1
    (fun s X Y row hs hg' hr => ⟨hI s X Y row hs.1 hg' (fun r e => by have := hr r e; omega), hfar hg' hr (by omega) hs.2.1, hfar hg' hr (by omega) hs.2.2⟩)
    (fun s X Y row hs hg' hr => by
      obtain ⟨c, hc, hl, hk⟩ := hs
      exact ⟨c, hIx c s X Y row hc hg' (fun r e => by have := hr r e; omega), hfar hg' hr (by omega) hl, hfar hg' hr (by omega) hk⟩)
    ?_ ⟨hI1, hL1, hK1⟩).mono ?_
  · rintro pre x W ⟨hi, hl, hk⟩ hlen
    have hlt : w.heap.size + 1 < W.heap.size := (Array.getElem?_eq_some_iff.1 hl).1
    have hy := run_yield (P := P) (args := encs x) hl (by rw [hrc]; exact hps x)
    rw [hrc] at hy
    refine ⟨fn, _, assign, body, hy, roundIn_of_wpIn hfn (hassign _ pre x W _ hi ?_)⟩
    clear hy
    intro a' V hkfa hkpa hia hax
    have hlV := hkfa.same _ _ (by omega) hl rfl
    have hkV := hkfa.same _ _ (Nat.le_refl _) hk rfl
    have hltV : w.heap.size + 1 < V.heap.size := (Array.getElem?_eq_some_iff.1 hlV).1
    refine ⟨_, run_beginRound hlV (by rw [hrc]), ?_⟩
    have hl2 : (V.putObj (w.heap.size + 1) (.loop { rc .ready none with state := .busy })).heap[w.heap.size + 1]? = some (.loop { rc .ready none with state := .busy }) := World.putObj_heap_same hltV
    have hk2 : (V.putObj (w.heap.size + 1) (.loop { rc .ready none with state := .busy })).heap[w.heap.size]? = some (.deferred (some [])) := (World.putObj_heap_other (by omega)).trans hkV
    have hw2 : Kp V (V.putObj (w.heap.size + 1) (.loop { rc .ready none with state := .busy })) := hKb _ _ _ hlV rfl rfl
    refine wpIn_mono (hbody _ pre x a' _ (by omega) ⟨_, hl2⟩ (hI.putObj _ hia (by omega)) ((hAx x a').putObj (s := ()) _ hax (by omega) hlV rfl) hlen) ?_
    -- how a round ends: the record is ready again, or it is done and a jump is pending
    have fin : ∀ (jump : Option Code) (Z : World), KeepsFrom w.heap.size (V.putObj (w.heap.size + 1) (.loop { rc .ready none with state := .busy })) Z →
        (Instr.endRound (w.heap.size + 1) jump).run P Z = .ok (.bool jump.isNone) (Z.putObj (w.heap.size + 1) (.loop (rc (if jump.isNone then .ready else .done) jump))) ∧
        Z.heap[w.heap.size + 1]? = some (.loop { rc .ready none with state := .busy }) ∧
        (Z.putObj (w.heap.size + 1) (.loop (rc (if jump.isNone then .ready else .done) jump))).heap[w.heap.size + 1]? = some (.loop (rc (if jump.isNone then .ready else .done) jump)) ∧
        (Z.putObj (w.heap.size + 1) (.loop (rc (if jump.isNone then .ready else .done) jump))).heap[w.heap.size]? = some (.deferred (some [])) := fun jump Z hkz => by
      have hlz := hkz.same _ _ (by omega) hl2 rfl
      have he := run_endRound (P := P) jump hlz
      rw [hrc] at he ⊢
      exact ⟨he, by rw [hrc] at hlz; exact hlz, World.putObj_heap_same (Array.getElem?_eq_some_iff.1 hlz).1, (World.putObj_heap_other (by omega)).trans (hkz.same _ _ (Nat.le_refl _) hk2 rfl)⟩
    rintro e a3 Z hp
    have leave : ∀ c : Code, KeepsFrom w.heap.size (V.putObj (w.heap.size + 1) (.loop { rc .ready none with state := .busy })) Z → Ix c (pre ++ [x]) Z →
        ∃ v W', (Instr.endRound (w.heap.size + 1) (some c)).run P Z = .ok v W' ∧ v = .bool false ∧ ∃ c', Ix c' (pre ++ [x]) W' ∧ W'.heap[w.heap.size + 1]? = some (.loop (rc .done (some c'))) ∧ W'.heap[w.heap.size]? = some (.deferred (some [])) := fun c hkz hiz => by
      obtain ⟨hr, hlz, hl4, hk4⟩ := fin (some c) Z hkz
      exact ⟨_, _, hr, rfl, c, (hIx c).putObj _ hiz (by omega), hl4, hk4⟩
    cases e with
    | normal =>
      obtain ⟨hkz, hkp, hiz⟩ := hp
      obtain ⟨hr, hlz, hl4, hk4⟩ := fin none Z hkz
      exact ⟨_, _, hr, .inl ⟨rfl, ⟨hI.putObj _ hiz (by omega), hl4, hk4⟩, hKt hkpa (hKt (hKt hw2 hkp) (hKb _ _ _ hlz rfl rfl))⟩⟩
    | ret => obtain ⟨v, W', h1, h2, h3⟩ := leave _ hp.1 hp.2; exact ⟨v, W', h1, .inr ⟨by rw [h2], h3⟩⟩
    | exit id => obtain ⟨v, W', h1, h2, h3⟩ := leave _ hp.1 hp.2; exact ⟨v, W', h1, .inr ⟨by rw [h2], h3⟩⟩
    | goto t => obtain ⟨v, W', h1, h2, h3⟩ := leave _ hp.1 hp.2; exact ⟨v, W', h1, .inr ⟨by rw [h2], h3⟩⟩
    | panic ch => exact hp.elim
    | outgrown => exact hp.elim
  · rintro e W2 ⟨⟨v, rfl⟩, (⟨xs, hS, hi, hl, hk⟩ | ⟨pre, hSp, c, hi, hl, hk⟩)⟩
    · have he := run_endLoop (P := P) hl (by rw [hrc]; simp)
      rw [hrc] at he
      exact ⟨none, _, he, hdone _ xs _ (Nat.le_refl _) hS (hI.putObj _ hi (by omega)) ((World.putObj_heap_other (by omega)).trans hk)⟩
    · have he := run_endLoop (P := P) hl (by rw [hrc]; simp)
      rw [hrc] at he
      exact ⟨some c, _, he, hstop _ c pre _ (Nat.le_refl _) hSp ((hIx c).putObj _ hi (by omega)) ((World.putObj_heap_other (by omega)).trans hk)⟩
/-- an iterator's contract, for loops that never leave it. -/
def SeqE {α : Type} (F : Fence) (n : Nat) (P : Program) (g : Nat) (lb : Array Value) (encs : α → Array Value) (Kp : World → World → Prop) (S : List α → Prop) (R : List α → α → Prop) (w : World) : Prop :=
  ∀ (l : Nat) (J : List α → World → Prop) (W : World), Below w.heap.size w W → w.heap.size + 2 ≤ W.heap.size → AllFrom W.heap.size J →
    (∀ pre x W1, J pre W1 → R pre x → YieldAt F (n - 1) P l (encs x) W1 fun e W' => e = .returned (.bool true) ∧ J (pre ++ [x]) W' ∧ Kp W1 W') →
    J [] W →
    CallsIn F n P g (#[.func (.yield l) #[] #[]] ++ lb) W fun e W' => (∃ v, e = .returned v) ∧ ∃ xs, S xs ∧ J xs W'
theorem rangeFunc_e {α : Type} {g : Operand} {ps : Array Tmp} {assign body : Code} {Q : Exit → Act → World → Prop} {a : Act}
    (hro : F.round = none) (h1 : 1 ≤ n) {gf : Nat} {lb : Array Value} (hg : a.eval g = .func (.func gf) #[] lb) (hFg : F.fn gf) (eg : ∀ args w, (callFunc gf args).run P w = .ok (.enter gf args) w)
    {encs : α → Array Value} {Kp : World → World → Prop} {S : List α → Prop} {R : List α → α → Prop} {w0 : World} (hseq : SeqE F (n - 1) P gf lb encs Kp S R w0)
    (hKt : ∀ {A B C : World}, Kp A B → Kp B C → Kp A C) (hKb : ∀ (W : World) (o o' : Obj), W.heap[w.heap.size + 1]? = some o → o.isCells = false → o.isWalk = false → Kp W (W.putObj (w.heap.size + 1) o')) (hb0 : Below w0.heap.size w0 w) (hps : ∀ x, (encs x).size = ps.size)
    (I : List α → World → Prop) (hI : AllFrom w.heap.size I) (h0 : I [] w) (Ax : α → Act → World → Prop) (hAx : ∀ x a', OwnFrom w.heap.size (fun (_ : Unit) W => Ax x a' W))
    (hassign : ∀ (l : Nat) (pre : List α) (x : α) (W : World) (K : Act → World → Prop), I pre W → (∀ a' W', KeepsFrom w.heap.size W W' → Kp W W' → I pre W' → Ax x a' W' → K a' W') →
      assign.wpIn (F.inRound l) (n - 1 - 1) P (Exit.then K (fun _ _ _ => False)) { tmps := (ps.zip (encs x)).foldl (fun t (p, v) => t.setIfInBounds p v) a.tmps, defers := [] } W)
    (hbody : ∀ (l : Nat) (pre : List α) (x : α) (a' : Act) (W : World), w.heap.size ≤ l → (∃ r, W.heap[l]? = some (.loop r)) → I pre W → Ax x a' W → R pre x → body.wpIn (F.inRound l) (n - 1 - 1) P (ownPostG w.heap.size Kp I (fun _ _ _ => False) (pre ++ [x]) W) a' W)
    (hdone : ∀ (D : Nat) (xs : List α) (W : World), w.heap.size ≤ D → S xs → I xs W → W.heap[D]? = some (.deferred (some [])) → Q .normal { a with defers := { target := .collected D, args := #[] } :: a.defers } W) :
    (Code.rangeFunc g ps assign body).wpIn F n P Q a w := by
  refine wpIn_rangeFunc fun fn hfn => ?_
  rw [hro]
  -- the loop's record, by its state and what is pending; its two blocks
  obtain ⟨rc, hrc⟩ : ∃ rc : LoopState → Option Code → Loop, rc = fun st pe => { state := st, pending := pe, fn, tmps := a.tmps, params := ps, assign, body, defers := w.heap.size } := ⟨_, rfl⟩
  obtain ⟨W1, hW1⟩ : ∃ W1, (w.alloc (.deferred (some []))).alloc (.loop (rc .ready none)) = W1 := ⟨_, rfl⟩
  have hz1 : W1.heap.size = w.heap.size + 1 + 1 := by rw [← hW1]; simp
  have hL1 : W1.heap[w.heap.size + 1]? = some (.loop (rc .ready none)) := by
    rw [← hW1]
    have := World.alloc_heap_new (w.alloc (.deferred (some []))) (.loop (rc .ready none))
    rwa [World.size_alloc] at this
  have hK1 : W1.heap[w.heap.size]? = some (.deferred (some [])) := by
    rw [← hW1]
    exact (Below.heap_alloc _ _ _ (by simp)).trans (World.alloc_heap_new w _)
  have hI1 : I [] W1 := by rw [← hW1]; exact hI.alloc _ (hI.alloc _ h0)
  have hb1 : Below w0.heap.size w0 W1 := by
    rw [← hW1]
    exact hb0.trans ((((Below.refl _ w).alloc (Nat.le_refl _) _).alloc (by simp) _).mono hb0.size)
  refine ⟨w.heap.size + 1, [{ target := .collected w.heap.size, args := #[] }], W1, { target := .fn (.func gf) lb, args := #[.func (.yield (w.heap.size + 1)) #[] #[]] }, W1, gf,
    #[.func (.yield (w.heap.size + 1)) #[] #[]] ++ lb, W1, ?_, ?_, ?_, ?_, fun _ => h1, ?_⟩
  · rw [← hW1, hrc]; exact run_enterLoop_outer _ _ _ _ _
  · simp only [resolve, hg]
    simp [go_sem]
  · intro f' hf'
    simp [Target.leads] at hf'
    subst hf'
    exact hFg
  · simp [invoke, go_sem, eg]
  have hfar : ∀ {X Y : World} {row : Option Nat} {k : Nat} {o : Obj}, X.grownBy Y row → (∀ r, row = some r → W1.heap.size ≤ r) → k < W1.heap.size → X.heap[k]? = some o → Y.heap[k]? = some o := fun hg' hr hk ho =>
    (hg'.block _ (Array.getElem?_eq_some_iff.1 ho).1 (fun e => by have := hr _ e.symm; omega)).trans ho
  refine (hseq (w.heap.size + 1)
    (fun pre W => I pre W ∧ W.heap[w.heap.size + 1]? = some (.loop (rc .ready none)) ∧ W.heap[w.heap.size]? = some (.deferred (some [])))
    W1 hb1 (by have := hb0.size; omega)
    (fun s X Y row hs hg' hr => ⟨hI s X Y row hs.1 hg' (fun r e => by have := hr r e; omega), hfar hg' hr (by omega) hs.2.1, hfar hg' hr (by omega) hs.2.2⟩)
    ?_ ⟨hI1, hL1, hK1⟩).mono ?_
  · rintro pre x W ⟨hi, hl, hk⟩ hlen
    have hlt : w.heap.size + 1 < W.heap.size := (Array.getElem?_eq_some_iff.1 hl).1
    have hy := run_yield (P := P) (args := encs x) hl (by rw [hrc]; exact hps x)
    rw [hrc] at hy
    refine ⟨fn, _, assign, body, hy, roundIn_of_wpIn hfn (hassign _ pre x W _ hi ?_)⟩
    clear hy
    intro a' V hkfa hkpa hia hax
    have hlV := hkfa.same _ _ (by omega) hl rfl
    have hkV := hkfa.same _ _ (Nat.le_refl _) hk rfl
    have hltV : w.heap.size + 1 < V.heap.size := (Array.getElem?_eq_some_iff.1 hlV).1
    refine ⟨_, run_beginRound hlV (by rw [hrc]), ?_⟩
    have hl2 : (V.putObj (w.heap.size + 1) (.loop { rc .ready none with state := .busy })).heap[w.heap.size + 1]? = some (.loop { rc .ready none with state := .busy }) := World.putObj_heap_same hltV
    have hk2 : (V.putObj (w.heap.size + 1) (.loop { rc .ready none with state := .busy })).heap[w.heap.size]? = some (.deferred (some [])) := (World.putObj_heap_other (by omega)).trans hkV
    have hw2 : Kp V (V.putObj (w.heap.size + 1) (.loop { rc .ready none with state := .busy })) := hKb _ _ _ hlV rfl rfl
    refine wpIn_mono (hbody _ pre x a' _ (by omega) ⟨_, hl2⟩ (hI.putObj _ hia (by omega)) ((hAx x a').putObj (s := ()) _ hax (by omega) hlV rfl) hlen) ?_
    -- how a round ends: the record is ready again, or it is done and a jump is pending
    have fin : ∀ (jump : Option Code) (Z : World), KeepsFrom w.heap.size (V.putObj (w.heap.size + 1) (.loop { rc .ready none with state := .busy })) Z →
        (Instr.endRound (w.heap.size + 1) jump).run P Z = .ok (.bool jump.isNone) (Z.putObj (w.heap.size + 1) (.loop (rc (if jump.isNone then .ready else .done) jump))) ∧
        Z.heap[w.heap.size + 1]? = some (.loop { rc .ready none with state := .busy }) ∧
        (Z.putObj (w.heap.size + 1) (.loop (rc (if jump.isNone then .ready else .done) jump))).heap[w.heap.size + 1]? = some (.loop (rc (if jump.isNone then .ready else .done) jump)) ∧
        (Z.putObj (w.heap.size + 1) (.loop (rc (if jump.isNone then .ready else .done) jump))).heap[w.heap.size]? = some (.deferred (some [])) := fun jump Z hkz => by
      have hlz := hkz.same _ _ (by omega) hl2 rfl
      have he := run_endRound (P := P) jump hlz
      rw [hrc] at he ⊢
      exact ⟨he, by rw [hrc] at hlz; exact hlz, World.putObj_heap_same (Array.getElem?_eq_some_iff.1 hlz).1, (World.putObj_heap_other (by omega)).trans (hkz.same _ _ (Nat.le_refl _) hk2 rfl)⟩
    rintro e a3 Z hp
    cases e with
    | normal =>
      obtain ⟨hkz, hkp, hiz⟩ := hp
      obtain ⟨hr, hlz, hl4, hk4⟩ := fin none Z hkz
      exact ⟨_, _, hr, rfl, ⟨hI.putObj _ hiz (by omega), hl4, hk4⟩, hKt hkpa (hKt (hKt hw2 hkp) (hKb _ _ _ hlz rfl rfl))⟩
    | ret => exact hp.2.elim
    | exit id => exact hp.2.elim
    | goto t => exact hp.2.elim
    | panic ch => exact hp.elim
    | outgrown => exact hp.elim
  · rintro e W2 ⟨⟨v, rfl⟩, xs, hS, hi, hl, hk⟩
    have he := run_endLoop (P := P) hl (by rw [hrc]; simp)
    rw [hrc] at he
    exact ⟨none, _, he, hdone _ xs _ (Nat.le_refl _) hS (hI.putObj _ hi (by omega)) ((World.putObj_heap_other (by omega)).trans hk)⟩
theorem rangeFunc_cN {α : Type} {g : Operand} {ps : Array Tmp} {assign body : Code} {Q : Exit → Act → World → Prop} {a : Act}
    {l₀ : Nat} {r₀ : Loop} (hro : F.round = some l₀) (hl₀ : w.heap[l₀]? = some (.loop r₀)) (h1 : 1 ≤ n) {gf : Nat} {lb : Array Value} (hg : a.eval g = .func (.func gf) #[] lb) (hFg : F.fn gf) (eg : ∀ args w, (callFunc gf args).run P w = .ok (.enter gf args) w)
    {encs : α → Array Value} {Kp : World → World → Prop} {S Sp : List α → Prop} {R : List α → α → Prop} {w0 : World} (hseq : SeqC F (n - 1) P gf lb encs Kp S Sp R w0)
    (hKt : ∀ {A B C : World}, Kp A B → Kp B C → Kp A C) (hKb : ∀ (W : World) (o o' : Obj), W.heap[w.heap.size]? = some o → o.isCells = false → o.isWalk = false → Kp W (W.putObj w.heap.size o')) (hb0 : Below w0.heap.size w0 w) (hps : ∀ x, (encs x).size = ps.size)
    (I : List α → World → Prop) (Ix : Code → List α → World → Prop) (hI : AllFrom w.heap.size I) (hIx : ∀ c, AllFrom w.heap.size (Ix c)) (h0 : I [] w) (Ax : α → Act → World → Prop) (hAx : ∀ x a', OwnFrom w.heap.size (fun (_ : Unit) W => Ax x a' W))
    (hassign : ∀ (l : Nat) (pre : List α) (x : α) (W : World) (K : Act → World → Prop), I pre W → (∀ a' W', KeepsFrom w.heap.size W W' → Kp W W' → I pre W' → Ax x a' W' → K a' W') →
      assign.wpIn (F.inRound l) (n - 1 - 1) P (Exit.then K (fun _ _ _ => False)) { tmps := (ps.zip (encs x)).foldl (fun t (p, v) => t.setIfInBounds p v) a.tmps, defers := [] } W)
    (hbody : ∀ (l : Nat) (pre : List α) (x : α) (a' : Act) (W : World), w.heap.size ≤ l → (∃ r, W.heap[l]? = some (.loop r)) → I pre W → Ax x a' W → R pre x → body.wpIn (F.inRound l) (n - 1 - 1) P (ownPostG w.heap.size Kp I Ix (pre ++ [x]) W) a' W)
    (hdone : ∀ (xs : List α) (W : World), S xs → I xs W → Q .normal a W)
    (hstop : ∀ (c : Code) (pre : List α) (W : World), Sp pre → Ix c pre W → c.wpIn F n P Q a W) :
    (Code.rangeFunc g ps assign body).wpIn F n P Q a w := by
  refine wpIn_rangeFunc fun fn hfn => ?_
  rw [hro]
  -- the loop's record, by its state and what is pending; one block
  obtain ⟨rc, hrc⟩ : ∃ rc : LoopState → Option Code → Loop, rc = fun st pe => { state := st, pending := pe, fn, tmps := a.tmps, params := ps, assign, body, defers := r₀.defers } := ⟨_, rfl⟩
  obtain ⟨W1, hW1⟩ : ∃ W1, w.alloc (.loop (rc .ready none)) = W1 := ⟨_, rfl⟩
  have hz1 : W1.heap.size = w.heap.size + 1 := by rw [← hW1]; simp
  have hL1 : W1.heap[w.heap.size]? = some (.loop (rc .ready none)) := by
    rw [← hW1]
    exact World.alloc_heap_new w (.loop (rc .ready none))
  have hI1 : I [] W1 := by rw [← hW1]; exact hI.alloc _ h0
  have hb1 : Below w0.heap.size w0 W1 := by
    rw [← hW1]
    exact hb0.trans (((Below.refl _ w).alloc (Nat.le_refl _) _).mono hb0.size)
  refine ⟨w.heap.size, [], W1, { target := .fn (.func gf) lb, args := #[.func (.yield w.heap.size) #[] #[]] }, W1, gf,
    #[.func (.yield w.heap.size) #[] #[]] ++ lb, W1, ?_, ?_, ?_, ?_, fun _ => h1, ?_⟩
  · rw [← hW1, hrc]; exact run_enterLoop_inner hl₀ _ _ _ _ _
  · simp only [resolve, hg]
    simp [go_sem]
  · intro f' hf'
    simp [Target.leads] at hf'
    subst hf'
    exact hFg
  · simp [invoke, go_sem, eg]
  have hfar : ∀ {X Y : World} {row : Option Nat} {k : Nat} {o : Obj}, X.grownBy Y row → (∀ r, row = some r → W1.heap.size ≤ r) → k < W1.heap.size → X.heap[k]? = some o → Y.heap[k]? = some o := fun hg' hr hk ho =>
    (hg'.block _ (Array.getElem?_eq_some_iff.1 ho).1 (fun e => by have := hr _ e.symm; omega)).trans ho
  refine (hseq w.heap.size
    (fun pre W => I pre W ∧ W.heap[w.heap.size]? = some (.loop (rc .ready none)))
    (fun pre W => ∃ c, Ix c pre W ∧ W.heap[w.heap.size]? = some (.loop (rc .done (some c))))
    W1 hb1
    (fun s X Y row hs hg' hr => ⟨hI s X Y row hs.1 hg' (fun r e => by have := hr r e; omega), hfar hg' hr (by omega) hs.2⟩)
    (fun s X Y row hs hg' hr => by
      obtain ⟨c, hc, hl⟩ := hs
      exact ⟨c, hIx c s X Y row hc hg' (fun r e => by have := hr r e; omega), hfar hg' hr (by omega) hl⟩)
    ?_ ⟨hI1, hL1⟩).mono ?_
  · rintro pre x W ⟨hi, hl⟩ hlen
    have hlt : w.heap.size < W.heap.size := (Array.getElem?_eq_some_iff.1 hl).1
    have hy := run_yield (P := P) (args := encs x) hl (by rw [hrc]; exact hps x)
    rw [hrc] at hy
    refine ⟨fn, _, assign, body, hy, roundIn_of_wpIn hfn (hassign _ pre x W _ hi ?_)⟩
    clear hy
    intro a' V hkfa hkpa hia hax
    have hlV := hkfa.same _ _ (Nat.le_refl _) hl rfl
    have hltV : w.heap.size < V.heap.size := (Array.getElem?_eq_some_iff.1 hlV).1
    refine ⟨_, run_beginRound hlV (by rw [hrc]), ?_⟩
    have hl2 : (V.putObj w.heap.size (.loop { rc .ready none with state := .busy })).heap[w.heap.size]? = some (.loop { rc .ready none with state := .busy }) := World.putObj_heap_same hltV
    have hw2 : Kp V (V.putObj w.heap.size (.loop { rc .ready none with state := .busy })) := hKb _ _ _ hlV rfl rfl
    refine wpIn_mono (hbody _ pre x a' _ (Nat.le_refl _) ⟨_, hl2⟩ (hI.putObj _ hia (Nat.le_refl _)) ((hAx x a').putObj (s := ()) _ hax (Nat.le_refl _) hlV rfl) hlen) ?_
    have fin : ∀ (jump : Option Code) (Z : World), KeepsFrom w.heap.size (V.putObj w.heap.size (.loop { rc .ready none with state := .busy })) Z →
        (Instr.endRound w.heap.size jump).run P Z = .ok (.bool jump.isNone) (Z.putObj w.heap.size (.loop (rc (if jump.isNone then .ready else .done) jump))) ∧
        Z.heap[w.heap.size]? = some (.loop { rc .ready none with state := .busy }) ∧
        (Z.putObj w.heap.size (.loop (rc (if jump.isNone then .ready else .done) jump))).heap[w.heap.size]? = some (.loop (rc (if jump.isNone then .ready else .done) jump)) := fun jump Z hkz => by
      have hlz := hkz.same _ _ (Nat.le_refl _) hl2 rfl
      have he := run_endRound (P := P) jump hlz
      rw [hrc] at he ⊢
      exact ⟨he, by rw [hrc] at hlz; exact hlz, World.putObj_heap_same (Array.getElem?_eq_some_iff.1 hlz).1⟩
    rintro e a3 Z hp
    have leave : ∀ c : Code, KeepsFrom w.heap.size (V.putObj w.heap.size (.loop { rc .ready none with state := .busy })) Z → Ix c (pre ++ [x]) Z →
        ∃ v W', (Instr.endRound w.heap.size (some c)).run P Z = .ok v W' ∧ v = .bool false ∧ ∃ c', Ix c' (pre ++ [x]) W' ∧ W'.heap[w.heap.size]? = some (.loop (rc .done (some c'))) := fun c hkz hiz => by
      obtain ⟨hr, hlz, hl4⟩ := fin (some c) Z hkz
      exact ⟨_, _, hr, rfl, c, (hIx c).putObj _ hiz (Nat.le_refl _), hl4⟩
    cases e with
    | normal =>
      obtain ⟨hkz, hkp, hiz⟩ := hp
      obtain ⟨hr, hlz, hl4⟩ := fin none Z hkz
      exact ⟨_, _, hr, .inl ⟨rfl, ⟨hI.putObj _ hiz (Nat.le_refl _), hl4⟩, hKt hkpa (hKt (hKt hw2 hkp) (hKb _ _ _ hlz rfl rfl))⟩⟩
    | ret => obtain ⟨v, W', h1, h2, h3⟩ := leave _ hp.1 hp.2; exact ⟨v, W', h1, .inr ⟨by rw [h2], h3⟩⟩
    | exit id => obtain ⟨v, W', h1, h2, h3⟩ := leave _ hp.1 hp.2; exact ⟨v, W', h1, .inr ⟨by rw [h2], h3⟩⟩
    | goto t => obtain ⟨v, W', h1, h2, h3⟩ := leave _ hp.1 hp.2; exact ⟨v, W', h1, .inr ⟨by rw [h2], h3⟩⟩
    | panic ch => exact hp.elim
    | outgrown => exact hp.elim
  · rintro e W2 ⟨⟨v, rfl⟩, (⟨xs, hS, hi, hl⟩ | ⟨pre, hSp, c, hi, hl⟩)⟩
    · have he := run_endLoop (P := P) hl (by rw [hrc]; simp)
      rw [hrc] at he
      exact ⟨none, _, he, hdone xs _ hS (hI.putObj _ hi (Nat.le_refl _))⟩
    · have he := run_endLoop (P := P) hl (by rw [hrc]; simp)
      rw [hrc] at he
      exact ⟨some c, _, he, hstop c pre _ hSp ((hIx c).putObj _ hi (Nat.le_refl _))⟩
/-- what was kept from e on. -/
theorem Kp.from {a b c e : Nat} {W W' : World} (h : Kp a b c e W W') (hb : b ≤ e) : KeepsFrom e W W' := ⟨h.size, fun k o hk ho hc => h.kept k o ho (by omega) (.inr (.inr hk))⟩
theorem Kp.mono {a b c e e' : Nat} {W W' : World} (h : Kp a b c e W W') (he : e ≤ e') : Kp a b c e' W W' := ⟨h.os, h.tape, h.output, h.size, fun k o hk hn ho => h.kept k o hk hn (by rcases ho with q | q | q; exact .inl q; exact .inr (.inl q); exact .inr (.inr (by omega)))⟩
theorem AllFrom.keeps {β : Type} {B B' : Nat} {w₀ : World} (hB : w₀.heap.size ≤ B') : AllFrom B' (fun (_ : β) W => KeepsFrom B w₀ W) :=
  fun _ X Y row hs hg hr => ⟨Nat.le_trans hs.size hg.size, fun k o hk h0 ho => (hg.block k (Nat.lt_of_lt_of_le (Array.getElem?_eq_some_iff.1 h0).1 hs.size) (fun q => by have := hr k q.symm; have := (Array.getElem?_eq_some_iff.1 h0).1; omega)).trans (hs.same k o hk h0 ho)⟩
end Td
end Go.Proofs.Ytgkdidnmndmlhaa
