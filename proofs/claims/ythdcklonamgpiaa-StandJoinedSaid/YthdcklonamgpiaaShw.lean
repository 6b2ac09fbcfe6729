import Derived.Test.YthdcklonamgpiaaBer
/- The truth that shows why a hull does not stand: two lists that are appended to. -/
namespace Go.Proofs.Ythdcklonamgpiaa
open Go.RowKit
namespace Td
set_option linter.unusedSimpArgs false
set_option linter.unusedVariables false
attribute [local go_sem] Oper.semAt_some
theorem own_far {W : World} {B sz n : Nat} {t : TypeId} {v : Value} {xs : List Value} (h : W.ownsRow B t sz v n xs) (g i : Nat) (u : Value) (hne : ∀ k, v.ownBlock = some k → k ≠ g) : (W.setCell ⟨g, i, none⟩ u).ownsRow B t sz v n xs :=
  h.kept (row := some g) ⟨rfl, rfl, rfl, by simp, fun k hk hn => heap_setCell_other W ⟨g, i, none⟩ k u (fun e => hn (by rw [e]))⟩ (by
    cases hv : v.ownBlock with
    | none => exact .inl rfl
    | some k => exact .inr (fun e => hne k hv (by cases e; rfl)))
theorem own_row {W : World} {B sz n : Nat} {t : TypeId} {v : Value} {xs : List Value} (h : W.ownsRow B t sz v n xs) (g : Nat) (cs : Array Value) (hne : ∀ k, v.ownBlock = some k → k ≠ g) : (W.setRow g cs).ownsRow B t sz v n xs :=
  h.kept (row := some g) ⟨rfl, rfl, rfl, by rw [size_setRow]; exact Nat.le_refl _, fun k hk hn => setRow_other W g k cs (fun e => hn (by rw [e]))⟩ (by
    cases hv : v.ownBlock with
    | none => exact .inl rfl
    | some k => exact .inr (fun e => hne k hv (by cases e; rfl)))
/-- append of one number behind a slice that owns its row; where the new slice may lie. -/
theorem append_int {W : World} {B g : Nat} {v : Value} {l : List Int} {x : Int} (hown : W.ownsRow B 3 1 v l.length (l.map fun x => .int .i64 x)) (hg : Blk W g 3 #[.int .i64 x]) (hl : l.length ≤ 1000) (hB : B ≤ W.heap.size) (ty : TypeId) :
    ∃ v' w', (Builtin.append_ #[25, 25] ty #[v, .slice (some ⟨g, 0, none⟩) 1 1]).run Try.prog W = .ok v' w' ∧ w'.ownsRow B 3 1 v' (l ++ [x]).length ((l ++ [x]).map fun x => .int .i64 x) ∧ W.grownBy w' v.ownBlock ∧ (v'.ownBlock = v.ownBlock ∨ v'.ownBlock = some W.heap.size) := by
  obtain ⟨i0, hi0, hi1⟩ := Option.map_eq_some_iff.1 info3
  simp only [Prod.mk.injEq] at hi1
  obtain ⟨hz0, hz1, hz2⟩ := hi1
  obtain ⟨v', w', h1, h2, h3, _, h5⟩ := run_append_own_at (P := Try.prog) W B 25 ty 3 i0 _ 1 8 Try.underlying25 hi0 hz0 hz1 hz2 rfl (by omega)
    v l.length (l.map fun x => .int .i64 x) hown ⟨g, 0, none⟩ 1 1 [.int .i64 x] (by simp) (fun j u hj => by
      rw [add_new]
      have := hg.cell j
      rw [this]
      simpa using hj) (by intro u hu; simp at hu; subst hu; rfl) (by simp only [maxLen]; omega) (by omega) hB
  refine ⟨v', w', h1, ?_, h3, h5⟩
  rw [List.map_append, List.length_append]
  exact h2
theorem wpList_append_int {W : World} {ops : Array Oper} {rest : List Oper} {o : Oper} {a : Act} {Q : Exit → Act → World → Prop} (hgd : o.guard = none) (x y : Operand) (ho : o.op = .call { callee := .builtin .append, args := #[x, y], argTypes := #[25, 25] })
    (B g : Nat) (v : Value) (l : List Int) (n : Int) (hx : a.eval x = v) (hy : a.eval y = .slice (some ⟨g, 0, none⟩) 1 1) (hown : W.ownsRow B 3 1 v l.length (l.map fun x => .int .i64 x)) (hg : Blk W g 3 #[.int .i64 n]) (hl : l.length ≤ 1000) (hB : B ≤ W.heap.size)
    (h : ∀ v' w', w'.ownsRow B 3 1 v' (l ++ [n]).length ((l ++ [n]).map fun x => .int .i64 x) → W.grownBy w' v.ownBlock → (v'.ownBlock = v.ownBlock ∨ v'.ownBlock = some W.heap.size) → wpList Try.prog ops Q rest (a.put o.dst v') w') : wpList Try.prog ops Q (o :: rest) a W := by
  refine wpList_plain hgd fun _ hK => ?_
  obtain ⟨v', w', hr, h2, h3, h5⟩ := append_int hown hg hl hB o.type
  unfold Oper.wp execOp
  simp only [ho, resolve, invoke, builtin, Sem.run_bind, Sem.run_pure, Result.andThen_ok, List.map_toArray, List.map_cons, List.map_nil, hx, hy, hr]
  exact hK _ _ (h v' w' h2 h3 h5)
/-- a truth that is being built: two lists in memory of their own. -/
structure Tw (w : World) (B gt : Nat) (vg vl : Value) (gs ls : List Int) (X : World) : Prop where
  sn : Since w X
  tb : Blk X gt 27 #[vg, vl]
  og : X.ownsRow B 3 1 vg gs.length (gs.map fun x => .int .i64 x)
  ol : X.ownsRow B 3 1 vl ls.length (ls.map fun x => .int .i64 x)
  ne : ∀ g, vg.ownBlock = some g → vl.ownBlock ≠ some g
  lt : gt < B
  sB : B ≤ X.heap.size
  wB : w.heap.size ≤ gt
section
variable {w : World} {B gt : Nat} {vg vl : Value} {gs ls : List Int} {X X' : World}
theorem Tw.keep (h : Tw w B gt vg vl gs ls X) (hb : Below X.heap.size X X') : Tw w B gt vg vl gs ls X' := ⟨h.sn.keep hb, h.tb.keep hb, own_keep h.og hb, own_keep h.ol hb, h.ne, h.lt, Nat.le_trans h.sB hb.size, h.wB⟩
theorem Tw.alloc (h : Tw w B gt vg vl gs ls X) (o : Obj) : Tw w B gt vg vl gs ls (X.alloc o) := h.keep ((Below.refl _ _).alloc (Nat.le_refl _) _)
theorem Tw.pushG (h : Tw w B gt vg vl gs ls X) {v' : Value} {Y : World} {x : Int} (ho : Y.ownsRow B 3 1 v' (gs ++ [x]).length ((gs ++ [x]).map fun x => .int .i64 x)) (hg : X.grownBy Y vg.ownBlock) (hv : v'.ownBlock = vg.ownBlock ∨ v'.ownBlock = some X.heap.size) :
    Tw w B gt v' vl (gs ++ [x]) ls (Y.setCell ⟨gt, 0, none⟩ v') := by
  have hlt := h.lt
  have hwB := h.wB
  have hrow : ∀ r, vg.ownBlock = some r → B ≤ r := fun r hr => (h.og.lt r hr).1
  refine ⟨⟨(h.sn.1.grown hg h.sn.2 (fun q e => by have := hrow q e; omega)).setCell (p := ⟨gt, 0, none⟩) hwB _, by have := h.sn.2; have := hg.size; simp; omega⟩, ?_, own_far ho gt 0 _ (fun k e => by have := (ho.lt k e).1; omega), own_far (h.ol.kept hg ?_) gt 0 _ (fun k e => by have := (h.ol.lt k e).1; omega), ?_, hlt, by have := h.sB; have := hg.size; simp; omega, hwB⟩
  · exact (h.tb.grown hg (fun e => by have := hrow gt e.symm; omega)).set 0 v'
  · cases e : vl.ownBlock with
    | none => exact .inl rfl
    | some k => exact .inr (fun e2 => h.ne k e2.symm e)
  · intro g e1 e2
    rcases hv with e3 | e3
    · exact h.ne g (e3 ▸ e1) e2
    · rw [e3] at e1; cases e1
      have := (h.ol.lt _ e2).2; omega
theorem Tw.pushL (h : Tw w B gt vg vl gs ls X) {v' : Value} {Y : World} {x : Int} (ho : Y.ownsRow B 3 1 v' (ls ++ [x]).length ((ls ++ [x]).map fun x => .int .i64 x)) (hg : X.grownBy Y vl.ownBlock) (hv : v'.ownBlock = vl.ownBlock ∨ v'.ownBlock = some X.heap.size) :
    Tw w B gt vg v' gs (ls ++ [x]) (Y.setCell ⟨gt, 1, none⟩ v') := by
  have hlt := h.lt
  have hwB := h.wB
  have hrow : ∀ r, vl.ownBlock = some r → B ≤ r := fun r hr => (h.ol.lt r hr).1
  refine ⟨⟨(h.sn.1.grown hg h.sn.2 (fun q e => by have := hrow q e; omega)).setCell (p := ⟨gt, 1, none⟩) hwB _, by have := h.sn.2; have := hg.size; simp; omega⟩, ?_, own_far (h.og.kept hg ?_) gt 1 _ (fun k e => by have := (h.og.lt k e).1; omega), own_far ho gt 1 _ (fun k e => by have := (ho.lt k e).1; omega), ?_, hlt, by have := h.sB; have := hg.size; simp; omega, hwB⟩
  · exact (h.tb.grown hg (fun e => by have := hrow gt e.symm; omega)).set 1 v'
  · cases e : vg.ownBlock with
    | none => exact .inl rfl
    | some k => exact .inr (fun e2 => h.ne k e e2.symm)
  · intro g e1 e2
    rcases hv with e3 | e3
    · exact h.ne g e1 (e3 ▸ e2)
    · rw [e3] at e2; cases e2
      have := (h.og.lt _ e1).2; omega
end
/-- a slice that owns a list, opened. -/
theorem own_int {W : World} {B : Nat} {v : Value} {l : List Int} (h : W.ownsRow B 3 1 v l.length (l.map fun x => .int .i64 x)) : ∃ A c, v = .slice A l.length c ∧ InAt W A l ∧ (l.length ≤ c ∧ c ≤ 9223372036854775807) ∧ ∀ a, A = some a → B ≤ a.block := by
  rcases h.2 with ⟨rfl, h0⟩ | ⟨g, cap, cur, rfl, hB, hg, hn, hm, hs, ht⟩
  · have : l = [] := List.eq_nil_of_length_eq_zero h0
    subst this
    exact ⟨none, 0, rfl, fun hx => absurd rfl hx, by simp, fun a e => by cases e⟩
  · refine ⟨_, cap, rfl, fun hx => ⟨_, rfl, fun i p hp => ?_⟩, ⟨hn, by simp only [maxLen] at hm; omega⟩, fun a e => by cases e; exact hB⟩
    have hil : i < l.length := (List.getElem?_eq_some_iff.1 hp).1
    rw [add_new]
    have h1 : (l.map fun x => Value.int .i64 x)[i]? = some (.int .i64 p) := by rw [List.getElem?_map, hp]; rfl
    rw [← ht, List.getElem?_take, if_pos (by omega)] at h1
    simp [World.cell?, hg]
    simpa using h1
theorem InAt.row {W : World} {A : Option Addr} {l : List Int} (h : InAt W A l) (g : Nat) (cs : Array Value) (hne : ∀ a, A = some a → a.block ≠ g) : InAt (W.setRow g cs) A l := fun hx => by
  obtain ⟨a, ha, hc⟩ := h hx
  refine ⟨a, ha, fun i p hp => ?_⟩
  have := hc i p hp
  unfold World.cell? at this ⊢
  rw [setRow_other W g _ cs (by rw [add_block]; exact hne a ha)]
  exact this
/-- a truth, as a value, in memory from B on. -/
def Tv (B : Nat) (X : World) (v : Value) (gs ls : List Int) : Prop := ∃ GA gc LA lc, v = .agg (tV GA gs.length gc LA ls.length lc) ∧ InAt X GA gs ∧ InAt X LA ls ∧ ((gs.length ≤ gc ∧ gc ≤ 9223372036854775807) ∧ (ls.length ≤ lc ∧ lc ≤ 9223372036854775807)) ∧ (∀ a, GA = some a → B ≤ a.block) ∧ ∀ a, LA = some a → B ≤ a.block
theorem Tv.keep {B : Nat} {X X' : World} {v : Value} {gs ls : List Int} (h : Tv B X v gs ls) (hb : Below X.heap.size X X') : Tv B X' v gs ls := by
  obtain ⟨GA, gc, LA, lc, e, h1, h2, h3⟩ := h
  exact ⟨GA, gc, LA, lc, e, h1.keep hb, h2.keep hb, h3⟩
theorem shG_take (h : Hul) (k : Nat) {j : Nat} (hj : j < h.parts.length) : (shG h k).take (j + 1) = (shG h k).take j ++ [sdW h.aft h.fore k h.parts[j]] := by
  have hl : j < (shG h k).length := by simpa [shG] using hj
  rw [List.take_succ_eq_append_getElem hl]; simp [shG]
theorem shL_take (h : Hul) (k : Nat) {j : Nat} (hj : j < h.parts.length) : (shL h k).take (j + 1) = (shL h k).take j ++ [sdL h.aft h.fore k h.parts[j]] := by
  have hl : j < (shL h k).length := by simpa [shL] using hj
  rw [List.take_succ_eq_append_getElem hl]; simp [shL]
set_option maxRecDepth 100000 in
set_option maxHeartbeats 4000000 in
theorem shown_c (h : Hul) (m : Sl) (y : Int) (k : Nat) (w : World) (hh : HBk h) (hp : HAt w m h) (hk3 : k < 3) (hyk : max y 1 = (k : Int) + 1) :
    Calls Try.prog 75 #[.agg (hV h m), .int .i64 y] w fun e w' => (∃ v, e = .returned v ∧ Tv w.heap.size w' v (shG h k) (shL h k)) ∧ Below w.heap.size w w' := by
  have hn10 := hh.n10
  have hs0 := ((Since.refl w).alloc (.cells (hV h m) 92)).alloc (.cells #[.slice none 0 0, .slice none 0 0] 27)
  have HW := Lib.hid ((Blk.new w 92 (hV h m)).alloc (.cells #[.slice none 0 0, .slice none 0 0] 27))
  have HR := Lib.hid (Blk.new1 w (.cells (hV h m) 92) 27 #[.slice none 0 0, .slice none 0 0])
  go_enter Try.func75, Try.ntmps75
  go_wp2_with fail
  refine (sums_c h m _).mono ?_
  rintro e w1 ⟨⟨rfl, hg1⟩, hb1⟩
  have hs1 := hs0.keep hb1
  have HW1 := Lib.hid (HW.out.keep hb1)
  have HR1 := Lib.hid (HR.out.keep hb1)
  have HG1 := Lib.hid hg1
  obtain ⟨gs, hgs⟩ : ∃ gs, ((w.alloc (.cells (hV h m) 92)).alloc (.cells #[.slice none 0 0, .slice none 0 0] 27)).heap.size = gs := ⟨_, rfl⟩
  rw [hgs] at HG1 ⊢
  have HNG0 : Hid (gs < w1.heap.size) := HG1.out.lt
  clear HW HR hg1 hb1 hgs hs0
  have hix := index_sum gs hk3
  have HFS := Lib.hid (sdF_enter k)
  have HCS : Hid (∀ (x : Prt) (W : World), Blk W gs 92 (hV h m) → Calls Try.prog (sdF k) (#[.agg (pV x)] ++ sdC gs k) W fun e w' => e = .returned (.tuple #[.int .i64 (sdW h.aft h.fore k x), .int .i64 (sdL h.aft h.fore k x)]) ∧ Below W.heap.size W w') :=
    fun x W hg => sdF_c k x h m gs W hg hk3
  obtain ⟨fa, hfa⟩ : ∃ fa, adF k = fa := ⟨_, rfl⟩
  obtain ⟨fs, hfs⟩ : ∃ fs, sdF k = fs := ⟨_, rfl⟩
  obtain ⟨cp, hcp⟩ : ∃ cp, sdC gs k = cp := ⟨_, rfl⟩
  rw [hfs] at HFS HCS
  rw [hcp] at HCS
  rw [hfa, hfs, hcp] at hix
  clear hfa hfs hcp
  have HS1 := Lib.hid (Blk.new w1 132 #[.nilFunc, .nilFunc])
  have e1 : IntKind.i64.wrap (max y 1 - 1) = (k : Int) := by rw [hyk, Int.add_sub_cancel]; exact IntWalk.i64_in _ (by omega)
  clear hyk
  have hS2 := (HS1.out.row (s1V fa fs cp)).alloc (.cells #[.slice none 0 0, .slice none 0 0] 27)
  have hW2 := ((HW1.out.alloc (.cells #[.nilFunc, .nilFunc] 132)).rowFar (g' := w1.heap.size) (by have := HW1.out.lt; omega) (s1V fa fs cp)).alloc (.cells #[.slice none 0 0, .slice none 0 0] 27)
  have hR2 := ((HR1.out.alloc (.cells #[.nilFunc, .nilFunc] 132)).rowFar (g' := w1.heap.size) (by have := HR1.out.lt; omega) (s1V fa fs cp)).alloc (.cells #[.slice none 0 0, .slice none 0 0] 27)
  have hG2 := ((HG1.out.alloc (.cells #[.nilFunc, .nilFunc] 132)).rowFar (g' := w1.heap.size) (by have := HG1.out.lt; omega) (s1V fa fs cp)).alloc (.cells #[.slice none 0 0, .slice none 0 0] 27)
  have hs2 := ((hs1.alloc (.cells #[.nilFunc, .nilFunc] 132)).row (g := w1.heap.size) hs1.2 (s1V fa fs cp)).alloc (.cells #[.slice none 0 0, .slice none 0 0] 27)
  have hT2 := Blk.new ((w1.alloc (.cells #[.nilFunc, .nilFunc] 132)).setRow w1.heap.size (s1V fa fs cp)) 27 #[.slice none 0 0, .slice none 0 0]
  have hz2 : ((w1.alloc (.cells #[.nilFunc, .nilFunc] 132)).setRow w1.heap.size (s1V fa fs cp)).heap.size = w1.heap.size + 1 := by rw [size_setRow]; simp
  rw [hz2] at hT2
  obtain ⟨c0, c1, c2⟩ := hW2.hull
  have HS2 := Lib.hid hS2
  have HW2 := Lib.hid hW2
  have HR2 := Lib.hid hR2
  have HG2 := Lib.hid hG2
  have hNS := HR1.out.lt
  have HTW : Hid (Tw w (w1.heap.size + 1 + 1) (w1.heap.size + 1) (.slice none 0 0) (.slice none 0 0) ((shG h k).take 0) ((shL h k).take 0) (((w1.alloc (.cells #[.nilFunc, .nilFunc] 132)).setRow w1.heap.size (s1V fa fs cp)).alloc (.cells #[.slice none 0 0, .slice none 0 0] 27))) :=
    ⟨hs2, hT2, ⟨by simp, .inl ⟨rfl, by simp⟩⟩, ⟨by simp, .inl ⟨rfl, by simp⟩⟩, fun g e => by simp [Value.ownBlock] at e, by omega, by simp [hz2], by have := hs1.2; omega⟩
  clear hS2 hW2 hR2 hG2 hs2 hT2 hz2
  go_wp2_with (refine wpList_store_row rfl 132 _ _ rfl (w1.heap.size) _ rfl rfl 132 _ HS1.out (by kernel_rfl) rfl (by simp [Value.oneCell']) ?_)
  clear c0 c1 c2 HS1 hix e1
  obtain ⟨sm_, hsm⟩ : ∃ sm_, w1.heap.size = sm_ := ⟨_, rfl⟩
  obtain ⟨W3, hW3⟩ : ∃ W3, ((w1.alloc (.cells #[.nilFunc, .nilFunc] 132)).setRow w1.heap.size (s1V fa fs cp)).alloc (.cells #[.slice none 0 0, .slice none 0 0] 27) = W3 := ⟨_, rfl⟩
  rw [hW3] at HTW HS2 HW2 HR2 HG2 ⊢
  rw [hsm] at HTW HS2 hNS ⊢
  have HNG : Hid (gs < sm_) := by show _ < _; rw [← hsm]; exact HNG0.out
  clear hW3 hsm HW1 HR1 HG1 hs1
  go_loopw [21] (fun i wr => ∃ (j : Nat) (vg vl : Value), j ≤ h.parts.length ∧ i = .int .i64 j ∧ Hid (Tw w (sm_ + 1 + 1) (sm_ + 1) vg vl ((shG h k).take j) ((shL h k).take j) wr) ∧ Hid (Blk wr w.heap.size 92 (hV h m)) ∧ Hid (Blk wr (w.heap.size + 1) 27 #[.slice none 0 0, .slice none 0 0]) ∧ Hid (Blk wr gs 92 (hV h m)) ∧ Hid (Blk wr sm_ 132 (s1V fa fs cp))) (fun i _ => h.parts.length - (intOf i).toNat)
  case atStart => exact ⟨0, _, _, by omega, rfl, HTW, HW2, HR2, HG2, HS2⟩
  case round =>
    obtain ⟨j, vg, vl, hj, rfl, HT, HWj, HRj, HGj, HSj⟩ := hrel
    by_cases hlt : j < h.parts.length
    · obtain ⟨ad, hA, z0, z1, z2, z3, z4, z5, z6⟩ := (hp.ps.keep HT.out.sn.1).get hlt
      have d0 := (HSj.out.alloc (.cells (pV h.parts[j]) 74)).cell 0
      have d1 := (HSj.out.alloc (.cells (pV h.parts[j]) 74)).cell 1
      simp only [List.getElem?_toArray, List.getElem?_cons_zero, List.getElem?_cons_succ] at d0 d1
      have HT3 := Lib.hid (HT.out.alloc (.cells (pV h.parts[j]) 74))
      have HW3 := Lib.hid (HWj.out.alloc (.cells (pV h.parts[j]) 74))
      have HR3 := Lib.hid (HRj.out.alloc (.cells (pV h.parts[j]) 74))
      have HG3 := Lib.hid (HGj.out.alloc (.cells (pV h.parts[j]) 74))
      have HS3 := Lib.hid (HSj.out.alloc (.cells (pV h.parts[j]) 74))
      have e1 := HFS.out
      go_wp2_with fail
      refine (HCS.out _ _ HG3.out).mono ?_
      rintro e w5 ⟨rfl, hb5⟩
      have HT5 := Lib.hid (HT3.out.keep hb5)
      have HW5 := Lib.hid (HW3.out.keep hb5)
      have HR5 := Lib.hid (HR3.out.keep hb5)
      have HG5 := Lib.hid (HG3.out.keep hb5)
      have HS5 := Lib.hid (HS3.out.keep hb5)
      clear HT3 HW3 HR3 HG3 HS3 hb5 z0 z1 z2 z3 z4 z5 z6 d0 d1 hA e1 HT HWj HRj HGj HSj
      obtain ⟨x, hx⟩ : ∃ x, sdW h.aft h.fore k h.parts[j] = x := ⟨_, rfl⟩
      obtain ⟨x2, hx2⟩ : ∃ x2, sdL h.aft h.fore k h.parts[j] = x2 := ⟨_, rfl⟩
      have HXG : Hid ((shG h k).take (j + 1) = (shG h k).take j ++ [x]) := by show _ = _; rw [shG_take h k hlt, hx]
      have HXL : Hid ((shL h k).take (j + 1) = (shL h k).take j ++ [x2]) := by show _ = _; rw [shL_take h k hlt, hx2]
      have HLG : Hid (((shG h k).take j).length ≤ 1000) := by show _ ≤ _; rw [List.length_take]; omega
      have HLL : Hid (((shL h k).take j).length ≤ 1000) := by show _ ≤ _; rw [List.length_take]; omega
      rw [hx, hx2]
      clear hx hx2
      obtain ⟨tg, htg⟩ : ∃ tg, (shG h k).take j = tg := ⟨_, rfl⟩
      obtain ⟨tl, htl⟩ : ∃ tl, (shL h k).take j = tl := ⟨_, rfl⟩
      rw [htg] at HXG HLG HT5
      rw [htl] at HXL HLL HT5
      clear htg htl
      have b0 := HT5.out.tb.cell 0
      simp only [List.getElem?_toArray, List.getElem?_cons_zero, List.getElem?_cons_succ] at b0
      have HT6 := Lib.hid (HT5.out.alloc (.cells #[.int .i64 x] 3))
      have HN6 := Lib.hid (Blk.new w5 3 #[.int .i64 x])
      have HW6 := Lib.hid (HW5.out.alloc (.cells #[.int .i64 x] 3))
      have HR6 := Lib.hid (HR5.out.alloc (.cells #[.int .i64 x] 3))
      have HG6 := Lib.hid (HG5.out.alloc (.cells #[.int .i64 x] 3))
      have HS6 := Lib.hid (HS5.out.alloc (.cells #[.int .i64 x] 3))
      have hsz5 := HT5.out.sB
      go_wp2_with (at_builtin; refine wpList_append_int rfl (.tmp 33) (.tmp 35) rfl (sm_ + 1 + 1) w5.heap.size _ tg x (by go_simp) (by go_simp) HT6.out.og HN6.out HLG.out HT6.out.sB ?_)
      intro v7 w7 ho7 hg7 hv7
      replace ho7 : w7.ownsRow (sm_ + 1 + 1) 3 1 v7 (tg ++ [x]).length ((tg ++ [x]).map fun x => .int .i64 x) := by rw [List.length_append, List.map_append]; exact ho7
      obtain ⟨A7, c7, h77, -⟩ := own_int ho7
      obtain ⟨L7, hL7⟩ : ∃ n, (tg ++ [x]).length = n := ⟨_, rfl⟩
      rw [hL7] at h77
      clear hL7
      subst h77
      have HT7 := Lib.hid (HT6.out.pushG (x := x) ho7 hg7 (by rw [World.size_alloc]; exact hv7))
      rw [← HXG.out] at HT7
      have hr7 := fun r hr => (HT6.out.og.lt r hr).1
      have HW7 := Lib.hid ((HW6.out.grown hg7 (fun e => by have := hr7 _ e.symm; omega)).far (g' := sm_ + 1) (by omega) 0 (.slice A7 L7 c7))
      have HR7 := Lib.hid ((HR6.out.grown hg7 (fun e => by have := hr7 _ e.symm; omega)).far (g' := sm_ + 1) (by omega) 0 (.slice A7 L7 c7))
      have HG7 := Lib.hid ((HG6.out.grown hg7 (fun e => by have := hr7 _ e.symm; have := HNG.out; omega)).far (g' := sm_ + 1) (by have := HNG.out; omega) 0 (.slice A7 L7 c7))
      have HS7 := Lib.hid ((HS6.out.grown hg7 (fun e => by have := hr7 _ e.symm; omega)).far (g' := sm_ + 1) (by omega) 0 (.slice A7 L7 c7))
      have t7 := (HT6.out.tb.grown hg7 (fun e => by have := hr7 _ e.symm; omega)).cell 0
      have f7 := (HT6.out.tb.grown hg7 (fun e => by have := hr7 _ e.symm; omega)).frozen 0
      have b1 := HT7.out.tb.cell 1
      simp only [List.getElem?_toArray, List.getElem?_cons_zero, List.getElem?_cons_succ] at t7 b1
      clear b0 HT6 HN6 HW6 HR6 HG6 HS6 HT5 HW5 HR5 HG5 HS5 hr7 ho7 hg7 hv7 hsz5
      have hsz7 := HT7.out.sB
      have HT8 := Lib.hid (HT7.out.alloc (.cells #[.int .i64 x2] 3))
      have HN8 : Hid (Blk ((w7.setCell ⟨sm_ + 1, 0, none⟩ (.slice A7 L7 c7)).alloc (.cells #[.int .i64 x2] 3)) w7.heap.size 3 #[.int .i64 x2]) := by
        have := Blk.new (w7.setCell ⟨sm_ + 1, 0, none⟩ (.slice A7 L7 c7)) 3 #[.int .i64 x2]
        rw [show (w7.setCell ⟨sm_ + 1, 0, none⟩ (.slice A7 L7 c7)).heap.size = w7.heap.size from by simp] at this
        exact this
      have hze : (w7.setCell ⟨sm_ + 1, 0, none⟩ (.slice A7 L7 c7)).heap.size = w7.heap.size := by simp
      have HW8 := Lib.hid (HW7.out.alloc (.cells #[.int .i64 x2] 3))
      have HR8 := Lib.hid (HR7.out.alloc (.cells #[.int .i64 x2] 3))
      have HG8 := Lib.hid (HG7.out.alloc (.cells #[.int .i64 x2] 3))
      have HS8 := Lib.hid (HS7.out.alloc (.cells #[.int .i64 x2] 3))
      go_wp2_with (at_builtin; refine wpList_append_int rfl (.tmp 39) (.tmp 41) rfl (sm_ + 1 + 1) w7.heap.size _ tl x2 (by go_simp) (by go_simp) HT8.out.ol HN8.out HLL.out HT8.out.sB ?_)
      intro v9 w9 ho9 hg9 hv9
      replace ho9 : w9.ownsRow (sm_ + 1 + 1) 3 1 v9 (tl ++ [x2]).length ((tl ++ [x2]).map fun x => .int .i64 x) := by rw [List.length_append, List.map_append]; exact ho9
      obtain ⟨A9, c9, h99, -⟩ := own_int ho9
      obtain ⟨L9, hL9⟩ : ∃ n, (tl ++ [x2]).length = n := ⟨_, rfl⟩
      rw [hL9] at h99
      clear hL9
      subst h99
      have HT9 := Lib.hid (HT8.out.pushL (x := x2) ho9 hg9 (by rw [World.size_alloc, hze]; exact hv9))
      rw [← HXL.out] at HT9
      have hr9 := fun r hr => (HT8.out.ol.lt r hr).1
      have HW9 := Lib.hid ((HW8.out.grown hg9 (fun e => by have := hr9 _ e.symm; omega)).far (g' := sm_ + 1) (by omega) 1 (.slice A9 L9 c9))
      have HR9 := Lib.hid ((HR8.out.grown hg9 (fun e => by have := hr9 _ e.symm; omega)).far (g' := sm_ + 1) (by omega) 1 (.slice A9 L9 c9))
      have HG9 := Lib.hid ((HG8.out.grown hg9 (fun e => by have := hr9 _ e.symm; have := HNG.out; omega)).far (g' := sm_ + 1) (by have := HNG.out; omega) 1 (.slice A9 L9 c9))
      have HS9 := Lib.hid ((HS8.out.grown hg9 (fun e => by have := hr9 _ e.symm; omega)).far (g' := sm_ + 1) (by omega) 1 (.slice A9 L9 c9))
      have t9 := (HT8.out.tb.grown hg9 (fun e => by have := hr9 _ e.symm; omega)).cell 1
      have f9 := (HT8.out.tb.grown hg9 (fun e => by have := hr9 _ e.symm; omega)).frozen 1
      simp only [List.getElem?_toArray, List.getElem?_cons_zero, List.getElem?_cons_succ] at t9
      clear b1 HT8 HN8 HW8 HR8 HG8 HS8 HT7 HW7 HR7 HG7 HS7 hr9 ho9 hg9 hv9 hsz7 hze t7 f7
      go_wp2_with fail
      go_roundw
      case rel => exact ⟨j + 1, _, _, by omega, by go_num, HT9, HW9, HR9, HG9, HS9⟩
      case measure => simp [intOf]; omega
    · obtain rfl : j = h.parts.length := by omega
      have HTE : Hid (Tw w (sm_ + 1 + 1) (sm_ + 1) vg vl (shG h k) (shL h k) wr) := by
        have := HT.out
        rwa [show (shG h k).take h.parts.length = shG h k from List.take_of_length_le (by simp [shG]), show (shL h k).take h.parts.length = shL h k from List.take_of_length_le (by simp [shL])] at this
      clear HT
      have hog := HTE.out.og
      have hol := HTE.out.ol
      obtain ⟨GA, gc, rfl, hG, hgc, hgb⟩ := own_int hog
      obtain ⟨LA, lc, rfl, hL, hlc, hlb⟩ := own_int hol
      have HTB := Lib.hid HTE.out.tb
      have HOG := Lib.hid (own_row hog (w.heap.size + 1) (tV GA (shG h k).length gc LA (shL h k).length lc) (fun q e => by have := (hog.lt q e).1; omega))
      have HOL := Lib.hid (own_row hol (w.heap.size + 1) (tV GA (shG h k).length gc LA (shL h k).length lc) (fun q e => by have := (hol.lt q e).1; omega))
      have HGC := Lib.hid hgc
      have HLC := Lib.hid hlc
      have HGB := Lib.hid hgb
      have HLB := Lib.hid hlb
      clear hG hL hgc hlc hog hol hgb hlb
      go_wp2_with (first | (refine wpList_load_row rfl 27 _ rfl (sm_ + 1) rfl 27 (tV GA (shG h k).length gc LA (shL h k).length lc) (0, 0) _ HTB.out Try.underlying27 rfl (by kernel_rfl) ?_) | (refine wpList_store_row rfl 27 _ _ rfl (w.heap.size + 1) _ rfl rfl 27 _ HRj.out (by kernel_rfl) rfl (by simp [Value.oneCell']) ?_))
      obtain ⟨GA', gc', e1, hG, -⟩ := own_int HOG.out
      obtain ⟨LA', lc', e2, hL, -⟩ := own_int HOL.out
      cases e1
      cases e2
      (refine bodyPost_ret (v := .agg _) ?_ rfl ⟨⟨_, rfl, _, _, _, _, rfl, hG, hL, ⟨HGC.out, HLC.out⟩, fun a e => by have := HGB.out a e; omega, fun a e => by have := HLB.out a e; omega⟩, ?_⟩)
      · exact (results_cell_row Try.results75 _ _ (w.heap.size + 1) 27 _ (0, 0) _ rfl (HRj.out.row _) Try.underlying27 rfl (by kernel_rfl))
      · exact (HTE.out.sn.row (by omega) _).1
theorem shK_bd {y : Int} (h0 : 0 ≤ y) (h3 : y ≤ 3) : shK y < 3 ∧ max y 1 = (shK y : Int) + 1 := by unfold shK; omega
set_option maxRecDepth 100000 in
set_option maxHeartbeats 2000000 in
theorem Show_c (h : Hul) (m : Sl) (wt : Int) (w : World) (hp : HAt w m h) :
    Calls Try.prog 39 #[.agg (hV h m), .int .i64 wt] w fun e w' => (∃ v, e = .returned (.tuple #[v, .int .i64 (showA h wt).2.1, .int .i64 (showA h wt).2.2]) ∧ Tv w.heap.size w' v (showA h wt).1.1 (showA h wt).1.2) ∧ Below w.heap.size w w' := by
  obtain ⟨E, hE⟩ : ∃ E, showA h wt = E := ⟨_, rfl⟩
  rw [hE]
  unfold showA at hE
  have hs0 := ((Since.refl w).alloc (.cells (hV h m) 24)).alloc (.cells #[.slice none 0 0, .slice none 0 0] 27)
  have HR := Lib.hid (Blk.new1 w (.cells (hV h m) 24) 27 #[.slice none 0 0, .slice none 0 0])
  obtain ⟨c0, c1, c2⟩ := ((Blk.new w 24 (hV h m)).alloc (.cells #[.slice none 0 0, .slice none 0 0] 27)).hull
  go_enter Try.func39, Try.ntmps39
  go_wp2_with fail
  refine (look_c h m wt wt _ (hp.keep hs0.1)).mono ?_
  rintro e w1 ⟨rfl, hb1⟩
  have hs1 := hs0.keep hb1
  have HR1 := Lib.hid (HR.out.keep hb1)
  clear c0 c1 c2 HR
  by_cases hc : lookE h wt wt = 0
  · obtain ⟨hc1, hw0, -, hw1⟩ := lookE_ok.1 hc
    have hh := (chk_ok hc1).bk
    rw [if_neg (by simpa using hc)] at hE
    rw [show lookV h m wt wt = .tuple #[.agg (hV h m), .int .i64 0] from by simp [lookV, hc]]
    clear hc hc1
    have hs2 := hs1.alloc (.cells (hV h m) 92)
    have HR2 := Lib.hid (HR1.out.alloc (.cells (hV h m) 92))
    have HW2 := Lib.hid (Blk.new w1 92 (hV h m))
    go_wp2_with fail
    refine (wwhy_c h m wt _ hh (hp.keep hs2.1) hw0 hw1).mono ?_
    rintro e w2 ⟨rfl, hb2⟩
    have hs3 := hs2.keep hb2
    have HR3 := Lib.hid (HR2.out.keep hb2)
    obtain ⟨c0, c1, c2⟩ := (HW2.out.keep hb2).hull
    have hyb : 0 ≤ whyH h wt ∧ whyH h wt ≤ 3 := whyB_range _ _ _
    obtain ⟨y, hy⟩ : ∃ y, whyH h wt = y := ⟨_, rfl⟩
    rw [hy] at hE hyb ⊢
    clear hy
    obtain ⟨hk3, hmx⟩ := shK_bd hyb.1 hyb.2
    go_wp2_with fail
    refine (shown_c h m y (shK y) _ hh (hp.keep hs3.1) hk3 hmx).mono ?_
    rintro e w3 ⟨⟨v, rfl, GA, gc, LA, lc, rfl, hG, hL, hgl, hgb, hlb⟩, hb3⟩
    have hs4 := hs3.keep hb3
    have HR4 := Lib.hid (HR3.out.keep hb3)
    have hz2 := hs3.2
    have hz0 : w.heap.size + 1 < w2.heap.size := HR3.out.lt
    subst hE
    have HGL := Lib.hid hgl
    have HG9 := Lib.hid (hG.row (w.heap.size + 1) (tV GA (shG h (shK y)).length gc LA (shL h (shK y)).length lc) (fun a e => by have := hgb a e; omega))
    have HL9 := Lib.hid (hL.row (w.heap.size + 1) (tV GA (shG h (shK y)).length gc LA (shL h (shK y)).length lc) (fun a e => by have := hlb a e; omega))
    have HGB : Hid (∀ a, GA = some a → w.heap.size ≤ a.block) := fun a e => by have := hgb a e; omega
    have HLB : Hid (∀ a, LA = some a → w.heap.size ≤ a.block) := fun a e => by have := hlb a e; omega
    clear c0 c1 c2 hgl hG hL hgb hlb hmx
    go_wp2_with (refine wpList_store_row rfl 27 _ _ rfl (w.heap.size + 1) _ rfl rfl 27 _ HR4.out (by kernel_rfl) rfl (by simp [Value.oneCell']) ?_)
    refine bodyPost_ret (results_cell_tmp2 Try.results39 _ _ (w.heap.size + 1) 27 _ (0, 0) _ rfl (HR4.out.row _) Try.underlying27 rfl (by kernel_rfl)) rfl ⟨⟨_, rfl, GA, gc, LA, lc, rfl, HG9.out, HL9.out, HGL.out, HGB.out, HLB.out⟩, (hs4.row (by omega) _).1⟩
  · rw [if_pos (by simpa using hc)] at hE
    subst hE
    rw [show lookV h m wt wt = .tuple #[.agg w0V, .int .i64 (lookE h wt wt)] from by simp [lookV, hc]]
    have hc' : (lookE h wt wt != 0) = true := by simpa using hc
    clear hc
    have hs2 := hs1.alloc (.cells w0V 92)
    have HR2 := Lib.hid (HR1.out.alloc (.cells w0V 92))
    go_wp2_with (refine wpList_store_row rfl 27 _ _ rfl (w.heap.size + 1) _ rfl rfl 27 _ HR2.out (by kernel_rfl) rfl (by simp [Value.oneCell']) ?_)
    refine bodyPost_ret (results_cell_tmp2 Try.results39 _ _ (w.heap.size + 1) 27 _ (0, 0) _ rfl (HR2.out.row _) Try.underlying27 rfl (by kernel_rfl)) rfl ⟨⟨_, rfl, none, 0, none, 0, rfl, fun hx => absurd rfl hx, fun hx => absurd rfl hx, by simp, fun a e => (by cases e), fun a e => (by cases e)⟩, (hs2.row (by omega) _).1⟩
end Td
end Go.Proofs.Ythdcklonamgpiaa
