import Derived.Test.YthdcklonamgpiaaLawT
import Derived.Test.YthdcklonamgpiaaShw
/- The law package's truth, by turns. -/
namespace Go.Proofs.Ythdcklonamgpiaa
open Go.RowKit
namespace Td
set_option linter.unusedSimpArgs false
set_option linter.unusedVariables false
attribute [local go_sem] Oper.semAt_some
/-- a truth that is being built, between an append and its store: what the struct holds may be older than the lists. -/
structure Tz (w : World) (B gt : Nat) (cg cl vg vl : Value) (gs ls : List Int) (X : World) : Prop where
  sn : Since w X
  tb : Blk X gt 27 #[cg, cl]
  og : X.ownsRow B 3 1 vg gs.length (gs.map fun x => .int .i64 x)
  ol : X.ownsRow B 3 1 vl ls.length (ls.map fun x => .int .i64 x)
  ne : ∀ g, vg.ownBlock = some g → vl.ownBlock ≠ some g
  lt : gt < B
  sB : B ≤ X.heap.size
  wB : w.heap.size ≤ gt
section
variable {w : World} {B gt : Nat} {cg cl vg vl : Value} {gs ls : List Int} {X X' : World}
theorem Tz.keep (h : Tz w B gt cg cl vg vl gs ls X) (hb : Below X.heap.size X X') : Tz w B gt cg cl vg vl gs ls X' := ⟨h.sn.keep hb, h.tb.keep hb, own_keep h.og hb, own_keep h.ol hb, h.ne, h.lt, Nat.le_trans h.sB hb.size, h.wB⟩
theorem Tw.appG (h : Tw w B gt vg vl gs ls X) {v' : Value} {Y : World} {x : Int} (ho : Y.ownsRow B 3 1 v' (gs ++ [x]).length ((gs ++ [x]).map fun x => .int .i64 x)) (hg : X.grownBy Y vg.ownBlock) (hv : v'.ownBlock = vg.ownBlock ∨ v'.ownBlock = some X.heap.size) :
    Tz w B gt vg vl v' vl (gs ++ [x]) ls Y := by
  have hlt := h.lt
  have hwB := h.wB
  have hrow : ∀ r, vg.ownBlock = some r → B ≤ r := fun r hr => (h.og.lt r hr).1
  refine ⟨⟨h.sn.1.grown hg h.sn.2 (fun q e => by have := hrow q e; omega), by have := h.sn.2; have := hg.size; omega⟩, ?_, ho, h.ol.kept hg ?_, ?_, hlt, by have := h.sB; have := hg.size; omega, hwB⟩
  · exact h.tb.grown hg (fun e => by have := hrow gt e.symm; omega)
  · cases e : vl.ownBlock with
    | none => exact .inl rfl
    | some k => exact .inr (fun e2 => h.ne k e2.symm e)
  · intro g e1 e2
    rcases hv with e3 | e3
    · exact h.ne g (e3 ▸ e1) e2
    · rw [e3] at e1; cases e1
      have := (h.ol.lt _ e2).2; omega
theorem Tw.appL (h : Tw w B gt vg vl gs ls X) {v' : Value} {Y : World} {x : Int} (ho : Y.ownsRow B 3 1 v' (ls ++ [x]).length ((ls ++ [x]).map fun x => .int .i64 x)) (hg : X.grownBy Y vl.ownBlock) (hv : v'.ownBlock = vl.ownBlock ∨ v'.ownBlock = some X.heap.size) :
    Tz w B gt vg vl vg v' gs (ls ++ [x]) Y := by
  have hlt := h.lt
  have hwB := h.wB
  have hrow : ∀ r, vl.ownBlock = some r → B ≤ r := fun r hr => (h.ol.lt r hr).1
  refine ⟨⟨h.sn.1.grown hg h.sn.2 (fun q e => by have := hrow q e; omega), by have := h.sn.2; have := hg.size; omega⟩, ?_, h.og.kept hg ?_, ho, ?_, hlt, by have := h.sB; have := hg.size; omega, hwB⟩
  · exact h.tb.grown hg (fun e => by have := hrow gt e.symm; omega)
  · cases e : vg.ownBlock with
    | none => exact .inl rfl
    | some k => exact .inr (fun e2 => h.ne k e e2.symm)
  · intro g e1 e2
    rcases hv with e3 | e3
    · exact h.ne g e1 (e3 ▸ e2)
    · rw [e3] at e2; cases e2
      have := (h.og.lt _ e1).2; omega
theorem Tz.putG (h : Tz w B gt cg cl vg cl gs ls X) : Tw w B gt vg cl gs ls (X.setCell ⟨gt, 0, none⟩ vg) :=
  ⟨⟨h.sn.1.setCell (p := ⟨gt, 0, none⟩) h.wB _, by have := h.sn.2; simp; omega⟩, h.tb.set 0 vg, own_far h.og gt 0 _ (fun k e => by have := (h.og.lt k e).1; have := h.lt; omega), own_far h.ol gt 0 _ (fun k e => by have := (h.ol.lt k e).1; have := h.lt; omega), h.ne, h.lt, by have := h.sB; simp; omega, h.wB⟩
theorem Tz.putL (h : Tz w B gt cg cl cg vl gs ls X) : Tw w B gt cg vl gs ls (X.setCell ⟨gt, 1, none⟩ vl) :=
  ⟨⟨h.sn.1.setCell (p := ⟨gt, 1, none⟩) h.wB _, by have := h.sn.2; simp; omega⟩, h.tb.set 1 vl, own_far h.og gt 1 _ (fun k e => by have := (h.og.lt k e).1; have := h.lt; omega), own_far h.ol gt 1 _ (fun k e => by have := (h.ol.lt k e).1; have := h.lt; omega), h.ne, h.lt, by have := h.sB; simp; omega, h.wB⟩
end
/-- the blocks that stay as they are: the hull's and the result's. -/
structure Bk (gH gR : Nat) (cs : Array Value) (X : World) : Prop where
  hb : Blk X gH 24 cs
  rb : Blk X gR 27 #[.slice none 0 0, .slice none 0 0]
theorem Bk.keep {gH gR : Nat} {cs : Array Value} {X X' : World} (h : Bk gH gR cs X) (hb : Below X.heap.size X X') : Bk gH gR cs X' := ⟨h.hb.keep hb, h.rb.keep hb⟩
theorem Bk.drew {gH gR : Nat} {cs : Array Value} {X : World} (h : Bk gH gR cs X) : Bk gH gR cs X.drew := ⟨h.hb.drew, h.rb.drew⟩
theorem Bk.alloc {gH gR : Nat} {cs : Array Value} {X : World} (h : Bk gH gR cs X) (o : Obj) : Bk gH gR cs (X.alloc o) := ⟨h.hb.alloc o, h.rb.alloc o⟩
/-- where a region that appends to the first list stands: before the append, between it and the store, behind the store. -/
def PhG (w : World) (B gt gH gR : Nat) (cs : Array Value) (vg vl : Value) (gs ls : List Int) (x : Int) (iL iS iA iW : Nat) (σ : Vals9.Sig) (X : World) : Prop :=
  Since w X ∧ Bk gH gR cs X ∧
  ((σ iA = none ∧ σ iW = none ∧ Tw w B gt vg vl gs ls X ∧ (∀ v, σ iL = some v → v = vg) ∧ ∀ v, σ iS = some v → ∃ g, v = .slice (some ⟨g, 0, none⟩) 1 1 ∧ Blk X g 3 #[.int .i64 x]) ∨
   (σ iL ≠ none ∧ σ iS ≠ none ∧ σ iW = none ∧ ∃ A c, σ iA = some (.slice A (gs ++ [x]).length c) ∧ Tz w B gt vg vl (.slice A (gs ++ [x]).length c) vl (gs ++ [x]) ls X) ∨
   (σ iL ≠ none ∧ σ iS ≠ none ∧ σ iA ≠ none ∧ σ iW ≠ none ∧ ∃ A c, Tw w B gt (.slice A (gs ++ [x]).length c) vl (gs ++ [x]) ls X))
def PhL (w : World) (B gt gH gR : Nat) (cs : Array Value) (vg vl : Value) (gs ls : List Int) (x : Int) (iL iS iA iW : Nat) (σ : Vals9.Sig) (X : World) : Prop :=
  Since w X ∧ Bk gH gR cs X ∧
  ((σ iA = none ∧ σ iW = none ∧ Tw w B gt vg vl gs ls X ∧ (∀ v, σ iL = some v → v = vl) ∧ ∀ v, σ iS = some v → ∃ g, v = .slice (some ⟨g, 0, none⟩) 1 1 ∧ Blk X g 3 #[.int .i64 x]) ∨
   (σ iL ≠ none ∧ σ iS ≠ none ∧ σ iW = none ∧ ∃ A c, σ iA = some (.slice A (ls ++ [x]).length c) ∧ Tz w B gt vg vl vg (.slice A (ls ++ [x]).length c) gs (ls ++ [x]) X) ∨
   (σ iL ≠ none ∧ σ iS ≠ none ∧ σ iA ≠ none ∧ σ iW ≠ none ∧ ∃ A c, Tw w B gt vg (.slice A (ls ++ [x]).length c) gs (ls ++ [x]) X))
section
variable {w : World} {B gt gH gR : Nat} {cs : Array Value} {vg vl : Value} {gs ls : List Int} {x : Int} {iL iS iA iW : Nat} {σ : Vals9.Sig} {X X' : World}
theorem PhG.keep (h : PhG w B gt gH gR cs vg vl gs ls x iL iS iA iW σ X) (hb : Below X.heap.size X X') : PhG w B gt gH gR cs vg vl gs ls x iL iS iA iW σ X' := by
  obtain ⟨h1, h2, h⟩ := h
  refine ⟨h1.keep hb, h2.keep hb, ?_⟩
  rcases h with ⟨a, b, c, d, e⟩ | ⟨a, b, c, A, c', d, e⟩ | ⟨a, b, c, d, A, c', e⟩
  · exact .inl ⟨a, b, c.keep hb, d, fun v hv => by obtain ⟨g, e1, e2⟩ := e v hv; exact ⟨g, e1, e2.keep hb⟩⟩
  · exact .inr (.inl ⟨a, b, c, A, c', d, e.keep hb⟩)
  · exact .inr (.inr ⟨a, b, c, d, A, c', e.keep hb⟩)
theorem PhL.keep (h : PhL w B gt gH gR cs vg vl gs ls x iL iS iA iW σ X) (hb : Below X.heap.size X X') : PhL w B gt gH gR cs vg vl gs ls x iL iS iA iW σ X' := by
  obtain ⟨h1, h2, h⟩ := h
  refine ⟨h1.keep hb, h2.keep hb, ?_⟩
  rcases h with ⟨a, b, c, d, e⟩ | ⟨a, b, c, A, c', d, e⟩ | ⟨a, b, c, d, A, c', e⟩
  · exact .inl ⟨a, b, c.keep hb, d, fun v hv => by obtain ⟨g, e1, e2⟩ := e v hv; exact ⟨g, e1, e2.keep hb⟩⟩
  · exact .inr (.inl ⟨a, b, c, A, c', d, e.keep hb⟩)
  · exact .inr (.inr ⟨a, b, c, d, A, c', e.keep hb⟩)
end
/-- the i-th weight and lift, by turns. -/
def gN (h : Hul) (U : List Int) (i : Nat) : Int := amongV (pa h.parts i).w0 (pa h.parts i).w1 (turnV U (2 * i))
def lN (h : Hul) (U : List Int) (i : Nat) : Int := amongV (pa h.parts i).l0 (pa h.parts i).l1 (turnV U (2 * i + 1))
def gL (h : Hul) (U : List Int) (k : Nat) : List Int := (List.range k).map (gN h U)
def lL (h : Hul) (U : List Int) (k : Nat) : List Int := (List.range k).map (lN h U)
theorem gL_next (h : Hul) (U : List Int) (k : Nat) : gL h U (k + 1) = gL h U k ++ [gN h U k] := by unfold gL; rw [List.range_succ, List.map_append]; rfl
theorem lL_next (h : Hul) (U : List Int) (k : Nat) : lL h U (k + 1) = lL h U k ++ [lN h U k] := by unfold lL; rw [List.range_succ, List.map_append]; rfl
set_option maxRecDepth 100000 in
set_option maxHeartbeats 8000000 in
theorem truth_c (h : Hul) (m : Sl) (P : Option Addr) (U : List Int) (pc : Nat) (w : World) (hh : HOk h) (hp : HAt w m h) (hu : U32At w P U) (ho : U32Ok U) :
    Calls Try.prog 37 #[.agg (hV h m), .slice P U.length pc] w fun e w' => (∃ v, e = .returned v ∧ Tv w.heap.size w' v (gL h U h.parts.length) (lL h U h.parts.length)) ∧ Below w.heap.size w w' := by
  have hn10 := hh.n10
  have HR := Lib.hid ((Blk.new1 w (.cells (hV h m) 24) 27 #[.slice none 0 0, .slice none 0 0]).alloc (.cells #[.slice none 0 0, .slice none 0 0] 27))
  have HB := Lib.hid (((Blk.new w 24 (hV h m)).alloc (.cells #[.slice none 0 0, .slice none 0 0] 27)).alloc (.cells #[.slice none 0 0, .slice none 0 0] 27))
  have HT : Hid (Tw w (w.heap.size + 1 + 1 + 1) (w.heap.size + 1 + 1) (.slice none 0 0) (.slice none 0 0) (gL h U 0) (lL h U 0) (((w.alloc (.cells (hV h m) 24)).alloc (.cells #[.slice none 0 0, .slice none 0 0] 27)).alloc (.cells #[.slice none 0 0, .slice none 0 0] 27))) :=
    ⟨(((Since.refl w).alloc _).alloc _).alloc _, Blk.new2 _ _ _ _ _, ⟨by simp, .inl ⟨rfl, by simp [gL]⟩⟩, ⟨by simp, .inl ⟨rfl, by simp [lL]⟩⟩, fun g e => by simp [Value.ownBlock] at e, by omega, by simp, by omega⟩
  go_enter Try.func37, Try.ntmps37
  go_wp2_with fail
  obtain ⟨gt, hgt⟩ : ∃ gt, w.heap.size + 1 + 1 = gt := ⟨_, rfl⟩
  have HGT : Hid (w.heap.size + 1 + 1 = gt) := hgt
  obtain ⟨W0, hW0⟩ : ∃ W0, ((w.alloc (.cells (hV h m) 24)).alloc (.cells #[.slice none 0 0, .slice none 0 0] 27)).alloc (.cells #[.slice none 0 0, .slice none 0 0] 27) = W0 := ⟨_, rfl⟩
  rw [hW0] at HR HB HT ⊢
  rw [hgt] at HT ⊢
  clear hW0 hgt
  have HBB : Hid (Bk w.heap.size (w.heap.size + 1) (hV h m) W0) := Lib.hid ⟨HB.out, HR.out⟩
  have HU := Lib.hid hu
  clear HB HR hu
  go_loopw [6] (fun i wr => ∃ (k : Nat) (vg vl : Value), k ≤ h.parts.length ∧ i = .int .i64 k ∧ Hid (Tw w (gt + 1) gt vg vl (gL h U k) (lL h U k) wr) ∧ Hid (Bk w.heap.size (w.heap.size + 1) (hV h m) wr)) (fun i _ => h.parts.length - (intOf i).toNat)
  case atStart => exact ⟨0, _, _, Nat.zero_le _, rfl, HT, HBB⟩
  case round =>
    clear HT HBB
    obtain ⟨k, vg, vl, hk, rfl, HT, HB⟩ := hrel
    by_cases hlt : k < h.parts.length
    · obtain ⟨ad, hA, d0, d1, d2, d3, d4, d5, d6⟩ := hp.ps.get hlt
      have D2 := Lib.hid d2
      have D3 := Lib.hid d3
      have D5 := Lib.hid d5
      have D6 := Lib.hid d6
      have hpk := hh.ps _ (List.getElem_mem hlt)
      have hki : (k : Int) < (h.parts.length : Int) := by omega
      have XG : Hid (gL h U (k + 1) = gL h U k ++ [gN h U k]) := gL_next h U k
      have XL : Hid (lL h U (k + 1) = lL h U k ++ [lN h U k]) := lL_next h U k
      have ZG : Hid (gN h U k = amongV h.parts[k].w0 h.parts[k].w1 (turnV U (2 * k))) := by show _ = _; unfold gN; rw [pa_at hlt]
      have ZL : Hid (lN h U k = amongV h.parts[k].l0 h.parts[k].l1 (turnV U (2 * k + 1))) := by show _ = _; unfold lN; rw [pa_at hlt]
      have HLG : Hid ((gL h U k).length ≤ 1000) := by show _ ≤ _; simp [gL]; omega
      have HLL : Hid ((lL h U k).length ≤ 1000) := by show _ ≤ _; simp [lL]; omega
      obtain ⟨tv, htv⟩ : ∃ tv, turnV U (2 * k) = tv := ⟨_, rfl⟩
      have hb := turnV_bd ho (2 * k)
      obtain ⟨tu, htu⟩ : ∃ tu, turnV U (2 * k + 1) = tu := ⟨_, rfl⟩
      have hc := turnV_bd ho (2 * k + 1)
      rw [htv] at ZG hb
      rw [htu] at ZL hc
      have TV := Lib.hid htv
      have TU := Lib.hid htu
      clear htv htu
      obtain ⟨x, hx⟩ : ∃ x, gN h U k = x := ⟨_, rfl⟩
      obtain ⟨y, hy⟩ : ∃ y, lN h U k = y := ⟨_, rfl⟩
      rw [hx] at XG ZG
      rw [hy] at XL ZL
      have HXG : Hid (amongV h.parts[k].w0 h.parts[k].w1 tv = x) := ZG.out.symm
      have HXL : Hid (amongV h.parts[k].l0 h.parts[k].l1 tu = y) := ZL.out.symm
      obtain ⟨gs, hgs⟩ : ∃ gs, gL h U k = gs := ⟨_, rfl⟩
      obtain ⟨ls, hls⟩ : ∃ ls, lL h U k = ls := ⟨_, rfl⟩
      rw [hgs] at XG HLG HT
      rw [hls] at XL HLL HT
      clear hx hy hgs hls ZG ZL
      have G1 : Hid (h.parts[k].w0 ≤ h.parts[k].w1) := hpk.w01
      have G2 : Hid (-10000000 ≤ h.parts[k].w0) := by show _ ≤ _; have := hpk.w0; omega
      have G3 : Hid (h.parts[k].w1 ≤ 10000000) := by show _ ≤ _; have := hpk.w1; omega
      have G4 : Hid (0 ≤ tv) := hb.1
      have G5 : Hid (tv ≤ 4294967295) := hb.2
      have L1 : Hid (h.parts[k].l0 ≤ h.parts[k].l1) := hpk.l01
      have L2 : Hid (-10000000 ≤ h.parts[k].l0) := by show _ ≤ _; have := hpk.l0; omega
      have L3 : Hid (h.parts[k].l1 ≤ 10000000) := by show _ ≤ _; have := hpk.l1; omega
      have L4 : Hid (0 ≤ tu) := hc.1
      have L5 : Hid (tu ≤ 4294967295) := hc.2
      have eW : IntKind.i64.wrap (2 * (k : Int)) = 2 * (k : Int) := IntWalk.i64_in _ (by omega)
      have eV : IntKind.i64.wrap (2 * (k : Int) + 1) = 2 * (k : Int) + 1 := IntWalk.i64_in _ (by omega)
      obtain ⟨mA, mc⟩ := m
      replace hA : mA = some ad := hA
      subst hA
      obtain ⟨c0, c1, c2⟩ := HB.out.hb.hull
      clear d0 d1 d2 d3 d4 d5 d6 hpk hb hc
      go_wp2_with fail
      clear c0 c1 c2
      refine Vals9.region (fun σ Z => PhG w (gt + 1) gt w.heap.size (w.heap.size + 1) (hV h ⟨some ad, mc⟩) vg vl gs ls x 1 13 14 16 σ Z) [some 14, some 15, some 16, some 17, some 18, some 19, some 20, some 21, some 22, some 23, some 24, some 25, some 26, some 27, some 28, some 29, none] [.is ?_, .any, .is ?_, .is ?_, .is ?_, .is ?_, .is ?_, .is ?_, .is ?_, .is ?_, .is ?_, .is ?_, .is ?_, .any, .any, .is ?_, .any] (by kernel_rfl) (by kernel_rfl) (by kernel_rfl) (by kernel_rfl) (by kernel_rfl) (by kernel_rfl) (⟨HT.out.sn.drew, HB.out.drew, .inl ⟨rfl, rfl, HT.out.keep (Below.refl _ _).drew, (fun v hv => by cases hv), (fun v hv => by cases hv)⟩⟩) ?hsteps ?hfin
      case hsteps =>
        refine Vals9.Steps.run rfl ?_ ?_
        · intro a W σ hJ pre K hK
          have e5 := pre.2.2 5 _ (by kernel_rfl) rfl
          clear pre
          simp only [Array.getD_eq_getD_getElem?, List.getElem?_toArray, List.getElem?_cons_zero, List.getElem?_cons_succ, Option.getD_some] at e5
          go_simp
          exact hK _ hJ
        refine Vals9.Steps.mark rfl ?_ ?_
        · intro a W σ hJ hn pre K hK
          have e14 := pre.1 0 14 _ (by kernel_rfl) rfl rfl
          simp only [Array.getD_eq_getD_getElem?, List.getElem?_toArray, List.getElem?_cons_zero, List.getElem?_cons_succ, Option.getD_some] at e14
          obtain ⟨q1, q2, q⟩ := hJ
          rcases q with ⟨a1, a2, a3, a4, a5⟩ | ⟨a1, _⟩ | ⟨a1, _⟩
          · have b0 := a3.tb.cell 0
            simp only [List.getElem?_toArray, List.getElem?_cons_zero, List.getElem?_cons_succ] at b0
            go_simp
            refine hK _ _ ⟨q1, q2, .inl ⟨(Vals9.upd_other _ _ (by decide)).trans a1, (Vals9.upd_other _ _ (by decide)).trans a2, a3, fun v hv => ?_, fun v hv => a5 v ((Vals9.upd_other _ _ (by decide)).symm.trans hv)⟩⟩
            rw [Vals9.upd_same] at hv; exact (Option.some.inj hv).symm
          · exact absurd hn a1
          · exact absurd hn a1
        refine Vals9.Steps.run rfl ?_ ?_
        · intro a W σ hJ pre K hK
          have e2 := pre.2.2 2 _ (by kernel_rfl) rfl
          clear pre
          simp only [Array.getD_eq_getD_getElem?, List.getElem?_toArray, List.getElem?_cons_zero, List.getElem?_cons_succ, Option.getD_some] at e2
          go_simp
          exact hK _ hJ
        refine Vals9.Steps.run rfl ?_ ?_
        · intro a W σ hJ pre K hK
          have e16 := pre.1 2 16 _ (by kernel_rfl) rfl rfl
          clear pre
          simp only [Array.getD_eq_getD_getElem?, List.getElem?_toArray, List.getElem?_cons_zero, List.getElem?_cons_succ, Option.getD_some] at e16
          obtain ⟨q1, q2, q3⟩ := hJ
          obtain ⟨c0, c1, c2⟩ := q2.hb.hull
          have hJ : PhG w (gt + 1) gt w.heap.size (w.heap.size + 1) (hV h ⟨some ad, mc⟩) vg vl gs ls x 1 13 14 16 σ W := ⟨q1, q2, q3⟩
          go_simp
          exact hK _ hJ
        refine Vals9.Steps.run rfl ?_ ?_
        · intro a W σ hJ pre K hK
          have e6 := pre.2.2 6 _ (by kernel_rfl) rfl
          clear pre
          simp only [Array.getD_eq_getD_getElem?, List.getElem?_toArray, List.getElem?_cons_zero, List.getElem?_cons_succ, Option.getD_some] at e6
          go_simp
          exact hK _ hJ
        refine Vals9.Steps.run rfl ?_ ?_
        · intro a W σ hJ pre K hK
          have e17 := pre.1 3 17 _ (by kernel_rfl) rfl rfl
          have e18 := pre.1 4 18 _ (by kernel_rfl) rfl rfl
          clear pre
          simp only [Array.getD_eq_getD_getElem?, List.getElem?_toArray, List.getElem?_cons_zero, List.getElem?_cons_succ, Option.getD_some] at e17 e18
          go_simp
          exact hK _ hJ
        refine Vals9.Steps.run rfl ?_ ?_
        · intro a W σ hJ pre K hK
          have e19 := pre.1 5 19 _ (by kernel_rfl) rfl rfl
          clear pre
          simp only [Array.getD_eq_getD_getElem?, List.getElem?_toArray, List.getElem?_cons_zero, List.getElem?_cons_succ, Option.getD_some] at e19
          go_simp
          exact hK _ hJ
        refine Vals9.Steps.run rfl ?_ ?_
        · intro a W σ hJ pre K hK
          have e20 := pre.1 6 20 _ (by kernel_rfl) rfl rfl
          clear pre
          simp only [Array.getD_eq_getD_getElem?, List.getElem?_toArray, List.getElem?_cons_zero, List.getElem?_cons_succ, Option.getD_some] at e20
          have z0 := keep_cell hJ.1.1 D2.out
          have z1 := keep_cell hJ.1.1 D3.out
          go_simp
          exact hK _ hJ
        refine Vals9.Steps.run rfl ?_ ?_
        · intro a W σ hJ pre K hK
          have e1 := pre.2.2 1 _ (by kernel_rfl) rfl
          clear pre
          simp only [Array.getD_eq_getD_getElem?, List.getElem?_toArray, List.getElem?_cons_zero, List.getElem?_cons_succ, Option.getD_some] at e1
          go_simp
          exact hK _ hJ
        refine Vals9.Steps.run rfl ?_ ?_
        · intro a W σ hJ pre K hK
          have e6 := pre.2.2 6 _ (by kernel_rfl) rfl
          clear pre
          simp only [Array.getD_eq_getD_getElem?, List.getElem?_toArray, List.getElem?_cons_zero, List.getElem?_cons_succ, Option.getD_some] at e6
          go_simp
          exact hK _ hJ
        refine Vals9.Steps.run rfl ?_ ?_
        · intro a W σ hJ pre K hK
          have e23 := pre.1 9 23 _ (by kernel_rfl) rfl rfl
          clear pre
          simp only [Array.getD_eq_getD_getElem?, List.getElem?_toArray, List.getElem?_cons_zero, List.getElem?_cons_succ, Option.getD_some] at e23
          go_simp
          exact hK _ hJ
        refine Vals9.Steps.run rfl ?_ ?_
        · intro a W σ hJ pre K hK
          have e22 := pre.1 8 22 _ (by kernel_rfl) rfl rfl
          have e24 := pre.1 10 24 _ (by kernel_rfl) rfl rfl
          clear pre
          simp only [Array.getD_eq_getD_getElem?, List.getElem?_toArray, List.getElem?_cons_zero, List.getElem?_cons_succ, Option.getD_some] at e22 e24
          have hC := turn_c P U pc (2 * k) W (by omega) (HU.out.keep hJ.1.1) ho
          push_cast at hC
          rw [TV.out] at hC
          go_simp
          refine hC.mono ?_
          rintro e w' ⟨rfl, rfl⟩
          exact hK _ hJ
        refine Vals9.Steps.run rfl ?_ ?_
        · intro a W σ hJ pre K hK
          have e21 := pre.1 7 21 _ (by kernel_rfl) rfl rfl
          have e25 := pre.1 11 25 _ (by kernel_rfl) rfl rfl
          clear pre
          simp only [Array.getD_eq_getD_getElem?, List.getElem?_toArray, List.getElem?_cons_zero, List.getElem?_cons_succ, Option.getD_some] at e21 e25
          have hC := among_c _ _ _ W G1.out G2.out G3.out G4.out G5.out
          rw [HXG.out] at hC
          go_simp
          refine hC.mono ?_
          rintro e w' ⟨rfl, hb'⟩
          exact hK _ (hJ.keep hb')
        refine Vals9.Steps.mark rfl ?_ ?_
        · intro a W σ hJ hn pre K hK
          have e26 := pre.1 12 26 _ (by kernel_rfl) rfl rfl
          simp only [Array.getD_eq_getD_getElem?, List.getElem?_toArray, List.getElem?_cons_zero, List.getElem?_cons_succ, Option.getD_some] at e26
          obtain ⟨q1, q2, q⟩ := hJ
          rcases q with ⟨a1, a2, a3, a4, a5⟩ | ⟨_, a1, _⟩ | ⟨_, a1, _⟩
          · go_simp
            refine hK _ _ ⟨q1.alloc _, q2.alloc _, .inl ⟨(Vals9.upd_other _ _ (by decide)).trans a1, (Vals9.upd_other _ _ (by decide)).trans a2, a3.alloc _, fun v hv => a4 v ((Vals9.upd_other _ _ (by decide)).symm.trans hv), fun v hv => ?_⟩⟩
            rw [Vals9.upd_same] at hv; exact ⟨_, (Option.some.inj hv).symm, Blk.new _ _ _⟩
          · exact absurd hn a1
          · exact absurd hn a1
        refine Vals9.Steps.mark rfl ?_ ?_
        · intro a W σ hJ hn pre K hK
          obtain ⟨v15, s15, e15⟩ := pre.2.1 1 (by kernel_rfl) rfl
          replace e15 : a.tmps.getD 15 undef = v15 := e15 15 rfl
          obtain ⟨v27, s27, e27⟩ := pre.2.1 13 (by kernel_rfl) rfl
          replace e27 : a.tmps.getD 27 undef = v27 := e27 27 rfl
          simp only [Array.getD_eq_getD_getElem?, List.getElem?_toArray, List.getElem?_cons_zero, List.getElem?_cons_succ, Option.getD_some] at e15 e27
          obtain ⟨q1, q2, q⟩ := hJ
          rcases q with ⟨a1, a2, a3, a4, a5⟩ | ⟨_, _, _, A, c, a1, _⟩ | ⟨_, _, a1, _⟩
          · have e1 := a4 _ s15
            obtain ⟨g, e2, hg⟩ := a5 _ s27
            rw [e1] at e15
            rw [e2] at e27
            obtain ⟨v', w', hr, h2, h3, h5⟩ := append_int a3.og hg HLG.out a3.sB 25
            obtain ⟨A, c, hv, -⟩ := own_int h2
            have hz := a3.appG h2 h3 h5
            rw [hv] at hr hz
            have hlt := a3.og.lt
            have hq2 : Bk w.heap.size (w.heap.size + 1) (hV h ⟨some ad, mc⟩) w' := ⟨q2.hb.grown h3 (fun e => by have := (hlt _ e.symm).1; have := HGT.out; omega), q2.rb.grown h3 (fun e => by have := (hlt _ e.symm).1; have := HGT.out; omega)⟩
            have hsL : Vals9.upd σ 14 (.slice A (gs ++ [x]).length c) 1 ≠ none := by rw [Vals9.upd_other _ _ (by decide), s15]; exact fun e => by cases e
            have hsS : Vals9.upd σ 14 (.slice A (gs ++ [x]).length c) 13 ≠ none := by rw [Vals9.upd_other _ _ (by decide), s27]; exact fun e => by cases e
            have hfin := hK _ _ ⟨hz.sn, hq2, .inr (.inl ⟨hsL, hsS, (Vals9.upd_other _ _ (by decide)).trans a2, A, c, Vals9.upd_same _ _ _, hz⟩)⟩
            clear hK a3 a4 a5 hz hq2 hsL hsS h2 h3 h5 hv
            have hx : a.eval (.tmp 15) = vg := by go_simp
            have hy : a.eval (.tmp 27) = .slice (some ⟨g, 0, none⟩) 1 1 := by go_simp
            unfold Oper.wp execOp
            simp only [resolve, invoke, builtin, Sem.run_bind, Sem.run_pure, Result.andThen_ok, List.map_toArray, List.map_cons, List.map_nil, hx, hy, hr]
            exact hfin
          · rw [hn] at a1; cases a1
          · exact absurd hn a1
        refine Vals9.Steps.run rfl ?_ ?_
        · intro a W σ hJ pre K hK
          have e5 := pre.2.2 5 _ (by kernel_rfl) rfl
          clear pre
          simp only [Array.getD_eq_getD_getElem?, List.getElem?_toArray, List.getElem?_cons_zero, List.getElem?_cons_succ, Option.getD_some] at e5
          go_simp
          exact hK _ hJ
        refine Vals9.Steps.mark rfl ?_ ?_
        · intro a W σ hJ hn pre K hK
          obtain ⟨v28, s28, e28⟩ := pre.2.1 14 (by kernel_rfl) rfl
          replace e28 : a.tmps.getD 28 undef = v28 := e28 28 rfl
          have e29 := pre.1 15 29 _ (by kernel_rfl) rfl rfl
          simp only [Array.getD_eq_getD_getElem?, List.getElem?_toArray, List.getElem?_cons_zero, List.getElem?_cons_succ, Option.getD_some] at e28 e29
          obtain ⟨q1, q2, q⟩ := hJ
          rcases q with ⟨a1, _⟩ | ⟨a1, a2, _, A, c, a4, a5⟩ | ⟨_, _, _, a1, _⟩
          · rw [s28] at a1; cases a1
          · rw [s28] at a4
            rw [Option.some.inj a4] at e28
            have b0 := a5.tb.cell 0
            have f0 := a5.tb.frozen 0
            simp only [List.getElem?_toArray, List.getElem?_cons_zero, List.getElem?_cons_succ] at b0
            have hz := a5.putG
            have hq2 : Bk w.heap.size (w.heap.size + 1) (hV h ⟨some ad, mc⟩) (W.setCell ⟨gt, 0, none⟩ (.slice A (gs ++ [x]).length c)) := ⟨q2.hb.far (g' := gt) (by have := HGT.out; omega) 0 _, q2.rb.far (g' := gt) (by have := HGT.out; omega) 0 _⟩
            have hfin := hK undef _ ⟨hz.sn, hq2, .inr (.inr ⟨(fun e => a1 ((Vals9.upd_other _ _ (by decide)).symm.trans e)), (fun e => a2 ((Vals9.upd_other _ _ (by decide)).symm.trans e)), (fun e => by rw [Vals9.upd_other _ _ (by decide), s28] at e; cases e), (fun e => by rw [Vals9.upd_same] at e; cases e), A, c, hz⟩)⟩
            clear hK hz hq2 a5 a4
            obtain ⟨n, hN⟩ : ∃ n, (gs ++ [x]).length = n := ⟨_, rfl⟩
            rw [hN] at hfin e28
            clear hN
            go_simp
            exact hfin
          · exact absurd hn a1
        exact Vals9.Steps.nil
      case hfin =>
        rintro X σ ⟨q1, q2, q⟩
        simp only [Vals9.All]
        rintro v1 s1 v2 s2 v3 s3 v4 s4
        simp only [Vals.putAll, List.setIfInBounds_toArray, List.set_cons_zero, List.set_cons_succ]
        rcases q with ⟨_, a1, _⟩ | ⟨_, _, a1, _⟩ | ⟨_, _, _, _, A, c, HT2⟩
        · rw [s4] at a1; cases a1
        · rw [s4] at a1; cases a1
        replace HT := Lib.hid HT2
        replace HB := Lib.hid q2
        clear HT2 q1 q2 s1 s2 s3 s4
        go_wp2_with fail
        refine Vals9.region (fun σ Z => PhL w (gt + 1) gt w.heap.size (w.heap.size + 1) (hV h ⟨some ad, mc⟩) (.slice A (gs ++ [x]).length c) vl (gs ++ [x]) ls y 1 14 15 17 σ Z) [some 30, some 31, some 32, some 33, some 34, some 35, some 36, some 37, some 38, some 39, some 40, some 41, some 42, some 43, some 44, some 45, some 46, none] [.is ?_, .any, .is ?_, .is ?_, .is ?_, .is ?_, .is ?_, .is ?_, .is ?_, .is ?_, .is ?_, .is ?_, .is ?_, .is ?_, .any, .any, .is ?_, .any] (by kernel_rfl) (by kernel_rfl) (by kernel_rfl) (by kernel_rfl) (by kernel_rfl) (by kernel_rfl) (⟨HT.out.sn.drew, HB.out.drew, .inl ⟨rfl, rfl, HT.out.keep (Below.refl _ _).drew, (fun v hv => by cases hv), (fun v hv => by cases hv)⟩⟩) ?hsteps ?hfin
        case hsteps =>
          refine Vals9.Steps.run rfl ?_ ?_
          · intro a W σ hJ pre K hK
            have e5 := pre.2.2 5 _ (by kernel_rfl) rfl
            clear pre
            simp only [Array.getD_eq_getD_getElem?, List.getElem?_toArray, List.getElem?_cons_zero, List.getElem?_cons_succ, Option.getD_some] at e5
            go_simp
            exact hK _ hJ
          refine Vals9.Steps.mark rfl ?_ ?_
          · intro a W σ hJ hn pre K hK
            have e30 := pre.1 0 30 _ (by kernel_rfl) rfl rfl
            simp only [Array.getD_eq_getD_getElem?, List.getElem?_toArray, List.getElem?_cons_zero, List.getElem?_cons_succ, Option.getD_some] at e30
            obtain ⟨q1, q2, q⟩ := hJ
            rcases q with ⟨a1, a2, a3, a4, a5⟩ | ⟨a1, _⟩ | ⟨a1, _⟩
            · have b0 := a3.tb.cell 1
              simp only [List.getElem?_toArray, List.getElem?_cons_zero, List.getElem?_cons_succ] at b0
              go_simp
              refine hK _ _ ⟨q1, q2, .inl ⟨(Vals9.upd_other _ _ (by decide)).trans a1, (Vals9.upd_other _ _ (by decide)).trans a2, a3, fun v hv => ?_, fun v hv => a5 v ((Vals9.upd_other _ _ (by decide)).symm.trans hv)⟩⟩
              rw [Vals9.upd_same] at hv; exact (Option.some.inj hv).symm
            · exact absurd hn a1
            · exact absurd hn a1
          refine Vals9.Steps.run rfl ?_ ?_
          · intro a W σ hJ pre K hK
            have e2 := pre.2.2 2 _ (by kernel_rfl) rfl
            clear pre
            simp only [Array.getD_eq_getD_getElem?, List.getElem?_toArray, List.getElem?_cons_zero, List.getElem?_cons_succ, Option.getD_some] at e2
            go_simp
            exact hK _ hJ
          refine Vals9.Steps.run rfl ?_ ?_
          · intro a W σ hJ pre K hK
            have e32 := pre.1 2 32 _ (by kernel_rfl) rfl rfl
            clear pre
            simp only [Array.getD_eq_getD_getElem?, List.getElem?_toArray, List.getElem?_cons_zero, List.getElem?_cons_succ, Option.getD_some] at e32
            obtain ⟨q1, q2, q3⟩ := hJ
            obtain ⟨c0, c1, c2⟩ := q2.hb.hull
            have hJ : PhL w (gt + 1) gt w.heap.size (w.heap.size + 1) (hV h ⟨some ad, mc⟩) (.slice A (gs ++ [x]).length c) vl (gs ++ [x]) ls y 1 14 15 17 σ W := ⟨q1, q2, q3⟩
            go_simp
            exact hK _ hJ
          refine Vals9.Steps.run rfl ?_ ?_
          · intro a W σ hJ pre K hK
            have e6 := pre.2.2 6 _ (by kernel_rfl) rfl
            clear pre
            simp only [Array.getD_eq_getD_getElem?, List.getElem?_toArray, List.getElem?_cons_zero, List.getElem?_cons_succ, Option.getD_some] at e6
            go_simp
            exact hK _ hJ
          refine Vals9.Steps.run rfl ?_ ?_
          · intro a W σ hJ pre K hK
            have e33 := pre.1 3 33 _ (by kernel_rfl) rfl rfl
            have e34 := pre.1 4 34 _ (by kernel_rfl) rfl rfl
            clear pre
            simp only [Array.getD_eq_getD_getElem?, List.getElem?_toArray, List.getElem?_cons_zero, List.getElem?_cons_succ, Option.getD_some] at e33 e34
            go_simp
            exact hK _ hJ
          refine Vals9.Steps.run rfl ?_ ?_
          · intro a W σ hJ pre K hK
            have e35 := pre.1 5 35 _ (by kernel_rfl) rfl rfl
            clear pre
            simp only [Array.getD_eq_getD_getElem?, List.getElem?_toArray, List.getElem?_cons_zero, List.getElem?_cons_succ, Option.getD_some] at e35
            go_simp
            exact hK _ hJ
          refine Vals9.Steps.run rfl ?_ ?_
          · intro a W σ hJ pre K hK
            have e36 := pre.1 6 36 _ (by kernel_rfl) rfl rfl
            clear pre
            simp only [Array.getD_eq_getD_getElem?, List.getElem?_toArray, List.getElem?_cons_zero, List.getElem?_cons_succ, Option.getD_some] at e36
            have z0 := keep_cell hJ.1.1 D5.out
            have z1 := keep_cell hJ.1.1 D6.out
            go_simp
            exact hK _ hJ
          refine Vals9.Steps.run rfl ?_ ?_
          · intro a W σ hJ pre K hK
            have e1 := pre.2.2 1 _ (by kernel_rfl) rfl
            clear pre
            simp only [Array.getD_eq_getD_getElem?, List.getElem?_toArray, List.getElem?_cons_zero, List.getElem?_cons_succ, Option.getD_some] at e1
            go_simp
            exact hK _ hJ
          refine Vals9.Steps.run rfl ?_ ?_
          · intro a W σ hJ pre K hK
            have e6 := pre.2.2 6 _ (by kernel_rfl) rfl
            clear pre
            simp only [Array.getD_eq_getD_getElem?, List.getElem?_toArray, List.getElem?_cons_zero, List.getElem?_cons_succ, Option.getD_some] at e6
            go_simp
            exact hK _ hJ
          refine Vals9.Steps.run rfl ?_ ?_
          · intro a W σ hJ pre K hK
            have e39 := pre.1 9 39 _ (by kernel_rfl) rfl rfl
            clear pre
            simp only [Array.getD_eq_getD_getElem?, List.getElem?_toArray, List.getElem?_cons_zero, List.getElem?_cons_succ, Option.getD_some] at e39
            go_simp
            exact hK _ hJ
          refine Vals9.Steps.run rfl ?_ ?_
          · intro a W σ hJ pre K hK
            have e40 := pre.1 10 40 _ (by kernel_rfl) rfl rfl
            clear pre
            simp only [Array.getD_eq_getD_getElem?, List.getElem?_toArray, List.getElem?_cons_zero, List.getElem?_cons_succ, Option.getD_some] at e40
            go_simp
            exact hK _ hJ
          refine Vals9.Steps.run rfl ?_ ?_
          · intro a W σ hJ pre K hK
            have e38 := pre.1 8 38 _ (by kernel_rfl) rfl rfl
            have e41 := pre.1 11 41 _ (by kernel_rfl) rfl rfl
            clear pre
            simp only [Array.getD_eq_getD_getElem?, List.getElem?_toArray, List.getElem?_cons_zero, List.getElem?_cons_succ, Option.getD_some] at e38 e41
            have hC := turn_c P U pc (2 * k + 1) W (by omega) (HU.out.keep hJ.1.1) ho
            push_cast at hC
            rw [TU.out] at hC
            go_simp
            refine hC.mono ?_
            rintro e w' ⟨rfl, rfl⟩
            exact hK _ hJ
          refine Vals9.Steps.run rfl ?_ ?_
          · intro a W σ hJ pre K hK
            have e37 := pre.1 7 37 _ (by kernel_rfl) rfl rfl
            have e42 := pre.1 12 42 _ (by kernel_rfl) rfl rfl
            clear pre
            simp only [Array.getD_eq_getD_getElem?, List.getElem?_toArray, List.getElem?_cons_zero, List.getElem?_cons_succ, Option.getD_some] at e37 e42
            have hC := among_c _ _ _ W L1.out L2.out L3.out L4.out L5.out
            rw [HXL.out] at hC
            go_simp
            refine hC.mono ?_
            rintro e w' ⟨rfl, hb'⟩
            exact hK _ (hJ.keep hb')
          refine Vals9.Steps.mark rfl ?_ ?_
          · intro a W σ hJ hn pre K hK
            have e43 := pre.1 13 43 _ (by kernel_rfl) rfl rfl
            simp only [Array.getD_eq_getD_getElem?, List.getElem?_toArray, List.getElem?_cons_zero, List.getElem?_cons_succ, Option.getD_some] at e43
            obtain ⟨q1, q2, q⟩ := hJ
            rcases q with ⟨a1, a2, a3, a4, a5⟩ | ⟨_, a1, _⟩ | ⟨_, a1, _⟩
            · go_simp
              refine hK _ _ ⟨q1.alloc _, q2.alloc _, .inl ⟨(Vals9.upd_other _ _ (by decide)).trans a1, (Vals9.upd_other _ _ (by decide)).trans a2, a3.alloc _, fun v hv => a4 v ((Vals9.upd_other _ _ (by decide)).symm.trans hv), fun v hv => ?_⟩⟩
              rw [Vals9.upd_same] at hv; exact ⟨_, (Option.some.inj hv).symm, Blk.new _ _ _⟩
            · exact absurd hn a1
            · exact absurd hn a1
          refine Vals9.Steps.mark rfl ?_ ?_
          · intro a W σ hJ hn pre K hK
            obtain ⟨v31, s31, e31⟩ := pre.2.1 1 (by kernel_rfl) rfl
            replace e31 : a.tmps.getD 31 undef = v31 := e31 31 rfl
            obtain ⟨v44, s44, e44⟩ := pre.2.1 14 (by kernel_rfl) rfl
            replace e44 : a.tmps.getD 44 undef = v44 := e44 44 rfl
            simp only [Array.getD_eq_getD_getElem?, List.getElem?_toArray, List.getElem?_cons_zero, List.getElem?_cons_succ, Option.getD_some] at e31 e44
            obtain ⟨q1, q2, q⟩ := hJ
            rcases q with ⟨a1, a2, a3, a4, a5⟩ | ⟨_, _, _, A, c, a1, _⟩ | ⟨_, _, a1, _⟩
            · have e1 := a4 _ s31
              obtain ⟨g, e2, hg⟩ := a5 _ s44
              rw [e1] at e31
              rw [e2] at e44
              obtain ⟨v', w', hr, h2, h3, h5⟩ := append_int a3.ol hg HLL.out a3.sB 25
              obtain ⟨A, c, hv, -⟩ := own_int h2
              have hz := a3.appL h2 h3 h5
              rw [hv] at hr hz
              have hlt := a3.ol.lt
              have hq2 : Bk w.heap.size (w.heap.size + 1) (hV h ⟨some ad, mc⟩) w' := ⟨q2.hb.grown h3 (fun e => by have := (hlt _ e.symm).1; have := HGT.out; omega), q2.rb.grown h3 (fun e => by have := (hlt _ e.symm).1; have := HGT.out; omega)⟩
              have hsL : Vals9.upd σ 15 (.slice A (ls ++ [y]).length c) 1 ≠ none := by rw [Vals9.upd_other _ _ (by decide), s31]; exact fun e => by cases e
              have hsS : Vals9.upd σ 15 (.slice A (ls ++ [y]).length c) 14 ≠ none := by rw [Vals9.upd_other _ _ (by decide), s44]; exact fun e => by cases e
              have hfin := hK _ _ ⟨hz.sn, hq2, .inr (.inl ⟨hsL, hsS, (Vals9.upd_other _ _ (by decide)).trans a2, A, c, Vals9.upd_same _ _ _, hz⟩)⟩
              clear hK a3 a4 a5 hz hq2 hsL hsS h2 h3 h5 hv
              have hx : a.eval (.tmp 31) = vl := by go_simp
              have hy : a.eval (.tmp 44) = .slice (some ⟨g, 0, none⟩) 1 1 := by go_simp
              unfold Oper.wp execOp
              simp only [resolve, invoke, builtin, Sem.run_bind, Sem.run_pure, Result.andThen_ok, List.map_toArray, List.map_cons, List.map_nil, hx, hy, hr]
              exact hfin
            · rw [hn] at a1; cases a1
            · exact absurd hn a1
          refine Vals9.Steps.run rfl ?_ ?_
          · intro a W σ hJ pre K hK
            have e5 := pre.2.2 5 _ (by kernel_rfl) rfl
            clear pre
            simp only [Array.getD_eq_getD_getElem?, List.getElem?_toArray, List.getElem?_cons_zero, List.getElem?_cons_succ, Option.getD_some] at e5
            go_simp
            exact hK _ hJ
          refine Vals9.Steps.mark rfl ?_ ?_
          · intro a W σ hJ hn pre K hK
            obtain ⟨v45, s45, e45⟩ := pre.2.1 15 (by kernel_rfl) rfl
            replace e45 : a.tmps.getD 45 undef = v45 := e45 45 rfl
            have e46 := pre.1 16 46 _ (by kernel_rfl) rfl rfl
            simp only [Array.getD_eq_getD_getElem?, List.getElem?_toArray, List.getElem?_cons_zero, List.getElem?_cons_succ, Option.getD_some] at e45 e46
            obtain ⟨q1, q2, q⟩ := hJ
            rcases q with ⟨a1, _⟩ | ⟨a1, a2, _, A, c, a4, a5⟩ | ⟨_, _, _, a1, _⟩
            · rw [s45] at a1; cases a1
            · rw [s45] at a4
              rw [Option.some.inj a4] at e45
              have b0 := a5.tb.cell 1
              have f0 := a5.tb.frozen 1
              simp only [List.getElem?_toArray, List.getElem?_cons_zero, List.getElem?_cons_succ] at b0
              have hz := a5.putL
              have hq2 : Bk w.heap.size (w.heap.size + 1) (hV h ⟨some ad, mc⟩) (W.setCell ⟨gt, 1, none⟩ (.slice A (ls ++ [y]).length c)) := ⟨q2.hb.far (g' := gt) (by have := HGT.out; omega) 1 _, q2.rb.far (g' := gt) (by have := HGT.out; omega) 1 _⟩
              have hfin := hK undef _ ⟨hz.sn, hq2, .inr (.inr ⟨(fun e => a1 ((Vals9.upd_other _ _ (by decide)).symm.trans e)), (fun e => a2 ((Vals9.upd_other _ _ (by decide)).symm.trans e)), (fun e => by rw [Vals9.upd_other _ _ (by decide), s45] at e; cases e), (fun e => by rw [Vals9.upd_same] at e; cases e), A, c, hz⟩)⟩
              clear hK hz hq2 a5 a4
              obtain ⟨n, hN⟩ : ∃ n, (ls ++ [y]).length = n := ⟨_, rfl⟩
              rw [hN] at hfin e45
              clear hN
              go_simp
              exact hfin
            · exact absurd hn a1
          exact Vals9.Steps.nil
        case hfin =>
          rintro X σ ⟨q1, q2, q⟩
          simp only [Vals9.All]
          rintro v1 s1 v2 s2 v3 s3 v4 s4
          simp only [Vals.putAll, List.setIfInBounds_toArray, List.set_cons_zero, List.set_cons_succ]
          rcases q with ⟨_, a1, _⟩ | ⟨_, _, a1, _⟩ | ⟨_, _, _, _, A2, c2, HT2⟩
          · rw [s4] at a1; cases a1
          · rw [s4] at a1; cases a1
          replace HT := Lib.hid HT2
          replace HB := Lib.hid q2
          clear HT2 q1 q2 s1 s2 s3 s4
          go_wp2_with fail
          go_roundw
          case rel => exact ⟨k + 1, _, _, by omega, by go_num, (by show Tw _ _ _ _ _ _ _ _; rw [XG.out, XL.out]; exact HT.out), HB⟩
          case measure => simp [intOf]; omega
    · obtain rfl : k = h.parts.length := by omega
      have hog := HT.out.og
      have hol := HT.out.ol
      obtain ⟨GA, gc, rfl, hG, hgc, hgb⟩ := own_int hog
      obtain ⟨LA, lc, rfl, hL, hlc, hlb⟩ := own_int hol
      have HTB := Lib.hid HT.out.tb
      have HOG := Lib.hid (own_row hog (w.heap.size + 1) (tV GA (gL h U h.parts.length).length gc LA (lL h U h.parts.length).length lc) (fun q e => by have := (hog.lt q e).1; have := HGT.out; omega))
      have HOL := Lib.hid (own_row hol (w.heap.size + 1) (tV GA (gL h U h.parts.length).length gc LA (lL h U h.parts.length).length lc) (fun q e => by have := (hol.lt q e).1; have := HGT.out; omega))
      have HGC := Lib.hid hgc
      have HLC := Lib.hid hlc
      have HGB := Lib.hid hgb
      have HLB := Lib.hid hlb
      obtain ⟨gs, hgs⟩ : ∃ gs, gL h U h.parts.length = gs := ⟨_, rfl⟩
      obtain ⟨ls, hls⟩ : ∃ ls, lL h U h.parts.length = ls := ⟨_, rfl⟩
      rw [hgs] at HT HTB HOG HOL HGC
      rw [hls] at HT HTB HOG HOL HLC
      clear hG hL hgc hlc hog hol hgb hlb
      obtain ⟨c0, c1, c2⟩ := HB.out.hb.hull
      have hno : ¬ ((h.parts.length : Int) < (h.parts.length : Int)) := by omega
      go_wp2_with (first | (refine wpList_load_row rfl 27 _ rfl (gt) rfl 27 (tV GA gs.length gc LA ls.length lc) (0, 0) _ HTB.out Try.underlying27 rfl (by kernel_rfl) ?_) | (refine wpList_store_row rfl 27 _ _ rfl (w.heap.size + 1) _ rfl rfl 27 _ HB.out.rb (by kernel_rfl) rfl (by simp [Value.oneCell']) ?_))
      obtain ⟨GA', gc', e1, hG, -⟩ := own_int HOG.out
      obtain ⟨LA', lc', e2, hL, -⟩ := own_int HOL.out
      cases e1
      cases e2
      (refine bodyPost_ret (v := .agg _) ?_ rfl ⟨⟨_, rfl, _, _, _, _, rfl, hG, hL, ⟨HGC.out, HLC.out⟩, fun a e => by have := HGB.out a e; have := HGT.out; omega, fun a e => by have := HLB.out a e; have := HGT.out; omega⟩, ?_⟩)
      · exact (results_cell_row Try.results37 _ _ (w.heap.size + 1) 27 _ (0, 0) _ rfl (HB.out.rb.row _) Try.underlying27 rfl (by kernel_rfl))
      · exact (HT.out.sn.row (by omega) _).1
end Td
end Go.Proofs.Ythdcklonamgpiaa
