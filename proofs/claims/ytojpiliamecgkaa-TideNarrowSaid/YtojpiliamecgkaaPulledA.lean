import Derived.Test.YtojpiliamecgkaaPulledF
import Derived.Test.YtojpiliamecgkaaMoreA
import Derived.Test.YtojpiliamecgkaaMovedF
import Derived.Test.YtojpiliamecgkaaLieC
import Derived.Test.YtojpiliamecgkaaVals6
/- What TidePulled holds in memory. -/
namespace Go.Proofs.Ytojpiliamecgkaa
open Go.RowKit
namespace Td
set_option linter.unusedSimpArgs false
set_option linter.unusedVariables false
theorem truth_c2 (b : Bch) (s : Shp) (A : Option Addr) (c i : Nat) (P : Option Addr) (l : List Int) (pc : Nat) (w : World) (hp : TsAt w A b.ts) (hB : BchOk b) (hS : ShpOk s) (hi : i < b.ts.length) (hu : U16At w P l) (ho : U16Ok l) {sl dr he wn : Int} (hT : truthV (bx b s i) i l = (sl, dr, he, wn)) :
    Calls Try.prog 39 #[.agg (bV b A c), .agg (sV s), .int .i64 i, .slice P l.length pc] w fun e w' => e = .returned (.agg (trV sl dr he wn)) ∧ Below w.heap.size w w' := by
  have := truth_c b s A c i P l pc w hp hB hS hi hu ho
  rw [hT] at this
  exact this
structure PuS (gb gs gx gR : Nat) (b : Bch) (A : Option Addr) (c : Nat) (s : Shp) (cs : List Value) (P : Option Addr) (l : List Int) (P2 : Option Addr) (l2 : List Int) (rt rb : Int) (Q : Option Addr) (ps : List Pul) (w X : World) : Prop where
  e : Env gb gs gx b A c s cs P l w X
  u : U16At X P2 l2
  r : C2 gR rt rb X
  p : PuAt X Q ps
section
variable {gb gs gx gR : Nat} {b : Bch} {A : Option Addr} {c : Nat} {s : Shp} {cs : List Value} {P P2 Q : Option Addr} {l l2 : List Int} {rt rb : Int} {ps : List Pul} {w X Y : World}
theorem PuAt.drew {w : World} {Q : Option Addr} {ps : List Pul} (h : PuAt w Q ps) : PuAt w.drew Q ps := h
theorem PuS.keep (h : PuS gb gs gx gR b A c s cs P l P2 l2 rt rb Q ps w X) (hb : Below X.heap.size X Y) : PuS gb gs gx gR b A c s cs P l P2 l2 rt rb Q ps w Y := ⟨h.e.keep hb, h.u.keep hb, h.r.keep hb, h.p.keep hb⟩
theorem PuS.alloc (h : PuS gb gs gx gR b A c s cs P l P2 l2 rt rb Q ps w X) (o : Obj) : PuS gb gs gx gR b A c s cs P l P2 l2 rt rb Q ps w (X.alloc o) := h.keep ((Below.refl _ _).alloc (Nat.le_refl _) _)
theorem PuS.drew (h : PuS gb gs gx gR b A c s cs P l P2 l2 rt rb Q ps w X) : PuS gb gs gx gR b A c s cs P l P2 l2 rt rb Q ps w X.drew := ⟨h.e.drew, h.u, h.r, h.p⟩
end
theorem PuAt.init {w : World} {Q : Option Addr} {ps : List Pul} (h : PuAt w Q ps) : PuAt w Q ps.dropLast := fun hne => by
  have hps : ps ≠ [] := fun e => hne (by simp [e])
  obtain ⟨a, ha, hc⟩ := h hps
  refine ⟨a, ha, fun i p hi => hc i p ?_⟩
  rw [List.getElem?_dropLast] at hi
  split at hi
  · exact hi
  · cases hi
/-- a new zero truth is known by a pointer to it. -/
def NewT (B : Nat) (v : Value) (X : World) : Prop := ∃ g : Nat, v = ptrOf g ∧ B ≤ g ∧ Blk X g 45 (trV 0 0 0 0)
theorem NewT.stable (B : Nat) : Vals5.Stable (.has (NewT B)) := by
  rintro v X X' ⟨g, h1, h2, h3⟩ hb
  exact ⟨g, h1, h2, h3.keep hb⟩
/-- a new block (operation p), filled by one store (operation q). -/
structure Fill (X0 : World) (t : TypeId) (cv : Array Value) (p q : Nat) (σ : Vals9.Sig) (w : World) : Prop where
  sn : Since X0 w
  a : ∀ v, σ p = some v → ∃ (g : Nat) (ds : Array Value), v = ptrOf g ∧ X0.heap.size ≤ g ∧ ds.size = cv.size ∧ Blk w g t ds ∧ ∀ y, σ q = some y → ds = cv
  s : ∀ y, σ q = some y → ∃ v, σ p = some v
section
variable {X0 w : World} {t : TypeId} {cv : Array Value} {p q : Nat} {σ : Vals9.Sig}
theorem Fill.start (X0 : World) (t : TypeId) (cv : Array Value) (p q : Nat) : Fill X0 t cv p q (fun _ => none) X0.drew :=
  ⟨(Since.refl X0).drew, fun v h => (by cases h), fun v h => (by cases h)⟩
theorem Fill.keep (h : Fill X0 t cv p q σ w) {w' : World} (hb : Below w.heap.size w w') : Fill X0 t cv p q σ w' :=
  ⟨h.sn.keep hb, fun v hv => by
    obtain ⟨g, ds, h1, h2, h3, h4, h5⟩ := h.a v hv
    exact ⟨g, ds, h1, h2, h3, h4.keep hb, h5⟩, h.s⟩
theorem Fill.new (h : Fill X0 t cv p q σ w) (hpq : q ≠ p) (hn : σ p = none) (zs : Array Value) (hz : zs.size = cv.size) : Fill X0 t cv p q (Vals9.upd σ p (ptrOf w.heap.size)) (w.alloc (.cells zs t)) := by
  refine ⟨h.sn.alloc _, fun v hv => ?_, fun y hy => ⟨_, Vals9.upd_same _ _ _⟩⟩
  rw [Vals9.upd_same] at hv
  obtain rfl := Option.some.inj hv
  refine ⟨_, _, rfl, h.sn.2, hz, Blk.new _ _ _, fun y hy => ?_⟩
  rw [Vals9.upd_other _ _ hpq] at hy
  obtain ⟨v, hv⟩ := h.s y hy
  rw [hn] at hv
  cases hv
theorem Fill.store (h : Fill X0 t cv p q σ w) (hpq : p ≠ q) {g : Nat} (hp : σ p = some (ptrOf g)) : Fill X0 t cv p q (Vals9.upd σ q undef) (w.setRow g cv) := by
  obtain ⟨g', ds, k1, k2, k3, k4, _⟩ := h.a _ hp
  have hgg : g = g' := by simpa using k1
  subst hgg
  refine ⟨h.sn.row k2 _, fun v hv => ?_, fun y hy => ⟨_, by rw [Vals9.upd_other _ _ hpq]; exact hp⟩⟩
  rw [Vals9.upd_other _ _ hpq, hp] at hv
  obtain rfl := Option.some.inj hv
  exact ⟨g, cv, rfl, k2, rfl, k4.row _, fun _ _ => rfl⟩
end
end Td
end Go.Proofs.Ytojpiliamecgkaa
