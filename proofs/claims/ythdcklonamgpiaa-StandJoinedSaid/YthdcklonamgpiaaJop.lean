import Derived.Test.YthdcklonamgpiaaWls
/- What the law StandJoined builds: spans of their own, parts that are written, a hull with one more part. -/
namespace Go.Proofs.Ythdcklonamgpiaa
open Go.RowKit
namespace Td
set_option linter.unusedSimpArgs false
set_option linter.unusedVariables false
attribute [local go_sem] Oper.semAt_some
/-- where a region stands that writes both spans of a part, of which it may read the ends before. -/
structure S4 (w : World) (L : List (Nat × TypeId × Array Value)) (gp : Nat) (x : Prt) (na nb nc nd : Int) (o1 o2 o3 o4 oS oT : Option Value) (Z : World) : Prop where
  sn : Since w Z
  bl : ∀ b ∈ L, Blk Z b.1 b.2.1 b.2.2
  ne : ∀ b ∈ L, gp ≠ b.1
  wl : w.heap.size ≤ gp
  pb : Blk Z gp 74 (pV (stP x na nb nc nd oS.isSome oT.isSome))
  l1 : ∀ v, o1 = some v → v = .int .i64 x.w0
  l2 : ∀ v, o2 = some v → v = .int .i64 x.w1
  l3 : ∀ v, o3 = some v → v = .int .i64 x.l0
  l4 : ∀ v, o4 = some v → v = .int .i64 x.l1
  s1 : oS ≠ none → o1 ≠ none ∧ o2 ≠ none
  s2 : oT ≠ none → o3 ≠ none ∧ o4 ≠ none
theorem none_of {o : Option Value} {p : Prop} (h : o ≠ none → p) (hn : ¬ p) : o = none := by
  cases e : o with
  | none => rfl
  | some q => exact absurd (h (by rw [e]; exact fun e => by cases e)) hn
section
variable {w : World} {L : List (Nat × TypeId × Array Value)} {gp : Nat} {x : Prt} {na nb nc nd : Int} {o1 o2 o3 o4 oS oT : Option Value} {Z Z' : World}
theorem S4.keep (h : S4 w L gp x na nb nc nd o1 o2 o3 o4 oS oT Z) (hb : Below Z.heap.size Z Z') : S4 w L gp x na nb nc nd o1 o2 o3 o4 oS oT Z' := ⟨h.sn.keep hb, fun b q => (h.bl b q).keep hb, h.ne, h.wl, h.pb.keep hb, h.l1, h.l2, h.l3, h.l4, h.s1, h.s2⟩
theorem S4.load1 (h : S4 w L gp x na nb nc nd none o2 o3 o4 oS oT Z) : Z.cell? ⟨gp, 2, none⟩ = some (.int .i64 x.w0) ∧ S4 w L gp x na nb nc nd (some (.int .i64 x.w0)) o2 o3 o4 oS oT Z := by
  have hs := none_of h.s1 (fun k => k.1 rfl)
  subst hs
  exact ⟨h.pb.cell 2, h.sn, h.bl, h.ne, h.wl, h.pb, fun v e => (Option.some.inj e).symm, h.l2, h.l3, h.l4, fun k => absurd rfl k, h.s2⟩
theorem S4.load2 (h : S4 w L gp x na nb nc nd o1 none o3 o4 oS oT Z) : Z.cell? ⟨gp, 3, none⟩ = some (.int .i64 x.w1) ∧ S4 w L gp x na nb nc nd o1 (some (.int .i64 x.w1)) o3 o4 oS oT Z := by
  have hs := none_of h.s1 (fun k => k.2 rfl)
  subst hs
  exact ⟨h.pb.cell 3, h.sn, h.bl, h.ne, h.wl, h.pb, h.l1, fun v e => (Option.some.inj e).symm, h.l3, h.l4, fun k => absurd rfl k, h.s2⟩
theorem S4.load3 (h : S4 w L gp x na nb nc nd o1 o2 none o4 oS oT Z) : Z.cell? ⟨gp, 5, none⟩ = some (.int .i64 x.l0) ∧ S4 w L gp x na nb nc nd o1 o2 (some (.int .i64 x.l0)) o4 oS oT Z := by
  have hs := none_of h.s2 (fun k => k.1 rfl)
  subst hs
  exact ⟨h.pb.cell 5, h.sn, h.bl, h.ne, h.wl, h.pb, h.l1, h.l2, fun v e => (Option.some.inj e).symm, h.l4, h.s1, fun k => absurd rfl k⟩
theorem S4.load4 (h : S4 w L gp x na nb nc nd o1 o2 o3 none oS oT Z) : Z.cell? ⟨gp, 6, none⟩ = some (.int .i64 x.l1) ∧ S4 w L gp x na nb nc nd o1 o2 o3 (some (.int .i64 x.l1)) oS oT Z := by
  have hs := none_of h.s2 (fun k => k.2 rfl)
  subst hs
  exact ⟨h.pb.cell 6, h.sn, h.bl, h.ne, h.wl, h.pb, h.l1, h.l2, h.l3, fun v e => (Option.some.inj e).symm, h.s1, fun k => absurd rfl k⟩
theorem S4.putW {u v : Value} (h : S4 w L gp x na nb nc nd (some u) (some v) o3 o4 none oT Z) (z : Value) : (∃ c, Z.cell? ⟨gp, 2, none⟩ = some c) ∧ (∃ c, (Z.setCell ⟨gp, 2, none⟩ (.int .i64 na)).cell? ⟨gp, 3, none⟩ = some c) ∧ Z.frozen? ⟨gp, 2, none⟩ = false ∧ (Z.setCell ⟨gp, 2, none⟩ (.int .i64 na)).frozen? ⟨gp, 3, none⟩ = false ∧
    S4 w L gp x na nb nc nd (some u) (some v) o3 o4 (some z) oT ((Z.setCell ⟨gp, 2, none⟩ (.int .i64 na)).setCell ⟨gp, 3, none⟩ (.int .i64 nb)) := by
  have h2 := h.pb.set 2 (.int .i64 na)
  have h3 := h2.set 3 (.int .i64 nb)
  exact ⟨⟨_, h.pb.cell 2⟩, ⟨_, h2.cell 3⟩, h.pb.frozen 2, h2.frozen 3, (h.sn.set h.wl 2 _).set h.wl 3 _, fun b q => ((h.bl b q).far (h.ne b q) 2 _).far (h.ne b q) 3 _, h.ne, h.wl, h3, h.l1, h.l2, h.l3, h.l4, fun _ => ⟨fun e => (by cases e), fun e => (by cases e)⟩, h.s2⟩
theorem S4.putL {u v : Value} (h : S4 w L gp x na nb nc nd o1 o2 (some u) (some v) oS none Z) (z : Value) : (∃ c, Z.cell? ⟨gp, 5, none⟩ = some c) ∧ (∃ c, (Z.setCell ⟨gp, 5, none⟩ (.int .i64 nc)).cell? ⟨gp, 6, none⟩ = some c) ∧ Z.frozen? ⟨gp, 5, none⟩ = false ∧ (Z.setCell ⟨gp, 5, none⟩ (.int .i64 nc)).frozen? ⟨gp, 6, none⟩ = false ∧
    S4 w L gp x na nb nc nd o1 o2 (some u) (some v) oS (some z) ((Z.setCell ⟨gp, 5, none⟩ (.int .i64 nc)).setCell ⟨gp, 6, none⟩ (.int .i64 nd)) := by
  have h2 := h.pb.set 5 (.int .i64 nc)
  have h3 := h2.set 6 (.int .i64 nd)
  exact ⟨⟨_, h.pb.cell 5⟩, ⟨_, h2.cell 6⟩, h.pb.frozen 5, h2.frozen 6, (h.sn.set h.wl 5 _).set h.wl 6 _, fun b q => ((h.bl b q).far (h.ne b q) 5 _).far (h.ne b q) 6 _, h.ne, h.wl, h3, h.l1, h.l2, h.l3, h.l4, h.s1, fun _ => ⟨fun e => (by cases e), fun e => (by cases e)⟩⟩
end
abbrev s0V : Array Value := #[.int .i64 0, .int .i64 0]
/-- where a region stands that makes two structs and writes each. -/
structure N2 (w : World) (L : List (Nat × TypeId × Array Value)) (t : TypeId) (z c1 c2 : Array Value) (oN oW pN pW : Option Value) (Z : World) : Prop where
  sn : Since w Z
  bl : ∀ b ∈ L, Blk Z b.1 b.2.1 b.2.2
  n1 : ∀ v, oN = some v → ∃ g, v = .pointer (some ⟨g, 0, none⟩) ∧ w.heap.size ≤ g ∧ (∀ b ∈ L, b.1 < g) ∧ Blk Z g t (bif oW.isSome then c1 else z)
  n2 : ∀ v, pN = some v → ∃ g, v = .pointer (some ⟨g, 0, none⟩) ∧ w.heap.size ≤ g ∧ (∀ b ∈ L, b.1 < g) ∧ Blk Z g t (bif pW.isSome then c2 else z)
  ne : ∀ g1 g2, oN = some (.pointer (some ⟨g1, 0, none⟩)) → pN = some (.pointer (some ⟨g2, 0, none⟩)) → g1 ≠ g2
  w1 : oW ≠ none → oN ≠ none
  w2 : pW ≠ none → pN ≠ none
section
variable {w : World} {L : List (Nat × TypeId × Array Value)} {t : TypeId} {z c1 c2 : Array Value} {oN oW pN pW : Option Value} {Z Z' : World}
theorem N2.keep (h : N2 w L t z c1 c2 oN oW pN pW Z) (hb : Below Z.heap.size Z Z') : N2 w L t z c1 c2 oN oW pN pW Z' :=
  ⟨h.sn.keep hb, fun b q => (h.bl b q).keep hb, fun v hv => (by obtain ⟨g, e, a, b, c⟩ := h.n1 v hv; exact ⟨g, e, a, b, c.keep hb⟩), fun v hv => (by obtain ⟨g, e, a, b, c⟩ := h.n2 v hv; exact ⟨g, e, a, b, c.keep hb⟩), h.ne, h.w1, h.w2⟩
theorem N2.made1 (h : N2 w L t z c1 c2 none oW pN pW Z) : N2 w L t z c1 c2 (some (.pointer (some ⟨Z.heap.size, 0, none⟩))) oW pN pW (Z.alloc (.cells z t)) := by
  have k := h.keep ((Below.refl _ _).alloc (Nat.le_refl _) (.cells z t))
  have hw := none_of h.w1 (fun e => e rfl)
  subst hw
  exact ⟨k.sn, k.bl, fun v hv => ⟨_, (Option.some.inj hv).symm, h.sn.2, fun b hb => (h.bl b hb).lt, Blk.new _ _ _⟩, k.n2, fun g1 g2 e1 e2 => by
    obtain ⟨g, e, -, -, hb⟩ := h.n2 _ e2
    have := hb.lt
    cases e1
    cases e
    omega, fun e => absurd rfl e, k.w2⟩
theorem N2.made2 (h : N2 w L t z c1 c2 oN oW none pW Z) : N2 w L t z c1 c2 oN oW (some (.pointer (some ⟨Z.heap.size, 0, none⟩))) pW (Z.alloc (.cells z t)) := by
  have k := h.keep ((Below.refl _ _).alloc (Nat.le_refl _) (.cells z t))
  have hw := none_of h.w2 (fun e => e rfl)
  subst hw
  exact ⟨k.sn, k.bl, k.n1, fun v hv => ⟨_, (Option.some.inj hv).symm, h.sn.2, fun b hb => (h.bl b hb).lt, Blk.new _ _ _⟩, fun g1 g2 e1 e2 => by
    obtain ⟨g, e, -, -, hb⟩ := h.n1 _ e1
    have := hb.lt
    cases e2
    cases e
    omega, k.w1, fun e => absurd rfl e⟩
theorem N2.put1 {n : Value} (h : N2 w L t z c1 c2 (some n) none pN pW Z) (u : Value) : ∃ g, n = .pointer (some ⟨g, 0, none⟩) ∧ Blk Z g t z ∧ N2 w L t z c1 c2 (some n) (some u) pN pW (Z.setRow g c1) := by
  obtain ⟨g, rfl, e0, e1, hb⟩ := h.n1 n rfl
  exact ⟨g, rfl, hb, h.sn.row e0 _, fun b q => (h.bl b q).rowFar (by have := e1 b q; omega) _, fun v hv => ⟨g, (Option.some.inj hv).symm, e0, e1, hb.row _⟩, fun v hv => (by
    obtain ⟨g2, e, a, b, c⟩ := h.n2 v hv
    subst e
    exact ⟨g2, rfl, a, b, c.rowFar (h.ne g g2 rfl hv) _⟩), h.ne, fun _ e => (by cases e), h.w2⟩
theorem N2.put2 {n : Value} (h : N2 w L t z c1 c2 oN oW (some n) none Z) (u : Value) : ∃ g, n = .pointer (some ⟨g, 0, none⟩) ∧ Blk Z g t z ∧ N2 w L t z c1 c2 oN oW (some n) (some u) (Z.setRow g c2) := by
  obtain ⟨g, rfl, e0, e1, hb⟩ := h.n2 n rfl
  exact ⟨g, rfl, hb, h.sn.row e0 _, fun b q => (h.bl b q).rowFar (by have := e1 b q; omega) _, fun v hv => (by
    obtain ⟨g2, e, a, b, c⟩ := h.n1 v hv
    subst e
    exact ⟨g2, rfl, a, b, c.rowFar (Ne.symm (h.ne g2 g hv rfl)) _⟩), fun v hv => ⟨g, (Option.some.inj hv).symm, e0, e1, hb.row _⟩, h.ne, h.w1, fun _ e => (by cases e)⟩
theorem N2.end_ {a b c d : Value} (h : N2 w L t z c1 c2 (some a) (some b) (some c) (some d) Z) : ∃ g1 g2, a = .pointer (some ⟨g1, 0, none⟩) ∧ c = .pointer (some ⟨g2, 0, none⟩) ∧ g1 ≠ g2 ∧ (∀ q ∈ L, q.1 < g1 ∧ q.1 < g2) ∧ w.heap.size ≤ g1 ∧ w.heap.size ≤ g2 ∧ Blk Z g1 t c1 ∧ Blk Z g2 t c2 := by
  obtain ⟨g1, rfl, e0, e1, hb1⟩ := h.n1 a rfl
  obtain ⟨g2, rfl, d0, d1, hb2⟩ := h.n2 c rfl
  exact ⟨g1, g2, rfl, rfl, h.ne g1 g2 rfl rfl, fun q hq => ⟨e1 q hq, d1 q hq⟩, e0, d0, hb1, hb2⟩
end
set_option maxRecDepth 100000 in
theorem append_parts5 {W : World} {B c : Nat} {v : Value} {a : Addr} {l : List Prt} (hown : W.ownsRow B 74 7 v 0 []) (hp : PtAt W (some a) l) (hl : l.length ≤ 1000) (hB : B ≤ W.heap.size) (ty : TypeId) :
    ∃ v' w', (Builtin.append_ #[22, 22] ty #[v, .slice (some a) l.length c]).run Try.prog W = .ok v' w' ∧ w'.ownsRow B 74 7 v' l.length (flat l) ∧ W.grownBy w' v.ownBlock ∧ (v'.ownBlock = v.ownBlock ∨ v'.ownBlock = some W.heap.size) := by
  obtain ⟨i0, hi0, hi1⟩ := Option.map_eq_some_iff.1 infoP
  simp only [Prod.mk.injEq] at hi1
  obtain ⟨hz0, hz1, hz2⟩ := hi1
  obtain ⟨v', w', h1, h2, h3, _, h5⟩ := run_append_own_at (P := Try.prog) W B 22 ty 74 i0 _ 7 64 Try.underlying22 hi0 hz0 hz1 hz2 rfl (by omega)
    v 0 [] hown a l.length c (flat l) (flat_len l) (fun j u hj => hp.cells j u hj) (by
      intro u hu
      obtain ⟨p, hp, hu⟩ := List.mem_flatMap.1 hu
      simp at hu
      rcases hu with rfl | rfl | rfl | rfl | rfl | rfl | rfl <;> rfl) (by simp only [maxLen]; omega) (by omega) hB
  refine ⟨v', w', h1, ?_, h3, h5⟩
  rw [Nat.zero_add, List.nil_append] at h2
  exact h2
/-- where a region stands that appends parts to a new row, one more behind them, and writes this into a hull. -/
structure Aq (w : World) (B gT : Nat) (L : List (Nat × TypeId × Array Value)) (l : List Prt) (q : Prt) (v0 : Value) (a f : Int) (o1 o2 o3 o4 oS : Option Value) (Z : World) : Prop where
  sn : Since w Z
  sB : B ≤ Z.heap.size
  bl : ∀ b ∈ L, Blk Z b.1 b.2.1 b.2.2
  lt : ∀ b ∈ L, b.1 < B
  ne : ∀ b ∈ L, gT ≠ b.1
  gt : gT < B
  wB : w.heap.size ≤ gT
  t0 : oS = none → Blk Z gT 24 #[v0, .int .i64 a, .int .i64 f]
  t1 : oS ≠ none → ∃ v, o4 = some v ∧ Blk Z gT 24 #[v, .int .i64 a, .int .i64 f]
  e1 : ∀ v, o1 = some v → o2 = none → Z.ownsRow B 74 7 v 0 []
  e2 : ∀ v, o2 = some v → o4 = none → Z.ownsRow B 74 7 v l.length (flat l)
  e3 : ∀ u, o3 = some u → o4 = none → ∃ g, u = .slice (some ⟨g, 0, none⟩) 1 1 ∧ gT ≠ g ∧ Blk Z g 74 (pV q) ∧ (∀ v, o1 = some v → o2 = none → ∀ r, v.ownBlock = some r → r ≠ g) ∧ (∀ v, o2 = some v → o4 = none → ∀ r, v.ownBlock = some r → r ≠ g)
  e4 : ∀ v, o4 = some v → ∃ A c, v = .slice A (l ++ [q]).length c ∧ Z.ownsRow B 74 7 v (l ++ [q]).length (flat (l ++ [q]))
  n2 : o2 ≠ none → o1 ≠ none
  n4 : o4 ≠ none → o2 ≠ none ∧ o3 ≠ none
  nS : oS ≠ none → o4 ≠ none
section
variable {w : World} {B gT : Nat} {L : List (Nat × TypeId × Array Value)} {l : List Prt} {q : Prt} {v0 : Value} {a f : Int} {o1 o2 o3 o4 oS : Option Value} {Z Z' : World}
theorem Aq.keep (h : Aq w B gT L l q v0 a f o1 o2 o3 o4 oS Z) (hb : Below Z.heap.size Z Z') : Aq w B gT L l q v0 a f o1 o2 o3 o4 oS Z' :=
  ⟨h.sn.keep hb, Nat.le_trans h.sB hb.size, fun b k => (h.bl b k).keep hb, h.lt, h.ne, h.gt, h.wB, fun k => (h.t0 k).keep hb, fun k => (by obtain ⟨v, e1, e2⟩ := h.t1 k; exact ⟨v, e1, e2.keep hb⟩), fun v e k => own_keep (h.e1 v e k) hb, fun v e k => own_keep (h.e2 v e k) hb,
    fun u e k => (by obtain ⟨g, g1, g2, g3, g4⟩ := h.e3 u e k; exact ⟨g, g1, g2, g3.keep hb, g4⟩), fun v e => (by obtain ⟨A, c, k1, k2⟩ := h.e4 v e; exact ⟨A, c, k1, own_keep k2 hb⟩), h.n2, h.n4, h.nS⟩
theorem Aq.lit0 (h : Aq w B gT L l q v0 a f none o2 o3 o4 oS Z) : Aq w B gT L l q v0 a f (some (.slice (some ⟨Z.heap.size, 0, none⟩) 0 0)) o2 o3 o4 oS (Z.alloc (.cells #[] 74)) := by
  have k := h.keep ((Below.refl _ _).alloc (Nat.le_refl _) (.cells #[] 74))
  have h2 := none_of h.n2 (fun e => e rfl)
  subst h2
  exact ⟨k.sn, k.sB, k.bl, k.lt, k.ne, k.gt, k.wB, k.t0, k.t1, fun v e _ => (by
    cases e
    exact ⟨rfl, .inr ⟨Z.heap.size, 0, #[], rfl, h.sB, Blk.new _ _ _, Nat.le_refl _, by simp [maxLen], rfl, rfl⟩⟩), k.e2, fun u e k4 => (by
    obtain ⟨g, g1, g2, g3, g4, g5⟩ := h.e3 u e k4
    obtain ⟨g', g1', g2', g3', -, -⟩ := k.e3 u e k4
    have : g = g' := by rw [g1] at g1'; cases g1'; rfl
    subst this
    exact ⟨g, g1, g2, g3', fun v e _ r hr => (by cases e; cases hr; show Z.heap.size ≠ g; have := g3.lt; omega), g5⟩), k.e4, fun e => absurd rfl e, k.n4, k.nS⟩
theorem Aq.app1 {v : Value} {ad : Addr} (h : Aq w B gT L l q v0 a f (some v) none o3 o4 oS Z) (hp : PtAt w (some ad) l) (hl : l.length ≤ 1000) (c : Nat) (ty : TypeId) : ∃ v' w', (Builtin.append_ #[22, 22] ty #[v, .slice (some ad) l.length c]).run Try.prog Z = .ok v' w' ∧ Aq w B gT L l q v0 a f (some v) (some v') o3 o4 oS w' := by
  have h4 := none_of h.n4 (fun e => e.1 rfl)
  subst h4
  have hS := none_of h.nS (fun e => e rfl)
  subst hS
  have ho := h.e1 v rfl rfl
  obtain ⟨v', w', hr, i2, i3, i5⟩ := append_parts5 (c := c) ho (hp.keep h.sn.1) hl h.sB ty
  have hrow : ∀ r, v.ownBlock = some r → B ≤ r := fun r hr => (ho.lt r hr).1
  refine ⟨v', w', hr, ⟨h.sn.1.grown i3 h.sn.2 (fun q e => by have := hrow q e; have := h.gt; have := h.wB; omega), by have := h.sn.2; have := i3.size; omega⟩, by have := h.sB; have := i3.size; omega, fun b hb => (h.bl b hb).grown i3 (fun e => by have := hrow _ e.symm; have := h.lt b hb; omega), h.lt, h.ne, h.gt, h.wB, fun k => (h.t0 k).grown i3 (fun e => by have := hrow _ e.symm; have := h.gt; omega), fun k => absurd rfl k, fun _ _ k => (by cases k), fun u e _ => (by cases e; exact i2), fun u e k => ?_, fun u e => (by cases e), fun _ e => (by cases e), fun k => absurd rfl k, fun k => absurd rfl k⟩
  obtain ⟨g, g1, g2, g3, g4, -⟩ := h.e3 u e rfl
  exact ⟨g, g1, g2, g3.grown i3 (fun e => g4 v rfl rfl g e.symm rfl), fun _ _ k => (by cases k), fun u2 e2 _ r hr => (by
    cases e2
    rcases i5 with e5 | e5
    · rw [e5] at hr; exact g4 v rfl rfl r hr
    · rw [e5] at hr; cases hr; have := g3.lt; omega)⟩
theorem Aq.lit1 (h : Aq w B gT L l q v0 a f o1 o2 none o4 oS Z) : Aq w B gT L l q v0 a f o1 o2 (some (.slice (some ⟨Z.heap.size, 0, none⟩) 1 1)) o4 oS (Z.alloc (.cells (pV q) 74)) := by
  have k := h.keep ((Below.refl _ _).alloc (Nat.le_refl _) (.cells (pV q) 74))
  have h4 := none_of h.n4 (fun e => e.2 rfl)
  subst h4
  exact ⟨k.sn, k.sB, k.bl, k.lt, k.ne, k.gt, k.wB, k.t0, k.t1, k.e1, k.e2, fun u e _ => ⟨_, (Option.some.inj e).symm, (by show gT ≠ Z.heap.size; have := h.gt; have := h.sB; omega), Blk.new _ _ _, fun v e1 e2 r hr => (by show r ≠ Z.heap.size; have := ((h.e1 v e1 e2).lt r hr).2; omega), fun v e1 e2 r hr => (by show r ≠ Z.heap.size; have := ((h.e2 v e1 e2).lt r hr).2; omega)⟩, k.e4, k.n2, fun e => absurd rfl e, k.nS⟩
theorem Aq.app2 {v u : Value} (h : Aq w B gT L l q v0 a f o1 (some v) (some u) none oS Z) (hl : l.length ≤ 1000) (ty : TypeId) : ∃ A c w', (Builtin.append_ #[22, 22] ty #[v, u]).run Try.prog Z = .ok (.slice A (l ++ [q]).length c) w' ∧ Aq w B gT L l q v0 a f o1 (some v) (some u) (some (.slice A (l ++ [q]).length c)) oS w' := by
  have hS := none_of h.nS (fun e => e rfl)
  subst hS
  have ho := h.e2 v rfl rfl
  obtain ⟨g, rfl, g2, g3, g4, g5⟩ := h.e3 u rfl rfl
  obtain ⟨v', w', hr, i2, i3, i5⟩ := append_part ho g3 hl h.sB ty
  obtain ⟨A, c, rfl, -⟩ := own_parts i2
  have hrow : ∀ r, v.ownBlock = some r → B ≤ r := fun r hr => (ho.lt r hr).1
  exact ⟨A, c, w', hr, ⟨h.sn.1.grown i3 h.sn.2 (fun q e => by have := hrow q e; have := h.gt; have := h.wB; omega), by have := h.sn.2; have := i3.size; omega⟩, by have := h.sB; have := i3.size; omega, fun b hb => (h.bl b hb).grown i3 (fun e => by have := hrow _ e.symm; have := h.lt b hb; omega), h.lt, h.ne, h.gt, h.wB, fun k => (h.t0 k).grown i3 (fun e => by have := hrow _ e.symm; have := h.gt; omega), fun k => absurd rfl k, fun _ _ k => (by cases k), fun _ _ k => (by cases k), fun _ _ k => (by cases k), fun x e => (by cases e; exact ⟨A, c, rfl, i2⟩), h.n2, fun _ => ⟨fun e => (by cases e), fun e => (by cases e)⟩, fun k => absurd rfl k⟩
theorem Aq.put {v : Value} (h : Aq w B gT L l q v0 a f o1 o2 o3 (some v) none Z) (u : Value) : (∃ A c, v = .slice A (l ++ [q]).length c) ∧ (∃ c, Z.cell? ⟨gT, 0, none⟩ = some c) ∧ Z.frozen? ⟨gT, 0, none⟩ = false ∧ Aq w B gT L l q v0 a f o1 o2 o3 (some v) (some u) (Z.setCell ⟨gT, 0, none⟩ v) := by
  have hb := h.t0 rfl
  obtain ⟨A, c, rfl, ho⟩ := h.e4 v rfl
  have hfar : (Z.setCell ⟨gT, 0, none⟩ (.slice A (l ++ [q]).length c)).ownsRow B 74 7 (.slice A (l ++ [q]).length c) (l ++ [q]).length (flat (l ++ [q])) := ho.kept (row := some gT) ⟨rfl, rfl, rfl, by simp, fun k hk hn => heap_setCell_other Z ⟨gT, 0, none⟩ k _ (fun e => hn (by rw [e]))⟩ (by
      cases hv : (Value.slice A (l ++ [q]).length c).ownBlock with
      | none => exact .inl rfl
      | some k => exact .inr (fun e => by cases e; have := (ho.lt _ hv).1; have := h.gt; omega))
  exact ⟨⟨A, c, rfl⟩, ⟨_, hb.cell 0⟩, hb.frozen 0, h.sn.set h.wB 0 _, by have := h.sB; simp; omega, fun b k => (h.bl b k).far (h.ne b k) 0 _, h.lt, h.ne, h.gt, h.wB, fun k => (by cases k), fun _ => ⟨_, rfl, hb.set 0 _⟩, fun x e k => absurd (h.n4 (fun e => (by cases e))).1 (fun k' => k' k), fun _ _ k => (by cases k), fun _ _ k => (by cases k), fun x e => (by cases e; exact ⟨A, c, rfl, hfar⟩), h.n2, h.n4, fun _ e => (by cases e)⟩
theorem Aq.end_ {v u : Value} (h : Aq w B gT L l q v0 a f o1 o2 o3 (some v) (some u) Z) : ∃ g c cur, Blk Z gT 24 #[.slice (some ⟨g, 0, none⟩) (l.length + 1) c, .int .i64 a, .int .i64 f] ∧ Blk Z g 74 cur ∧ PtC cur (l ++ [q]) ∧ B ≤ g ∧ l.length + 1 ≤ c ∧ c ≤ 9223372036854775807 := by
  obtain ⟨v', e, hb⟩ := h.t1 (fun e => by cases e)
  cases e
  obtain ⟨A, c, rfl, ho⟩ := h.e4 v rfl
  rcases ho.2 with ⟨e, hn⟩ | ⟨g, cap, cur, e, hB, hg, h1, h2, h3, h4⟩
  · simp at hn
  · cases e
    refine ⟨g, c, cur, by simpa using hb, hg, fun i cc p hp hc => ?_, hB, by simpa using h1, by simp only [maxLen] at h2; omega⟩
    have hi : i < (l ++ [q]).length := (List.getElem?_eq_some_iff.1 hp).1
    have := flat_get (l ++ [q]) i cc p hp hc
    rw [← h4, List.getElem?_take, if_pos (by omega)] at this
    simpa using this
end
/-- seven cells of an element. -/
def put7 (cur : Array Value) (k : Nat) (x : Prt) : Array Value := ((((((cur.setIfInBounds (k * 7) (.string x.name)).setIfInBounds (k * 7 + 1) (.int .i64 x.pt)).setIfInBounds (k * 7 + 2) (.int .i64 x.w0)).setIfInBounds (k * 7 + 3) (.int .i64 x.w1)).setIfInBounds (k * 7 + 4) (.int .i64 x.kl)).setIfInBounds (k * 7 + 5) (.int .i64 x.l0)).setIfInBounds (k * 7 + 6) (.int .i64 x.l1)
theorem PtC.put7 {cur : Array Value} {l : List Prt} (h : PtC cur l) {k : Nat} (hk : k < l.length) (x : Prt) : PtC (put7 cur k x) (l.set k x) := by
  intro i c p hp hc
  have hsz : k * 7 + 6 < cur.size := by
    have := h k 6 l[k] (List.getElem?_eq_getElem hk) (by omega)
    exact (Array.getElem?_eq_some_iff.1 this).1
  rw [List.getElem?_set] at hp
  unfold Td.put7
  by_cases e : k = i
  · subst e
    rw [if_pos rfl, if_pos hk] at hp
    obtain rfl : x = p := by simpa using hp
    rcases (by omega : c = 0 ∨ c = 1 ∨ c = 2 ∨ c = 3 ∨ c = 4 ∨ c = 5 ∨ c = 6) with rfl | rfl | rfl | rfl | rfl | rfl | rfl
    all_goals try simp only [Nat.add_zero]
    all_goals repeat (first | rw [Array.getElem?_setIfInBounds_ne (by omega)] | (rw [Array.getElem?_setIfInBounds_self_of_lt (by first | omega | (simp; omega))]; rfl))
  · rw [if_neg e] at hp
    have := h i c p hp hc
    repeat rw [Array.getElem?_setIfInBounds_ne (by omega)]
    exact this
end Td
end Go.Proofs.Ythdcklonamgpiaa
