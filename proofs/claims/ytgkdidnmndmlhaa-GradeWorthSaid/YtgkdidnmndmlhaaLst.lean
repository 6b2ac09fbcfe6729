import Derived.Test.YtgkdidnmndmlhaaPrc
import Derived.MapKept
import Derived.Maps.AppendAt
/- Lists of shares that are built by append; the shares of all numbers of bad pieces. -/
namespace Go.Proofs.Ytgkdidnmndmlhaa
open Go.RowKit
namespace Td
set_option linter.unusedSimpArgs false
set_option linter.unusedVariables false
attribute [local go_sem] Oper.semAt_some
theorem own_keep {W W' : World} {B sz n : Nat} {t : TypeId} {v : Value} {xs : List Value} (h : W.ownsRow B t sz v n xs) (hb : Below W.heap.size W W') : W'.ownsRow B t sz v n xs :=
  h.kept (row := none) ⟨hb.os, hb.tape, hb.output, hb.size, fun k hk _ => hb.block k hk⟩ (by cases hv : v.ownBlock <;> simp)
/-- the cells of shares in a row. -/
def flS (l : List (Nat × Nat)) : List Value := l.flatMap fun s => [.int .i64 (s.1 : Nat), .int .i64 (s.2 : Nat)]
theorem flS_app (l m : List (Nat × Nat)) : flS (l ++ m) = flS l ++ flS m := by simp [flS]
theorem flS_one (s : Nat × Nat) : flS [s] = (fV (ip s)).toList := by simp [flS]
theorem flS_get : ∀ (l : List (Nat × Nat)) (i : Nat) (s : Nat × Nat), l[i]? = some s → (flS l)[i * 2]? = some (.int .i64 (s.1 : Nat)) ∧ (flS l)[i * 2 + 1]? = some (.int .i64 (s.2 : Nat))
  | x :: r, 0, s, h => by
    obtain rfl : x = s := by simpa using h
    exact ⟨rfl, rfl⟩
  | x :: r, i + 1, s, h => by
    have := flS_get r i s (by simpa using h)
    have e : flS (x :: r) = .int .i64 (x.1 : Nat) :: .int .i64 (x.2 : Nat) :: flS r := rfl
    rw [e, show (i + 1) * 2 = i * 2 + 1 + 1 from by omega]
    simpa using this
theorem flS_len (l : List (Nat × Nat)) : (flS l).length = l.length * 2 := by
  induction l with
  | nil => rfl
  | cons x r ih =>
    have e : flS (x :: r) = .int .i64 (x.1 : Nat) :: .int .i64 (x.2 : Nat) :: flS r := rfl
    rw [e, List.length_cons, List.length_cons, ih, List.length_cons]
    omega
/-- a type of slices of shares. -/
structure Sty (st et : TypeId) : Prop where
  u : Try.prog.underlying st = some (.slice et)
  i : (Try.prog.info? et).map (fun i => (i.zero, i.size, i.bytes)) = some (some (.agg (fV (0, 0))), 2, 16)
theorem styS : Sty 102 90 := ⟨Try.underlying102, by kernel_rfl⟩
theorem styA : Sty 31 41 := ⟨Try.underlying31, by kernel_rfl⟩
theorem append_shr {st et : TypeId} (hT : Sty st et) {W : World} {B g : Nat} {v : Value} {l : List (Nat × Nat)} {s : Nat × Nat} (hown : W.ownsRow B et 2 v l.length (flS l)) (hg : Blk W g et (fV (ip s))) (hl : l.length ≤ 1000) (hB : B ≤ W.heap.size) (ty : TypeId) :
    ∃ v' w', (Builtin.append_ #[st, st] ty #[v, .slice (some ⟨g, 0, none⟩) 1 1]).run Try.prog W = .ok v' w' ∧ w'.ownsRow B et 2 v' (l ++ [s]).length (flS (l ++ [s])) ∧ W.grownBy w' v.ownBlock ∧ (v'.ownBlock = v.ownBlock ∨ v'.ownBlock = some W.heap.size) := by
  obtain ⟨i0, hi0, hi1⟩ := Option.map_eq_some_iff.1 hT.i
  simp only [Prod.mk.injEq] at hi1
  obtain ⟨hz0, hz1, hz2⟩ := hi1
  obtain ⟨v', w', h1, h2, h3, _, h5⟩ := run_append_own_at (P := Try.prog) W B st ty et i0 _ 2 16 hT.u hi0 hz0 hz1 hz2 rfl (by omega)
    v l.length (flS l) hown ⟨g, 0, none⟩ 1 1 (fV (ip s)).toList (by simp) (fun j u hj => by
      rw [add_new]
      have := hg.cell j
      rw [this]
      simpa using hj) (by
      intro u hu
      simp at hu
      rcases hu with rfl | rfl <;> rfl) (by simp only [maxLen]; omega) (by omega) hB
  refine ⟨v', w', h1, ?_, h3, h5⟩
  rw [flS_app, flS_one, List.length_append]
  exact h2
theorem wpList_append_shr {st et : TypeId} (hT : Sty st et) {W : World} {ops : Array Oper} {rest : List Oper} {o : Oper} {a : Act} {Q : Exit → Act → World → Prop} (hgd : o.guard = none) (x y : Operand) (ho : o.op = .call { callee := .builtin .append, args := #[x, y], argTypes := #[st, st] })
    (B g : Nat) (v : Value) (l : List (Nat × Nat)) (s : Nat × Nat) (hx : a.eval x = v) (hy : a.eval y = .slice (some ⟨g, 0, none⟩) 1 1) (hown : W.ownsRow B et 2 v l.length (flS l)) (hg : Blk W g et (fV (ip s))) (hl : l.length ≤ 1000) (hB : B ≤ W.heap.size)
    (h : ∀ v' w', w'.ownsRow B et 2 v' (l ++ [s]).length (flS (l ++ [s])) → W.grownBy w' v.ownBlock → (v'.ownBlock = v.ownBlock ∨ v'.ownBlock = some W.heap.size) → wpList Try.prog ops Q rest (a.put o.dst v') w') : wpList Try.prog ops Q (o :: rest) a W := by
  refine wpList_plain hgd fun _ hK => ?_
  obtain ⟨v', w', hr, h2, h3, h5⟩ := append_shr hT hown hg hl hB o.type
  unfold Oper.wp execOp
  simp only [ho, resolve, invoke, builtin, Sem.run_bind, Sem.run_pure, Result.andThen_ok, List.map_toArray, List.map_cons, List.map_nil, hx, hy, hr]
  exact hK _ _ (h v' w' h2 h3 h5)
/-- a slice that owns shares, opened. -/
theorem own_shr {W : World} {B : Nat} {et : TypeId} {v : Value} {l : List (Nat × Nat)} (h : W.ownsRow B et 2 v l.length (flS l)) (hl : l ≠ []) : ∃ g c, v = .slice (some ⟨g, 0, none⟩) l.length c ∧ FrB W g l ∧ l.length ≤ c ∧ c ≤ 9223372036854775807 ∧ B ≤ g ∧ g < W.heap.size := by
  rcases h.2 with ⟨rfl, h0⟩ | ⟨g, cap, cur, rfl, hB, hg, h1, h2, h3, h4⟩
  · exact absurd (List.eq_nil_of_length_eq_zero h0) hl
  · refine ⟨g, cap, rfl, fun i s hs => ?_, h1, by simp only [maxLen] at h2; omega, hB, (Array.getElem?_eq_some_iff.1 hg).1⟩
    have hi : i < l.length := (List.getElem?_eq_some_iff.1 hs).1
    obtain ⟨e1, e2⟩ := flS_get l i s hs
    rw [← h4, List.getElem?_take, if_pos (by omega)] at e1
    rw [← h4, List.getElem?_take, if_pos (by omega)] at e2
    simp only [World.cell?, hg]
    exact ⟨by simpa using e1, by simpa using e2⟩
/-- the shares of the numbers from lo to hi. -/
def eachL (f : Nat → Nat × Nat) (lo hi : Nat) : List (Nat × Nat) := (List.range (hi + 1 - lo)).map fun k => f (lo + k)
theorem eachL_len (f : Nat → Nat × Nat) (lo hi : Nat) : (eachL f lo hi).length = hi + 1 - lo := by simp [eachL]
theorem eachL_mem {f : Nat → Nat × Nat} {lo hi : Nat} {x : Nat × Nat} (h : x ∈ eachL f lo hi) : ∃ b, lo ≤ b ∧ b ≤ hi ∧ x = f b := by
  simp only [eachL, List.mem_map, List.mem_range] at h
  obtain ⟨k, hk, rfl⟩ := h
  exact ⟨lo + k, by omega, by omega, rfl⟩
theorem eachL_ne {f : Nat → Nat × Nat} {lo hi : Nat} (h : lo ≤ hi) : eachL f lo hi ≠ [] := by
  intro e
  have := eachL_len f lo hi
  rw [e] at this
  simp at this
  omega
theorem eachL_take (f : Nat → Nat × Nat) (lo : Nat) (k : Nat) : eachL f lo (lo + k) = (List.range (k + 1)).map fun j => f (lo + j) := by unfold eachL; rw [show lo + k + 1 - lo = k + 1 by omega]
/-- those of the first k numbers. -/
def firstL (f : Nat → Nat × Nat) (lo k : Nat) : List (Nat × Nat) := (List.range k).map fun j => f (lo + j)
theorem firstL_succ (f : Nat → Nat × Nat) (lo k : Nat) : firstL f lo (k + 1) = firstL f lo k ++ [f (lo + k)] := by simp [firstL, List.range_succ]
theorem firstL_len (f : Nat → Nat × Nat) (lo k : Nat) : (firstL f lo k).length = k := by simp [firstL]
theorem eachL_first (f : Nat → Nat × Nat) (lo hi : Nat) : eachL f lo hi = firstL f lo (hi + 1 - lo) := rfl
set_option maxRecDepth 100000 in
set_option maxHeartbeats 2000000 in
theorem each_c (g : Nat) (P lo hi : Nat) (cf : FuncId) (caps : Array Value) (f : Nat → Nat × Nat) (w : World) (hent : ∀ args W, (callFunc cf args).run Try.prog W = .ok (.enter cf args) W)
    (hcf : ∀ (b : Nat) (W : World), lo ≤ b → b ≤ hi → Below w.heap.size w W → Calls Try.prog cf (#[.int .i64 b] ++ caps) W fun e w' => e = .returned (.agg (fV (ip (f b)))) ∧ Below W.heap.size W w')
    (hg : Blk w g 97 (hpV (P : Int) lo hi)) (hlh : lo ≤ hi) (hhi : hi ≤ 20) :
    Calls Try.prog 63 #[hpP g, .func (.func cf) #[] caps] w fun e w' => Below w.heap.size w w' ∧ ∃ v, e = .returned v ∧ w'.ownsRow w.heap.size 90 2 v (eachL f lo hi).length (flS (eachL f lo hi)) := by
  obtain ⟨c0, c1, c2⟩ := hg.hcells
  have HO0 : Hid (w.ownsRow w.heap.size 90 2 (.slice none 0 0) (firstL f lo 0).length (flS (firstL f lo 0))) := World.ownsRow_nil _ _ _ _
  have HCF := Lib.hid hcf
  have HE := Lib.hid hent
  clear hcf hent
  go_enter Try.func63, Try.ntmps63
  go_wp2_with fail
  clear c0 c1 c2
  go_loopw [5, 6] (fun v i wr => ∃ k : Nat, k ≤ hi + 1 - lo ∧ i = .int .i64 ((lo + k : Nat) : Int) ∧ Hid (Since w wr) ∧ Hid (wr.ownsRow w.heap.size 90 2 v (firstL f lo k).length (flS (firstL f lo k)))) (fun _ i _ => hi + 1 - (intOf i).toNat)
  case atStart => exact ⟨0, by omega, rfl, Since.refl _, HO0⟩
  case round =>
    obtain ⟨k, hk, rfl, HS, HO⟩ := hrel
    obtain ⟨c0, c1, c2⟩ := (hg.keep HS.out.1).hcells
    by_cases hlt : lo + k ≤ hi
    · obtain ⟨b, hb⟩ : ∃ b, lo + k = b := ⟨_, rfl⟩
      have HB := Lib.hid hb
      rw [hb] at hlt ⊢
      have t1 : (b : Int) ≤ (hi : Int) := by omega
      have w1 : IntKind.i64.wrap ((b : Int) + 1) = ((b + 1 : Nat) : Int) := by rw [wrapI (by unfold I64; omega)]; omega
      have hC := HCF.out b wr (by omega) hlt HS.out.1
      have e1 := HE.out
      go_wp2_with fail
      refine hC.mono ?_
      rintro e w2 ⟨rfl, hb2⟩
      have HS2 := Lib.hid ((HS.out.keep hb2).alloc (.cells (fV (ip (f b))) 90))
      have hb3 : Below wr.heap.size wr (w2.alloc (.cells (fV (ip (f b))) 90)) := hb2.trans (((Below.refl _ w2).alloc (Nat.le_refl _) _).mono hb2.size)
      have HO2 := Lib.hid (own_keep HO.out hb3)
      have HN2 := Lib.hid (Blk.new w2 90 (fV (ip (f b))))
      have HL : Hid ((firstL f lo k).length ≤ 1000) := by show _ ≤ _; rw [firstL_len]; omega
      have HF : Hid (firstL f lo (k + 1) = firstL f lo k ++ [f b]) := by show _ = _; rw [firstL_succ, HB.out]
      clear hC c0 c1 c2 e1 hb2 hb3 HO HS
      go_wp2_with (at_builtin; refine wpList_append_shr styS rfl (.tmp 23) (.tmp 27) rfl w.heap.size w2.heap.size _ (firstL f lo k) (f b) (by go_simp) (by go_simp) HO2.out HN2.out HL.out HS2.out.2 ?_)
      rintro v3 w3 ho3 hg3 -
      have hlt3 := HO2.out.lt
      have HS3 : Hid (Since w w3) := ⟨HS2.out.1.grown hg3 HS2.out.2 (fun q e => (hlt3 q e).1), Nat.le_trans HS2.out.2 hg3.size⟩
      have HO3 : Hid (w3.ownsRow w.heap.size 90 2 v3 (firstL f lo (k + 1)).length (flS (firstL f lo (k + 1)))) := by show World.ownsRow _ _ _ _ _ _ _; rw [HF.out, List.length_append]; exact ho3
      clear ho3 hg3 hlt3 HO2 HN2 HS2 HF HL
      go_wp2_with fail
      go_roundw
      case rel => exact ⟨k + 1, by omega, by congr 1; omega, HS3, HO3⟩
      case measure => simp [intOf]; omega
    · have e : k = hi + 1 - lo := by omega
      have HO2 : Hid (wr.ownsRow w.heap.size 90 2 u5 (eachL f lo hi).length (flS (eachL f lo hi))) := by
        show World.ownsRow _ _ _ _ _ _ _
        rw [eachL_first, ← e]; exact HO.out
      have t1 : ¬ ((lo + k : Nat) : Int) ≤ (hi : Int) := by omega
      have t2 : ¬ lo + k ≤ hi := hlt
      go_wp2_with fail
      go_ret
      exact ⟨HS.out.1, _, rfl, HO2.out⟩
end Td
end Go.Proofs.Ytgkdidnmndmlhaa
