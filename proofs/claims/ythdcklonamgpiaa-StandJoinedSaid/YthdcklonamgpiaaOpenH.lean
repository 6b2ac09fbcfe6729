import Derived.Test.YthdcklonamgpiaaOpens
/- How the arguments of the statements read: hulls, numbers. -/
namespace Go.Proofs.Ythdcklonamgpiaa
open Go.ChangeShapes Go.WideShapes Go.ChangeAt Go.RowKit
namespace Td
set_option linter.unusedSimpArgs false
set_option linter.unusedVariables false
section
variable {H : Type} {enc : TypeId × Value → H} {w : World} {base : Nat} {spare : Nat → Bool} {held : Bool}
theorem len2 {α : Type} {l : List α} (h : l.length = 2) : ∃ u0 u1, l = [u0, u1] := by
  match l, h with
  | [u0, u1], _ => exact ⟨u0, u1, rfl⟩
theorem len3 {α : Type} {l : List α} (h : l.length = 3) : ∃ u0 u1 u2, l = [u0, u1, u2] := by
  match l, h with
  | [u0, u1, u2], _ => exact ⟨u0, u1, u2, rfl⟩
theorem len4 {α : Type} {l : List α} (h : l.length = 4) : ∃ u0 u1 u2 u3, l = [u0, u1, u2, u3] := by
  match l, h with
  | [u0, u1, u2, u3], _ => exact ⟨u0, u1, u2, u3, rfl⟩
theorem len7 {α : Type} {l : List α} (h : l.length = 7) : ∃ u0 u1 u2 u3 u4 u5 u6, l = [u0, u1, u2, u3, u4, u5, u6] := by
  match l, h with
  | [u0, u1, u2, u3, u4, u5, u6], _ => exact ⟨u0, u1, u2, u3, u4, u5, u6, rfl⟩
theorem fld {P : Program} {t : TypeId} {fs : Array Field} {fuel : Nat} {cs : List Value} {x : DataW H × List MemPlace} (ht : P.underlying t = some (.struct fs)) (h : DataW.trod enc P w base spare held fuel t cs = some x) :
    cs.length = P.cellsOf t ∧ ∃ n, ∀ (i : Nat) (f : Field), fs[i]? = some f → ∃ y, DataW.trod enc P w base spare held n f.type ((cs.drop f.offset).take (P.cellsOf f.type)) = some y := by
  obtain ⟨xs, n, _, _, hlen, hxl, hf⟩ := DataW.trod_struct ht h
  refine ⟨hlen, n, fun i f hi => ?_⟩
  have hlt : i < xs.length := by rw [hxl]; exact (Array.getElem?_eq_some_iff.1 hi).1
  exact ⟨xs[i], by rw [hf i f hi]; exact List.getElem?_eq_getElem hlt⟩
theorem cInt : Try.prog.cellsOf 3 = 1 := by kernel_rfl
theorem cStr : Try.prog.cellsOf 9 = 1 := by kernel_rfl
theorem cSpan : Try.prog.cellsOf 48 = 2 := by kernel_rfl
theorem cPart : Try.prog.cellsOf 74 = 7 := by kernel_rfl
theorem cHull : Try.prog.cellsOf 24 = 3 := by kernel_rfl
theorem cParts : Try.prog.cellsOf 22 = 1 := by kernel_rfl
theorem cU16 : Try.prog.cellsOf 59 = 1 := by kernel_rfl
theorem cU16x2 : Try.prog.cellsOf 60 = 2 := by kernel_rfl
theorem rInt {fuel : Nat} {cs : List Value} {x : DataW H × List MemPlace} (h : DataW.trod enc Try.prog w base spare held fuel 3 cs = some x) : ∃ n, cs = [.int .i64 n] ∧ (Lit.int .i64 n).wf = true := by
  obtain ⟨n, h1, _, h2⟩ := DataW.trod_int Try.underlying3 h
  exact ⟨n, h1, h2⟩
theorem rU16 {fuel : Nat} {cs : List Value} {x : DataW H × List MemPlace} (h : DataW.trod enc Try.prog w base spare held fuel 59 cs = some x) : ∃ n : Nat, cs = [.int .u16 n] ∧ n ≤ 65535 := by
  obtain ⟨n, h1, _, h2⟩ := DataW.trod_int Try.underlying59 h
  have := bounds_u16 h2
  exact ⟨n.toNat, by rw [h1]; congr 2; omega, by omega⟩
theorem rStr {fuel : Nat} {cs : List Value} {x : DataW H × List MemPlace} (h : DataW.trod enc Try.prog w base spare held fuel 9 cs = some x) : ∃ s, cs = [.string s] ∧ s.size ≤ maxLen := by
  obtain ⟨s, h1, h2, h3⟩ := DataW.trod_string Try.underlying9 h
  exact ⟨s, h1, by first | exact h2 | exact h3⟩
theorem rSpan {fuel : Nat} {cs : List Value} {x : DataW H × List MemPlace} (h : DataW.trod enc Try.prog w base spare held fuel 48 cs = some x) : ∃ p : Int × Int, cs = [.int .i64 p.1, .int .i64 p.2] := by
  obtain ⟨hl, n, hf⟩ := fld Try.underlying48 h
  rw [cSpan] at hl
  obtain ⟨u, v, rfl⟩ := len2 hl
  obtain ⟨_, h0⟩ := hf 0 _ rfl
  obtain ⟨_, h1⟩ := hf 1 _ rfl
  obtain ⟨a, ha, _⟩ := rInt h0
  obtain ⟨c, hc, _⟩ := rInt h1
  simp [cInt] at ha hc
  exact ⟨(a, c), by rw [ha, hc]⟩
theorem rPart {fuel : Nat} {cs : List Value} {x : DataW H × List MemPlace} (h : DataW.trod enc Try.prog w base spare held fuel 74 cs = some x) : ∃ t : Prt, cs = [.string t.name, .int .i64 t.pt, .int .i64 t.w0, .int .i64 t.w1, .int .i64 t.kl, .int .i64 t.l0, .int .i64 t.l1] ∧ t.name.size ≤ maxLen := by
  obtain ⟨hl, n, hf⟩ := fld Try.underlying74 h
  rw [cPart] at hl
  obtain ⟨u0, u1, u2, u3, u4, u5, u6, rfl⟩ := len7 hl
  obtain ⟨_, h0⟩ := hf 0 _ rfl
  obtain ⟨_, h1⟩ := hf 1 _ rfl
  obtain ⟨_, h2⟩ := hf 2 _ rfl
  obtain ⟨_, h3⟩ := hf 3 _ rfl
  obtain ⟨_, h4⟩ := hf 4 _ rfl
  obtain ⟨nm, e0, hz⟩ := rStr h0
  obtain ⟨pt, e1, _⟩ := rInt h1
  obtain ⟨pw, e2⟩ := rSpan h2
  obtain ⟨kl, e3, _⟩ := rInt h3
  obtain ⟨pl, e4⟩ := rSpan h4
  simp [cInt, cStr, cSpan] at e0 e1 e2 e3 e4
  exact ⟨⟨nm, pt, pw.1, pw.2, kl, pl.1, pl.2⟩, by rw [e0, e1, e2.1, e2.2, e3, e4.1, e4.2], hz⟩
theorem add_at (a : Addr) (i j : Nat) (h : 0 < j) : (a.add i).add j = at_ (a.add i) j := by
  generalize a.add i = c
  unfold Addr.add
  rw [if_neg (by omega)]
theorem add_zero' (a : Addr) : a.add 0 = a := by unfold Addr.add; rw [if_pos rfl]
theorem rParts {fuel : Nat} {v : Value} {x : DataW H × List MemPlace} (h : DataW.trod enc Try.prog w base spare held fuel 22 [v] = some x) : ∃ A l c, v = .slice A (List.length l) c ∧ PtAt w A l ∧ l.length ≤ c ∧ c ≤ maxLen ∧ ∀ t ∈ l, t.name.size ≤ maxLen := by
  rcases Go.Deep.open_slice Try.underlying22 h with ⟨h0, _⟩ | ⟨a, len, cap, m, n, D, Pl, h0, _, hlc, hcm, hm, _, hi⟩
  · obtain rfl : v = .slice none 0 0 := by simpa using h0
    exact ⟨none, [], 0, rfl, fun h => absurd rfl h, by simp, by simp, by simp⟩
  · obtain rfl : v = .slice (some a) len cap := by simpa using h0
    have hlm : len ≤ m := by rw [hm]; split <;> omega
    have hex : ∀ i, ∃ t : Prt, (i < len → w.cell? (a.add (i * 7)) = some (.string t.name) ∧ w.cell? (at_ (a.add (i * 7)) 1) = some (.int .i64 t.pt) ∧ w.cell? (at_ (a.add (i * 7)) 2) = some (.int .i64 t.w0) ∧ w.cell? (at_ (a.add (i * 7)) 3) = some (.int .i64 t.w1) ∧ w.cell? (at_ (a.add (i * 7)) 4) = some (.int .i64 t.kl) ∧ w.cell? (at_ (a.add (i * 7)) 5) = some (.int .i64 t.l0) ∧ w.cell? (at_ (a.add (i * 7)) 6) = some (.int .i64 t.l1)) ∧ t.name.size ≤ maxLen := fun i => by
      by_cases hil : i < len
      · obtain ⟨cs', hc, ht⟩ := hi i (by omega)
        obtain ⟨t, rfl, hz⟩ := rPart ht
        rw [cPart] at hc
        obtain ⟨_, _, hat⟩ := World.cells?_some hc
        have e0 := hat 0 (by omega)
        have e1 := hat 1 (by omega)
        have e2 := hat 2 (by omega)
        have e3 := hat 3 (by omega)
        have e4 := hat 4 (by omega)
        have e5 := hat 5 (by omega)
        have e6 := hat 6 (by omega)
        rw [add_zero'] at e0
        rw [add_at _ _ _ (by omega)] at e1 e2 e3 e4 e5 e6
        exact ⟨t, fun _ => ⟨e0, e1, e2, e3, e4, e5, e6⟩, hz⟩
      · exact ⟨⟨ByteArray.empty, 0, 0, 0, 0, 0, 0⟩, fun h => absurd h hil, by show (0 : Nat) ≤ _; exact Nat.zero_le _⟩
    obtain ⟨f, hf⟩ : ∃ f : Nat → Prt, ∀ i, (i < len → w.cell? (a.add (i * 7)) = some (.string (f i).name) ∧ w.cell? (at_ (a.add (i * 7)) 1) = some (.int .i64 (f i).pt) ∧ w.cell? (at_ (a.add (i * 7)) 2) = some (.int .i64 (f i).w0) ∧ w.cell? (at_ (a.add (i * 7)) 3) = some (.int .i64 (f i).w1) ∧ w.cell? (at_ (a.add (i * 7)) 4) = some (.int .i64 (f i).kl) ∧ w.cell? (at_ (a.add (i * 7)) 5) = some (.int .i64 (f i).l0) ∧ w.cell? (at_ (a.add (i * 7)) 6) = some (.int .i64 (f i).l1)) ∧ (f i).name.size ≤ maxLen := ⟨fun i => (hex i).choose, fun i => (hex i).choose_spec⟩
    refine ⟨some a, (List.range len).map f, cap, by simp, fun _ => ⟨a, rfl, fun i t hit => ?_⟩, by simp; omega, hcm, fun t ht => ?_⟩
    · rw [List.getElem?_map] at hit
      by_cases hil : i < len
      · rw [List.getElem?_range hil] at hit
        obtain rfl : f i = t := by simpa using hit
        exact (hf i).1 hil
      · rw [List.getElem?_eq_none (by simp; omega)] at hit
        cases hit
    · obtain ⟨i, _, rfl⟩ := List.mem_map.1 ht
      exact (hf i).2
theorem max63 : maxLen ≤ 9223372036854775807 := by simp only [maxLen]; omega
set_option maxRecDepth 100000 in
/-- a hull, by value. -/
theorem open_hull {r : Reach} {b0 : Nat} {v : Value} {d : DataW H} {p : List MemPlace} (hv : Value.okWide Try.prog w r b0 24 v) (h : DataW.Trod enc Try.prog w base spare held 24 v d p) :
    ∃ (s : Hul) (m : Sl), v = .agg (hV s m) ∧ HAt w m s := by
  obtain ⟨cs, rfl, hsz⟩ := okWide_struct Try.underlying24 hv
  obtain ⟨l⟩ := cs
  obtain ⟨fuel, hf⟩ := h
  obtain ⟨hl, n, hg⟩ := fld Try.underlying24 hf
  obtain ⟨u0, u1, u2, rfl⟩ := len3 (l := l) (hsz.trans cHull)
  obtain ⟨y0, h0⟩ := hg 0 _ rfl
  obtain ⟨_, h1⟩ := hg 1 _ rfl
  obtain ⟨_, h2⟩ := hg 2 _ rfl
  have h0' : DataW.trod enc Try.prog w base spare held n 22 [u0] = some y0 := by simpa [cParts, Value.cells] using h0
  obtain ⟨A, ps, c, rfl, hb1, hb2, hb3, hb4⟩ := rParts h0'
  obtain ⟨a, e1, _⟩ := rInt h1
  obtain ⟨f, e2, _⟩ := rInt h2
  simp [cInt, cParts, Value.cells] at e1 e2
  have := max63
  exact ⟨⟨ps, a, f⟩, ⟨A, c⟩, by rw [e1, e2], ⟨hb1, hb2, by show c ≤ _; omega, hb4⟩⟩
set_option maxRecDepth 100000 in
theorem open_u16x2 {r : Reach} {b0 : Nat} {v : Value} {d : DataW H} {p : List MemPlace} (hv : Value.okWide Try.prog w r b0 60 v) (h : DataW.Trod enc Try.prog w base spare held 60 v d p) :
    ∃ n0 n1 : Nat, v = .agg #[.int .u16 n0, .int .u16 n1] ∧ n0 ≤ 65535 ∧ n1 ≤ 65535 := by
  have hv' := hv
  simp only [Value.okWide, Try.underlying60] at hv'
  obtain ⟨cs, rfl, hsz, _⟩ := hv'
  obtain ⟨l⟩ := cs
  obtain ⟨fuel, hf⟩ := h
  obtain ⟨xs, m, _, _, _, hxl, hg⟩ := DataW.trod_array Try.underlying60 hf
  obtain ⟨u0, u1, rfl⟩ := len2 (l := l) (hsz.trans cU16x2)
  obtain ⟨x0, x1, rfl⟩ := len2 hxl
  have h0 := hg 0 (by omega)
  have h1 := hg 1 (by omega)
  rw [cU16] at h0 h1
  obtain ⟨n0, e0, b0⟩ := rU16 (x := x0) h0
  obtain ⟨n1, e1, b1⟩ := rU16 (x := x1) h1
  simp [Value.cells] at e0 e1
  exact ⟨n0, n1, by rw [e0, e1], b0, b1⟩
end
end Td
end Go.Proofs.Ythdcklonamgpiaa
