import Derived.Test.YtccacinnelmnpaaMapB
import Derived.Test.YtccacinnelmnpaaCalm
/- Watching a space: the map of what was read, the levels at a minute. -/
namespace Go.Proofs.Ytccacinnelmnpaa
open Go.RowKit
namespace Td
set_option linter.unusedSimpArgs false
set_option linter.unusedVariables false
attribute [local go_sem] Oper.semAt_some
theorem results_cells3 {P : Program} {fn : Func} {p q r : Tmp} {t1 t2 t3 : TypeId} (h : fn.results = #[.cell p t1, .cell q t2, .cell r t3]) (tmps : Array Value) (w : World) (a1 a2 a3 : Addr) (v1 v2 v3 : Value)
    (hp : tmps.getD p undef = .pointer (some a1)) (hq : tmps.getD q undef = .pointer (some a2)) (hr : tmps.getD r undef = .pointer (some a3))
    (h1 : (loadVar t1 a1).run P w = .ok v1 w) (h2 : (loadVar t2 a2).run P w = .ok v2 w) (h3 : (loadVar t3 a3).run P w = .ok v3 w) :
    (results fn tmps).run P w = .ok (.tuple #[v1, v2, v3]) w := by
  have hp' : tmps[p]?.getD undef = .pointer (some a1) := by simpa using hp
  have hq' : tmps[q]?.getD undef = .pointer (some a2) := by simpa using hq
  have hr' : tmps[r]?.getD undef = .pointer (some a3) := by simpa using hr
  simp [results, h, hp', hq', hr', asAddr, h1, h2, h3]
theorem load29 {w : World} {g : Nat} {ty : TypeId} {e : Int} (h : Blk w g ty #[.int .i64 e]) : (loadVar 29 ⟨g, 0, none⟩).run Try.prog w = .ok (.int .i64 e) w := by
  have c0 := h.cell 0
  simp only [List.getElem?_toArray, List.getElem?_cons_zero] at c0
  simp [loadVar, isAgg, run_underlying Try.underlying29, Sem.run_bind, go_sem, c0]
/-- a space without anything. -/
abbrev w0V : Array Value := #[.int .i64 0, .int .i64 0, .int .i64 0, .int .i64 0, .int .i64 0, .int .i64 0, .int .i64 0, .slice none 0 0, .slice none 0 0, .map none]
theorem watch_results {fn : Func} (hfn : fn.results = #[.cell 6 93, .cell 7 95, .cell 8 29]) (w : World) (tmps : Array Value) (b : Nat) (s l : Array Value) (e : Int) (h6 : tmps.getD 6 undef = .pointer (some ⟨b, 0, none⟩)) (h7 : tmps.getD 7 undef = .pointer (some ⟨b + 1, 0, none⟩)) (h8 : tmps.getD 8 undef = .pointer (some ⟨b + 1 + 1, 0, none⟩))
    (hs : Blk w b 93 s) (hl : Blk w (b + 1) 95 l) (he : Blk w (b + 1 + 1) 29 #[.int .i64 e]) (z1 : s.size = 10) (z2 : l.size = 3) :
    (results fn tmps).run Try.prog w = .ok (.tuple #[.agg s, .agg l, .int .i64 e]) w :=
  results_cells3 hfn _ _ _ _ _ _ _ _ h6 h7 h8 (run_loadVar_row w b _ _ s (0, 0) _ hs Try.underlying93 rfl (by rw [z1]; kernel_rfl)) (run_loadVar_row w (b + 1) _ _ l (0, 0) _ hl Try.underlying95 rfl (by rw [z2]; kernel_rfl)) (load29 he)
end Td
end Go.Proofs.Ytccacinnelmnpaa
