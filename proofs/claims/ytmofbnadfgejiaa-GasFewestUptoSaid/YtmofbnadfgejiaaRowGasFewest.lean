/- If readings at the minutes of Fewest show at most what was asked for, a torch may burn at each minute from from to to, and in the truth the level is at most Limit; with no fewer minutes each minute is covered. For any space and further arguments that are together of bulk at most 1048576. -/
import Derived.Test.YtmofbnadfgejiaaFewW
import Derived.Test.YtmofbnadfgejiaaOpenS
import Derived.JoinedCond
namespace Go.Proofs.Ytmofbnadfgejiaa
open Go.ChangeShapes Go.WideShapes Go.ChangeAt Go.RowKit
namespace Td
set_option linter.unusedSimpArgs false
set_option linter.unusedVariables false
set_option maxRecDepth 100000 in
theorem gasFewest_lifted (os : Os) (started : os.Started) (H : Type) (enc : TypeId × Value → H) (F : Stop.Interp) :
    ReturnsInHanded {} Try.checked os 12 .any ((Rows.OpenSpec.upto Rows.gasFewestSpec).pre6 enc Try.prog Try.f12 Rows.gasFewestUptoRow.domain false) (((Rows.OpenSpec.upto Rows.gasFewestSpec).at F).post enc Try.prog Try.f12 false true false false) := by
  refine returnsInHanded_of_cond (C := Try.checked) (s := Rows.OpenSpec.upto Rows.gasFewestSpec) (k := Rows.uptoSmall) rfl ownB started (by kernel_rfl) Try.func12
    (OpenSpec.witness (enc := enc) (C := Try.checked) (s := Rows.OpenSpec.upto Rows.gasFewestSpec) (k := Rows.uptoSmall) rfl false ⟨#[], #[.agg #[.int .i64 0, .int .i64 0, .int .i64 0, .int .i64 0, .int .i64 0, .int .i64 0, .int .i64 0, .slice none 0 0, .slice none 0 0], .agg #[.int .u8 0, .int .i16 0, .int .u8 0, .int .u8 0, .slice none 0 0, .slice none 0 0, .slice none 0 0]], []⟩ 8 (by kernel_rfl) (by kernel_rfl) (by kernel_rfl)
      (x := ([.agg [.agg [.lit (.int .i64 0), .lit (.int .i64 0)], .agg [.lit (.int .i64 0), .lit (.int .i64 0)], .agg [.lit (.int .i64 0), .lit (.int .i64 0)], .lit (.int .i64 0), .nil, .nil], .agg [.lit (.int .u8 0), .lit (.int .i16 0), .lit (.int .u8 0), .lit (.int .u8 0), .nil, .nil, .nil]], [], [])) (by kernel_rfl) rfl (by kernel_rfl)) ?_
  intro W base args ds gs before hval0 hW _ hk _
  have hval : ∀ (j : Nat) t v, Try.f12.params[j]? = some t → args[j]? = some v → Value.okWide Try.prog W .any base t v := hval0
  have hW' := hW
  obtain ⟨p, q, hA0, hV, rfl, hfz, hnd⟩ := hW
  have hA : DataW.TrodAll enc Try.prog W 0 (fun _ => true) true Try.f12.params.toList args.toList ds p := hA0
  rw [Try.params12] at hA hval
  obtain ⟨v0, v1, d0, d1, p0, p1, rfl, rfl, rfl, h0, h1⟩ := trodAll_two hA
  obtain ⟨rfl, rfl⟩ := trodVars_none hV
  have hbulk := of_decide_eq_true hk
  simp only [List.append_nil, Rows.uptoBulkAll] at hbulk
  have h0k := h0
  have h1k := h1
  obtain ⟨s, m, rfl, hsa⟩ := open_space (hval 0 27 v0 rfl rfl) h0
  obtain ⟨a, sh, f, t, OA, Ot, oc, LA, Lo, lc, P, X, pc, rfl, ha, hsh, hf, ht, ho, hok, _, hl, hlk, _, hu, huk⟩ := open_round (hval 1 74 v1 rfl rfl) h1
  obtain ⟨hb1, hb2⟩ := round_bulk h1
  have hoL : Ot.length ≤ 1048576 := by omega
  have hll : Lo.length ≤ 1048576 := by omega
  clear hA0 hval0 hbulk hk
  simp only [List.append_nil] at hW'
  refine (gasFewest_c s m a sh f t OA Ot oc LA Lo lc P X pc W hsa ha hsh hf ht ho hok hoL hl hlk hll hu huk).mono fun e W' ⟨he, hb⟩ => ?_
  subst he
  have hlt : ∀ x ∈ p0 ++ p1, x.block < W.heap.size := fun x hx => by simpa using hW'.lt x hx
  refine ⟨_, rfl, _, _, _, [], (p0 ++ p1) ++ [], [], hW', trodAll_mk1 (shut_bool Try.underlying4 _), ?_, rfl, hb.frame _, fun h => by cases h⟩
  have t0 := Below.trod laidOutB' (by kernel_rfl) (of_decide_eq_true (by kernel_rfl)) h0k hb (fun x hx => hlt x (by simp [hx]))
  have t1 := Below.trod laidOutB' (by kernel_rfl) (of_decide_eq_true (by kernel_rfl)) h1k hb (fun x hx => hlt x (by simp [hx]))
  rw [show (p0 ++ p1) ++ [] = p0 ++ p1 from by simp]
  exact trodAll_mk2 t0 t1
theorem gasFewest_holds : Rows.GasFewestUptoSaid :=
  OpenClaim.holds_of_cond 12 Try.f12 rfl rfl rfl rfl rfl rfl rfl ⟨rfl, rfl, rfl, rfl, rfl⟩ rfl rfl rfl rfl rfl (by kernel_rfl) Try.func12 (by kernel_rfl)
    (of_decide_eq_true (by kernel_rfl)) (by unfold Func.isWrapper; first | (rw [if_pos (by decide +kernel)]; kernel_rfl) | (rw [if_neg (by decide +kernel)]; exact ⟨rfl, rfl⟩))
    (fun os started H enc _ F => gasFewest_lifted os started H enc F)
end Td
end Go.Proofs.Ytmofbnadfgejiaa
