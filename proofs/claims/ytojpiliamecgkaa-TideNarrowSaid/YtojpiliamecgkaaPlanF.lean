import Derived.Test.YtojpiliamecgkaaPlanW
/- The pulls that a plan gives are pulls as the document wants them. -/
namespace Go.Proofs.Ytojpiliamecgkaa
namespace Td
set_option linter.unusedSimpArgs false
set_option linter.unusedVariables false
theorem runE_ok {n : Nat} {t bal : Int} (h0 : 0 ≤ t) (h1 : t < n) (b0 : 0 ≤ bal) (b1 : bal ≤ 40) : runE n t bal = 0 := runE_zero.2 ⟨⟨h0, h1⟩, b0, b1⟩
theorem planFrom_ok {len : Nat} {l : List Int} : ∀ (g n : Nat) (t : Int), 0 ≤ t → t < len →
    (∀ p ∈ planFrom len l g n t, PuOk len p ∧ t < p.tide) ∧ pullsFrom len t (planFrom len l g n t) = 0 ∧ (planFrom len l g n t).length ≤ g := by
  intro g
  induction g with
  | zero => exact fun n t _ _ => ⟨by simp [planFrom], rfl, by simp [planFrom]⟩
  | succ g ih =>
    intro n t h0 h1
    unfold planFrom
    have hy := Int.emod_nonneg (turnV l (2 * n + 2)) (show (3 : Int) ≠ 0 by omega)
    have hz := Int.emod_nonneg (turnV l (2 * n + 3)) (show (41 : Int) ≠ 0 by omega)
    have hz1 := Int.emod_lt_of_pos (turnV l (2 * n + 3)) (show (0 : Int) < 41 by omega)
    by_cases hc : (len : Int) ≤ t + 1 + turnV l (2 * n + 2) % 3
    · rw [if_pos hc]
      exact ⟨by simp, rfl, by simp⟩
    · rw [if_neg hc]
      obtain ⟨i1, i2, i3⟩ := ih (n + 1) (t + 1 + turnV l (2 * n + 2) % 3) (by omega) (by omega)
      refine ⟨fun p hp => ?_, ?_, by simp; omega⟩
      · rcases List.mem_cons.1 hp with rfl | hp
        · exact ⟨⟨by simp only; omega, by simp only; omega, by simp only; omega, by simp only; omega⟩, by simp only; omega⟩
        · have := i1 p hp
          exact ⟨this.1, by omega⟩
      · have hr : runE len (t + 1 + turnV l (2 * n + 2) % 3) (turnV l (2 * n + 3) % 41) = 0 := runE_ok (by omega) (by omega) (by omega) (by omega)
        have ha : pullAtE len t ⟨t + 1 + turnV l (2 * n + 2) % 3, turnV l (2 * n + 3) % 41⟩ = 0 := by
          unfold pullAtE
          simp only
          rw [hr, if_neg (by simp), if_neg (by omega)]
        show (if _ then _ else _) = _
        rw [ha, if_neg (by simp)]
        exact i2
theorem planRun_ok {len : Nat} {l : List Int} (h : 1 ≤ len) : PuOk len (planRun len l) := by
  have h0 := Int.emod_nonneg (turnV l 0) (show (len : Int) ≠ 0 by omega)
  have h1 := Int.emod_lt_of_pos (turnV l 0) (show (0 : Int) < len by omega)
  have z0 := Int.emod_nonneg (turnV l 1) (show (41 : Int) ≠ 0 by omega)
  have z1 := Int.emod_lt_of_pos (turnV l 1) (show (0 : Int) < 41 by omega)
  unfold planRun
  exact ⟨by simp only; omega, by simp only; omega, by simp only; omega, by simp only; omega⟩
/-- a plan's run and pulls are valid. -/
theorem plan_ok {len : Nat} {l : List Int} (h : 1 ≤ len) :
    (∀ p ∈ planPs len l, PuOk len p ∧ (planRun len l).tide < p.tide) ∧ pullsE len (planRun len l) (planPs len l) = 0 ∧ (planPs len l).length ≤ 6 := by
  have hr := planRun_ok (l := l) h
  obtain ⟨h1, h2, h3⟩ := planFrom_ok (len := len) (l := l) 6 0 (planRun len l).tide hr.t0 hr.t1
  refine ⟨h1, ?_, h3⟩
  unfold pullsE
  have h3' : (planPs len l).length ≤ 6 := h3
  rw [if_neg (by omega)]
  exact h2
/-- what Lies comes to, of a plan. -/
theorem liesV_plan {b : Bch} {s : Shp} {l : List Int} (hk : (chk b s).2.2 = 0) (h : 1 ≤ b.ts.length) :
    liesV b s (planRun b.ts.length l) (planPs b.ts.length l) = .tuple #[.agg #[.int .i64 (lieLo b s (planRun b.ts.length l) (planPs b.ts.length l)), .int .i64 (lieHi b s (planRun b.ts.length l) (planPs b.ts.length l))], .int .i64 0] := by
  have hr := planRun_ok (l := l) h
  obtain ⟨_, h2, _⟩ := plan_ok (l := l) h
  have h0 : stepE b s (planRun b.ts.length l).tide (planRun b.ts.length l).bal = 0 := by
    rw [stepE_run hk]
    exact runE_ok hr.t0 hr.t1 hr.b0 hr.b1
  unfold liesV
  rw [if_pos h0, if_pos h2]
end Td
end Go.Proofs.Ytojpiliamecgkaa
