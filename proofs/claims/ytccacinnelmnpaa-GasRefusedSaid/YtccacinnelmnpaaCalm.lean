import Derived.Test.YtccacinnelmnpaaVals9
import Derived.OrdersIn
import Derived.TacticsIn
/- A drawn region of loads and stores alone, inside a fence: as Vals9. -/
namespace Go.Proofs.Ytccacinnelmnpaa
open Go.RowKit
namespace Vals9
open Vals (putAll putAll_size putAll_out putAll_in waits acyc guarded lastly slot_inj getD_of ready_spec all_of_none)
set_option linter.unusedVariables false
def calm (o : Oper) : Bool := match o.op with
  | .load .. | .store .. => true
  | _ => false
variable {P : Program} {Q : Exit → Act → World → Prop} {ops : Array Oper} {F : Fence} {n : Nat}
theorem calm_wp {o : Oper} (hc : calm o = true) {a : Act} {w : World} {K : Act → World → Prop} (h : o.wp P a w K Q) : o.wpIn F n P a w K Q := by
  unfold calm at hc
  split at hc
  · rename_i t x ho
    refine ⟨fun f hf => by simp [Oper.about, ho] at hf, ?_⟩
    rw [Oper.semAt_eq _ _ _ (by intro c e; rw [ho] at e; cases e)]
    unfold Oper.wp at h
    have e : execOp a.eval o = (do pure (Next.value (← Instr.loadAt t (a.eval x)))) := by unfold execOp; simp only [ho]
    rw [e, Sem.run_bind] at h ⊢
    cases hr : (Instr.loadAt t (a.eval x)).run P w with
    | ok v w' => rw [hr] at h; simpa [Result.andThen, Oper.upon, Oper.uponIn] using h
    | halt hh w' =>
      rw [hr] at h
      simp only [Result.andThen] at h ⊢
      cases hh <;> first | exact h | exact h.elim
  · rename_i t x y ho
    refine ⟨fun f hf => by simp [Oper.about, ho] at hf, ?_⟩
    rw [Oper.semAt_eq _ _ _ (by intro c e; rw [ho] at e; cases e)]
    unfold Oper.wp at h
    have e : execOp a.eval o = (do Instr.storeAt t (a.eval x) (a.eval y); pure Next.skip) := by unfold execOp; simp only [ho]
    rw [e, Sem.run_bind] at h ⊢
    cases hr : (Instr.storeAt t (a.eval x) (a.eval y)).run P w with
    | ok v w' => rw [hr] at h; simpa [Result.andThen, Oper.upon, Oper.uponIn] using h
    | halt hh w' =>
      rw [hr] at h
      simp only [Result.andThen] at h ⊢
      cases hh <;> first | exact h | exact h.elim
  · cases hc
theorem calm_none {o : Oper} (hc : calm o = true) {a : Act} {w : World} (f : FuncId) (h : o.about P w a.eval = some f) : F.fn f := by
  unfold calm at hc
  split at hc
  · rename_i ho; simp [Oper.about, ho] at h
  · rename_i ho; simp [Oper.about, ho] at h
  · cases hc
theorem calm_any {md : Region.Mode} (hc : ∀ o ∈ ops, calm o = true) (hno : ¬ LetsOut Q) : ∀ (fuel : Nat) (listed : Array Bool) (a : Act) (w : World), wpAny P md ops Q fuel listed a w → wpAnyIn F n P md ops Q fuel listed a w := by
  intro fuel
  induction fuel with
  | zero => exact fun _ _ _ h => h
  | succ fuel ih =>
    intro listed a w h
    refine ⟨h.1, fun i hi => ?_⟩
    have h2 := h.2 i hi
    unfold wpOp at h2
    unfold wpOpIn
    cases ho : ops[i]? with
    | none => rw [ho] at h2; exact ih _ _ _ h2
    | some o =>
      rw [ho] at h2
      have hco := hc o (Array.mem_of_getElem? ho)
      simp only at h2 ⊢
      split
      · rename_i hw
        rw [if_pos hw] at h2
        rcases h2 with h2 | ⟨_, h2⟩
        · exact Oper.wpIn_mono (fun a w h => ih _ _ _ h) (calm_wp hco h2)
        · exact absurd h2 hno
      · rename_i hw
        rw [if_neg hw] at h2
        exact ⟨fun f hf => calm_none hco f hf, ih _ _ _ h2⟩
theorem regionIn {id : Nat} {w : World} {a0 : Act} (J : Sig → World → Prop) (ds : List (Option Tmp)) (xs : List Exp) (hm : P.follows .mixedOrders = true) (hcalm : ops.toList.all calm = true) (hno : ¬ LetsOut Q) (hds : ops.toList.map (·.dst) = ds) (hA : acyc ops = true) (hG : guarded ops = true) (hN : decide (ds.filterMap fun x => x).Nodup = true) (hL : (ds.all fun o => o.all fun d => decide (d < a0.tmps.size)) = true) (hJ : J (fun _ => none) w.drew)
    (hst : Steps P Q J ds xs a0 0 ops.toList xs) (hend : ∀ w σ, J σ w → All σ 0 xs fun us => Q .normal { a0 with tmps := putAll ds us a0.tmps } w) : (Code.region id ops true).wpIn F n P Q a0 w := by
  have hL' : ∀ d, some d ∈ ds → d < a0.tmps.size := fun d hd => by
    have := List.all_eq_true.1 hL (some d) hd
    simpa using this
  refine wpIn_region_any hm (calm_any (fun o ho => List.all_eq_true.1 hcalm o (by simpa using ho)) hno _ _ _ _ (go hds hA hG (show (ds.filterMap _root_.id).Nodup from of_decide_eq_true hN) hL' hst hend ops.size _ (fun _ => none) a0 w.drew ⟨by simp, rfl, rfl, ?_, ?_, ?_, ?_⟩ hJ ?_))
  · intro i d v h
    rw [Array.getElem?_replicate] at h
    split at h <;> cases h
  · intro i h
    rw [Array.getElem?_replicate] at h
    split at h <;> cases h
  · intro i h; rfl
  · intro t _; rfl
  · have := List.countP_le_length (p := (!·)) (l := (Array.replicate ops.size false).toList)
    simpa using this
end Vals9
end Go.Proofs.Ytccacinnelmnpaa
