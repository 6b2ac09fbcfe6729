import Derived.Test.YtojpiliamecgkaaLawC
import Derived.Test.YtojpiliamecgkaaAwk
import Derived.Test.YtojpiliamecgkaaMisB
/- What a statement about the tide holds in memory while it runs: its three arguments in blocks of its own, the tides and a list of numbers where they came from. -/
namespace Go.Proofs.Ytojpiliamecgkaa
open Go.RowKit
namespace Td
set_option linter.unusedSimpArgs false
set_option linter.unusedVariables false
structure Env (gb gs gx : Nat) (b : Bch) (A : Option Addr) (c : Nat) (s : Shp) (cs : List Value) (P : Option Addr) (l : List Int) (w X : World) : Prop where
  sb : SB gb b A c X
  ss : SS gs s X
  sx : ∀ j v, cs[j]? = some v → X.cell? ⟨gx, j, none⟩ = some v
  ts : TsAt X A b.ts
  us : U16At X P l
  sn : Since w X
section
variable {gb gs gx : Nat} {b : Bch} {A : Option Addr} {c : Nat} {s : Shp} {cs : List Value} {P : Option Addr} {l : List Int} {w X Y : World}
theorem Env.keep (h : Env gb gs gx b A c s cs P l w X) (hb : Below X.heap.size X Y) : Env gb gs gx b A c s cs P l w Y :=
  ⟨h.sb.keep hb, h.ss.keep hb, fun j v hj => keep_cell hb (h.sx j v hj), h.ts.keep hb, h.us.keep hb, h.sn.keep hb⟩
theorem Env.alloc (h : Env gb gs gx b A c s cs P l w X) (o : Obj) : Env gb gs gx b A c s cs P l w (X.alloc o) := h.keep ((Below.refl _ _).alloc (Nat.le_refl _) _)
theorem Env.drew (h : Env gb gs gx b A c s cs P l w X) : Env gb gs gx b A c s cs P l w X.drew := ⟨h.sb, h.ss, h.sx, h.ts.keep ((Below.refl _ _).drew), h.us, h.sn.drew⟩
theorem Env.drewN (h : Env gb gs gx b A c s cs P l w X) (n : Nat) : Env gb gs gx b A c s cs P l w (X.drewN n) := ⟨h.sb, h.ss, h.sx, h.ts.keep (bdrew (Below.refl _ _) n), h.us, ⟨bdrew h.sn.1 n, h.sn.2⟩⟩
end
theorem miss_out {mlo mhi : Int} {x : Box} {lift : Int} (hx : BoxOk x) (h : sur mlo mhi x lift = false) : wi mlo mhi (mAt mlo mhi x lift) = false := by
  have hM := mis_spec hx h
  have := point_place hM.d3 rfl rfl rfl rfl
  rw [wi_no]
  have e : pl (x3 (y3 mlo mhi x lift) (m3 mlo mhi x lift)).slo (x3 (y3 mlo mhi x lift) (m3 mlo mhi x lift)).dlo (x3 (y3 mlo mhi x lift) (m3 mlo mhi x lift)).hlo (x3 (y3 mlo mhi x lift) (m3 mlo mhi x lift)).wlo lift = mAt mlo mhi x lift := rfl
  rw [e] at this
  omega
theorem mis_in {mlo mhi : Int} {x : Box} {lift : Int} (hx : BoxOk x) (h : sur mlo mhi x lift = false) : Inn x (m0 mlo mhi x lift) (m1 mlo mhi x lift) (m2 mlo mhi x lift) (m3 mlo mhi x lift) := by
  have hM := mis_spec hx h
  exact ⟨hM.a0, hM.a1, hM.b0, hM.b1, hM.c0, hM.c1, hM.d0, hM.d1⟩
theorem inn_tr {x : Box} {sl dr he wn : Int} (hx : BoxOk x) (h : Inn x sl dr he wn) : TrOk sl dr he wn := by
  obtain ⟨_, _, _, _, _, _, _, _, _, _, _, _⟩ := hx
  obtain ⟨_, _, _, _, _, _, _, _⟩ := h
  refine ⟨?_, ?_, ?_, ?_, ?_, ?_, ?_, ?_⟩ <;> omega
theorem sur_in {mlo mhi : Int} {x : Box} {lift sl dr he wn : Int} (hx : BoxOk x) (hi : Inn x sl dr he wn) (h : sur mlo mhi x lift = true) : wi mlo mhi (pl sl dr he wn lift) = true := by
  have h1 := pl_in lift hx hi
  have h2 := sur_iff.1 h
  rw [wi_iff]
  omega
theorem leastV_ok {b : Bch} {s : Shp} (hk : (chk b s).2.2 = 0) {i n : Nat} (hi : i < b.ts.length) (h : leastOf (doesB b s i) = some n) : leastV b s i = .tuple #[.int .i64 n, .int .i64 0] := by
  have h0 : stepE b s i 0 = 0 := by rw [stepE_run hk, runE_zero]; omega
  unfold leastV
  rw [if_pos h0, Int.toNat_natCast, show (1 : Nat) = 0 + 1 from rfl, firstFrom_hit h]
  rfl
theorem leastV_no {b : Bch} {s : Shp} (hk : (chk b s).2.2 = 0) {i : Nat} (hi : i < b.ts.length) (h : leastOf (doesB b s i) = none) : leastV b s i = .tuple #[.int .i64 0, .int .i64 9] := by
  have h0 : stepE b s i 0 = 0 := by rw [stepE_run hk, runE_zero]; omega
  unfold leastV
  rw [if_pos h0, Int.toNat_natCast, show (1 : Nat) = 0 + 1 from rfl, firstFrom_step h]
  rfl
theorem leastV_bad {b : Bch} {s : Shp} (hk : (chk b s).2.2 ≠ 0) (t : Int) : leastV b s t = .tuple #[.int .i64 0, .int .i64 (chk b s).2.2] := by
  have h0 : stepE b s t 0 ≠ 0 := by rw [stepE_chk hk]; exact hk
  unfold leastV
  rw [if_neg h0, stepE_chk hk]
theorem missesV_ok {b : Bch} {s : Shp} (hk : (chk b s).2.2 = 0) {i n : Nat} (hi : i < b.ts.length) (hn : n ≤ 40) (h : doesB b s i n = false) :
    missesV b s i n = .tuple #[.agg (trV (m0 b.mlo b.mhi (bx b s i) (-s.sink * (n : Int))) (m1 b.mlo b.mhi (bx b s i) (-s.sink * (n : Int))) (m2 b.mlo b.mhi (bx b s i) (-s.sink * (n : Int))) (m3 b.mlo b.mhi (bx b s i) (-s.sink * (n : Int)))), .int .i64 (mAt b.mlo b.mhi (bx b s i) (-s.sink * (n : Int))), .int .i64 0] := by
  have h0 : stepE b s i n = 0 := by rw [stepE_run hk, runE_zero]; omega
  unfold missesV
  unfold doesB at h
  rw [if_pos h0, Int.toNat_natCast, h, if_neg (by decide)]
theorem missesV_down {b : Bch} {s : Shp} (hk : (chk b s).2.2 = 0) {i n : Nat} (hi : i < b.ts.length) (hn : n ≤ 40) (h : doesB b s i n = true) :
    missesV b s i n = .tuple #[.agg (trV 0 0 0 0), .int .i64 0, .int .i64 9] := by
  have h0 : stepE b s i n = 0 := by rw [stepE_run hk, runE_zero]; omega
  unfold missesV
  unfold doesB at h
  rw [if_pos h0, Int.toNat_natCast, h, if_pos rfl]
end Td
end Go.Proofs.Ytojpiliamecgkaa
