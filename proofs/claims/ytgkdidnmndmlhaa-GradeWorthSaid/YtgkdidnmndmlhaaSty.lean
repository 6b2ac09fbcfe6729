import Derived.Test.YtgkdidnmndmlhaaMathE
import Derived.Test.YtgkdidnmndmlhaaWho
import Derived.Test.YtgkdidnmndmlhaaRefA
import Derived.Test.YtgkdidnmndmlhaaAwk
/- The law GradeStays: what it returns. -/
namespace Go.Proofs.Ytgkdidnmndmlhaa
open Go.RowKit
namespace Td
set_option linter.unusedSimpArgs false
set_option linter.unusedVariables false
attribute [local go_sem] Oper.semAt_some
/-- a share that is put into a box of its own, in a drawn region. -/
structure B1 (w : World) (g0 : Nat) (I : Unit → World → Prop) (u : Int × Int) (s t : Option Value) (X : World) : Prop where
  sz : g0 ≤ X.heap.size
  sn : Since w X
  inv : I () X
  tn : s = none → t = none
  nw : ∀ v, s = some v → ∃ g, v = .pointer (some ⟨g, 0, none⟩) ∧ g0 ≤ g ∧ ((t = none ∧ Blk X g 41 (fV (0, 0))) ∨ (t ≠ none ∧ Blk X g 41 (fV u)))
section
variable {w : World} {g0 : Nat} {I : Unit → World → Prop} {u : Int × Int} {s t : Option Value} {X Y : World}
theorem B1.fresh (h : B1 w g0 I u s t X) : ∀ v, s = some v → v ≠ .pointer (some ⟨X.heap.size, 0, none⟩) := fun v hv e => by
  obtain ⟨g, e2, hg, ⟨a, k⟩ | ⟨a, k⟩⟩ := h.nw v hv
  · have := k.lt
    rw [e2] at e
    simp only [Value.pointer.injEq, Option.some.injEq, Addr.mk.injEq] at e
    omega
  · have := k.lt
    rw [e2] at e
    simp only [Value.pointer.injEq, Option.some.injEq, Addr.mk.injEq] at e
    omega
theorem B1.start (hz : g0 ≤ X.heap.size) (hs : Since w X) (hI : I () X) : B1 w g0 I u none none X := ⟨hz, hs, hI, fun _ => rfl, fun v hv => by cases hv⟩
theorem B1.keep (hA : AllFrom g0 I) (h : B1 w g0 I u s t X) (hb : Below X.heap.size X Y) : B1 w g0 I u s t Y :=
  ⟨Nat.le_trans h.sz hb.size, h.sn.keep hb, hA.keep h.inv hb, h.tn, fun v hv => by
    obtain ⟨g, e, hg, ⟨a, k⟩ | ⟨a, k⟩⟩ := h.nw v hv
    · exact ⟨g, e, hg, .inl ⟨a, k.keep hb⟩⟩
    · exact ⟨g, e, hg, .inr ⟨a, k.keep hb⟩⟩⟩
theorem B1.mk1 (hA : AllFrom g0 I) (h : B1 w g0 I u none t X) : B1 w g0 I u (some (.pointer (some ⟨X.heap.size, 0, none⟩))) t (X.alloc (.cells (fV (0, 0)) 41)) :=
  ⟨by have := h.sz; simp; omega, h.sn.alloc _, hA.alloc _ h.inv, (fun e => by cases e), fun v hv => ⟨_, (Option.some.inj hv).symm, h.sz, .inl ⟨h.tn rfl, Blk.new _ _ _⟩⟩⟩
theorem B1.put {g : Nat} (hw : w.heap.size ≤ g0) (hA : AllFrom g0 I) (h : B1 w g0 I u (some (.pointer (some ⟨g, 0, none⟩))) t X) (hg : g0 ≤ g) (hB : Blk X g 41 (fV (0, 0))) (v : Value) : B1 w g0 I u (some (.pointer (some ⟨g, 0, none⟩))) (some v) (X.setRow g (fV u)) :=
  ⟨by rw [size_setRow]; exact h.sz, h.sn.row (by omega) _, hA.row _ _ h.inv hg, (fun e => by cases e), fun v hv => ⟨g, (Option.some.inj hv).symm, hg, .inr ⟨by simp, hB.row _⟩⟩⟩
theorem B1.far {g' : Nat} (hw : w.heap.size ≤ g0) (hA : AllFrom g0 I) (h : B1 w g0 I u s t X) (hg : g0 ≤ g') (hne : ∀ v, s = some v → v ≠ .pointer (some ⟨g', 0, none⟩)) (cs : Array Value) : B1 w g0 I u s t (X.setRow g' cs) :=
  ⟨by rw [size_setRow]; exact h.sz, h.sn.row (by omega) _, hA.row _ _ h.inv hg, h.tn, fun v hv => by
    have hn := hne v hv
    obtain ⟨g, e, hg, hh⟩ := h.nw v hv
    have hgg : g' ≠ g := fun q => hn (by rw [e, q])
    rcases hh with ⟨a, k⟩ | ⟨a, k⟩
    · exact ⟨g, e, hg, .inl ⟨a, k.rowFar hgg _⟩⟩
    · exact ⟨g, e, hg, .inr ⟨a, k.rowFar hgg _⟩⟩⟩
end
/-- two boxes. -/
structure J6 (w : World) (g0 : Nat) (I : Unit → World → Prop) (u : Int × Int) (s s' t t' : Option Value) (X : World) : Prop where
  a : B1 w g0 I u s t X
  b : B1 w g0 I u s' t' X
  ne : ∀ v v', s = some v → s' = some v' → v ≠ v'
theorem chkP_no {P lo hi fi pa fa se to : Int} (h : chkE P lo hi ≠ 0) : chkP P lo hi fi pa fa se to = chkE P lo hi := by unfold chkP; rw [if_neg h]
set_option maxRecDepth 100000 in
set_option maxHeartbeats 8000000 in
theorem gradeStays_c (P lo hi fi pa fa se to : Int) (x : Nat) (w : World) (hx : x ≤ 255) :
    Calls Try.prog 16 #[.agg (gV P lo hi), .agg (lV fi pa fa se to), .int .u8 x] w fun e w' => e = .returned (.bool true) ∧ Below w.heap.size w w' := by
  have hs := ((Since.refl w).alloc (.cells (gV P lo hi) 25)).alloc (.cells (lV fi pa fa se to) 38)
  have HG := Lib.hid ((Blk.new w 25 (gV P lo hi)).alloc (.cells (lV fi pa fa se to) 38))
  have HL := Lib.hid (Blk.new1 w (.cells (gV P lo hi) 25) 38 (lV fi pa fa se to))
  obtain ⟨c0, c1, c2⟩ := HG.out.gcells
  obtain ⟨d0, d1, d2, d3, d4⟩ := HL.out.lcells
  by_cases hp : chkP P lo hi fi pa fa se to = 0
  · have hcc := (chkP_ok hp).1
    obtain ⟨P, lo, hi, F, pa, fa, S, to, rfl, rfl, rfl, rfl, rfl, rfl, rfl, rfl, hlh, hhi, hP, hfit⟩ := nats8 hp
    obtain ⟨m, hm⟩ : ∃ m, hi - lo + 1 = m := ⟨_, rfl⟩
    obtain ⟨r, hr⟩ : ∃ r, x % m = r := ⟨_, rfl⟩
    obtain ⟨d, hd⟩ : ∃ d, lo + r = d := ⟨_, rfl⟩
    have hrm : r < m := by rw [← hr]; exact Nat.mod_lt _ (by omega)
    have hdl : lo ≤ d ∧ d ≤ hi := by omega
    obtain ⟨dl, hdl0⟩ : ∃ dl, hi - lo = dl := ⟨_, rfl⟩
    have t1 : IntKind.i64.wrap ((hi : Int) - (lo : Int)) = (dl : Int) := by rw [wrapI (by unfold I64; omega)]; omega
    have t2 : IntKind.i64.wrap ((dl : Int) + 1) = (m : Int) := by rw [wrapI (by unfold I64; omega)]; omega
    have t3 : IntKind.i64.wrap (x : Int) = (x : Int) := wrapI (by unfold I64; omega)
    have t4 : IntKind.i64.wrap ((lo : Int) + (r : Int)) = (d : Int) := by rw [wrapI (by unfold I64; omega)]; omega
    have t5 : (x : Int).tmod (m : Int) = (r : Int) := by rw [← hr]; rfl
    have t6 : IntKind.i64.wrap (r : Int) = (r : Int) := wrapI (by unfold I64; omega)
    have t7 : ¬ (m : Int) = 0 := by omega
    have t7' : ¬ m = 0 := by omega
    have kA : Fit P F pa fa S d := hfit d (by omega)
    have hone := chkE_one hcc (d := d) (by omega) (by omega)
    have hpo := chkP_of hone (chkP_ok hp).2
    have HPA : Hid (∀ W, Calls Try.prog 27 #[.agg (gV P d d), .agg (lV F pa fa S to)] W fun e w' => e = .returned (.tuple #[.agg (fV (ip (chS P F pa fa S to d))), .agg (fV (ip (chS P F pa fa S to d))), .int .i64 0]) ∧ Below W.heap.size W w') := fun W => by have := Passes_c P d d F pa fa S to W; rw [pas_one hpo] at this; exact this
    have HWD : Hid (∀ W, Calls Try.prog 29 #[.agg (gV P d d), .agg (lV F pa fa S to)] W fun e w' => e = .returned (.tuple #[.int .i64 d, .agg (fV (ip (stS P F pa fa S to d))), .int .i64 0]) ∧ Below W.heap.size W w') := fun W => by
      have := Worst_c P d d F pa fa S to W
      rw [show worA P d d F pa fa S to = ((d : Int), ip (stS P F pa fa S to d), 0) by
        unfold worA
        rw [if_pos hpo]
        simp only [Int.toNat_natCast, each_one, most_one]
        unfold posS
        rw [if_pos rfl, Nat.add_zero]] at this
      exact this
    obtain ⟨L, hL⟩ : ∃ L, eachL (fun d => stS P F pa fa S to d) lo hi = L := ⟨_, rfl⟩
    have hget : L[d - lo]? = some (stS P F pa fa S to d) := by rw [← hL]; exact eachL_get hdl.1 hdl.2
    have hLsm : ∀ y ∈ L, Sm y ∧ 0 < y.2 := fun y hy => by
      rw [← hL] at hy
      obtain ⟨b, h1, h2, rfl⟩ := eachL_mem hy
      exact ⟨stS_sm (hfit b (by omega)), by unfold stS; exact shr_pos _ (den_pos (hfit b (by omega)).f (hfit b (by omega)).s)⟩
    have hmem : stS P F pa fa S to d ∈ L := List.mem_of_getElem? hget
    have hLne : L ≠ [] := List.ne_nil_of_mem hmem
    have hmm : mostS L ∈ L := fore_mem _ hLne
    have hLlen : L.length = hi + 1 - lo := by rw [← hL, eachL_len]
    have hpl : posS (mostS L) L < L.length := posS_lt hmm
    have hmax : lt' (mostS L) (stS P F pa fa S to d) = false := most_max (fun y hy => (hLsm y hy).2) hmem
    obtain ⟨bd, hbd⟩ : ∃ bd, lo + posS (mostS L) L = bd := ⟨_, rfl⟩
    have HWH : Hid (∀ W, Calls Try.prog 29 #[.agg (gV P lo hi), .agg (lV F pa fa S to)] W fun e w' => e = .returned (.tuple #[.int .i64 bd, .agg (fV (ip (mostS L))), .int .i64 0]) ∧ Below W.heap.size W w') := fun W => by
      have := Worst_c P lo hi F pa fa S to W
      rw [show worA P lo hi F pa fa S to = ((bd : Int), ip (mostS L), 0) by
        unfold worA
        rw [if_pos hp]
        simp only [Int.toNat_natCast, hL, hbd]] at this
      exact this
    have hfirst : ip (stS P F pa fa S to d) = ip (mostS L) → bd ≤ d := fun e => by
      have e' : stS P F pa fa S to d = mostS L := by
        unfold ip at e
        have h1 := congrArg Prod.fst e
        have h2 := congrArg Prod.snd e
        simp only at h1 h2
        exact Prod.ext (by omega) (by omega)
      obtain ⟨h1, h2⟩ := List.getElem?_eq_some_iff.1 hget
      have := posS_le (x := mostS L) h1 (h2.trans e')
      omega
    have hlow := stays_pass (to := to) kA
    have sM : Sm (mostS L) := (hLsm _ hmm).1
    have sR : Sm (stS P F pa fa S to d) := stS_sm kA
    have hRp : 0 < (stS P F pa fa S to d).2 := (hLsm _ hmem).2
    have hRg : Nat.gcd (stS P F pa fa S to d).1 (stS P F pa fa S to d).2 = 1 := by
      unfold stS
      obtain ⟨_, _, _, _, h⟩ := shr_spec (avgS P F pa fa S to d fun v => v) (den_pos kA.f kA.s)
      exact h
    have hp1 := chS_sm (to := to) kA
    have hcl := shr_le (avgS P F pa fa S to d fun _ => 1) (bn P F * bn (P - F) S)
    have hcl2 := cases_le (S := S) kA.p kA.f
    have hcl3 := avgS_le (pa := pa) (fa := fa) (to := to) (F := F) (S := S) (wo := fun _ => 1) kA.d (m := 1) (fun _ _ => Nat.le_refl _)
    have hcA : (chS P F pa fa S to d).1 ≤ 133024320 ∧ (chS P F pa fa S to d).2 ≤ 133024320 := by unfold chS; omega
    obtain ⟨⟨ca, cb⟩, hcv⟩ : ∃ s, chS P F pa fa S to d = s := ⟨_, rfl⟩
    rw [hcv] at HPA hlow hcA
    simp only at hlow hcA
    have hprod : ca * d ≤ 133024320 * 20 := Nat.mul_le_mul hcA.1 (by omega)
    obtain ⟨cd, hcd⟩ : ∃ q, ca * d = q := ⟨_, rfl⟩
    rw [hcd] at hlow hprod
    have t8 : IntKind.i64.wrap ((ca : Int) * (d : Int)) = (cd : Int) := by
      have e : (ca : Int) * (d : Int) = (cd : Int) := by rw [← hcd]; push_cast; rfl
      rw [e]; exact wrapI (by unfold I64; omega)
    have sC : Sm (cd, cb) := ⟨by show cd < _; omega, by show cb < _; omega⟩
    have HLA : Hid (∀ W, Calls Try.prog 44 #[.agg (fV (ip (mostS L))), .agg (fV (ip (stS P F pa fa S to d)))] W fun e w' => e = .returned (.bool false) ∧ Below W.heap.size W w') := fun W => by have := rLess_c _ _ W sM sR; rw [hmax] at this; exact this
    have HLB : Hid (∀ W, Calls Try.prog 44 #[.agg (fV ((cd : Int), (cb : Int))), .agg (fV (ip (stS P F pa fa S to d)))] W fun e w' => e = .returned (.bool false) ∧ Below W.heap.size W w') := fun W => by have := rLess_c (cd, cb) _ W sC sR; rw [hlow] at this; exact this
    have HWO : Hid (∀ W, Calls Try.prog 41 #[.agg (fV (ip (stS P F pa fa S to d)))] W fun e w' => e = .returned (.bool true) ∧ Below W.heap.size W w') := fun W => whole_c _ W (by have := sR.1; omega) (by have := sR.2; omega) hRp hRg
    have f1 : ¬ (bd : Int) < (lo : Int) := by omega
    have f2 : ¬ (hi : Int) < (bd : Int) := by omega
    obtain ⟨uM, hM⟩ : ∃ u, ip (mostS L) = u := ⟨_, rfl⟩
    obtain ⟨uR, hR⟩ : ∃ u, ip (stS P F pa fa S to d) = u := ⟨_, rfl⟩
    rw [hR, hM] at hfirst
    rw [hM, hR] at HLA
    rw [hR] at HLB HWO HWD
    rw [hM] at HWH
    have hcase : (uR = uM ∧ ¬ (d : Int) < (bd : Int)) ∨ (¬ uR.1 = uM.1) ∨ (uR.1 = uM.1 ∧ ¬ uR.2 = uM.2) := by
      by_cases h1 : uR.1 = uM.1
      · by_cases h2 : uR.2 = uM.2
        · exact .inl ⟨Prod.ext h1 h2, by have := hfirst (Prod.ext h1 h2); omega⟩
        · exact .inr (.inr ⟨h1, h2⟩)
      · exact .inr (.inl h1)
    have HCE := Lib.hid hcc
    have HPE := Lib.hid hp
    clear hM hR hlow hmax sM sR sC hRp hRg hprod hcA hcv hcl hcl2 hcl3 hp1 hcd hfirst hbd hpl hLlen hmm hLne hmem hLsm hget hL hpo hone kA hfit hdl0 hdl hrm hd hr hm hp hcc hx hlh hhi hP
    go_enter Try.func16, Try.ntmps16
    go_wp2_with fail
    refine (HWH.out _).mono ?_
    rintro e v1 ⟨rfl, hb⟩
    replace hs := hs.keep hb
    replace HG := Lib.hid (HG.out.keep hb)
    replace HL := Lib.hid (HL.out.keep hb)
    have HM := Lib.hid (Blk.new v1 41 (fV uM))
    have hq : Below v1.heap.size v1 (v1.alloc (.cells (fV uM) 41)) := (Below.refl _ _).alloc (Nat.le_refl _) _
    replace hs := hs.keep hq
    replace HG := Lib.hid (HG.out.keep hq)
    replace HL := Lib.hid (HL.out.keep hq)
    clear hb c0 c1 c2 d0 d1 d2 d3 d4
    obtain ⟨c0, c1, c2⟩ := HG.out.gcells
    go_wp2_with fail
    obtain ⟨kM, hkM⟩ : ∃ k, v1.heap.size = k := ⟨_, rfl⟩
    rw [hkM] at HM
    refine (rCheck_c P lo hi _).mono ?_
    rintro e v2 ⟨rfl, hb⟩
    rw [HCE.out]
    replace hs := hs.keep hb
    replace HG := Lib.hid (HG.out.keep hb)
    replace HL := Lib.hid (HL.out.keep hb)
    replace HM := Lib.hid (HM.out.keep hb)
    clear hb hq c0 c1 c2
    obtain ⟨c0, c1, c2⟩ := HG.out.gcells
    obtain ⟨d0, d1, d2, d3, d4⟩ := HL.out.lcells
    go_wp2_with fail
    clear hkM
    refine (rPlan_c P lo hi F pa fa S to _).mono ?_
    rintro e v3 ⟨rfl, hb⟩
    rw [HPE.out]
    replace hs := hs.keep hb
    replace HG := Lib.hid (HG.out.keep hb)
    replace HL := Lib.hid (HL.out.keep hb)
    replace HM := Lib.hid (HM.out.keep hb)
    clear hb c0 c1 c2 d0 d1 d2 d3 d4
    obtain ⟨c0, c1, c2⟩ := HG.out.gcells
    have HGd : Hid (∀ k, (Blk (v3.drewN k) w.heap.size 25 (gV P lo hi) ∧ Blk (v3.drewN k) (w.heap.size + 1) 38 (lV F pa fa S to)) ∧ Blk (v3.drewN k) kM 41 (fV uM)) := fun k => ⟨⟨HG.out, HL.out⟩, HM.out⟩
    have HSd : Hid (∀ k, Since w (v3.drewN k)) := fun k => ⟨bdrew hs.1 k, hs.2⟩
    go_wp2_with fail
    go_quiet (fail)
    obtain ⟨v4, hv4⟩ : ∃ v4, v3.drewN nq = v4 := ⟨_, rfl⟩
    have hs4 := HSd.out nq
    have HI4 := Lib.hid (HGd.out nq)
    rw [hv4] at hs4 HI4 ⊢
    clear hv4 c0 c1 c2 HGd HSd hs HG HL HM
    go_wp2_with fail
    obtain ⟨z4, hz4⟩ : ∃ z, v4.heap.size = z := ⟨_, rfl⟩
    obtain ⟨I, hI⟩ : ∃ I : Unit → World → Prop, I = fun _ X => (Blk X w.heap.size 25 (gV P lo hi) ∧ Blk X (w.heap.size + 1) 38 (lV F pa fa S to)) ∧ Blk X kM 41 (fV uM) := ⟨_, rfl⟩
    have hA : AllFrom z4 I := by
      rw [hI]
      have b1 := HI4.out.1.1.lt
      have b2 := HI4.out.1.2.lt
      have b3 := HI4.out.2.lt
      exact ((AllFrom.blk (by omega) _ _).and (AllFrom.blk (by omega) _ _)).and (AllFrom.blk (by omega) _ _)
    have hw4 : w.heap.size ≤ z4 := by rw [← hz4]; exact hs4.2
    have hI4 : I () v4 := by rw [hI]; exact HI4.out
    have hIo : ∀ X, I () X → (Blk X w.heap.size 25 (gV P lo hi) ∧ Blk X (w.heap.size + 1) 38 (lV F pa fa S to)) ∧ Blk X kM 41 (fV uM) := fun X h => by rw [hI] at h; exact h
    clear hI HI4
    have hzz : z4 ≤ v4.heap.size := Nat.le_of_eq hz4.symm
    clear hz4
    try dsimp only [Act.put]
    refine Vals9.region (fun σ X => B1 w z4 I uR (σ 9) (σ 11) X) [some 63, some 64, some 65, some 66, some 67, some 62, some 68, some 69, some 70, some 12, some 11, none, some 13] [.is (.agg (gV P lo hi)), .is (.int .i64 (d : Nat)), .is (.agg (gV P d d)), .is (.agg (lV F pa fa S to)), .is (.tuple #[.int .i64 (d : Nat), .agg (fV uR), .int .i64 0]), .is (.tuple #[.int .i64 (d : Nat), .agg (fV uR), .int .i64 0]), .is (.int .i64 (d : Nat)), .is (.agg (fV uR)), .is (.int .i64 0), .any, .is (.int .i64 (d : Nat)), .any, .is (.int .i64 0)] (by kernel_rfl) (by kernel_rfl) (by kernel_rfl) (by kernel_rfl) (by kernel_rfl) (by kernel_rfl) (B1.start hzz hs4.drew (hA.keep hI4 (Below.refl _ _).drew)) ?hsteps ?hfin
    case hsteps =>
      refine Vals9.Steps.run rfl ?_ ?_
      · intro a W σ hJ pre K hK
        have e3 := pre.2.2 3 _ (by kernel_rfl) rfl
        clear pre
        simp only [Array.getD_eq_getD_getElem?, List.getElem?_toArray, List.getElem?_cons_zero, List.getElem?_cons_succ, Option.getD_some] at e3
        have hS9 := hJ
        have hW9 : B1 w z4 I uR (σ 9) (σ 11) W := hS9
        obtain ⟨⟨q1, q2⟩, q3⟩ := hIo W hW9.inv
        obtain ⟨c0, c1, c2⟩ := q1.gcells
        obtain ⟨d0, d1, d2, d3, d4⟩ := q2.lcells
        go_simp
        exact hK _ hJ
      refine Vals9.Steps.run rfl ?_ ?_
      · intro a W σ hJ pre K hK
        have e10 := pre.2.2 10 _ (by kernel_rfl) rfl
        clear pre
        simp only [Array.getD_eq_getD_getElem?, List.getElem?_toArray, List.getElem?_cons_zero, List.getElem?_cons_succ, Option.getD_some] at e10
        go_simp
        exact hK _ hJ
      refine Vals9.Steps.run rfl ?_ ?_
      · intro a W σ hJ pre K hK
        have e63 := pre.1 0 63 _ (by kernel_rfl) rfl rfl
        have e64 := pre.1 1 64 _ (by kernel_rfl) rfl rfl
        clear pre
        simp only [Array.getD_eq_getD_getElem?, List.getElem?_toArray, List.getElem?_cons_zero, List.getElem?_cons_succ, Option.getD_some] at e63 e64
        go_simp
        refine (at_c _ _ _ _ _).mono ?_
        rintro e w' ⟨rfl, hb'⟩
        have hJ2 : B1 w z4 I uR (σ 9) (σ 11) W := hJ
        exact hK _ (hJ2.keep hA hb')
      refine Vals9.Steps.run rfl ?_ ?_
      · intro a W σ hJ pre K hK
        have e4 := pre.2.2 4 _ (by kernel_rfl) rfl
        clear pre
        simp only [Array.getD_eq_getD_getElem?, List.getElem?_toArray, List.getElem?_cons_zero, List.getElem?_cons_succ, Option.getD_some] at e4
        have hS9 := hJ
        have hW9 : B1 w z4 I uR (σ 9) (σ 11) W := hS9
        obtain ⟨⟨q1, q2⟩, q3⟩ := hIo W hW9.inv
        obtain ⟨c0, c1, c2⟩ := q1.gcells
        obtain ⟨d0, d1, d2, d3, d4⟩ := q2.lcells
        go_simp
        exact hK _ hJ
      refine Vals9.Steps.run rfl ?_ ?_
      · intro a W σ hJ pre K hK
        have e65 := pre.1 2 65 _ (by kernel_rfl) rfl rfl
        have e66 := pre.1 3 66 _ (by kernel_rfl) rfl rfl
        clear pre
        simp only [Array.getD_eq_getD_getElem?, List.getElem?_toArray, List.getElem?_cons_zero, List.getElem?_cons_succ, Option.getD_some] at e65 e66
        go_simp
        refine (HWD.out _).mono ?_
        rintro e w' ⟨rfl, hb'⟩
        have hJ2 : B1 w z4 I uR (σ 9) (σ 11) W := hJ
        exact hK _ (hJ2.keep hA hb')
      refine Vals9.Steps.run rfl ?_ ?_
      · intro a W σ hJ pre K hK
        have e67 := pre.1 4 67 _ (by kernel_rfl) rfl rfl
        clear pre
        simp only [Array.getD_eq_getD_getElem?, List.getElem?_toArray, List.getElem?_cons_zero, List.getElem?_cons_succ, Option.getD_some] at e67
        go_simp
        exact hK _ hJ
      refine Vals9.Steps.run rfl ?_ ?_
      · intro a W σ hJ pre K hK
        have e62 := pre.1 5 62 _ (by kernel_rfl) rfl rfl
        clear pre
        simp only [Array.getD_eq_getD_getElem?, List.getElem?_toArray, List.getElem?_cons_zero, List.getElem?_cons_succ, Option.getD_some] at e62
        go_simp
        exact hK _ hJ
      refine Vals9.Steps.run rfl ?_ ?_
      · intro a W σ hJ pre K hK
        have e62 := pre.1 5 62 _ (by kernel_rfl) rfl rfl
        clear pre
        simp only [Array.getD_eq_getD_getElem?, List.getElem?_toArray, List.getElem?_cons_zero, List.getElem?_cons_succ, Option.getD_some] at e62
        go_simp
        exact hK _ hJ
      refine Vals9.Steps.run rfl ?_ ?_
      · intro a W σ hJ pre K hK
        have e62 := pre.1 5 62 _ (by kernel_rfl) rfl rfl
        clear pre
        simp only [Array.getD_eq_getD_getElem?, List.getElem?_toArray, List.getElem?_cons_zero, List.getElem?_cons_succ, Option.getD_some] at e62
        go_simp
        exact hK _ hJ
      refine Vals9.Steps.mark rfl ?_ ?_
      · intro a W σ hJ hn pre K hK
        have hJ2 : B1 w z4 I uR (σ 9) (σ 11) W := hJ
        rw [hn] at hJ2
        go_simp
        exact hK _ _ (hJ2.mk1 hA)
      refine Vals9.Steps.run rfl ?_ ?_
      · intro a W σ hJ pre K hK
        have e68 := pre.1 6 68 _ (by kernel_rfl) rfl rfl
        clear pre
        simp only [Array.getD_eq_getD_getElem?, List.getElem?_toArray, List.getElem?_cons_zero, List.getElem?_cons_succ, Option.getD_some] at e68
        go_simp
        exact hK _ hJ
      refine Vals9.Steps.mark rfl ?_ ?_
      · intro a W σ hJ hn pre K hK
        obtain ⟨v12, s12, e12⟩ := pre.2.1 9 (by kernel_rfl) rfl
        replace e12 : a.tmps.getD 12 undef = v12 := e12 12 rfl
        have e69 := pre.1 7 69 _ (by kernel_rfl) rfl rfl
        simp only [Array.getD_eq_getD_getElem?, List.getElem?_toArray, List.getElem?_cons_zero, List.getElem?_cons_succ, Option.getD_some] at e12 e69
        have hJ2 : B1 w z4 I uR (σ 9) (σ 11) W := hJ
        rw [hn, s12] at hJ2
        obtain ⟨g7, hv7, hg7, ⟨-, hB⟩ | ⟨q, -⟩⟩ := hJ2.nw _ rfl
        · subst hv7
          refine wp_store_row 41 _ _ rfl g7 (fV uR) (by simpa [Act.eval] using e12) (by simpa [Act.eval] using e69) 41 _ hB (by kernel_rfl) rfl (by simp [Value.oneCell']) ?_
          have h2 := hJ2.put hw4 hA hg7 hB undef
          rw [← s12] at h2
          exact hK undef _ h2
        · exact absurd rfl q
      refine Vals9.Steps.run rfl ?_ ?_
      · intro a W σ hJ pre K hK
        have e70 := pre.1 8 70 _ (by kernel_rfl) rfl rfl
        clear pre
        simp only [Array.getD_eq_getD_getElem?, List.getElem?_toArray, List.getElem?_cons_zero, List.getElem?_cons_succ, Option.getD_some] at e70
        go_simp
        exact hK _ hJ
      exact Vals9.Steps.nil
    case hfin =>
    rintro X σ hJ
    simp only [Vals9.All]
    intro v12 hv12 v11 hv11
    have hJ2 : B1 w z4 I uR (σ 9) (σ 11) X := hJ
    rw [hv11] at hJ2
    obtain ⟨g12, rfl, hg12, ⟨q, -⟩ | ⟨-, hB⟩⟩ := hJ2.nw _ hv12
    · cases q
    have hs6 := hJ2.sn
    have HI6 := Lib.hid (hIo X hJ2.inv)
    have HR6 := Lib.hid hB
    clear hJ hJ2 hv12 hv11 hB hs4 hI4 hA hIo hzz hw4 hg12 I z4
    simp only [Vals.putAll, List.setIfInBounds_toArray, List.set_cons_zero, List.set_cons_succ]
    go_wp2_with fail
    obtain ⟨z6, hz6⟩ : ∃ z, X.heap.size = z := ⟨_, rfl⟩
    obtain ⟨I, hI⟩ : ∃ I : Unit → World → Prop, I = fun _ X => ((Blk X w.heap.size 25 (gV P lo hi) ∧ Blk X (w.heap.size + 1) 38 (lV F pa fa S to)) ∧ Blk X kM 41 (fV uM)) ∧ Blk X g12 41 (fV uR) := ⟨_, rfl⟩
    have hA : AllFrom z6 I := by
      rw [hI]
      have b1 := HI6.out.1.1.lt
      have b2 := HI6.out.1.2.lt
      have b3 := HI6.out.2.lt
      have b4 := HR6.out.lt
      exact (((AllFrom.blk (by omega) _ _).and (AllFrom.blk (by omega) _ _)).and (AllFrom.blk (by omega) _ _)).and (AllFrom.blk (by omega) _ _)
    have hw6 : w.heap.size ≤ z6 := by rw [← hz6]; exact hs6.2
    have hI6 : I () X := by rw [hI]; exact ⟨HI6.out, HR6.out⟩
    have hIo : ∀ X, I () X → ((Blk X w.heap.size 25 (gV P lo hi) ∧ Blk X (w.heap.size + 1) 38 (lV F pa fa S to)) ∧ Blk X kM 41 (fV uM)) ∧ Blk X g12 41 (fV uR) := fun X h => by rw [hI] at h; exact h
    clear hI HI6 HR6
    have hzz : z6 ≤ X.heap.size := Nat.le_of_eq hz6.symm
    clear hz6
    try dsimp only [Act.put]
    refine Vals9.region (fun σ X => J6 w z6 I (ip (ca, cb)) (σ 9) (σ 10) (σ 11) (σ 12) X) [some 72, some 73, some 74, some 75, some 76, some 71, some 77, some 78, some 79, some 14, some 15, none, none, some 16] [.is (.agg (gV P lo hi)), .is (.int .i64 (d : Nat)), .is (.agg (gV P d d)), .is (.agg (lV F pa fa S to)), .is (.tuple #[.agg (fV (ip (ca, cb))), .agg (fV (ip (ca, cb))), .int .i64 0]), .is (.tuple #[.agg (fV (ip (ca, cb))), .agg (fV (ip (ca, cb))), .int .i64 0]), .is (.agg (fV (ip (ca, cb)))), .is (.agg (fV (ip (ca, cb)))), .is (.int .i64 0), .any, .any, .any, .any, .is (.int .i64 0)] (by kernel_rfl) (by kernel_rfl) (by kernel_rfl) (by kernel_rfl) (by kernel_rfl) (by kernel_rfl) (⟨B1.start hzz hs6.drew (hA.keep hI6 (Below.refl _ _).drew), B1.start hzz hs6.drew (hA.keep hI6 (Below.refl _ _).drew), fun v v1 hv => by cases hv⟩) ?hsteps ?hfin
    case hsteps =>
      refine Vals9.Steps.run rfl ?_ ?_
      · intro a W σ hJ pre K hK
        have e3 := pre.2.2 3 _ (by kernel_rfl) rfl
        clear pre
        simp only [Array.getD_eq_getD_getElem?, List.getElem?_toArray, List.getElem?_cons_zero, List.getElem?_cons_succ, Option.getD_some] at e3
        have hS9 := hJ
        have hW9 : J6 w z6 I (ip (ca, cb)) (σ 9) (σ 10) (σ 11) (σ 12) W := hS9
        obtain ⟨⟨⟨q1, q2⟩, q3⟩, q4⟩ := hIo W hW9.a.inv
        obtain ⟨c0, c1, c2⟩ := q1.gcells
        obtain ⟨d0, d1, d2, d3, d4⟩ := q2.lcells
        go_simp
        exact hK _ hJ
      refine Vals9.Steps.run rfl ?_ ?_
      · intro a W σ hJ pre K hK
        have e10 := pre.2.2 10 _ (by kernel_rfl) rfl
        clear pre
        simp only [Array.getD_eq_getD_getElem?, List.getElem?_toArray, List.getElem?_cons_zero, List.getElem?_cons_succ, Option.getD_some] at e10
        go_simp
        exact hK _ hJ
      refine Vals9.Steps.run rfl ?_ ?_
      · intro a W σ hJ pre K hK
        have e72 := pre.1 0 72 _ (by kernel_rfl) rfl rfl
        have e73 := pre.1 1 73 _ (by kernel_rfl) rfl rfl
        clear pre
        simp only [Array.getD_eq_getD_getElem?, List.getElem?_toArray, List.getElem?_cons_zero, List.getElem?_cons_succ, Option.getD_some] at e72 e73
        go_simp
        refine (at_c _ _ _ _ _).mono ?_
        rintro e w' ⟨rfl, hb'⟩
        have hJ2 : J6 w z6 I (ip (ca, cb)) (σ 9) (σ 10) (σ 11) (σ 12) W := hJ
        exact hK _ ⟨hJ2.a.keep hA hb', hJ2.b.keep hA hb', hJ2.ne⟩
      refine Vals9.Steps.run rfl ?_ ?_
      · intro a W σ hJ pre K hK
        have e4 := pre.2.2 4 _ (by kernel_rfl) rfl
        clear pre
        simp only [Array.getD_eq_getD_getElem?, List.getElem?_toArray, List.getElem?_cons_zero, List.getElem?_cons_succ, Option.getD_some] at e4
        have hS9 := hJ
        have hW9 : J6 w z6 I (ip (ca, cb)) (σ 9) (σ 10) (σ 11) (σ 12) W := hS9
        obtain ⟨⟨⟨q1, q2⟩, q3⟩, q4⟩ := hIo W hW9.a.inv
        obtain ⟨c0, c1, c2⟩ := q1.gcells
        obtain ⟨d0, d1, d2, d3, d4⟩ := q2.lcells
        go_simp
        exact hK _ hJ
      refine Vals9.Steps.run rfl ?_ ?_
      · intro a W σ hJ pre K hK
        have e74 := pre.1 2 74 _ (by kernel_rfl) rfl rfl
        have e75 := pre.1 3 75 _ (by kernel_rfl) rfl rfl
        clear pre
        simp only [Array.getD_eq_getD_getElem?, List.getElem?_toArray, List.getElem?_cons_zero, List.getElem?_cons_succ, Option.getD_some] at e74 e75
        go_simp
        refine (HPA.out _).mono ?_
        rintro e w' ⟨rfl, hb'⟩
        have hJ2 : J6 w z6 I (ip (ca, cb)) (σ 9) (σ 10) (σ 11) (σ 12) W := hJ
        exact hK _ ⟨hJ2.a.keep hA hb', hJ2.b.keep hA hb', hJ2.ne⟩
      refine Vals9.Steps.run rfl ?_ ?_
      · intro a W σ hJ pre K hK
        have e76 := pre.1 4 76 _ (by kernel_rfl) rfl rfl
        clear pre
        simp only [Array.getD_eq_getD_getElem?, List.getElem?_toArray, List.getElem?_cons_zero, List.getElem?_cons_succ, Option.getD_some] at e76
        go_simp
        exact hK _ hJ
      refine Vals9.Steps.run rfl ?_ ?_
      · intro a W σ hJ pre K hK
        have e71 := pre.1 5 71 _ (by kernel_rfl) rfl rfl
        clear pre
        simp only [Array.getD_eq_getD_getElem?, List.getElem?_toArray, List.getElem?_cons_zero, List.getElem?_cons_succ, Option.getD_some] at e71
        go_simp
        exact hK _ hJ
      refine Vals9.Steps.run rfl ?_ ?_
      · intro a W σ hJ pre K hK
        have e71 := pre.1 5 71 _ (by kernel_rfl) rfl rfl
        clear pre
        simp only [Array.getD_eq_getD_getElem?, List.getElem?_toArray, List.getElem?_cons_zero, List.getElem?_cons_succ, Option.getD_some] at e71
        go_simp
        exact hK _ hJ
      refine Vals9.Steps.run rfl ?_ ?_
      · intro a W σ hJ pre K hK
        have e71 := pre.1 5 71 _ (by kernel_rfl) rfl rfl
        clear pre
        simp only [Array.getD_eq_getD_getElem?, List.getElem?_toArray, List.getElem?_cons_zero, List.getElem?_cons_succ, Option.getD_some] at e71
        go_simp
        exact hK _ hJ
      refine Vals9.Steps.mark rfl ?_ ?_
      · intro a W σ hJ hn pre K hK
        have hJ2 : J6 w z6 I (ip (ca, cb)) (σ 9) (σ 10) (σ 11) (σ 12) W := hJ
        rw [hn] at hJ2
        have hb9 : Below W.heap.size W (W.alloc (.cells (fV (0, 0)) 41)) := (Below.refl _ _).alloc (Nat.le_refl _) _
        have hfr := hJ2.b.fresh
        go_simp
        exact hK _ _ ⟨hJ2.a.mk1 hA, hJ2.b.keep hA hb9, fun v v1 h1 h2 e => hfr v1 h2 (by rw [← e]; exact (Option.some.inj h1).symm)⟩
      refine Vals9.Steps.mark rfl ?_ ?_
      · intro a W σ hJ hn pre K hK
        have hJ2 : J6 w z6 I (ip (ca, cb)) (σ 9) (σ 10) (σ 11) (σ 12) W := hJ
        rw [hn] at hJ2
        have hb9 : Below W.heap.size W (W.alloc (.cells (fV (0, 0)) 41)) := (Below.refl _ _).alloc (Nat.le_refl _) _
        have hfr := hJ2.a.fresh
        go_simp
        exact hK _ _ ⟨hJ2.a.keep hA hb9, hJ2.b.mk1 hA, fun v v1 h1 h2 e => hfr v h1 (by rw [e]; exact (Option.some.inj h2).symm)⟩
      refine Vals9.Steps.mark rfl ?_ ?_
      · intro a W σ hJ hn pre K hK
        obtain ⟨v14, s14, e14⟩ := pre.2.1 9 (by kernel_rfl) rfl
        replace e14 : a.tmps.getD 14 undef = v14 := e14 14 rfl
        have e77 := pre.1 6 77 _ (by kernel_rfl) rfl rfl
        simp only [Array.getD_eq_getD_getElem?, List.getElem?_toArray, List.getElem?_cons_zero, List.getElem?_cons_succ, Option.getD_some] at e14 e77
        have hJ2 : J6 w z6 I (ip (ca, cb)) (σ 9) (σ 10) (σ 11) (σ 12) W := hJ
        rw [hn, s14] at hJ2
        obtain ⟨g7, hv7, hg7, ⟨-, hB⟩ | ⟨q, -⟩⟩ := hJ2.a.nw _ rfl
        · subst hv7
          refine wp_store_row 41 _ _ rfl g7 (fV (ip (ca, cb))) (by simpa [Act.eval] using e14) (by simpa [Act.eval] using e77) 41 _ hB (by kernel_rfl) rfl (by simp [Value.oneCell']) ?_
          have h2 := hJ2.a.put hw6 hA hg7 hB undef
          have h3 := hJ2.b.far hw6 hA hg7 (fun v hv e => hJ2.ne _ v rfl hv e.symm) (fV (ip (ca, cb)))
          have h4 := hJ2.ne
          rw [← s14] at h2 h4
          exact hK undef _ ⟨h2, h3, h4⟩
        · exact absurd rfl q
      refine Vals9.Steps.mark rfl ?_ ?_
      · intro a W σ hJ hn pre K hK
        obtain ⟨v15, s15, e15⟩ := pre.2.1 10 (by kernel_rfl) rfl
        replace e15 : a.tmps.getD 15 undef = v15 := e15 15 rfl
        have e78 := pre.1 7 78 _ (by kernel_rfl) rfl rfl
        simp only [Array.getD_eq_getD_getElem?, List.getElem?_toArray, List.getElem?_cons_zero, List.getElem?_cons_succ, Option.getD_some] at e15 e78
        have hJ2 : J6 w z6 I (ip (ca, cb)) (σ 9) (σ 10) (σ 11) (σ 12) W := hJ
        rw [hn, s15] at hJ2
        obtain ⟨g7, hv7, hg7, ⟨-, hB⟩ | ⟨q, -⟩⟩ := hJ2.b.nw _ rfl
        · subst hv7
          refine wp_store_row 41 _ _ rfl g7 (fV (ip (ca, cb))) (by simpa [Act.eval] using e15) (by simpa [Act.eval] using e78) 41 _ hB (by kernel_rfl) rfl (by simp [Value.oneCell']) ?_
          have h2 := hJ2.b.put hw6 hA hg7 hB undef
          have h3 := hJ2.a.far hw6 hA hg7 (fun v hv e => hJ2.ne v _ hv rfl e) (fV (ip (ca, cb)))
          have h4 := hJ2.ne
          rw [← s15] at h2 h4
          exact hK undef _ ⟨h3, h2, h4⟩
        · exact absurd rfl q
      refine Vals9.Steps.run rfl ?_ ?_
      · intro a W σ hJ pre K hK
        have e79 := pre.1 8 79 _ (by kernel_rfl) rfl rfl
        clear pre
        simp only [Array.getD_eq_getD_getElem?, List.getElem?_toArray, List.getElem?_cons_zero, List.getElem?_cons_succ, Option.getD_some] at e79
        go_simp
        exact hK _ hJ
      exact Vals9.Steps.nil
    case hfin =>
    rintro Y σ hJ
    simp only [Vals9.All]
    intro v14 hv14 v15 hv15 v111 hv111 v112 hv112
    have hJ2 : J6 w z6 I (ip (ca, cb)) (σ 9) (σ 10) (σ 11) (σ 12) Y := hJ
    rw [hv112] at hJ2
    obtain ⟨g14, rfl, -, -⟩ := hJ2.a.nw _ hv14
    obtain ⟨g15, rfl, hg15, ⟨q, -⟩ | ⟨-, hB⟩⟩ := hJ2.b.nw _ hv15
    · cases q
    have hs7 := hJ2.a.sn
    have HI7 := Lib.hid (hIo Y hJ2.a.inv)
    have HP7 := Lib.hid hB
    clear hJ hJ2 hv14 hv15 hv111 hv112 hB hs6 hI6 hA hIo hzz hw6 hg15 I z6
    simp only [Vals.putAll, List.setIfInBounds_toArray, List.set_cons_zero, List.set_cons_succ]
    obtain ⟨c0, c1, c2⟩ := HI7.out.1.1.1.gcells
    obtain ⟨r0, r1⟩ := HI7.out.2.fcells
    go_wp2_with fail
    refine (HWO.out _).mono ?_
    rintro e v8 ⟨rfl, hb⟩
    replace hs7 := hs7.keep hb
    have HR8 := Lib.hid (HI7.out.2.keep hb)
    have HM8 := Lib.hid (HI7.out.1.2.keep hb)
    have HP8 := Lib.hid (HP7.out.keep hb)
    clear hb c0 c1 c2 r0 r1 HI7 HP7
    obtain ⟨r0, r1⟩ := HR8.out.fcells
    obtain ⟨m0, m1⟩ := HM8.out.fcells
    go_wp2_with fail
    refine (HLA.out _).mono ?_
    rintro e v9 ⟨rfl, hb⟩
    replace hs7 := hs7.keep hb
    replace HR8 := Lib.hid (HR8.out.keep hb)
    replace HM8 := Lib.hid (HM8.out.keep hb)
    replace HP8 := Lib.hid (HP8.out.keep hb)
    clear hb r0 r1 m0 m1 f1 f2
    obtain ⟨r0, r1⟩ := HR8.out.fcells
    obtain ⟨m0, m1⟩ := HM8.out.fcells
    rcases hcase with ⟨e1, e2⟩ | e1 | ⟨e1, e2⟩
    · subst e1
      go_wp2_with fail
      clear r0 r1 m0 m1
      refine Vals6.regionAll (fun X => Blk X g12 41 (fV uR) ∧ Blk X g15 41 (fV (ip (ca, cb))) ∧ Since w X) [some 127, some 128, some 129, some 130, some 131, some 132, some 133, some 134, some 135, some 136, some 137, some 138, some 139] [.is ?_, .is (.int .i64 (ca : Nat)), .is (.int .i64 (d : Nat)), .is (.int .i64 (cd : Nat)), .is ?_, .is (.int .i64 (cb : Nat)), .is (.agg (fV ((cd : Int), (cb : Int)))), .is (.agg (fV uR)), .is (.bool false), .is (.bool true), .is (.bool true), .is (.bool true), .is (.bool true)] (by kernel_rfl) rfl rfl (by kernel_rfl) (by kernel_rfl) (by kernel_rfl) (by kernel_rfl) (by kernel_rfl) (by kernel_rfl) rfl (⟨HR8.out.drew, HP8.out.drew, hs7.drew⟩) ?hsteps ?hend
      case hsteps =>
        refine Vals5.Steps.run rfl (Vals5.Stable.is _) ?_ ?_
        · intro a W hS pre old K hK
          have e15 := old 15 _ (by kernel_rfl) rfl
          clear pre old
          simp only [Vals5.fits, Array.getD_eq_getD_getElem?, List.getElem?_toArray, List.getElem?_cons_zero, List.getElem?_cons_succ, Option.getD_some] at e15
          go_simp
          refine hK _ _ hS (Below.refl _ _) ?_
          exact fits_is _ _
        refine Vals5.Steps.run rfl (Vals5.Stable.is _) ?_ ?_
        · intro a W hS pre old K hK
          have e127 := pre 0 127 _ (by kernel_rfl) rfl rfl
          clear pre old
          simp only [Vals5.fits, Array.getD_eq_getD_getElem?, List.getElem?_toArray, List.getElem?_cons_zero, List.getElem?_cons_succ, Option.getD_some] at e127
          have hS9 := hS
          obtain ⟨q0, q1, q2⟩ := hS9
          obtain ⟨r0, r1⟩ := q0.fcells
          obtain ⟨m0, m1⟩ := q1.fcells
          go_simp
          refine hK _ _ hS (Below.refl _ _) ?_
          exact fits_is _ _
        refine Vals5.Steps.run rfl (Vals5.Stable.is _) ?_ ?_
        · intro a W hS pre old K hK
          have e10 := old 10 _ (by kernel_rfl) rfl
          clear pre old
          simp only [Vals5.fits, Array.getD_eq_getD_getElem?, List.getElem?_toArray, List.getElem?_cons_zero, List.getElem?_cons_succ, Option.getD_some] at e10
          go_simp
          refine hK _ _ hS (Below.refl _ _) ?_
          exact fits_is _ _
        refine Vals5.Steps.run rfl (Vals5.Stable.is _) ?_ ?_
        · intro a W hS pre old K hK
          have e128 := pre 1 128 _ (by kernel_rfl) rfl rfl
          have e129 := pre 2 129 _ (by kernel_rfl) rfl rfl
          clear pre old
          simp only [Vals5.fits, Array.getD_eq_getD_getElem?, List.getElem?_toArray, List.getElem?_cons_zero, List.getElem?_cons_succ, Option.getD_some] at e128 e129
          go_simp
          refine hK _ _ hS (Below.refl _ _) ?_
          exact fits_is _ _
        refine Vals5.Steps.run rfl (Vals5.Stable.is _) ?_ ?_
        · intro a W hS pre old K hK
          have e15 := old 15 _ (by kernel_rfl) rfl
          clear pre old
          simp only [Vals5.fits, Array.getD_eq_getD_getElem?, List.getElem?_toArray, List.getElem?_cons_zero, List.getElem?_cons_succ, Option.getD_some] at e15
          go_simp
          refine hK _ _ hS (Below.refl _ _) ?_
          exact fits_is _ _
        refine Vals5.Steps.run rfl (Vals5.Stable.is _) ?_ ?_
        · intro a W hS pre old K hK
          have e131 := pre 4 131 _ (by kernel_rfl) rfl rfl
          clear pre old
          simp only [Vals5.fits, Array.getD_eq_getD_getElem?, List.getElem?_toArray, List.getElem?_cons_zero, List.getElem?_cons_succ, Option.getD_some] at e131
          have hS9 := hS
          obtain ⟨q0, q1, q2⟩ := hS9
          obtain ⟨r0, r1⟩ := q0.fcells
          obtain ⟨m0, m1⟩ := q1.fcells
          go_simp
          refine hK _ _ hS (Below.refl _ _) ?_
          exact fits_is _ _
        refine Vals5.Steps.run rfl (Vals5.Stable.is _) ?_ ?_
        · intro a W hS pre old K hK
          have e130 := pre 3 130 _ (by kernel_rfl) rfl rfl
          have e132 := pre 5 132 _ (by kernel_rfl) rfl rfl
          clear pre old
          simp only [Vals5.fits, Array.getD_eq_getD_getElem?, List.getElem?_toArray, List.getElem?_cons_zero, List.getElem?_cons_succ, Option.getD_some] at e130 e132
          go_simp
          refine (share_c _ _ _).mono ?_
          rintro e w' ⟨rfl, hb'⟩
          obtain ⟨q0, q1, q2⟩ := hS
          refine hK _ _ ⟨q0.keep hb', q1.keep hb', q2.keep hb'⟩ hb' ?_
          exact fits_is _ _
        refine Vals5.Steps.run rfl (Vals5.Stable.is _) ?_ ?_
        · intro a W hS pre old K hK
          have e12 := old 12 _ (by kernel_rfl) rfl
          clear pre old
          simp only [Vals5.fits, Array.getD_eq_getD_getElem?, List.getElem?_toArray, List.getElem?_cons_zero, List.getElem?_cons_succ, Option.getD_some] at e12
          have hS9 := hS
          obtain ⟨q0, q1, q2⟩ := hS9
          obtain ⟨r0, r1⟩ := q0.fcells
          obtain ⟨m0, m1⟩ := q1.fcells
          go_simp
          refine hK _ _ hS (Below.refl _ _) ?_
          exact fits_is _ _
        refine Vals5.Steps.run rfl (Vals5.Stable.is _) ?_ ?_
        · intro a W hS pre old K hK
          have e133 := pre 6 133 _ (by kernel_rfl) rfl rfl
          have e134 := pre 7 134 _ (by kernel_rfl) rfl rfl
          clear pre old
          simp only [Vals5.fits, Array.getD_eq_getD_getElem?, List.getElem?_toArray, List.getElem?_cons_zero, List.getElem?_cons_succ, Option.getD_some] at e133 e134
          go_simp
          refine (HLB.out _).mono ?_
          rintro e w' ⟨rfl, hb'⟩
          obtain ⟨q0, q1, q2⟩ := hS
          refine hK _ _ ⟨q0.keep hb', q1.keep hb', q2.keep hb'⟩ hb' ?_
          exact fits_is _ _
        refine Vals5.Steps.run rfl (Vals5.Stable.is _) ?_ ?_
        · intro a W hS pre old K hK
          have e135 := pre 8 135 _ (by kernel_rfl) rfl rfl
          clear pre old
          simp only [Vals5.fits, Array.getD_eq_getD_getElem?, List.getElem?_toArray, List.getElem?_cons_zero, List.getElem?_cons_succ, Option.getD_some] at e135
          go_simp
          refine hK _ _ hS (Below.refl _ _) ?_
          exact fits_is _ _
        refine Vals5.Steps.run rfl (Vals5.Stable.is _) ?_ ?_
        · intro a W hS pre old K hK
          have e136 := pre 9 136 _ (by kernel_rfl) rfl rfl
          clear pre old
          simp only [Vals5.fits, Array.getD_eq_getD_getElem?, List.getElem?_toArray, List.getElem?_cons_zero, List.getElem?_cons_succ, Option.getD_some] at e136
          go_simp
          refine hK _ _ hS (Below.refl _ _) ?_
          exact fits_is _ _
        refine Vals5.Steps.run rfl (Vals5.Stable.is _) ?_ ?_
        · intro a W hS pre old K hK
          clear pre old
          go_simp
          refine (awake_c _).mono ?_
          rintro e w' ⟨rfl, hb'⟩
          obtain ⟨q0, q1, q2⟩ := hS
          refine hK _ _ ⟨q0.keep hb', q1.keep hb', q2.keep hb'⟩ hb' ?_
          exact fits_is _ _
        refine Vals5.Steps.run rfl (Vals5.Stable.is _) ?_ ?_
        · intro a W hS pre old K hK
          have e137 := pre 10 137 _ (by kernel_rfl) rfl rfl
          have e138 := pre 11 138 _ (by kernel_rfl) rfl rfl
          clear pre old
          simp only [Vals5.fits, Array.getD_eq_getD_getElem?, List.getElem?_toArray, List.getElem?_cons_zero, List.getElem?_cons_succ, Option.getD_some] at e137 e138
          go_simp
          refine hK _ _ hS (Below.refl _ _) ?_
          exact fits_is _ _
        exact Vals5.Steps.nil
      case hend =>
      rintro X ⟨-, -, hs9⟩
      simp only [Vals5.All, List.getLast_cons_cons, List.getLast_singleton]
      simp only [Vals.putAll, List.setIfInBounds_toArray, List.set_cons_zero, List.set_cons_succ]
      intro K hK
      go_simp
      refine hK _ _ ?_
      clear hK K
      go_wp2_with fail
      go_ret
      exact ⟨rfl, hs9.1⟩
    · skip
      go_wp2_with fail
      clear r0 r1 m0 m1
      refine Vals6.regionAll (fun X => Blk X g12 41 (fV uR) ∧ Blk X g15 41 (fV (ip (ca, cb))) ∧ Since w X) [some 127, some 128, some 129, some 130, some 131, some 132, some 133, some 134, some 135, some 136, some 137, some 138, some 139] [.is ?_, .is (.int .i64 (ca : Nat)), .is (.int .i64 (d : Nat)), .is (.int .i64 (cd : Nat)), .is ?_, .is (.int .i64 (cb : Nat)), .is (.agg (fV ((cd : Int), (cb : Int)))), .is (.agg (fV uR)), .is (.bool false), .is (.bool true), .is (.bool true), .is (.bool true), .is (.bool true)] (by kernel_rfl) rfl rfl (by kernel_rfl) (by kernel_rfl) (by kernel_rfl) (by kernel_rfl) (by kernel_rfl) (by kernel_rfl) rfl (⟨HR8.out.drew, HP8.out.drew, hs7.drew⟩) ?hsteps ?hend
      case hsteps =>
        refine Vals5.Steps.run rfl (Vals5.Stable.is _) ?_ ?_
        · intro a W hS pre old K hK
          have e15 := old 15 _ (by kernel_rfl) rfl
          clear pre old
          simp only [Vals5.fits, Array.getD_eq_getD_getElem?, List.getElem?_toArray, List.getElem?_cons_zero, List.getElem?_cons_succ, Option.getD_some] at e15
          go_simp
          refine hK _ _ hS (Below.refl _ _) ?_
          exact fits_is _ _
        refine Vals5.Steps.run rfl (Vals5.Stable.is _) ?_ ?_
        · intro a W hS pre old K hK
          have e127 := pre 0 127 _ (by kernel_rfl) rfl rfl
          clear pre old
          simp only [Vals5.fits, Array.getD_eq_getD_getElem?, List.getElem?_toArray, List.getElem?_cons_zero, List.getElem?_cons_succ, Option.getD_some] at e127
          have hS9 := hS
          obtain ⟨q0, q1, q2⟩ := hS9
          obtain ⟨r0, r1⟩ := q0.fcells
          obtain ⟨m0, m1⟩ := q1.fcells
          go_simp
          refine hK _ _ hS (Below.refl _ _) ?_
          exact fits_is _ _
        refine Vals5.Steps.run rfl (Vals5.Stable.is _) ?_ ?_
        · intro a W hS pre old K hK
          have e10 := old 10 _ (by kernel_rfl) rfl
          clear pre old
          simp only [Vals5.fits, Array.getD_eq_getD_getElem?, List.getElem?_toArray, List.getElem?_cons_zero, List.getElem?_cons_succ, Option.getD_some] at e10
          go_simp
          refine hK _ _ hS (Below.refl _ _) ?_
          exact fits_is _ _
        refine Vals5.Steps.run rfl (Vals5.Stable.is _) ?_ ?_
        · intro a W hS pre old K hK
          have e128 := pre 1 128 _ (by kernel_rfl) rfl rfl
          have e129 := pre 2 129 _ (by kernel_rfl) rfl rfl
          clear pre old
          simp only [Vals5.fits, Array.getD_eq_getD_getElem?, List.getElem?_toArray, List.getElem?_cons_zero, List.getElem?_cons_succ, Option.getD_some] at e128 e129
          go_simp
          refine hK _ _ hS (Below.refl _ _) ?_
          exact fits_is _ _
        refine Vals5.Steps.run rfl (Vals5.Stable.is _) ?_ ?_
        · intro a W hS pre old K hK
          have e15 := old 15 _ (by kernel_rfl) rfl
          clear pre old
          simp only [Vals5.fits, Array.getD_eq_getD_getElem?, List.getElem?_toArray, List.getElem?_cons_zero, List.getElem?_cons_succ, Option.getD_some] at e15
          go_simp
          refine hK _ _ hS (Below.refl _ _) ?_
          exact fits_is _ _
        refine Vals5.Steps.run rfl (Vals5.Stable.is _) ?_ ?_
        · intro a W hS pre old K hK
          have e131 := pre 4 131 _ (by kernel_rfl) rfl rfl
          clear pre old
          simp only [Vals5.fits, Array.getD_eq_getD_getElem?, List.getElem?_toArray, List.getElem?_cons_zero, List.getElem?_cons_succ, Option.getD_some] at e131
          have hS9 := hS
          obtain ⟨q0, q1, q2⟩ := hS9
          obtain ⟨r0, r1⟩ := q0.fcells
          obtain ⟨m0, m1⟩ := q1.fcells
          go_simp
          refine hK _ _ hS (Below.refl _ _) ?_
          exact fits_is _ _
        refine Vals5.Steps.run rfl (Vals5.Stable.is _) ?_ ?_
        · intro a W hS pre old K hK
          have e130 := pre 3 130 _ (by kernel_rfl) rfl rfl
          have e132 := pre 5 132 _ (by kernel_rfl) rfl rfl
          clear pre old
          simp only [Vals5.fits, Array.getD_eq_getD_getElem?, List.getElem?_toArray, List.getElem?_cons_zero, List.getElem?_cons_succ, Option.getD_some] at e130 e132
          go_simp
          refine (share_c _ _ _).mono ?_
          rintro e w' ⟨rfl, hb'⟩
          obtain ⟨q0, q1, q2⟩ := hS
          refine hK _ _ ⟨q0.keep hb', q1.keep hb', q2.keep hb'⟩ hb' ?_
          exact fits_is _ _
        refine Vals5.Steps.run rfl (Vals5.Stable.is _) ?_ ?_
        · intro a W hS pre old K hK
          have e12 := old 12 _ (by kernel_rfl) rfl
          clear pre old
          simp only [Vals5.fits, Array.getD_eq_getD_getElem?, List.getElem?_toArray, List.getElem?_cons_zero, List.getElem?_cons_succ, Option.getD_some] at e12
          have hS9 := hS
          obtain ⟨q0, q1, q2⟩ := hS9
          obtain ⟨r0, r1⟩ := q0.fcells
          obtain ⟨m0, m1⟩ := q1.fcells
          go_simp
          refine hK _ _ hS (Below.refl _ _) ?_
          exact fits_is _ _
        refine Vals5.Steps.run rfl (Vals5.Stable.is _) ?_ ?_
        · intro a W hS pre old K hK
          have e133 := pre 6 133 _ (by kernel_rfl) rfl rfl
          have e134 := pre 7 134 _ (by kernel_rfl) rfl rfl
          clear pre old
          simp only [Vals5.fits, Array.getD_eq_getD_getElem?, List.getElem?_toArray, List.getElem?_cons_zero, List.getElem?_cons_succ, Option.getD_some] at e133 e134
          go_simp
          refine (HLB.out _).mono ?_
          rintro e w' ⟨rfl, hb'⟩
          obtain ⟨q0, q1, q2⟩ := hS
          refine hK _ _ ⟨q0.keep hb', q1.keep hb', q2.keep hb'⟩ hb' ?_
          exact fits_is _ _
        refine Vals5.Steps.run rfl (Vals5.Stable.is _) ?_ ?_
        · intro a W hS pre old K hK
          have e135 := pre 8 135 _ (by kernel_rfl) rfl rfl
          clear pre old
          simp only [Vals5.fits, Array.getD_eq_getD_getElem?, List.getElem?_toArray, List.getElem?_cons_zero, List.getElem?_cons_succ, Option.getD_some] at e135
          go_simp
          refine hK _ _ hS (Below.refl _ _) ?_
          exact fits_is _ _
        refine Vals5.Steps.run rfl (Vals5.Stable.is _) ?_ ?_
        · intro a W hS pre old K hK
          have e136 := pre 9 136 _ (by kernel_rfl) rfl rfl
          clear pre old
          simp only [Vals5.fits, Array.getD_eq_getD_getElem?, List.getElem?_toArray, List.getElem?_cons_zero, List.getElem?_cons_succ, Option.getD_some] at e136
          go_simp
          refine hK _ _ hS (Below.refl _ _) ?_
          exact fits_is _ _
        refine Vals5.Steps.run rfl (Vals5.Stable.is _) ?_ ?_
        · intro a W hS pre old K hK
          clear pre old
          go_simp
          refine (awake_c _).mono ?_
          rintro e w' ⟨rfl, hb'⟩
          obtain ⟨q0, q1, q2⟩ := hS
          refine hK _ _ ⟨q0.keep hb', q1.keep hb', q2.keep hb'⟩ hb' ?_
          exact fits_is _ _
        refine Vals5.Steps.run rfl (Vals5.Stable.is _) ?_ ?_
        · intro a W hS pre old K hK
          have e137 := pre 10 137 _ (by kernel_rfl) rfl rfl
          have e138 := pre 11 138 _ (by kernel_rfl) rfl rfl
          clear pre old
          simp only [Vals5.fits, Array.getD_eq_getD_getElem?, List.getElem?_toArray, List.getElem?_cons_zero, List.getElem?_cons_succ, Option.getD_some] at e137 e138
          go_simp
          refine hK _ _ hS (Below.refl _ _) ?_
          exact fits_is _ _
        exact Vals5.Steps.nil
      case hend =>
      rintro X ⟨-, -, hs9⟩
      simp only [Vals5.All, List.getLast_cons_cons, List.getLast_singleton]
      simp only [Vals.putAll, List.setIfInBounds_toArray, List.set_cons_zero, List.set_cons_succ]
      intro K hK
      go_simp
      refine hK _ _ ?_
      clear hK K
      go_wp2_with fail
      go_ret
      exact ⟨rfl, hs9.1⟩
    · obtain ⟨ua, ub⟩ := uR
      obtain ⟨va, vb⟩ := uM
      dsimp only at e1 e2
      subst e1
      go_wp2_with fail
      clear r0 r1 m0 m1
      obtain ⟨uR, hu⟩ : ∃ u, (ua, ub) = u := ⟨_, rfl⟩
      rw [hu] at HR8 HLB
      clear hu
      refine Vals6.regionAll (fun X => Blk X g12 41 (fV uR) ∧ Blk X g15 41 (fV (ip (ca, cb))) ∧ Since w X) [some 127, some 128, some 129, some 130, some 131, some 132, some 133, some 134, some 135, some 136, some 137, some 138, some 139] [.is ?_, .is (.int .i64 (ca : Nat)), .is (.int .i64 (d : Nat)), .is (.int .i64 (cd : Nat)), .is ?_, .is (.int .i64 (cb : Nat)), .is (.agg (fV ((cd : Int), (cb : Int)))), .is (.agg (fV uR)), .is (.bool false), .is (.bool true), .is (.bool true), .is (.bool true), .is (.bool true)] (by kernel_rfl) rfl rfl (by kernel_rfl) (by kernel_rfl) (by kernel_rfl) (by kernel_rfl) (by kernel_rfl) (by kernel_rfl) rfl (⟨HR8.out.drew, HP8.out.drew, hs7.drew⟩) ?hsteps ?hend
      case hsteps =>
        refine Vals5.Steps.run rfl (Vals5.Stable.is _) ?_ ?_
        · intro a W hS pre old K hK
          have e15 := old 15 _ (by kernel_rfl) rfl
          clear pre old
          simp only [Vals5.fits, Array.getD_eq_getD_getElem?, List.getElem?_toArray, List.getElem?_cons_zero, List.getElem?_cons_succ, Option.getD_some] at e15
          go_simp
          refine hK _ _ hS (Below.refl _ _) ?_
          exact fits_is _ _
        refine Vals5.Steps.run rfl (Vals5.Stable.is _) ?_ ?_
        · intro a W hS pre old K hK
          have e127 := pre 0 127 _ (by kernel_rfl) rfl rfl
          clear pre old
          simp only [Vals5.fits, Array.getD_eq_getD_getElem?, List.getElem?_toArray, List.getElem?_cons_zero, List.getElem?_cons_succ, Option.getD_some] at e127
          have hS9 := hS
          obtain ⟨q0, q1, q2⟩ := hS9
          obtain ⟨r0, r1⟩ := q0.fcells
          obtain ⟨m0, m1⟩ := q1.fcells
          go_simp
          refine hK _ _ hS (Below.refl _ _) ?_
          exact fits_is _ _
        refine Vals5.Steps.run rfl (Vals5.Stable.is _) ?_ ?_
        · intro a W hS pre old K hK
          have e10 := old 10 _ (by kernel_rfl) rfl
          clear pre old
          simp only [Vals5.fits, Array.getD_eq_getD_getElem?, List.getElem?_toArray, List.getElem?_cons_zero, List.getElem?_cons_succ, Option.getD_some] at e10
          go_simp
          refine hK _ _ hS (Below.refl _ _) ?_
          exact fits_is _ _
        refine Vals5.Steps.run rfl (Vals5.Stable.is _) ?_ ?_
        · intro a W hS pre old K hK
          have e128 := pre 1 128 _ (by kernel_rfl) rfl rfl
          have e129 := pre 2 129 _ (by kernel_rfl) rfl rfl
          clear pre old
          simp only [Vals5.fits, Array.getD_eq_getD_getElem?, List.getElem?_toArray, List.getElem?_cons_zero, List.getElem?_cons_succ, Option.getD_some] at e128 e129
          go_simp
          refine hK _ _ hS (Below.refl _ _) ?_
          exact fits_is _ _
        refine Vals5.Steps.run rfl (Vals5.Stable.is _) ?_ ?_
        · intro a W hS pre old K hK
          have e15 := old 15 _ (by kernel_rfl) rfl
          clear pre old
          simp only [Vals5.fits, Array.getD_eq_getD_getElem?, List.getElem?_toArray, List.getElem?_cons_zero, List.getElem?_cons_succ, Option.getD_some] at e15
          go_simp
          refine hK _ _ hS (Below.refl _ _) ?_
          exact fits_is _ _
        refine Vals5.Steps.run rfl (Vals5.Stable.is _) ?_ ?_
        · intro a W hS pre old K hK
          have e131 := pre 4 131 _ (by kernel_rfl) rfl rfl
          clear pre old
          simp only [Vals5.fits, Array.getD_eq_getD_getElem?, List.getElem?_toArray, List.getElem?_cons_zero, List.getElem?_cons_succ, Option.getD_some] at e131
          have hS9 := hS
          obtain ⟨q0, q1, q2⟩ := hS9
          obtain ⟨r0, r1⟩ := q0.fcells
          obtain ⟨m0, m1⟩ := q1.fcells
          go_simp
          refine hK _ _ hS (Below.refl _ _) ?_
          exact fits_is _ _
        refine Vals5.Steps.run rfl (Vals5.Stable.is _) ?_ ?_
        · intro a W hS pre old K hK
          have e130 := pre 3 130 _ (by kernel_rfl) rfl rfl
          have e132 := pre 5 132 _ (by kernel_rfl) rfl rfl
          clear pre old
          simp only [Vals5.fits, Array.getD_eq_getD_getElem?, List.getElem?_toArray, List.getElem?_cons_zero, List.getElem?_cons_succ, Option.getD_some] at e130 e132
          go_simp
          refine (share_c _ _ _).mono ?_
          rintro e w' ⟨rfl, hb'⟩
          obtain ⟨q0, q1, q2⟩ := hS
          refine hK _ _ ⟨q0.keep hb', q1.keep hb', q2.keep hb'⟩ hb' ?_
          exact fits_is _ _
        refine Vals5.Steps.run rfl (Vals5.Stable.is _) ?_ ?_
        · intro a W hS pre old K hK
          have e12 := old 12 _ (by kernel_rfl) rfl
          clear pre old
          simp only [Vals5.fits, Array.getD_eq_getD_getElem?, List.getElem?_toArray, List.getElem?_cons_zero, List.getElem?_cons_succ, Option.getD_some] at e12
          have hS9 := hS
          obtain ⟨q0, q1, q2⟩ := hS9
          obtain ⟨r0, r1⟩ := q0.fcells
          obtain ⟨m0, m1⟩ := q1.fcells
          go_simp
          refine hK _ _ hS (Below.refl _ _) ?_
          exact fits_is _ _
        refine Vals5.Steps.run rfl (Vals5.Stable.is _) ?_ ?_
        · intro a W hS pre old K hK
          have e133 := pre 6 133 _ (by kernel_rfl) rfl rfl
          have e134 := pre 7 134 _ (by kernel_rfl) rfl rfl
          clear pre old
          simp only [Vals5.fits, Array.getD_eq_getD_getElem?, List.getElem?_toArray, List.getElem?_cons_zero, List.getElem?_cons_succ, Option.getD_some] at e133 e134
          go_simp
          refine (HLB.out _).mono ?_
          rintro e w' ⟨rfl, hb'⟩
          obtain ⟨q0, q1, q2⟩ := hS
          refine hK _ _ ⟨q0.keep hb', q1.keep hb', q2.keep hb'⟩ hb' ?_
          exact fits_is _ _
        refine Vals5.Steps.run rfl (Vals5.Stable.is _) ?_ ?_
        · intro a W hS pre old K hK
          have e135 := pre 8 135 _ (by kernel_rfl) rfl rfl
          clear pre old
          simp only [Vals5.fits, Array.getD_eq_getD_getElem?, List.getElem?_toArray, List.getElem?_cons_zero, List.getElem?_cons_succ, Option.getD_some] at e135
          go_simp
          refine hK _ _ hS (Below.refl _ _) ?_
          exact fits_is _ _
        refine Vals5.Steps.run rfl (Vals5.Stable.is _) ?_ ?_
        · intro a W hS pre old K hK
          have e136 := pre 9 136 _ (by kernel_rfl) rfl rfl
          clear pre old
          simp only [Vals5.fits, Array.getD_eq_getD_getElem?, List.getElem?_toArray, List.getElem?_cons_zero, List.getElem?_cons_succ, Option.getD_some] at e136
          go_simp
          refine hK _ _ hS (Below.refl _ _) ?_
          exact fits_is _ _
        refine Vals5.Steps.run rfl (Vals5.Stable.is _) ?_ ?_
        · intro a W hS pre old K hK
          clear pre old
          go_simp
          refine (awake_c _).mono ?_
          rintro e w' ⟨rfl, hb'⟩
          obtain ⟨q0, q1, q2⟩ := hS
          refine hK _ _ ⟨q0.keep hb', q1.keep hb', q2.keep hb'⟩ hb' ?_
          exact fits_is _ _
        refine Vals5.Steps.run rfl (Vals5.Stable.is _) ?_ ?_
        · intro a W hS pre old K hK
          have e137 := pre 10 137 _ (by kernel_rfl) rfl rfl
          have e138 := pre 11 138 _ (by kernel_rfl) rfl rfl
          clear pre old
          simp only [Vals5.fits, Array.getD_eq_getD_getElem?, List.getElem?_toArray, List.getElem?_cons_zero, List.getElem?_cons_succ, Option.getD_some] at e137 e138
          go_simp
          refine hK _ _ hS (Below.refl _ _) ?_
          exact fits_is _ _
        exact Vals5.Steps.nil
      case hend =>
      rintro X ⟨-, -, hs9⟩
      simp only [Vals5.All, List.getLast_cons_cons, List.getLast_singleton]
      simp only [Vals.putAll, List.setIfInBounds_toArray, List.set_cons_zero, List.set_cons_succ]
      intro K hK
      go_simp
      refine hK _ _ ?_
      clear hK K
      go_wp2_with fail
      go_ret
      exact ⟨rfl, hs9.1⟩
  · have hwo : worA P lo hi fi pa fa se to = (0, (0, 0), chkP P lo hi fi pa fa se to) := by unfold worA; rw [if_neg hp]
    have HW : Hid (∀ W, Calls Try.prog 29 #[.agg (gV P lo hi), .agg (lV fi pa fa se to)] W fun e w' => e = .returned (.tuple #[.int .i64 0, .agg (fV (0, 0)), .int .i64 (chkP P lo hi fi pa fa se to)]) ∧ Below W.heap.size W w') := fun W => by have := Worst_c P lo hi fi pa fa se to W; rw [hwo] at this; exact this
    have HRP : Hid (∀ W, Calls Try.prog 26 #[.agg (gV P lo hi), .agg (lV fi pa fa se to)] W fun e w' => e = .returned (.int .i64 (chkP P lo hi fi pa fa se to)) ∧ Below W.heap.size W w') := fun W => rPlan_c P lo hi fi pa fa se to W
    obtain ⟨E, hE⟩ : ∃ E, chkP P lo hi fi pa fa se to = E := ⟨_, rfl⟩
    rw [hE] at HW HRP hp
    have hE' : (E != 0) = true := by simpa using hp
    clear hwo hE
    go_enter Try.func16, Try.ntmps16
    go_wp2_with fail
    refine (HW.out _).mono ?_
    rintro e v1 ⟨rfl, hb⟩
    replace hs := hs.keep hb
    replace HG := Lib.hid (HG.out.keep hb)
    replace HL := Lib.hid (HL.out.keep hb)
    have HM := Lib.hid (Blk.new v1 41 (fV (0, 0)))
    have hq : Below v1.heap.size v1 (v1.alloc (.cells (fV (0, 0)) 41)) := (Below.refl _ _).alloc (Nat.le_refl _) _
    replace hs := hs.keep hq
    replace HG := Lib.hid (HG.out.keep hq)
    replace HL := Lib.hid (HL.out.keep hq)
    clear hb c0 c1 c2 d0 d1 d2 d3 d4
    obtain ⟨c0, c1, c2⟩ := HG.out.gcells
    go_wp2_with fail
    refine (rCheck_c P lo hi _).mono ?_
    rintro e v2 ⟨rfl, hb⟩
    replace hs := hs.keep hb
    replace HG := Lib.hid (HG.out.keep hb)
    replace HL := Lib.hid (HL.out.keep hb)
    replace HM := Lib.hid (HM.out.keep hb)
    clear hb hq c0 c1 c2
    by_cases hc : chkE P lo hi = 0
    · rw [hc]
      obtain ⟨c0, c1, c2⟩ := HG.out.gcells
      obtain ⟨d0, d1, d2, d3, d4⟩ := HL.out.lcells
      clear hc
      go_wp2_with fail
      refine (HRP.out _).mono ?_
      rintro e v3 ⟨rfl, hb⟩
      replace hs := hs.keep hb
      replace HM := Lib.hid (HM.out.keep hb)
      clear hb c0 c1 c2 d0 d1 d2 d3 d4
      obtain ⟨m0, m1⟩ := Blk.fcells (s := (0, 0)) HM.out
      go_wp2_with fail
      refine (awake_c _).mono ?_
      rintro e v4 ⟨rfl, hb⟩
      replace hs := hs.keep hb
      clear m0 m1 hb
      go_wp2_with fail
      go_ret
      exact ⟨rfl, hs.1⟩
    · have hc' : (chkE P lo hi != 0) = true := by simpa using hc
      obtain ⟨m0, m1⟩ := Blk.fcells (s := (0, 0)) HM.out
      clear hc
      go_wp2_with fail
      refine (awake_c _).mono ?_
      rintro e v4 ⟨rfl, hb⟩
      replace hs := hs.keep hb
      clear m0 m1 hb
      go_wp2_with fail
      go_ret
      exact ⟨rfl, hs.1⟩
end Td
end Go.Proofs.Ytgkdidnmndmlhaa
