import Derived.Test.YtgkdidnmndmlhaaLst
/- The chance to pass, what stays; the functions of each number of bad pieces; the ends of shares. -/
namespace Go.Proofs.Ytgkdidnmndmlhaa
open Go.RowKit
namespace Td
set_option linter.unusedSimpArgs false
set_option linter.unusedVariables false
attribute [local go_sem] Oper.semAt_some
set_option maxHeartbeats 1000000 in
theorem one_c (v : Nat) (w : World) : Calls Try.prog 88 #[.int .i64 v] w fun e w' => e = .returned (.int .i64 ((1 : Nat) : Int)) ∧ w = w' := by
  go_enter Try.func88, Try.ntmps88
  go_wp2
  go_ret
  exact ⟨rfl, rfl⟩
set_option maxHeartbeats 1000000 in
theorem left_c (v : Nat) (w : World) : Calls Try.prog 91 #[.int .i64 v] w fun e w' => e = .returned (.int .i64 (v : Int)) ∧ w = w' := by
  go_enter Try.func91, Try.ntmps91
  go_wp2
  go_ret
  exact ⟨rfl, rfl⟩
/-- a heap and a plan of numbers that fit. -/
structure Fit (P F pa fa S d : Nat) : Prop where
  d : d ≤ P
  f : F ≤ P
  s : S ≤ P - F
  p : P ≤ 20
  t : pa + 1 ≤ fa
/-- the chance that a heap passes; what stays of it. -/
def chS (P F pa fa S to d : Nat) : Nat × Nat := shr (avgS P F pa fa S to d fun _ => 1) (bn P F * bn (P - F) S)
def stS (P F pa fa S to d : Nat) : Nat × Nat := shr (avgS P F pa fa S to d fun v => v) (bn P F * bn (P - F) S)
set_option maxRecDepth 100000 in
set_option maxHeartbeats 2000000 in
theorem passes_c (g : Nat) (lo hi : Int) (P F pa fa S to d : Nat) (w : World) (hg : Blk w g 97 (hpV (P : Int) lo hi)) (k : Fit P F pa fa S d) :
    Calls Try.prog 65 #[hpP g, .agg (lV F pa fa S to), .int .i64 d] w fun e w' => e = .returned (.agg (fV (ip (chS P F pa fa S to d)))) ∧ Below w.heap.size w w' := by
  have hs0 := ((Since.refl w).alloc (.cells (lV F pa fa S to) 38)).alloc (.cells (fV (0, 0)) 90)
  have HL := Lib.hid ((Blk.new w 38 (lV F pa fa S to)).alloc (.cells (fV (0, 0)) 90))
  have HR := Lib.hid (Blk.new1 w (.cells (lV F pa fa S to) 38) 90 (fV (0, 0)))
  have HC := fun W (hW : Blk W g 97 (hpV (P : Int) lo hi)) => Lib.hid (average_c g lo hi P F pa fa S to d 88 (fun _ => 1) W (enters_of Try.func88 (by kernel_rfl) rfl) one_c (fun v hv => by omega) hW k.d k.f k.s k.p k.t)
  obtain ⟨v, hv⟩ : ∃ v, ip (chS P F pa fa S to d) = v := ⟨_, rfl⟩
  rw [hv]
  replace HC := fun W (hW : Blk W g 97 (hpV (P : Int) lo hi)) => by have := (HC W hW).out; rw [show ip (shr (avgS P F pa fa S to d (fun _ => 1)) (bn P F * bn (P - F) S)) = v from hv] at this; exact Lib.hid this
  clear hv
  obtain ⟨d0, d1, d2, d3, d4⟩ := HL.out.lcells
  go_enter Try.func65, Try.ntmps65
  go_wp2_with (refine wpList_store_row rfl 90 _ _ rfl (w.heap.size + 1) _ rfl rfl 90 _ HR.out (by kernel_rfl) rfl (by simp [Value.oneCell']) ?_)
  refine ((HC _ (hg.keep hs0.1)).out).mono ?_
  rintro e w1 ⟨rfl, hb1⟩
  have HR1 := Lib.hid (HR.out.keep hb1)
  have hs1 := hs0.keep hb1
  clear d0 d1 d2 d3 d4
  go_wp2_with (refine wpList_store_row rfl 90 _ _ rfl (w.heap.size + 1) _ rfl rfl 90 _ HR1.out (by kernel_rfl) rfl (by simp [Value.oneCell']) ?_)
  (refine bodyPost_ret (v := .agg _) ?_ rfl ⟨rfl, ?_⟩; exact (results_cell_row Try.results65 _ _ (w.heap.size + 1) 90 _ (0, 0) _ rfl (HR1.out.row _) Try.underlying90 rfl (by kernel_rfl)))
  exact (hs1.row (by omega) _).1
set_option maxRecDepth 100000 in
set_option maxHeartbeats 2000000 in
theorem stays_c (g : Nat) (lo hi : Int) (P F pa fa S to d : Nat) (w : World) (hg : Blk w g 97 (hpV (P : Int) lo hi)) (k : Fit P F pa fa S d) :
    Calls Try.prog 70 #[hpP g, .agg (lV F pa fa S to), .int .i64 d] w fun e w' => e = .returned (.agg (fV (ip (stS P F pa fa S to d)))) ∧ Below w.heap.size w w' := by
  have hs0 := ((Since.refl w).alloc (.cells (lV F pa fa S to) 38)).alloc (.cells (fV (0, 0)) 90)
  have HL := Lib.hid ((Blk.new w 38 (lV F pa fa S to)).alloc (.cells (fV (0, 0)) 90))
  have HR := Lib.hid (Blk.new1 w (.cells (lV F pa fa S to) 38) 90 (fV (0, 0)))
  have HC := fun W (hW : Blk W g 97 (hpV (P : Int) lo hi)) => Lib.hid (average_c g lo hi P F pa fa S to d 91 (fun v => v) W (enters_of Try.func91 (by kernel_rfl) rfl) left_c (fun v hv => by have := k.d; have := k.p; omega) hW k.d k.f k.s k.p k.t)
  obtain ⟨v, hv⟩ : ∃ v, ip (stS P F pa fa S to d) = v := ⟨_, rfl⟩
  rw [hv]
  replace HC := fun W (hW : Blk W g 97 (hpV (P : Int) lo hi)) => by have := (HC W hW).out; rw [show ip (shr (avgS P F pa fa S to d (fun v => v)) (bn P F * bn (P - F) S)) = v from hv] at this; exact Lib.hid this
  clear hv
  obtain ⟨d0, d1, d2, d3, d4⟩ := HL.out.lcells
  go_enter Try.func70, Try.ntmps70
  go_wp2_with (refine wpList_store_row rfl 90 _ _ rfl (w.heap.size + 1) _ rfl rfl 90 _ HR.out (by kernel_rfl) rfl (by simp [Value.oneCell']) ?_)
  refine ((HC _ (hg.keep hs0.1)).out).mono ?_
  rintro e w1 ⟨rfl, hb1⟩
  have HR1 := Lib.hid (HR.out.keep hb1)
  have hs1 := hs0.keep hb1
  clear d0 d1 d2 d3 d4
  go_wp2_with (refine wpList_store_row rfl 90 _ _ rfl (w.heap.size + 1) _ rfl rfl 90 _ HR1.out (by kernel_rfl) rfl (by simp [Value.oneCell']) ?_)
  (refine bodyPost_ret (v := .agg _) ?_ rfl ⟨rfl, ?_⟩; exact (results_cell_row Try.results70 _ _ (w.heap.size + 1) 90 _ (0, 0) _ rfl (HR1.out.row _) Try.underlying90 rfl (by kernel_rfl)))
  exact (hs1.row (by omega) _).1
set_option maxRecDepth 100000 in
set_option maxHeartbeats 2000000 in
theorem Passes1_c (g g1 g2 : Nat) (lo hi : Int) (P F pa fa S to d : Nat) (w : World) (hg : Blk w g 97 (hpV (P : Int) lo hi)) (h1 : Blk w g1 87 #[hpP g]) (h2 : Blk w g2 38 (lV F pa fa S to)) (k : Fit P F pa fa S d) :
    Calls Try.prog 64 #[.int .i64 d, hpP g1, hpP g2] w fun e w' => e = .returned (.agg (fV (ip (chS P F pa fa S to d)))) ∧ Below w.heap.size w w' := by
  have hs0 := (Since.refl w).alloc (.cells (fV (0, 0)) 90)
  have HR := Lib.hid (Blk.new w 90 (fV (0, 0)))
  have c1 := (h1.alloc (.cells (fV (0, 0)) 90)).cell 0
  obtain ⟨d0, d1, d2, d3, d4⟩ := (h2.alloc (.cells (fV (0, 0)) 90)).lcells
  simp only [List.getElem?_toArray, List.getElem?_cons_zero] at c1
  have HC := fun W (hW : Blk W g 97 (hpV (P : Int) lo hi)) => Lib.hid (passes_c g lo hi P F pa fa S to d W hW k)
  obtain ⟨v, hv⟩ : ∃ v, ip (chS P F pa fa S to d) = v := ⟨_, rfl⟩
  rw [hv] at HC ⊢
  clear hv
  go_enter Try.func64, Try.ntmps64
  go_wp2_with fail
  refine ((HC _ (hg.keep hs0.1)).out).mono ?_
  rintro e w1 ⟨rfl, hb1⟩
  have HR1 := Lib.hid (HR.out.keep hb1)
  have hs1 := hs0.keep hb1
  clear c1 d0 d1 d2 d3 d4
  go_wp2_with (refine wpList_store_row rfl 90 _ _ rfl (w.heap.size) _ rfl rfl 90 _ HR1.out (by kernel_rfl) rfl (by simp [Value.oneCell']) ?_)
  (refine bodyPost_ret (v := .agg _) ?_ rfl ⟨rfl, ?_⟩; exact (results_cell_row Try.results64 _ _ (w.heap.size) 90 _ (0, 0) _ rfl (HR1.out.row _) Try.underlying90 rfl (by kernel_rfl)))
  exact (hs1.row (by omega) _).1
set_option maxRecDepth 100000 in
set_option maxHeartbeats 2000000 in
theorem Worst1_c (g g1 g2 : Nat) (lo hi : Int) (P F pa fa S to d : Nat) (w : World) (hg : Blk w g 97 (hpV (P : Int) lo hi)) (h1 : Blk w g1 87 #[hpP g]) (h2 : Blk w g2 38 (lV F pa fa S to)) (k : Fit P F pa fa S d) :
    Calls Try.prog 69 #[.int .i64 d, hpP g1, hpP g2] w fun e w' => e = .returned (.agg (fV (ip (stS P F pa fa S to d)))) ∧ Below w.heap.size w w' := by
  have hs0 := (Since.refl w).alloc (.cells (fV (0, 0)) 90)
  have HR := Lib.hid (Blk.new w 90 (fV (0, 0)))
  have c1 := (h1.alloc (.cells (fV (0, 0)) 90)).cell 0
  obtain ⟨d0, d1, d2, d3, d4⟩ := (h2.alloc (.cells (fV (0, 0)) 90)).lcells
  simp only [List.getElem?_toArray, List.getElem?_cons_zero] at c1
  have HC := fun W (hW : Blk W g 97 (hpV (P : Int) lo hi)) => Lib.hid (stays_c g lo hi P F pa fa S to d W hW k)
  obtain ⟨v, hv⟩ : ∃ v, ip (stS P F pa fa S to d) = v := ⟨_, rfl⟩
  rw [hv] at HC ⊢
  clear hv
  go_enter Try.func69, Try.ntmps69
  go_wp2_with fail
  refine ((HC _ (hg.keep hs0.1)).out).mono ?_
  rintro e w1 ⟨rfl, hb1⟩
  have HR1 := Lib.hid (HR.out.keep hb1)
  have hs1 := hs0.keep hb1
  clear c1 d0 d1 d2 d3 d4
  go_wp2_with (refine wpList_store_row rfl 90 _ _ rfl (w.heap.size) _ rfl rfl 90 _ HR1.out (by kernel_rfl) rfl (by simp [Value.oneCell']) ?_)
  (refine bodyPost_ret (v := .agg _) ?_ rfl ⟨rfl, ?_⟩; exact (results_cell_row Try.results69 _ _ (w.heap.size) 90 _ (0, 0) _ rfl (HR1.out.row _) Try.underlying90 rfl (by kernel_rfl)))
  exact (hs1.row (by omega) _).1
/-- what is paid on average. -/
def prS (P n : Nat) (xs : List Int) (d : Nat) : Nat × Nat := shr (prcS P d n fun i => (xs[i]?.getD 0).toNat) (bn P n)
set_option maxRecDepth 100000 in
set_option maxHeartbeats 2000000 in
theorem Price1_c (g g1 g2 : Nat) (lo hi : Int) (P d n : Nat) (A : Option Addr) (xs : List Int) (c : Nat) (w : World) (hg : Blk w g 97 (hpV (P : Int) lo hi)) (h1 : Blk w g1 87 #[hpP g]) (h2 : Blk w g2 51 #[.slice A xs.length c]) (hp : InAt w A xs) (hxl : xs.length = n + 1) (hb : ∀ x ∈ xs, 0 ≤ x ∧ x ≤ 100000) (hd : d ≤ P) (hn : n ≤ P) (hP : P ≤ 20) :
    Calls Try.prog 78 #[.int .i64 d, hpP g1, hpP g2] w fun e w' => e = .returned (.agg (fV (ip (prS P n xs d)))) ∧ Below w.heap.size w w' := by
  have hs0 := (Since.refl w).alloc (.cells (fV (0, 0)) 90)
  have HR := Lib.hid (Blk.new w 90 (fV (0, 0)))
  have c1 := (h1.alloc (.cells (fV (0, 0)) 90)).cell 0
  have c2 := (h2.alloc (.cells (fV (0, 0)) 90)).cell 0
  simp only [List.getElem?_toArray, List.getElem?_cons_zero] at c1 c2
  have HC := fun W (hW : Blk W g 97 (hpV (P : Int) lo hi)) (hI : InAt W A xs) => Lib.hid (price_c g lo hi P d n A xs c W hW hI hxl hb hd hn hP)
  obtain ⟨v, hv⟩ : ∃ v, ip (prS P n xs d) = v := ⟨_, rfl⟩
  rw [hv]
  replace HC := fun W (hW : Blk W g 97 (hpV (P : Int) lo hi)) (hI : InAt W A xs) => by have := (HC W hW hI).out; rw [show ip (shr (prcS P d n fun i => (xs[i]?.getD 0).toNat) (bn P n)) = v from hv] at this; exact Lib.hid this
  clear hv hxl
  go_enter Try.func78, Try.ntmps78
  go_wp2_with fail
  refine ((HC _ (hg.keep hs0.1) (hp.keep hs0.1)).out).mono ?_
  rintro e w1 ⟨rfl, hb1⟩
  have HR1 := Lib.hid (HR.out.keep hb1)
  have hs1 := hs0.keep hb1
  clear c1 c2
  go_wp2_with (refine wpList_store_row rfl 90 _ _ rfl (w.heap.size) _ rfl rfl 90 _ HR1.out (by kernel_rfl) rfl (by simp [Value.oneCell']) ?_)
  (refine bodyPost_ret (v := .agg _) ?_ rfl ⟨rfl, ?_⟩; exact (results_cell_row Try.results78 _ _ (w.heap.size) 90 _ (0, 0) _ rfl (HR1.out.row _) Try.underlying90 rfl (by kernel_rfl)))
  exact (hs1.row (by omega) _).1
theorem results_cells2 {P : Program} {fn : Func} {p q : Tmp} {t1 t2 : TypeId} (h : fn.results = #[.cell p t1, .cell q t2]) (tmps : Array Value) (w : World) (a1 a2 : Addr) (v1 v2 : Value)
    (hp : tmps.getD p undef = .pointer (some a1)) (hq : tmps.getD q undef = .pointer (some a2))
    (h1 : (loadVar t1 a1).run P w = .ok v1 w) (h2 : (loadVar t2 a2).run P w = .ok v2 w) :
    (results fn tmps).run P w = .ok (.tuple #[v1, v2]) w := by
  have hp' : tmps[p]?.getD undef = .pointer (some a1) := by simpa using hp
  have hq' : tmps[q]?.getD undef = .pointer (some a2) := by simpa using hq
  simp [results, h, hp', hq', asAddr, h1, h2]
theorem results_cells2t {P : Program} {fn : Func} {p q r : Tmp} {t1 t2 : TypeId} (h : fn.results = #[.cell p t1, .cell q t2, .tmp r]) (tmps : Array Value) (w : World) (a1 a2 : Addr) (v1 v2 : Value)
    (hp : tmps.getD p undef = .pointer (some a1)) (hq : tmps.getD q undef = .pointer (some a2))
    (h1 : (loadVar t1 a1).run P w = .ok v1 w) (h2 : (loadVar t2 a2).run P w = .ok v2 w) :
    (results fn tmps).run P w = .ok (.tuple #[v1, v2, tmps.getD r undef]) w := by
  have hp' : tmps[p]?.getD undef = .pointer (some a1) := by simpa using hp
  have hq' : tmps[q]?.getD undef = .pointer (some a2) := by simpa using hq
  simp [results, h, hp', hq', asAddr, h1, h2]
theorem results_tct {P : Program} {fn : Func} {p q r : Tmp} {t1 : TypeId} (h : fn.results = #[.tmp p, .cell q t1, .tmp r]) (tmps : Array Value) (w : World) (a1 : Addr) (v1 : Value)
    (hq : tmps.getD q undef = .pointer (some a1)) (h1 : (loadVar t1 a1).run P w = .ok v1 w) :
    (results fn tmps).run P w = .ok (.tuple #[tmps.getD p undef, v1, tmps.getD r undef]) w := by
  have hq' : tmps[q]?.getD undef = .pointer (some a1) := by simpa using hq
  simp [results, h, hq', asAddr, h1]
theorem results_ct {P : Program} {fn : Func} {q r : Tmp} {t1 : TypeId} (h : fn.results = #[.cell q t1, .tmp r]) (tmps : Array Value) (w : World) (a1 : Addr) (v1 : Value)
    (hq : tmps.getD q undef = .pointer (some a1)) (h1 : (loadVar t1 a1).run P w = .ok v1 w) :
    (results fn tmps).run P w = .ok (.tuple #[v1, tmps.getD r undef]) w := by
  have hq' : tmps[q]?.getD undef = .pointer (some a1) := by simpa using hq
  simp [results, h, hq', asAddr, h1]
theorem load_fr {w : World} {g : Nat} {v : Int × Int} (h : Blk w g 41 (fV v)) : (loadVar 41 ⟨g, 0, none⟩).run Try.prog w = .ok (.agg (fV v)) w :=
  run_loadVar_row w g _ _ _ (0, 0) _ h Try.underlying41 rfl (by kernel_rfl)
theorem load_sp {w : World} {g : Nat} {v : Int × Int} (h : Blk w g 23 (fV v)) : (loadVar 23 ⟨g, 0, none⟩).run Try.prog w = .ok (.agg (fV v)) w :=
  run_loadVar_row w g _ _ _ (0, 0) _ h Try.underlying23 rfl (by kernel_rfl)
/-- the least, the greatest of shares. -/
def leastS (l : List (Nat × Nat)) : Nat × Nat := fore lt' l
def mostS (l : List (Nat × Nat)) : Nat × Nat := fore (fun s t => lt' t s) l
theorem foreB_c (g : Nat) (l : List (Nat × Nat)) (c : Nat) (w : World) (hl : l ≠ []) (hlen : l.length ≤ 100) (hp : FrB w g l) (hsm : ∀ x ∈ l, Sm x) (hlc : l.length ≤ c) (hc : c ≤ 9223372036854775807) :
    Calls Try.prog 71 #[.slice (some ⟨g, 0, none⟩) l.length c, .func (.func 86) #[] #[]] w fun e w' => e = .returned (.agg (fV (ip (leastS l)))) ∧ Below w.heap.size w w' :=
  foremost_c _ lt' (enters_of Try.func86 (by kernel_rfl) rfl) (fun s t W hs ht => below_c s t W hs ht) g l c w hl hlen hp hsm hlc hc
theorem foreA_c (g : Nat) (l : List (Nat × Nat)) (c : Nat) (w : World) (hl : l ≠ []) (hlen : l.length ≤ 100) (hp : FrB w g l) (hsm : ∀ x ∈ l, Sm x) (hlc : l.length ≤ c) (hc : c ≤ 9223372036854775807) :
    Calls Try.prog 71 #[.slice (some ⟨g, 0, none⟩) l.length c, .func (.func 72) #[] #[]] w fun e w' => e = .returned (.agg (fV (ip (mostS l)))) ∧ Below w.heap.size w w' :=
  foremost_c _ (fun s t => lt' t s) (enters_of Try.func72 (by kernel_rfl) rfl) (fun s t W hs ht => above_c s t W hs ht) g l c w hl hlen hp hsm hlc hc
set_option maxRecDepth 100000 in
set_option maxHeartbeats 2000000 in
theorem ends_c (g : Nat) (l : List (Nat × Nat)) (c : Nat) (w : World) (hl : l ≠ []) (hlen : l.length ≤ 100) (hp : FrB w g l) (hsm : ∀ x ∈ l, Sm x) (hlc : l.length ≤ c) (hc : c ≤ 9223372036854775807) :
    Calls Try.prog 62 #[.slice (some ⟨g, 0, none⟩) l.length c] w fun e w' => e = .returned (.tuple #[.agg (fV (ip (leastS l))), .agg (fV (ip (mostS l)))]) ∧ Below w.heap.size w w' := by
  have hs0 := ((Since.refl w).alloc (.cells (fV (0, 0)) 41)).alloc (.cells (fV (0, 0)) 41)
  have H1 := Lib.hid ((Blk.new w 41 (fV (0, 0))).alloc (.cells (fV (0, 0)) 41))
  have H2 := Lib.hid (Blk.new1 w (.cells (fV (0, 0)) 41) 41 (fV (0, 0)))
  have HA := fun W (hW : FrB W g l) => Lib.hid (foreB_c g l c W hl hlen hW hsm hlc hc)
  have HB := fun W (hW : FrB W g l) => Lib.hid (foreA_c g l c W hl hlen hW hsm hlc hc)
  obtain ⟨u, hu⟩ : ∃ u, ip (leastS l) = u := ⟨_, rfl⟩
  obtain ⟨v, hv⟩ : ∃ v, ip (mostS l) = v := ⟨_, rfl⟩
  rw [hu] at HA ⊢
  rw [hv] at HB ⊢
  clear hu hv
  have HP := Lib.hid hp
  obtain ⟨L, hL⟩ : ∃ L, l.length = L := ⟨_, rfl⟩
  rw [hL] at HA HB hlen hlc ⊢
  clear hL hp
  go_enter Try.func62, Try.ntmps62
  go_wp2_with fail
  refine (HA _ (HP.out.keep hs0.1)).out.mono ?_
  rintro e w1 ⟨rfl, hb1⟩
  have hs1 := hs0.keep hb1
  have H3 := Lib.hid (H1.out.keep hb1)
  have H4 := Lib.hid (H2.out.keep hb1)
  go_wp2_with fail
  refine (HB _ (HP.out.keep hs1.1)).out.mono ?_
  rintro e w2 ⟨rfl, hb2⟩
  have hs2 := hs1.keep hb2
  have H5 := Lib.hid (H3.out.keep hb2)
  have H6 := Lib.hid (H4.out.keep hb2)
  have H7 := Lib.hid (H6.out.rowFar (g' := w.heap.size) (by omega) (fV u))
  have H8 := Lib.hid ((H5.out.row (fV u)).rowFar (g' := w.heap.size + 1) (by omega) (fV v))
  clear HA HB H1 H2 H3 H4 hb1 hb2
  go_wp2_with (first | (refine wpList_store_row rfl 41 _ _ rfl (w.heap.size) _ rfl rfl 41 _ H5.out (by kernel_rfl) rfl (by simp [Value.oneCell']) ?_) | (refine wpList_store_row rfl 41 _ _ rfl (w.heap.size + 1) _ rfl rfl 41 _ H7.out (by kernel_rfl) rfl (by simp [Value.oneCell']) ?_))
  refine bodyPost_ret (results_cells2 Try.results62 _ _ _ _ _ _ rfl rfl (load_fr H8.out) (load_fr (H7.out.row (fV v)))) rfl ⟨rfl, ?_⟩
  exact ((hs2.row (g := w.heap.size) (by omega) _).row (g := w.heap.size + 1) (by omega) _).1
end Td
end Go.Proofs.Ytgkdidnmndmlhaa
