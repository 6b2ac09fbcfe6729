import Derived.Test.YtojpiliamecgkaaBea
import Derived.Test.YtojpiliamecgkaaLieC
import Derived.Test.YtojpiliamecgkaaMisB
import Derived.Deep.RegionHeld3
namespace Go.Proofs.Ytojpiliamecgkaa
open Go.RowKit
namespace Td
set_option linter.unusedSimpArgs false
set_option linter.unusedVariables false
theorem ev_stops : stopsV exB exS 0 4 = .tuple #[.agg #[.int .i64 6400, .int .i64 11000], .int .i64 0] := by kernel_rfl
theorem ev_ash : stepE exB exS 0 14 = 0 ∧ ashL exB exS 14 exB.ts.length = [1] := by decide +kernel
theorem ev_least : leastV exB exS 1 = .tuple #[.int .i64 14, .int .i64 0] := by kernel_rfl
theorem ev_first : firstV exB exS 4 = .tuple #[.int .i64 1, .int .i64 14, .int .i64 0] := by kernel_rfl
theorem ev_misses : missesV exB exS 0 7 = .tuple #[.agg #[.int .i64 25, .int .i64 306, .int .i64 500, .int .i64 (-10)], .int .i64 5960, .int .i64 0] := by kernel_rfl
theorem ev_lies : liesV exB exS ⟨0, 0⟩ [⟨1, 20⟩] = .tuple #[.agg #[.int .i64 7600, .int .i64 13000], .int .i64 0] := by kernel_rfl
theorem ev_later : laterV exB exS ⟨0, 0⟩ 11600 = .tuple #[.int .i64 1, .int .i64 0] := by kernel_rfl
theorem ev_later2 : laterV exB exS ⟨0, 0⟩ 11601 = .tuple #[.int .i64 0, .int .i64 9] := by kernel_rfl
abbrev C2 (g : Nat) (a c : Int) (X : World) : Prop := X.cell? ⟨g, 0, none⟩ = some (.int .i64 a) ∧ X.cell? ⟨g, 1, none⟩ = some (.int .i64 c)
abbrev C4 (g : Nat) (a c d e : Int) (X : World) : Prop := X.cell? ⟨g, 0, none⟩ = some (.int .i64 a) ∧ X.cell? ⟨g, 1, none⟩ = some (.int .i64 c) ∧ X.cell? ⟨g, 2, none⟩ = some (.int .i64 d) ∧ X.cell? ⟨g, 3, none⟩ = some (.int .i64 e)
theorem C2.keep {g : Nat} {a c : Int} {w w' : World} (h : C2 g a c w) (hb : Below w.heap.size w w') : C2 g a c w' := ⟨keep_cell hb h.1, keep_cell hb h.2⟩
theorem C4.keep {g : Nat} {a c d e : Int} {w w' : World} (h : C4 g a c d e w) (hb : Below w.heap.size w w') : C4 g a c d e w' := ⟨keep_cell hb h.1, keep_cell hb h.2.1, keep_cell hb h.2.2.1, keep_cell hb h.2.2.2⟩
theorem C2.alloc {g : Nat} {a c : Int} {w : World} (h : C2 g a c w) (o : Obj) : C2 g a c (w.alloc o) := h.keep ((Below.refl _ _).alloc (Nat.le_refl _) _)
theorem C4.alloc {g : Nat} {a c d e : Int} {w : World} (h : C4 g a c d e w) (o : Obj) : C4 g a c d e (w.alloc o) := h.keep ((Below.refl _ _).alloc (Nat.le_refl _) _)
theorem InAt.alloc {w : World} {A : Option Addr} {l : List Int} (h : InAt w A l) (o : Obj) : InAt (w.alloc o) A l := h.keep ((Below.refl _ _).alloc (Nat.le_refl _) _)
theorem InAt.drew {w : World} {A : Option Addr} {l : List Int} (h : InAt w A l) : InAt w.drew A l := h
theorem C2.drew {g : Nat} {a c : Int} {w : World} (h : C2 g a c w) : C2 g a c w.drew := h
theorem C4.drew {g : Nat} {a c d e : Int} {w : World} (h : C4 g a c d e w) : C4 g a c d e w.drew := h
theorem ints_same (P Q : Option Addr) (l : List Int) (pc qc : Nat) (w : World) (hl : l.length ≤ 1000) (hp : InAt w P l) (hq : InAt w Q l) :
    Calls Try.prog 22 #[.slice P l.length pc, .slice Q l.length qc] w fun e w' => e = .returned (.bool true) ∧ Below w.heap.size w w' := by
  have h := ints_c P Q l l pc qc w hl hl hp hq
  rwa [show decide (l = l) = true from decide_eq_true rfl] at h
set_option maxRecDepth 100000 in
set_option maxHeartbeats 8000000 in
theorem awake_c (w : World) : Calls Try.prog 23 #[] w fun e w' => e = .returned (.bool true) ∧ Below w.heap.size w w' := by
  have hs := Since.refl w
  go_enter Try.func23, Try.ntmps23
  go_wp2_with fail
  refine (beach_c _).mono ?_
  rintro e v0a ⟨⟨g0, rfl, ht0⟩, hb0a⟩
  replace hs := hs.keep hb0a
  go_wp2_with fail
  refine (ship_c _).mono ?_
  rintro e v0b ⟨rfl, hb0b⟩
  replace hs := hs.keep hb0b
  go_wp2_with fail
  refine (stops_c exB exS _ 2 0 4 _ (ht0.keep hb0b)).mono ?_
  rintro e v0c ⟨rfl, hb0c⟩
  rw [ev_stops]
  replace hs := hs.keep hb0c
  replace hs := hs.alloc (.cells #[.int .i64 6400, .int .i64 11000] 23)
  have HS := Lib.hid (Blk.new v0c 23 #[.int .i64 6400, .int .i64 11000])
  clear hb0a hb0b hb0c ht0
  go_wp2_with fail
  obtain ⟨kS, hkS⟩ : ∃ kS, v0c.heap.size = kS := ⟨_, rfl⟩
  obtain ⟨W0, hW0⟩ : ∃ W0, v0c.alloc (.cells #[.int .i64 6400, .int .i64 11000] 23) = W0 := ⟨_, rfl⟩
  rw [hW0] at hs HS ⊢
  rw [hkS] at HS ⊢
  clear hW0 hkS
  refine (beach_c _).mono ?_
  rintro e v1a ⟨⟨g1, rfl, ht1⟩, hb1a⟩
  replace hs := hs.keep hb1a
  replace HS := Lib.hid (HS.out.keep hb1a)
  go_wp2_with fail
  refine (ship_c _).mono ?_
  rintro e v1b ⟨rfl, hb1b⟩
  replace hs := hs.keep hb1b
  replace HS := Lib.hid (HS.out.keep hb1b)
  go_wp2_with fail
  refine (ashore_c exB exS _ 2 14 _ (ht1.keep hb1b)).mono ?_
  rintro e v1c ⟨⟨h0, _⟩ | ⟨_, vl, rfl, hl⟩, hb1c⟩
  · exact absurd ev_ash.1 h0
  have HI := Lib.hid hl
  rw [show exB.ts.length = 2 from rfl] at HI
  clear hl
  replace hs := hs.keep hb1c
  replace HS := Lib.hid (HS.out.keep hb1c)
  clear hb1a hb1b hb1c ht1
  go_wp2_with fail
  refine (beach_c _).mono ?_
  rintro e v2a ⟨⟨g2, rfl, ht2⟩, hb2a⟩
  replace hs := hs.keep hb2a
  replace HS := Lib.hid (HS.out.keep hb2a)
  replace HI := Lib.hid (HI.out.keep hb2a)
  go_wp2_with fail
  refine (ship_c _).mono ?_
  rintro e v2b ⟨rfl, hb2b⟩
  replace hs := hs.keep hb2b
  replace HS := Lib.hid (HS.out.keep hb2b)
  replace HI := Lib.hid (HI.out.keep hb2b)
  go_wp2_with fail
  refine (tleast_c exB exS _ 2 1 _ (ht2.keep hb2b)).mono ?_
  rintro e v2c ⟨rfl, hb2c⟩
  rw [ev_least]
  replace hs := hs.keep hb2c
  replace HS := Lib.hid (HS.out.keep hb2c)
  replace HI := Lib.hid (HI.out.keep hb2c)
  clear hb2a hb2b hb2c ht2
  go_wp2_with fail
  refine (beach_c _).mono ?_
  rintro e v3a ⟨⟨g3, rfl, ht3⟩, hb3a⟩
  replace hs := hs.keep hb3a
  replace HS := Lib.hid (HS.out.keep hb3a)
  replace HI := Lib.hid (HI.out.keep hb3a)
  go_wp2_with fail
  refine (ship_c _).mono ?_
  rintro e v3b ⟨rfl, hb3b⟩
  replace hs := hs.keep hb3b
  replace HS := Lib.hid (HS.out.keep hb3b)
  replace HI := Lib.hid (HI.out.keep hb3b)
  go_wp2_with fail
  refine (first_c exB exS _ 2 4 _ (ht3.keep hb3b)).mono ?_
  rintro e v3c ⟨rfl, hb3c⟩
  rw [ev_first]
  replace hs := hs.keep hb3c
  replace HS := Lib.hid (HS.out.keep hb3c)
  replace HI := Lib.hid (HI.out.keep hb3c)
  clear hb3a hb3b hb3c ht3
  go_wp2_with fail
  refine (beach_c _).mono ?_
  rintro e v4a ⟨⟨g4, rfl, ht4⟩, hb4a⟩
  replace hs := hs.keep hb4a
  replace HS := Lib.hid (HS.out.keep hb4a)
  replace HI := Lib.hid (HI.out.keep hb4a)
  go_wp2_with fail
  refine (ship_c _).mono ?_
  rintro e v4b ⟨rfl, hb4b⟩
  replace hs := hs.keep hb4b
  replace HS := Lib.hid (HS.out.keep hb4b)
  replace HI := Lib.hid (HI.out.keep hb4b)
  go_wp2_with fail
  refine (misses_c exB exS _ 2 0 7 _ (ht4.keep hb4b)).mono ?_
  rintro e v4c ⟨rfl, hb4c⟩
  rw [ev_misses]
  replace hs := hs.keep hb4c
  replace HS := Lib.hid (HS.out.keep hb4c)
  replace HI := Lib.hid (HI.out.keep hb4c)
  replace hs := hs.alloc (.cells #[.int .i64 25, .int .i64 306, .int .i64 500, .int .i64 (-10)] 45)
  replace HS := Lib.hid (HS.out.keep ((Below.refl _ v4c).alloc (Nat.le_refl _) (.cells #[.int .i64 25, .int .i64 306, .int .i64 500, .int .i64 (-10)] 45)))
  replace HI := Lib.hid (HI.out.keep ((Below.refl _ v4c).alloc (Nat.le_refl _) (.cells #[.int .i64 25, .int .i64 306, .int .i64 500, .int .i64 (-10)] 45)))
  have HT := Lib.hid (Blk.new v4c 45 #[.int .i64 25, .int .i64 306, .int .i64 500, .int .i64 (-10)])
  clear hb4a hb4b hb4c ht4
  go_wp2_with fail
  obtain ⟨kT, hkT⟩ : ∃ kT, v4c.heap.size = kT := ⟨_, rfl⟩
  obtain ⟨W4, hW4⟩ : ∃ W4, v4c.alloc (.cells #[.int .i64 25, .int .i64 306, .int .i64 500, .int .i64 (-10)] 45) = W4 := ⟨_, rfl⟩
  rw [hW4] at hs HS HI HT ⊢
  rw [hkT] at HT ⊢
  clear hW4 hkT
  refine (beach_c _).mono ?_
  rintro e v5a ⟨⟨g5, rfl, ht5⟩, hb5a⟩
  replace hs := hs.keep hb5a
  replace HS := Lib.hid (HS.out.keep hb5a)
  replace HI := Lib.hid (HI.out.keep hb5a)
  replace HT := Lib.hid (HT.out.keep hb5a)
  go_wp2_with fail
  refine (ship_c _).mono ?_
  rintro e v5b ⟨rfl, hb5b⟩
  replace hs := hs.keep hb5b
  replace HS := Lib.hid (HS.out.keep hb5b)
  replace HI := Lib.hid (HI.out.keep hb5b)
  replace HT := Lib.hid (HT.out.keep hb5b)
  have HPu := Lib.hid (PuAt.one (p := ⟨1, 20⟩) (Blk.new v5b 49 #[.int .i64 1, .int .i64 20]))
  have HTs := Lib.hid ((ht5.keep hb5b).keep ((Below.refl _ v5b).alloc (Nat.le_refl _) (.cells #[.int .i64 1, .int .i64 20] 49)))
  replace hs := hs.alloc (.cells #[.int .i64 1, .int .i64 20] 49)
  replace HS := Lib.hid (HS.out.keep ((Below.refl _ v5b).alloc (Nat.le_refl _) (.cells #[.int .i64 1, .int .i64 20] 49)))
  replace HI := Lib.hid (HI.out.keep ((Below.refl _ v5b).alloc (Nat.le_refl _) (.cells #[.int .i64 1, .int .i64 20] 49)))
  replace HT := Lib.hid (HT.out.keep ((Below.refl _ v5b).alloc (Nat.le_refl _) (.cells #[.int .i64 1, .int .i64 20] 49)))
  go_wp2_with fail
  refine (tlies_c exB exS _ 2 ⟨0, 0⟩ (some ⟨v5b.heap.size, 0, none⟩) [⟨1, 20⟩] 1 _ HTs.out HPu.out).mono ?_
  rintro e v5c ⟨rfl, hb5c⟩
  rw [ev_lies]
  replace hs := hs.keep hb5c
  replace HS := Lib.hid (HS.out.keep hb5c)
  replace HI := Lib.hid (HI.out.keep hb5c)
  replace HT := Lib.hid (HT.out.keep hb5c)
  replace hs := hs.alloc (.cells #[.int .i64 7600, .int .i64 13000] 23)
  replace HS := Lib.hid (HS.out.keep ((Below.refl _ v5c).alloc (Nat.le_refl _) (.cells #[.int .i64 7600, .int .i64 13000] 23)))
  replace HI := Lib.hid (HI.out.keep ((Below.refl _ v5c).alloc (Nat.le_refl _) (.cells #[.int .i64 7600, .int .i64 13000] 23)))
  replace HT := Lib.hid (HT.out.keep ((Below.refl _ v5c).alloc (Nat.le_refl _) (.cells #[.int .i64 7600, .int .i64 13000] 23)))
  have HX := Lib.hid (Blk.new v5c 23 #[.int .i64 7600, .int .i64 13000])
  clear hb5a hb5b hb5c ht5
  go_wp2_with fail
  obtain ⟨kX, hkX⟩ : ∃ kX, v5c.heap.size = kX := ⟨_, rfl⟩
  obtain ⟨W5, hW5⟩ : ∃ W5, v5c.alloc (.cells #[.int .i64 7600, .int .i64 13000] 23) = W5 := ⟨_, rfl⟩
  rw [hW5] at hs HS HI HT HX ⊢
  rw [hkX] at HX ⊢
  clear hW5 hkX
  refine (beach_c _).mono ?_
  rintro e v6a ⟨⟨g6, rfl, ht6⟩, hb6a⟩
  replace hs := hs.keep hb6a
  replace HS := Lib.hid (HS.out.keep hb6a)
  replace HI := Lib.hid (HI.out.keep hb6a)
  replace HT := Lib.hid (HT.out.keep hb6a)
  replace HX := Lib.hid (HX.out.keep hb6a)
  go_wp2_with fail
  refine (ship_c _).mono ?_
  rintro e v6b ⟨rfl, hb6b⟩
  replace hs := hs.keep hb6b
  replace HS := Lib.hid (HS.out.keep hb6b)
  replace HI := Lib.hid (HI.out.keep hb6b)
  replace HT := Lib.hid (HT.out.keep hb6b)
  replace HX := Lib.hid (HX.out.keep hb6b)
  go_wp2_with fail
  refine (later_c exB exS _ 2 ⟨0, 0⟩ 11600 _ (ht6.keep hb6b)).mono ?_
  rintro e v6c ⟨rfl, hb6c⟩
  rw [ev_later]
  replace hs := hs.keep hb6c
  replace HS := Lib.hid (HS.out.keep hb6c)
  replace HI := Lib.hid (HI.out.keep hb6c)
  replace HT := Lib.hid (HT.out.keep hb6c)
  replace HX := Lib.hid (HX.out.keep hb6c)
  clear hb6a hb6b hb6c ht6
  go_wp2_with fail
  refine (beach_c _).mono ?_
  rintro e v7a ⟨⟨g7, rfl, ht7⟩, hb7a⟩
  replace hs := hs.keep hb7a
  replace HS := Lib.hid (HS.out.keep hb7a)
  replace HI := Lib.hid (HI.out.keep hb7a)
  replace HT := Lib.hid (HT.out.keep hb7a)
  replace HX := Lib.hid (HX.out.keep hb7a)
  go_wp2_with fail
  refine (ship_c _).mono ?_
  rintro e v7b ⟨rfl, hb7b⟩
  replace hs := hs.keep hb7b
  replace HS := Lib.hid (HS.out.keep hb7b)
  replace HI := Lib.hid (HI.out.keep hb7b)
  replace HT := Lib.hid (HT.out.keep hb7b)
  replace HX := Lib.hid (HX.out.keep hb7b)
  go_wp2_with fail
  refine (later_c exB exS _ 2 ⟨0, 0⟩ 11601 _ (ht7.keep hb7b)).mono ?_
  rintro e v7c ⟨rfl, hb7c⟩
  rw [ev_later2]
  replace hs := hs.keep hb7c
  replace HS := Lib.hid (HS.out.keep hb7c)
  replace HI := Lib.hid (HI.out.keep hb7c)
  replace HT := Lib.hid (HT.out.keep hb7c)
  replace HX := Lib.hid (HX.out.keep hb7c)
  clear hb7a hb7b hb7c ht7
  go_wp2_with fail
  rw [show ashL exB exS (Int.toNat 14) 2 = [1] from by decide +kernel] at HI
  obtain ⟨P, pc, hvl, hin⟩ := HI.out.slice
  subst hvl
  have hS : C2 kS 6400 11000 v7c := ⟨HS.out.cell 0, HS.out.cell 1⟩
  have hT : C4 kT 25 306 500 (-10) v7c := ⟨HT.out.cell 0, HT.out.cell 1, HT.out.cell 2, HT.out.cell 3⟩
  have hX : C2 kX 7600 13000 v7c := ⟨HX.out.cell 0, HX.out.cell 1⟩
  clear HI HS HT HX
  have hq1 : ∀ W, (Op.equalIn 10000 23 (.agg #[.int .i64 6400, .int .i64 11000]) (.agg #[.int .i64 6400, .int .i64 11000])).run Try.prog W = .ok true W := fun _ => by kernel_rfl
  have hq2 : ∀ W, (Op.equalIn 10000 23 (.agg #[.int .i64 7600, .int .i64 13000]) (.agg #[.int .i64 7600, .int .i64 13000])).run Try.prog W = .ok true W := fun _ => by kernel_rfl
  have hq3 : ∀ W, (Op.equalIn 10000 45 (.agg #[.int .i64 25, .int .i64 306, .int .i64 500, .int .i64 (-10)]) (.agg #[.int .i64 25, .int .i64 306, .int .i64 500, .int .i64 (-10)])).run Try.prog W = .ok true W := fun _ => by kernel_rfl
  simp only [List.append_eq, List.cons_append, List.nil_append]
  go_region_held3 (fun X => C2 kS 6400 11000 X ∧ C4 kT 25 306 500 (-10) X ∧ C2 kX 7600 13000 X ∧ InAt X P [1] ∧ Since w X)
    (first | with_reducible assumption | with_reducible exact ⟨hS.drew, hT.drew, hX.drew, hin.drew, hs.drew⟩ | (obtain ⟨s0, s1, s2, s3, s4⟩ := ‹C2 _ _ _ _ ∧ C4 _ _ _ _ _ _ ∧ C2 _ _ _ _ ∧ InAt _ _ _ ∧ Since _ _›; first | with_reducible exact ⟨s0.keep hb', s1.keep hb', s2.keep hb', s3.keep hb', s4.keep hb'⟩ | with_reducible exact ⟨s0.alloc _, s1.alloc _, s2.alloc _, s3.alloc _, s4.alloc _⟩))
    (first
      | (go_at_call 36; (with_reducible refine (span_c _ _ _).mono ?_); rintro e w' ⟨rfl, hb'⟩)
      | (go_at_call 22; obtain ⟨s0, s1, s2, s3, s4⟩ := ‹C2 _ _ _ _ ∧ C4 _ _ _ _ _ _ ∧ C2 _ _ _ _ ∧ InAt _ _ _ ∧ Since _ _›; (refine (ints_same P (some ⟨_, 0, none⟩) [1] pc 1 _ (by simp) s3 (InAt.one (Blk.new _ _ _))).mono ?_); rintro e w' ⟨rfl, hb'⟩))
  go_wp2_with fail
  obtain ⟨s0, s1, s2, s3, s4⟩ := ‹C2 _ _ _ _ ∧ C4 _ _ _ _ _ _ ∧ C2 _ _ _ _ ∧ InAt _ _ _ ∧ Since _ _›
  go_ret
  exact ⟨rfl, s4.1⟩
end Td
end Go.Proofs.Ytojpiliamecgkaa
