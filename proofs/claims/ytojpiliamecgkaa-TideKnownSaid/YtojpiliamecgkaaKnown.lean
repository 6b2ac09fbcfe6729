import Derived.Test.YtojpiliamecgkaaAwk
import Derived.Test.YtojpiliamecgkaaVals5
namespace Go.Proofs.Ytojpiliamecgkaa
open Go.RowKit
namespace Td
set_option linter.unusedSimpArgs false
set_option linter.unusedVariables false
theorem kv_stops0 : stopsV exB exS 0 0 = .tuple #[.agg #[.int .i64 7200, .int .i64 12000], .int .i64 0] := by kernel_rfl
theorem kv_stops1 : stopsV exB exS 1 0 = .tuple #[.agg #[.int .i64 9600, .int .i64 15500], .int .i64 0] := by kernel_rfl
theorem kv_ash0 : stepE exB exS 0 0 = 0 ∧ ashL exB exS (Int.toNat 0) 2 = [0] := by decide +kernel
theorem kv_ash6 : stepE exB exS 0 6 = 0 ∧ ashL exB exS (Int.toNat 6) 2 = [0] := by decide +kernel
theorem kv_ash7 : stepE exB exS 0 7 = 0 ∧ ashL exB exS (Int.toNat 7) 2 = [] := by decide +kernel
theorem kv_least : leastV exB exS 0 = .tuple #[.int .i64 0, .int .i64 0] := by kernel_rfl
theorem kv_first3 : firstV exB exS 3 = .tuple #[.int .i64 0, .int .i64 0, .int .i64 0] := by kernel_rfl
theorem kv_first18 : firstV exB exS 18 = .tuple #[.int .i64 0, .int .i64 0, .int .i64 9] := by kernel_rfl
theorem kv_misses : missesV exB exS 1 0 = .tuple #[.agg #[.int .i64 20, .int .i64 300, .int .i64 560, .int .i64 (-10)], .int .i64 12500, .int .i64 0] := by kernel_rfl
theorem kv_lies0 : liesV exB exS ⟨0, 0⟩ [] = .tuple #[.agg #[.int .i64 7200, .int .i64 12000], .int .i64 0] := by kernel_rfl
theorem kv_lies1 : liesV exB exS ⟨0, 0⟩ [⟨1, 0⟩] = .tuple #[.agg #[.int .i64 11600, .int .i64 18000], .int .i64 0] := by kernel_rfl
theorem IntsAt.nil {w : World} {v : Value} (h : IntsAt w v []) : v = .slice none 0 0 := by
  rcases h with ⟨_, h⟩ | ⟨g, c, h0, _⟩
  · exact h
  · exact absurd rfl h0
theorem ints_one (P : Option Addr) (a : Int) (pc g : Nat) (w : World) (t : TypeId) (hp : InAt w P [a]) (hq : Blk w g t #[.int .i64 a]) :
    Calls Try.prog 22 #[.slice P 1 pc, .slice (some ⟨g, 0, none⟩) 1 1] w fun e w' => e = .returned (.bool true) ∧ Below w.heap.size w w' :=
  ints_same P (some ⟨g, 0, none⟩) [a] pc 1 w (by simp) hp (InAt.one hq)
set_option maxRecDepth 100000 in
set_option maxHeartbeats 16000000 in
theorem known_c (w : World) : Calls Try.prog 7 #[] w fun e w' => e = .returned (.bool true) ∧ Below w.heap.size w w' := by
  have hs := Since.refl w
  go_enter Try.func7, Try.ntmps7
  go_wp2_with fail
  refine (beach_c _).mono ?_
  rintro e v0a ⟨⟨g0, rfl, ht0⟩, hb0a⟩
  replace hs := hs.keep hb0a
  go_wp2_with fail
  refine (ship_c _).mono ?_
  rintro e v0b ⟨rfl, hb0b⟩
  replace hs := hs.keep hb0b
  go_wp2_with fail
  refine (stops_c exB exS _ 2 0 0 _ (ht0.keep hb0b)).mono ?_
  rintro e v0c ⟨rfl, hb0c⟩
  rw [kv_stops0]
  replace hs := hs.keep hb0c
  replace hs := hs.alloc (.cells #[.int .i64 7200, .int .i64 12000] 23)
  have HA := Lib.hid (Blk.new v0c 23 #[.int .i64 7200, .int .i64 12000])
  clear hb0a hb0b hb0c ht0
  go_wp2_with fail
  obtain ⟨kA, hkA⟩ : ∃ kA, v0c.heap.size = kA := ⟨_, rfl⟩
  obtain ⟨W0, hW0⟩ : ∃ W0, v0c.alloc (.cells #[.int .i64 7200, .int .i64 12000] 23) = W0 := ⟨_, rfl⟩
  rw [hW0] at hs HA ⊢
  rw [hkA] at HA ⊢
  clear hW0 hkA
  refine (beach_c _).mono ?_
  rintro e v1a ⟨⟨g1, rfl, ht1⟩, hb1a⟩
  replace hs := hs.keep hb1a
  replace HA := Lib.hid (HA.out.keep hb1a)
  go_wp2_with fail
  refine (ship_c _).mono ?_
  rintro e v1b ⟨rfl, hb1b⟩
  replace hs := hs.keep hb1b
  replace HA := Lib.hid (HA.out.keep hb1b)
  go_wp2_with fail
  refine (stops_c exB exS _ 2 1 0 _ (ht1.keep hb1b)).mono ?_
  rintro e v1c ⟨rfl, hb1c⟩
  rw [kv_stops1]
  replace hs := hs.keep hb1c
  replace HA := Lib.hid (HA.out.keep hb1c)
  replace hs := hs.alloc (.cells #[.int .i64 9600, .int .i64 15500] 23)
  replace HA := Lib.hid (HA.out.keep ((Below.refl _ v1c).alloc (Nat.le_refl _) (.cells #[.int .i64 9600, .int .i64 15500] 23)))
  have HB := Lib.hid (Blk.new v1c 23 #[.int .i64 9600, .int .i64 15500])
  clear hb1a hb1b hb1c ht1
  go_wp2_with fail
  obtain ⟨kB, hkB⟩ : ∃ kB, v1c.heap.size = kB := ⟨_, rfl⟩
  obtain ⟨W1, hW1⟩ : ∃ W1, v1c.alloc (.cells #[.int .i64 9600, .int .i64 15500] 23) = W1 := ⟨_, rfl⟩
  rw [hW1] at hs HA HB ⊢
  rw [hkB] at HB ⊢
  clear hW1 hkB
  refine (beach_c _).mono ?_
  rintro e v2a ⟨⟨g2, rfl, ht2⟩, hb2a⟩
  replace hs := hs.keep hb2a
  replace HA := Lib.hid (HA.out.keep hb2a)
  replace HB := Lib.hid (HB.out.keep hb2a)
  go_wp2_with fail
  refine (ship_c _).mono ?_
  rintro e v2b ⟨rfl, hb2b⟩
  replace hs := hs.keep hb2b
  replace HA := Lib.hid (HA.out.keep hb2b)
  replace HB := Lib.hid (HB.out.keep hb2b)
  go_wp2_with fail
  refine (ashore_c exB exS _ 2 0 _ (ht2.keep hb2b)).mono ?_
  rintro e v2c ⟨⟨h0, _⟩ | ⟨_, vlc, rfl, hl⟩, hb2c⟩
  · exact absurd kv_ash0.1 h0
  rw [show exB.ts.length = 2 from rfl, kv_ash0.2] at hl
  have HIc := Lib.hid hl
  clear hl
  replace hs := hs.keep hb2c
  replace HA := Lib.hid (HA.out.keep hb2c)
  replace HB := Lib.hid (HB.out.keep hb2c)
  clear hb2a hb2b hb2c ht2
  go_wp2_with fail
  refine (beach_c _).mono ?_
  rintro e v3a ⟨⟨g3, rfl, ht3⟩, hb3a⟩
  replace hs := hs.keep hb3a
  replace HA := Lib.hid (HA.out.keep hb3a)
  replace HB := Lib.hid (HB.out.keep hb3a)
  replace HIc := Lib.hid (HIc.out.keep hb3a)
  go_wp2_with fail
  refine (ship_c _).mono ?_
  rintro e v3b ⟨rfl, hb3b⟩
  replace hs := hs.keep hb3b
  replace HA := Lib.hid (HA.out.keep hb3b)
  replace HB := Lib.hid (HB.out.keep hb3b)
  replace HIc := Lib.hid (HIc.out.keep hb3b)
  go_wp2_with fail
  refine (ashore_c exB exS _ 2 6 _ (ht3.keep hb3b)).mono ?_
  rintro e v3c ⟨⟨h0, _⟩ | ⟨_, vld, rfl, hl⟩, hb3c⟩
  · exact absurd kv_ash6.1 h0
  rw [show exB.ts.length = 2 from rfl, kv_ash6.2] at hl
  have HId := Lib.hid hl
  clear hl
  replace hs := hs.keep hb3c
  replace HA := Lib.hid (HA.out.keep hb3c)
  replace HB := Lib.hid (HB.out.keep hb3c)
  replace HIc := Lib.hid (HIc.out.keep hb3c)
  clear hb3a hb3b hb3c ht3
  go_wp2_with fail
  refine (beach_c _).mono ?_
  rintro e v4a ⟨⟨g4, rfl, ht4⟩, hb4a⟩
  replace hs := hs.keep hb4a
  replace HA := Lib.hid (HA.out.keep hb4a)
  replace HB := Lib.hid (HB.out.keep hb4a)
  replace HIc := Lib.hid (HIc.out.keep hb4a)
  replace HId := Lib.hid (HId.out.keep hb4a)
  go_wp2_with fail
  refine (ship_c _).mono ?_
  rintro e v4b ⟨rfl, hb4b⟩
  replace hs := hs.keep hb4b
  replace HA := Lib.hid (HA.out.keep hb4b)
  replace HB := Lib.hid (HB.out.keep hb4b)
  replace HIc := Lib.hid (HIc.out.keep hb4b)
  replace HId := Lib.hid (HId.out.keep hb4b)
  go_wp2_with fail
  refine (ashore_c exB exS _ 2 7 _ (ht4.keep hb4b)).mono ?_
  rintro e v4c ⟨⟨h0, _⟩ | ⟨_, vle, rfl, hl⟩, hb4c⟩
  · exact absurd kv_ash7.1 h0
  rw [show exB.ts.length = 2 from rfl, kv_ash7.2] at hl
  have HIe := Lib.hid hl
  clear hl
  replace hs := hs.keep hb4c
  replace HA := Lib.hid (HA.out.keep hb4c)
  replace HB := Lib.hid (HB.out.keep hb4c)
  replace HIc := Lib.hid (HIc.out.keep hb4c)
  replace HId := Lib.hid (HId.out.keep hb4c)
  clear hb4a hb4b hb4c ht4
  go_wp2_with fail
  refine (beach_c _).mono ?_
  rintro e v5a ⟨⟨g5, rfl, ht5⟩, hb5a⟩
  replace hs := hs.keep hb5a
  replace HA := Lib.hid (HA.out.keep hb5a)
  replace HB := Lib.hid (HB.out.keep hb5a)
  replace HIc := Lib.hid (HIc.out.keep hb5a)
  replace HId := Lib.hid (HId.out.keep hb5a)
  replace HIe := Lib.hid (HIe.out.keep hb5a)
  go_wp2_with fail
  refine (ship_c _).mono ?_
  rintro e v5b ⟨rfl, hb5b⟩
  replace hs := hs.keep hb5b
  replace HA := Lib.hid (HA.out.keep hb5b)
  replace HB := Lib.hid (HB.out.keep hb5b)
  replace HIc := Lib.hid (HIc.out.keep hb5b)
  replace HId := Lib.hid (HId.out.keep hb5b)
  replace HIe := Lib.hid (HIe.out.keep hb5b)
  go_wp2_with fail
  refine (tleast_c exB exS _ 2 0 _ (ht5.keep hb5b)).mono ?_
  rintro e v5c ⟨rfl, hb5c⟩
  rw [kv_least]
  replace hs := hs.keep hb5c
  replace HA := Lib.hid (HA.out.keep hb5c)
  replace HB := Lib.hid (HB.out.keep hb5c)
  replace HIc := Lib.hid (HIc.out.keep hb5c)
  replace HId := Lib.hid (HId.out.keep hb5c)
  replace HIe := Lib.hid (HIe.out.keep hb5c)
  clear hb5a hb5b hb5c ht5
  go_wp2_with fail
  refine (beach_c _).mono ?_
  rintro e v6a ⟨⟨g6, rfl, ht6⟩, hb6a⟩
  replace hs := hs.keep hb6a
  replace HA := Lib.hid (HA.out.keep hb6a)
  replace HB := Lib.hid (HB.out.keep hb6a)
  replace HIc := Lib.hid (HIc.out.keep hb6a)
  replace HId := Lib.hid (HId.out.keep hb6a)
  replace HIe := Lib.hid (HIe.out.keep hb6a)
  go_wp2_with fail
  refine (ship_c _).mono ?_
  rintro e v6b ⟨rfl, hb6b⟩
  replace hs := hs.keep hb6b
  replace HA := Lib.hid (HA.out.keep hb6b)
  replace HB := Lib.hid (HB.out.keep hb6b)
  replace HIc := Lib.hid (HIc.out.keep hb6b)
  replace HId := Lib.hid (HId.out.keep hb6b)
  replace HIe := Lib.hid (HIe.out.keep hb6b)
  go_wp2_with fail
  refine (first_c exB exS _ 2 3 _ (ht6.keep hb6b)).mono ?_
  rintro e v6c ⟨rfl, hb6c⟩
  rw [kv_first3]
  replace hs := hs.keep hb6c
  replace HA := Lib.hid (HA.out.keep hb6c)
  replace HB := Lib.hid (HB.out.keep hb6c)
  replace HIc := Lib.hid (HIc.out.keep hb6c)
  replace HId := Lib.hid (HId.out.keep hb6c)
  replace HIe := Lib.hid (HIe.out.keep hb6c)
  clear hb6a hb6b hb6c ht6
  go_wp2_with fail
  refine (beach_c _).mono ?_
  rintro e v7a ⟨⟨g7, rfl, ht7⟩, hb7a⟩
  replace hs := hs.keep hb7a
  replace HA := Lib.hid (HA.out.keep hb7a)
  replace HB := Lib.hid (HB.out.keep hb7a)
  replace HIc := Lib.hid (HIc.out.keep hb7a)
  replace HId := Lib.hid (HId.out.keep hb7a)
  replace HIe := Lib.hid (HIe.out.keep hb7a)
  go_wp2_with fail
  refine (ship_c _).mono ?_
  rintro e v7b ⟨rfl, hb7b⟩
  replace hs := hs.keep hb7b
  replace HA := Lib.hid (HA.out.keep hb7b)
  replace HB := Lib.hid (HB.out.keep hb7b)
  replace HIc := Lib.hid (HIc.out.keep hb7b)
  replace HId := Lib.hid (HId.out.keep hb7b)
  replace HIe := Lib.hid (HIe.out.keep hb7b)
  go_wp2_with fail
  refine (first_c exB exS _ 2 18 _ (ht7.keep hb7b)).mono ?_
  rintro e v7c ⟨rfl, hb7c⟩
  rw [kv_first18]
  replace hs := hs.keep hb7c
  replace HA := Lib.hid (HA.out.keep hb7c)
  replace HB := Lib.hid (HB.out.keep hb7c)
  replace HIc := Lib.hid (HIc.out.keep hb7c)
  replace HId := Lib.hid (HId.out.keep hb7c)
  replace HIe := Lib.hid (HIe.out.keep hb7c)
  clear hb7a hb7b hb7c ht7
  go_wp2_with fail
  refine (beach_c _).mono ?_
  rintro e v8a ⟨⟨g8, rfl, ht8⟩, hb8a⟩
  replace hs := hs.keep hb8a
  replace HA := Lib.hid (HA.out.keep hb8a)
  replace HB := Lib.hid (HB.out.keep hb8a)
  replace HIc := Lib.hid (HIc.out.keep hb8a)
  replace HId := Lib.hid (HId.out.keep hb8a)
  replace HIe := Lib.hid (HIe.out.keep hb8a)
  go_wp2_with fail
  refine (ship_c _).mono ?_
  rintro e v8b ⟨rfl, hb8b⟩
  replace hs := hs.keep hb8b
  replace HA := Lib.hid (HA.out.keep hb8b)
  replace HB := Lib.hid (HB.out.keep hb8b)
  replace HIc := Lib.hid (HIc.out.keep hb8b)
  replace HId := Lib.hid (HId.out.keep hb8b)
  replace HIe := Lib.hid (HIe.out.keep hb8b)
  go_wp2_with fail
  refine (misses_c exB exS _ 2 1 0 _ (ht8.keep hb8b)).mono ?_
  rintro e v8c ⟨rfl, hb8c⟩
  rw [kv_misses]
  replace hs := hs.keep hb8c
  replace HA := Lib.hid (HA.out.keep hb8c)
  replace HB := Lib.hid (HB.out.keep hb8c)
  replace HIc := Lib.hid (HIc.out.keep hb8c)
  replace HId := Lib.hid (HId.out.keep hb8c)
  replace HIe := Lib.hid (HIe.out.keep hb8c)
  replace hs := hs.alloc (.cells #[.int .i64 20, .int .i64 300, .int .i64 560, .int .i64 (-10)] 45)
  replace HA := Lib.hid (HA.out.keep ((Below.refl _ v8c).alloc (Nat.le_refl _) (.cells #[.int .i64 20, .int .i64 300, .int .i64 560, .int .i64 (-10)] 45)))
  replace HB := Lib.hid (HB.out.keep ((Below.refl _ v8c).alloc (Nat.le_refl _) (.cells #[.int .i64 20, .int .i64 300, .int .i64 560, .int .i64 (-10)] 45)))
  replace HIc := Lib.hid (HIc.out.keep ((Below.refl _ v8c).alloc (Nat.le_refl _) (.cells #[.int .i64 20, .int .i64 300, .int .i64 560, .int .i64 (-10)] 45)))
  replace HId := Lib.hid (HId.out.keep ((Below.refl _ v8c).alloc (Nat.le_refl _) (.cells #[.int .i64 20, .int .i64 300, .int .i64 560, .int .i64 (-10)] 45)))
  replace HIe := Lib.hid (HIe.out.keep ((Below.refl _ v8c).alloc (Nat.le_refl _) (.cells #[.int .i64 20, .int .i64 300, .int .i64 560, .int .i64 (-10)] 45)))
  have HT := Lib.hid (Blk.new v8c 45 #[.int .i64 20, .int .i64 300, .int .i64 560, .int .i64 (-10)])
  clear hb8a hb8b hb8c ht8
  go_wp2_with fail
  obtain ⟨kT, hkT⟩ : ∃ kT, v8c.heap.size = kT := ⟨_, rfl⟩
  obtain ⟨W8, hW8⟩ : ∃ W8, v8c.alloc (.cells #[.int .i64 20, .int .i64 300, .int .i64 560, .int .i64 (-10)] 45) = W8 := ⟨_, rfl⟩
  rw [hW8] at hs HA HB HIc HId HIe HT ⊢
  rw [hkT] at HT ⊢
  clear hW8 hkT
  refine (beach_c _).mono ?_
  rintro e v9a ⟨⟨g9, rfl, ht9⟩, hb9a⟩
  replace hs := hs.keep hb9a
  replace HA := Lib.hid (HA.out.keep hb9a)
  replace HB := Lib.hid (HB.out.keep hb9a)
  replace HIc := Lib.hid (HIc.out.keep hb9a)
  replace HId := Lib.hid (HId.out.keep hb9a)
  replace HIe := Lib.hid (HIe.out.keep hb9a)
  replace HT := Lib.hid (HT.out.keep hb9a)
  go_wp2_with fail
  refine (ship_c _).mono ?_
  rintro e v9b ⟨rfl, hb9b⟩
  replace hs := hs.keep hb9b
  replace HA := Lib.hid (HA.out.keep hb9b)
  replace HB := Lib.hid (HB.out.keep hb9b)
  replace HIc := Lib.hid (HIc.out.keep hb9b)
  replace HId := Lib.hid (HId.out.keep hb9b)
  replace HIe := Lib.hid (HIe.out.keep hb9b)
  replace HT := Lib.hid (HT.out.keep hb9b)
  go_wp2_with fail
  refine (tlies_c exB exS _ 2 ⟨0, 0⟩ none [] 0 _ (ht9.keep hb9b) (fun h => absurd rfl h)).mono ?_
  rintro e v9c ⟨rfl, hb9c⟩
  rw [kv_lies0]
  replace hs := hs.keep hb9c
  replace HA := Lib.hid (HA.out.keep hb9c)
  replace HB := Lib.hid (HB.out.keep hb9c)
  replace HIc := Lib.hid (HIc.out.keep hb9c)
  replace HId := Lib.hid (HId.out.keep hb9c)
  replace HIe := Lib.hid (HIe.out.keep hb9c)
  replace HT := Lib.hid (HT.out.keep hb9c)
  replace hs := hs.alloc (.cells #[.int .i64 7200, .int .i64 12000] 23)
  replace HA := Lib.hid (HA.out.keep ((Below.refl _ v9c).alloc (Nat.le_refl _) (.cells #[.int .i64 7200, .int .i64 12000] 23)))
  replace HB := Lib.hid (HB.out.keep ((Below.refl _ v9c).alloc (Nat.le_refl _) (.cells #[.int .i64 7200, .int .i64 12000] 23)))
  replace HIc := Lib.hid (HIc.out.keep ((Below.refl _ v9c).alloc (Nat.le_refl _) (.cells #[.int .i64 7200, .int .i64 12000] 23)))
  replace HId := Lib.hid (HId.out.keep ((Below.refl _ v9c).alloc (Nat.le_refl _) (.cells #[.int .i64 7200, .int .i64 12000] 23)))
  replace HIe := Lib.hid (HIe.out.keep ((Below.refl _ v9c).alloc (Nat.le_refl _) (.cells #[.int .i64 7200, .int .i64 12000] 23)))
  replace HT := Lib.hid (HT.out.keep ((Below.refl _ v9c).alloc (Nat.le_refl _) (.cells #[.int .i64 7200, .int .i64 12000] 23)))
  have HX := Lib.hid (Blk.new v9c 23 #[.int .i64 7200, .int .i64 12000])
  clear hb9a hb9b hb9c ht9
  go_wp2_with fail
  obtain ⟨kX, hkX⟩ : ∃ kX, v9c.heap.size = kX := ⟨_, rfl⟩
  obtain ⟨W9, hW9⟩ : ∃ W9, v9c.alloc (.cells #[.int .i64 7200, .int .i64 12000] 23) = W9 := ⟨_, rfl⟩
  rw [hW9] at hs HA HB HIc HId HIe HT HX ⊢
  rw [hkX] at HX ⊢
  clear hW9 hkX
  refine (beach_c _).mono ?_
  rintro e v10a ⟨⟨g10, rfl, ht10⟩, hb10a⟩
  replace hs := hs.keep hb10a
  replace HA := Lib.hid (HA.out.keep hb10a)
  replace HB := Lib.hid (HB.out.keep hb10a)
  replace HIc := Lib.hid (HIc.out.keep hb10a)
  replace HId := Lib.hid (HId.out.keep hb10a)
  replace HIe := Lib.hid (HIe.out.keep hb10a)
  replace HT := Lib.hid (HT.out.keep hb10a)
  replace HX := Lib.hid (HX.out.keep hb10a)
  go_wp2_with fail
  refine (ship_c _).mono ?_
  rintro e v10b ⟨rfl, hb10b⟩
  replace hs := hs.keep hb10b
  replace HA := Lib.hid (HA.out.keep hb10b)
  replace HB := Lib.hid (HB.out.keep hb10b)
  replace HIc := Lib.hid (HIc.out.keep hb10b)
  replace HId := Lib.hid (HId.out.keep hb10b)
  replace HIe := Lib.hid (HIe.out.keep hb10b)
  replace HT := Lib.hid (HT.out.keep hb10b)
  replace HX := Lib.hid (HX.out.keep hb10b)
  have HPu := Lib.hid (PuAt.one (p := ⟨1, 0⟩) (Blk.new v10b 49 #[.int .i64 1, .int .i64 0]))
  have HTs := Lib.hid ((ht10.keep hb10b).keep ((Below.refl _ v10b).alloc (Nat.le_refl _) (.cells #[.int .i64 1, .int .i64 0] 49)))
  replace hs := hs.alloc (.cells #[.int .i64 1, .int .i64 0] 49)
  replace HA := Lib.hid (HA.out.keep ((Below.refl _ v10b).alloc (Nat.le_refl _) (.cells #[.int .i64 1, .int .i64 0] 49)))
  replace HB := Lib.hid (HB.out.keep ((Below.refl _ v10b).alloc (Nat.le_refl _) (.cells #[.int .i64 1, .int .i64 0] 49)))
  replace HIc := Lib.hid (HIc.out.keep ((Below.refl _ v10b).alloc (Nat.le_refl _) (.cells #[.int .i64 1, .int .i64 0] 49)))
  replace HId := Lib.hid (HId.out.keep ((Below.refl _ v10b).alloc (Nat.le_refl _) (.cells #[.int .i64 1, .int .i64 0] 49)))
  replace HIe := Lib.hid (HIe.out.keep ((Below.refl _ v10b).alloc (Nat.le_refl _) (.cells #[.int .i64 1, .int .i64 0] 49)))
  replace HT := Lib.hid (HT.out.keep ((Below.refl _ v10b).alloc (Nat.le_refl _) (.cells #[.int .i64 1, .int .i64 0] 49)))
  replace HX := Lib.hid (HX.out.keep ((Below.refl _ v10b).alloc (Nat.le_refl _) (.cells #[.int .i64 1, .int .i64 0] 49)))
  go_wp2_with fail
  refine (tlies_c exB exS _ 2 ⟨0, 0⟩ (some ⟨v10b.heap.size, 0, none⟩) [⟨1, 0⟩] 1 _ HTs.out HPu.out).mono ?_
  rintro e v10c ⟨rfl, hb10c⟩
  rw [kv_lies1]
  replace hs := hs.keep hb10c
  replace HA := Lib.hid (HA.out.keep hb10c)
  replace HB := Lib.hid (HB.out.keep hb10c)
  replace HIc := Lib.hid (HIc.out.keep hb10c)
  replace HId := Lib.hid (HId.out.keep hb10c)
  replace HIe := Lib.hid (HIe.out.keep hb10c)
  replace HT := Lib.hid (HT.out.keep hb10c)
  replace HX := Lib.hid (HX.out.keep hb10c)
  replace hs := hs.alloc (.cells #[.int .i64 11600, .int .i64 18000] 23)
  replace HA := Lib.hid (HA.out.keep ((Below.refl _ v10c).alloc (Nat.le_refl _) (.cells #[.int .i64 11600, .int .i64 18000] 23)))
  replace HB := Lib.hid (HB.out.keep ((Below.refl _ v10c).alloc (Nat.le_refl _) (.cells #[.int .i64 11600, .int .i64 18000] 23)))
  replace HIc := Lib.hid (HIc.out.keep ((Below.refl _ v10c).alloc (Nat.le_refl _) (.cells #[.int .i64 11600, .int .i64 18000] 23)))
  replace HId := Lib.hid (HId.out.keep ((Below.refl _ v10c).alloc (Nat.le_refl _) (.cells #[.int .i64 11600, .int .i64 18000] 23)))
  replace HIe := Lib.hid (HIe.out.keep ((Below.refl _ v10c).alloc (Nat.le_refl _) (.cells #[.int .i64 11600, .int .i64 18000] 23)))
  replace HT := Lib.hid (HT.out.keep ((Below.refl _ v10c).alloc (Nat.le_refl _) (.cells #[.int .i64 11600, .int .i64 18000] 23)))
  replace HX := Lib.hid (HX.out.keep ((Below.refl _ v10c).alloc (Nat.le_refl _) (.cells #[.int .i64 11600, .int .i64 18000] 23)))
  have HY := Lib.hid (Blk.new v10c 23 #[.int .i64 11600, .int .i64 18000])
  clear hb10a hb10b hb10c ht10
  clear HPu HTs
  go_wp2_with fail
  obtain ⟨kY, hkY⟩ : ∃ kY, v10c.heap.size = kY := ⟨_, rfl⟩
  obtain ⟨W10, hW10⟩ : ∃ W10, v10c.alloc (.cells #[.int .i64 11600, .int .i64 18000] 23) = W10 := ⟨_, rfl⟩
  rw [hW10] at hs HA HB HIc HId HIe HT HX HY ⊢
  rw [hkY] at HY ⊢
  clear hW10 hkY
  obtain ⟨P, pc, hvl, hin⟩ := HIc.out.slice
  subst hvl
  obtain ⟨P2, pc2, hvl, hin2⟩ := HId.out.slice
  subst hvl
  have hvl := HIe.out.nil
  subst hvl
  have hA : C2 kA 7200 12000 W10 := ⟨HA.out.cell 0, HA.out.cell 1⟩
  have hB : C2 kB 9600 15500 W10 := ⟨HB.out.cell 0, HB.out.cell 1⟩
  have hT : C4 kT 20 300 560 (-10) W10 := ⟨HT.out.cell 0, HT.out.cell 1, HT.out.cell 2, HT.out.cell 3⟩
  have hX : C2 kX 7200 12000 W10 := ⟨HX.out.cell 0, HX.out.cell 1⟩
  have hY : C2 kY 11600 18000 W10 := ⟨HY.out.cell 0, HY.out.cell 1⟩
  clear HIc HId HIe HA HB HT HX HY
  have hq0 : ∀ W, (Op.equalIn 10000 23 (.agg #[.int .i64 7200, .int .i64 12000]) (.agg #[.int .i64 7200, .int .i64 12000])).run Try.prog W = .ok true W := fun _ => by kernel_rfl
  have hq1 : ∀ W, (Op.equalIn 10000 23 (.agg #[.int .i64 9600, .int .i64 15500]) (.agg #[.int .i64 9600, .int .i64 15500])).run Try.prog W = .ok true W := fun _ => by kernel_rfl
  have hq2 : ∀ W, (Op.equalIn 10000 23 (.agg #[.int .i64 11600, .int .i64 18000]) (.agg #[.int .i64 11600, .int .i64 18000])).run Try.prog W = .ok true W := fun _ => by kernel_rfl
  have hq9 : ∀ W, (Op.equalIn 10000 45 (.agg #[.int .i64 20, .int .i64 300, .int .i64 560, .int .i64 (-10)]) (.agg #[.int .i64 20, .int .i64 300, .int .i64 560, .int .i64 (-10)])).run Try.prog W = .ok true W := fun _ => by kernel_rfl
  simp only [List.append_eq, List.cons_append, List.nil_append]
  have hstab : Vals5.Stable (.has (fun v X => ∃ g, v = .slice (some ⟨g, 0, none⟩) 1 1 ∧ Blk X g 3 #[.int .i64 0])) := by
    rintro v X X' ⟨g, h1, h2⟩ hb
    exact ⟨g, h1, h2.keep hb⟩
  refine Vals5.regionAll (fun X => C2 kA 7200 12000 X ∧ C2 kB 9600 15500 X ∧ C4 kT 20 300 560 (-10) X ∧ C2 kX 7200 12000 X ∧ C2 kY 11600 18000 X ∧ InAt X P [0] ∧ InAt X P2 [0] ∧ Since w X) [some 99, some 100, some 101, some 102, some 103, some 104, some 105, some 106, some 107, some 108, some 109, some 110, some 111, some 112, some 113, some 114, some 115, some 116, some 117, some 118, some 119, some 120, some 121, some 122, some 123, some 124, some 125, some 126, some 127, some 128, some 129, some 130, some 131, some 132, some 133, some 134, some 135, some 136, some 137, some 138, some 139, some 140, some 141, some 142, some 143, some 144, some 145, some 146, some 147, some 148, some 149, some 150, some 151, some 152, some 153, some 154, some 155, some 156, some 157, some 158, some 159, some 160, some 161, some 162, some 163, some 164, some 165, some 166, some 167, some 168, some 169, some 170, some 171, some 172, some 173, some 174, some 175, some 176, some 177, some 178, some 179, some 180, some 181, some 182, some 183, some 184, some 185, some 186, some 187, some 188, some 189, some 190, some 191, some 192, some 193, some 194, some 195, some 196, some 197, some 198, some 199, some 0] [.is (.int .i64 0), .is (.bool true), .is (.bool true), .is (.int .i64 0), .is (.bool true), .is (.bool true), .is (.bool true), .is (.int .i64 0), .is (.bool true), .is (.bool true), .is (.bool true), .is (.int .i64 0), .is (.bool true), .is (.bool true), .is (.bool true), .is (.int .i64 0), .is (.bool true), .is (.bool true), .is (.bool true), .is (.int .i64 0), .is (.bool true), .is (.bool true), .is (.bool true), .is (.int .i64 0), .is (.bool true), .is (.bool true), .is (.bool true), .is (.int .i64 9), .is (.bool true), .is (.bool true), .is (.bool true), .is (.int .i64 0), .is (.bool true), .is (.bool true), .is (.bool true), .is (.int .i64 0), .is (.bool true), .is (.bool true), .is (.bool true), .is (.int .i64 0), .is (.bool true), .is (.bool true), .is (.bool true), .is (.agg #[.int .i64 7200, .int .i64 12000]), .is (.agg #[.int .i64 7200, .int .i64 12000]), .is (.bool true), .is (.bool true), .is (.bool true), .is (.agg #[.int .i64 9600, .int .i64 15500]), .is (.agg #[.int .i64 9600, .int .i64 15500]), .is (.bool true), .is (.bool true), .is (.bool true), .is (.slice P 1 pc), .has (fun v X => ∃ g, v = .slice (some ⟨g, 0, none⟩) 1 1 ∧ Blk X g 3 #[.int .i64 0]), .is (.bool true), .is (.bool true), .is (.bool true), .is (.slice P2 1 pc2), .has (fun v X => ∃ g, v = .slice (some ⟨g, 0, none⟩) 1 1 ∧ Blk X g 3 #[.int .i64 0]), .is (.bool true), .is (.bool true), .is (.bool true), .is (.slice none 0 0), .is (.int .i64 0), .is (.bool true), .is (.bool true), .is (.bool true), .is (.int .i64 0), .is (.bool true), .is (.bool true), .is (.bool true), .is (.int .i64 0), .is (.bool true), .is (.bool true), .is (.bool true), .is (.int .i64 0), .is (.bool true), .is (.bool true), .is (.bool true), .is (.agg #[.int .i64 20, .int .i64 300, .int .i64 560, .int .i64 (-10)]), .is (.agg #[.int .i64 20, .int .i64 300, .int .i64 560, .int .i64 (-10)]), .is (.bool true), .is (.bool true), .is (.bool true), .is (.int .i64 12500), .is (.bool true), .is (.bool true), .is (.bool true), .is (.agg #[.int .i64 7200, .int .i64 12000]), .is (.agg #[.int .i64 7200, .int .i64 12000]), .is (.bool true), .is (.bool true), .is (.bool true), .is (.agg #[.int .i64 11600, .int .i64 18000]), .is (.agg #[.int .i64 11600, .int .i64 18000]), .is (.bool true), .is (.bool true), .is (.bool true), .is (.bool true), .is (.bool true), .is (.bool true)] (by kernel_rfl) (by kernel_rfl) (by kernel_rfl) (by kernel_rfl) (by kernel_rfl) (by kernel_rfl) (by kernel_rfl) ⟨hA.drew, hB.drew, hT.drew, hX.drew, hY.drew, hin.drew, hin2.drew, hs.drew⟩ ?_ ?_
  · refine Vals5.Steps.run (by kernel_rfl) (Vals5.Stable.is _) ?_ ?_
    · intro a W hSt pre old K hK
      have e2 : a.tmps.getD 2 undef = .int .i64 0 := old 2 _ (by kernel_rfl) rfl
      clear pre old
      simp only [Array.getD_eq_getD_getElem?] at e2
      go_simp
      exact hK _ _ hSt (Below.refl _ _) rfl
    refine Vals5.Steps.run (by kernel_rfl) (Vals5.Stable.is _) ?_ ?_
    · intro a W hSt pre old K hK
      have e99 : a.tmps.getD 99 undef = .int .i64 0 := pre 0 99 _ (by kernel_rfl) rfl rfl
      clear pre old
      simp only [Array.getD_eq_getD_getElem?] at e99
      go_simp
      exact hK _ _ hSt (Below.refl _ _) rfl
    refine Vals5.Steps.run (by kernel_rfl) (Vals5.Stable.is _) ?_ ?_
    · intro a W hSt pre old K hK
      have e100 : a.tmps.getD 100 undef = .bool true := pre 1 100 _ (by kernel_rfl) rfl rfl
      clear pre old
      simp only [Array.getD_eq_getD_getElem?] at e100
      go_simp
      exact hK _ _ hSt (Below.refl _ _) rfl
    refine Vals5.Steps.run (by kernel_rfl) (Vals5.Stable.is _) ?_ ?_
    · intro a W hSt pre old K hK
      have e4 : a.tmps.getD 4 undef = .int .i64 0 := old 4 _ (by kernel_rfl) rfl
      clear pre old
      simp only [Array.getD_eq_getD_getElem?] at e4
      go_simp
      exact hK _ _ hSt (Below.refl _ _) rfl
    refine Vals5.Steps.run (by kernel_rfl) (Vals5.Stable.is _) ?_ ?_
    · intro a W hSt pre old K hK
      have e102 : a.tmps.getD 102 undef = .int .i64 0 := pre 3 102 _ (by kernel_rfl) rfl rfl
      clear pre old
      simp only [Array.getD_eq_getD_getElem?] at e102
      go_simp
      exact hK _ _ hSt (Below.refl _ _) rfl
    refine Vals5.Steps.run (by kernel_rfl) (Vals5.Stable.is _) ?_ ?_
    · intro a W hSt pre old K hK
      have e101 : a.tmps.getD 101 undef = .bool true := pre 2 101 _ (by kernel_rfl) rfl rfl
      have e103 : a.tmps.getD 103 undef = .bool true := pre 4 103 _ (by kernel_rfl) rfl rfl
      clear pre old
      simp only [Array.getD_eq_getD_getElem?] at e101 e103
      go_simp
      exact hK _ _ hSt (Below.refl _ _) rfl
    refine Vals5.Steps.run (by kernel_rfl) (Vals5.Stable.is _) ?_ ?_
    · intro a W hSt pre old K hK
      have e104 : a.tmps.getD 104 undef = .bool true := pre 5 104 _ (by kernel_rfl) rfl rfl
      clear pre old
      simp only [Array.getD_eq_getD_getElem?] at e104
      go_simp
      exact hK _ _ hSt (Below.refl _ _) rfl
    refine Vals5.Steps.run (by kernel_rfl) (Vals5.Stable.is _) ?_ ?_
    · intro a W hSt pre old K hK
      have e6 : a.tmps.getD 6 undef = .int .i64 0 := old 6 _ (by kernel_rfl) rfl
      clear pre old
      simp only [Array.getD_eq_getD_getElem?] at e6
      go_simp
      exact hK _ _ hSt (Below.refl _ _) rfl
    refine Vals5.Steps.run (by kernel_rfl) (Vals5.Stable.is _) ?_ ?_
    · intro a W hSt pre old K hK
      have e106 : a.tmps.getD 106 undef = .int .i64 0 := pre 7 106 _ (by kernel_rfl) rfl rfl
      clear pre old
      simp only [Array.getD_eq_getD_getElem?] at e106
      go_simp
      exact hK _ _ hSt (Below.refl _ _) rfl
    refine Vals5.Steps.run (by kernel_rfl) (Vals5.Stable.is _) ?_ ?_
    · intro a W hSt pre old K hK
      have e105 : a.tmps.getD 105 undef = .bool true := pre 6 105 _ (by kernel_rfl) rfl rfl
      have e107 : a.tmps.getD 107 undef = .bool true := pre 8 107 _ (by kernel_rfl) rfl rfl
      clear pre old
      simp only [Array.getD_eq_getD_getElem?] at e105 e107
      go_simp
      exact hK _ _ hSt (Below.refl _ _) rfl
    refine Vals5.Steps.run (by kernel_rfl) (Vals5.Stable.is _) ?_ ?_
    · intro a W hSt pre old K hK
      have e108 : a.tmps.getD 108 undef = .bool true := pre 9 108 _ (by kernel_rfl) rfl rfl
      clear pre old
      simp only [Array.getD_eq_getD_getElem?] at e108
      go_simp
      exact hK _ _ hSt (Below.refl _ _) rfl
    refine Vals5.Steps.run (by kernel_rfl) (Vals5.Stable.is _) ?_ ?_
    · intro a W hSt pre old K hK
      have e8 : a.tmps.getD 8 undef = .int .i64 0 := old 8 _ (by kernel_rfl) rfl
      clear pre old
      simp only [Array.getD_eq_getD_getElem?] at e8
      go_simp
      exact hK _ _ hSt (Below.refl _ _) rfl
    refine Vals5.Steps.run (by kernel_rfl) (Vals5.Stable.is _) ?_ ?_
    · intro a W hSt pre old K hK
      have e110 : a.tmps.getD 110 undef = .int .i64 0 := pre 11 110 _ (by kernel_rfl) rfl rfl
      clear pre old
      simp only [Array.getD_eq_getD_getElem?] at e110
      go_simp
      exact hK _ _ hSt (Below.refl _ _) rfl
    refine Vals5.Steps.run (by kernel_rfl) (Vals5.Stable.is _) ?_ ?_
    · intro a W hSt pre old K hK
      have e109 : a.tmps.getD 109 undef = .bool true := pre 10 109 _ (by kernel_rfl) rfl rfl
      have e111 : a.tmps.getD 111 undef = .bool true := pre 12 111 _ (by kernel_rfl) rfl rfl
      clear pre old
      simp only [Array.getD_eq_getD_getElem?] at e109 e111
      go_simp
      exact hK _ _ hSt (Below.refl _ _) rfl
    refine Vals5.Steps.run (by kernel_rfl) (Vals5.Stable.is _) ?_ ?_
    · intro a W hSt pre old K hK
      have e112 : a.tmps.getD 112 undef = .bool true := pre 13 112 _ (by kernel_rfl) rfl rfl
      clear pre old
      simp only [Array.getD_eq_getD_getElem?] at e112
      go_simp
      exact hK _ _ hSt (Below.refl _ _) rfl
    refine Vals5.Steps.run (by kernel_rfl) (Vals5.Stable.is _) ?_ ?_
    · intro a W hSt pre old K hK
      have e10 : a.tmps.getD 10 undef = .int .i64 0 := old 10 _ (by kernel_rfl) rfl
      clear pre old
      simp only [Array.getD_eq_getD_getElem?] at e10
      go_simp
      exact hK _ _ hSt (Below.refl _ _) rfl
    refine Vals5.Steps.run (by kernel_rfl) (Vals5.Stable.is _) ?_ ?_
    · intro a W hSt pre old K hK
      have e114 : a.tmps.getD 114 undef = .int .i64 0 := pre 15 114 _ (by kernel_rfl) rfl rfl
      clear pre old
      simp only [Array.getD_eq_getD_getElem?] at e114
      go_simp
      exact hK _ _ hSt (Below.refl _ _) rfl
    refine Vals5.Steps.run (by kernel_rfl) (Vals5.Stable.is _) ?_ ?_
    · intro a W hSt pre old K hK
      have e113 : a.tmps.getD 113 undef = .bool true := pre 14 113 _ (by kernel_rfl) rfl rfl
      have e115 : a.tmps.getD 115 undef = .bool true := pre 16 115 _ (by kernel_rfl) rfl rfl
      clear pre old
      simp only [Array.getD_eq_getD_getElem?] at e113 e115
      go_simp
      exact hK _ _ hSt (Below.refl _ _) rfl
    refine Vals5.Steps.run (by kernel_rfl) (Vals5.Stable.is _) ?_ ?_
    · intro a W hSt pre old K hK
      have e116 : a.tmps.getD 116 undef = .bool true := pre 17 116 _ (by kernel_rfl) rfl rfl
      clear pre old
      simp only [Array.getD_eq_getD_getElem?] at e116
      go_simp
      exact hK _ _ hSt (Below.refl _ _) rfl
    refine Vals5.Steps.run (by kernel_rfl) (Vals5.Stable.is _) ?_ ?_
    · intro a W hSt pre old K hK
      have e12 : a.tmps.getD 12 undef = .int .i64 0 := old 12 _ (by kernel_rfl) rfl
      clear pre old
      simp only [Array.getD_eq_getD_getElem?] at e12
      go_simp
      exact hK _ _ hSt (Below.refl _ _) rfl
    refine Vals5.Steps.run (by kernel_rfl) (Vals5.Stable.is _) ?_ ?_
    · intro a W hSt pre old K hK
      have e118 : a.tmps.getD 118 undef = .int .i64 0 := pre 19 118 _ (by kernel_rfl) rfl rfl
      clear pre old
      simp only [Array.getD_eq_getD_getElem?] at e118
      go_simp
      exact hK _ _ hSt (Below.refl _ _) rfl
    refine Vals5.Steps.run (by kernel_rfl) (Vals5.Stable.is _) ?_ ?_
    · intro a W hSt pre old K hK
      have e117 : a.tmps.getD 117 undef = .bool true := pre 18 117 _ (by kernel_rfl) rfl rfl
      have e119 : a.tmps.getD 119 undef = .bool true := pre 20 119 _ (by kernel_rfl) rfl rfl
      clear pre old
      simp only [Array.getD_eq_getD_getElem?] at e117 e119
      go_simp
      exact hK _ _ hSt (Below.refl _ _) rfl
    refine Vals5.Steps.run (by kernel_rfl) (Vals5.Stable.is _) ?_ ?_
    · intro a W hSt pre old K hK
      have e120 : a.tmps.getD 120 undef = .bool true := pre 21 120 _ (by kernel_rfl) rfl rfl
      clear pre old
      simp only [Array.getD_eq_getD_getElem?] at e120
      go_simp
      exact hK _ _ hSt (Below.refl _ _) rfl
    refine Vals5.Steps.run (by kernel_rfl) (Vals5.Stable.is _) ?_ ?_
    · intro a W hSt pre old K hK
      have e15 : a.tmps.getD 15 undef = .int .i64 0 := old 15 _ (by kernel_rfl) rfl
      clear pre old
      simp only [Array.getD_eq_getD_getElem?] at e15
      go_simp
      exact hK _ _ hSt (Below.refl _ _) rfl
    refine Vals5.Steps.run (by kernel_rfl) (Vals5.Stable.is _) ?_ ?_
    · intro a W hSt pre old K hK
      have e122 : a.tmps.getD 122 undef = .int .i64 0 := pre 23 122 _ (by kernel_rfl) rfl rfl
      clear pre old
      simp only [Array.getD_eq_getD_getElem?] at e122
      go_simp
      exact hK _ _ hSt (Below.refl _ _) rfl
    refine Vals5.Steps.run (by kernel_rfl) (Vals5.Stable.is _) ?_ ?_
    · intro a W hSt pre old K hK
      have e121 : a.tmps.getD 121 undef = .bool true := pre 22 121 _ (by kernel_rfl) rfl rfl
      have e123 : a.tmps.getD 123 undef = .bool true := pre 24 123 _ (by kernel_rfl) rfl rfl
      clear pre old
      simp only [Array.getD_eq_getD_getElem?] at e121 e123
      go_simp
      exact hK _ _ hSt (Below.refl _ _) rfl
    refine Vals5.Steps.run (by kernel_rfl) (Vals5.Stable.is _) ?_ ?_
    · intro a W hSt pre old K hK
      have e124 : a.tmps.getD 124 undef = .bool true := pre 25 124 _ (by kernel_rfl) rfl rfl
      clear pre old
      simp only [Array.getD_eq_getD_getElem?] at e124
      go_simp
      exact hK _ _ hSt (Below.refl _ _) rfl
    refine Vals5.Steps.run (by kernel_rfl) (Vals5.Stable.is _) ?_ ?_
    · intro a W hSt pre old K hK
      have e18 : a.tmps.getD 18 undef = .int .i64 9 := old 18 _ (by kernel_rfl) rfl
      clear pre old
      simp only [Array.getD_eq_getD_getElem?] at e18
      go_simp
      exact hK _ _ hSt (Below.refl _ _) rfl
    refine Vals5.Steps.run (by kernel_rfl) (Vals5.Stable.is _) ?_ ?_
    · intro a W hSt pre old K hK
      have e126 : a.tmps.getD 126 undef = .int .i64 9 := pre 27 126 _ (by kernel_rfl) rfl rfl
      clear pre old
      simp only [Array.getD_eq_getD_getElem?] at e126
      go_simp
      exact hK _ _ hSt (Below.refl _ _) rfl
    refine Vals5.Steps.run (by kernel_rfl) (Vals5.Stable.is _) ?_ ?_
    · intro a W hSt pre old K hK
      have e125 : a.tmps.getD 125 undef = .bool true := pre 26 125 _ (by kernel_rfl) rfl rfl
      have e127 : a.tmps.getD 127 undef = .bool true := pre 28 127 _ (by kernel_rfl) rfl rfl
      clear pre old
      simp only [Array.getD_eq_getD_getElem?] at e125 e127
      go_simp
      exact hK _ _ hSt (Below.refl _ _) rfl
    refine Vals5.Steps.run (by kernel_rfl) (Vals5.Stable.is _) ?_ ?_
    · intro a W hSt pre old K hK
      have e128 : a.tmps.getD 128 undef = .bool true := pre 29 128 _ (by kernel_rfl) rfl rfl
      clear pre old
      simp only [Array.getD_eq_getD_getElem?] at e128
      go_simp
      exact hK _ _ hSt (Below.refl _ _) rfl
    refine Vals5.Steps.run (by kernel_rfl) (Vals5.Stable.is _) ?_ ?_
    · intro a W hSt pre old K hK
      have e21 : a.tmps.getD 21 undef = .int .i64 0 := old 21 _ (by kernel_rfl) rfl
      clear pre old
      simp only [Array.getD_eq_getD_getElem?] at e21
      go_simp
      exact hK _ _ hSt (Below.refl _ _) rfl
    refine Vals5.Steps.run (by kernel_rfl) (Vals5.Stable.is _) ?_ ?_
    · intro a W hSt pre old K hK
      have e130 : a.tmps.getD 130 undef = .int .i64 0 := pre 31 130 _ (by kernel_rfl) rfl rfl
      clear pre old
      simp only [Array.getD_eq_getD_getElem?] at e130
      go_simp
      exact hK _ _ hSt (Below.refl _ _) rfl
    refine Vals5.Steps.run (by kernel_rfl) (Vals5.Stable.is _) ?_ ?_
    · intro a W hSt pre old K hK
      have e129 : a.tmps.getD 129 undef = .bool true := pre 30 129 _ (by kernel_rfl) rfl rfl
      have e131 : a.tmps.getD 131 undef = .bool true := pre 32 131 _ (by kernel_rfl) rfl rfl
      clear pre old
      simp only [Array.getD_eq_getD_getElem?] at e129 e131
      go_simp
      exact hK _ _ hSt (Below.refl _ _) rfl
    refine Vals5.Steps.run (by kernel_rfl) (Vals5.Stable.is _) ?_ ?_
    · intro a W hSt pre old K hK
      have e132 : a.tmps.getD 132 undef = .bool true := pre 33 132 _ (by kernel_rfl) rfl rfl
      clear pre old
      simp only [Array.getD_eq_getD_getElem?] at e132
      go_simp
      exact hK _ _ hSt (Below.refl _ _) rfl
    refine Vals5.Steps.run (by kernel_rfl) (Vals5.Stable.is _) ?_ ?_
    · intro a W hSt pre old K hK
      have e23 : a.tmps.getD 23 undef = .int .i64 0 := old 23 _ (by kernel_rfl) rfl
      clear pre old
      simp only [Array.getD_eq_getD_getElem?] at e23
      go_simp
      exact hK _ _ hSt (Below.refl _ _) rfl
    refine Vals5.Steps.run (by kernel_rfl) (Vals5.Stable.is _) ?_ ?_
    · intro a W hSt pre old K hK
      have e134 : a.tmps.getD 134 undef = .int .i64 0 := pre 35 134 _ (by kernel_rfl) rfl rfl
      clear pre old
      simp only [Array.getD_eq_getD_getElem?] at e134
      go_simp
      exact hK _ _ hSt (Below.refl _ _) rfl
    refine Vals5.Steps.run (by kernel_rfl) (Vals5.Stable.is _) ?_ ?_
    · intro a W hSt pre old K hK
      have e133 : a.tmps.getD 133 undef = .bool true := pre 34 133 _ (by kernel_rfl) rfl rfl
      have e135 : a.tmps.getD 135 undef = .bool true := pre 36 135 _ (by kernel_rfl) rfl rfl
      clear pre old
      simp only [Array.getD_eq_getD_getElem?] at e133 e135
      go_simp
      exact hK _ _ hSt (Below.refl _ _) rfl
    refine Vals5.Steps.run (by kernel_rfl) (Vals5.Stable.is _) ?_ ?_
    · intro a W hSt pre old K hK
      have e136 : a.tmps.getD 136 undef = .bool true := pre 37 136 _ (by kernel_rfl) rfl rfl
      clear pre old
      simp only [Array.getD_eq_getD_getElem?] at e136
      go_simp
      exact hK _ _ hSt (Below.refl _ _) rfl
    refine Vals5.Steps.run (by kernel_rfl) (Vals5.Stable.is _) ?_ ?_
    · intro a W hSt pre old K hK
      have e25 : a.tmps.getD 25 undef = .int .i64 0 := old 25 _ (by kernel_rfl) rfl
      clear pre old
      simp only [Array.getD_eq_getD_getElem?] at e25
      go_simp
      exact hK _ _ hSt (Below.refl _ _) rfl
    refine Vals5.Steps.run (by kernel_rfl) (Vals5.Stable.is _) ?_ ?_
    · intro a W hSt pre old K hK
      have e138 : a.tmps.getD 138 undef = .int .i64 0 := pre 39 138 _ (by kernel_rfl) rfl rfl
      clear pre old
      simp only [Array.getD_eq_getD_getElem?] at e138
      go_simp
      exact hK _ _ hSt (Below.refl _ _) rfl
    refine Vals5.Steps.run (by kernel_rfl) (Vals5.Stable.is _) ?_ ?_
    · intro a W hSt pre old K hK
      have e137 : a.tmps.getD 137 undef = .bool true := pre 38 137 _ (by kernel_rfl) rfl rfl
      have e139 : a.tmps.getD 139 undef = .bool true := pre 40 139 _ (by kernel_rfl) rfl rfl
      clear pre old
      simp only [Array.getD_eq_getD_getElem?] at e137 e139
      go_simp
      exact hK _ _ hSt (Below.refl _ _) rfl
    refine Vals5.Steps.run (by kernel_rfl) (Vals5.Stable.is _) ?_ ?_
    · intro a W hSt pre old K hK
      have e140 : a.tmps.getD 140 undef = .bool true := pre 41 140 _ (by kernel_rfl) rfl rfl
      clear pre old
      simp only [Array.getD_eq_getD_getElem?] at e140
      go_simp
      exact hK _ _ hSt (Below.refl _ _) rfl
    refine Vals5.Steps.run (by kernel_rfl) (Vals5.Stable.is _) ?_ ?_
    · intro a W hSt pre old K hK
      have e1 : a.tmps.getD 1 undef = .pointer (some ⟨kA, 0, none⟩) := old 1 _ (by kernel_rfl) rfl
      clear pre old
      simp only [Array.getD_eq_getD_getElem?] at e1
      have hS9 := hSt
      obtain ⟨⟨y0, y1⟩, ⟨y2, y3⟩, ⟨y4, y5, y6, y7⟩, ⟨y8, y9⟩, ⟨y10, y11⟩, _, _, _⟩ := hS9
      go_simp
      exact hK _ _ hSt (Below.refl _ _) rfl
    refine Vals5.Steps.run (by kernel_rfl) (Vals5.Stable.is _) ?_ ?_
    · intro a W hSt pre old K hK
      clear pre old
      go_simp
      obtain ⟨s0, s1, s2, s3, s4, s5, s6, s7⟩ := hSt
      refine (span_c _ _ _).mono ?_
      rintro e w' ⟨rfl, hb'⟩
      exact hK _ _ ⟨s0.keep hb', s1.keep hb', s2.keep hb', s3.keep hb', s4.keep hb', s5.keep hb', s6.keep hb', s7.keep hb'⟩ hb' rfl
    refine Vals5.Steps.run (by kernel_rfl) (Vals5.Stable.is _) ?_ ?_
    · intro a W hSt pre old K hK
      have e142 : a.tmps.getD 142 undef = .agg #[.int .i64 7200, .int .i64 12000] := pre 43 142 _ (by kernel_rfl) rfl rfl
      have e143 : a.tmps.getD 143 undef = .agg #[.int .i64 7200, .int .i64 12000] := pre 44 143 _ (by kernel_rfl) rfl rfl
      clear pre old
      simp only [Array.getD_eq_getD_getElem?] at e142 e143
      go_simp
      exact hK _ _ hSt (Below.refl _ _) rfl
    refine Vals5.Steps.run (by kernel_rfl) (Vals5.Stable.is _) ?_ ?_
    · intro a W hSt pre old K hK
      have e141 : a.tmps.getD 141 undef = .bool true := pre 42 141 _ (by kernel_rfl) rfl rfl
      have e144 : a.tmps.getD 144 undef = .bool true := pre 45 144 _ (by kernel_rfl) rfl rfl
      clear pre old
      simp only [Array.getD_eq_getD_getElem?] at e141 e144
      go_simp
      exact hK _ _ hSt (Below.refl _ _) rfl
    refine Vals5.Steps.run (by kernel_rfl) (Vals5.Stable.is _) ?_ ?_
    · intro a W hSt pre old K hK
      have e145 : a.tmps.getD 145 undef = .bool true := pre 46 145 _ (by kernel_rfl) rfl rfl
      clear pre old
      simp only [Array.getD_eq_getD_getElem?] at e145
      go_simp
      exact hK _ _ hSt (Below.refl _ _) rfl
    refine Vals5.Steps.run (by kernel_rfl) (Vals5.Stable.is _) ?_ ?_
    · intro a W hSt pre old K hK
      have e3 : a.tmps.getD 3 undef = .pointer (some ⟨kB, 0, none⟩) := old 3 _ (by kernel_rfl) rfl
      clear pre old
      simp only [Array.getD_eq_getD_getElem?] at e3
      have hS9 := hSt
      obtain ⟨⟨y0, y1⟩, ⟨y2, y3⟩, ⟨y4, y5, y6, y7⟩, ⟨y8, y9⟩, ⟨y10, y11⟩, _, _, _⟩ := hS9
      go_simp
      exact hK _ _ hSt (Below.refl _ _) rfl
    refine Vals5.Steps.run (by kernel_rfl) (Vals5.Stable.is _) ?_ ?_
    · intro a W hSt pre old K hK
      clear pre old
      go_simp
      obtain ⟨s0, s1, s2, s3, s4, s5, s6, s7⟩ := hSt
      refine (span_c _ _ _).mono ?_
      rintro e w' ⟨rfl, hb'⟩
      exact hK _ _ ⟨s0.keep hb', s1.keep hb', s2.keep hb', s3.keep hb', s4.keep hb', s5.keep hb', s6.keep hb', s7.keep hb'⟩ hb' rfl
    refine Vals5.Steps.run (by kernel_rfl) (Vals5.Stable.is _) ?_ ?_
    · intro a W hSt pre old K hK
      have e147 : a.tmps.getD 147 undef = .agg #[.int .i64 9600, .int .i64 15500] := pre 48 147 _ (by kernel_rfl) rfl rfl
      have e148 : a.tmps.getD 148 undef = .agg #[.int .i64 9600, .int .i64 15500] := pre 49 148 _ (by kernel_rfl) rfl rfl
      clear pre old
      simp only [Array.getD_eq_getD_getElem?] at e147 e148
      go_simp
      exact hK _ _ hSt (Below.refl _ _) rfl
    refine Vals5.Steps.run (by kernel_rfl) (Vals5.Stable.is _) ?_ ?_
    · intro a W hSt pre old K hK
      have e146 : a.tmps.getD 146 undef = .bool true := pre 47 146 _ (by kernel_rfl) rfl rfl
      have e149 : a.tmps.getD 149 undef = .bool true := pre 50 149 _ (by kernel_rfl) rfl rfl
      clear pre old
      simp only [Array.getD_eq_getD_getElem?] at e146 e149
      go_simp
      exact hK _ _ hSt (Below.refl _ _) rfl
    refine Vals5.Steps.run (by kernel_rfl) (Vals5.Stable.is _) ?_ ?_
    · intro a W hSt pre old K hK
      have e150 : a.tmps.getD 150 undef = .bool true := pre 51 150 _ (by kernel_rfl) rfl rfl
      clear pre old
      simp only [Array.getD_eq_getD_getElem?] at e150
      go_simp
      exact hK _ _ hSt (Below.refl _ _) rfl
    refine Vals5.Steps.run (by kernel_rfl) (Vals5.Stable.is _) ?_ ?_
    · intro a W hSt pre old K hK
      have e5 : a.tmps.getD 5 undef = .slice P 1 pc := old 5 _ (by kernel_rfl) rfl
      clear pre old
      simp only [Array.getD_eq_getD_getElem?] at e5
      go_simp
      exact hK _ _ hSt (Below.refl _ _) rfl
    refine Vals5.Steps.run (by kernel_rfl) hstab ?_ ?_
    · intro a W hSt pre old K hK
      clear pre old
      go_simp
      obtain ⟨s0, s1, s2, s3, s4, s5, s6, s7⟩ := hSt
      have hb' : Below W.heap.size W (W.alloc (.cells #[.int .i64 0] 3)) := (Below.refl _ _).alloc (Nat.le_refl _) _
      exact hK _ _ ⟨s0.keep hb', s1.keep hb', s2.keep hb', s3.keep hb', s4.keep hb', s5.keep hb', s6.keep hb', s7.keep hb'⟩ hb' ⟨_, rfl, Blk.new W _ _⟩
    refine Vals5.Steps.run (by kernel_rfl) (Vals5.Stable.is _) ?_ ?_
    · intro a W hSt pre old K hK
      have e152 : a.tmps.getD 152 undef = .slice P 1 pc := pre 53 152 _ (by kernel_rfl) rfl rfl
      obtain ⟨g, e153, hg⟩ : ∃ g, a.tmps.getD 153 undef = .slice (some ⟨g, 0, none⟩) 1 1 ∧ Blk W g 3 #[.int .i64 0] := pre 54 153 _ (by kernel_rfl) rfl rfl
      clear pre old
      simp only [Array.getD_eq_getD_getElem?] at e152 e153
      go_simp
      obtain ⟨s0, s1, s2, s3, s4, s5, s6, s7⟩ := hSt
      refine (ints_one P 0 pc g _ _ s5 hg).mono ?_
      rintro e w' ⟨rfl, hb'⟩
      exact hK _ _ ⟨s0.keep hb', s1.keep hb', s2.keep hb', s3.keep hb', s4.keep hb', s5.keep hb', s6.keep hb', s7.keep hb'⟩ hb' rfl
    refine Vals5.Steps.run (by kernel_rfl) (Vals5.Stable.is _) ?_ ?_
    · intro a W hSt pre old K hK
      have e151 : a.tmps.getD 151 undef = .bool true := pre 52 151 _ (by kernel_rfl) rfl rfl
      have e154 : a.tmps.getD 154 undef = .bool true := pre 55 154 _ (by kernel_rfl) rfl rfl
      clear pre old
      simp only [Array.getD_eq_getD_getElem?] at e151 e154
      go_simp
      exact hK _ _ hSt (Below.refl _ _) rfl
    refine Vals5.Steps.run (by kernel_rfl) (Vals5.Stable.is _) ?_ ?_
    · intro a W hSt pre old K hK
      have e155 : a.tmps.getD 155 undef = .bool true := pre 56 155 _ (by kernel_rfl) rfl rfl
      clear pre old
      simp only [Array.getD_eq_getD_getElem?] at e155
      go_simp
      exact hK _ _ hSt (Below.refl _ _) rfl
    refine Vals5.Steps.run (by kernel_rfl) (Vals5.Stable.is _) ?_ ?_
    · intro a W hSt pre old K hK
      have e7 : a.tmps.getD 7 undef = .slice P2 1 pc2 := old 7 _ (by kernel_rfl) rfl
      clear pre old
      simp only [Array.getD_eq_getD_getElem?] at e7
      go_simp
      exact hK _ _ hSt (Below.refl _ _) rfl
    refine Vals5.Steps.run (by kernel_rfl) hstab ?_ ?_
    · intro a W hSt pre old K hK
      clear pre old
      go_simp
      obtain ⟨s0, s1, s2, s3, s4, s5, s6, s7⟩ := hSt
      have hb' : Below W.heap.size W (W.alloc (.cells #[.int .i64 0] 3)) := (Below.refl _ _).alloc (Nat.le_refl _) _
      exact hK _ _ ⟨s0.keep hb', s1.keep hb', s2.keep hb', s3.keep hb', s4.keep hb', s5.keep hb', s6.keep hb', s7.keep hb'⟩ hb' ⟨_, rfl, Blk.new W _ _⟩
    refine Vals5.Steps.run (by kernel_rfl) (Vals5.Stable.is _) ?_ ?_
    · intro a W hSt pre old K hK
      have e157 : a.tmps.getD 157 undef = .slice P2 1 pc2 := pre 58 157 _ (by kernel_rfl) rfl rfl
      obtain ⟨g, e158, hg⟩ : ∃ g, a.tmps.getD 158 undef = .slice (some ⟨g, 0, none⟩) 1 1 ∧ Blk W g 3 #[.int .i64 0] := pre 59 158 _ (by kernel_rfl) rfl rfl
      clear pre old
      simp only [Array.getD_eq_getD_getElem?] at e157 e158
      go_simp
      obtain ⟨s0, s1, s2, s3, s4, s5, s6, s7⟩ := hSt
      refine (ints_one P2 0 pc2 g _ _ s6 hg).mono ?_
      rintro e w' ⟨rfl, hb'⟩
      exact hK _ _ ⟨s0.keep hb', s1.keep hb', s2.keep hb', s3.keep hb', s4.keep hb', s5.keep hb', s6.keep hb', s7.keep hb'⟩ hb' rfl
    refine Vals5.Steps.run (by kernel_rfl) (Vals5.Stable.is _) ?_ ?_
    · intro a W hSt pre old K hK
      have e156 : a.tmps.getD 156 undef = .bool true := pre 57 156 _ (by kernel_rfl) rfl rfl
      have e159 : a.tmps.getD 159 undef = .bool true := pre 60 159 _ (by kernel_rfl) rfl rfl
      clear pre old
      simp only [Array.getD_eq_getD_getElem?] at e156 e159
      go_simp
      exact hK _ _ hSt (Below.refl _ _) rfl
    refine Vals5.Steps.run (by kernel_rfl) (Vals5.Stable.is _) ?_ ?_
    · intro a W hSt pre old K hK
      have e160 : a.tmps.getD 160 undef = .bool true := pre 61 160 _ (by kernel_rfl) rfl rfl
      clear pre old
      simp only [Array.getD_eq_getD_getElem?] at e160
      go_simp
      exact hK _ _ hSt (Below.refl _ _) rfl
    refine Vals5.Steps.run (by kernel_rfl) (Vals5.Stable.is _) ?_ ?_
    · intro a W hSt pre old K hK
      have e9 : a.tmps.getD 9 undef = .slice none 0 0 := old 9 _ (by kernel_rfl) rfl
      clear pre old
      simp only [Array.getD_eq_getD_getElem?] at e9
      go_simp
      exact hK _ _ hSt (Below.refl _ _) rfl
    refine Vals5.Steps.run (by kernel_rfl) (Vals5.Stable.is _) ?_ ?_
    · intro a W hSt pre old K hK
      have e162 : a.tmps.getD 162 undef = .slice none 0 0 := pre 63 162 _ (by kernel_rfl) rfl rfl
      clear pre old
      simp only [Array.getD_eq_getD_getElem?] at e162
      go_simp
      exact hK _ _ hSt (Below.refl _ _) rfl
    refine Vals5.Steps.run (by kernel_rfl) (Vals5.Stable.is _) ?_ ?_
    · intro a W hSt pre old K hK
      have e163 : a.tmps.getD 163 undef = .int .i64 0 := pre 64 163 _ (by kernel_rfl) rfl rfl
      clear pre old
      simp only [Array.getD_eq_getD_getElem?] at e163
      go_simp
      exact hK _ _ hSt (Below.refl _ _) rfl
    refine Vals5.Steps.run (by kernel_rfl) (Vals5.Stable.is _) ?_ ?_
    · intro a W hSt pre old K hK
      have e161 : a.tmps.getD 161 undef = .bool true := pre 62 161 _ (by kernel_rfl) rfl rfl
      have e164 : a.tmps.getD 164 undef = .bool true := pre 65 164 _ (by kernel_rfl) rfl rfl
      clear pre old
      simp only [Array.getD_eq_getD_getElem?] at e161 e164
      go_simp
      exact hK _ _ hSt (Below.refl _ _) rfl
    refine Vals5.Steps.run (by kernel_rfl) (Vals5.Stable.is _) ?_ ?_
    · intro a W hSt pre old K hK
      have e165 : a.tmps.getD 165 undef = .bool true := pre 66 165 _ (by kernel_rfl) rfl rfl
      clear pre old
      simp only [Array.getD_eq_getD_getElem?] at e165
      go_simp
      exact hK _ _ hSt (Below.refl _ _) rfl
    refine Vals5.Steps.run (by kernel_rfl) (Vals5.Stable.is _) ?_ ?_
    · intro a W hSt pre old K hK
      have e11 : a.tmps.getD 11 undef = .int .i64 0 := old 11 _ (by kernel_rfl) rfl
      clear pre old
      simp only [Array.getD_eq_getD_getElem?] at e11
      go_simp
      exact hK _ _ hSt (Below.refl _ _) rfl
    refine Vals5.Steps.run (by kernel_rfl) (Vals5.Stable.is _) ?_ ?_
    · intro a W hSt pre old K hK
      have e167 : a.tmps.getD 167 undef = .int .i64 0 := pre 68 167 _ (by kernel_rfl) rfl rfl
      clear pre old
      simp only [Array.getD_eq_getD_getElem?] at e167
      go_simp
      exact hK _ _ hSt (Below.refl _ _) rfl
    refine Vals5.Steps.run (by kernel_rfl) (Vals5.Stable.is _) ?_ ?_
    · intro a W hSt pre old K hK
      have e166 : a.tmps.getD 166 undef = .bool true := pre 67 166 _ (by kernel_rfl) rfl rfl
      have e168 : a.tmps.getD 168 undef = .bool true := pre 69 168 _ (by kernel_rfl) rfl rfl
      clear pre old
      simp only [Array.getD_eq_getD_getElem?] at e166 e168
      go_simp
      exact hK _ _ hSt (Below.refl _ _) rfl
    refine Vals5.Steps.run (by kernel_rfl) (Vals5.Stable.is _) ?_ ?_
    · intro a W hSt pre old K hK
      have e169 : a.tmps.getD 169 undef = .bool true := pre 70 169 _ (by kernel_rfl) rfl rfl
      clear pre old
      simp only [Array.getD_eq_getD_getElem?] at e169
      go_simp
      exact hK _ _ hSt (Below.refl _ _) rfl
    refine Vals5.Steps.run (by kernel_rfl) (Vals5.Stable.is _) ?_ ?_
    · intro a W hSt pre old K hK
      have e13 : a.tmps.getD 13 undef = .int .i64 0 := old 13 _ (by kernel_rfl) rfl
      clear pre old
      simp only [Array.getD_eq_getD_getElem?] at e13
      go_simp
      exact hK _ _ hSt (Below.refl _ _) rfl
    refine Vals5.Steps.run (by kernel_rfl) (Vals5.Stable.is _) ?_ ?_
    · intro a W hSt pre old K hK
      have e171 : a.tmps.getD 171 undef = .int .i64 0 := pre 72 171 _ (by kernel_rfl) rfl rfl
      clear pre old
      simp only [Array.getD_eq_getD_getElem?] at e171
      go_simp
      exact hK _ _ hSt (Below.refl _ _) rfl
    refine Vals5.Steps.run (by kernel_rfl) (Vals5.Stable.is _) ?_ ?_
    · intro a W hSt pre old K hK
      have e170 : a.tmps.getD 170 undef = .bool true := pre 71 170 _ (by kernel_rfl) rfl rfl
      have e172 : a.tmps.getD 172 undef = .bool true := pre 73 172 _ (by kernel_rfl) rfl rfl
      clear pre old
      simp only [Array.getD_eq_getD_getElem?] at e170 e172
      go_simp
      exact hK _ _ hSt (Below.refl _ _) rfl
    refine Vals5.Steps.run (by kernel_rfl) (Vals5.Stable.is _) ?_ ?_
    · intro a W hSt pre old K hK
      have e173 : a.tmps.getD 173 undef = .bool true := pre 74 173 _ (by kernel_rfl) rfl rfl
      clear pre old
      simp only [Array.getD_eq_getD_getElem?] at e173
      go_simp
      exact hK _ _ hSt (Below.refl _ _) rfl
    refine Vals5.Steps.run (by kernel_rfl) (Vals5.Stable.is _) ?_ ?_
    · intro a W hSt pre old K hK
      have e14 : a.tmps.getD 14 undef = .int .i64 0 := old 14 _ (by kernel_rfl) rfl
      clear pre old
      simp only [Array.getD_eq_getD_getElem?] at e14
      go_simp
      exact hK _ _ hSt (Below.refl _ _) rfl
    refine Vals5.Steps.run (by kernel_rfl) (Vals5.Stable.is _) ?_ ?_
    · intro a W hSt pre old K hK
      have e175 : a.tmps.getD 175 undef = .int .i64 0 := pre 76 175 _ (by kernel_rfl) rfl rfl
      clear pre old
      simp only [Array.getD_eq_getD_getElem?] at e175
      go_simp
      exact hK _ _ hSt (Below.refl _ _) rfl
    refine Vals5.Steps.run (by kernel_rfl) (Vals5.Stable.is _) ?_ ?_
    · intro a W hSt pre old K hK
      have e174 : a.tmps.getD 174 undef = .bool true := pre 75 174 _ (by kernel_rfl) rfl rfl
      have e176 : a.tmps.getD 176 undef = .bool true := pre 77 176 _ (by kernel_rfl) rfl rfl
      clear pre old
      simp only [Array.getD_eq_getD_getElem?] at e174 e176
      go_simp
      exact hK _ _ hSt (Below.refl _ _) rfl
    refine Vals5.Steps.run (by kernel_rfl) (Vals5.Stable.is _) ?_ ?_
    · intro a W hSt pre old K hK
      have e177 : a.tmps.getD 177 undef = .bool true := pre 78 177 _ (by kernel_rfl) rfl rfl
      clear pre old
      simp only [Array.getD_eq_getD_getElem?] at e177
      go_simp
      exact hK _ _ hSt (Below.refl _ _) rfl
    refine Vals5.Steps.run (by kernel_rfl) (Vals5.Stable.is _) ?_ ?_
    · intro a W hSt pre old K hK
      have e19 : a.tmps.getD 19 undef = .pointer (some ⟨kT, 0, none⟩) := old 19 _ (by kernel_rfl) rfl
      clear pre old
      simp only [Array.getD_eq_getD_getElem?] at e19
      have hS9 := hSt
      obtain ⟨⟨y0, y1⟩, ⟨y2, y3⟩, ⟨y4, y5, y6, y7⟩, ⟨y8, y9⟩, ⟨y10, y11⟩, _, _, _⟩ := hS9
      go_simp
      exact hK _ _ hSt (Below.refl _ _) rfl
    refine Vals5.Steps.run (by kernel_rfl) (Vals5.Stable.is _) ?_ ?_
    · intro a W hSt pre old K hK
      clear pre old
      go_simp
      exact hK _ _ hSt (Below.refl _ _) rfl
    refine Vals5.Steps.run (by kernel_rfl) (Vals5.Stable.is _) ?_ ?_
    · intro a W hSt pre old K hK
      have e179 : a.tmps.getD 179 undef = .agg #[.int .i64 20, .int .i64 300, .int .i64 560, .int .i64 (-10)] := pre 80 179 _ (by kernel_rfl) rfl rfl
      have e180 : a.tmps.getD 180 undef = .agg #[.int .i64 20, .int .i64 300, .int .i64 560, .int .i64 (-10)] := pre 81 180 _ (by kernel_rfl) rfl rfl
      clear pre old
      simp only [Array.getD_eq_getD_getElem?] at e179 e180
      go_simp
      exact hK _ _ hSt (Below.refl _ _) rfl
    refine Vals5.Steps.run (by kernel_rfl) (Vals5.Stable.is _) ?_ ?_
    · intro a W hSt pre old K hK
      have e178 : a.tmps.getD 178 undef = .bool true := pre 79 178 _ (by kernel_rfl) rfl rfl
      have e181 : a.tmps.getD 181 undef = .bool true := pre 82 181 _ (by kernel_rfl) rfl rfl
      clear pre old
      simp only [Array.getD_eq_getD_getElem?] at e178 e181
      go_simp
      exact hK _ _ hSt (Below.refl _ _) rfl
    refine Vals5.Steps.run (by kernel_rfl) (Vals5.Stable.is _) ?_ ?_
    · intro a W hSt pre old K hK
      have e182 : a.tmps.getD 182 undef = .bool true := pre 83 182 _ (by kernel_rfl) rfl rfl
      clear pre old
      simp only [Array.getD_eq_getD_getElem?] at e182
      go_simp
      exact hK _ _ hSt (Below.refl _ _) rfl
    refine Vals5.Steps.run (by kernel_rfl) (Vals5.Stable.is _) ?_ ?_
    · intro a W hSt pre old K hK
      have e20 : a.tmps.getD 20 undef = .int .i64 12500 := old 20 _ (by kernel_rfl) rfl
      clear pre old
      simp only [Array.getD_eq_getD_getElem?] at e20
      go_simp
      exact hK _ _ hSt (Below.refl _ _) rfl
    refine Vals5.Steps.run (by kernel_rfl) (Vals5.Stable.is _) ?_ ?_
    · intro a W hSt pre old K hK
      have e184 : a.tmps.getD 184 undef = .int .i64 12500 := pre 85 184 _ (by kernel_rfl) rfl rfl
      clear pre old
      simp only [Array.getD_eq_getD_getElem?] at e184
      go_simp
      exact hK _ _ hSt (Below.refl _ _) rfl
    refine Vals5.Steps.run (by kernel_rfl) (Vals5.Stable.is _) ?_ ?_
    · intro a W hSt pre old K hK
      have e183 : a.tmps.getD 183 undef = .bool true := pre 84 183 _ (by kernel_rfl) rfl rfl
      have e185 : a.tmps.getD 185 undef = .bool true := pre 86 185 _ (by kernel_rfl) rfl rfl
      clear pre old
      simp only [Array.getD_eq_getD_getElem?] at e183 e185
      go_simp
      exact hK _ _ hSt (Below.refl _ _) rfl
    refine Vals5.Steps.run (by kernel_rfl) (Vals5.Stable.is _) ?_ ?_
    · intro a W hSt pre old K hK
      have e186 : a.tmps.getD 186 undef = .bool true := pre 87 186 _ (by kernel_rfl) rfl rfl
      clear pre old
      simp only [Array.getD_eq_getD_getElem?] at e186
      go_simp
      exact hK _ _ hSt (Below.refl _ _) rfl
    refine Vals5.Steps.run (by kernel_rfl) (Vals5.Stable.is _) ?_ ?_
    · intro a W hSt pre old K hK
      have e22 : a.tmps.getD 22 undef = .pointer (some ⟨kX, 0, none⟩) := old 22 _ (by kernel_rfl) rfl
      clear pre old
      simp only [Array.getD_eq_getD_getElem?] at e22
      have hS9 := hSt
      obtain ⟨⟨y0, y1⟩, ⟨y2, y3⟩, ⟨y4, y5, y6, y7⟩, ⟨y8, y9⟩, ⟨y10, y11⟩, _, _, _⟩ := hS9
      go_simp
      exact hK _ _ hSt (Below.refl _ _) rfl
    refine Vals5.Steps.run (by kernel_rfl) (Vals5.Stable.is _) ?_ ?_
    · intro a W hSt pre old K hK
      have e1 : a.tmps.getD 1 undef = .pointer (some ⟨kA, 0, none⟩) := old 1 _ (by kernel_rfl) rfl
      clear pre old
      simp only [Array.getD_eq_getD_getElem?] at e1
      have hS9 := hSt
      obtain ⟨⟨y0, y1⟩, ⟨y2, y3⟩, ⟨y4, y5, y6, y7⟩, ⟨y8, y9⟩, ⟨y10, y11⟩, _, _, _⟩ := hS9
      go_simp
      exact hK _ _ hSt (Below.refl _ _) rfl
    refine Vals5.Steps.run (by kernel_rfl) (Vals5.Stable.is _) ?_ ?_
    · intro a W hSt pre old K hK
      have e188 : a.tmps.getD 188 undef = .agg #[.int .i64 7200, .int .i64 12000] := pre 89 188 _ (by kernel_rfl) rfl rfl
      have e189 : a.tmps.getD 189 undef = .agg #[.int .i64 7200, .int .i64 12000] := pre 90 189 _ (by kernel_rfl) rfl rfl
      clear pre old
      simp only [Array.getD_eq_getD_getElem?] at e188 e189
      go_simp
      exact hK _ _ hSt (Below.refl _ _) rfl
    refine Vals5.Steps.run (by kernel_rfl) (Vals5.Stable.is _) ?_ ?_
    · intro a W hSt pre old K hK
      have e187 : a.tmps.getD 187 undef = .bool true := pre 88 187 _ (by kernel_rfl) rfl rfl
      have e190 : a.tmps.getD 190 undef = .bool true := pre 91 190 _ (by kernel_rfl) rfl rfl
      clear pre old
      simp only [Array.getD_eq_getD_getElem?] at e187 e190
      go_simp
      exact hK _ _ hSt (Below.refl _ _) rfl
    refine Vals5.Steps.run (by kernel_rfl) (Vals5.Stable.is _) ?_ ?_
    · intro a W hSt pre old K hK
      have e191 : a.tmps.getD 191 undef = .bool true := pre 92 191 _ (by kernel_rfl) rfl rfl
      clear pre old
      simp only [Array.getD_eq_getD_getElem?] at e191
      go_simp
      exact hK _ _ hSt (Below.refl _ _) rfl
    refine Vals5.Steps.run (by kernel_rfl) (Vals5.Stable.is _) ?_ ?_
    · intro a W hSt pre old K hK
      have e24 : a.tmps.getD 24 undef = .pointer (some ⟨kY, 0, none⟩) := old 24 _ (by kernel_rfl) rfl
      clear pre old
      simp only [Array.getD_eq_getD_getElem?] at e24
      have hS9 := hSt
      obtain ⟨⟨y0, y1⟩, ⟨y2, y3⟩, ⟨y4, y5, y6, y7⟩, ⟨y8, y9⟩, ⟨y10, y11⟩, _, _, _⟩ := hS9
      go_simp
      exact hK _ _ hSt (Below.refl _ _) rfl
    refine Vals5.Steps.run (by kernel_rfl) (Vals5.Stable.is _) ?_ ?_
    · intro a W hSt pre old K hK
      clear pre old
      go_simp
      obtain ⟨s0, s1, s2, s3, s4, s5, s6, s7⟩ := hSt
      refine (span_c _ _ _).mono ?_
      rintro e w' ⟨rfl, hb'⟩
      exact hK _ _ ⟨s0.keep hb', s1.keep hb', s2.keep hb', s3.keep hb', s4.keep hb', s5.keep hb', s6.keep hb', s7.keep hb'⟩ hb' rfl
    refine Vals5.Steps.run (by kernel_rfl) (Vals5.Stable.is _) ?_ ?_
    · intro a W hSt pre old K hK
      have e193 : a.tmps.getD 193 undef = .agg #[.int .i64 11600, .int .i64 18000] := pre 94 193 _ (by kernel_rfl) rfl rfl
      have e194 : a.tmps.getD 194 undef = .agg #[.int .i64 11600, .int .i64 18000] := pre 95 194 _ (by kernel_rfl) rfl rfl
      clear pre old
      simp only [Array.getD_eq_getD_getElem?] at e193 e194
      go_simp
      exact hK _ _ hSt (Below.refl _ _) rfl
    refine Vals5.Steps.run (by kernel_rfl) (Vals5.Stable.is _) ?_ ?_
    · intro a W hSt pre old K hK
      have e192 : a.tmps.getD 192 undef = .bool true := pre 93 192 _ (by kernel_rfl) rfl rfl
      have e195 : a.tmps.getD 195 undef = .bool true := pre 96 195 _ (by kernel_rfl) rfl rfl
      clear pre old
      simp only [Array.getD_eq_getD_getElem?] at e192 e195
      go_simp
      exact hK _ _ hSt (Below.refl _ _) rfl
    refine Vals5.Steps.run (by kernel_rfl) (Vals5.Stable.is _) ?_ ?_
    · intro a W hSt pre old K hK
      have e196 : a.tmps.getD 196 undef = .bool true := pre 97 196 _ (by kernel_rfl) rfl rfl
      clear pre old
      simp only [Array.getD_eq_getD_getElem?] at e196
      go_simp
      exact hK _ _ hSt (Below.refl _ _) rfl
    refine Vals5.Steps.run (by kernel_rfl) (Vals5.Stable.is _) ?_ ?_
    · intro a W hSt pre old K hK
      clear pre old
      go_simp
      obtain ⟨s0, s1, s2, s3, s4, s5, s6, s7⟩ := hSt
      refine (awake_c _).mono ?_
      rintro e w' ⟨rfl, hb'⟩
      exact hK _ _ ⟨s0.keep hb', s1.keep hb', s2.keep hb', s3.keep hb', s4.keep hb', s5.keep hb', s6.keep hb', s7.keep hb'⟩ hb' rfl
    refine Vals5.Steps.run (by kernel_rfl) (Vals5.Stable.is _) ?_ ?_
    · intro a W hSt pre old K hK
      have e197 : a.tmps.getD 197 undef = .bool true := pre 98 197 _ (by kernel_rfl) rfl rfl
      have e198 : a.tmps.getD 198 undef = .bool true := pre 99 198 _ (by kernel_rfl) rfl rfl
      clear pre old
      simp only [Array.getD_eq_getD_getElem?] at e197 e198
      go_simp
      exact hK _ _ hSt (Below.refl _ _) rfl
    refine Vals5.Steps.run (by kernel_rfl) (Vals5.Stable.is _) ?_ ?_
    · intro a W hSt pre old K hK
      have e199 : a.tmps.getD 199 undef = .bool true := pre 100 199 _ (by kernel_rfl) rfl rfl
      clear pre old
      simp only [Array.getD_eq_getD_getElem?] at e199
      go_simp
      exact hK _ _ hSt (Below.refl _ _) rfl
    exact Vals5.Steps.nil
  · rintro X hE
    simp only [Vals5.All]
    intro _ _ _ _
    simp only [Vals.putAll, List.setIfInBounds_toArray, List.set_cons_zero, List.set_cons_succ]
    go_wp2_with fail
    go_ret
    exact ⟨rfl, hE.2.2.2.2.2.2.2.1⟩
end Td
end Go.Proofs.Ytojpiliamecgkaa
