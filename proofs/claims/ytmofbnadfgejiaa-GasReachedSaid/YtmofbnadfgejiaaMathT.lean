import Derived.Test.YtmofbnadfgejiaaMath
import Derived.Test.YtmofbnadfgejiaaRfsM
/- One instrument more, that is never wrong, and one reading more by it: GasReached's mathematics. -/
namespace Go.Proofs.Ytmofbnadfgejiaa
namespace Td
set_option linter.unusedVariables false
/-- a space with one more instrument, that is never wrong. -/
def spZ (s : Spc) (nm : ByteArray) : Spc := { s with tools := s.tools ++ [⟨nm, 0⟩] }
theorem errZ_old {s : Spc} {nm : ByteArray} {r : Rd} (h0 : 0 ≤ r.tool) (h : r.tool < s.tools.length) : errOf (spZ s nm) r = errOf s r := by
  unfold errOf spZ
  dsimp only
  rw [List.getElem?_append_left (by omega)]
theorem errZ_new {s : Spc} {nm : ByteArray} {r : Rd} (h : r.tool = s.tools.length) : errOf (spZ s nm) r = 0 := by
  unfold errOf spZ
  dsimp only
  rw [h, Int.toNat_natCast, List.getElem?_append_right (Nat.le_refl _)]
  simp
theorem cutZ {s : Spc} {nm : ByteArray} {r : Rd} (h0 : 0 ≤ r.tool) (h : r.tool < s.tools.length) (o : Option (Int × Int)) : cut (spZ s nm) r o = cut s r o := by
  unfold cut
  rw [errZ_old h0 h]
theorem agrZ {s : Spc} {nm : ByteArray} : ∀ {l : List Rd} (o : Option (Int × Int)), (∀ r ∈ l, 0 ≤ r.tool ∧ r.tool < s.tools.length) → agr (spZ s nm) l o = agr s l o
  | [], _, _ => rfl
  | r :: l, o, h => by
    obtain ⟨h1, h2⟩ := h r List.mem_cons_self
    show agr (spZ s nm) l (cut (spZ s nm) r o) = agr s l (cut s r o)
    rw [cutZ h1 h2, agrZ _ (fun x hx => h x (List.mem_cons_of_mem _ hx))]
theorem lvZ {s : Spc} {nm : ByteArray} {l : List Rd} (hl : ∀ r ∈ l, 0 ≤ r.tool ∧ r.tool < s.tools.length) {q : Rd} (o : Option (Int × Int)) : ∀ k : Nat, (k : Int) < q.min → lv (spZ s nm) (l ++ [q]) 0 o k = lv s l 0 o k := by
  have hat : ∀ m : Int, m < q.min → atM (l ++ [q]) m = atM l m := fun m hm => by
    unfold atM
    rw [List.filter_append]
    simp
    omega
  intro k
  induction k with
  | zero =>
    intro hk
    show agr (spZ s nm) (atM (l ++ [q]) 0) o = agr s (atM l 0) o
    rw [hat 0 (by omega)]
    exact agrZ o (fun r hr => hl r ((List.mem_filter.1 hr).1))
  | succ k ih =>
    intro hk
    have hc : ∀ m, chg (spZ s nm) m = chg s m := fun m => rfl
    show agr (spZ s nm) (atM (l ++ [q]) (0 + ((k + 1 : Nat) : Int))) ((lv (spZ s nm) (l ++ [q]) 0 o k).bind fun x => aft x (chg (spZ s nm) (0 + k))) = agr s (atM l (0 + ((k + 1 : Nat) : Int))) ((lv s l 0 o k).bind fun x => aft x (chg s (0 + k)))
    rw [hat _ (by omega), ih (by omega), hc]
    exact agrZ _ (fun r hr => hl r ((List.mem_filter.1 hr).1))
theorem lvZ_at {s : Spc} {nm : ByteArray} {l : List Rd} (hl : ∀ r ∈ l, 0 ≤ r.tool ∧ r.tool < s.tools.length) {q : Rd} (o : Option (Int × Int)) (k : Nat) (hk : q.min = (k : Int)) : lv (spZ s nm) (l ++ [q]) 0 o k = cut (spZ s nm) q (lv s l 0 o k) := by
  have hat : atM (l ++ [q]) (k : Int) = atM l (k : Int) ++ [q] := by
    unfold atM
    rw [List.filter_append]
    simp [hk]
  have hag : ∀ o, agr (spZ s nm) (atM l (k : Int) ++ [q]) o = cut (spZ s nm) q (agr s (atM l (k : Int)) o) := fun o => by
    show List.foldl _ _ _ = _
    rw [List.foldl_append]
    show cut (spZ s nm) q (agr (spZ s nm) (atM l (k : Int)) o) = _
    rw [agrZ (l := atM l (k : Int)) _ (fun r hr => hl r ((List.mem_filter.1 hr).1))]
  cases k with
  | zero =>
    show agr (spZ s nm) (atM (l ++ [q]) 0) o = cut (spZ s nm) q (agr s (atM l 0) o)
    rw [show ((0 : Int)) = ((0 : Nat) : Int) from rfl, hat, hag]
  | succ k =>
    have hc : ∀ m, chg (spZ s nm) m = chg s m := fun m => rfl
    show agr (spZ s nm) (atM (l ++ [q]) (0 + ((k + 1 : Nat) : Int))) ((lv (spZ s nm) (l ++ [q]) 0 o k).bind fun x => aft x (chg (spZ s nm) (0 + k))) = cut (spZ s nm) q (agr s (atM l (0 + ((k + 1 : Nat) : Int))) ((lv s l 0 o k).bind fun x => aft x (chg s (0 + k))))
    rw [Int.zero_add, hat, hag, lvZ hl o k (by omega), hc]
theorem nowZ {s : Spc} {nm : ByteArray} {l : List Rd} (hl : ∀ r ∈ l, 0 ≤ r.tool ∧ r.tool < s.tools.length) {mi : Nat} {n : Int} : now (spZ s nm) (l ++ [⟨(mi : Int), (s.tools.length : Int), n⟩]) (mi : Int) = com (now s l (mi : Int)) (btw n n) := by
  have hk : kno (l ++ [⟨(mi : Int), (s.tools.length : Int), n⟩]) (mi : Int) = kno l (mi : Int) ++ [⟨(mi : Int), (s.tools.length : Int), n⟩] := by
    unfold kno
    rw [List.filter_append]
    simp
  unfold now
  rw [hk, Int.toNat_natCast]
  have := lvZ_at (s := s) (nm := nm) (l := kno l (mi : Int)) (fun r hr => hl r ((List.mem_filter.1 hr).1)) (q := ⟨(mi : Int), (s.tools.length : Int), n⟩) (btw s.s0 s.s1) mi rfl
  show lv (spZ s nm) (kno l (mi : Int) ++ [⟨(mi : Int), (s.tools.length : Int), n⟩]) 0 (btw s.s0 s.s1) mi = _
  rw [this]
  unfold cut
  rw [errZ_new rfl]
  simp
theorem toolsZ {l : List Tl} {nm : ByteArray} (h : (toolsE l).2 = 0) (h2 : l.length ≤ 2) (hn : isName nm = true) (hd : ∀ t ∈ l, eqS t.name nm = false) : (toolsE (l ++ [⟨nm, 0⟩])).2 = 0 := by
  unfold toolsE at h ⊢
  have hw : wi 1 3 (l ++ [(⟨nm, 0⟩ : Tl)]).length = true := wi_iff.2 (by simp; omega)
  rw [if_pos hw]
  split at h
  · rw [ff_zero] at h ⊢
    intro j hj
    rw [List.length_append, List.length_singleton] at hj
    by_cases hjl : j < l.length
    · have := h j hjl
      unfold toolAt at this ⊢
      rw [List.getElem?_append_left hjl, List.take_append_of_le_length (by omega)]
      exact this
    · obtain rfl : j = l.length := by omega
      unfold toolAt
      rw [List.getElem?_append_right (Nat.le_refl _), Nat.sub_self, List.take_left]
      show toolE ⟨nm, 0⟩ l = 0
      unfold toolE
      rw [if_pos hn]
      have ha : l.any (fun u => eqS u.name nm) = false := by
        rw [List.any_eq_false]
        intro u hu
        rw [hd u hu]
        decide
      show (if l.any (fun u => eqS u.name nm) = true then (5 : Int) else if wi 0 50 0 = true then 0 else 7) = 0
      rw [ha]
      rfl
  · exact absurd h (by decide)
theorem chkZ {s : Spc} {nm : ByteArray} (h : (chk s).2.2 = 0) (h2 : s.tools.length ≤ 2) (hn : isName nm = true) (hd : ∀ t ∈ s.tools, eqS t.name nm = false) : (chk (spZ s nm)).2.2 = 0 := by
  have h1 : levE (spZ s nm) = levE s := rfl
  have h3 : (spZ s nm).blows = s.blows := rfl
  have h4 : (spZ s nm).tools = s.tools ++ [⟨nm, 0⟩] := rfl
  unfold chk at h ⊢
  rw [h1, h3, h4]
  by_cases e1 : levE s = 0
  · by_cases e2 : (blowsE s.blows).2 = 0
    · by_cases e3 : (toolsE s.tools).2 = 0
      · simp [e1, e2, toolsZ e3 h2 hn hd]
      · simp [e1, e2, e3] at h
    · simp [e1, e2] at h
  · simp [e1] at h
/-- what Level answers with one reading more. -/
theorem levelZ {s : Spc} {nm : ByteArray} {l : List Rd} (h0 : (chk s).2.2 = 0) (h2 : s.tools.length ≤ 2) (hn : isName nm = true) (hd : ∀ t ∈ s.tools, eqS t.name nm = false) (h11 : l.length ≤ 11) (hr : ∀ r ∈ l, ROk s r) {mi : Nat} (hm : mi ≤ 60) {n : Int} (n0 : -50 ≤ n) (n1 : n ≤ 250) {x : Int × Int} (hx : now s l (mi : Int) = some x) :
    levelA (spZ s nm) (l ++ [⟨(mi : Int), (s.tools.length : Int), n⟩]) (mi : Int) = if x.1 ≤ n ∧ n ≤ x.2 then ((n, n), 0) else ((0, 0), 9) := by
  have hz : (chk (spZ s nm)).2.2 = 0 := chkZ h0 h2 hn hd
  have hlen : (spZ s nm).tools.length = s.tools.length + 1 := by simp [spZ]
  have hrd : rdsE (spZ s nm).tools.length (l ++ [⟨(mi : Int), (s.tools.length : Int), n⟩]) = 0 := rdsE_ok.2 ⟨by simp; omega, fun r hr2 => by
    rcases List.mem_append.1 hr2 with h | h
    · obtain ⟨a1, a2, a3, a4, a5, a6⟩ := hr r h
      exact ⟨a1, by rw [hlen]; omega, a3, a4, a5, a6⟩
    · obtain rfl := List.mem_singleton.1 h
      exact ⟨by show (0 : Int) ≤ (s.tools.length : Int); omega, by rw [hlen]; show (s.tools.length : Int) < _; omega, by show (0 : Int) ≤ (mi : Int); omega, by show (mi : Int) ≤ 60; omega, n0, n1⟩⟩
  have hwi : wi 0 60 (mi : Int) = true := wi_iff.2 (by omega)
  have hnw := nowZ (s := s) (nm := nm) (l := l) (fun r h => ⟨(hr r h).t0, (hr r h).t1⟩) (mi := mi) (n := n)
  rw [hx] at hnw
  have hb : btw n n = some (n, n) := by simp [btw]
  rw [hb] at hnw
  have hcm : com (some x) (some (n, n)) = if x.1 ≤ n ∧ n ≤ x.2 then some (n, n) else none := by
    unfold com btw
    dsimp only
    by_cases h : x.1 ≤ n ∧ n ≤ x.2
    · rw [if_pos h, if_neg (by omega), show max x.1 n = n by omega, show min x.2 n = n by omega]
    · rw [if_neg h, if_pos (by omega)]
  rw [hcm] at hnw
  by_cases h : x.1 ≤ n ∧ n ≤ x.2
  · rw [if_pos h] at hnw ⊢
    have hw : watE (spZ s nm) (l ++ [⟨(mi : Int), (s.tools.length : Int), n⟩]) (mi : Int) = 0 := by simp [watE, hz, hrd, hwi, hnw]
    simp [levelA, hw, hnw]
  · rw [if_neg h] at hnw ⊢
    have hw : watE (spZ s nm) (l ++ [⟨(mi : Int), (s.tools.length : Int), n⟩]) (mi : Int) = 9 := by simp [watE, hz, hrd, hwi, hnw]
    simp [levelA, hw]
/-- z, and the first letters of names. -/
def zName (l : List Tl) (k : Nat) : ByteArray := ⟨(122 :: ((l.take k).map fun t => t.name.data.toList.headD 0)).toArray⟩
theorem zName_next {l : List Tl} {k : Nat} (h : k < l.length) {b : UInt8} (hb : l[k].name.data.toList.headD 0 = b) : zName l (k + 1) = zName l k ++ ⟨#[b]⟩ := by
  unfold zName
  rw [List.take_succ_eq_append_getElem h, List.map_append, List.map_singleton, hb]
  apply ByteArray.ext
  simp [ByteArray.data_append]
theorem name_of {s : Spc} (h : (chk s).2.2 = 0) : ∀ t ∈ s.tools, isName t.name = true := by
  intro t ht
  unfold chk at h
  have e1 : levE s = 0 := by
    cases Int.decEq (levE s) 0 with
    | isTrue h => exact h
    | isFalse e => simp [e] at h
  have e2 : (blowsE s.blows).2 = 0 := by
    cases Int.decEq (blowsE s.blows).2 0 with
    | isTrue h => exact h
    | isFalse e => simp [e1, e] at h
  have e3 : (toolsE s.tools).2 = 0 := by
    cases Int.decEq (toolsE s.tools).2 0 with
    | isTrue h => exact h
    | isFalse e => simp [e1, e2, e] at h
  unfold toolsE at e3
  split at e3
  · rw [ff_zero] at e3
    obtain ⟨j, hj, rfl⟩ := List.mem_iff_getElem.1 ht
    have := e3 j hj
    unfold toolAt at this
    rw [List.getElem?_eq_getElem hj] at this
    unfold toolE at this
    by_cases hn : isName s.tools[j].name = true
    · exact hn
    · simp [hn] at this
  · exact absurd e3 (by decide)
theorem name_head {a : ByteArray} (h : isName a = true) : ∃ b r, a.data.toList = b :: r ∧ letterI b.toNat = true := by
  unfold isName at h
  split at h
  · cases h
  · rename_i b r e
    simp only [Bool.and_eq_true] at h
    exact ⟨b, r, e, h.1.2⟩
theorem zName_ok {l : List Tl} (hl : l.length ≤ 3) (h : ∀ t ∈ l, isName t.name = true) : isName (zName l l.length) = true := by
  unfold isName zName
  dsimp only
  rw [List.take_length]
  simp only [Bool.and_eq_true, decide_eq_true_eq, List.all_cons, List.all_eq_true]
  refine ⟨⟨by simp; omega, by decide⟩, by decide, fun b hb => ?_⟩
  obtain ⟨t, ht, rfl⟩ := List.mem_map.1 hb
  obtain ⟨b, r, e, hl⟩ := name_head (h t ht)
  rw [e]
  show nameB b = true
  unfold nameB
  rw [hl]
  rfl
end Td
end Go.Proofs.Ytmofbnadfgejiaa
