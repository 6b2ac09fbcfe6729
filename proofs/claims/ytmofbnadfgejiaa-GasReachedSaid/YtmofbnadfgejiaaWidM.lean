import Derived.Test.YtmofbnadfgejiaaMath
/- A space whose spans are wider, and whose instruments can be wrong by more. -/
namespace Go.Proofs.Ytmofbnadfgejiaa
namespace Td
set_option linter.unusedVariables false
def wdT (x3 : Int) (t : Tl) : Tl := ⟨t.name, min 50 (t.err + x3)⟩
def wdS (s : Spc) (x0 x1 x2 x3 : Int) : Spc := ⟨max 0 (s.s0 - x0), min 200 (s.s1 + x0), max (-20) (s.r0 - x1), min 20 (s.r1 + x1), max (-20) (s.b0 - x2), min 20 (s.b1 + x2), s.lim, s.blows, s.tools.map (wdT x3)⟩
theorem chk_parts {s : Spc} (h : (chk s).2.2 = 0) : levE s = 0 ∧ (blowsE s.blows).2 = 0 ∧ (toolsE s.tools).2 = 0 := by
  unfold chk at h
  by_cases h1 : levE s = 0
  · by_cases h2 : (blowsE s.blows).2 = 0
    · by_cases h3 : (toolsE s.tools).2 = 0
      · exact ⟨h1, h2, h3⟩
      · simp [h1, h2, h3] at h
    · simp [h1, h2] at h
  · simp [h1] at h
theorem tools_wd {l : List Tl} {x3 : Int} (hx : 0 ≤ x3) (h : (toolsE l).2 = 0) : (toolsE (l.map (wdT x3))).2 = 0 := by
  unfold toolsE at h ⊢
  rw [List.length_map]
  by_cases hw : wi 1 3 (l.length : Int) = true
  · rw [if_pos hw] at h ⊢
    rw [ff_zero] at h ⊢
    intro j hj
    have hj2 := h j hj
    simp only [toolAt, List.getElem?_map, List.getElem?_eq_getElem hj, Option.map_some] at hj2 ⊢
    unfold toolE at hj2 ⊢
    have hany : ((l.map (wdT x3)).take j).any (fun u => eqS u.name (wdT x3 l[j]).name) = (l.take j).any (fun u => eqS u.name l[j].name) := by
      rw [← List.map_take, List.any_map]
      rfl
    rw [hany]
    have hnm : (wdT x3 l[j]).name = l[j].name := rfl
    rw [hnm]
    by_cases h1 : isName l[j].name = true
    · rw [if_pos h1] at hj2 ⊢
      by_cases h2 : (l.take j).any (fun u => eqS u.name l[j].name) = true
      · rw [if_pos h2] at hj2; cases hj2
      · rw [if_neg h2] at hj2 ⊢
        by_cases h3 : wi 0 50 l[j].err = true
        · have h4 := wi_iff.1 h3
          rw [if_pos (wi_iff.2 (by show 0 ≤ min 50 (l[j].err + x3) ∧ min 50 (l[j].err + x3) ≤ 50; omega))]
        · rw [if_neg h3] at hj2; cases hj2
    · rw [if_neg h1] at hj2; cases hj2
  · rw [if_neg hw] at h; cases h
theorem chk_wd {s : Spc} {x0 x1 x2 x3 : Int} (h0 : 0 ≤ x0) (h1 : 0 ≤ x1) (h2 : 0 ≤ x2) (h3 : 0 ≤ x3) (h : (chk s).2.2 = 0) : (chk (wdS s x0 x1 x2 x3)).2.2 = 0 := by
  obtain ⟨a, b, c⟩ := chk_parts h
  have a2 : levE (wdS s x0 x1 x2 x3) = 0 := by
    have := levE_ok.1 a
    refine levE_ok.2 ?_
    simp only [wdS]
    omega
  have b2 : (blowsE (wdS s x0 x1 x2 x3).blows).2 = 0 := b
  have c2 : (toolsE (wdS s x0 x1 x2 x3).tools).2 = 0 := tools_wd h3 c
  unfold chk
  simp [a2, b2, c2]
theorem wid_wd {s : Spc} (hs : SOk s) {x0 x1 x2 x3 : Int} (h0 : 0 ≤ x0) (h1 : 0 ≤ x1) (h2 : 0 ≤ x2) : Wid s (wdS s x0 x1 x2 x3) := by
  obtain ⟨_, _, _, _, _, _, _, _, _, _, _, _, _, _, _, _⟩ := hs
  refine ⟨?_, ?_, fun m => ?_, fun m => ?_⟩
  · show max 0 (s.s0 - x0) ≤ s.s0; omega
  · show s.s1 ≤ min 200 (s.s1 + x0); omega
  · show (chg (wdS s x0 x1 x2 x3) m).1 ≤ (chg s m).1
    unfold chg
    by_cases hb : s.blows.any (fun b => wi b.1 b.2 m) = true
    · rw [if_pos hb, if_pos (show (wdS s x0 x1 x2 x3).blows.any (fun b => wi b.1 b.2 m) = true from hb)]; show max (-20) (s.b0 - x2) ≤ s.b0; omega
    · rw [if_neg hb, if_neg (show ¬ (wdS s x0 x1 x2 x3).blows.any (fun b => wi b.1 b.2 m) = true from hb)]; show max (-20) (s.r0 - x1) ≤ s.r0; omega
  · show (chg s m).2 ≤ (chg (wdS s x0 x1 x2 x3) m).2
    unfold chg
    by_cases hb : s.blows.any (fun b => wi b.1 b.2 m) = true
    · rw [if_pos hb, if_pos (show (wdS s x0 x1 x2 x3).blows.any (fun b => wi b.1 b.2 m) = true from hb)]; show s.b1 ≤ min 20 (s.b1 + x2); omega
    · rw [if_neg hb, if_neg (show ¬ (wdS s x0 x1 x2 x3).blows.any (fun b => wi b.1 b.2 m) = true from hb)]; show s.r1 ≤ min 20 (s.r1 + x1); omega
theorem les_wd {s : Spc} (hs : SOk s) {x0 x1 x2 x3 : Int} (h3 : 0 ≤ x3) {l : List Rd} (hro : ∀ r ∈ l, ROk s r) : Les s (wdS s x0 x1 x2 x3) l l := fun q hq => by
  refine ⟨q, hq, rfl, fun n hn => ?_⟩
  have hr := hro q hq
  have ht : q.tool.toNat < s.tools.length := by have := hr.t0; have := hr.t1; omega
  have e1 : errOf s q = s.tools[q.tool.toNat].err := by simp [errOf, List.getElem?_eq_getElem ht]
  have e2 : errOf (wdS s x0 x1 x2 x3) q = min 50 (s.tools[q.tool.toNat].err + x3) := by simp [errOf, wdS, wdT, List.getElem?_map, List.getElem?_eq_getElem ht]
  have hb := hs.er _ (List.getElem_mem ht)
  unfold near at hn ⊢
  rw [e1] at hn
  rw [e2]
  omega
end Td
end Go.Proofs.Ytmofbnadfgejiaa
