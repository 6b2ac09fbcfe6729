
/- The plain mathematics of layer 3 (gas): what is valid, which levels there can be, until when a torch may burn. It imports nothing of the program. -/
namespace Go.Proofs.Ytmofbnadfgejiaa
namespace Td
set_option linter.unusedVariables false

structure Tl where
  name : ByteArray
  err : Int
structure Spc where
  s0 : Int
  s1 : Int
  r0 : Int
  r1 : Int
  b0 : Int
  b1 : Int
  lim : Int
  blows : List (Int × Int)
  tools : List Tl
structure Rd where
  min : Int
  tool : Int
  shown : Int

/-- a number is from lo to hi. -/
def wi (lo hi n : Int) : Bool := decide (lo ≤ n) && decide (n ≤ hi)
theorem wi_iff {lo hi n : Int} : wi lo hi n = true ↔ lo ≤ n ∧ n ≤ hi := by simp [wi]
theorem wi_no {lo hi n : Int} : wi lo hi n = false ↔ n < lo ∨ hi < n := by
  rw [Bool.eq_false_iff, Ne, wi_iff]; omega
/-- both ends of all spans are from lo to hi. -/
def sw (lo hi : Int) (l : List (Int × Int)) : Bool := l.all fun s => wi lo hi s.1 && wi lo hi s.2
/-- some span is turned. -/
def tn (l : List (Int × Int)) : Bool := l.any fun s => decide (s.2 < s.1)

/-! ### names -/
/-- two strings hold the same bytes. -/
def eqS (a b : ByteArray) : Bool := a.toList == b.toList
def letterI (a : Int) : Bool := decide (97 ≤ a) && decide (a ≤ 122)
def digitI (a : Int) : Bool := decide (48 ≤ a) && decide (a ≤ 57)
/-- a letter or a digit. -/
def nameB (b : UInt8) : Bool := letterI b.toNat || digitI b.toNat
/-- a name. -/
def isName (s : ByteArray) : Bool := match s.data.toList with
  | [] => false
  | b :: r => decide ((b :: r).length ≤ 16) && letterI b.toNat && (b :: r).all nameB

/-! ### errors -/
/-- the first index of n at which f is an error, and this error. -/
def ff (f : Nat → Int) (n : Nat) : Int × Int := match (List.range n).find? (fun i => f i != 0) with
  | some i => (i, f i)
  | none => (0, 0)
theorem ff_at {f : Nat → Int} {n k : Nat} (hk : k < n) (h0 : ∀ j, j < k → f j = 0) (h : f k ≠ 0) : ff f n = ((k : Int), f k) := by
  have : (List.range n).find? (fun i => f i != 0) = some k := by
    rw [List.find?_range_eq_some]
    exact ⟨by simpa using h, by simpa using hk, fun j hj => by simp [h0 j hj]⟩
  simp [ff, this]
theorem ff_ok {f : Nat → Int} {n : Nat} (h0 : ∀ j, j < n → f j = 0) : ff f n = (0, 0) := by
  have : (List.range n).find? (fun i => f i != 0) = none := by
    rw [List.find?_range_eq_none]
    intro i hi
    simp [h0 i hi]
  simp [ff, this]
theorem ff_zero {f : Nat → Int} {n : Nat} : (ff f n).2 = 0 ↔ ∀ j, j < n → f j = 0 := by
  constructor
  · intro h j
    induction j using Nat.strongRecOn with
    | _ j ih =>
      intro hj
      by_cases hf : f j = 0
      · exact hf
      · have := ff_at hj (fun i hi => ih i hi (by omega)) hf
        rw [this] at h
        exact absurd h hf
  · intro h
    rw [ff_ok h]

def levE (s : Spc) : Int :=
  if sw 0 200 [(s.s0, s.s1)] && sw (-20) 20 [(s.r0, s.r1), (s.b0, s.b1)] && wi 0 200 s.lim then
    if tn [(s.s0, s.s1), (s.r0, s.r1), (s.b0, s.b1)] then 2 else 0
  else 7
/-- the error of a span of minutes behind those before it. -/
def blowE (b : Int × Int) (before : List (Int × Int)) : Int :=
  if sw 0 60 [b] then
    if tn [b] then 2 else match before.getLast? with | some p => if b.1 ≤ p.2 then 2 else 0 | none => 0
  else 7
def blowAt (l : List (Int × Int)) (i : Nat) : Int := match l[i]? with | some b => blowE b (l.take i) | none => 0
def blowsE (l : List (Int × Int)) : Int × Int := if 4 < l.length then (0, 3) else ff (blowAt l) l.length
def toolE (t : Tl) (before : List Tl) : Int :=
  if isName t.name then
    if before.any (fun u => eqS u.name t.name) then 5 else if wi 0 50 t.err then 0 else 7
  else 6
def toolAt (l : List Tl) (i : Nat) : Int := match l[i]? with | some t => toolE t (l.take i) | none => 0
def toolsE (l : List Tl) : Int × Int := if wi 1 3 l.length then ff (toolAt l) l.length else (0, 3)
def chk (s : Spc) : Int × Int × Int :=
  if levE s != 0 then (1, 0, levE s) else if (blowsE s.blows).2 != 0 then (2, (blowsE s.blows).1, (blowsE s.blows).2) else if (toolsE s.tools).2 != 0 then (3, (toolsE s.tools).1, (toolsE s.tools).2) else (0, 0, 0)
def rdE (n : Nat) (r : Rd) : Int :=
  if wi 0 ((n : Int) - 1) r.tool then if wi 0 60 r.min && wi (-50) 250 r.shown then 0 else 7 else 4
def rdAt (n : Nat) (l : List Rd) (i : Nat) : Int := match l[i]? with | some r => rdE n r | none => 0
def rdsE (n : Nat) (l : List Rd) : Int := if 12 < l.length then 3 else (ff (rdAt n l) l.length).2

/-! ### what is valid -/
structure SOk (s : Spc) : Prop where
  s0 : 0 ≤ s.s0
  s01 : s.s0 ≤ s.s1
  s1 : s.s1 ≤ 200
  r0 : -20 ≤ s.r0
  r01 : s.r0 ≤ s.r1
  r1 : s.r1 ≤ 20
  b0 : -20 ≤ s.b0
  b01 : s.b0 ≤ s.b1
  b1 : s.b1 ≤ 20
  l0 : 0 ≤ s.lim
  l1 : s.lim ≤ 200
  nb : s.blows.length ≤ 4
  bl : ∀ b ∈ s.blows, 0 ≤ b.1 ∧ b.1 ≤ b.2 ∧ b.2 ≤ 60
  t1 : 1 ≤ s.tools.length
  t3 : s.tools.length ≤ 3
  er : ∀ t ∈ s.tools, 0 ≤ t.err ∧ t.err ≤ 50
structure ROk (s : Spc) (r : Rd) : Prop where
  t0 : 0 ≤ r.tool
  t1 : r.tool < s.tools.length
  m0 : 0 ≤ r.min
  m1 : r.min ≤ 60
  h0 : -50 ≤ r.shown
  h1 : r.shown ≤ 250
theorem levE_ok {s : Spc} : levE s = 0 ↔ (0 ≤ s.s0 ∧ s.s0 ≤ s.s1 ∧ s.s1 ≤ 200) ∧ (-20 ≤ s.r0 ∧ s.r0 ≤ s.r1 ∧ s.r1 ≤ 20) ∧ (-20 ≤ s.b0 ∧ s.b0 ≤ s.b1 ∧ s.b1 ≤ 20) ∧ 0 ≤ s.lim ∧ s.lim ≤ 200 := by
  unfold levE
  simp only [sw, tn, wi, List.all_cons, List.all_nil, List.any_cons, List.any_nil, Bool.and_true, Bool.or_false]
  split
  · rename_i h
    simp at h
    split
    · rename_i h2
      simp at h2
      constructor
      · intro h3; cases h3
      · intro h3; omega
    · rename_i h2
      simp at h2
      constructor
      · intro _; omega
      · intro _; rfl
  · rename_i h
    simp at h
    constructor
    · intro h3; cases h3
    · intro h3; omega
theorem chk_ok {s : Spc} (h : (chk s).2.2 = 0) : SOk s := by
  unfold chk at h
  by_cases h1 : levE s = 0
  · by_cases h2 : (blowsE s.blows).2 = 0
    · by_cases h3 : (toolsE s.tools).2 = 0
      · obtain ⟨⟨a1, a2, a3⟩, ⟨a4, a5, a6⟩, ⟨a7, a8, a9⟩, a10, a11⟩ := levE_ok.1 h1
        have hb : s.blows.length ≤ 4 := by
          unfold blowsE at h2
          split at h2
          · cases h2
          · omega
        have ht : wi 1 3 s.tools.length = true := by
          unfold toolsE at h3
          split at h3
          · assumption
          · cases h3
        have ht' := wi_iff.1 ht
        refine ⟨a1, a2, a3, a4, a5, a6, a7, a8, a9, a10, a11, hb, ?_, by omega, by omega, ?_⟩
        · intro b hb'
          obtain ⟨j, hj, rfl⟩ := List.mem_iff_getElem.1 hb'
          unfold blowsE at h2
          rw [if_neg (by omega)] at h2
          have := ff_zero.1 h2 j hj
          simp only [blowAt, List.getElem?_eq_getElem hj] at this
          unfold blowE at this
          split at this
          · rename_i h4
            simp [sw, wi] at h4
            split at this
            · cases this
            · rename_i h5
              simp [tn] at h5
              omega
          · cases this
        · intro t ht2
          obtain ⟨j, hj, rfl⟩ := List.mem_iff_getElem.1 ht2
          unfold toolsE at h3
          rw [if_pos ht] at h3
          have := ff_zero.1 h3 j hj
          simp only [toolAt, List.getElem?_eq_getElem hj] at this
          unfold toolE at this
          split at this
          · split at this
            · cases this
            · split at this
              · rename_i h6
                exact wi_iff.1 h6
              · cases this
          · cases this
      · simp [h1, h2, h3] at h
    · simp [h1, h2] at h
  · simp [h1] at h
theorem rdE_ok {s : Spc} {r : Rd} : rdE s.tools.length r = 0 ↔ ROk s r := by
  unfold rdE
  constructor
  · intro h
    split at h
    · rename_i h1
      split at h
      · rename_i h2
        simp [wi] at h1 h2
        exact ⟨by omega, by omega, by omega, by omega, by omega, by omega⟩
      · cases h
    · cases h
  · intro h
    obtain ⟨_, _, _, _, _, _⟩ := h
    rw [if_pos (wi_iff.2 (by omega)), if_pos (by simp [wi]; omega)]
theorem rdsE_ok {s : Spc} {l : List Rd} : rdsE s.tools.length l = 0 ↔ l.length ≤ 12 ∧ ∀ r ∈ l, ROk s r := by
  unfold rdsE
  split
  · rename_i h
    constructor
    · intro h'; cases h'
    · intro h'; omega
  · rename_i h
    rw [ff_zero]
    constructor
    · intro h'
      refine ⟨by omega, fun r hr => ?_⟩
      obtain ⟨j, hj, rfl⟩ := List.mem_iff_getElem.1 hr
      have := h' j hj
      simp only [rdAt, List.getElem?_eq_getElem hj] at this
      exact rdE_ok.1 this
    · rintro ⟨_, h'⟩ j hj
      simp only [rdAt, List.getElem?_eq_getElem hj]
      exact rdE_ok.2 (h' _ (List.getElem_mem hj))

/-! ### levels -/
/-- the levels from lo to hi; none if they are turned. -/
def btw (lo hi : Int) : Option (Int × Int) := if hi < lo then none else some (lo, hi)
/-- a level that stays from 0 to 200. -/
def hld (n : Int) : Int := max 0 (min n 200)
def errOf (s : Spc) (r : Rd) : Int := (s.tools[r.tool.toNat]?.map Tl.err).getD 0
def com (a b : Option (Int × Int)) : Option (Int × Int) := match a, b with
  | some x, some y => btw (max x.1 y.1) (min x.2 y.2)
  | _, _ => none
def cut (s : Spc) (r : Rd) (o : Option (Int × Int)) : Option (Int × Int) := com o (btw (r.shown - errOf s r) (r.shown + errOf s r))
/-- those that agree with some readings, one after the other. -/
def agr (s : Spc) (l : List Rd) (o : Option (Int × Int)) : Option (Int × Int) := l.foldl (fun o r => cut s r o) o
/-- the readings of a minute. -/
def atM (l : List Rd) (m : Int) : List Rd := l.filter fun r => decide (r.min = m)
/-- the readings that are known at a minute. -/
def kno (l : List Rd) (m : Int) : List Rd := l.filter fun r => decide (r.min ≤ m)
/-- by which numbers the level changes behind a minute. -/
def chg (s : Spc) (m : Int) : Int × Int := if s.blows.any (fun b => wi b.1 b.2 m) then (s.b0, s.b1) else (s.r0, s.r1)
def aft (x c : Int × Int) : Option (Int × Int) := btw (hld (x.1 + c.1)) (hld (x.2 + c.2))
/-- which levels there can be k minutes behind one. -/
def lv (s : Spc) (l : List Rd) (m : Int) (o : Option (Int × Int)) : Nat → Option (Int × Int)
  | 0 => agr s (atM l m) o
  | k + 1 => agr s (atM l (m + ((k + 1 : Nat) : Int))) ((lv s l m o k).bind fun x => aft x (chg s (m + k)))
/-- the same before what was read then is known. -/
def pre (s : Spc) (l : List Rd) (m : Int) (o : Option (Int × Int)) : Nat → Option (Int × Int)
  | 0 => o
  | k + 1 => (lv s l m o k).bind fun x => aft x (chg s (m + k))
theorem lv_eq (s : Spc) (l : List Rd) (m : Int) (o : Option (Int × Int)) (k : Nat) : lv s l m o k = agr s (atM l (m + k)) (pre s l m o k) := by
  cases k with
  | zero => simp [lv, pre]
  | succ k => rfl
/-- how many of the first n are good, until one is not. -/
def lead (p : Nat → Bool) (n : Nat) : Nat := ((List.range n).takeWhile p).length
def good (s : Spc) (l : List Rd) (m : Int) (o : Option (Int × Int)) (k : Nat) : Bool := match lv s l m o k with
  | some x => decide (x.2 ≤ s.lim)
  | none => false
/-- the last minute until which no level is above the limit. -/
def untl (s : Spc) (l : List Rd) (m : Int) (o : Option (Int × Int)) : Int :=
  let c := lead (good s l m o) (61 - m).toNat
  if c = 0 then -1 else m + c - 1
/-- the first truth whose last level is a given one: from the last minute backwards. -/
def bkd (lo c : Nat → Int) (last : Int) (n : Nat) : Nat → Int
  | 0 => last
  | j + 1 => if bkd lo c last n j = 0 then lo (n - (j + 1)) else max (lo (n - (j + 1))) (bkd lo c last n j - c (n - (j + 1)))
def lowOf (s : Spc) (l : List Rd) (m : Int) (o : Option (Int × Int)) (k : Nat) : Int := ((lv s l m o k).map Prod.fst).getD 0
def tru (s : Spc) (l : List Rd) (n : Nat) (last : Int) : List Int :=
  (List.range (n + 1)).map fun k => bkd (lowOf s l 0 (btw s.s0 s.s1)) (fun k => (chg s k).2) last n (n - k)
/-- until when a reading holds. -/
def hol (s : Spc) (r : Rd) : Int :=
  if r.shown + errOf s r < 0 then -1 else untl s [] r.min (btw (hld (r.shown + errOf s r)) (hld (r.shown + errOf s r)))
/-- the first of the shortest lists that are not empty. -/
def shorter (best l : List Int) : List Int := if best.length = 0 ∨ (0 < l.length ∧ l.length < best.length) then l else best
def shortest (l : List (List Int)) : List Int := l.foldl shorter []
/-- the lists of the minutes from 'to' back to the d-th before it. -/
def tab (U : Int → Int) (from_ to : Nat) : Nat → Nat → List Int
  | 0, _ => []
  | d + 1, m => if m = to - d then
      (if (List.range m).any (fun e => decide (from_ ≤ e) && decide (U m ≤ U e)) then []
       else (m : Int) :: (if U m < to then shortest ((List.range ((U m).toNat + 1 - m)).map fun i => tab U from_ to d (m + 1 + i)) else []))
    else tab U from_ to d m
def few (s : Spc) (r : Rd) (to : Int) : List Int :=
  tab (fun m => hol s { r with min := m }) r.min.toNat to.toNat (to.toNat + 1 - r.min.toNat) r.min.toNat

/-! ### answers -/
/-- the levels at a minute, of what is known then. -/
def now (s : Spc) (l : List Rd) (m : Int) : Option (Int × Int) := lv s (kno l m) 0 (btw s.s0 s.s1) m.toNat
/-- the error of a space, readings and a minute. -/
def watE (s : Spc) (l : List Rd) (m : Int) : Int :=
  if (chk s).2.2 != 0 then (chk s).2.2 else if rdsE s.tools.length l != 0 then rdsE s.tools.length l else if wi 0 60 m then (if (now s l m).isSome then 0 else 9) else 7
def levelA (s : Spc) (l : List Rd) (m : Int) : (Int × Int) × Int := if watE s l m = 0 then ((now s l m).getD (0, 0), 0) else ((0, 0), watE s l m)
def untilA (s : Spc) (l : List Rd) (m : Int) : Int × Int := if watE s l m = 0 then (untl s (kno l m) m (now s l m), 0) else (0, watE s l m)
def refusalA (s : Spc) (l : List Rd) (m : Int) : List Int × Int :=
  if watE s l m = 0 then
    (if ((now s l m).getD (0, 0)).2 ≤ s.lim then ([], 4) else (tru s (kno l m) m.toNat (max ((now s l m).getD (0, 0)).1 (s.lim + 1)), 0))
  else ([], watE s l m)
def toolE2 (s : Spc) (r : Rd) : Int := if (chk s).2.2 != 0 then (chk s).2.2 else rdE s.tools.length r
def holdsA (s : Spc) (r : Rd) : Int × Int := if toolE2 s r = 0 then (hol s r, 0) else (0, toolE2 s r)
def fewestE (s : Spc) (r : Rd) (to : Int) : Int :=
  if toolE2 s r != 0 then toolE2 s r else if wi 0 60 to then (if to < r.min then 2 else if hol s r < r.min then 9 else 0) else 7
def fewestA (s : Spc) (r : Rd) (to : Int) : List Int × Int := if fewestE s r to = 0 then (few s r to, 0) else ([], fewestE s r to)
end Td
end Go.Proofs.Ytmofbnadfgejiaa
/- Which levels there can be, by membership: spans of levels are exactly what truths reach. -/
namespace Go.Proofs.Ytmofbnadfgejiaa
namespace Td
set_option linter.unusedVariables false
/-- a level is among some. -/
def mem (o : Option (Int × Int)) (n : Int) : Prop := ∃ x, o = some x ∧ x.1 ≤ n ∧ n ≤ x.2
/-- some levels are from 0 to 200. -/
def Vd (o : Option (Int × Int)) : Prop := ∀ x, o = some x → 0 ≤ x.1 ∧ x.1 ≤ x.2 ∧ x.2 ≤ 200
theorem mem_none (n : Int) : ¬ mem none n := by rintro ⟨x, h, _⟩; cases h
theorem mem_some (x : Int × Int) (n : Int) : mem (some x) n ↔ x.1 ≤ n ∧ n ≤ x.2 := by
  constructor
  · rintro ⟨y, h, h1⟩; cases h; exact h1
  · intro h; exact ⟨x, rfl, h⟩
theorem mem_btw (a b n : Int) : mem (btw a b) n ↔ a ≤ n ∧ n ≤ b := by
  unfold btw
  split
  · constructor
    · intro h; exact absurd h (mem_none n)
    · intro h; omega
  · exact mem_some _ _
theorem mem_com (a b : Option (Int × Int)) (n : Int) : mem (com a b) n ↔ mem a n ∧ mem b n := by
  cases a with
  | none => simp [com, mem_none]
  | some x => cases b with
    | none => simp [com, mem_none]
    | some y => simp only [com, mem_btw, mem_some]; omega
def near (s : Spc) (r : Rd) (n : Int) : Prop := r.shown - errOf s r ≤ n ∧ n ≤ r.shown + errOf s r
theorem mem_cut (s : Spc) (r : Rd) (o : Option (Int × Int)) (n : Int) : mem (cut s r o) n ↔ mem o n ∧ near s r n := by
  unfold cut near; rw [mem_com, mem_btw]
theorem mem_agr (s : Spc) (l : List Rd) (o : Option (Int × Int)) (n : Int) : mem (agr s l o) n ↔ mem o n ∧ ∀ r ∈ l, near s r n := by
  unfold agr
  induction l generalizing o with
  | nil => simp
  | cons r l ih =>
    rw [List.foldl_cons, ih, mem_cut]
    simp only [List.mem_cons, forall_eq_or_imp]
    constructor
    · rintro ⟨⟨a, b⟩, c⟩; exact ⟨a, b, c⟩
    · rintro ⟨a, b, c⟩; exact ⟨⟨a, b⟩, c⟩
/-- no span is turned. -/
def Up (o : Option (Int × Int)) : Prop := ∀ x, o = some x → x.1 ≤ x.2
theorem Vd.up {o : Option (Int × Int)} (h : Vd o) : Up o := fun x hx => (h x hx).2.1
theorem up_btw (a b : Int) : Up (btw a b) := by
  intro x hx
  unfold btw at hx
  split at hx
  · cases hx
  · cases hx; simp; omega
theorem up_ext {o p : Option (Int × Int)} (ho : Up o) (hp : Up p) (h : ∀ n, mem o n ↔ mem p n) : o = p := by
  cases o with
  | none => cases p with
    | none => rfl
    | some y =>
      have := hp y rfl
      exact absurd ((h y.1).2 ((mem_some _ _).2 ⟨by omega, by omega⟩)) (mem_none _)
  | some x =>
    have hx := ho x rfl
    have h1 := (h x.1).1 ((mem_some _ _).2 ⟨by omega, by omega⟩)
    have h2 := (h x.2).1 ((mem_some _ _).2 ⟨by omega, by omega⟩)
    cases p with
    | none => exact absurd h1 (mem_none _)
    | some y =>
      have hy := hp y rfl
      have h3 := (h y.1).2 ((mem_some _ _).2 ⟨by omega, by omega⟩)
      have h4 := (h y.2).2 ((mem_some _ _).2 ⟨by omega, by omega⟩)
      rw [mem_some] at h1 h2 h3 h4
      congr 1
      exact Prod.ext (by omega) (by omega)
theorem vd_of {o : Option (Int × Int)} (hu : Up o) (h : ∀ n, mem o n → 0 ≤ n ∧ n ≤ 200) : Vd o := by
  intro x hx
  have hu := hu x hx
  have h1 := h x.1 ⟨x, hx, by omega, by omega⟩
  have h2 := h x.2 ⟨x, hx, by omega, by omega⟩
  omega
theorem Vd.mem {o : Option (Int × Int)} (h : Vd o) {n : Int} (hn : mem o n) : 0 ≤ n ∧ n ≤ 200 := by
  obtain ⟨x, hx, h1, h2⟩ := hn
  have := h x hx
  omega
theorem up_agr {s : Spc} {l : List Rd} {o : Option (Int × Int)} (h : Up o) : Up (agr s l o) := by
  unfold agr
  induction l generalizing o with
  | nil => exact h
  | cons r l ih =>
    rw [List.foldl_cons]
    apply ih
    intro x hx
    unfold cut com at hx
    split at hx
    · exact up_btw _ _ x hx
    · cases hx
theorem vd_agr {s : Spc} {l : List Rd} {o : Option (Int × Int)} (h : Vd o) : Vd (agr s l o) :=
  vd_of (up_agr h.up) fun n hn => h.mem ((mem_agr s l o n).1 hn).1
theorem hld_in (n : Int) : 0 ≤ hld n ∧ hld n ≤ 200 := by unfold hld; omega
theorem hld_mono {a b : Int} (h : a ≤ b) : hld a ≤ hld b := by unfold hld; omega
theorem hld_id {n : Int} (h0 : 0 ≤ n) (h1 : n ≤ 200) : hld n = n := by unfold hld; omega
/-- what a minute makes of some levels. -/
theorem mem_aft {x c : Int × Int} (hx : x.1 ≤ x.2) (hc : c.1 ≤ c.2) (n : Int) : mem (aft x c) n ↔ ∃ k b, x.1 ≤ k ∧ k ≤ x.2 ∧ c.1 ≤ b ∧ b ≤ c.2 ∧ n = hld (k + b) := by
  unfold aft
  rw [mem_btw]
  constructor
  · rintro ⟨h1, h2⟩
    have hin : 0 ≤ n ∧ n ≤ 200 := by
      have := hld_in (x.1 + c.1); have := hld_in (x.2 + c.2); omega
    -- the number that leads to n: n itself, drawn into the sums
    obtain ⟨t, ht1, ht2, ht3⟩ : ∃ t, x.1 + c.1 ≤ t ∧ t ≤ x.2 + c.2 ∧ n = hld t := by
      by_cases ha : n < x.1 + c.1
      · exact ⟨x.1 + c.1, by omega, by omega, by unfold hld at *; omega⟩
      · by_cases hb : x.2 + c.2 < n
        · exact ⟨x.2 + c.2, by omega, by omega, by unfold hld at *; omega⟩
        · exact ⟨n, by omega, by omega, (hld_id hin.1 hin.2).symm⟩
    by_cases hk : t - c.1 ≤ x.2
    · exact ⟨t - c.1, c.1, by omega, hk, by omega, hc, by rw [ht3]; congr 1; omega⟩
    · exact ⟨x.2, t - x.2, hx, by omega, by omega, by omega, by rw [ht3]; congr 1; omega⟩
  · rintro ⟨k, b, h1, h2, h3, h4, rfl⟩
    exact ⟨hld_mono (by omega), hld_mono (by omega)⟩
theorem vd_aft {x c : Int × Int} : Vd (aft x c) := by
  refine vd_of (up_btw _ _) fun n hn => ?_
  rw [aft, mem_btw] at hn
  have := hld_in (x.1 + c.1); have := hld_in (x.2 + c.2); omega
theorem chg_ok {s : Spc} (h : SOk s) (m : Int) : -20 ≤ (chg s m).1 ∧ (chg s m).1 ≤ (chg s m).2 ∧ (chg s m).2 ≤ 20 := by
  obtain ⟨_, _, _, _, _, _, _, _, _, _, _, _, _, _, _, _⟩ := h
  unfold chg
  split
  · exact ⟨by omega, by omega, by omega⟩
  · exact ⟨by omega, by omega, by omega⟩
theorem vd_pre {s : Spc} {l : List Rd} {m : Int} {o : Option (Int × Int)} (h : Vd o) (k : Nat) : Vd (pre s l m o k) := by
  cases k with
  | zero => exact h
  | succ k =>
    intro x hx
    rw [pre] at hx
    cases hl : lv s l m o k with
    | none => rw [hl] at hx; cases hx
    | some y => rw [hl] at hx; exact vd_aft x hx
theorem vd_lv {s : Spc} {l : List Rd} {m : Int} {o : Option (Int × Int)} (h : Vd o) (k : Nat) : Vd (lv s l m o k) := by
  rw [lv_eq]; exact vd_agr (vd_pre h k)
theorem vd_start {s : Spc} (h : SOk s) : Vd (btw s.s0 s.s1) := by
  refine vd_of (up_btw _ _) fun n hn => ?_
  rw [mem_btw] at hn
  have := h.s0; have := h.s1; omega
theorem errOf_ok {s : Spc} (h : SOk s) (r : Rd) : 0 ≤ errOf s r ∧ errOf s r ≤ 50 := by
  unfold errOf
  cases ht : s.tools[r.tool.toNat]? with
  | none => simp
  | some t => simpa using h.er t (List.mem_of_getElem? ht)
/-- a list of levels in which each comes of the one before. -/
def Step (s : Spc) (m : Int) (t : Nat → Int) (k : Nat) : Prop := ∀ j, j < k → ∃ b, (chg s (m + j)).1 ≤ b ∧ b ≤ (chg s (m + j)).2 ∧ t (j + 1) = hld (t j + b)
/-- it agrees with the readings of its minutes. -/
def Fits (s : Spc) (l : List Rd) (m : Int) (t : Nat → Int) (k : Nat) : Prop := ∀ j, j ≤ k → ∀ r ∈ l, r.min = m + j → near s r (t j)
theorem mem_atM {l : List Rd} {m : Int} {r : Rd} : r ∈ atM l m ↔ r ∈ l ∧ r.min = m := by simp [atM]
/-- the levels are exactly what truths reach. -/
theorem mem_lv {s : Spc} (hs : SOk s) {l : List Rd} {m : Int} {o : Option (Int × Int)} (ho : Vd o) (k : Nat) (n : Int) :
    mem (lv s l m o k) n ↔ ∃ t : Nat → Int, mem o (t 0) ∧ Step s m t k ∧ Fits s l m t k ∧ t k = n := by
  induction k generalizing n with
  | zero =>
    rw [lv, mem_agr]
    constructor
    · rintro ⟨h1, h2⟩
      refine ⟨fun _ => n, h1, fun j hj => absurd hj (by omega), fun j hj r hr he => h2 r (mem_atM.2 ⟨hr, by simpa [show j = 0 by omega] using he⟩), rfl⟩
    · rintro ⟨t, h1, _, h3, rfl⟩
      exact ⟨h1, fun r hr => h3 0 (Nat.le_refl _) r (mem_atM.1 hr).1 (by simpa using (mem_atM.1 hr).2)⟩
  | succ k ih =>
    rw [lv_eq, mem_agr]
    constructor
    · rintro ⟨h1, h2⟩
      rw [pre] at h1
      cases hl : lv s l m o k with
      | none => rw [hl] at h1; exact absurd h1 (mem_none n)
      | some x =>
        rw [hl] at h1
        have hx := vd_lv ho k x hl
        obtain ⟨a, b, h3, h4, h5, h6, rfl⟩ := (mem_aft hx.2.1 (chg_ok hs (m + k)).2.1 n).1 h1
        obtain ⟨t, t1, t2, t3, rfl⟩ := (ih a).1 ⟨x, hl, h3, h4⟩
        refine ⟨fun j => if j ≤ k then t j else hld (t k + b), by simpa using t1, ?_, ?_, by simp [show ¬ k + 1 ≤ k by omega]⟩
        · intro j hj
          by_cases hjk : j < k
          · obtain ⟨c, c1, c2, c3⟩ := t2 j hjk
            exact ⟨c, c1, c2, by simp [show j ≤ k by omega, show j + 1 ≤ k by omega, c3]⟩
          · obtain rfl : j = k := by omega
            exact ⟨b, h5, h6, by simp [show ¬ j + 1 ≤ j by omega]⟩
        · intro j hj r hr he
          by_cases hjk : j ≤ k
          · simp only [hjk, if_true]; exact t3 j hjk r hr he
          · obtain rfl : j = k + 1 := by omega
            simp only [hjk, if_false]
            exact h2 r (mem_atM.2 ⟨hr, he⟩)
    · rintro ⟨t, t1, t2, t3, rfl⟩
      have hk : mem (lv s l m o k) (t k) := (ih (t k)).2 ⟨t, t1, fun j hj => t2 j (by omega), fun j hj => t3 j (by omega), rfl⟩
      obtain ⟨x, hx, x1, x2⟩ := hk
      refine ⟨?_, fun r hr => t3 (k + 1) (Nat.le_refl _) r (mem_atM.1 hr).1 (mem_atM.1 hr).2⟩
      obtain ⟨b, b1, b2, b3⟩ := t2 k (by omega)
      show mem ((lv s l m o k).bind _) _
      rw [hx]
      exact (mem_aft (vd_lv ho k x hx).2.1 (chg_ok hs (m + k)).2.1 _).2 ⟨t k, b, x1, x2, b1, b2, b3⟩
end Td
end Go.Proofs.Ytmofbnadfgejiaa
/- Until when a reading holds; the fewest readings: facts. -/
namespace Go.Proofs.Ytmofbnadfgejiaa
namespace Td
set_option linter.unusedVariables false
theorem lead_le (p : Nat → Bool) (n : Nat) : lead p n ≤ n := by
  unfold lead
  have := (List.takeWhile_sublist (l := List.range n) p).length_le
  simpa using this
theorem lead_pos {p : Nat → Bool} {n : Nat} (hn : 1 ≤ n) : 1 ≤ lead p n ↔ p 0 = true := by
  obtain ⟨k, rfl⟩ : ∃ k, n = k + 1 := ⟨n - 1, by omega⟩
  unfold lead
  rw [List.range_succ_eq_map]
  cases h : p 0 <;> simp [h]
theorem atM_nil (m : Int) : atM [] m = [] := rfl
theorem agr_nil (s : Spc) (o : Option (Int × Int)) : agr s [] o = o := rfl
theorem good_zero (s : Spc) (m : Int) (L : Int) : good s [] m (btw L L) 0 = decide (L ≤ s.lim) := by
  simp [good, lv, atM_nil, agr_nil, btw]
theorem untl_ge {s : Spc} {l : List Rd} {m : Int} {o : Option (Int × Int)} (h0 : 0 ≤ m) (h1 : m ≤ 60) : (m ≤ untl s l m o ↔ good s l m o 0 = true) ∧ untl s l m o ≤ 60 ∧ -1 ≤ untl s l m o ∧ (untl s l m o < m → untl s l m o = -1) := by
  have hp := lead_pos (p := good s l m o) (n := (61 - m).toNat) (by omega)
  have hl := lead_le (good s l m o) (61 - m).toNat
  unfold untl
  simp only []
  split
  · rename_i h
    refine ⟨⟨fun h' => by omega, fun h' => ?_⟩, by omega, by omega, fun _ => rfl⟩
    have := hp.2 h'
    omega
  · rename_i h
    exact ⟨⟨fun _ => hp.1 (by omega), fun _ => by omega⟩, by omega, by omega, fun h' => by omega⟩
theorem hol_in {s : Spc} {r : Rd} (h0 : 0 ≤ r.min) (h1 : r.min ≤ 60) : -1 ≤ hol s r ∧ hol s r ≤ 60 ∧ (hol s r < r.min → hol s r = -1) := by
  unfold hol
  split
  · exact ⟨by omega, by omega, fun _ => rfl⟩
  · obtain ⟨_, h2, h3, h4⟩ := untl_ge (s := s) (l := []) (o := btw (hld (r.shown + errOf s r)) (hld (r.shown + errOf s r))) h0 h1
    exact ⟨h3, h2, h4⟩
theorem hol_own {s : Spc} {r : Rd} (h0 : 0 ≤ r.min) (h1 : r.min ≤ 60) (h : r.min ≤ hol s r) {m : Int} (m0 : 0 ≤ m) (m1 : m ≤ 60) : m ≤ hol s { r with min := m } := by
  unfold hol at h ⊢
  have he : errOf s { r with min := m } = errOf s r := rfl
  rw [he]
  split at h
  · omega
  · rename_i hn
    rw [if_neg hn]
    have h2 := (untl_ge (s := s) (l := []) (o := btw (hld (r.shown + errOf s r)) (hld (r.shown + errOf s r))) h0 h1).1.1 h
    rw [good_zero] at h2
    refine (untl_ge m0 m1).1.2 ?_
    rw [good_zero]
    exact h2
theorem tab_low {U : Int → Int} {fr to : Nat} {d m : Nat} (h : m + d ≤ to) : tab U fr to d m = [] := by
  induction d with
  | zero => rfl
  | succ d ih =>
    rw [tab, if_neg (by omega)]
    exact ih (by omega)
theorem tab_other {U : Int → Int} {fr to : Nat} {d m : Nat} (h : m ≠ to - d) : tab U fr to (d + 1) m = tab U fr to d m := by rw [tab, if_neg h]
theorem tab_skip {U : Int → Int} {fr to d e m : Nat} (h : m = to - d) (he : e < m) (hf : fr ≤ e) (hU : U m ≤ U e) : tab U fr to (d + 1) m = [] := by
  rw [tab, if_pos h, if_pos]
  rw [List.any_eq_true]
  exact ⟨e, List.mem_range.2 he, by simp [hf, hU]⟩
theorem tab_take {U : Int → Int} {fr to d m : Nat} (h : m = to - d) (hn : ∀ e, e < m → fr ≤ e → U e < U m) : tab U fr to (d + 1) m = (m : Int) :: (if U m < to then shortest ((List.range ((U m).toNat + 1 - m)).map fun i => tab U fr to d (m + 1 + i)) else []) := by
  rw [tab, if_pos h, if_neg]
  rw [List.any_eq_true]
  rintro ⟨e, he, h2⟩
  simp at h2
  have := hn e (List.mem_range.1 he) h2.1
  omega
theorem shortest_len {l : List (List Int)} {n : Nat} (h : ∀ x ∈ l, x.length ≤ n) : (shortest l).length ≤ n := by
  unfold shortest
  suffices ∀ (b : List Int), b.length ≤ n → (l.foldl shorter b).length ≤ n from this [] (by simp)
  induction l with
  | nil => intro b hb; exact hb
  | cons a l ih =>
    intro b hb
    rw [List.foldl_cons]
    refine ih (fun x hx => h x (by simp [hx])) _ ?_
    unfold shorter
    split
    · exact h a (by simp)
    · exact hb
theorem tab_len {U : Int → Int} {fr to d m : Nat} : (tab U fr to d m).length ≤ d := by
  induction d generalizing m with
  | zero => simp [tab]
  | succ d ih =>
    rw [tab]
    split
    · split
      · simp
      · split
        · simp only [List.length_cons, Nat.succ_le_succ_iff]
          refine shortest_len fun x hx => ?_
          obtain ⟨i, _, rfl⟩ := List.mem_map.1 hx
          exact ih
        · simp
    · exact Nat.le_succ_of_le ih
end Td
end Go.Proofs.Ytmofbnadfgejiaa
/- The more a reading shows the shorter it holds. -/
namespace Go.Proofs.Ytmofbnadfgejiaa
namespace Td
set_option linter.unusedVariables false
theorem lead_true {p : Nat → Bool} {n j : Nat} (h : j < lead p n) : p j = true := by
  unfold lead at h
  have hp := List.takeWhile_prefix (l := List.range n) p
  have hlen := hp.length_le
  have hj : j < (List.range n).length := by omega
  have h1 : ((List.range n).takeWhile p)[j]'h = (List.range n)[j]'hj := hp.getElem h
  have h2 : ((List.range n).takeWhile p)[j]'h ∈ (List.range n).takeWhile p := List.getElem_mem _
  have h3 := List.all_takeWhile (p := p) (l := List.range n)
  rw [List.all_eq_true] at h3
  have h4 := h3 _ h2
  rw [h1] at h4
  simpa using h4
theorem lead_ge {q : Nat → Bool} {n k : Nat} (hk : k ≤ n) (h : ∀ j, j < k → q j = true) : k ≤ lead q n := by
  unfold lead
  have hsp : List.range n = List.range k ++ List.range' k (n - k) := by
    have e : List.range n = List.range' 0 (k + (n - k)) := by rw [List.range_eq_range']; congr 1; omega
    rw [e, ← List.range'_append_1, ← List.range_eq_range', Nat.zero_add]
  rw [hsp, List.takeWhile_append_of_pos (by intro a ha; exact h a (List.mem_range.1 ha))]
  simp
theorem lead_mono {p q : Nat → Bool} {n : Nat} (h : ∀ j, p j = true → q j = true) : lead p n ≤ lead q n :=
  lead_ge (lead_le p n) fun j hj => h j (lead_true hj)
theorem untl_mono {s1 s2 : Spc} {l1 l2 : List Rd} {m : Int} {o1 o2 : Option (Int × Int)} (h0 : 0 ≤ m) (h : ∀ k, good s1 l1 m o1 k = true → good s2 l2 m o2 k = true) : untl s1 l1 m o1 ≤ untl s2 l2 m o2 := by
  have := lead_mono (n := (61 - m).toNat) h
  unfold untl
  simp only []
  split <;> split <;> omega
/-- the greatest level, minute by minute, where nothing is read. -/
def Tp (s : Spc) (m h : Int) : Nat → Int
  | 0 => h
  | k + 1 => hld (Tp s m h k + (chg s (m + k)).2)
theorem Tp_mono {s : Spc} {m a b : Int} (h : a ≤ b) (k : Nat) : Tp s m a k ≤ Tp s m b k := by
  induction k with
  | zero => exact h
  | succ k ih => exact hld_mono (by omega)
theorem lv_free {s : Spc} {l : List Rd} {m : Int} {x : Int × Int} (hs : SOk s) (hx : x.1 ≤ x.2) (h0 : agr s (atM l m) (some x) = some x) (hl : ∀ k : Nat, atM l (m + ((k + 1 : Nat) : Int)) = []) (k : Nat) :
    ∃ y, lv s l m (some x) k = some y ∧ y.2 = Tp s m x.2 k ∧ y.1 ≤ y.2 := by
  induction k with
  | zero => exact ⟨x, h0, rfl, hx⟩
  | succ k ih =>
    obtain ⟨y, h1, h2, h3⟩ := ih
    have hc := chg_ok hs (m + k)
    have h4 : hld (y.1 + (chg s (m + k)).1) ≤ hld (y.2 + (chg s (m + k)).2) := hld_mono (by omega)
    refine ⟨(hld (y.1 + (chg s (m + k)).1), hld (y.2 + (chg s (m + k)).2)), ?_, ?_, h4⟩
    · rw [lv, hl k, agr_nil, h1]
      show aft y (chg s (m + k)) = _
      unfold aft btw
      rw [if_neg (by omega)]
    · show hld (y.2 + _) = hld (_ + _)
      rw [h2]
theorem good_free {s : Spc} {l : List Rd} {m : Int} {x : Int × Int} (hs : SOk s) (hx : x.1 ≤ x.2) (h0 : agr s (atM l m) (some x) = some x) (hl : ∀ k : Nat, atM l (m + ((k + 1 : Nat) : Int)) = []) (k : Nat) :
    good s l m (some x) k = decide (Tp s m x.2 k ≤ s.lim) := by
  obtain ⟨y, h1, h2, _⟩ := lv_free hs hx h0 hl k
  simp [good, h1, h2]
theorem hol_eq {s : Spc} {r : Rd} (h : 0 ≤ r.shown + errOf s r) : hol s r = untl s [] r.min (some (hld (r.shown + errOf s r), hld (r.shown + errOf s r))) := by
  unfold hol
  rw [if_neg (by omega)]
  simp [btw]
theorem good_hol {s : Spc} (hs : SOk s) (m L : Int) (k : Nat) : good s [] m (some (L, L)) k = decide (Tp s m L k ≤ s.lim) := good_free hs (Int.le_refl _) rfl (fun _ => rfl) k
/-- what shows more holds no longer. -/
theorem hol_less {s : Spc} {r r' : Rd} (hs : SOk s) (h0 : 0 ≤ r.shown) (hm : r'.min = r.min) (ht : r'.tool = r.tool) (h : r.shown ≤ r'.shown) (m0 : 0 ≤ r.min) : hol s r' ≤ hol s r := by
  have he := errOf_ok hs r
  have he2 : errOf s r' = errOf s r := by unfold errOf; rw [ht]
  rw [hol_eq (r := r) (by omega), hol_eq (r := r') (by omega), he2, hm]
  refine untl_mono m0 fun k hk => ?_
  rw [good_hol hs] at hk ⊢
  have := Tp_mono (s := s) (m := r.min) (hld_mono (show r.shown + errOf s r ≤ r'.shown + errOf s r by omega)) k
  simp only [decide_eq_true_eq] at hk ⊢
  omega
/-- a torch may burn at least as long as the only reading holds. -/
theorem hol_until {s : Spc} {r : Rd} (hs : SOk s) (hr : ROk s r) (h0 : 0 ≤ r.shown) {x : Int × Int} (hx : now s [r] r.min = some x) : hol s r ≤ untl s (kno [r] r.min) r.min (some x) := by
  have hk : kno [r] r.min = [r] := by simp [kno]
  have he := errOf_ok hs r
  have hm0 := hr.m0
  unfold now at hx
  rw [hk] at hx ⊢
  have hvx := vd_lv (vd_start hs) _ x hx
  have ha : atM [r] r.min = [r] := by simp [atM]
  have hnear : ∀ n, mem (some x) n → near s r n := fun n hn => by
    rw [← hx, lv_eq, mem_agr] at hn
    refine hn.2 r ?_
    rw [show (0 : Int) + (r.min.toNat : Int) = r.min by omega, ha]
    simp
  have h1 := hnear x.1 ((mem_some _ _).2 ⟨by omega, by omega⟩)
  have h2 := hnear x.2 ((mem_some _ _).2 ⟨by omega, by omega⟩)
  have hag : agr s (atM [r] r.min) (some x) = some x := by
    refine up_ext (up_agr (fun y hy => by cases hy; exact hvx.2.1)) (fun y hy => by cases hy; exact hvx.2.1) fun n => ?_
    rw [mem_agr, ha]
    exact ⟨fun h => h.1, fun h => ⟨h, fun q hq => by
      rw [List.mem_singleton] at hq
      subst hq
      exact hnear n h⟩⟩
  have hl : ∀ k : Nat, atM [r] (r.min + ((k + 1 : Nat) : Int)) = [] := fun k => by
    unfold atM
    rw [List.filter_cons_of_neg (by simp; omega)]
    rfl
  rw [hol_eq (by omega)]
  refine untl_mono hm0 fun k hk => ?_
  rw [good_hol hs] at hk
  rw [good_free hs hvx.2.1 hag hl]
  have hL : x.2 ≤ hld (r.shown + errOf s r) := by
    have := h2.2
    have h3 := hvx.2.2
    have h4 := hvx.1
    have h5 := hvx.2.1
    unfold hld
    omega
  have := Tp_mono (s := s) (m := r.min) hL k
  simp only [decide_eq_true_eq] at hk ⊢
  omega
end Td
end Go.Proofs.Ytmofbnadfgejiaa
/- A truth is among the levels; while a torch may burn its level is at most the limit. -/
namespace Go.Proofs.Ytmofbnadfgejiaa
namespace Td
set_option linter.unusedVariables false
theorem true_now {s : Spc} (hs : SOk s) {T : Nat → Int} {R : List Rd} {mi : Nat} (h0 : s.s0 ≤ T 0 ∧ T 0 ≤ s.s1) (hst : ∀ n, Step s 0 T n) (hf : ∀ r ∈ R, near s r (T r.min.toNat)) :
    ∃ x, now s R (mi : Int) = some x ∧ x.1 ≤ T mi ∧ T mi ≤ x.2 := by
  have hm : mem (now s R (mi : Int)) (T mi) := by
    unfold now
    rw [Int.toNat_natCast]
    refine (mem_lv hs (vd_start hs) mi (T mi)).2 ⟨T, (mem_btw _ _ _).2 h0, hst mi, fun j hj r hr he => ?_, rfl⟩
    have := hf r (List.mem_filter.1 hr).1
    rwa [show r.min.toNat = j by omega] at this
  obtain ⟨x, hx, h1, h2⟩ := hm
  exact ⟨x, hx, h1, h2⟩
theorem step_from {s : Spc} {T : Nat → Int} (hst : ∀ n, Step s 0 T n) (mi k : Nat) : Step s (mi : Int) (fun j => T (mi + j)) k := fun j hj => by
  obtain ⟨b, h1, h2, h3⟩ := hst (mi + j + 1) (mi + j) (by omega)
  refine ⟨b, ?_, ?_, ?_⟩
  · rw [show (mi : Int) + (j : Int) = 0 + ((mi + j : Nat) : Int) by omega]; exact h1
  · rw [show (mi : Int) + (j : Int) = 0 + ((mi + j : Nat) : Int) by omega]; exact h2
  · exact h3
theorem true_until {s : Spc} (hs : SOk s) {T : Nat → Int} {R : List Rd} {mi : Nat} (hst : ∀ n, Step s 0 T n) (hf : ∀ r ∈ R, near s r (T r.min.toNat)) {x : Int × Int} (hv : Vd (some x)) (hx : x.1 ≤ T mi ∧ T mi ≤ x.2) (hmi : mi ≤ 60) {t : Nat} (h1 : mi ≤ t) (h2 : (t : Int) ≤ untl s (kno R (mi : Int)) (mi : Int) (some x)) : T t ≤ s.lim := by
  obtain ⟨k, rfl⟩ : ∃ k, t = mi + k := ⟨t - mi, by omega⟩
  have hk : k < lead (good s (kno R (mi : Int)) (mi : Int) (some x)) (61 - (mi : Int)).toNat := by
    unfold untl at h2
    simp only [] at h2
    split at h2 <;> omega
  have hg := lead_true hk
  have hm : mem (lv s (kno R (mi : Int)) (mi : Int) (some x) k) (T (mi + k)) := by
    refine (mem_lv hs hv k _).2 ⟨fun j => T (mi + j), (mem_some _ _).2 hx, step_from hst mi k, fun j hj r hr he => ?_, rfl⟩
    obtain ⟨hr1, hr2⟩ := List.mem_filter.1 hr
    have hr3 : r.min ≤ (mi : Int) := by simpa using hr2
    have := hf r hr1
    rwa [show r.min.toNat = mi + j by omega] at this
  obtain ⟨z, hz, _, h4⟩ := hm
  rw [good, hz] at hg
  have : z.2 ≤ s.lim := by simpa using hg
  omega
end Td
end Go.Proofs.Ytmofbnadfgejiaa
/- What a refusal tells is a truth: the levels backwards from the last minute. -/
namespace Go.Proofs.Ytmofbnadfgejiaa
namespace Td
set_option linter.unusedVariables false
/-- the truth that is built backwards, minute by minute. -/
def bk (s : Spc) (l : List Rd) (last : Int) (n : Nat) : Nat → Int :=
  bkd (lowOf s l 0 (btw s.s0 s.s1)) (fun k => (chg s k).2) last n
theorem bk_next {s : Spc} (hs : SOk s) {l : List Rd} {last : Int} {n j : Nat} (hj : j + 1 ≤ n) (h : mem (lv s l 0 (btw s.s0 s.s1) (n - j)) (bk s l last n j)) :
    mem (lv s l 0 (btw s.s0 s.s1) (n - (j + 1))) (bk s l last n (j + 1))
    ∧ hld (bk s l last n (j + 1) + (chg s ((n - (j + 1) : Nat) : Int)).1) ≤ bk s l last n j
    ∧ bk s l last n j ≤ hld (bk s l last n (j + 1) + (chg s ((n - (j + 1) : Nat) : Int)).2) := by
  obtain ⟨k, hk⟩ : ∃ k, n - (j + 1) = k := ⟨_, rfl⟩
  have hk1 : n - j = k + 1 := by omega
  have hv := vd_lv (s := s) (l := l) (m := 0) (vd_start hs) k
  have hd : bk s l last n (j + 1) = if bk s l last n j = 0 then lowOf s l 0 (btw s.s0 s.s1) (n - (j + 1)) else max (lowOf s l 0 (btw s.s0 s.s1) (n - (j + 1))) (bk s l last n j - (chg s ((n - (j + 1) : Nat) : Int)).2) := rfl
  rw [hk1] at h
  rw [hk] at hd ⊢
  obtain ⟨b, hb⟩ : ∃ b, bk s l last n j = b := ⟨_, rfl⟩
  rw [hb] at hd h ⊢
  have hb2 := (vd_lv (s := s) (l := l) (m := 0) (vd_start hs) (k + 1)).mem h
  rw [lv_eq, mem_agr, pre] at h
  have hc := chg_ok hs (0 + (k : Int))
  rw [Int.zero_add] at hc
  obtain ⟨h, _⟩ := h
  cases hl : lv s l 0 (btw s.s0 s.s1) k with
  | none => rw [hl] at h; exact absurd h (mem_none _)
  | some x =>
    rw [hl, Int.zero_add] at h
    have hx := hv x hl
    have hlo : lowOf s l 0 (btw s.s0 s.s1) k = x.1 := by simp [lowOf, hl]
    rw [hlo] at hd
    have h' : mem (btw (hld (x.1 + (chg s (k : Int)).1)) (hld (x.2 + (chg s (k : Int)).2))) b := h
    rw [mem_btw] at h'
    rw [mem_some, hd]
    unfold hld at *
    split <;> omega
theorem bk_mem {s : Spc} (hs : SOk s) {l : List Rd} {last : Int} {n : Nat} (h : mem (lv s l 0 (btw s.s0 s.s1) n) last) (j : Nat) (hj : j ≤ n) :
    mem (lv s l 0 (btw s.s0 s.s1) (n - j)) (bk s l last n j) := by
  induction j with
  | zero => exact h
  | succ j ih => exact (bk_next hs hj (ih (by omega))).1
theorem lv_near {s : Spc} {l : List Rd} {m : Int} {o : Option (Int × Int)} {k : Nat} {n : Int} (h : mem (lv s l m o k) n) {r : Rd} (hr : r ∈ l) (he : r.min = m + k) : near s r n := by
  rw [lv_eq, mem_agr] at h
  exact h.2 r (mem_atM.2 ⟨hr, he⟩)
/-- a refusal's levels: they start in the start, each comes of the one before, they agree with the readings, and end as told. -/
theorem tru_ok {s : Spc} (hs : SOk s) {l : List Rd} {last : Int} {n : Nat} (h : mem (lv s l 0 (btw s.s0 s.s1) n) last) :
    ∃ T : Nat → Int, tru s l n last = (List.range (n + 1)).map T ∧ (s.s0 ≤ T 0 ∧ T 0 ≤ s.s1) ∧ T n = last ∧ (∀ k, k ≤ n → 0 ≤ T k ∧ T k ≤ 200)
      ∧ (∀ k, k < n → hld (T k + (chg s (k : Int)).1) ≤ T (k + 1) ∧ T (k + 1) ≤ hld (T k + (chg s (k : Int)).2))
      ∧ ∀ r ∈ l, 0 ≤ r.min → r.min ≤ n → near s r (T r.min.toNat) := by
  have hm : ∀ k, k ≤ n → mem (lv s l 0 (btw s.s0 s.s1) k) (bk s l last n (n - k)) := fun k hk => by
    have := bk_mem hs h (n - k) (by omega)
    rwa [show n - (n - k) = k by omega] at this
  refine ⟨fun k => bk s l last n (n - k), rfl, ?_, by simp [bk, bkd], fun k hk => (vd_lv (vd_start hs) k).mem (hm k hk), fun k hk => ?_, fun r hr h0 h1 => ?_⟩
  · have := hm 0 (by omega)
    rw [lv_eq, mem_agr, pre, mem_btw] at this
    exact this.1
  · have h2 := bk_mem hs h (n - (k + 1)) (by omega)
    have := (bk_next hs (j := n - (k + 1)) (by omega) h2).2
    rwa [show n - (n - (k + 1) + 1) = k by omega, show n - (k + 1) + 1 = n - k by omega] at this
  · exact lv_near (hm r.min.toNat (by omega)) hr (by omega)
/-- levels go on from those of a minute. -/
theorem lv_on {s : Spc} (hs : SOk s) {l : List Rd} {o : Option (Int × Int)} (ho : Vd o) {a : Nat} (k : Nat) : lv s l (a : Int) (lv s l 0 o a) k = lv s l 0 o (a + k) := by
  induction k with
  | zero =>
    rw [lv, Nat.add_zero]
    have hu := (vd_lv (s := s) (l := l) (m := 0) ho a).up
    refine up_ext (up_agr hu) hu fun n => ?_
    rw [mem_agr]
    exact ⟨fun h => h.1, fun h => ⟨h, fun r hr => lv_near h (mem_atM.1 hr).1 (by rw [(mem_atM.1 hr).2]; omega)⟩⟩
  | succ k ih =>
    rw [lv, ih, ← Nat.add_assoc, lv]
    have e1 : (a : Int) + ((k + 1 : Nat) : Int) = 0 + ((a + k + 1 : Nat) : Int) := by omega
    have e2 : (a : Int) + (k : Int) = 0 + ((a + k : Nat) : Int) := by omega
    rw [e1, e2]
theorem kno_kno {l : List Rd} {m n : Int} (h : m ≤ n) : kno (kno l m) n = kno l m := by
  unfold kno
  rw [List.filter_eq_self]
  intro r hr
  have := (List.mem_filter.1 hr).2
  simp only [decide_eq_true_eq] at this ⊢
  omega
theorem atM_kno {l : List Rd} {m n : Int} (h : m < n) : atM (kno l m) n = [] := by
  unfold atM kno
  rw [List.filter_eq_nil_iff]
  intro r hr
  have := (List.mem_filter.1 hr).2
  simp only [decide_eq_true_eq] at this ⊢
  omega
theorem lead_false {p : Nat → Bool} {n : Nat} (h : lead p n < n) : p (lead p n) = false := by
  cases hc : p (lead p n) with
  | false => rfl
  | true =>
    have : lead p n + 1 ≤ lead p n := by
      refine lead_ge (by omega) fun j hj => ?_
      by_cases hj2 : j < lead p n
      · exact lead_true hj2
      · obtain rfl : j = lead p n := by omega
        exact hc
    omega
/-- one minute behind that of Until there is a level above the limit. -/
theorem until_next {s : Spc} (hs : SOk s) {l : List Rd} {mi : Nat} (hmi : mi ≤ 60) {x : Int × Int} (hx : now s l mi = some x) {n : Int} (hn : untl s (kno l mi) mi (some x) = n) (h1 : (mi : Int) ≤ n) (h2 : n < 60) :
    ∃ y, now s (kno l mi) (n + 1) = some y ∧ s.lim < y.2 := by
  unfold now at hx
  rw [Int.toNat_natCast] at hx
  have hv := vd_lv (s := s) (l := kno l mi) (m := 0) (vd_start hs) mi
  have hxv := hv x hx
  have hon := fun k => lv_on hs (l := kno l mi) (vd_start hs) (a := mi) k
  rw [hx] at hon
  obtain ⟨c, hc⟩ : ∃ c, lead (good s (kno l mi) mi (some x)) (61 - (mi : Int)).toNat = c := ⟨_, rfl⟩
  have hcn : n + 1 = ((mi + c : Nat) : Int) := by
    unfold untl at hn
    simp only [hc] at hn
    split at hn <;> omega
  have hf := lead_false (p := good s (kno l mi) mi (some x)) (n := (61 - (mi : Int)).toNat) (by omega)
  rw [hc] at hf
  have h0 : agr s (atM (kno l mi) mi) (some x) = some x := by
    have := hon 0
    rwa [lv, Nat.add_zero, hx] at this
  obtain ⟨y, hy, _, _⟩ := lv_free hs hxv.2.1 h0 (fun k => atM_kno (by omega)) c
  refine ⟨y, ?_, ?_⟩
  · unfold now
    rw [kno_kno (by omega), hcn, Int.toNat_natCast, ← hon c]
    exact hy
  · rw [good, hy] at hf
    simpa using hf
end Td
end Go.Proofs.Ytmofbnadfgejiaa
/- Readings that leave more, or wider spaces: levels are no fewer, and torches burn no longer. -/
namespace Go.Proofs.Ytmofbnadfgejiaa
namespace Td
set_option linter.unusedVariables false
/-- a space whose spans are wider. -/
structure Wid (s t : Spc) : Prop where
  s0 : t.s0 ≤ s.s0
  s1 : s.s1 ≤ t.s1
  c0 : ∀ m, (chg t m).1 ≤ (chg s m).1
  c1 : ∀ m, (chg s m).2 ≤ (chg t m).2
theorem Wid.refl (s : Spc) : Wid s s := ⟨Int.le_refl _, Int.le_refl _, fun _ => Int.le_refl _, fun _ => Int.le_refl _⟩
/-- each of some readings is one of others, or says less. -/
def Les (s t : Spc) (l k : List Rd) : Prop := ∀ q ∈ k, ∃ r ∈ l, r.min = q.min ∧ ∀ n, near s r n → near t q n
theorem Les.sub (s : Spc) {l k : List Rd} (h : ∀ q ∈ k, q ∈ l) : Les s s l k := fun q hq => ⟨q, h q hq, rfl, fun _ h => h⟩
theorem Les.kno {s t : Spc} {l k : List Rd} (h : Les s t l k) (m : Int) : Les s t (kno l m) (kno k m) := fun q hq => by
  obtain ⟨hq1, hq2⟩ := List.mem_filter.1 hq
  obtain ⟨r, h1, h2, h3⟩ := h q hq1
  exact ⟨r, List.mem_filter.2 ⟨h1, by rw [h2]; exact hq2⟩, h2, h3⟩
theorem lv_mono {s t : Spc} (hs : SOk s) (ht : SOk t) (hw : Wid s t) {l k : List Rd} (hl : Les s t l k) {m : Int} {o p : Option (Int × Int)} (ho : Vd o) (hp : Vd p) (hop : ∀ n, mem o n → mem p n) (j : Nat) (n : Int) (h : mem (lv s l m o j) n) : mem (lv t k m p j) n := by
  obtain ⟨T, h1, h2, h3, rfl⟩ := (mem_lv hs ho j n).1 h
  refine (mem_lv ht hp j _).2 ⟨T, hop _ h1, fun i hi => ?_, fun i hi q hq he => ?_, rfl⟩
  · obtain ⟨b, b1, b2, b3⟩ := h2 i hi
    have := hw.c0 (m + i)
    have := hw.c1 (m + i)
    exact ⟨b, by omega, by omega, b3⟩
  · obtain ⟨r, hr, hm, hn⟩ := hl q hq
    exact hn _ (h3 i hi r hr (by omega))
theorem lv_same {s : Spc} (hs : SOk s) {l k : List Rd} (h1 : ∀ q ∈ k, q ∈ l) (h2 : ∀ q ∈ l, q ∈ k) {m : Int} {o : Option (Int × Int)} (ho : Vd o) (j : Nat) : lv s l m o j = lv s k m o j :=
  up_ext (vd_lv ho j).up (vd_lv ho j).up fun n => ⟨lv_mono hs hs (Wid.refl s) (Les.sub s h1) ho ho (fun _ h => h) j n, lv_mono hs hs (Wid.refl s) (Les.sub s h2) ho ho (fun _ h => h) j n⟩
theorem now_mono {s t : Spc} (hs : SOk s) (ht : SOk t) (hw : Wid s t) {l k : List Rd} (hl : Les s t l k) {m : Int} {n : Int} (h : mem (now s l m) n) : mem (now t k m) n := by
  unfold now at h ⊢
  refine lv_mono hs ht hw (hl.kno m) (vd_start hs) (vd_start ht) (fun n hn => ?_) _ n h
  rw [mem_btw] at hn ⊢
  have := hw.s0
  have := hw.s1
  omega
theorem now_vd {s : Spc} (hs : SOk s) {l : List Rd} {m : Int} : Vd (now s l m) := vd_lv (vd_start hs) _
theorem now_none {s t : Spc} (hs : SOk s) (ht : SOk t) (hw : Wid s t) {l k : List Rd} (hl : Les s t l k) {m : Int} (h : now t k m = none) : now s l m = none := by
  cases hx : now s l m with
  | none => rfl
  | some x =>
    have := now_vd hs x hx
    have hm := now_mono hs ht hw hl (n := x.1) (m := m) ⟨x, hx, by omega, by omega⟩
    rw [h] at hm
    exact absurd hm (mem_none _)
theorem now_wide {s t : Spc} (hs : SOk s) (ht : SOk t) (hw : Wid s t) {l k : List Rd} (hl : Les s t l k) {m : Int} {x y : Int × Int} (hx : now s l m = some x) (hy : now t k m = some y) : y.1 ≤ x.1 ∧ x.2 ≤ y.2 := by
  have hv := now_vd hs x hx
  have h1 := now_mono hs ht hw hl (n := x.1) (m := m) ⟨x, hx, by omega, by omega⟩
  have h2 := now_mono hs ht hw hl (n := x.2) (m := m) ⟨x, hx, by omega, by omega⟩
  rw [hy, mem_some] at h1 h2
  omega
/-- the torch's good minutes, by the greatest level. -/
theorem good_now {s : Spc} (hs : SOk s) {l : List Rd} {mi : Nat} {x : Int × Int} (hx : now s l mi = some x) (k : Nat) : good s (kno l mi) mi (some x) k = decide (Tp s mi x.2 k ≤ s.lim) := by
  have hv := now_vd hs x hx
  unfold now at hx
  rw [Int.toNat_natCast] at hx
  have h0 := lv_on hs (l := kno l (mi : Int)) (vd_start hs) (a := mi) 0
  rw [hx, Nat.add_zero, hx, lv] at h0
  exact good_free hs hv.2.1 h0 (fun j => atM_kno (by omega)) k
theorem Tp_wide {s t : Spc} (hw : Wid s t) {m a b : Int} (h : a ≤ b) (k : Nat) : Tp s m a k ≤ Tp t m b k := by
  induction k with
  | zero => exact h
  | succ k ih =>
    have := hw.c1 (m + k)
    exact hld_mono (by omega)
theorem until_mono {s t : Spc} (hs : SOk s) (ht : SOk t) (hw : Wid s t) (hlim : t.lim = s.lim) {l k : List Rd} (hl : Les s t l k) {mi : Nat} {x y : Int × Int} (hx : now s l mi = some x) (hy : now t k mi = some y) :
    untl t (kno k mi) mi (some y) ≤ untl s (kno l mi) mi (some x) := by
  have hxy := (now_wide hs ht hw hl hx hy).2
  refine untl_mono (by omega) fun j hj => ?_
  rw [good_now ht hy, decide_eq_true_iff] at hj
  rw [good_now hs hx, decide_eq_true_iff]
  have := Tp_wide hw (m := (mi : Int)) hxy j
  omega
/-- readings of the same members lead to the same. -/
theorem now_same {s : Spc} (hs : SOk s) {l k : List Rd} {m : Int} (h1 : ∀ q ∈ kno k m, q ∈ kno l m) (h2 : ∀ q ∈ kno l m, q ∈ kno k m) : now s l m = now s k m := lv_same hs h1 h2 (vd_start hs) _
theorem untl_same {s : Spc} (hs : SOk s) {l k : List Rd} {m n : Int} (h1 : ∀ q ∈ k, q ∈ l) (h2 : ∀ q ∈ l, q ∈ k) {o : Option (Int × Int)} (ho : Vd o) : untl s l n o = untl s k n o := by
  have : good s l n o = good s k n o := by
    funext j
    unfold good
    rw [lv_same hs h1 h2 ho]
  unfold untl
  rw [this]
theorem tru_same {s : Spc} (hs : SOk s) {l k : List Rd} {n : Nat} {last : Int} (h1 : ∀ q ∈ k, q ∈ l) (h2 : ∀ q ∈ l, q ∈ k) : tru s l n last = tru s k n last := by
  have : lowOf s l 0 (btw s.s0 s.s1) = lowOf s k 0 (btw s.s0 s.s1) := by
    funext j
    unfold lowOf
    rw [lv_same hs h1 h2 (vd_start hs)]
  unfold tru
  rw [this]
/-- what is answered, where the readings have no error. -/
theorem level_of {s : Spc} {l : List Rd} {m : Int} (hc : (chk s).2.2 = 0) (hr : rdsE s.tools.length l = 0) (hm : wi 0 60 m = true) : levelA s l m = match now s l m with | some x => (x, 0) | none => ((0, 0), 9) := by
  unfold levelA watE
  cases hx : now s l m <;> simp [hc, hr, hm]
theorem until_of {s : Spc} {l : List Rd} {m : Int} (hc : (chk s).2.2 = 0) (hr : rdsE s.tools.length l = 0) (hm : wi 0 60 m = true) : untilA s l m = match now s l m with | some x => (untl s (kno l m) m (some x), 0) | none => (0, 9) := by
  unfold untilA watE
  cases hx : now s l m <;> simp [hc, hr, hm]
theorem refusal_of {s : Spc} {l : List Rd} {m : Int} (hc : (chk s).2.2 = 0) (hr : rdsE s.tools.length l = 0) (hm : wi 0 60 m = true) : refusalA s l m = match now s l m with | some x => (if x.2 ≤ s.lim then ([], 4) else (tru s (kno l m) m.toNat (max x.1 (s.lim + 1)), 0)) | none => ([], 9) := by
  unfold refusalA watE
  cases hx : now s l m <;> simp [hc, hr, hm]
theorem kno_later {l : List Rd} {r : Rd} {m : Int} (h : m < r.min) : kno (l ++ [r]) m = kno l m := by
  unfold kno
  rw [List.filter_append, List.filter_cons_of_neg (by simp; omega)]
  simp
end Td
end Go.Proofs.Ytmofbnadfgejiaa
