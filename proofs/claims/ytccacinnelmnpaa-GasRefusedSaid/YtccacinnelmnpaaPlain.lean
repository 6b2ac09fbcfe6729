/- The plain mathematics of layer 3 (gas): what is valid, which levels there can be, until when a torch may burn. It imports nothing of the program. -/
namespace Go.Proofs.Ytccacinnelmnpaa
namespace Td
set_option linter.unusedVariables false

structure Tl where
  name : ByteArray
  err : Int
structure Spc where
  s0 : Int
  s1 : Int
  r0 : Int
  r1 : Int
  b0 : Int
  b1 : Int
  lim : Int
  blows : List (Int × Int)
  tools : List Tl
structure Rd where
  min : Int
  tool : Int
  shown : Int

/-- a number is from lo to hi. -/
def wi (lo hi n : Int) : Bool := decide (lo ≤ n) && decide (n ≤ hi)
theorem wi_iff {lo hi n : Int} : wi lo hi n = true ↔ lo ≤ n ∧ n ≤ hi := by simp [wi]
theorem wi_no {lo hi n : Int} : wi lo hi n = false ↔ n < lo ∨ hi < n := by
  rw [Bool.eq_false_iff, Ne, wi_iff]; omega
/-- both ends of all spans are from lo to hi. -/
def sw (lo hi : Int) (l : List (Int × Int)) : Bool := l.all fun s => wi lo hi s.1 && wi lo hi s.2
/-- some span is turned. -/
def tn (l : List (Int × Int)) : Bool := l.any fun s => decide (s.2 < s.1)

/-! ### names -/
/-- two strings hold the same bytes. -/
def eqS (a b : ByteArray) : Bool := a.toList == b.toList
def letterI (a : Int) : Bool := decide (97 ≤ a) && decide (a ≤ 122)
def digitI (a : Int) : Bool := decide (48 ≤ a) && decide (a ≤ 57)
/-- a letter or a digit. -/
def nameB (b : UInt8) : Bool := letterI b.toNat || digitI b.toNat
/-- a name. -/
def isName (s : ByteArray) : Bool := match s.data.toList with
  | [] => false
  | b :: r => decide ((b :: r).length ≤ 16) && letterI b.toNat && (b :: r).all nameB

/-! ### errors -/
/-- the first index of n at which f is an error, and this error. -/
def ff (f : Nat → Int) (n : Nat) : Int × Int := match (List.range n).find? (fun i => f i != 0) with
  | some i => (i, f i)
  | none => (0, 0)
theorem ff_at {f : Nat → Int} {n k : Nat} (hk : k < n) (h0 : ∀ j, j < k → f j = 0) (h : f k ≠ 0) : ff f n = ((k : Int), f k) := by
  have : (List.range n).find? (fun i => f i != 0) = some k := by
    rw [List.find?_range_eq_some]
    exact ⟨by simpa using h, by simpa using hk, fun j hj => by simp [h0 j hj]⟩
  simp [ff, this]
theorem ff_ok {f : Nat → Int} {n : Nat} (h0 : ∀ j, j < n → f j = 0) : ff f n = (0, 0) := by
  have : (List.range n).find? (fun i => f i != 0) = none := by
    rw [List.find?_range_eq_none]
    intro i hi
    simp [h0 i hi]
  simp [ff, this]
theorem ff_zero {f : Nat → Int} {n : Nat} : (ff f n).2 = 0 ↔ ∀ j, j < n → f j = 0 := by
  constructor
  · intro h j
    induction j using Nat.strongRecOn with
    | _ j ih =>
      intro hj
      by_cases hf : f j = 0
      · exact hf
      · have := ff_at hj (fun i hi => ih i hi (by omega)) hf
        rw [this] at h
        exact absurd h hf
  · intro h
    rw [ff_ok h]

def levE (s : Spc) : Int :=
  if sw 0 200 [(s.s0, s.s1)] && sw (-20) 20 [(s.r0, s.r1), (s.b0, s.b1)] && wi 0 200 s.lim then
    if tn [(s.s0, s.s1), (s.r0, s.r1), (s.b0, s.b1)] then 2 else 0
  else 7
/-- the error of a span of minutes behind those before it. -/
def blowE (b : Int × Int) (before : List (Int × Int)) : Int :=
  if sw 0 60 [b] then
    if tn [b] then 2 else match before.getLast? with | some p => if b.1 ≤ p.2 then 2 else 0 | none => 0
  else 7
def blowAt (l : List (Int × Int)) (i : Nat) : Int := match l[i]? with | some b => blowE b (l.take i) | none => 0
def blowsE (l : List (Int × Int)) : Int × Int := if 4 < l.length then (0, 3) else ff (blowAt l) l.length
def toolE (t : Tl) (before : List Tl) : Int :=
  if isName t.name then
    if before.any (fun u => eqS u.name t.name) then 5 else if wi 0 50 t.err then 0 else 7
  else 6
def toolAt (l : List Tl) (i : Nat) : Int := match l[i]? with | some t => toolE t (l.take i) | none => 0
def toolsE (l : List Tl) : Int × Int := if wi 1 3 l.length then ff (toolAt l) l.length else (0, 3)
def chk (s : Spc) : Int × Int × Int :=
  if levE s != 0 then (1, 0, levE s) else if (blowsE s.blows).2 != 0 then (2, (blowsE s.blows).1, (blowsE s.blows).2) else if (toolsE s.tools).2 != 0 then (3, (toolsE s.tools).1, (toolsE s.tools).2) else (0, 0, 0)
def rdE (n : Nat) (r : Rd) : Int :=
  if wi 0 ((n : Int) - 1) r.tool then if wi 0 60 r.min && wi (-50) 250 r.shown then 0 else 7 else 4
def rdAt (n : Nat) (l : List Rd) (i : Nat) : Int := match l[i]? with | some r => rdE n r | none => 0
def rdsE (n : Nat) (l : List Rd) : Int := if 12 < l.length then 3 else (ff (rdAt n l) l.length).2

/-! ### what is valid -/
structure SOk (s : Spc) : Prop where
  s0 : 0 ≤ s.s0
  s01 : s.s0 ≤ s.s1
  s1 : s.s1 ≤ 200
  r0 : -20 ≤ s.r0
  r01 : s.r0 ≤ s.r1
  r1 : s.r1 ≤ 20
  b0 : -20 ≤ s.b0
  b01 : s.b0 ≤ s.b1
  b1 : s.b1 ≤ 20
  l0 : 0 ≤ s.lim
  l1 : s.lim ≤ 200
  nb : s.blows.length ≤ 4
  bl : ∀ b ∈ s.blows, 0 ≤ b.1 ∧ b.1 ≤ b.2 ∧ b.2 ≤ 60
  t1 : 1 ≤ s.tools.length
  t3 : s.tools.length ≤ 3
  er : ∀ t ∈ s.tools, 0 ≤ t.err ∧ t.err ≤ 50
structure ROk (s : Spc) (r : Rd) : Prop where
  t0 : 0 ≤ r.tool
  t1 : r.tool < s.tools.length
  m0 : 0 ≤ r.min
  m1 : r.min ≤ 60
  h0 : -50 ≤ r.shown
  h1 : r.shown ≤ 250
theorem levE_ok {s : Spc} : levE s = 0 ↔ (0 ≤ s.s0 ∧ s.s0 ≤ s.s1 ∧ s.s1 ≤ 200) ∧ (-20 ≤ s.r0 ∧ s.r0 ≤ s.r1 ∧ s.r1 ≤ 20) ∧ (-20 ≤ s.b0 ∧ s.b0 ≤ s.b1 ∧ s.b1 ≤ 20) ∧ 0 ≤ s.lim ∧ s.lim ≤ 200 := by
  unfold levE
  simp only [sw, tn, wi, List.all_cons, List.all_nil, List.any_cons, List.any_nil, Bool.and_true, Bool.or_false]
  split
  · rename_i h
    simp at h
    split
    · rename_i h2
      simp at h2
      constructor
      · intro h3; cases h3
      · intro h3; omega
    · rename_i h2
      simp at h2
      constructor
      · intro _; omega
      · intro _; rfl
  · rename_i h
    simp at h
    constructor
    · intro h3; cases h3
    · intro h3; omega
theorem chk_ok {s : Spc} (h : (chk s).2.2 = 0) : SOk s := by
  unfold chk at h
  by_cases h1 : levE s = 0
  · by_cases h2 : (blowsE s.blows).2 = 0
    · by_cases h3 : (toolsE s.tools).2 = 0
      · obtain ⟨⟨a1, a2, a3⟩, ⟨a4, a5, a6⟩, ⟨a7, a8, a9⟩, a10, a11⟩ := levE_ok.1 h1
        have hb : s.blows.length ≤ 4 := by
          unfold blowsE at h2
          split at h2
          · cases h2
          · omega
        have ht : wi 1 3 s.tools.length = true := by
          unfold toolsE at h3
          split at h3
          · assumption
          · cases h3
        have ht' := wi_iff.1 ht
        refine ⟨a1, a2, a3, a4, a5, a6, a7, a8, a9, a10, a11, hb, ?_, by omega, by omega, ?_⟩
        · intro b hb'
          obtain ⟨j, hj, rfl⟩ := List.mem_iff_getElem.1 hb'
          unfold blowsE at h2
          rw [if_neg (by omega)] at h2
          have := ff_zero.1 h2 j hj
          simp only [blowAt, List.getElem?_eq_getElem hj] at this
          unfold blowE at this
          split at this
          · rename_i h4
            simp [sw, wi] at h4
            split at this
            · cases this
            · rename_i h5
              simp [tn] at h5
              omega
          · cases this
        · intro t ht2
          obtain ⟨j, hj, rfl⟩ := List.mem_iff_getElem.1 ht2
          unfold toolsE at h3
          rw [if_pos ht] at h3
          have := ff_zero.1 h3 j hj
          simp only [toolAt, List.getElem?_eq_getElem hj] at this
          unfold toolE at this
          split at this
          · split at this
            · cases this
            · split at this
              · rename_i h6
                exact wi_iff.1 h6
              · cases this
          · cases this
      · simp [h1, h2, h3] at h
    · simp [h1, h2] at h
  · simp [h1] at h
theorem rdE_ok {s : Spc} {r : Rd} : rdE s.tools.length r = 0 ↔ ROk s r := by
  unfold rdE
  constructor
  · intro h
    split at h
    · rename_i h1
      split at h
      · rename_i h2
        simp [wi] at h1 h2
        exact ⟨by omega, by omega, by omega, by omega, by omega, by omega⟩
      · cases h
    · cases h
  · intro h
    obtain ⟨_, _, _, _, _, _⟩ := h
    rw [if_pos (wi_iff.2 (by omega)), if_pos (by simp [wi]; omega)]
theorem rdsE_ok {s : Spc} {l : List Rd} : rdsE s.tools.length l = 0 ↔ l.length ≤ 12 ∧ ∀ r ∈ l, ROk s r := by
  unfold rdsE
  split
  · rename_i h
    constructor
    · intro h'; cases h'
    · intro h'; omega
  · rename_i h
    rw [ff_zero]
    constructor
    · intro h'
      refine ⟨by omega, fun r hr => ?_⟩
      obtain ⟨j, hj, rfl⟩ := List.mem_iff_getElem.1 hr
      have := h' j hj
      simp only [rdAt, List.getElem?_eq_getElem hj] at this
      exact rdE_ok.1 this
    · rintro ⟨_, h'⟩ j hj
      simp only [rdAt, List.getElem?_eq_getElem hj]
      exact rdE_ok.2 (h' _ (List.getElem_mem hj))

/-! ### levels -/
/-- the levels from lo to hi; none if they are turned. -/
def btw (lo hi : Int) : Option (Int × Int) := if hi < lo then none else some (lo, hi)
/-- a level that stays from 0 to 200. -/
def hld (n : Int) : Int := max 0 (min n 200)
def errOf (s : Spc) (r : Rd) : Int := (s.tools[r.tool.toNat]?.map Tl.err).getD 0
def com (a b : Option (Int × Int)) : Option (Int × Int) := match a, b with
  | some x, some y => btw (max x.1 y.1) (min x.2 y.2)
  | _, _ => none
def cut (s : Spc) (r : Rd) (o : Option (Int × Int)) : Option (Int × Int) := com o (btw (r.shown - errOf s r) (r.shown + errOf s r))
/-- those that agree with some readings, one after the other. -/
def agr (s : Spc) (l : List Rd) (o : Option (Int × Int)) : Option (Int × Int) := l.foldl (fun o r => cut s r o) o
/-- the readings of a minute. -/
def atM (l : List Rd) (m : Int) : List Rd := l.filter fun r => decide (r.min = m)
/-- the readings that are known at a minute. -/
def kno (l : List Rd) (m : Int) : List Rd := l.filter fun r => decide (r.min ≤ m)
/-- by which numbers the level changes behind a minute. -/
def chg (s : Spc) (m : Int) : Int × Int := if s.blows.any (fun b => wi b.1 b.2 m) then (s.b0, s.b1) else (s.r0, s.r1)
def aft (x c : Int × Int) : Option (Int × Int) := btw (hld (x.1 + c.1)) (hld (x.2 + c.2))
/-- which levels there can be k minutes behind one. -/
def lv (s : Spc) (l : List Rd) (m : Int) (o : Option (Int × Int)) : Nat → Option (Int × Int)
  | 0 => agr s (atM l m) o
  | k + 1 => agr s (atM l (m + ((k + 1 : Nat) : Int))) ((lv s l m o k).bind fun x => aft x (chg s (m + k)))
/-- the same before what was read then is known. -/
def pre (s : Spc) (l : List Rd) (m : Int) (o : Option (Int × Int)) : Nat → Option (Int × Int)
  | 0 => o
  | k + 1 => (lv s l m o k).bind fun x => aft x (chg s (m + k))
theorem lv_eq (s : Spc) (l : List Rd) (m : Int) (o : Option (Int × Int)) (k : Nat) : lv s l m o k = agr s (atM l (m + k)) (pre s l m o k) := by
  cases k with
  | zero => simp [lv, pre]
  | succ k => rfl
/-- how many of the first n are good, until one is not. -/
def lead (p : Nat → Bool) (n : Nat) : Nat := ((List.range n).takeWhile p).length
def good (s : Spc) (l : List Rd) (m : Int) (o : Option (Int × Int)) (k : Nat) : Bool := match lv s l m o k with
  | some x => decide (x.2 ≤ s.lim)
  | none => false
/-- the last minute until which no level is above the limit. -/
def untl (s : Spc) (l : List Rd) (m : Int) (o : Option (Int × Int)) : Int :=
  let c := lead (good s l m o) (61 - m).toNat
  if c = 0 then -1 else m + c - 1
/-- the first truth whose last level is a given one: from the last minute backwards. -/
def bkd (lo c : Nat → Int) (last : Int) (n : Nat) : Nat → Int
  | 0 => last
  | j + 1 => if bkd lo c last n j = 0 then lo (n - (j + 1)) else max (lo (n - (j + 1))) (bkd lo c last n j - c (n - (j + 1)))
def lowOf (s : Spc) (l : List Rd) (m : Int) (o : Option (Int × Int)) (k : Nat) : Int := ((lv s l m o k).map Prod.fst).getD 0
def tru (s : Spc) (l : List Rd) (n : Nat) (last : Int) : List Int :=
  (List.range (n + 1)).map fun k => bkd (lowOf s l 0 (btw s.s0 s.s1)) (fun k => (chg s k).2) last n (n - k)
/-- until when a reading holds. -/
def hol (s : Spc) (r : Rd) : Int :=
  if r.shown + errOf s r < 0 then -1 else untl s [] r.min (btw (hld (r.shown + errOf s r)) (hld (r.shown + errOf s r)))
/-- the first of the shortest lists that are not empty. -/
def shorter (best l : List Int) : List Int := if best.length = 0 ∨ (0 < l.length ∧ l.length < best.length) then l else best
def shortest (l : List (List Int)) : List Int := l.foldl shorter []
/-- the lists of the minutes from 'to' back to the d-th before it. -/
def tab (U : Int → Int) (from_ to : Nat) : Nat → Nat → List Int
  | 0, _ => []
  | d + 1, m => if m = to - d then
      (if (List.range m).any (fun e => decide (from_ ≤ e) && decide (U m ≤ U e)) then []
       else (m : Int) :: (if U m < to then shortest ((List.range ((U m).toNat + 1 - m)).map fun i => tab U from_ to d (m + 1 + i)) else []))
    else tab U from_ to d m
def few (s : Spc) (r : Rd) (to : Int) : List Int :=
  tab (fun m => hol s { r with min := m }) r.min.toNat to.toNat (to.toNat + 1 - r.min.toNat) r.min.toNat

/-! ### answers -/
/-- the levels at a minute, of what is known then. -/
def now (s : Spc) (l : List Rd) (m : Int) : Option (Int × Int) := lv s (kno l m) 0 (btw s.s0 s.s1) m.toNat
/-- the error of a space, readings and a minute. -/
def watE (s : Spc) (l : List Rd) (m : Int) : Int :=
  if (chk s).2.2 != 0 then (chk s).2.2 else if rdsE s.tools.length l != 0 then rdsE s.tools.length l else if wi 0 60 m then (if (now s l m).isSome then 0 else 9) else 7
def levelA (s : Spc) (l : List Rd) (m : Int) : (Int × Int) × Int := if watE s l m = 0 then ((now s l m).getD (0, 0), 0) else ((0, 0), watE s l m)
def untilA (s : Spc) (l : List Rd) (m : Int) : Int × Int := if watE s l m = 0 then (untl s (kno l m) m (now s l m), 0) else (0, watE s l m)
def refusalA (s : Spc) (l : List Rd) (m : Int) : List Int × Int :=
  if watE s l m = 0 then
    (if ((now s l m).getD (0, 0)).2 ≤ s.lim then ([], 4) else (tru s (kno l m) m.toNat (max ((now s l m).getD (0, 0)).1 (s.lim + 1)), 0))
  else ([], watE s l m)
def toolE2 (s : Spc) (r : Rd) : Int := if (chk s).2.2 != 0 then (chk s).2.2 else rdE s.tools.length r
def holdsA (s : Spc) (r : Rd) : Int × Int := if toolE2 s r = 0 then (hol s r, 0) else (0, toolE2 s r)
def fewestE (s : Spc) (r : Rd) (to : Int) : Int :=
  if toolE2 s r != 0 then toolE2 s r else if wi 0 60 to then (if to < r.min then 2 else if hol s r < r.min then 9 else 0) else 7
def fewestA (s : Spc) (r : Rd) (to : Int) : List Int × Int := if fewestE s r to = 0 then (few s r to, 0) else ([], fewestE s r to)
end Td
end Go.Proofs.Ytccacinnelmnpaa
