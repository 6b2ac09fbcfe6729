/-
  No cell of these rows narrows 'for every input' (looked for: loops, veiled, ifaces, maps, wideKeys, modest, calm, conditions, laid).
  DERIVED. THE GIVEN ROWS OF THIS SEAT. 14 by the template 'for every input the law returns true; each argument reads behind the call as it read before'; 0 by the template 'total and deterministic' (their statements: YtgkdidnmndmlhaaTotals.lean).
  GIVEN WITH THE SEED: the statements are not yours to turn. If you find one false, say at which input.
  Laid BY PROGRAM, IN A SANDBOX (cutbox-rows.mjs): the forced cells as the released guide's own fill.sh prints them over the translation 58efd0eba9478305… (all of the seat's roots in one cut). By AI agents, Wed Nov 11 2026. No macro, syntax, notation, axiom, sorry.
-/
import Derived.Test.YtgkdidnmndmlhaaChecked
import GoSem.Claim
import GoSem.ClaimJoined
import GoSem.ClaimMapViews
import Derived.JoinedTies
import Derived.KernelRfl
namespace Go.Proofs.Ytgkdidnmndmlhaa
/- THE CELL 'sum', in the pinned program and in every row, IS THE sha256 OF THE DUMP (.gsa) THAT YtgkdidnmndmlhaaProg.lean LOADS. Nothing in Lean hashes anything: it is a label: what it is worth is what the hold of that sum in a sandbox is worth. -/
noncomputable def Try.pinned : Pinned := { name := "ytgkdidnmndmlhaa", sum := "58efd0eba947830596db57466853c36caab1a3a3b4e0dc149570541af6f037e5", checked := Try.checked }
namespace Rows
def none {H : Type} : Left H := { results := [], args := [] }

/-- 'orloplaw08.GradeShows': WHATEVER THE INPUT: true; the input reads as it did. -/
def gradeShowsSpec : ChangeSpec := { name := "gradeShows", fn := fun _ => fun
  | [d1, d2] => { results := [.lit (.bool true)], args := [d1, d2] }
  | _ => none }
def gradeShowsRow : OpenClaim := { program := "ytgkdidnmndmlhaa", sum := "58efd0eba947830596db57466853c36caab1a3a3b4e0dc149570541af6f037e5", func := "orlop/orloplaw08.GradeShows", spec := "gradeShows", unfollowed := true, recurses := true, apart := false }
def GradeShowsSaid : Prop := gradeShowsRow.holds Try.pinned (OpenSpec.ofChange gradeShowsSpec)

/-- ITS FALSE NEIGHBOUR: 'it returns false'. Refute it at one input. -/
def gradeShowsWrong : ChangeSpec := { name := "gradeShows", fn := fun _ => fun
  | [d1, d2] => { results := [.lit (.bool false)], args := [d1, d2] }
  | _ => none }
def GradeShowsWrongFalsely : Prop := gradeShowsRow.holds Try.pinned (OpenSpec.ofChange gradeShowsWrong)

/-- 'orloplaw08.GradePlans': WHATEVER THE INPUT: true; the input reads as it did. -/
def gradePlansSpec : ChangeSpec := { name := "gradePlans", fn := fun _ => fun
  | [d1, d2] => { results := [.lit (.bool true)], args := [d1, d2] }
  | _ => none }
def gradePlansRow : OpenClaim := { program := "ytgkdidnmndmlhaa", sum := "58efd0eba947830596db57466853c36caab1a3a3b4e0dc149570541af6f037e5", func := "orlop/orloplaw08.GradePlans", spec := "gradePlans", unfollowed := true, recurses := true, apart := false }
def GradePlansSaid : Prop := gradePlansRow.holds Try.pinned (OpenSpec.ofChange gradePlansSpec)

/-- ITS FALSE NEIGHBOUR: 'it returns false'. Refute it at one input. -/
def gradePlansWrong : ChangeSpec := { name := "gradePlans", fn := fun _ => fun
  | [d1, d2] => { results := [.lit (.bool false)], args := [d1, d2] }
  | _ => none }
def GradePlansWrongFalsely : Prop := gradePlansRow.holds Try.pinned (OpenSpec.ofChange gradePlansWrong)

/-- 'orloplaw08.GradeSizes': WHATEVER THE INPUT: true; the input reads as it did. -/
def gradeSizesSpec : ChangeSpec := { name := "gradeSizes", fn := fun _ => fun
  | [d1, d2, d3] => { results := [.lit (.bool true)], args := [d1, d2, d3] }
  | _ => none }
def gradeSizesRow : OpenClaim := { program := "ytgkdidnmndmlhaa", sum := "58efd0eba947830596db57466853c36caab1a3a3b4e0dc149570541af6f037e5", func := "orlop/orloplaw08.GradeSizes", spec := "gradeSizes", unfollowed := true, recurses := true, apart := false }
def GradeSizesSaid : Prop := gradeSizesRow.holds Try.pinned (OpenSpec.ofChange gradeSizesSpec)

/-- ITS FALSE NEIGHBOUR: 'it returns false'. Refute it at one input. -/
def gradeSizesWrong : ChangeSpec := { name := "gradeSizes", fn := fun _ => fun
  | [d1, d2, d3] => { results := [.lit (.bool false)], args := [d1, d2, d3] }
  | _ => none }
def GradeSizesWrongFalsely : Prop := gradeSizesRow.holds Try.pinned (OpenSpec.ofChange gradeSizesWrong)

/-- 'orloplaw08.GradePrices': WHATEVER THE INPUT: true; the input reads as it did. -/
def gradePricesSpec : ChangeSpec := { name := "gradePrices", fn := fun _ => fun
  | [d1, d2] => { results := [.lit (.bool true)], args := [d1, d2] }
  | _ => none }
def gradePricesRow : OpenClaim := { program := "ytgkdidnmndmlhaa", sum := "58efd0eba947830596db57466853c36caab1a3a3b4e0dc149570541af6f037e5", func := "orlop/orloplaw08.GradePrices", spec := "gradePrices", unfollowed := true, recurses := true, apart := false }
def GradePricesSaid : Prop := gradePricesRow.holds Try.pinned (OpenSpec.ofChange gradePricesSpec)

/-- ITS FALSE NEIGHBOUR: 'it returns false'. Refute it at one input. -/
def gradePricesWrong : ChangeSpec := { name := "gradePrices", fn := fun _ => fun
  | [d1, d2] => { results := [.lit (.bool false)], args := [d1, d2] }
  | _ => none }
def GradePricesWrongFalsely : Prop := gradePricesRow.holds Try.pinned (OpenSpec.ofChange gradePricesWrong)

/-- 'orloplaw08.GradeKnown': WHATEVER THE INPUT: true; the input reads as it did. -/
def gradeKnownSpec : ChangeSpec := { name := "gradeKnown", fn := fun _ => fun
  | [] => { results := [.lit (.bool true)], args := [] }
  | _ => none }
def gradeKnownRow : OpenClaim := { program := "ytgkdidnmndmlhaa", sum := "58efd0eba947830596db57466853c36caab1a3a3b4e0dc149570541af6f037e5", func := "orlop/orloplaw08.GradeKnown", spec := "gradeKnown", unfollowed := true, recurses := true, apart := false }
def GradeKnownSaid : Prop := gradeKnownRow.holds Try.pinned (OpenSpec.ofChange gradeKnownSpec)

/-- ITS FALSE NEIGHBOUR: 'it returns false'. Refute it at one input. -/
def gradeKnownWrong : ChangeSpec := { name := "gradeKnown", fn := fun _ => fun
  | [] => { results := [.lit (.bool false)], args := [] }
  | _ => none }
def GradeKnownWrongFalsely : Prop := gradeKnownRow.holds Try.pinned (OpenSpec.ofChange gradeKnownWrong)

/-- 'orloplaw08.GradeAll': WHATEVER THE INPUT: true; the input reads as it did. -/
def gradeAllSpec : ChangeSpec := { name := "gradeAll", fn := fun _ => fun
  | [d] => { results := [.lit (.bool true)], args := [d] }
  | _ => none }
def gradeAllRow : OpenClaim := { program := "ytgkdidnmndmlhaa", sum := "58efd0eba947830596db57466853c36caab1a3a3b4e0dc149570541af6f037e5", func := "orlop/orloplaw08.GradeAll", spec := "gradeAll", unfollowed := true, recurses := true, apart := false }
def GradeAllSaid : Prop := gradeAllRow.holds Try.pinned (OpenSpec.ofChange gradeAllSpec)

/-- ITS FALSE NEIGHBOUR: 'it returns false'. Refute it at one input. -/
def gradeAllWrong : ChangeSpec := { name := "gradeAll", fn := fun _ => fun
  | [d] => { results := [.lit (.bool false)], args := [d] }
  | _ => none }
def GradeAllWrongFalsely : Prop := gradeAllRow.holds Try.pinned (OpenSpec.ofChange gradeAllWrong)

/-- 'orloplaw08.GradeCounted': WHATEVER THE INPUT: true; the input reads as it did. -/
def gradeCountedSpec : ChangeSpec := { name := "gradeCounted", fn := fun _ => fun
  | [d] => { results := [.lit (.bool true)], args := [d] }
  | _ => none }
def gradeCountedRow : OpenClaim := { program := "ytgkdidnmndmlhaa", sum := "58efd0eba947830596db57466853c36caab1a3a3b4e0dc149570541af6f037e5", func := "orlop/orloplaw08.GradeCounted", spec := "gradeCounted", unfollowed := true, recurses := true, apart := false }
def GradeCountedSaid : Prop := gradeCountedRow.holds Try.pinned (OpenSpec.ofChange gradeCountedSpec)

/-- ITS FALSE NEIGHBOUR: 'it returns false'. Refute it at one input. -/
def gradeCountedWrong : ChangeSpec := { name := "gradeCounted", fn := fun _ => fun
  | [d] => { results := [.lit (.bool false)], args := [d] }
  | _ => none }
def GradeCountedWrongFalsely : Prop := gradeCountedRow.holds Try.pinned (OpenSpec.ofChange gradeCountedWrong)

/-- 'orloplaw08.GradeTurned': WHATEVER THE INPUT: true; the input reads as it did. -/
def gradeTurnedSpec : ChangeSpec := { name := "gradeTurned", fn := fun _ => fun
  | [d] => { results := [.lit (.bool true)], args := [d] }
  | _ => none }
def gradeTurnedRow : OpenClaim := { program := "ytgkdidnmndmlhaa", sum := "58efd0eba947830596db57466853c36caab1a3a3b4e0dc149570541af6f037e5", func := "orlop/orloplaw08.GradeTurned", spec := "gradeTurned", unfollowed := true, recurses := true, apart := false }
def GradeTurnedSaid : Prop := gradeTurnedRow.holds Try.pinned (OpenSpec.ofChange gradeTurnedSpec)

/-- ITS FALSE NEIGHBOUR: 'it returns false'. Refute it at one input. -/
def gradeTurnedWrong : ChangeSpec := { name := "gradeTurned", fn := fun _ => fun
  | [d] => { results := [.lit (.bool false)], args := [d] }
  | _ => none }
def GradeTurnedWrongFalsely : Prop := gradeTurnedRow.holds Try.pinned (OpenSpec.ofChange gradeTurnedWrong)

/-- 'orloplaw08.GradePasses': WHATEVER THE INPUT: true; the input reads as it did. -/
def gradePassesSpec : ChangeSpec := { name := "gradePasses", fn := fun _ => fun
  | [d1, d2, d3] => { results := [.lit (.bool true)], args := [d1, d2, d3] }
  | _ => none }
def gradePassesRow : OpenClaim := { program := "ytgkdidnmndmlhaa", sum := "58efd0eba947830596db57466853c36caab1a3a3b4e0dc149570541af6f037e5", func := "orlop/orloplaw08.GradePasses", spec := "gradePasses", unfollowed := true, recurses := true, apart := false }
def GradePassesSaid : Prop := gradePassesRow.holds Try.pinned (OpenSpec.ofChange gradePassesSpec)

/-- ITS FALSE NEIGHBOUR: 'it returns false'. Refute it at one input. -/
def gradePassesWrong : ChangeSpec := { name := "gradePasses", fn := fun _ => fun
  | [d1, d2, d3] => { results := [.lit (.bool false)], args := [d1, d2, d3] }
  | _ => none }
def GradePassesWrongFalsely : Prop := gradePassesRow.holds Try.pinned (OpenSpec.ofChange gradePassesWrong)

/-- 'orloplaw08.GradeTwice': WHATEVER THE INPUT: true; the input reads as it did. -/
def gradeTwiceSpec : ChangeSpec := { name := "gradeTwice", fn := fun _ => fun
  | [d1, d2, d3] => { results := [.lit (.bool true)], args := [d1, d2, d3] }
  | _ => none }
def gradeTwiceRow : OpenClaim := { program := "ytgkdidnmndmlhaa", sum := "58efd0eba947830596db57466853c36caab1a3a3b4e0dc149570541af6f037e5", func := "orlop/orloplaw08.GradeTwice", spec := "gradeTwice", unfollowed := true, recurses := true, apart := false }
def GradeTwiceSaid : Prop := gradeTwiceRow.holds Try.pinned (OpenSpec.ofChange gradeTwiceSpec)

/-- ITS FALSE NEIGHBOUR: 'it returns false'. Refute it at one input. -/
def gradeTwiceWrong : ChangeSpec := { name := "gradeTwice", fn := fun _ => fun
  | [d1, d2, d3] => { results := [.lit (.bool false)], args := [d1, d2, d3] }
  | _ => none }
def GradeTwiceWrongFalsely : Prop := gradeTwiceRow.holds Try.pinned (OpenSpec.ofChange gradeTwiceWrong)

/-- 'orloplaw08.GradeSmallest': WHATEVER THE INPUT: true; the input reads as it did. -/
def gradeSmallestSpec : ChangeSpec := { name := "gradeSmallest", fn := fun _ => fun
  | [d1, d2] => { results := [.lit (.bool true)], args := [d1, d2] }
  | _ => none }
def gradeSmallestRow : OpenClaim := { program := "ytgkdidnmndmlhaa", sum := "58efd0eba947830596db57466853c36caab1a3a3b4e0dc149570541af6f037e5", func := "orlop/orloplaw08.GradeSmallest", spec := "gradeSmallest", unfollowed := true, recurses := true, apart := false }
def GradeSmallestSaid : Prop := gradeSmallestRow.holds Try.pinned (OpenSpec.ofChange gradeSmallestSpec)

/-- ITS FALSE NEIGHBOUR: 'it returns false'. Refute it at one input. -/
def gradeSmallestWrong : ChangeSpec := { name := "gradeSmallest", fn := fun _ => fun
  | [d1, d2] => { results := [.lit (.bool false)], args := [d1, d2] }
  | _ => none }
def GradeSmallestWrongFalsely : Prop := gradeSmallestRow.holds Try.pinned (OpenSpec.ofChange gradeSmallestWrong)

/-- 'orloplaw08.GradeWorth': WHATEVER THE INPUT: true; the input reads as it did. -/
def gradeWorthSpec : ChangeSpec := { name := "gradeWorth", fn := fun _ => fun
  | [d1, d2, d3] => { results := [.lit (.bool true)], args := [d1, d2, d3] }
  | _ => none }
def gradeWorthRow : OpenClaim := { program := "ytgkdidnmndmlhaa", sum := "58efd0eba947830596db57466853c36caab1a3a3b4e0dc149570541af6f037e5", func := "orlop/orloplaw08.GradeWorth", spec := "gradeWorth", unfollowed := true, recurses := true, apart := false }
def GradeWorthSaid : Prop := gradeWorthRow.holds Try.pinned (OpenSpec.ofChange gradeWorthSpec)

/-- ITS FALSE NEIGHBOUR: 'it returns false'. Refute it at one input. -/
def gradeWorthWrong : ChangeSpec := { name := "gradeWorth", fn := fun _ => fun
  | [d1, d2, d3] => { results := [.lit (.bool false)], args := [d1, d2, d3] }
  | _ => none }
def GradeWorthWrongFalsely : Prop := gradeWorthRow.holds Try.pinned (OpenSpec.ofChange gradeWorthWrong)

/-- 'orloplaw08.GradeLeft': WHATEVER THE INPUT: true; the input reads as it did. -/
def gradeLeftSpec : ChangeSpec := { name := "gradeLeft", fn := fun _ => fun
  | [d1, d2] => { results := [.lit (.bool true)], args := [d1, d2] }
  | _ => none }
def gradeLeftRow : OpenClaim := { program := "ytgkdidnmndmlhaa", sum := "58efd0eba947830596db57466853c36caab1a3a3b4e0dc149570541af6f037e5", func := "orlop/orloplaw08.GradeLeft", spec := "gradeLeft", unfollowed := true, recurses := true, apart := false }
def GradeLeftSaid : Prop := gradeLeftRow.holds Try.pinned (OpenSpec.ofChange gradeLeftSpec)

/-- ITS FALSE NEIGHBOUR: 'it returns false'. Refute it at one input. -/
def gradeLeftWrong : ChangeSpec := { name := "gradeLeft", fn := fun _ => fun
  | [d1, d2] => { results := [.lit (.bool false)], args := [d1, d2] }
  | _ => none }
def GradeLeftWrongFalsely : Prop := gradeLeftRow.holds Try.pinned (OpenSpec.ofChange gradeLeftWrong)

/-- 'orloplaw08.GradeStays': WHATEVER THE INPUT: true; the input reads as it did. -/
def gradeStaysSpec : ChangeSpec := { name := "gradeStays", fn := fun _ => fun
  | [d1, d2, d3] => { results := [.lit (.bool true)], args := [d1, d2, d3] }
  | _ => none }
def gradeStaysRow : OpenClaim := { program := "ytgkdidnmndmlhaa", sum := "58efd0eba947830596db57466853c36caab1a3a3b4e0dc149570541af6f037e5", func := "orlop/orloplaw08.GradeStays", spec := "gradeStays", unfollowed := true, recurses := true, apart := false }
def GradeStaysSaid : Prop := gradeStaysRow.holds Try.pinned (OpenSpec.ofChange gradeStaysSpec)

/-- ITS FALSE NEIGHBOUR: 'it returns false'. Refute it at one input. -/
def gradeStaysWrong : ChangeSpec := { name := "gradeStays", fn := fun _ => fun
  | [d1, d2, d3] => { results := [.lit (.bool false)], args := [d1, d2, d3] }
  | _ => none }
def GradeStaysWrongFalsely : Prop := gradeStaysRow.holds Try.pinned (OpenSpec.ofChange gradeStaysWrong)

/- THE SECOND FORM. 'bulk': how many values and letters a reading holds, each counted each time it is reached (what is shared counts as often as it is met; a slice's spare places count too). A statement '..UptoSaid' is the law's where the arguments, and the package variables that the reading takes, are together of bulk at most 1048576: NARROWER than '..Said'. Prove '..Said' where nothing that the law and all that it calls make is longer than what came in: it says more and counts as full. Else prove '..UptoSaid'. A law counts once. -/
mutual
def uptoBulk {H : Type} : DataW H → Nat
  | .lit (.string bytes) => bytes.length + 1
  | .lit _ => 1
  | .nil => 1
  | .ptr d => uptoBulk d + 1
  | .slice elems spare => uptoBulkAll elems + uptoBulkAll spare + 1
  | .agg parts => uptoBulkAll parts + 1
  | .iface _ d => uptoBulk d + 1
  | .map entries => uptoBulkEntries entries + 1
  | .held _ => 1
def uptoBulkAll {H : Type} : List (DataW H) → Nat
  | [] => 0
  | d :: r => uptoBulk d + uptoBulkAll r
def uptoBulkEntries {H : Type} : List (Lit × DataW H) → Nat
  | [] => 0
  | x :: r => uptoBulkEntry x + uptoBulkEntries r
def uptoBulkEntry {H : Type} : Lit × DataW H → Nat
  | (.string bytes, d) => bytes.length + uptoBulk d + 1
  | (_, d) => uptoBulk d + 1
 end
def uptoSmall : (H : Type) → List (DataW H) → Bool := fun _ ds => decide (uptoBulkAll ds ≤ 1048576)
def OpenSpec.upto (s : _root_.Go.ChangeSpec) : _root_.Go.OpenSpec := { _root_.Go.OpenSpec.ofChange s with cond := some uptoSmall }

/-- 'orloplaw08.GradeShows', WHERE WHAT IT READS IS OF BULK AT MOST 1048576: true; the input reads as it did. -/
def gradeShowsUptoRow : OpenClaim := { program := "ytgkdidnmndmlhaa", sum := "58efd0eba947830596db57466853c36caab1a3a3b4e0dc149570541af6f037e5", func := "orlop/orloplaw08.GradeShows", spec := "gradeShows", unfollowed := true, recurses := true, apart := false, narrowed := true }
def GradeShowsUptoSaid : Prop := gradeShowsUptoRow.holds Try.pinned (OpenSpec.upto gradeShowsSpec)

/-- 'orloplaw08.GradePlans', WHERE WHAT IT READS IS OF BULK AT MOST 1048576: true; the input reads as it did. -/
def gradePlansUptoRow : OpenClaim := { program := "ytgkdidnmndmlhaa", sum := "58efd0eba947830596db57466853c36caab1a3a3b4e0dc149570541af6f037e5", func := "orlop/orloplaw08.GradePlans", spec := "gradePlans", unfollowed := true, recurses := true, apart := false, narrowed := true }
def GradePlansUptoSaid : Prop := gradePlansUptoRow.holds Try.pinned (OpenSpec.upto gradePlansSpec)

/-- 'orloplaw08.GradeSizes', WHERE WHAT IT READS IS OF BULK AT MOST 1048576: true; the input reads as it did. -/
def gradeSizesUptoRow : OpenClaim := { program := "ytgkdidnmndmlhaa", sum := "58efd0eba947830596db57466853c36caab1a3a3b4e0dc149570541af6f037e5", func := "orlop/orloplaw08.GradeSizes", spec := "gradeSizes", unfollowed := true, recurses := true, apart := false, narrowed := true }
def GradeSizesUptoSaid : Prop := gradeSizesUptoRow.holds Try.pinned (OpenSpec.upto gradeSizesSpec)

/-- 'orloplaw08.GradePrices', WHERE WHAT IT READS IS OF BULK AT MOST 1048576: true; the input reads as it did. -/
def gradePricesUptoRow : OpenClaim := { program := "ytgkdidnmndmlhaa", sum := "58efd0eba947830596db57466853c36caab1a3a3b4e0dc149570541af6f037e5", func := "orlop/orloplaw08.GradePrices", spec := "gradePrices", unfollowed := true, recurses := true, apart := false, narrowed := true }
def GradePricesUptoSaid : Prop := gradePricesUptoRow.holds Try.pinned (OpenSpec.upto gradePricesSpec)

/-- 'orloplaw08.GradeKnown', WHERE WHAT IT READS IS OF BULK AT MOST 1048576: true; the input reads as it did. -/
def gradeKnownUptoRow : OpenClaim := { program := "ytgkdidnmndmlhaa", sum := "58efd0eba947830596db57466853c36caab1a3a3b4e0dc149570541af6f037e5", func := "orlop/orloplaw08.GradeKnown", spec := "gradeKnown", unfollowed := true, recurses := true, apart := false, narrowed := true }
def GradeKnownUptoSaid : Prop := gradeKnownUptoRow.holds Try.pinned (OpenSpec.upto gradeKnownSpec)

/-- 'orloplaw08.GradeAll', WHERE WHAT IT READS IS OF BULK AT MOST 1048576: true; the input reads as it did. -/
def gradeAllUptoRow : OpenClaim := { program := "ytgkdidnmndmlhaa", sum := "58efd0eba947830596db57466853c36caab1a3a3b4e0dc149570541af6f037e5", func := "orlop/orloplaw08.GradeAll", spec := "gradeAll", unfollowed := true, recurses := true, apart := false, narrowed := true }
def GradeAllUptoSaid : Prop := gradeAllUptoRow.holds Try.pinned (OpenSpec.upto gradeAllSpec)

/-- 'orloplaw08.GradeCounted', WHERE WHAT IT READS IS OF BULK AT MOST 1048576: true; the input reads as it did. -/
def gradeCountedUptoRow : OpenClaim := { program := "ytgkdidnmndmlhaa", sum := "58efd0eba947830596db57466853c36caab1a3a3b4e0dc149570541af6f037e5", func := "orlop/orloplaw08.GradeCounted", spec := "gradeCounted", unfollowed := true, recurses := true, apart := false, narrowed := true }
def GradeCountedUptoSaid : Prop := gradeCountedUptoRow.holds Try.pinned (OpenSpec.upto gradeCountedSpec)

/-- 'orloplaw08.GradeTurned', WHERE WHAT IT READS IS OF BULK AT MOST 1048576: true; the input reads as it did. -/
def gradeTurnedUptoRow : OpenClaim := { program := "ytgkdidnmndmlhaa", sum := "58efd0eba947830596db57466853c36caab1a3a3b4e0dc149570541af6f037e5", func := "orlop/orloplaw08.GradeTurned", spec := "gradeTurned", unfollowed := true, recurses := true, apart := false, narrowed := true }
def GradeTurnedUptoSaid : Prop := gradeTurnedUptoRow.holds Try.pinned (OpenSpec.upto gradeTurnedSpec)

/-- 'orloplaw08.GradePasses', WHERE WHAT IT READS IS OF BULK AT MOST 1048576: true; the input reads as it did. -/
def gradePassesUptoRow : OpenClaim := { program := "ytgkdidnmndmlhaa", sum := "58efd0eba947830596db57466853c36caab1a3a3b4e0dc149570541af6f037e5", func := "orlop/orloplaw08.GradePasses", spec := "gradePasses", unfollowed := true, recurses := true, apart := false, narrowed := true }
def GradePassesUptoSaid : Prop := gradePassesUptoRow.holds Try.pinned (OpenSpec.upto gradePassesSpec)

/-- 'orloplaw08.GradeTwice', WHERE WHAT IT READS IS OF BULK AT MOST 1048576: true; the input reads as it did. -/
def gradeTwiceUptoRow : OpenClaim := { program := "ytgkdidnmndmlhaa", sum := "58efd0eba947830596db57466853c36caab1a3a3b4e0dc149570541af6f037e5", func := "orlop/orloplaw08.GradeTwice", spec := "gradeTwice", unfollowed := true, recurses := true, apart := false, narrowed := true }
def GradeTwiceUptoSaid : Prop := gradeTwiceUptoRow.holds Try.pinned (OpenSpec.upto gradeTwiceSpec)

/-- 'orloplaw08.GradeSmallest', WHERE WHAT IT READS IS OF BULK AT MOST 1048576: true; the input reads as it did. -/
def gradeSmallestUptoRow : OpenClaim := { program := "ytgkdidnmndmlhaa", sum := "58efd0eba947830596db57466853c36caab1a3a3b4e0dc149570541af6f037e5", func := "orlop/orloplaw08.GradeSmallest", spec := "gradeSmallest", unfollowed := true, recurses := true, apart := false, narrowed := true }
def GradeSmallestUptoSaid : Prop := gradeSmallestUptoRow.holds Try.pinned (OpenSpec.upto gradeSmallestSpec)

/-- 'orloplaw08.GradeWorth', WHERE WHAT IT READS IS OF BULK AT MOST 1048576: true; the input reads as it did. -/
def gradeWorthUptoRow : OpenClaim := { program := "ytgkdidnmndmlhaa", sum := "58efd0eba947830596db57466853c36caab1a3a3b4e0dc149570541af6f037e5", func := "orlop/orloplaw08.GradeWorth", spec := "gradeWorth", unfollowed := true, recurses := true, apart := false, narrowed := true }
def GradeWorthUptoSaid : Prop := gradeWorthUptoRow.holds Try.pinned (OpenSpec.upto gradeWorthSpec)

/-- 'orloplaw08.GradeLeft', WHERE WHAT IT READS IS OF BULK AT MOST 1048576: true; the input reads as it did. -/
def gradeLeftUptoRow : OpenClaim := { program := "ytgkdidnmndmlhaa", sum := "58efd0eba947830596db57466853c36caab1a3a3b4e0dc149570541af6f037e5", func := "orlop/orloplaw08.GradeLeft", spec := "gradeLeft", unfollowed := true, recurses := true, apart := false, narrowed := true }
def GradeLeftUptoSaid : Prop := gradeLeftUptoRow.holds Try.pinned (OpenSpec.upto gradeLeftSpec)

/-- 'orloplaw08.GradeStays', WHERE WHAT IT READS IS OF BULK AT MOST 1048576: true; the input reads as it did. -/
def gradeStaysUptoRow : OpenClaim := { program := "ytgkdidnmndmlhaa", sum := "58efd0eba947830596db57466853c36caab1a3a3b4e0dc149570541af6f037e5", func := "orlop/orloplaw08.GradeStays", spec := "gradeStays", unfollowed := true, recurses := true, apart := false, narrowed := true }
def GradeStaysUptoSaid : Prop := gradeStaysUptoRow.holds Try.pinned (OpenSpec.upto gradeStaysSpec)

end Rows
end Go.Proofs.Ytgkdidnmndmlhaa
