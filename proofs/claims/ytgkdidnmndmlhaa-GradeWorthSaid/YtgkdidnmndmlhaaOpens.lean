import Derived.Test.YtgkdidnmndmlhaaCore
import Derived.Test.YtgkdidnmndmlhaaLeaf
import Derived.ProofKit
import Derived.Deep.Slices
import Derived.Carry
import Derived.OpenShut
/- What the program knobs are; where its blocks may lie. -/
namespace Go.Proofs.Ytgkdidnmndmlhaa
open Go.ChangeShapes Go.WideShapes Go.ChangeAt Go.RowKit
namespace Td
theorem ownB : ownKnob Try.prog.godebug = none := by kernel_rfl
theorem laidOutB' : laidOutB Try.prog = true := by kernel_rfl
end Td
end Go.Proofs.Ytgkdidnmndmlhaa
