import Derived.Test.YthdcklonamgpiaaGreatCore
import Derived.Test.YthdcklonamgpiaaGreatLeaf
import Derived.ProofKit
import Derived.Deep.Slices
import Derived.Carry
import Derived.OpenShut
/- What the program knobs are; where its blocks may lie. -/
namespace Go.Proofs.YthdcklonamgpiaaGreat
open Go.ChangeShapes Go.WideShapes Go.ChangeAt Go.RowKit
namespace Td
theorem ownB : ownKnob Tryz.prog.godebug = none := by kernel_rfl
theorem laidOutB' : laidOutB Tryz.prog = true := by kernel_rfl
end Td
end Go.Proofs.YthdcklonamgpiaaGreat
