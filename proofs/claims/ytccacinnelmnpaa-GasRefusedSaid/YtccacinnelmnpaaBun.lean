import Derived.Test.YtccacinnelmnpaaStpW
/- What a law function holds of its space from call to call. -/
namespace Go.Proofs.Ytccacinnelmnpaa
open Go.RowKit
namespace Td
/-- the space lies in the first block that the function made; all that was there before is as it was. -/
structure Sp (w : World) (s : Spc) (m : Sl) (W : World) : Prop where
  sn : Since w W
  bk : Blk W w.heap.size 27 (sV s m)
section
variable {w W W' : World} {s : Spc} {m : Sl}
theorem Sp.start (w : World) (s : Spc) (m : Sl) : Sp w s m (w.alloc (.cells (sV s m) 27)) := ⟨(Since.refl w).alloc _, Blk.new w _ _⟩
theorem Sp.keep (h : Sp w s m W) (hb : Below W.heap.size W W') : Sp w s m W' := ⟨h.sn.keep hb, h.bk.keep hb⟩
theorem Sp.drew (h : Sp w s m W) : Sp w s m W.drew := ⟨h.sn.drew, h.bk.drew⟩
theorem Sp.alloc (h : Sp w s m W) (o : Obj) : Sp w s m (W.alloc o) := ⟨h.sn.alloc _, h.bk.alloc _⟩
theorem Sp.row (h : Sp w s m W) {g : Nat} (hg : w.heap.size < g) (cs : Array Value) : Sp w s m (W.setRow g cs) := ⟨h.sn.row (Nat.le_of_lt hg) _, h.bk.rowFar (by omega) _⟩
theorem Sp.lt (h : Sp w s m W) : w.heap.size < W.heap.size := h.bk.lt
theorem Sp.grown {B : Option Nat} (h : Sp w s m W) (hg : W.grownBy W' B) (hB : ∀ k, B = some k → w.heap.size < k) : Sp w s m W' :=
  ⟨⟨h.sn.1.grown hg h.sn.2 (fun q e => by have := hB q e; omega), Nat.le_trans h.sn.2 hg.size⟩, h.bk.grown hg (fun e => by have := hB _ e.symm; omega)⟩
end
end Td
end Go.Proofs.Ytccacinnelmnpaa
