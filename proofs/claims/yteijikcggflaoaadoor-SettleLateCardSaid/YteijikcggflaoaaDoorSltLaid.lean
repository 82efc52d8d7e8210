/- What the package's two fields of a slot's word hold, and that they hold it behind any call. -/
import Derived.Test.YteijikcggflaoaaDoorFd
namespace Go.Proofs.YteijikcggflaoaaDoor
open Go.RowKit

/-- Both. -/
structure SLay (w : World) : Prop where
  gen_ : Fd w 0 0 24
  state_ : Fd w 1 24 2

theorem SLay.kept {w w' : World} (h : SLay w) (hb : Below w.heap.size w w') : SLay w' where
  gen_ := h.gen_.kept hb
  state_ := h.state_.kept hb
theorem SLay.drew {w : World} (h : SLay w) : SLay w.drew := ⟨h.gen_, h.state_⟩
/-- Behind a second call. -/
theorem below_on {w w1 w2 : World} (h : Below w.heap.size w w1) (h2 : Below w1.heap.size w1 w2) : Below w.heap.size w w2 := h.trans (h2.mono h.size)

end Go.Proofs.YteijikcggflaoaaDoor
