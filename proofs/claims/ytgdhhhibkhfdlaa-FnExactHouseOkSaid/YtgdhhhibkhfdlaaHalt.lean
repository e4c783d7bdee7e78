/- A walk that is held up: the arm of a step wraps its goal, the walk stops there. -/
import Derived.Test.YtgdhhhibkhfdlaaRepMore
namespace Go.Proofs.Ytgdhhhibkhfdlaa
open Go.RowKit

def Halt (p : Prop) : Prop := p
theorem Halt.go {p : Prop} (h : Halt p) : p := h
theorem Halt.mk {p : Prop} (h : p) : Halt p := h

end Go.Proofs.Ytgdhhhibkhfdlaa
