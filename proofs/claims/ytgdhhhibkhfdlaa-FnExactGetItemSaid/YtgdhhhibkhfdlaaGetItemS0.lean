/- GetItem of the model. (By gen_l9g.py.) -/
import Derived.Test.YtgdhhhibkhfdlaaSI0
import Derived.Test.YtgdhhhibkhfdlaaRetItem
import Derived.Deep.Cut
import Derived.IntWalk
namespace Go.Proofs.Ytgdhhhibkhfdlaa
open Go.RowKit
set_option linter.unusedVariables false
set_option linter.unusedSimpArgs false

def AfterS (w : World) (b : List UInt8) (X : Nat) (W' : World) : Prop := ∃ (x : It) (bd : Bool) (A9 : Option Addr) (c9 p9 : Nat), sIt b = (x, bd) ∧ Below w.heap.size w W' ∧ W'.heap[w.heap.size]? = some (.cells #[.int .i64 0, .int .i64 0, .string ⟨#[]⟩, .int .i64 0, .int .i64 0, .int .i64 0, .string ⟨#[]⟩, .int .i64 0, .int .i64 0, .int .i64 0, .string ⟨#[]⟩, .int .i64 0, .int .i64 0, .int .i64 0, .int .i64 0, .int .i64 0] 54 (0, 0)) ∧ W'.heap[w.heap.size + 1]? = some (.cells #[.slice A9 b.length c9, .int .i64 p9, .bool bd] 141 (0, 0)) ∧ W'.heap[X]? = some (.cells #[.int .i64 x.kind, .int .i64 x.a.sock, .string x.a.db, .int .i64 x.a.st, .int .i64 x.a.ticket, .int .i64 x.a.since, .string x.a.q, .int .i64 x.a.line, .int .i64 x.a.lease, .int .i64 x.l.sock, .string x.l.db, .int .i64 x.l.gen, .int .i64 x.l.st, .int .i64 x.l.since, .int .i64 x.l.asker, .int .i64 x.l.lease] 54 (0, 0))
theorem AfterS.mk {w V : World} {b : List UInt8} {X : Nat} {x : It} {s : St} (hx : V.heap[X]? = some (.cells #[.int .i64 x.kind, .int .i64 x.a.sock, .string x.a.db, .int .i64 x.a.st, .int .i64 x.a.ticket, .int .i64 x.a.since, .string x.a.q, .int .i64 x.a.line, .int .i64 x.a.lease, .int .i64 x.l.sock, .string x.l.db, .int .i64 x.l.gen, .int .i64 x.l.st, .int .i64 x.l.since, .int .i64 x.l.asker, .int .i64 x.l.lease] 54 (0, 0))) (hv0 : V.heap[w.heap.size]? = some (.cells #[.int .i64 0, .int .i64 0, .string ⟨#[]⟩, .int .i64 0, .int .i64 0, .int .i64 0, .string ⟨#[]⟩, .int .i64 0, .int .i64 0, .int .i64 0, .string ⟨#[]⟩, .int .i64 0, .int .i64 0, .int .i64 0, .int .i64 0, .int .i64 0] 54 (0, 0))) (hb0 : Below w.heap.size w V) (hrd : RdS V (w.heap.size + 1) b s) (h : sIt b = (x, s.2)) : AfterS w b X V := by
  obtain ⟨A9, c9, p9, hbx, _, _⟩ := hrd
  exact ⟨x, s.2, A9, c9, p9, h, hb0, hv0, hbx, hx⟩

end Go.Proofs.Ytgdhhhibkhfdlaa
