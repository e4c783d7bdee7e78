/- The struct Item: its cells, its memory; what the exact laws ask of it; compared with itself. (By gen_titem.py.) -/
import Derived.Test.YtgdhhhibkhfdlaaFLAsker
import Derived.Test.YtgdhhhibkhfdlaaFLLine
import Derived.Deep.Cut
import Derived.Deep.MidRow
import Derived.Test.YtgdhhhibkhfdlaaHalt
namespace Go.Proofs.Ytgdhhhibkhfdlaa
open Go.RowKit
set_option maxRecDepth 100000
set_option linter.unusedVariables false
set_option linter.unusedSimpArgs false

structure It where
  kind : Int
  a : Ak
  l : Ln
def itC (x : It) : List Value := [.int .i64 x.kind, .int .i64 x.a.sock, .string x.a.db, .int .i64 x.a.st, .int .i64 x.a.ticket, .int .i64 x.a.since, .string x.a.q, .int .i64 x.a.line, .int .i64 x.a.lease, .int .i64 x.l.sock, .string x.l.db, .int .i64 x.l.gen, .int .i64 x.l.st, .int .i64 x.l.since, .int .i64 x.l.asker, .int .i64 x.l.lease]
def itR : Rep It := (Rep.int.pair (akR.pair lnR)).iso (fun r => (r.kind, r.a, r.l)) (fun p => ⟨p.1, p.2.1, p.2.2⟩)
theorem it_cells {w : World} {B : Nat} {cs : List Value} {x : It} (h : itR.at_ w B cs x) : cs = itC x := by
  have hl : cs.length = 16 := Rep.len itR h
  obtain ⟨h0, h1, h2⟩ := h
  have e0 : cs.take 1 = [.int .i64 x.kind] := h0
  have e1 := ak_cells h1
  have e2 := ln_cells h2
  have e : cs = cs.take 1 ++ ((cs.drop 1).take 8 ++ (cs.drop 1).drop 8) := by rw [List.take_append_drop, List.take_append_drop]
  replace e1 : (cs.drop 1).take 8 = akC x.a := e1
  replace e2 : (cs.drop 1).drop 8 = lnC x.l := e2
  rw [e, e0, e1, e2]
  rfl
theorem it_own (w : World) (base : Nat) (x : It) : itR.own w base (itC x) x [] :=
  ⟨[], [], ⟨rfl, rfl⟩, ⟨[], [], ak_own w base x.a, ln_own w base x.l, rfl, by simp⟩, rfl, by simp⟩
theorem it_at (w : World) (B : Nat) (x : It) : itR.at_ w B (itC x) x := ⟨rfl, ak_at w B x.a, ln_at w B x.l⟩
def OkIt (x : It) : Prop := (Lit.int .i64 x.kind).wf = true ∧ OkAk x.a ∧ OkLn x.l

def FitsIt (x : It) : Prop := FitsAk x.a ∧ FitsLn x.l

def putA (cs : Array Value) (o : Nat) : List Value → Array Value
  | [] => cs
  | u :: us => putA (cs.setIfInBounds o u) (o + 1) us
theorem setRow_box {w : World} {g t : Nat} {cs : Array Value} (o : Nat) (us : List Value) (h : w.heap[g]? = some (.cells cs t (0, 0))) : (Rep.setRow w g o us).heap[g]? = some (.cells (putA cs o us) t (0, 0)) := by
  induction us generalizing w cs o with
  | nil => exact h
  | cons u us ih => exact ih (o + 1) (var_set h o u)

theorem setCells_row (w : World) (b o : Nat) (vs : List Value) : w.setCells b o vs = Rep.setRow w b o vs := by
  induction vs generalizing w o with
  | nil => rfl
  | cons v vs ih => exact ih _ _

set_option maxHeartbeats 4000000 in
theorem eqIt_same (x : It) (w : World) : Calls Try.prog 63 #[.agg (itC x).toArray, .agg (itC x).toArray] w fun e w' => e = .returned (.bool true) ∧ Below w.heap.size w w' := by
  have h0 : (x.kind != x.kind) = false := by simp
  unfold itC
  go_enter Try.func63, Try.ntmps63
  go_wp2_with fail
  have S : All (fun w' => Below w.heap.size w w' ∧ w'.heap[w.heap.size]? = some (.cells #[.int .i64 x.kind, .int .i64 x.a.sock, .string x.a.db, .int .i64 x.a.st, .int .i64 x.a.ticket, .int .i64 x.a.since, .string x.a.q, .int .i64 x.a.line, .int .i64 x.a.lease, .int .i64 x.l.sock, .string x.l.db, .int .i64 x.l.gen, .int .i64 x.l.st, .int .i64 x.l.since, .int .i64 x.l.asker, .int .i64 x.l.lease] 54 (0, 0)) ∧ w'.heap[w.heap.size + 1]? = some (.cells #[.int .i64 x.kind, .int .i64 x.a.sock, .string x.a.db, .int .i64 x.a.st, .int .i64 x.a.ticket, .int .i64 x.a.since, .string x.a.q, .int .i64 x.a.line, .int .i64 x.a.lease, .int .i64 x.l.sock, .string x.l.db, .int .i64 x.l.gen, .int .i64 x.l.st, .int .i64 x.l.since, .int .i64 x.l.asker, .int .i64 x.l.lease] 54 (0, 0))) ((w.alloc (.cells #[.int .i64 x.kind, .int .i64 x.a.sock, .string x.a.db, .int .i64 x.a.st, .int .i64 x.a.ticket, .int .i64 x.a.since, .string x.a.q, .int .i64 x.a.line, .int .i64 x.a.lease, .int .i64 x.l.sock, .string x.l.db, .int .i64 x.l.gen, .int .i64 x.l.st, .int .i64 x.l.since, .int .i64 x.l.asker, .int .i64 x.l.lease] 54)).alloc (.cells #[.int .i64 x.kind, .int .i64 x.a.sock, .string x.a.db, .int .i64 x.a.st, .int .i64 x.a.ticket, .int .i64 x.a.since, .string x.a.q, .int .i64 x.a.line, .int .i64 x.a.lease, .int .i64 x.l.sock, .string x.l.db, .int .i64 x.l.gen, .int .i64 x.l.st, .int .i64 x.l.since, .int .i64 x.l.asker, .int .i64 x.l.lease] 54)) := ⟨Later.trans (Later.alloc w _) (Later.alloc _ _), ((Later.alloc _ _).block _ (by simp)).trans (heap_alloc_new w _), heap_alloc_new' _ _ (by simp)⟩
  generalize (w.alloc (.cells #[.int .i64 x.kind, .int .i64 x.a.sock, .string x.a.db, .int .i64 x.a.st, .int .i64 x.a.ticket, .int .i64 x.a.since, .string x.a.q, .int .i64 x.a.line, .int .i64 x.a.lease, .int .i64 x.l.sock, .string x.l.db, .int .i64 x.l.gen, .int .i64 x.l.st, .int .i64 x.l.since, .int .i64 x.l.asker, .int .i64 x.l.lease] 54)).alloc (.cells #[.int .i64 x.kind, .int .i64 x.a.sock, .string x.a.db, .int .i64 x.a.st, .int .i64 x.a.ticket, .int .i64 x.a.since, .string x.a.q, .int .i64 x.a.line, .int .i64 x.a.lease, .int .i64 x.l.sock, .string x.l.db, .int .i64 x.l.gen, .int .i64 x.l.st, .int .i64 x.l.since, .int .i64 x.l.asker, .int .i64 x.l.lease] 54) = W0 at S ⊢
  refine (eqAk_same x.a W0).mono ?_
  rintro e W1 ⟨rfl, hb⟩
  replace S := S.later hb
  clear hb
  have c9 := var_cell S.out.2.1 9
  have c10 := var_cell S.out.2.1 10
  have c11 := var_cell S.out.2.1 11
  have c12 := var_cell S.out.2.1 12
  have c13 := var_cell S.out.2.1 13
  have c14 := var_cell S.out.2.1 14
  have c15 := var_cell S.out.2.1 15
  have d9 := var_cell S.out.2.2 9
  have d10 := var_cell S.out.2.2 10
  have d11 := var_cell S.out.2.2 11
  have d12 := var_cell S.out.2.2 12
  have d13 := var_cell S.out.2.2 13
  have d14 := var_cell S.out.2.2 14
  have d15 := var_cell S.out.2.2 15
  go_wp2_with fail
  clear c9 c10 c11 c12 c13 c14 c15 d9 d10 d11 d12 d13 d14 d15
  refine (eqLn_same x.l W1).mono ?_
  rintro e W2 ⟨rfl, hb⟩
  replace S := S.later hb
  clear hb
  go_wp2_with fail
  go_ret
  exact ⟨rfl, S.out.1⟩

end Go.Proofs.Ytgdhhhibkhfdlaa
