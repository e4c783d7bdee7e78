/- Journal records: the table of kinds of the program, RecOk of the program. -/
import Derived.Test.YtdapnhahccpebaaDoorRec
import Derived.Laws.EntriesVeiled
namespace Go.Proofs.YtdapnhahccpebaaDoor
open Go.RowKit
set_option maxRecDepth 100000
set_option linter.unusedVariables false

/-! ### the kinds of the program -/
def kPrep : Value := .agg #[.int .i64 1, .int .i64 0, .bool true, .func (.func 106) #[] #[]]
def kCommit : Value := .agg #[.int .i64 2, .int .i64 0, .bool false, .func (.func 107) #[] #[]]
def kEpoch : Value := .agg #[.int .i64 3, .int .i64 1, .bool false, .func (.func 108) #[] #[]]
def kNone : Value := .agg #[.int .i64 0, .int .i64 0, .bool false, .nilFunc]

set_option maxHeartbeats 4000000 in
theorem kind_1 (w : World) : Calls Tryd.prog 66 #[.int .i64 1] w fun e w' => e = .returned (.tuple #[kPrep, .bool true]) ∧ Below w.heap.size w w' := by
  unfold kPrep
  go_enter Tryd.func66, Tryd.ntmps66
  go_wp2
  refine wp_loop_rounds 1 ?_
  rw [rounds_succ]
  go_wp2
  refine bodyPost_ret (v := .tuple #[.agg #[.int .i64 1, .int .i64 0, .bool true, .func (.func 106) #[] #[]], .bool true]) (by simp [results, Tryd.results66, go_sem]) rfl ⟨rfl, ?_⟩
  repeat (first | exact Below.refl _ _ | (refine Below.setCell ?_ (by simp <;> omega) _) | (refine Below.alloc ?_ (by simp <;> omega) _))

set_option maxHeartbeats 4000000 in
theorem kind_2 (w : World) : Calls Tryd.prog 66 #[.int .i64 2] w fun e w' => e = .returned (.tuple #[kCommit, .bool true]) ∧ Below w.heap.size w w' := by
  unfold kCommit
  go_enter Tryd.func66, Tryd.ntmps66
  go_wp2
  refine wp_loop_rounds 2 ?_
  rw [rounds_succ]
  go_wp2
  rw [rounds_succ]
  go_wp2
  refine bodyPost_ret (v := .tuple #[.agg #[.int .i64 2, .int .i64 0, .bool false, .func (.func 107) #[] #[]], .bool true]) (by simp [results, Tryd.results66, go_sem]) rfl ⟨rfl, ?_⟩
  repeat (first | exact Below.refl _ _ | (refine Below.setCell ?_ (by simp <;> omega) _) | (refine Below.alloc ?_ (by simp <;> omega) _))

set_option maxHeartbeats 4000000 in
theorem kind_3 (w : World) : Calls Tryd.prog 66 #[.int .i64 3] w fun e w' => e = .returned (.tuple #[kEpoch, .bool true]) ∧ Below w.heap.size w w' := by
  unfold kEpoch
  go_enter Tryd.func66, Tryd.ntmps66
  go_wp2
  refine wp_loop_rounds 3 ?_
  rw [rounds_succ]
  go_wp2
  rw [rounds_succ]
  go_wp2
  rw [rounds_succ]
  go_wp2
  refine bodyPost_ret (v := .tuple #[.agg #[.int .i64 3, .int .i64 1, .bool false, .func (.func 108) #[] #[]], .bool true]) (by simp [results, Tryd.results66, go_sem]) rfl ⟨rfl, ?_⟩
  repeat (first | exact Below.refl _ _ | (refine Below.setCell ?_ (by simp <;> omega) _) | (refine Below.alloc ?_ (by simp <;> omega) _))

set_option maxHeartbeats 4000000 in
theorem kind_none (k : Int) (h1 : k ≠ 1) (h2 : k ≠ 2) (h3 : k ≠ 3) (w : World) : Calls Tryd.prog 66 #[.int .i64 k] w fun e w' => e = .returned (.tuple #[kNone, .bool false]) ∧ Below w.heap.size w w' := by
  have q1 : ((1 : Int) == k) = false := by simp; omega
  have q2 : ((2 : Int) == k) = false := by simp; omega
  have q3 : ((3 : Int) == k) = false := by simp; omega
  clear h1 h2 h3
  unfold kNone
  go_enter Tryd.func66, Tryd.ntmps66
  go_wp2
  refine wp_loop_rounds 4 ?_
  rw [rounds_succ]
  go_wp2
  rw [rounds_succ]
  go_wp2
  rw [rounds_succ]
  go_wp2
  rw [rounds_succ]
  go_wp2
  refine bodyPost_ret (v := .tuple #[.agg #[.int .i64 0, .int .i64 0, .bool false, .nilFunc], .bool false]) (by simp [results, Tryd.results66, go_sem]) rfl ⟨rfl, ?_⟩
  repeat (first | exact Below.refl _ _ | (refine Below.setCell ?_ (by simp <;> omega) _) | (refine Below.alloc ?_ (by simp <;> omega) _))

end Go.Proofs.YtdapnhahccpebaaDoor
