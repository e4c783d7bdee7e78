/- Chapter 7: the word of a query, the status, the answers; contracts. -/
import Derived.Test.YtcelkmphdeaaeaaText
import Derived.Test.YtcelkmphdeaaeaaLFrame
import Derived.Test.YtcelkmphdeaaeaaLexG
namespace Go.Proofs.Ytcelkmphdeaaeaa
open Go.RowKit
set_option linter.unusedVariables false

def qBegin : ByteArray := ⟨#[98, 101, 103, 105, 110]⟩
def qCommit : ByteArray := ⟨#[99, 111, 109, 109, 105, 116]⟩
def qBack : ByteArray := ⟨#[114, 111, 108, 108, 98, 97, 99, 107]⟩
def qFail : ByteArray := ⟨#[102, 97, 105, 108]⟩
def wordQ (q : ByteArray) : Int :=
  if q = qBegin then 1 else if q = qCommit then 2 else if q = qBack then 3 else if q = qFail then 4 else 0
theorem wordQ_in (q : ByteArray) : 0 ≤ wordQ q ∧ wordQ q ≤ 4 := by
  unfold wordQ
  split
  · decide
  · split
    · decide
    · split
      · decide
      · split <;> decide
theorem is_list {a : ByteArray} {l : List UInt8} (h : a = ⟨l.toArray⟩) : (a.toList == l) = true := by
  subst h
  rw [ByteArray.toList_mk]
  simp
theorem ne_list {a : ByteArray} {l : List UInt8} (h : a ≠ ⟨l.toArray⟩) : (a.toList == l) = false := by
  by_cases h' : (a.toList == l) = true
  · exact absurd (list_bytes (a := a) (b := ⟨l.toArray⟩) (by rw [ByteArray.toList_mk l]; exact h')) h
  · simpa using h'

set_option maxHeartbeats 1000000 in
theorem wordOf_any (q : ByteArray) (w : World) : Calls Try.prog 41 #[.string q] w fun e w' => e = .returned (.int .i64 (wordQ q)) ∧ w = w' := by
  by_cases h1 : q = qBegin
  · have e1 : (q.toList == [98, 101, 103, 105, 110]) = true := is_list h1
    have E : wordQ q = 1 := by unfold wordQ; rw [if_pos h1]
    rw [E]
    clear E h1
    go_enter Try.func41, Try.ntmps41
    go_wp2
    go_ret
    exact ⟨rfl, rfl⟩
  · by_cases h2 : q = qCommit
    · have e2 : (q.toList == [99, 111, 109, 109, 105, 116]) = true := is_list h2
      have e1 : (q.toList == [98, 101, 103, 105, 110]) = false := ne_list h1
      have E : wordQ q = 2 := by unfold wordQ; rw [if_neg h1, if_pos h2]
      rw [E]
      clear E h1 h2
      go_enter Try.func41, Try.ntmps41
      go_wp2
      go_ret
      exact ⟨rfl, rfl⟩
    · by_cases h3 : q = qBack
      · have e3 : (q.toList == [114, 111, 108, 108, 98, 97, 99, 107]) = true := is_list h3
        have e1 : (q.toList == [98, 101, 103, 105, 110]) = false := ne_list h1
        have e2 : (q.toList == [99, 111, 109, 109, 105, 116]) = false := ne_list h2
        have E : wordQ q = 3 := by unfold wordQ; rw [if_neg h1, if_neg h2, if_pos h3]
        rw [E]
        clear E h1 h2 h3
        go_enter Try.func41, Try.ntmps41
        go_wp2
        go_ret
        exact ⟨rfl, rfl⟩
      · by_cases h4 : q = qFail
        · have e4 : (q.toList == [102, 97, 105, 108]) = true := is_list h4
          have e1 : (q.toList == [98, 101, 103, 105, 110]) = false := ne_list h1
          have e2 : (q.toList == [99, 111, 109, 109, 105, 116]) = false := ne_list h2
          have e3 : (q.toList == [114, 111, 108, 108, 98, 97, 99, 107]) = false := ne_list h3
          have E : wordQ q = 4 := by unfold wordQ; rw [if_neg h1, if_neg h2, if_neg h3, if_pos h4]
          rw [E]
          clear E h1 h2 h3 h4
          go_enter Try.func41, Try.ntmps41
          go_wp2
          go_ret
          exact ⟨rfl, rfl⟩
        · have e1 : (q.toList == [98, 101, 103, 105, 110]) = false := ne_list h1
          have e2 : (q.toList == [99, 111, 109, 109, 105, 116]) = false := ne_list h2
          have e3 : (q.toList == [114, 111, 108, 108, 98, 97, 99, 107]) = false := ne_list h3
          have e4 : (q.toList == [102, 97, 105, 108]) = false := ne_list h4
          have E : wordQ q = 0 := by unfold wordQ; rw [if_neg h1, if_neg h2, if_neg h3, if_neg h4]
          rw [E]
          clear E h1 h2 h3 h4
          go_enter Try.func41, Try.ntmps41
          go_wp2
          go_ret
          exact ⟨rfl, rfl⟩

-- (written by gen_tog.py)

set_option maxHeartbeats 1000000 in
theorem wordOfS_any (q : ByteArray) (w : World) : Calls Try.prog 86 #[.string q] w fun e w' => e = .returned (.int .i64 (wordQ q)) ∧ w = w' := by
  by_cases h1 : q = qBegin
  · have e1 : (q.toList == [98, 101, 103, 105, 110]) = true := is_list h1
    have E : wordQ q = 1 := by unfold wordQ; rw [if_pos h1]
    rw [E]
    clear E h1
    go_enter Try.func86, Try.ntmps86
    go_wp2
    go_ret
    exact ⟨rfl, rfl⟩
  · by_cases h2 : q = qCommit
    · have e2 : (q.toList == [99, 111, 109, 109, 105, 116]) = true := is_list h2
      have e1 : (q.toList == [98, 101, 103, 105, 110]) = false := ne_list h1
      have E : wordQ q = 2 := by unfold wordQ; rw [if_neg h1, if_pos h2]
      rw [E]
      clear E h1 h2
      go_enter Try.func86, Try.ntmps86
      go_wp2
      go_ret
      exact ⟨rfl, rfl⟩
    · by_cases h3 : q = qBack
      · have e3 : (q.toList == [114, 111, 108, 108, 98, 97, 99, 107]) = true := is_list h3
        have e1 : (q.toList == [98, 101, 103, 105, 110]) = false := ne_list h1
        have e2 : (q.toList == [99, 111, 109, 109, 105, 116]) = false := ne_list h2
        have E : wordQ q = 3 := by unfold wordQ; rw [if_neg h1, if_neg h2, if_pos h3]
        rw [E]
        clear E h1 h2 h3
        go_enter Try.func86, Try.ntmps86
        go_wp2
        go_ret
        exact ⟨rfl, rfl⟩
      · by_cases h4 : q = qFail
        · have e4 : (q.toList == [102, 97, 105, 108]) = true := is_list h4
          have e1 : (q.toList == [98, 101, 103, 105, 110]) = false := ne_list h1
          have e2 : (q.toList == [99, 111, 109, 109, 105, 116]) = false := ne_list h2
          have e3 : (q.toList == [114, 111, 108, 108, 98, 97, 99, 107]) = false := ne_list h3
          have E : wordQ q = 4 := by unfold wordQ; rw [if_neg h1, if_neg h2, if_neg h3, if_pos h4]
          rw [E]
          clear E h1 h2 h3 h4
          go_enter Try.func86, Try.ntmps86
          go_wp2
          go_ret
          exact ⟨rfl, rfl⟩
        · have e1 : (q.toList == [98, 101, 103, 105, 110]) = false := ne_list h1
          have e2 : (q.toList == [99, 111, 109, 109, 105, 116]) = false := ne_list h2
          have e3 : (q.toList == [114, 111, 108, 108, 98, 97, 99, 107]) = false := ne_list h3
          have e4 : (q.toList == [102, 97, 105, 108]) = false := ne_list h4
          have E : wordQ q = 0 := by unfold wordQ; rw [if_neg h1, if_neg h2, if_neg h3, if_neg h4]
          rw [E]
          clear E h1 h2 h3 h4
          go_enter Try.func86, Try.ntmps86
          go_wp2
          go_ret
          exact ⟨rfl, rfl⟩

/-- The status behind a query. -/
def nextS (st w : Int) : Int :=
  if st = 0 then (if w = 1 then 1 else 0)
  else if st = 1 then (if w = 4 then 2 else if w = 2 ∨ w = 3 then 0 else 1)
  else if st = 2 then (if w = 2 ∨ w = 3 then 0 else 2)
  else 0
theorem nextS_in (st w : Int) : 0 ≤ nextS st w ∧ nextS st w ≤ 2 := by
  unfold nextS
  repeat' split
  all_goals decide
theorem st_cases (st : Int) : st = 0 ∨ st = 1 ∨ st = 2 ∨ (st ≠ 0 ∧ st ≠ 1 ∧ st ≠ 2) := by omega
theorem w_cases (w : Int) : w = 1 ∨ w = 2 ∨ w = 3 ∨ w = 4 ∨ (w ≠ 1 ∧ w ≠ 2 ∧ w ≠ 3 ∧ w ≠ 4) := by omega
theorem beq_no {a b : Int} (h : a ≠ b) : (a == b) = false := by simpa using h

theorem ends_any (v : Int) (w : World) : Calls Try.prog 90 #[.int .i64 v] w fun e w' => e = .returned (.bool (decide (v = 2 ∨ v = 3))) ∧ w = w' := by
  rcases w_cases v with rfl | rfl | rfl | rfl | ⟨h1, h2, h3, h4⟩
  rotate_right
  · have b2 := beq_no h2
    have b3 := beq_no h3
    have E : decide (v = 2 ∨ v = 3) = false := by simp; omega
    rw [E]
    clear E h1 h2 h3 h4
    go_enter Try.func90, Try.ntmps90
    go_wp2
    go_ret
    exact ⟨rfl, rfl⟩
  all_goals
    go_enter Try.func90, Try.ntmps90
    go_wp2
    go_ret
    exact ⟨rfl, rfl⟩

set_option maxHeartbeats 4000000 in
theorem nextSt_any (st v : Int) (w : World) : Calls Try.prog 40 #[.int .i64 st, .int .i64 v] w fun e w' => e = .returned (.int .i64 (nextS st v)) ∧ w = w' := by
  rcases st_cases st with rfl | rfl | rfl | ⟨s0, s1, s2⟩
  · rcases w_cases v with rfl | rfl | rfl | rfl | ⟨h1, h2, h3, h4⟩
    · skip
      have E : nextS 0 1 = 1 := by decide
      rw [E]
      clear E
      go_enter Try.func40, Try.ntmps40
      go_wp2_with (first | (go_at_call 90; go_in) | fail)
      go_ret
      exact ⟨rfl, rfl⟩
    · skip
      have E : nextS 0 2 = 0 := by decide
      rw [E]
      clear E
      go_enter Try.func40, Try.ntmps40
      go_wp2_with (first | (go_at_call 90; go_in) | fail)
      go_ret
      exact ⟨rfl, rfl⟩
    · skip
      have E : nextS 0 3 = 0 := by decide
      rw [E]
      clear E
      go_enter Try.func40, Try.ntmps40
      go_wp2_with (first | (go_at_call 90; go_in) | fail)
      go_ret
      exact ⟨rfl, rfl⟩
    · skip
      have E : nextS 0 4 = 0 := by decide
      rw [E]
      clear E
      go_enter Try.func40, Try.ntmps40
      go_wp2_with (first | (go_at_call 90; go_in) | fail)
      go_ret
      exact ⟨rfl, rfl⟩
    · have b1 := beq_no h1; have b2 := beq_no h2; have b3 := beq_no h3; have b4 := beq_no h4
      have E : nextS (0) v = 0 := by unfold nextS; (repeat' split) <;> first | rfl | omega
      rw [E]
      clear E h1 h2 h3 h4
      go_enter Try.func40, Try.ntmps40
      go_wp2_with (first | (go_at_call 90; go_in) | fail)
      go_ret
      exact ⟨rfl, rfl⟩
  · rcases w_cases v with rfl | rfl | rfl | rfl | ⟨h1, h2, h3, h4⟩
    · skip
      have E : nextS 1 1 = 1 := by decide
      rw [E]
      clear E
      go_enter Try.func40, Try.ntmps40
      go_wp2_with (first | (go_at_call 90; go_in) | fail)
      go_ret
      exact ⟨rfl, rfl⟩
    · skip
      have E : nextS 1 2 = 0 := by decide
      rw [E]
      clear E
      go_enter Try.func40, Try.ntmps40
      go_wp2_with (first | (go_at_call 90; go_in) | fail)
      go_ret
      exact ⟨rfl, rfl⟩
    · skip
      have E : nextS 1 3 = 0 := by decide
      rw [E]
      clear E
      go_enter Try.func40, Try.ntmps40
      go_wp2_with (first | (go_at_call 90; go_in) | fail)
      go_ret
      exact ⟨rfl, rfl⟩
    · skip
      have E : nextS 1 4 = 2 := by decide
      rw [E]
      clear E
      go_enter Try.func40, Try.ntmps40
      go_wp2_with (first | (go_at_call 90; go_in) | fail)
      go_ret
      exact ⟨rfl, rfl⟩
    · have b1 := beq_no h1; have b2 := beq_no h2; have b3 := beq_no h3; have b4 := beq_no h4
      have E : nextS (1) v = 1 := by unfold nextS; (repeat' split) <;> first | rfl | omega
      rw [E]
      clear E h1 h2 h3 h4
      go_enter Try.func40, Try.ntmps40
      go_wp2_with (first | (go_at_call 90; go_in) | fail)
      go_ret
      exact ⟨rfl, rfl⟩
  · rcases w_cases v with rfl | rfl | rfl | rfl | ⟨h1, h2, h3, h4⟩
    · skip
      have E : nextS 2 1 = 2 := by decide
      rw [E]
      clear E
      go_enter Try.func40, Try.ntmps40
      go_wp2_with (first | (go_at_call 90; go_in) | fail)
      go_ret
      exact ⟨rfl, rfl⟩
    · skip
      have E : nextS 2 2 = 0 := by decide
      rw [E]
      clear E
      go_enter Try.func40, Try.ntmps40
      go_wp2_with (first | (go_at_call 90; go_in) | fail)
      go_ret
      exact ⟨rfl, rfl⟩
    · skip
      have E : nextS 2 3 = 0 := by decide
      rw [E]
      clear E
      go_enter Try.func40, Try.ntmps40
      go_wp2_with (first | (go_at_call 90; go_in) | fail)
      go_ret
      exact ⟨rfl, rfl⟩
    · skip
      have E : nextS 2 4 = 2 := by decide
      rw [E]
      clear E
      go_enter Try.func40, Try.ntmps40
      go_wp2_with (first | (go_at_call 90; go_in) | fail)
      go_ret
      exact ⟨rfl, rfl⟩
    · have b1 := beq_no h1; have b2 := beq_no h2; have b3 := beq_no h3; have b4 := beq_no h4
      have E : nextS (2) v = 2 := by unfold nextS; (repeat' split) <;> first | rfl | omega
      rw [E]
      clear E h1 h2 h3 h4
      go_enter Try.func40, Try.ntmps40
      go_wp2_with (first | (go_at_call 90; go_in) | fail)
      go_ret
      exact ⟨rfl, rfl⟩
  · rcases w_cases v with rfl | rfl | rfl | rfl | ⟨h1, h2, h3, h4⟩
    · skip
      have a0 := beq_no s0; have a1 := beq_no s1; have a2 := beq_no s2
      have E : nextS (st) 1 = 0 := by unfold nextS; (repeat' split) <;> first | rfl | omega
      rw [E]
      clear E s0 s1 s2
      go_enter Try.func40, Try.ntmps40
      go_wp2_with (first | (go_at_call 90; go_in) | fail)
      go_ret
      exact ⟨rfl, rfl⟩
    · skip
      have a0 := beq_no s0; have a1 := beq_no s1; have a2 := beq_no s2
      have E : nextS (st) 2 = 0 := by unfold nextS; (repeat' split) <;> first | rfl | omega
      rw [E]
      clear E s0 s1 s2
      go_enter Try.func40, Try.ntmps40
      go_wp2_with (first | (go_at_call 90; go_in) | fail)
      go_ret
      exact ⟨rfl, rfl⟩
    · skip
      have a0 := beq_no s0; have a1 := beq_no s1; have a2 := beq_no s2
      have E : nextS (st) 3 = 0 := by unfold nextS; (repeat' split) <;> first | rfl | omega
      rw [E]
      clear E s0 s1 s2
      go_enter Try.func40, Try.ntmps40
      go_wp2_with (first | (go_at_call 90; go_in) | fail)
      go_ret
      exact ⟨rfl, rfl⟩
    · skip
      have a0 := beq_no s0; have a1 := beq_no s1; have a2 := beq_no s2
      have E : nextS (st) 4 = 0 := by unfold nextS; (repeat' split) <;> first | rfl | omega
      rw [E]
      clear E s0 s1 s2
      go_enter Try.func40, Try.ntmps40
      go_wp2_with (first | (go_at_call 90; go_in) | fail)
      go_ret
      exact ⟨rfl, rfl⟩
    · have b1 := beq_no h1; have b2 := beq_no h2; have b3 := beq_no h3; have b4 := beq_no h4
      have a0 := beq_no s0; have a1 := beq_no s1; have a2 := beq_no s2
      have E : nextS (st) v = 0 := by unfold nextS; (repeat' split) <;> first | rfl | omega
      rw [E]
      clear E h1 h2 h3 h4 s0 s1 s2
      go_enter Try.func40, Try.ntmps40
      go_wp2_with (first | (go_at_call 90; go_in) | fail)
      go_ret
      exact ⟨rfl, rfl⟩

set_option maxHeartbeats 4000000 in
theorem nextStS_any (st v : Int) (w : World) : Calls Try.prog 85 #[.int .i64 st, .int .i64 v] w fun e w' => e = .returned (.int .i64 (nextS st v)) ∧ w = w' := by
  rcases st_cases st with rfl | rfl | rfl | ⟨s0, s1, s2⟩
  · rcases w_cases v with rfl | rfl | rfl | rfl | ⟨h1, h2, h3, h4⟩
    · skip
      have E : nextS 0 1 = 1 := by decide
      rw [E]
      clear E
      go_enter Try.func85, Try.ntmps85
      go_wp2_with fail
      go_ret
      exact ⟨rfl, rfl⟩
    · skip
      have E : nextS 0 2 = 0 := by decide
      rw [E]
      clear E
      go_enter Try.func85, Try.ntmps85
      go_wp2_with fail
      go_ret
      exact ⟨rfl, rfl⟩
    · skip
      have E : nextS 0 3 = 0 := by decide
      rw [E]
      clear E
      go_enter Try.func85, Try.ntmps85
      go_wp2_with fail
      go_ret
      exact ⟨rfl, rfl⟩
    · skip
      have E : nextS 0 4 = 0 := by decide
      rw [E]
      clear E
      go_enter Try.func85, Try.ntmps85
      go_wp2_with fail
      go_ret
      exact ⟨rfl, rfl⟩
    · have b1 := beq_no h1; have b2 := beq_no h2; have b3 := beq_no h3; have b4 := beq_no h4
      have E : nextS (0) v = 0 := by unfold nextS; (repeat' split) <;> first | rfl | omega
      rw [E]
      clear E h1 h2 h3 h4
      go_enter Try.func85, Try.ntmps85
      go_wp2_with fail
      go_ret
      exact ⟨rfl, rfl⟩
  · rcases w_cases v with rfl | rfl | rfl | rfl | ⟨h1, h2, h3, h4⟩
    · skip
      have E : nextS 1 1 = 1 := by decide
      rw [E]
      clear E
      go_enter Try.func85, Try.ntmps85
      go_wp2_with fail
      go_ret
      exact ⟨rfl, rfl⟩
    · skip
      have E : nextS 1 2 = 0 := by decide
      rw [E]
      clear E
      go_enter Try.func85, Try.ntmps85
      go_wp2_with fail
      go_ret
      exact ⟨rfl, rfl⟩
    · skip
      have E : nextS 1 3 = 0 := by decide
      rw [E]
      clear E
      go_enter Try.func85, Try.ntmps85
      go_wp2_with fail
      go_ret
      exact ⟨rfl, rfl⟩
    · skip
      have E : nextS 1 4 = 2 := by decide
      rw [E]
      clear E
      go_enter Try.func85, Try.ntmps85
      go_wp2_with fail
      go_ret
      exact ⟨rfl, rfl⟩
    · have b1 := beq_no h1; have b2 := beq_no h2; have b3 := beq_no h3; have b4 := beq_no h4
      have E : nextS (1) v = 1 := by unfold nextS; (repeat' split) <;> first | rfl | omega
      rw [E]
      clear E h1 h2 h3 h4
      go_enter Try.func85, Try.ntmps85
      go_wp2_with fail
      go_ret
      exact ⟨rfl, rfl⟩
  · rcases w_cases v with rfl | rfl | rfl | rfl | ⟨h1, h2, h3, h4⟩
    · skip
      have E : nextS 2 1 = 2 := by decide
      rw [E]
      clear E
      go_enter Try.func85, Try.ntmps85
      go_wp2_with fail
      go_ret
      exact ⟨rfl, rfl⟩
    · skip
      have E : nextS 2 2 = 0 := by decide
      rw [E]
      clear E
      go_enter Try.func85, Try.ntmps85
      go_wp2_with fail
      go_ret
      exact ⟨rfl, rfl⟩
    · skip
      have E : nextS 2 3 = 0 := by decide
      rw [E]
      clear E
      go_enter Try.func85, Try.ntmps85
      go_wp2_with fail
      go_ret
      exact ⟨rfl, rfl⟩
    · skip
      have E : nextS 2 4 = 2 := by decide
      rw [E]
      clear E
      go_enter Try.func85, Try.ntmps85
      go_wp2_with fail
      go_ret
      exact ⟨rfl, rfl⟩
    · have b1 := beq_no h1; have b2 := beq_no h2; have b3 := beq_no h3; have b4 := beq_no h4
      have E : nextS (2) v = 2 := by unfold nextS; (repeat' split) <;> first | rfl | omega
      rw [E]
      clear E h1 h2 h3 h4
      go_enter Try.func85, Try.ntmps85
      go_wp2_with fail
      go_ret
      exact ⟨rfl, rfl⟩
  · rcases w_cases v with rfl | rfl | rfl | rfl | ⟨h1, h2, h3, h4⟩
    · skip
      have a0 := beq_no s0; have a1 := beq_no s1; have a2 := beq_no s2
      have E : nextS (st) 1 = 0 := by unfold nextS; (repeat' split) <;> first | rfl | omega
      rw [E]
      clear E s0 s1 s2
      go_enter Try.func85, Try.ntmps85
      go_wp2_with fail
      go_ret
      exact ⟨rfl, rfl⟩
    · skip
      have a0 := beq_no s0; have a1 := beq_no s1; have a2 := beq_no s2
      have E : nextS (st) 2 = 0 := by unfold nextS; (repeat' split) <;> first | rfl | omega
      rw [E]
      clear E s0 s1 s2
      go_enter Try.func85, Try.ntmps85
      go_wp2_with fail
      go_ret
      exact ⟨rfl, rfl⟩
    · skip
      have a0 := beq_no s0; have a1 := beq_no s1; have a2 := beq_no s2
      have E : nextS (st) 3 = 0 := by unfold nextS; (repeat' split) <;> first | rfl | omega
      rw [E]
      clear E s0 s1 s2
      go_enter Try.func85, Try.ntmps85
      go_wp2_with fail
      go_ret
      exact ⟨rfl, rfl⟩
    · skip
      have a0 := beq_no s0; have a1 := beq_no s1; have a2 := beq_no s2
      have E : nextS (st) 4 = 0 := by unfold nextS; (repeat' split) <;> first | rfl | omega
      rw [E]
      clear E s0 s1 s2
      go_enter Try.func85, Try.ntmps85
      go_wp2_with fail
      go_ret
      exact ⟨rfl, rfl⟩
    · have b1 := beq_no h1; have b2 := beq_no h2; have b3 := beq_no h3; have b4 := beq_no h4
      have a0 := beq_no s0; have a1 := beq_no s1; have a2 := beq_no s2
      have E : nextS (st) v = 0 := by unfold nextS; (repeat' split) <;> first | rfl | omega
      rw [E]
      clear E h1 h2 h3 h4 s0 s1 s2
      go_enter Try.func85, Try.ntmps85
      go_wp2_with fail
      go_ret
      exact ⟨rfl, rfl⟩

end Go.Proofs.Ytcelkmphdeaaeaa
