/- Frames of the program: each kind behind an interface. -/
import Derived.Test.YtcelkmphdeaaeaaFrame
import Derived.Test.YtcelkmphdeaaeaaMsg
import Derived.Handy
namespace Go.Proofs.Ytcelkmphdeaaeaa
open Go.RowKit
set_option linter.unusedVariables false

def msgV (f : Fr) : Value :=
  if f.k = 1 then .iface 125 (.string f.s)
  else if f.k = 2 then .iface 126 (.string f.s)
  else if f.k = 3 then .iface 98 (.agg #[])
  else if f.k = 4 then .iface 127 (.string f.s)
  else if f.k = 5 then .iface 99 (.int .i64 f.st)
  else if f.k = 6 then .iface 128 (.string f.s)
  else .nilIface
def isK (f : Fr) : Bool := decide (1 ≤ f.k ∧ f.k ≤ 6)

set_option maxHeartbeats 4000000 in
theorem messageOf_any (f : Fr) (w : World) : Calls Try.prog 96 #[.agg (frC f).toArray] w fun e w' => e = .returned (.tuple #[msgV f, .bool (isK f)]) ∧ Below w.heap.size w w' := by
  obtain ⟨k, s, st⟩ := f
  unfold frC
  rcases kinds k with rfl | rfl | rfl | rfl | rfl | rfl | h
  · go_enter Try.func96, Try.ntmps96
    go_wp2
    go_ret2
    exact ⟨rfl, Later.alloc w _⟩
  · go_enter Try.func96, Try.ntmps96
    go_wp2
    go_ret2
    exact ⟨rfl, Later.alloc w _⟩
  · go_enter Try.func96, Try.ntmps96
    go_wp2
    go_ret2
    exact ⟨rfl, Later.alloc w _⟩
  · go_enter Try.func96, Try.ntmps96
    go_wp2
    go_ret2
    exact ⟨rfl, Later.alloc w _⟩
  · go_enter Try.func96, Try.ntmps96
    go_wp2
    go_ret2
    exact ⟨rfl, Later.alloc w _⟩
  · go_enter Try.func96, Try.ntmps96
    go_wp2
    go_ret2
    exact ⟨rfl, Later.alloc w _⟩
  · have hm : msgV ⟨k, s, st⟩ = .nilIface := by unfold msgV; rw [if_neg (by simp; omega), if_neg (by simp; omega), if_neg (by simp; omega), if_neg (by simp; omega), if_neg (by simp; omega), if_neg (by simp; omega)]
    have hb : isK ⟨k, s, st⟩ = false := by unfold isK; simp; omega
    rw [hm, hb]
    have t1 : (k == 1) = false := by simp; omega
    have t2 : (k == 2) = false := by simp; omega
    have t3 : (k == 3) = false := by simp; omega
    have t4 : (k == 4) = false := by simp; omega
    have t5 : (k == 5) = false := by simp; omega
    have t6 : (k == 6) = false := by simp; omega
    clear hm hb h
    go_enter Try.func96, Try.ntmps96
    go_wp2
    go_ret2
    exact ⟨rfl, Later.alloc w _⟩

def outF (f : Fr) : Fr := if f.k = 5 then ⟨5, ⟨#[]⟩, f.st⟩ else if f.k = 3 then ⟨3, ⟨#[]⟩, 0⟩ else if 1 ≤ f.k ∧ f.k ≤ 6 then ⟨f.k, f.s, 0⟩ else zeroFr

set_option maxHeartbeats 4000000 in
theorem frameOf_any (f : Fr) (w : World) : Calls Try.prog 97 #[msgV f] w fun e w' => e = .returned (.agg (frC (outF f)).toArray) ∧ Below w.heap.size w w' := by
  obtain ⟨k, s, st⟩ := f
  rcases kinds k with rfl | rfl | rfl | rfl | rfl | rfl | h
  · show Calls Try.prog 97 #[.iface 125 (.string s)] w _
    have a1 := Try.as_1_1 (.string s)
    have a2 := Try.as_1_2 (.string s)
    have a3 := Try.as_1_3 (.string s)
    have a4 := Try.as_1_4 (.string s)
    have a5 := Try.as_1_5 (.string s)
    have a6 := Try.as_1_6 (.string s)
    go_enter Try.func97, Try.ntmps97
    go_wp2_with fail
    go_returns
    exact ⟨rfl, by go_grown⟩
  · show Calls Try.prog 97 #[.iface 126 (.string s)] w _
    have a1 := Try.as_2_1 (.string s)
    have a2 := Try.as_2_2 (.string s)
    have a3 := Try.as_2_3 (.string s)
    have a4 := Try.as_2_4 (.string s)
    have a5 := Try.as_2_5 (.string s)
    have a6 := Try.as_2_6 (.string s)
    go_enter Try.func97, Try.ntmps97
    go_wp2_with fail
    go_returns
    exact ⟨rfl, by go_grown⟩
  · show Calls Try.prog 97 #[.iface 98 (.agg #[])] w _
    have a1 := Try.as_3_1 (.agg #[])
    have a2 := Try.as_3_2 (.agg #[])
    have a3 := Try.as_3_3 (.agg #[])
    have a4 := Try.as_3_4 (.agg #[])
    have a5 := Try.as_3_5 (.agg #[])
    have a6 := Try.as_3_6 (.agg #[])
    go_enter Try.func97, Try.ntmps97
    go_wp2_with fail
    go_returns
    exact ⟨rfl, by go_grown⟩
  · show Calls Try.prog 97 #[.iface 127 (.string s)] w _
    have a1 := Try.as_4_1 (.string s)
    have a2 := Try.as_4_2 (.string s)
    have a3 := Try.as_4_3 (.string s)
    have a4 := Try.as_4_4 (.string s)
    have a5 := Try.as_4_5 (.string s)
    have a6 := Try.as_4_6 (.string s)
    go_enter Try.func97, Try.ntmps97
    go_wp2_with fail
    go_returns
    exact ⟨rfl, by go_grown⟩
  · show Calls Try.prog 97 #[.iface 99 (.int .i64 st)] w _
    have a1 := Try.as_5_1 (.int .i64 st)
    have a2 := Try.as_5_2 (.int .i64 st)
    have a3 := Try.as_5_3 (.int .i64 st)
    have a4 := Try.as_5_4 (.int .i64 st)
    have a5 := Try.as_5_5 (.int .i64 st)
    have a6 := Try.as_5_6 (.int .i64 st)
    go_enter Try.func97, Try.ntmps97
    go_wp2_with fail
    go_returns
    exact ⟨rfl, by go_grown⟩
  · show Calls Try.prog 97 #[.iface 128 (.string s)] w _
    have a1 := Try.as_6_1 (.string s)
    have a2 := Try.as_6_2 (.string s)
    have a3 := Try.as_6_3 (.string s)
    have a4 := Try.as_6_4 (.string s)
    have a5 := Try.as_6_5 (.string s)
    have a6 := Try.as_6_6 (.string s)
    go_enter Try.func97, Try.ntmps97
    go_wp2_with fail
    go_returns
    exact ⟨rfl, by go_grown⟩
  · have hm : msgV ⟨k, s, st⟩ = .nilIface := by unfold msgV; rw [if_neg (by simp; omega), if_neg (by simp; omega), if_neg (by simp; omega), if_neg (by simp; omega), if_neg (by simp; omega), if_neg (by simp; omega)]
    have ho : outF ⟨k, s, st⟩ = zeroFr := by unfold outF; rw [if_neg (by simp; omega), if_neg (by simp; omega), if_neg (by simp; omega)]
    rw [hm, ho]
    clear hm ho h
    have a1 := Try.as_0_1
    have a2 := Try.as_0_2
    have a3 := Try.as_0_3
    have a4 := Try.as_0_4
    have a5 := Try.as_0_5
    have a6 := Try.as_0_6
    go_enter Try.func97, Try.ntmps97
    go_wp2_with fail
    go_returns
    exact ⟨rfl, by go_grown⟩

end Go.Proofs.Ytcelkmphdeaaeaa
