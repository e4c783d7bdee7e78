/- Sockets of the model: when one is right; copies. -/
import Derived.Test.YtcelkmphdeaaeaaNLSock
import Derived.Test.YtcelkmphdeaaeaaRet
namespace Go.Proofs.Ytcelkmphdeaaeaa
open Go.RowKit
set_option maxRecDepth 100000
set_option linter.unusedVariables false

/-- Whether a socket is right. -/
def skB (x : Sk) : Bool := inI x.id 1 9999 && (inI x.kind 1 2 && (inI x.hold 1 3 && (decide ((x.inn.length : Int) ≤ 240) && (if (x.kind == 1) = true then (x.st == 0) && (x.done == 0) else inI x.st 0 2 && inI x.done 0 (x.out.length : Int)))))

set_option maxHeartbeats 4000000 in
theorem sockOkS_any (cs : List Value) (x : Sk) (w : World) (h : skR.at_ w w.heap.size cs x) :
    Calls Try.prog 25 #[.agg cs.toArray] w fun e w' => e = .returned (.bool (skB x)) ∧ Below w.heap.size w w' := by
  obtain ⟨A4, c4, A5, c5, rfl, hc4, _, hc5, _⟩ := sk_cells h
  have hl4 : x.inn.length ≤ 9223372036854775807 := Nat.le_trans hc4.1 hc4.2
  have hl5 : x.out.length ≤ 9223372036854775807 := Nat.le_trans hc5.1 hc5.2
  clear h hc4 hc5
  obtain ⟨b0, h0⟩ : ∃ b, inI x.id 1 9999 = b := ⟨_, rfl⟩
  obtain ⟨b1, h1⟩ : ∃ b, inI x.kind 1 2 = b := ⟨_, rfl⟩
  obtain ⟨b2, h2⟩ : ∃ b, inI x.hold 1 3 = b := ⟨_, rfl⟩
  obtain ⟨b3, h3⟩ : ∃ b, decide ((x.inn.length : Int) ≤ 240) = b := ⟨_, rfl⟩
  obtain ⟨kk, h4⟩ : ∃ b, (x.kind == 1) = b := ⟨_, rfl⟩
  obtain ⟨s0, h5⟩ : ∃ b, (x.st == 0) = b := ⟨_, rfl⟩
  obtain ⟨d0, h6⟩ : ∃ b, (x.done == 0) = b := ⟨_, rfl⟩
  obtain ⟨i4, h7⟩ : ∃ b, inI x.st 0 2 = b := ⟨_, rfl⟩
  obtain ⟨i5, h8⟩ : ∃ b, inI x.done 0 (x.out.length : Int) = b := ⟨_, rfl⟩
  have HC := Lib.hid (show skB x = (b0 && (b1 && (b2 && (b3 && (if kk = true then s0 && d0 else i4 && i5))))) by
    unfold skB; rw [h0, h1, h2, h3, h4, h5, h6, h7, h8])
  cases b0
  · go_enter Try.func25, Try.ntmps25
    go_wp2_with (go_at_call 74; refine (l1In_b (by assumption) _).mono ?_; rintro e w' ⟨rfl, rfl⟩)
    go_ret
    exact ⟨by rw [HC.out]; simp, Later.alloc w _⟩
  · cases b1
    · go_enter Try.func25, Try.ntmps25
      go_wp2_with (go_at_call 74; refine (l1In_b (by assumption) _).mono ?_; rintro e w' ⟨rfl, rfl⟩)
      go_ret
      exact ⟨by rw [HC.out]; simp, Later.alloc w _⟩
    · cases b2
      · go_enter Try.func25, Try.ntmps25
        go_wp2_with (go_at_call 74; refine (l1In_b (by assumption) _).mono ?_; rintro e w' ⟨rfl, rfl⟩)
        go_ret
        exact ⟨by rw [HC.out]; simp, Later.alloc w _⟩
      · cases b3
        · have hl : 240 < (x.inn.length : Int) := by have := of_decide_eq_false h3; omega
          clear h3
          go_enter Try.func25, Try.ntmps25
          go_wp2_with (go_at_call 74; refine (l1In_b (by assumption) _).mono ?_; rintro e w' ⟨rfl, rfl⟩)
          go_ret
          exact ⟨by rw [HC.out]; simp, Later.alloc w _⟩
        · have hl : ¬ 240 < (x.inn.length : Int) := by have := of_decide_eq_true h3; omega
          clear h3
          cases kk
          · cases i4
            · go_enter Try.func25, Try.ntmps25
              go_wp2_with (go_at_call 74; refine (l1In_b (by assumption) _).mono ?_; rintro e w' ⟨rfl, rfl⟩)
              go_ret
              exact ⟨by rw [HC.out]; simp, Later.alloc w _⟩
            · cases i5
              · go_enter Try.func25, Try.ntmps25
                go_wp2_with (go_at_call 74; refine (l1In_b (by assumption) _).mono ?_; rintro e w' ⟨rfl, rfl⟩)
                go_ret
                exact ⟨by rw [HC.out]; simp, Later.alloc w _⟩
              · go_enter Try.func25, Try.ntmps25
                go_wp2_with (go_at_call 74; refine (l1In_b (by assumption) _).mono ?_; rintro e w' ⟨rfl, rfl⟩)
                go_ret
                exact ⟨by rw [HC.out]; simp, Later.alloc w _⟩
          · cases s0
            · go_enter Try.func25, Try.ntmps25
              go_wp2_with (go_at_call 74; refine (l1In_b (by assumption) _).mono ?_; rintro e w' ⟨rfl, rfl⟩)
              go_ret
              exact ⟨by rw [HC.out]; simp, Later.alloc w _⟩
            · cases d0
              · go_enter Try.func25, Try.ntmps25
                go_wp2_with (go_at_call 74; refine (l1In_b (by assumption) _).mono ?_; rintro e w' ⟨rfl, rfl⟩)
                go_ret
                exact ⟨by rw [HC.out]; simp, Later.alloc w _⟩
              · go_enter Try.func25, Try.ntmps25
                go_wp2_with (go_at_call 74; refine (l1In_b (by assumption) _).mono ?_; rintro e w' ⟨rfl, rfl⟩)
                go_ret
                exact ⟨by rw [HC.out]; simp, Later.alloc w _⟩

end Go.Proofs.Ytcelkmphdeaaeaa
