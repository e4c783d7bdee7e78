/- Sockets of the program: when one is right. (By gen_socki.py.) -/
import Derived.Test.YtcelkmphdeaaeaaSockS
namespace Go.Proofs.Ytcelkmphdeaaeaa
open Go.RowKit
set_option maxRecDepth 100000
set_option linter.unusedVariables false

theorem skB_alt (x : Sk) : skB x = (inI x.id 1 9999 && (inI x.hold 1 3 && (decide ((x.inn.length : Int) ≤ 240) && (if (x.kind == 1) = true then (x.st == 0) && (x.done == 0) else if (x.kind == 2) = true then inI x.st 0 2 && inI x.done 0 (x.out.length : Int) else false)))) := by
  unfold skB
  by_cases h1 : x.kind = 1
  · have e1 : (x.kind == 1) = true := by simp [h1]
    have e2 : inI x.kind 1 2 = true := by unfold inI; simp [h1]
    rw [e1, e2]; simp
  · have e1 : (x.kind == 1) = false := by simp [h1]
    by_cases h2 : x.kind = 2
    · have e3 : (x.kind == 2) = true := by simp [h2]
      have e2 : inI x.kind 1 2 = true := by unfold inI; simp [h2]
      rw [e1, e2, e3]; simp
    · have e3 : (x.kind == 2) = false := by simp [h2]
      have e2 : inI x.kind 1 2 = false := by unfold inI; simp; omega
      rw [e1, e2, e3]; simp

set_option maxHeartbeats 4000000 in
theorem sockOk_any (cs : List Value) (x : Sk) (w : World) (h : skR.at_ w w.heap.size cs x) :
    Calls Try.prog 24 #[.agg cs.toArray] w fun e w' => e = .returned (.bool (skB x)) ∧ Below w.heap.size w w' := by
  obtain ⟨A4, c4, A5, c5, rfl, hc4, _, hc5, _⟩ := sk_cells h
  have hl4 : x.inn.length ≤ 9223372036854775807 := Nat.le_trans hc4.1 hc4.2
  have hl5 : x.out.length ≤ 9223372036854775807 := Nat.le_trans hc5.1 hc5.2
  clear h hc4 hc5
  obtain ⟨b0, h0⟩ : ∃ b, inI x.id 1 9999 = b := ⟨_, rfl⟩
  obtain ⟨b2, h2⟩ : ∃ b, inI x.hold 1 3 = b := ⟨_, rfl⟩
  obtain ⟨b3, h3⟩ : ∃ b, decide ((x.inn.length : Int) ≤ 240) = b := ⟨_, rfl⟩
  obtain ⟨k1, h4⟩ : ∃ b, (x.kind == 1) = b := ⟨_, rfl⟩
  obtain ⟨k2, h4'⟩ : ∃ b, (x.kind == 2) = b := ⟨_, rfl⟩
  obtain ⟨s0, h5⟩ : ∃ b, (x.st == 0) = b := ⟨_, rfl⟩
  obtain ⟨d0, h6⟩ : ∃ b, (x.done == 0) = b := ⟨_, rfl⟩
  obtain ⟨i4, h7⟩ : ∃ b, inI x.st 0 2 = b := ⟨_, rfl⟩
  obtain ⟨i5, h8⟩ : ∃ b, inI x.done 0 (x.out.length : Int) = b := ⟨_, rfl⟩
  have HC := Lib.hid (show skB x = (b0 && (b2 && (b3 && (if k1 = true then s0 && d0 else if k2 = true then i4 && i5 else false)))) by
    rw [skB_alt, h0, h2, h3, h4, h4', h5, h6, h7, h8])
  cases b0
  · skip
    go_enter Try.func24, Try.ntmps24
    go_wp2_with (go_at_call 73; refine (within_b (by assumption) _).mono ?_; rintro e w' ⟨rfl, rfl⟩)
    go_ret
    exact ⟨by rw [HC.out]; simp, Later.alloc w _⟩
  · skip
    cases b2
    · skip
      go_enter Try.func24, Try.ntmps24
      go_wp2_with (go_at_call 73; refine (within_b (by assumption) _).mono ?_; rintro e w' ⟨rfl, rfl⟩)
      go_ret
      exact ⟨by rw [HC.out]; simp, Later.alloc w _⟩
    · skip
      cases b3
      · skip
        have hl : 240 < (x.inn.length : Int) := by have := of_decide_eq_false h3; omega
        clear h3
        go_enter Try.func24, Try.ntmps24
        go_wp2_with (go_at_call 73; refine (within_b (by assumption) _).mono ?_; rintro e w' ⟨rfl, rfl⟩)
        go_ret
        exact ⟨by rw [HC.out]; simp, Later.alloc w _⟩
      · skip
        have hl : ¬ 240 < (x.inn.length : Int) := by have := of_decide_eq_true h3; omega
        clear h3
        cases k1
        · skip
          cases k2
          · skip
            go_enter Try.func24, Try.ntmps24
            go_wp2_with (go_at_call 73; refine (within_b (by assumption) _).mono ?_; rintro e w' ⟨rfl, rfl⟩)
            go_ret
            exact ⟨by rw [HC.out]; simp, Later.alloc w _⟩
          · skip
            cases i4
            · skip
              go_enter Try.func24, Try.ntmps24
              go_wp2_with (go_at_call 73; refine (within_b (by assumption) _).mono ?_; rintro e w' ⟨rfl, rfl⟩)
              go_ret
              exact ⟨by rw [HC.out]; simp, Later.alloc w _⟩
            · skip
              cases i5
              · skip
                go_enter Try.func24, Try.ntmps24
                go_wp2_with (go_at_call 73; refine (within_b (by assumption) _).mono ?_; rintro e w' ⟨rfl, rfl⟩)
                go_ret
                exact ⟨by rw [HC.out]; simp, Later.alloc w _⟩
              · skip
                go_enter Try.func24, Try.ntmps24
                go_wp2_with (go_at_call 73; refine (within_b (by assumption) _).mono ?_; rintro e w' ⟨rfl, rfl⟩)
                go_ret
                exact ⟨by rw [HC.out]; simp, Later.alloc w _⟩
        · skip
          cases s0
          · skip
            go_enter Try.func24, Try.ntmps24
            go_wp2_with (go_at_call 73; refine (within_b (by assumption) _).mono ?_; rintro e w' ⟨rfl, rfl⟩)
            go_ret
            exact ⟨by rw [HC.out]; simp, Later.alloc w _⟩
          · skip
            cases d0
            · skip
              go_enter Try.func24, Try.ntmps24
              go_wp2_with (go_at_call 73; refine (within_b (by assumption) _).mono ?_; rintro e w' ⟨rfl, rfl⟩)
              go_ret
              exact ⟨by rw [HC.out]; simp, Later.alloc w _⟩
            · skip
              go_enter Try.func24, Try.ntmps24
              go_wp2_with (go_at_call 73; refine (within_b (by assumption) _).mono ?_; rintro e w' ⟨rfl, rfl⟩)
              go_ret
              exact ⟨by rw [HC.out]; simp, Later.alloc w _⟩

end Go.Proofs.Ytcelkmphdeaaeaa
