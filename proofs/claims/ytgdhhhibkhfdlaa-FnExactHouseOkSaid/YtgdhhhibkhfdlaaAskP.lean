/- AskerOk of the program and of the model. (By gen_l9a.py.) -/
import Derived.Test.YtgdhhhibkhfdlaaFLAsker
import Derived.Test.YtgdhhhibkhfdlaaRet
import Derived.Test.YtgdhhhibkhfdlaaName
import Derived.Test.YtgdhhhibkhfdlaaText
namespace Go.Proofs.Ytgdhhhibkhfdlaa
open Go.RowKit
set_option linter.unusedVariables false

theorem st5 (s : Int) : s = 0 ∨ s = 1 ∨ s = 2 ∨ s = 3 ∨ s = 4 ∨ ((s == 0) = false ∧ (s == 1) = false ∧ (s == 2) = false ∧ (s == 3) = false ∧ (s == 4) = false ∧ (s != 0) = true ∧ (s != 2) = true) := by
  by_cases h0 : s = 0; · exact .inl h0
  by_cases h1 : s = 1; · exact .inr (.inl h1)
  by_cases h2 : s = 2; · exact .inr (.inr (.inl h2))
  by_cases h3 : s = 3; · exact .inr (.inr (.inr (.inl h3)))
  by_cases h4 : s = 4; · exact .inr (.inr (.inr (.inr (.inl h4))))
  exact .inr (.inr (.inr (.inr (.inr ⟨by simpa using h0, by simpa using h1, by simpa using h2, by simpa using h3, by simpa using h4, by simpa using h0, by simpa using h2⟩))))
theorem sockNumOk_any (n : Int) (w : World) : Calls Try.prog 106 #[.int .i64 n] w fun e w' => e = .returned (.bool (inI n 1 9999)) ∧ w = w' := by
  go_enter Try.func106, Try.ntmps106
  go_wp2_with fail
  refine (within_b (b := inI n 1 9999) rfl _).mono ?_
  rintro e w1 ⟨rfl, rfl⟩
  go_wp2_with fail
  go_ret
  exact ⟨rfl, rfl⟩
theorem timeOk_any (n : Int) (w : World) : Calls Try.prog 108 #[.int .i64 n] w fun e w' => e = .returned (.bool (inI n 0 100000)) ∧ w = w' := by
  go_enter Try.func108, Try.ntmps108
  go_wp2_with fail
  refine (within_b (b := inI n 0 100000) rfl _).mono ?_
  rintro e w1 ⟨rfl, rfl⟩
  go_wp2_with fail
  go_ret
  exact ⟨rfl, rfl⟩
theorem l9Time_any (n : Int) (w : World) : Calls Try.prog 111 #[.int .i64 n] w fun e w' => e = .returned (.bool (inI n 0 100000)) ∧ w = w' := by
  go_enter Try.func111, Try.ntmps111
  go_wp2_with fail
  refine (l1In_b (b := inI n 0 100000) rfl _).mono ?_
  rintro e w1 ⟨rfl, rfl⟩
  go_wp2_with fail
  go_ret
  exact ⟨rfl, rfl⟩
theorem empty_of {q : ByteArray} (h : q.toList = []) : q = ⟨#[]⟩ := list_bytes (a := q) (b := ⟨#[]⟩) (by rw [h, ByteArray.toList_mk]; rfl)

def akB (x : Ak) : Bool := inI x.sock 1 9999 && (
  if x.st = 0 then akEqB x ⟨x.sock, ⟨#[]⟩, 0, 0, 0, ⟨#[]⟩, 0, 0⟩
  else nameB x.db.data.toList && (
  if x.st = 1 then akEqB x ⟨x.sock, x.db, 1, 0, 0, ⟨#[]⟩, 0, 0⟩
  else if x.st = 2 then inI x.ticket 0 65535 && (inI x.since 0 100000 && (okB x.q.data.toList && akEqB x ⟨x.sock, x.db, 2, x.ticket, x.since, x.q, 0, 0⟩))
  else if x.st = 3 then inI x.line 1 9999 && (decide (1 ≤ x.lease) && akEqB x ⟨x.sock, x.db, 3, 0, 0, ⟨#[]⟩, x.line, x.lease⟩)
  else if x.st = 4 then inI x.line 1 9999 && (decide (1 ≤ x.lease) && akEqB x ⟨x.sock, x.db, 4, 0, 0, ⟨#[]⟩, x.line, x.lease⟩)
  else false))


end Go.Proofs.Ytgdhhhibkhfdlaa
