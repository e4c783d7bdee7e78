/- A valid proxy, in plain facts. -/
import Derived.Test.YtgdhhhibkhfdlaaRHouse
import Derived.Test.YtgdhhhibkhfdlaaAskRep
import Derived.Test.YtgdhhhibkhfdlaaAtAsker
import Derived.Test.YtgdhhhibkhfdlaaAtLine
import Derived.Test.YtgdhhhibkhfdlaaConfOkI
import Derived.Test.YtgdhhhibkhfdlaaHeapP
namespace Go.Proofs.Ytgdhhhibkhfdlaa
open Go.RowKit
set_option linter.unusedVariables false

noncomputable def pB (p : Prop) : Bool := @decide p (Classical.propDecidable p)
theorem pB_yes {p : Prop} (h : p) : pB p = true := by unfold pB; exact @decide_eq_true p (Classical.propDecidable p) h
theorem pB_no {p : Prop} (h : ¬ p) : pB p = false := by unfold pB; exact @decide_eq_false p (Classical.propDecidable p) h
theorem pB_true {p : Prop} (h : pB p = true) : p := by unfold pB at h; exact @of_decide_eq_true p (Classical.propDecidable p) h
theorem pB_of {p : Prop} {b : Bool} (h : b = true ↔ p) : pB p = b := by
  cases b
  · exact pB_no (fun hp => by have := h.2 hp; cases this)
  · exact pB_yes (h.1 rfl)
theorem pB_iff {p q : Prop} (h : p ↔ q) : pB p = pB q := by
  by_cases hp : p
  · rw [pB_yes hp, pB_yes (h.1 hp)]
  · rw [pB_no hp, pB_no (fun hq => hp (h.2 hq))]

/-! ### the first element of a number -/
theorem lnF_cases (id : Int) : ∀ (xs : List Ln) (k : Nat), (lnF id xs k = -1 ∧ ∀ y, y ∈ xs → y.sock ≠ id) ∨ ∃ i y, xs[i]? = some y ∧ y.sock = id ∧ lnF id xs k = ((k + i : Nat) : Int) := by
  intro xs
  induction xs with
  | nil => intro k; exact .inl ⟨rfl, fun y hy => by cases hy⟩
  | cons x xs ih =>
    intro k
    by_cases h : x.sock = id
    · exact .inr ⟨0, x, rfl, h, by simp [lnF, h]⟩
    · have e : lnF id (x :: xs) k = lnF id xs (k + 1) := by simp [lnF, h]
      rw [e]
      rcases ih (k + 1) with ⟨h1, h2⟩ | ⟨i, y, h1, h2, h3⟩
      · exact .inl ⟨h1, fun y hy => by rcases List.mem_cons.1 hy with rfl | hy; exact h; exact h2 y hy⟩
      · exact .inr ⟨i + 1, y, by simpa using h1, h2, by rw [h3]; congr 1; omega⟩
theorem lnAt_cases (xs : List Ln) (id : Int) : lnAtP xs id = -1 ∨ ∃ (i : Nat) (y : Ln), xs[i]? = some y ∧ y.sock = id ∧ lnAtP xs id = (i : Int) := by
  rcases lnF_cases id xs 0 with ⟨h, _⟩ | ⟨i, y, h1, h2, h3⟩
  · exact .inl h
  · exact .inr ⟨i, y, h1, h2, by unfold lnAtP; rw [h3, Nat.zero_add]⟩
theorem akF_cases (id : Int) : ∀ (xs : List Ak) (k : Nat), (akF id xs k = -1 ∧ ∀ y, y ∈ xs → y.sock ≠ id) ∨ ∃ i y, xs[i]? = some y ∧ y.sock = id ∧ akF id xs k = ((k + i : Nat) : Int) := by
  intro xs
  induction xs with
  | nil => intro k; exact .inl ⟨rfl, fun y hy => by cases hy⟩
  | cons x xs ih =>
    intro k
    by_cases h : x.sock = id
    · exact .inr ⟨0, x, rfl, h, by simp [akF, h]⟩
    · have e : akF id (x :: xs) k = akF id xs (k + 1) := by simp [akF, h]
      rw [e]
      rcases ih (k + 1) with ⟨h1, h2⟩ | ⟨i, y, h1, h2, h3⟩
      · exact .inl ⟨h1, fun y hy => by rcases List.mem_cons.1 hy with rfl | hy; exact h; exact h2 y hy⟩
      · exact .inr ⟨i + 1, y, by simpa using h1, h2, by rw [h3]; congr 1; omega⟩
theorem akAt_cases (xs : List Ak) (id : Int) : akAtP xs id = -1 ∨ ∃ (i : Nat) (y : Ak), xs[i]? = some y ∧ y.sock = id ∧ akAtP xs id = (i : Int) := by
  rcases akF_cases id xs 0 with ⟨h, _⟩ | ⟨i, y, h1, h2, h3⟩
  · exact .inl h
  · exact .inr ⟨i, y, h1, h2, by unfold akAtP; rw [h3, Nat.zero_add]⟩

/-! ### the lists -/
/-- Ascending, from a bound on; each is valid. -/
def AscA (xs : List Ak) : Prop := ∀ i y, xs[i]? = some y → akB y = true ∧ ∀ z, 0 < i → xs[i - 1]? = some z → z.sock < y.sock
def AscL (xs : List Ln) : Prop := ∀ i y, xs[i]? = some y → lnB y = true ∧ ∀ z, 0 < i → xs[i - 1]? = some z → z.sock < y.sock
def ApartP (as_ : List Ak) (ls : List Ln) : Prop := ∀ (i : Nat) y, as_[i]? = some y → lnAtP ls y.sock < 0
def TickP (as_ : List Ak) (t : Int) : Prop := ∀ (i : Nat) y, as_[i]? = some y → y.st = 2 → y.ticket < t ∧ ∀ (j : Nat) z, j < i → as_[j]? = some z → ¬ (z.st = 2 ∧ z.ticket = y.ticket)
def ListsP (x : Ho) : Prop := AscA x.as_ ∧ AscL x.ls ∧ ApartP x.as_ x.ls ∧ TickP x.as_ x.ticket ∧ x.as_.length ≤ 6 ∧ x.ls.length ≤ 9 ∧ (0 ≤ x.ticket ∧ x.ticket ≤ 65535)
/-! ### the leases -/
def LentP (a : Ak) (y : Ln) : Prop := (a.line = y.sock ∧ y.asker = a.sock ∧ a.lease = y.lease ∧ a.db = y.db) ∧ ((a.st = 3 ∧ y.st = 1) ∨ (a.st = 4 ∧ y.st = 2))
def hasLP (a : Ak) (ls : List Ln) : Prop := ∃ (k : Nat) (y : Ln), lnAtP ls a.line = (k : Int) ∧ ls[k]? = some y ∧ LentP a y
def hasAP (y : Ln) (as_ : List Ak) : Prop := ∃ (k : Nat) (a : Ak), akAtP as_ y.asker = (k : Int) ∧ as_[k]? = some a ∧ LentP a y
def PairA (as_ : List Ak) (ls : List Ln) : Prop := ∀ (i : Nat) a, as_[i]? = some a → (a.st = 3 ∨ a.st = 4) → hasLP a ls
def PairL (as_ : List Ak) (ls : List Ln) : Prop := ∀ (i : Nat) y, ls[i]? = some y → y.st ≠ 0 → hasAP y as_
def HandZ (h : Hd) : Prop := h.id = 0 ∧ h.no = 0 ∧ h.acked = 0 ∧ h.since = 0
def HandP (h : Hd) (m : Int) : Prop := (1 ≤ h.id ∧ h.id ≤ 60000) ∧ (1 ≤ h.no ∧ h.no ≤ 20) ∧ (0 ≤ h.acked ∧ h.acked ≤ m) ∧ (0 ≤ h.since ∧ h.since ≤ 100000)
def NothingP (x : Ho) : Prop := x.epoch = 0 ∧ x.gen = 0 ∧ x.conf.length = 0
def OwnsP (x : Ho) : Prop := (1 ≤ x.epoch ∧ x.epoch ≤ 60000) ∧ (0 ≤ x.gen ∧ x.gen ≤ 60000) ∧ (x.gen = 0 → x.conf.length = 0) ∧ (x.gen ≠ 0 → confB x.conf = true) ∧ PairA x.as_ x.ls ∧ PairL x.as_ x.ls
def StP (x : Ho) : Prop :=
  if x.st = 0 ∨ x.st = 1 then NothingP x ∧ x.paused = false ∧ x.as_.length = 0 ∧ x.ls.length = 0 ∧ x.ticket = 0 ∧ HandZ x.h
  else if x.st = 2 then OwnsP x ∧ HandZ x.h
  else if x.st = 3 then OwnsP x ∧ x.h.id = x.epoch ∧ HandP x.h x.h.no
  else if x.st = 4 then NothingP x ∧ HandP x.h (x.h.no - 1)
  else False
def HouseP (x : Ho) : Prop := ListsP x ∧ StP x

end Go.Proofs.Ytgdhhhibkhfdlaa
