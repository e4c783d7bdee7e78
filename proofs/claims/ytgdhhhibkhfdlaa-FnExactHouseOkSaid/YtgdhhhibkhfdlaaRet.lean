/- Ranges, sums behind bytes, bytes of the call's own that come back, bytes compared. -/
import Derived.Test.YtgdhhhibkhfdlaaRepMore
import Derived.Test.YtgdhhhibkhfdlaaWord
import Derived.Test.YtgdhhhibkhfdlaaCrc
namespace Go.Proofs.Ytgdhhhibkhfdlaa
open Go.RowKit
set_option linter.unusedVariables false

def inI (x lo hi : Int) : Bool := decide (lo ≤ x ∧ x ≤ hi)
def withSum (b : List UInt8) : List UInt8 := b ++ wordBytes (crc b)

theorem l1In_b {x lo hi : Int} {b : Bool} (h : inI x lo hi = b) (w : World) : Calls Try.prog 86 #[.int .i64 x, .int .i64 lo, .int .i64 hi] w fun e w' => e = .returned (.bool b) ∧ w = w' := by
  unfold inI at h
  cases b
  · exact l1In_no w (of_decide_eq_false h)
  · have := of_decide_eq_true h
    exact l1In_yes w this.1 this.2

set_option maxHeartbeats 1000000 in
theorem within_b {x lo hi : Int} {b : Bool} (h : inI x lo hi = b) (w : World) : Calls Try.prog 85 #[.int .i64 x, .int .i64 lo, .int .i64 hi] w fun e w' => e = .returned (.bool b) ∧ w = w' := by
  unfold inI at h
  by_cases h1 : lo ≤ x
  · by_cases h2 : x ≤ hi
    · obtain rfl : b = true := by rw [← h]; simp; omega
      clear h
      go_enter Try.func85, Try.ntmps85
      go_wp2
      go_ret
      exact ⟨rfl, rfl⟩
    · obtain rfl : b = false := by rw [← h]; simp; omega
      clear h
      go_enter Try.func85, Try.ntmps85
      go_wp2
      go_ret
      exact ⟨rfl, rfl⟩
  · obtain rfl : b = false := by rw [← h]; simp; omega
    clear h
    go_enter Try.func85, Try.ntmps85
    go_wp2
    go_ret
    exact ⟨rfl, rfl⟩

def RetOwn (w : World) (l : List UInt8) (e : Ending) (w' : World) : Prop := ∃ v, e = .returned v ∧ Owns w' w.heap.size 5 v l ∧ Below w.heap.size w w'
theorem own_empty (w : World) (base : Nat) (hb : base ≤ w.heap.size) : Owns (w.alloc (.cells #[] 5)) base 5 (.slice (some ⟨w.heap.size, 0, none⟩) 0 0) [] :=
  World.ownsRow_lit w #[] 0 hb (by simp) rfl
theorem one_u8 (w : World) (n : Int) : Reads (w.alloc (.cells #[.int .u8 (n % 256)] 5)) (w.alloc (.cells #[.int .u8 (n % 256)] 5)).heap.size 1 (some ⟨w.heap.size, 0, none⟩) 1 (bys [u8 n]) := by
  have h := reads_new w #[.int .u8 (n % 256)] 1 5 rfl (by simp [maxLen])
  have e : bys [u8 n] = [.int .u8 (n % 256)] := by simp [bys, u8_cell]
  rw [e]
  exact h

theorem l1Same_any (A B : Option Addr) (c c' M M' : Nat) (a b : List UInt8) (w : World) (h : Reads w M 1 A a.length (bys a)) (h' : Reads w M' 1 B b.length (bys b)) :
    Calls Try.prog 105 #[.slice A a.length c, .slice B b.length c'] w fun e w' => e = .returned (.bool (a == b)) ∧ w = w' := by
  have h1 := string_run (P := Try.prog) (c := c) Try.underlying22 Try.underlying5 Try.underlying9 h
  have h2 := string_run (P := Try.prog) (c := c') Try.underlying22 Try.underlying5 Try.underlying9 h'
  go_enter Try.func105, Try.ntmps105
  go_wp2
  go_ret
  simp

end Go.Proofs.Ytgdhhhibkhfdlaa
