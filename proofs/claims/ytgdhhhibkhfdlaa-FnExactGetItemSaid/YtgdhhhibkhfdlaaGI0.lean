/- GetItem of the program. (By gen_l9f.py.) -/
import Derived.Test.YtgdhhhibkhfdlaaRdAsk
import Derived.Test.YtgdhhhibkhfdlaaPutItemI
namespace Go.Proofs.Ytgdhhhibkhfdlaa
open Go.RowKit
set_option linter.unusedVariables false
set_option linter.unusedSimpArgs false

theorem equalB_any (A B : Option Addr) (c c' M M' : Nat) (a b : List UInt8) (w : World) (h : Reads w M 1 A a.length (bys a)) (h' : Reads w M' 1 B b.length (bys b)) :
    Calls Try.prog 100 #[.slice A a.length c, .slice B b.length c'] w fun e w' => e = .returned (.bool (a == b)) ∧ w = w' := by
  have h1 := string_run (P := Try.prog) (c := c) Try.underlying22 Try.underlying5 Try.underlying9 h
  have h2 := string_run (P := Try.prog) (c := c') Try.underlying22 Try.underlying5 Try.underlying9 h'
  go_enter Try.func100, Try.ntmps100
  go_wp2
  go_ret
  simp
theorem tx_small (l : List UInt8) (p : Int) : (gtS l p).size ≤ 1048576 := by
  unfold gtS
  cases h : gtO l p with
  | none => show (⟨#[]⟩ : ByteArray).size ≤ _; decide
  | some x =>
    have hk : okB x.1 = true := by
      unfold gtO at h
      split at h
      · cases h
      · split at h
        · cases h
        · split at h
          · injection h with h
            subst h
            assumption
          · cases h
    have := okB_len hk
    show (⟨x.1.toArray⟩ : ByteArray).size ≤ _
    have e : (⟨x.1.toArray⟩ : ByteArray).size = x.1.length := by show x.1.toArray.size = _; simp
    omega
theorem fits_iIt (b : List UInt8) : FitsIt (iIt b) := by
  have hz : FitsAk akZero := ⟨by decide, by decide⟩
  have hy : FitsLn lnZero := by show (⟨#[]⟩ : ByteArray).size ≤ 1048576; decide
  unfold iIt
  split
  · exact ⟨⟨tx_small _ _, tx_small _ _⟩, hy⟩
  · split
    · exact ⟨hz, tx_small _ _⟩
    · exact ⟨hz, hy⟩
theorem getI_no {b : List UInt8} (h : b.length = 0 ∨ itemB (iIt b) ≠ b) : getI b = (itZero, false) := by
  unfold getI
  rw [if_neg]
  rintro ⟨h1, h2⟩
  rcases h with h | h
  · exact h1 h
  · exact h h2
def RetIt (w : World) (p : It × Bool) (e : Ending) (w' : World) : Prop := e = .returned (.tuple #[.agg (itC p.1).toArray, .bool p.2]) ∧ Below w.heap.size w w'

set_option maxRecDepth 100000 in
set_option maxHeartbeats 16000000 in
theorem getItem_0 (A : Option Addr) (c : Nat) (b : List UInt8) (w : World) (hr : Reads w w.heap.size 1 A b.length (bys b)) (hn : b.length ≤ 2000000) (hc : b.length ≤ c) (h0 : b.length = 0) :
    Calls Try.prog 35 #[.slice A b.length c] w (RetIt w (getI b)) := by
  have HR := Lib.hid hr
  clear hr
  rw [getI_no (.inl h0)]
  unfold RetIt itZero itC akZero lnZero
  have h00 : ((b.length : Int) == 0) = true := by simp [h0]
  clear h0
  go_enter Try.func35, Try.ntmps35
  go_wp2_with fail
  exact bodyPost_ret (v := .tuple #[.agg #[.int .i64 0, .int .i64 0, .string ⟨#[]⟩, .int .i64 0, .int .i64 0, .int .i64 0, .string ⟨#[]⟩, .int .i64 0, .int .i64 0, .int .i64 0, .string ⟨#[]⟩, .int .i64 0, .int .i64 0, .int .i64 0, .int .i64 0, .int .i64 0], .bool false]) (by simp [results, Try.results35, go_sem]) rfl ⟨rfl, Later.alloc w _⟩


end Go.Proofs.Ytgdhhhibkhfdlaa
