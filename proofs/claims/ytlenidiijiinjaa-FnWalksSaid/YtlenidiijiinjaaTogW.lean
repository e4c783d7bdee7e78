/- Chapter 7: the walk over queries. -/
import Derived.Test.YtlenidiijiinjaaTog
namespace Go.Proofs.Ytlenidiijiinjaa
open Go.RowKit
set_option linter.unusedVariables false

def walkA (st : Int) (l : List ByteArray) : Int := l.foldl (fun s q => nextS s (wordQ q)) st
theorem walkA_nil (st : Int) : walkA st [] = st := rfl
theorem walkA_append (st : Int) (l m : List ByteArray) : walkA st (l ++ m) = walkA (walkA st l) m := by simp [walkA]
theorem walkA_step {st : Int} {l : List ByteArray} {k : Nat} {x : ByteArray} (h : l[k]? = some x) : walkA st (l.take (k + 1)) = nextS (walkA st (l.take k)) (wordQ x) := by
  rw [Rep.take_get h, walkA_append]
  rfl

set_option maxHeartbeats 1000000 in
theorem walk_any (st : Int) (A : Option Addr) (c : Nat) (l : List ByteArray) (w : World) (h : StrAt w A l) (hn : l.length ≤ maxLen) :
    Calls Try.prog 11 #[.int .i64 st, .slice A l.length c] w fun e w' => e = .returned (.int .i64 (walkA st l)) ∧ w = w' := by
  unfold maxLen at hn
  go_enter Try.func11, Try.ntmps11
  go_wp2
  go_loop [0, 9] (fun x i => ∃ (k : Nat) (z : Int), k ≤ l.length ∧ i = .int .i64 k ∧ x = .int .i64 z ∧ Hid (z = walkA st (l.take k))) (fun _ i => l.length - (intOf i).toNat)
  case atStart => exact ⟨0, st, by omega, rfl, rfl, Lib.hid rfl⟩
  case round =>
    obtain ⟨k, z, hk, rfl, rfl, HZ⟩ := hrel
    by_cases hlt : k < l.length
    · obtain ⟨b, off, x, rfl, hbl, hx, hcell⟩ := h.elem hlt
      have HS := Lib.hid (walkA_step (st := st) hx)
      clear hx
      have i1 : (0 : Int) ≤ (k : Int) := by omega
      have i2 : (k : Int) < (l.length : Int) := by omega
      go_wp2_with fail
      refine (wordOf_any x _).mono ?_
      rintro e w1 ⟨rfl, rfl⟩
      go_wp2_with fail
      refine (nextSt_any z (wordQ x) _).mono ?_
      rintro e w1 ⟨rfl, rfl⟩
      go_wp2_with fail
      go_round
      case rel => exact ⟨k + 1, _, by omega, by go_num, rfl, Lib.hid (by rw [HS.out, ← HZ.out])⟩
      case measure => simp [intOf]; omega
    · have he : k = l.length := by omega
      subst he
      go_wp2
      go_ret
      exact ⟨by rw [HZ.out, List.take_length]; rfl, rfl⟩

set_option maxHeartbeats 1000000 in
theorem walkS_any (st : Int) (A : Option Addr) (c : Nat) (l : List ByteArray) (w : World) (h : StrAt w A l) (hn : l.length ≤ maxLen) :
    Calls Try.prog 15 #[.int .i64 st, .slice A l.length c] w fun e w' => e = .returned (.int .i64 (walkA st l)) ∧ w = w' := by
  unfold maxLen at hn
  go_enter Try.func15, Try.ntmps15
  go_wp2
  go_loop [5, 6] (fun x i => ∃ (k : Nat) (z : Int), k ≤ l.length ∧ i = .int .i64 k ∧ x = .int .i64 z ∧ Hid (z = walkA st (l.take k))) (fun _ i => l.length - (intOf i).toNat)
  case atStart => exact ⟨0, st, by omega, rfl, rfl, Lib.hid rfl⟩
  case round =>
    obtain ⟨k, z, hk, rfl, rfl, HZ⟩ := hrel
    by_cases hlt : k < l.length
    · obtain ⟨b, off, x, rfl, hbl, hx, hcell⟩ := h.elem hlt
      have HS := Lib.hid (walkA_step (st := st) hx)
      clear hx
      have i1 : (0 : Int) ≤ (k : Int) := by omega
      have i2 : (k : Int) < (l.length : Int) := by omega
      go_wp2_with fail
      refine (wordOfS_any x _).mono ?_
      rintro e w1 ⟨rfl, rfl⟩
      go_wp2_with fail
      refine (nextStS_any z (wordQ x) _).mono ?_
      rintro e w1 ⟨rfl, rfl⟩
      go_wp2_with fail
      go_round
      case rel => exact ⟨k + 1, _, by omega, by go_num, rfl, Lib.hid (by rw [HS.out, ← HZ.out])⟩
      case measure => simp [intOf]; omega
    · have he : k = l.length := by omega
      subst he
      go_wp2
      go_ret
      exact ⟨by rw [HZ.out, List.take_length]; rfl, rfl⟩

end Go.Proofs.Ytlenidiijiinjaa
