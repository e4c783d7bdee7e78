/- The reader's methods: mark and endDb. -/
import Derived.Test.YtdapnhahccpebaaDoorParseConfS
namespace Go.Proofs.YtdapnhahccpebaaDoor
open Go.RowKit
set_option maxRecDepth 100000
set_option linter.unusedVariables false

theorem ret_i32 {x y : Int} (h : x = y) : Ending.returned (.int .i32 x) = .returned (.int .i32 y) := by rw [h]
set_option maxHeartbeats 1000000 in
theorem mark_any (C : Nat) (A : Option Addr) (n c : Nat) (w : World) (hc : w.cell? ⟨C, 1, none⟩ = some (.slice A n c)) :
    Calls Tryd.prog 95 #[.pointer (some ⟨C, 0, none⟩)] w fun e w' => e = .returned (.int .i32 ((mkOf n).toNat : Nat)) ∧ w' = w := by
  by_cases h0 : n = 0
  · have e1 : ((n : Int) == (0 : Int)) = true := by simp; omega
    have HM := Lib.hid (show ((mkOf n).toNat : Int) = 58 by rw [h0]; rfl)
    clear h0
    go_enter Tryd.func95, Tryd.ntmps95
    go_wp2
    go_ret
    exact ⟨ret_i32 HM.out.symm, rfl⟩
  · have e1 : ((n : Int) == (0 : Int)) = false := by simp; omega
    by_cases h4 : n = 4
    · have e2 : ((n : Int) == (4 : Int)) = true := by simp; omega
      have HM := Lib.hid (show ((mkOf n).toNat : Int) = 59 by rw [h4]; rfl)
      clear h4
      go_enter Tryd.func95, Tryd.ntmps95
      go_wp2
      go_ret
      exact ⟨ret_i32 HM.out.symm, rfl⟩
    · have e2 : ((n : Int) == (4 : Int)) = false := by simp; omega
      have HM := Lib.hid (show ((mkOf n).toNat : Int) = 47 by unfold mkOf; rw [if_neg h0, if_neg h4]; rfl)
      go_enter Tryd.func95, Tryd.ntmps95
      go_wp2
      go_ret
      exact ⟨ret_i32 HM.out.symm, rfl⟩

def numI (ps : List ByteArray) (i : Nat) : Int := pnVal (bl (gs ps (i + 1))) 65535
def dbTo (ps : List ByteArray) (j : Nat) : Array Value :=
  #[.string (gs ps 0), .int .i64 (if 0 < j then numI ps 0 else 0), .int .i64 (if 1 < j then numI ps 1 else 0), .int .i64 (if 2 < j then numI ps 2 else 0), .int .i64 (if 3 < j then numI ps 3 else 0)]
theorem dbTo_set (ps : List ByteArray) {j : Nat} (hj : j < 4) : (dbTo ps j).setIfInBounds (1 + j) (.int .i64 (numI ps j)) = dbTo ps (j + 1) := by
  rcases (by omega : j = 0 ∨ j = 1 ∨ j = 2 ∨ j = 3) with rfl | rfl | rfl | rfl <;> simp [dbTo]
theorem dbTo_at (ps : List ByteArray) {j : Nat} (hj : j < 4) : ∃ u, (dbTo ps j)[1 + j]? = some u := by
  rcases (by omega : j = 0 ∨ j = 1 ∨ j = 2 ∨ j = 3) with rfl | rfl | rfl | rfl <;> exact ⟨_, rfl⟩
def ptrs (D : Nat) : Array Value := #[.pointer (some ⟨D, 1, none⟩), .pointer (some ⟨D, 2, none⟩), .pointer (some ⟨D, 3, none⟩), .pointer (some ⟨D, 4, none⟩)]
theorem ptrs_at (D : Nat) {j : Nat} (hj : j < 4) : (ptrs D)[j]? = some (.pointer (some ⟨D, 1 + j, none⟩)) := by
  rcases (by omega : j = 0 ∨ j = 1 ∨ j = 2 ∨ j = 3) with rfl | rfl | rfl | rfl <;> rfl
def dbI (ps : List ByteArray) : Db := ⟨gs ps 0, numI ps 0, numI ps 1, numI ps 2, numI ps 3⟩
theorem endDb_bad {ps : List ByteArray} (h5 : ps.length = 5) {j : Nat} (hj : j < 4) (hb : pnOk (bl (gs ps (j + 1))) 65535 = false) : endDb (ps.map bl) = none := by
  rcases ps with _ | ⟨p0, _ | ⟨p1, _ | ⟨p2, _ | ⟨p3, _ | ⟨p4, _ | ⟨p5, ps⟩⟩⟩⟩⟩⟩ <;> try (simp at h5; done)
  exact mk5_bad (f := fun i => bl (gs [p0, p1, p2, p3, p4] (i + 1))) hj hb
theorem endDb_good {ps : List ByteArray} (h5 : ps.length = 5) (ho : ∀ j, j < 4 → pnOk (bl (gs ps (j + 1))) 65535 = true) : endDb (ps.map bl) = some (dbI ps) := by
  rcases ps with _ | ⟨p0, _ | ⟨p1, _ | ⟨p2, _ | ⟨p3, _ | ⟨p4, _ | ⟨p5, ps⟩⟩⟩⟩⟩⟩ <;> try (simp at h5; done)
  exact mk5_of (ho 0 (by omega)) (ho 1 (by omega)) (ho 2 (by omega)) (ho 3 (by omega))
end Go.Proofs.YtdapnhahccpebaaDoor
