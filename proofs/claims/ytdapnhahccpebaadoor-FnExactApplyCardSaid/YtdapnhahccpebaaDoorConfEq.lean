/- Lists of databases: how great they are, their copies, equality of what is the same. -/
import Derived.Test.YtdapnhahccpebaaDoorConf
import Derived.BigQuiet
import Derived.Deep.QuietTactic
namespace Go.Proofs.YtdapnhahccpebaaDoor
open Go.RowKit
set_option maxRecDepth 100000
set_option linter.unusedVariables false

def dbZero : Db := ⟨⟨#[]⟩, 0, 0, 0, 0⟩
/-- Databases of the call's own. -/
def RetDbs (w : World) (xs : List Db) (e : Ending) (w' : World) : Prop := ∃ A c fp, e = .returned (.slice A xs.length c) ∧ dbsR.own w' w.heap.size [.slice A xs.length c] xs fp ∧ Below w.heap.size w w'

set_option maxHeartbeats 1000000 in
theorem eqDb_same (d : Db) (w : World) : Calls Tryd.prog 71 #[.agg (dbC d).toArray, .agg (dbC d).toArray] w fun e w' => e = .returned (.bool true) ∧ Below w.heap.size w w' := by
  have h0 : (d.name.toList != d.name.toList) = false := by simp
  have h1 : (d.size != d.size) = false := by simp
  have h2 : (d.queue != d.queue) = false := by simp
  have h3 : (d.wait != d.wait) = false := by simp
  have h4 : (d.idle != d.idle) = false := by simp
  unfold dbC
  go_enter Tryd.func71, Tryd.ntmps71
  go_wp2
  go_ret
  exact ⟨rfl, ((Below.refl _ _).alloc (Nat.le_refl _) _).alloc (by simp) _⟩

set_option maxHeartbeats 1000000 in
theorem eqDbS_same (A B : Option Addr) (c d : Nat) (xs : List Db) (w : World) (h : Rep.RowsAt dbR w w.heap.size A xs.length xs) (h' : Rep.RowsAt dbR w w.heap.size B xs.length xs) (hn : xs.length ≤ 1048576) :
    Calls Tryd.prog 31 #[.slice A xs.length c, .slice B xs.length d] w fun e w' => e = .returned (.bool true) ∧ Below w.heap.size w w' := by
  have hnn : ((xs.length : Int) != (xs.length : Int)) = false := by simp
  go_enter Tryd.func31, Tryd.ntmps31
  go_wp2
  go_loopw [5] (fun i wr => ∃ k : Nat, k ≤ xs.length ∧ i = .int .i64 k ∧ Below w.heap.size w wr) (fun i _ => xs.length - (intOf i).toNat)
  case atStart => exact ⟨0, by omega, rfl, Below.refl _ _⟩
  case round =>
    obtain ⟨k, hk, rfl, hb⟩ := hrel
    by_cases hlt : k < xs.length
    · obtain ⟨b, off, x, rfl, hbl, hx, c0, c1, c2, c3, c4⟩ := db_elem (h.keep fun p hp => hb.cell hp) hlt
      obtain ⟨b', off', x', rfl, hbl', hx', c0', c1', c2', c3', c4'⟩ := db_elem (h'.keep fun p hp => hb.cell hp) hlt
      obtain rfl : x = x' := by rw [hx] at hx'; injection hx'
      clear hx hx'
      have i1 : (0 : Int) ≤ (k : Int) := by omega
      have i2 : (k : Int) < (xs.length : Int) := by omega
      go_wp2
      go_still_tail 8, (by kernel_rfl)
      change wpList _ _ _ _ _ wr.drew
      go_wp2_with fail
      refine (eqDb_same x wr.drew).mono ?_
      rintro e w2 ⟨rfl, hb2⟩
      have hb3 : Below w.heap.size w w2 := hb.trans ((belowD (Below.refl wr.heap.size wr) 1).trans hb2 |>.mono hb.size)
      go_wp2_with fail
      go_roundw
      case rel => exact ⟨k + 1, by omega, by go_num, hb3⟩
      case measure => simp [intOf]; omega
    · have he : k = xs.length := by omega
      subst he
      go_wp2
      go_ret
      exact ⟨rfl, hb⟩

end Go.Proofs.YtdapnhahccpebaaDoor
