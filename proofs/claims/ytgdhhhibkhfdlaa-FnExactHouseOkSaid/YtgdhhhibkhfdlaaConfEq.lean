/- Lists of databases: how great they are, their copies, equality of what is the same. -/
import Derived.Test.YtgdhhhibkhfdlaaConf
import Derived.BigQuiet
import Derived.Deep.QuietTactic
namespace Go.Proofs.Ytgdhhhibkhfdlaa
open Go.RowKit
set_option linter.unusedVariables false
set_option maxRecDepth 100000

set_option maxHeartbeats 1000000 in
theorem szDbS_room (A : Option Addr) (c : Nat) (xs : List Db) (left : Nat) (w : World) (h : Rep.RowsAt dbR w w.heap.size A xs.length xs) (hn : xs.length ≤ 9223372036854775807) (hok : OkDbs xs) (hl : left ≤ 1048576) :
    Calls Try.prog 133 #[.slice A xs.length c, .int .i64 left] w (RoomB (FitsDbs xs) left w) := by
  by_cases h1 : xs.length ≤ left
  · have h' : ¬ ((left : Int) - (xs.length : Int) < 0) := by omega
    obtain ⟨z0, hz0, hz1⟩ : ∃ z : Nat, (left : Int) - (xs.length : Int) = z ∧ z ≤ left := ⟨left - xs.length, by omega, by omega⟩
    have HZ := Lib.hid hz0
    have HOK := Lib.hid hok
    clear hz0 hok
    go_enter Try.func133, Try.ntmps133
    go_wp2
    go_loopw [1, 5] (fun q i wr => ∃ k z : Nat, k ≤ xs.length ∧ i = .int .i64 k ∧ z ≤ left ∧ q = .int .i64 z ∧ AllP (fun x : Db => x.name.size ≤ 1048576) xs k ∧ Below w.heap.size w wr) (fun _ i _ => xs.length - (intOf i).toNat)
    case atStart => exact ⟨0, z0, by omega, rfl, hz1, by rw [HZ.out], AllP.zero _ xs, Below.refl _ _⟩
    case round =>
      obtain ⟨k, z, hk, rfl, hz, rfl, hall, hb⟩ := hrel
      by_cases hlt : k < xs.length
      · obtain ⟨b, off, x, rfl, hbl, hx, c0, c1, c2, c3, c4⟩ := db_elem (h.keep fun p hp => hb.cell hp) hlt
        have hll := (HOK.out x (List.mem_of_getElem? hx)).1
        have HX := Lib.hid hx
        clear hx
        go_wp2_with fail
        refine (szDb_room x z wr hll (by omega)).mono ?_
        rintro e w' ⟨⟨z', hz', hbd, rfl⟩ | rfl, hb2⟩
        · have hb3 := hb.trans (hb2.mono hb.size)
          go_wp2_with fail
          go_roundw
          case rel => exact ⟨k + 1, z', by omega, by go_num, by omega, rfl, hall.succ HX.out hbd, hb3⟩
          case measure => simp [intOf]; omega
        · have hb3 := hb.trans (hb2.mono hb.size)
          go_wp2_with fail
          go_ret
          exact ⟨.inr rfl, hb3⟩
      · have he : k = xs.length := by omega
        subst he
        go_wp2
        go_ret
        exact ⟨.inl ⟨z, hz, ⟨by omega, hall.all⟩, rfl⟩, hb⟩
  · go_enter Try.func133, Try.ntmps133
    go_wp2
    go_ret
    exact ⟨.inr rfl, Below.refl _ _⟩

set_option maxHeartbeats 1000000 in
theorem toDb_any (d : Db) (w : World) : Calls Try.prog 184 #[.agg (dbC d).toArray] w fun e w' => e = .returned (.agg (dbC d).toArray) ∧ Below w.heap.size w w' := by
  unfold dbC
  go_enter Try.func184, Try.ntmps184
  go_wp2
  refine bodyPost_ret (v := .agg (dbC d).toArray) (by simp [results, Try.results184, go_sem, dbC]) rfl ⟨rfl, ?_⟩
  repeat (refine Below.setCell ?_ (by first | (simp; done) | (simp; omega)) _)
  exact (((Below.refl _ _).alloc (Nat.le_refl _) _).alloc (by simp) _).alloc (by simp; omega) _

def dbZero : Db := ⟨⟨#[]⟩, 0, 0, 0, 0⟩
/-- Databases of the call's own. -/
def RetDbs (w : World) (xs : List Db) (e : Ending) (w' : World) : Prop := ∃ A c fp, e = .returned (.slice A xs.length c) ∧ dbsR.own w' w.heap.size [.slice A xs.length c] xs fp ∧ Below w.heap.size w w'

set_option maxHeartbeats 1000000 in
theorem toDbS_any (A : Option Addr) (c : Nat) (xs : List Db) (w : World) (h : Rep.RowsAt dbR w w.heap.size A xs.length xs) (hn : xs.length ≤ 1048576) :
    Calls Try.prog 136 #[.slice A xs.length c] w (RetDbs w xs) := by
  obtain ⟨i0, hi0, hz0, hz1, hz2⟩ := info_parts Try.infoDb
  go_enter Try.func136, Try.ntmps136
  go_wp2_with (at_make; refine wpList_make_full _ rfl _ _ _ rfl w.heap.size 81 i0 _ 5 Try.underlying64 hi0 hz0 hz1 _ _ _ _ xs.length rfl rfl rfl rfl (by rw [hz2]; omega) (by simp only [maxLen]; omega) (Nat.le_refl _) ?_; intro w1 hown1 hg1)
  have hb1 : Below w.heap.size w w1 := (Below.refl _ _).grown hg1 (Nat.le_refl _) (fun _ hk => by cases hk)
  have hz : Rep.OwnRows dbR 81 w1 w.heap.size (.slice (some ⟨w.heap.size, 0, none⟩) xs.length xs.length) (halfL dbZero xs 0) [w.heap.size] := by
    rw [halfL_zero]
    exact rows_zero dbR _ w1 _ _ _ dbZero (dbC dbZero) _ hown1 (Rep.seg_made #[.string ⟨#[]⟩, .int .i64 0, .int .i64 0, .int .i64 0, .int .i64 0] _) (fun w => db_own w _ dbZero)
  clear hown1 hg1
  go_loopw [4] (fun i wr => ∃ (k : Nat) (fp : List Nat), k ≤ xs.length ∧ i = .int .i64 k ∧ Below w.heap.size w wr ∧ Rep.OwnRows dbR 81 wr w.heap.size (.slice (some ⟨w.heap.size, 0, none⟩) xs.length xs.length) (halfL dbZero xs k) fp) (fun i _ => xs.length - (intOf i).toNat)
  case atStart => exact ⟨0, _, by omega, rfl, hb1, hz⟩
  case round =>
    obtain ⟨k, fp, hk, rfl, hb, hown⟩ := hrel
    clear hz hb1
    by_cases hlt : k < xs.length
    · obtain ⟨b, off, x, rfl, hbl, hx, c0, c1, c2, c3, c4⟩ := db_elem (h.keep fun p hp => hb.cell hp) hlt
      have HX := Lib.hid hx
      clear hx
      go_wp2_with fail
      refine (toDb_any x wr).mono ?_
      rintro e w2 ⟨rfl, hb2⟩
      have hlh : (halfL dbZero xs k).length = xs.length := halfL_length _ _ _ hk
      have hown3 := hown.of_below hb2
      have hsz : ∀ j, j < 5 → k * 5 + j < (halfL dbZero xs k).length * dbR.size := fun j hj => by rw [hlh]; show k * 5 + j < xs.length * 5; omega
      obtain ⟨⟨u0, e0⟩, f0, _, hgl⟩ := hown3.there (k * 5) (hsz 0 (by omega))
      obtain ⟨⟨u1, e1⟩, f1, _, _⟩ := hown3.there (k * 5 + 1) (hsz 1 (by omega))
      obtain ⟨⟨u2, e2⟩, f2, _, _⟩ := hown3.there (k * 5 + 2) (hsz 2 (by omega))
      obtain ⟨⟨u3, e3⟩, f3, _, _⟩ := hown3.there (k * 5 + 3) (hsz 3 (by omega))
      obtain ⟨⟨u4, e4⟩, f4, _, _⟩ := hown3.there (k * 5 + 4) (hsz 4 (by omega))
      have HS := Lib.hid hsz
      clear hsz
      unfold dbC
      go_wp2_with fail
      obtain ⟨fp', hput⟩ := hown3.store (k := k) (x := x) (dbC x) hlh hlt rfl (db_own w2 _ x) hb.size (fun g hg => (hown.lt g hg).2)
      rw [halfL_set _ HX.out] at hput
      have hB3 := Rep.setRow_below (g := w.heap.size) (k * 5) (dbC x) (hb.trans (hb2.mono hb.size)) (Nat.le_refl _)
      go_roundw
      case rel => exact ⟨k + 1, fp', by omega, by go_num, hB3, hput⟩
      case measure => simp [intOf]; omega
    · have he : k = xs.length := by omega
      subst he
      rw [halfL_all] at hown
      go_wp2
      go_ret
      exact ⟨_, _, _, rfl, ⟨_, rfl, hown⟩, hb⟩

set_option maxHeartbeats 1000000 in
theorem eqDb_same (d : Db) (w : World) : Calls Try.prog 187 #[.agg (dbC d).toArray, .agg (dbC d).toArray] w fun e w' => e = .returned (.bool true) ∧ Below w.heap.size w w' := by
  have h0 : (d.name.toList != d.name.toList) = false := by simp
  have h1 : (d.size != d.size) = false := by simp
  have h2 : (d.queue != d.queue) = false := by simp
  have h3 : (d.wait != d.wait) = false := by simp
  have h4 : (d.idle != d.idle) = false := by simp
  unfold dbC
  go_enter Try.func187, Try.ntmps187
  go_wp2
  go_ret
  exact ⟨rfl, ((Below.refl _ _).alloc (Nat.le_refl _) _).alloc (by simp) _⟩

set_option maxHeartbeats 1000000 in
theorem eqDbS_same (A B : Option Addr) (c d : Nat) (xs : List Db) (w : World) (h : Rep.RowsAt dbR w w.heap.size A xs.length xs) (h' : Rep.RowsAt dbR w w.heap.size B xs.length xs) (hn : xs.length ≤ 1048576) :
    Calls Try.prog 140 #[.slice A xs.length c, .slice B xs.length d] w fun e w' => e = .returned (.bool true) ∧ Below w.heap.size w w' := by
  have hnn : ((xs.length : Int) != (xs.length : Int)) = false := by simp
  go_enter Try.func140, Try.ntmps140
  go_wp2
  go_loopw [5] (fun i wr => ∃ k : Nat, k ≤ xs.length ∧ i = .int .i64 k ∧ Below w.heap.size w wr) (fun i _ => xs.length - (intOf i).toNat)
  case atStart => exact ⟨0, by omega, rfl, Below.refl _ _⟩
  case round =>
    obtain ⟨k, hk, rfl, hb⟩ := hrel
    by_cases hlt : k < xs.length
    · obtain ⟨b, off, x, rfl, hbl, hx, c0, c1, c2, c3, c4⟩ := db_elem (h.keep fun p hp => hb.cell hp) hlt
      obtain ⟨b', off', x', rfl, hbl', hx', c0', c1', c2', c3', c4'⟩ := db_elem (h'.keep fun p hp => hb.cell hp) hlt
      obtain rfl : x = x' := by rw [hx] at hx'; injection hx'
      clear hx hx'
      have i1 : (0 : Int) ≤ (k : Int) := by omega
      have i2 : (k : Int) < (xs.length : Int) := by omega
      go_wp2
      go_still_tail 8, (by kernel_rfl)
      change wpList _ _ _ _ _ wr.drew
      go_wp2_with fail
      refine (eqDb_same x wr.drew).mono ?_
      rintro e w2 ⟨rfl, hb2⟩
      have hb3 : Below w.heap.size w w2 := hb.trans ((belowD (Below.refl wr.heap.size wr) 1).trans hb2 |>.mono hb.size)
      go_wp2_with fail
      go_roundw
      case rel => exact ⟨k + 1, by omega, by go_num, hb3⟩
      case measure => simp [intOf]; omega
    · have he : k = xs.length := by omega
      subst he
      go_wp2
      go_ret
      exact ⟨rfl, hb⟩

end Go.Proofs.Ytgdhhhibkhfdlaa
