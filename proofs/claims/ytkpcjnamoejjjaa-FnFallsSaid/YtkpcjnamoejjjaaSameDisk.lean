/- laws.sameDisk, at two disks that are the same. -/
import Derived.Test.YtkpcjnamoejjjaaSame
namespace Go.Proofs.Ytkpcjnamoejjjaa
open Go.RowKit
set_option linter.unusedVariables false

theorem same_self (A B : Option Addr) (c c' M M' : Nat) (a : List UInt8) (w : World) (h : Reads w M 1 A a.length (bys a)) (h' : Reads w M' 1 B a.length (bys a)) :
    Calls Try.prog 15 #[.slice A a.length c, .slice B a.length c'] w fun e w' => e = .returned (.bool true) ∧ ∃ n, w' = w.drewN n :=
  (same_any A B c c' M M' a a w h h').mono fun _ _ ⟨h1, h2⟩ => ⟨by rw [h1]; simp, 0, h2⟩

set_option maxHeartbeats 2000000 in
theorem sameDisk_same (cs cs' : List Value) (d : Disk) (w : World) (h : diskR.at_ w w.heap.size cs d) (h' : diskR.at_ w w.heap.size cs' d) (hf : Fits d) :
    Calls Try.prog 13 #[.agg cs.toArray, .agg cs'.toArray] w fun e w' => e = .returned (.bool true) ∧ Below w.heap.size w w' := by
  obtain ⟨A, c, A', c', rfl, _, _, hr, hr'⟩ := disk_cells h
  obtain ⟨B, e, B', e', rfl, _, _, hq, hq'⟩ := disk_cells h'
  obtain ⟨f1, f2, f3, f4⟩ := hf
  have hne : (d.fuse != d.fuse) = false := by simp
  have hnd : (d.down != d.down) = false := by simp
  have hns : ((d.secs.length : Int) != (d.secs.length : Int)) = false := by simp
  have hnc : ((d.cache.length : Int) != (d.cache.length : Int)) = false := by simp
  clear f2 f4 h h'
  go_enter Try.func13, Try.ntmps13
  go_wp2
  have hB0 : Below w.heap.size w ((w.alloc (.cells #[.slice A d.secs.length c, .slice A' d.cache.length c', .int .i64 d.fuse, .bool d.down] 27)).alloc (.cells #[.slice B d.secs.length e, .slice B' d.cache.length e', .int .i64 d.fuse, .bool d.down] 27)) := ((Below.refl _ _).alloc (Nat.le_refl _) _).alloc (by simp) _
  have v0 := heap_alloc_new w (.cells #[.slice A d.secs.length c, .slice A' d.cache.length c', .int .i64 d.fuse, .bool d.down] 27)
  have v1 := heap_alloc_new' (w.alloc (.cells #[.slice A d.secs.length c, .slice A' d.cache.length c', .int .i64 d.fuse, .bool d.down] 27)) (.cells #[.slice B d.secs.length e, .slice B' d.cache.length e', .int .i64 d.fuse, .bool d.down] 27) (n := w.heap.size + 1) (by simp)
  have v0' := (Below.heap_alloc (w.alloc (.cells #[.slice A d.secs.length c, .slice A' d.cache.length c', .int .i64 d.fuse, .bool d.down] 27)) (.cells #[.slice B d.secs.length e, .slice B' d.cache.length e', .int .i64 d.fuse, .bool d.down] 27) w.heap.size (by simp)).trans v0
  generalize hgw : (w.alloc (.cells #[.slice A d.secs.length c, .slice A' d.cache.length c', .int .i64 d.fuse, .bool d.down] 27)).alloc (.cells #[.slice B d.secs.length e, .slice B' d.cache.length e', .int .i64 d.fuse, .bool d.down] 27) = W at hB0 v0' v1 ⊢
  clear hgw v0
  replace hr := hr.keep fun p hp => hB0.cell hp
  replace hr' := hr'.keep fun p hp => hB0.cell hp
  replace hq := hq.keep fun p hp => hB0.cell hp
  replace hq' := hq'.keep fun p hp => hB0.cell hp
  have hs0 := hB0.size
  have a0 : W.cell? ⟨w.heap.size, 0, none⟩ = some (.slice A d.secs.length c) := var_cell v0' 0
  have a1 : W.cell? ⟨w.heap.size, 1, none⟩ = some (.slice A' d.cache.length c') := var_cell v0' 1
  have b0 : W.cell? ⟨w.heap.size + 1, 0, none⟩ = some (.slice B d.secs.length e) := var_cell v1 0
  have b1 : W.cell? ⟨w.heap.size + 1, 1, none⟩ = some (.slice B' d.cache.length e') := var_cell v1 1
  go_loopw [5] (fun i wr => ∃ k : Nat, k ≤ d.secs.length ∧ i = .int .i64 k ∧ Hid (∃ n, wr = W.drewN n)) (fun i _ => d.secs.length - (intOf i).toNat)
  case atStart => exact ⟨0, by omega, rfl, Lib.hid ⟨0, rfl⟩⟩
  case round =>
    obtain ⟨k, hk, rfl, hw⟩ := hrel
    have hkeep : (∀ p : Addr, wr.cell? p = W.cell? p) ∧ wr.heap.size = W.heap.size := by obtain ⟨n, rfl⟩ := hw.out; exact ⟨fun _ => rfl, rfl⟩
    have z0 := (hkeep.1 _).trans a0
    have z1 := (hkeep.1 _).trans a1
    have y0 := (hkeep.1 _).trans b0
    have y1 := (hkeep.1 _).trans b1
    clear a0 a1 b0 b1
    by_cases hlt : k < d.secs.length
    · obtain ⟨b, off, A1, c1, l, rfl, hbl, hx, hcell, hlc, hr1⟩ := secs_elem (hr.keep fun p _ => hkeep.1 p) hlt
      obtain ⟨b', off', A2, c2, l', rfl, hbl', hx', hcell', hlc', hr2⟩ := secs_elem (hq.keep fun p _ => hkeep.1 p) hlt
      obtain rfl : l = l' := by rw [hx] at hx'; injection hx'
      clear hx hx' hkeep
      have i1 : (0 : Int) ≤ (k : Int) := by omega
      have i2 : (k : Int) < (d.secs.length : Int) := by omega
      go_wp2
      go_quiet ((go_at_call 15; exact Calls.quiet_of (same_self _ _ _ _ _ _ l _ hr1 hr2)))
      go_wp2
      go_roundw
      case rel => exact ⟨k + 1, by omega, by go_num, Lib.hid (by obtain ⟨n, rfl⟩ := hw.out; exact ⟨n + nq, by rw [World.drewN_drewN]⟩)⟩
      case measure => simp [intOf]; omega
    · have he : k = d.secs.length := by omega
      subst he
      have hq2 := hr'.keep fun p _ => hkeep.1 p
      have hq3 := hq'.keep fun p _ => hkeep.1 p
      have hbW : Below w.heap.size w wr := by obtain ⟨n, rfl⟩ := hw.out; exact belowD hB0 n
      have hsz := hkeep.2
      clear hr hr' hq hq' hw hkeep hB0 v0' v1
      obtain ⟨wo, hwo⟩ : ∃ wo : World, wo = wr := ⟨_, rfl⟩
      subst hwo
      go_wp2
      go_loopw [6] (fun i wr => ∃ k : Nat, k ≤ d.cache.length ∧ i = .int .i64 k ∧ Hid (∃ n, wr = wo.drewN n)) (fun i _ => d.cache.length - (intOf i).toNat)
      case atStart => exact ⟨0, by omega, rfl, Lib.hid ⟨0, rfl⟩⟩
      case round =>
        obtain ⟨k, hk, rfl, hw⟩ := hrel
        have hkeep : (∀ p : Addr, wr.cell? p = wo.cell? p) ∧ wr.heap.size = wo.heap.size := by obtain ⟨n, rfl⟩ := hw.out; exact ⟨fun _ => rfl, rfl⟩
        have x0 := (hkeep.1 _).trans z0
        have x1 := (hkeep.1 _).trans z1
        have u0 := (hkeep.1 _).trans y0
        have u1 := (hkeep.1 _).trans y1
        clear z0 z1 y0 y1
        by_cases hlt : k < d.cache.length
        · obtain ⟨b, off, A1, c1, x, rfl, hbl, hx, hcell1, hcell2, hlc, hr1⟩ := wr_elem (hq2.keep fun p _ => hkeep.1 p) hlt
          obtain ⟨b', off', A2, c2, x', rfl, hbl', hx', hcell1', hcell2', hlc', hr2⟩ := wr_elem (hq3.keep fun p _ => hkeep.1 p) hlt
          obtain rfl : x = x' := by rw [hx] at hx'; injection hx'
          clear hx hx' hkeep
          have hxx : (x.n != x.n) = false := by simp
          have i1 : (0 : Int) ≤ (k : Int) := by omega
          have i2 : (k : Int) < (d.cache.length : Int) := by omega
          go_wp2
          go_quiet ((go_at_call 15; exact Calls.quiet_of (same_self _ _ _ _ _ _ x.b _ hr1 hr2)))
          go_wp2
          go_roundw
          case rel => exact ⟨k + 1, by omega, by go_num, Lib.hid (by obtain ⟨n, rfl⟩ := hw.out; exact ⟨n + nq, by rw [World.drewN_drewN]⟩)⟩
          case measure => simp [intOf]; omega
        · have he : k = d.cache.length := by omega
          subst he
          clear hkeep
          go_wp2
          go_ret
          exact ⟨rfl, by obtain ⟨n, rfl⟩ := hw.out; exact belowD hbW n⟩

end Go.Proofs.Ytkpcjnamoejjjaa
