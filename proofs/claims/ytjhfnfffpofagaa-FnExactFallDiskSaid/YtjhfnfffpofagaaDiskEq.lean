/- Equality of data that are the same; how great data are. -/
import Derived.Test.YtjhfnfffpofagaaDiskWr
import Derived.StillTailTactics
namespace Go.Proofs.Ytjhfnfffpofagaa
open Go.RowKit
set_option linter.unusedVariables false

/-- What a count of the room that is left says. -/
def Room (bound : Prop) (left : Nat) (w : World) (e : Ending) (w' : World) : Prop := ((∃ z : Nat, z ≤ left ∧ bound ∧ e = .returned (.int .i64 z)) ∨ e = .returned (.int .i64 (-1))) ∧ w = w'

set_option maxHeartbeats 1000000 in
theorem szByteS_room (A : Option Addr) (c n : Nat) (left : Nat) (w : World) (hn : n ≤ 9223372036854775807) (hl : left ≤ 1048576) :
    Calls Try.prog 73 #[.slice A n c, .int .i64 left] w (Room (n ≤ 1048576) left w) := by
  by_cases h : n ≤ left
  · have h' : ¬ ((left : Int) - (n : Int) < 0) := by omega
    go_enter Try.func73, Try.ntmps73
    go_wp2
    go_ret
    exact ⟨.inl ⟨left - n, by omega, by omega, by rw [Int.ofNat_sub h]; rfl⟩, rfl⟩
  · go_enter Try.func73, Try.ntmps73
    go_wp2
    go_ret
    exact ⟨.inr rfl, rfl⟩

def AllLe (xs : List (List UInt8)) (k : Nat) : Prop := ∀ l, l ∈ xs.take k → l.length ≤ 1048576
theorem AllLe.zero (xs : List (List UInt8)) : AllLe xs 0 := by intro l hl; simp at hl
theorem AllLe.succ {xs : List (List UInt8)} {k : Nat} {l : List UInt8} (h : AllLe xs k) (hx : xs[k]? = some l) (hl : l.length ≤ 1048576) : AllLe xs (k + 1) := by
  intro m hm
  rw [Rep.take_get hx, List.mem_append] at hm
  rcases hm with hm | hm
  · exact h m hm
  · simp at hm; subst hm; exact hl
theorem AllLe.all {xs : List (List UInt8)} (h : AllLe xs xs.length) : ∀ l, l ∈ xs → l.length ≤ 1048576 := fun l hl => h l (by simpa using hl)

set_option maxHeartbeats 1000000 in
theorem szByteSS_room (A : Option Addr) (c : Nat) (xs : List (List UInt8)) (left : Nat) (w : World) (h : Rep.RowsAt byR w w.heap.size A xs.length xs) (hn : xs.length ≤ 9223372036854775807) (hl : left ≤ 1048576) :
    Calls Try.prog 61 #[.slice A xs.length c, .int .i64 left] w (Room (xs.length ≤ 1048576 ∧ ∀ l, l ∈ xs → l.length ≤ 1048576) left w) := by
  by_cases h1 : xs.length ≤ left
  · have h' : ¬ ((left : Int) - (xs.length : Int) < 0) := by omega
    obtain ⟨z0, hz0, hz1⟩ : ∃ z : Nat, (left : Int) - (xs.length : Int) = z ∧ z ≤ left := ⟨left - xs.length, by omega, by omega⟩
    have HZ := Lib.hid hz0
    clear hz0
    go_enter Try.func61, Try.ntmps61
    go_wp2
    go_loop [1, 5] (fun q i => ∃ k z : Nat, k ≤ xs.length ∧ i = .int .i64 k ∧ z ≤ left ∧ q = .int .i64 z ∧ AllLe xs k) (fun _ i => xs.length - (intOf i).toNat)
    case atStart => exact ⟨0, z0, by omega, rfl, hz1, by rw [HZ.out], AllLe.zero xs⟩
    case round =>
      obtain ⟨k, z, hk, rfl, hz, rfl, hall⟩ := hrel
      by_cases hlt : k < xs.length
      · obtain ⟨b, off, A', c', l, rfl, hbl, hx, hcell, hlc, hr⟩ := secs_elem h hlt
        have hll : l.length ≤ 9223372036854775807 := Nat.le_trans hlc.1 hlc.2
        have HX := Lib.hid hx
        clear hx
        go_wp2_with fail
        refine (szByteS_room A' c' l.length z w (by omega) (by omega)).mono ?_
        rintro e w' ⟨⟨z', hz', hb, rfl⟩ | rfl, rfl⟩
        · go_wp2_with fail
          go_round
          case rel => exact ⟨k + 1, z', by omega, by go_num, by omega, rfl, hall.succ HX.out hb⟩
          case measure => simp [intOf]; omega
        · go_wp2_with fail
          go_ret
          exact ⟨.inr rfl, rfl⟩
      · have he : k = xs.length := by omega
        subst he
        go_wp2
        go_ret
        exact ⟨.inl ⟨z, hz, ⟨by omega, hall.all⟩, rfl⟩, rfl⟩
  · go_enter Try.func61, Try.ntmps61
    go_wp2
    go_ret
    exact ⟨.inr rfl, rfl⟩

set_option maxHeartbeats 1000000 in
theorem szWr_room (n : Int) (A : Option Addr) (c m : Nat) (left : Nat) (w : World) (hn : m ≤ 9223372036854775807) (hl : left ≤ 1048576) :
    Calls Try.prog 74 #[.agg #[.int .i64 n, .slice A m c], .int .i64 left] w fun e w' => ((∃ z : Nat, z ≤ left ∧ m ≤ 1048576 ∧ e = .returned (.int .i64 z)) ∨ e = .returned (.int .i64 (-1))) ∧ Below w.heap.size w w' := by
  go_enter Try.func74, Try.ntmps74
  go_wp2_with fail
  refine (szByteS_room A c m left _ (by omega) (by omega)).mono ?_
  rintro e w' ⟨⟨z', hz', hb, rfl⟩ | rfl, rfl⟩
  · go_wp2_with fail
    go_ret
    exact ⟨.inl ⟨z', hz', hb, rfl⟩, (Below.refl _ _).alloc (Nat.le_refl _) _⟩
  · go_wp2_with fail
    go_ret
    exact ⟨.inr rfl, (Below.refl _ _).alloc (Nat.le_refl _) _⟩

set_option maxHeartbeats 1000000 in
/-- Slices of byte slices that hold the same bytes are equal. -/
theorem eqByteSS_same (A B : Option Addr) (c d : Nat) (xs : List (List UInt8)) (w : World) (h : Rep.RowsAt byR w w.heap.size A xs.length xs) (h' : Rep.RowsAt byR w w.heap.size B xs.length xs) (hn : xs.length ≤ 1048576) (hm : ∀ l, l ∈ xs → l.length ≤ 140737488351232) :
    Calls Try.prog 55 #[.slice A xs.length c, .slice B xs.length d] w fun e w' => e = .returned (.bool true) ∧ ∃ n, w' = w.drewN n := by
  have hnn : ((xs.length : Int) != (xs.length : Int)) = false := by simp
  have HM := Lib.hid hm
  clear hm
  go_enter Try.func55, Try.ntmps55
  go_wp2
  go_loopw [5] (fun i wr => ∃ k : Nat, k ≤ xs.length ∧ i = .int .i64 k ∧ Hid (∃ n, wr = w.drewN n)) (fun i _ => xs.length - (intOf i).toNat)
  case atStart => exact ⟨0, by omega, rfl, Lib.hid ⟨0, rfl⟩⟩
  case round =>
    obtain ⟨k, hk, rfl, hw⟩ := hrel
    have hkeep : (∀ p : Addr, wr.cell? p = w.cell? p) ∧ wr.heap.size = w.heap.size := by obtain ⟨n, rfl⟩ := hw.out; exact ⟨fun _ => rfl, rfl⟩
    by_cases hlt : k < xs.length
    · obtain ⟨b, off, A', c', l, rfl, hbl, hx, hcell, hlc, hr⟩ := secs_elem (h.keep fun p _ => hkeep.1 p) hlt
      obtain ⟨b', off', A'', c'', l', rfl, hbl', hx', hcell', hlc', hr'⟩ := secs_elem (h'.keep fun p _ => hkeep.1 p) hlt
      obtain rfl : l = l' := by rw [hx] at hx'; injection hx'
      have hll : l.length ≤ 140737488351232 := HM.out l (List.mem_of_getElem? hx)
      rw [← hkeep.2] at hr hr'
      clear hkeep hx hx'
      have i1 : (0 : Int) ≤ (k : Int) := by omega
      have i2 : (k : Int) < (xs.length : Int) := by omega
      go_wp2
      go_quiet ((go_at_call 34; exact Calls.quiet_of (eqByteS_same _ _ _ _ l _ hr hr' hll)))
      go_wp2
      go_roundw
      case rel => exact ⟨k + 1, by omega, by go_num, Lib.hid (by obtain ⟨n, rfl⟩ := hw.out; exact ⟨n + nq, by rw [World.drewN_drewN]⟩)⟩
      case measure => simp [intOf]; omega
    · have he : k = xs.length := by omega
      subst he
      clear hkeep
      go_wp2
      go_ret
      exact ⟨rfl, hw.out⟩

set_option maxHeartbeats 1000000 in
theorem eqWr_same (n : Int) (A B : Option Addr) (c d : Nat) (l : List UInt8) (w : World) (h : Reads w w.heap.size 1 A l.length (bys l)) (h' : Reads w w.heap.size 1 B l.length (bys l)) (hn : l.length ≤ 140737488351232) :
    Calls Try.prog 72 #[.agg #[.int .i64 n, .slice A l.length c], .agg #[.int .i64 n, .slice B l.length d]] w fun e w' => e = .returned (.bool true) ∧ Below w.heap.size w w' := by
  have hnn : (n != n) = false := by simp
  go_enter Try.func72, Try.ntmps72
  go_wp2_with fail
  refine (eqByteS_same A B c d l _ ?_ ?_ hn).mono ?_
  · exact ((h.alloc (Nat.le_refl _) _).alloc (by simp) _).more (by simp; omega)
  · exact ((h'.alloc (Nat.le_refl _) _).alloc (by simp) _).more (by simp; omega)
  rintro e w1 ⟨rfl, n1, rfl⟩
  go_wp2_with fail
  go_ret
  exact ⟨rfl, belowD (((Below.refl _ _).alloc (Nat.le_refl _) _).alloc (by simp) _) n1⟩

set_option maxHeartbeats 1000000 in
theorem eqWrS_same (A B : Option Addr) (c d : Nat) (xs : List Wr) (w : World) (h : Rep.RowsAt wrR w w.heap.size A xs.length xs) (h' : Rep.RowsAt wrR w w.heap.size B xs.length xs) (hn : xs.length ≤ 1048576) (hm : ∀ x, x ∈ xs → x.b.length ≤ 140737488351232) :
    Calls Try.prog 56 #[.slice A xs.length c, .slice B xs.length d] w fun e w' => e = .returned (.bool true) ∧ Below w.heap.size w w' := by
  have hnn : ((xs.length : Int) != (xs.length : Int)) = false := by simp
  have HM := Lib.hid hm
  clear hm
  go_enter Try.func56, Try.ntmps56
  go_wp2
  go_loopw [5] (fun i wr => ∃ k : Nat, k ≤ xs.length ∧ i = .int .i64 k ∧ Below w.heap.size w wr) (fun i _ => xs.length - (intOf i).toNat)
  case atStart => exact ⟨0, by omega, rfl, Below.refl _ _⟩
  case round =>
    obtain ⟨k, hk, rfl, hb⟩ := hrel
    by_cases hlt : k < xs.length
    · obtain ⟨b, off, A', c', x, rfl, hbl, hx, hcell1, hcell2, hlc, hr⟩ := wr_elem (h.keep fun p hp => hb.cell hp) hlt
      obtain ⟨b', off', A'', c'', x', rfl, hbl', hx', hcell1', hcell2', hlc', hr'⟩ := wr_elem (h'.keep fun p hp => hb.cell hp) hlt
      obtain rfl : x = x' := by rw [hx] at hx'; injection hx'
      have hll : x.b.length ≤ 140737488351232 := HM.out x (List.mem_of_getElem? hx)
      replace hr := hr.more hb.size
      replace hr' := hr'.more hb.size
      clear hx hx'
      have i1 : (0 : Int) ≤ (k : Int) := by omega
      have i2 : (k : Int) < (xs.length : Int) := by omega
      go_wp2
      go_still_tail 8, (by kernel_rfl)
      change wpList _ _ _ _ _ wr.drew
      go_wp2_with fail
      refine (eqWr_same x.n A' A'' c' c'' x.b wr.drew hr.drew hr'.drew hll).mono ?_
      rintro e w2 ⟨rfl, hb2⟩
      have hb3 : Below w.heap.size w w2 := hb.trans ((belowD (Below.refl wr.heap.size wr) 1).trans hb2 |>.mono hb.size)
      go_wp2_with fail
      go_roundw
      case rel => exact ⟨k + 1, by omega, by go_num, hb3⟩
      case measure => simp [intOf]; omega
    · have he : k = xs.length := by omega
      subst he
      go_wp2
      go_ret
      exact ⟨rfl, hb⟩

/-- The cells of a disk. -/
theorem disk_cells {w : World} {B : Nat} {d : Disk} {cs : List Value} (h : diskR.at_ w B cs d) :
    ∃ A c A' c', cs = [.slice A d.secs.length c, .slice A' d.cache.length c', .int .i64 d.fuse, .bool d.down] ∧ (d.secs.length ≤ c ∧ c ≤ maxLen) ∧ (d.cache.length ≤ c' ∧ c' ≤ maxLen) ∧ Rep.RowsAt byR w B A d.secs.length d.secs ∧ Rep.RowsAt wrR w B A' d.cache.length d.cache := by
  have hl : cs.length = 4 := Rep.len diskR h
  obtain ⟨⟨A, c, h1, hc, hr⟩, ⟨A', c', h2, hc', hr'⟩, h3, h4⟩ := h
  match cs, hl with
  | [a, b, e, f], _ =>
    replace h1 : [a] = [.slice A d.secs.length c] := h1
    replace h2 : [b] = [.slice A' d.cache.length c'] := h2
    replace h3 : [e] = [.int .i64 d.fuse] := h3
    replace h4 : [f] = [.bool d.down] := h4
    injection h1 with h1
    injection h2 with h2
    injection h3 with h3
    injection h4 with h4
    subst h1 h2 h3 h4
    exact ⟨A, c, A', c', rfl, hc, hc', hr, hr'⟩

/-- How great a disk is that came in. -/
def Fits (d : Disk) : Prop := d.secs.length ≤ 1048576 ∧ (∀ l, l ∈ d.secs → l.length ≤ 1048576) ∧ d.cache.length ≤ 1048576 ∧ (∀ x, x ∈ d.cache → x.b.length ≤ 1048576)

set_option maxHeartbeats 1000000 in
theorem eqDisk_same (cs cs' : List Value) (d : Disk) (w : World) (h : diskR.at_ w w.heap.size cs d) (h' : diskR.at_ w w.heap.size cs' d) (hf : Fits d) :
    Calls Try.prog 28 #[.agg cs.toArray, .agg cs'.toArray] w fun e w' => e = .returned (.bool true) ∧ Below w.heap.size w w' := by
  obtain ⟨A, c, A', c', rfl, _, _, hr, hr'⟩ := disk_cells h
  obtain ⟨B, e, B', e', rfl, _, _, hq, hq'⟩ := disk_cells h'
  obtain ⟨f1, f2, f3, f4⟩ := hf
  have hne : (d.fuse != d.fuse) = false := by simp
  have hnd : (d.down != d.down) = false := by simp
  have F2 := Lib.hid f2
  have F4 := Lib.hid f4
  clear f2 f4 h h'
  go_enter Try.func28, Try.ntmps28
  go_wp2_with fail
  refine (eqByteSS_same A B c e d.secs _ ?_ ?_ f1 (fun l hl => by have := F2.out l hl; omega)).mono ?_
  · exact (hr.keep fun p hp => (World.cell?_alloc_lt _ _ p (by simp; omega)).trans (World.cell?_alloc_lt _ _ p hp)).more (by simp; omega)
  · exact (hq.keep fun p hp => (World.cell?_alloc_lt _ _ p (by simp; omega)).trans (World.cell?_alloc_lt _ _ p hp)).more (by simp; omega)
  rintro e1 w1 ⟨rfl, n1, rfl⟩
  go_wp2_with fail
  refine (eqWrS_same A' B' c' e' d.cache _ ?_ ?_ f3 (fun l hl => by have := F4.out l hl; omega)).mono ?_
  · exact (hr'.keep fun p hp => (World.cell?_alloc_lt _ _ p (by simp; omega)).trans (World.cell?_alloc_lt _ _ p hp)).more (by simp; omega)
  · exact (hq'.keep fun p hp => (World.cell?_alloc_lt _ _ p (by simp; omega)).trans (World.cell?_alloc_lt _ _ p hp)).more (by simp; omega)
  rintro e2 w2 ⟨rfl, hb2⟩
  obtain ⟨hc, hf⟩ := bcell hb2
  have hW : Below w.heap.size w w2 := (belowD (((Below.refl _ _).alloc (Nat.le_refl _) _).alloc (by simp) _) n1).trans (hb2.mono (by simp; omega))
  go_wp2_with fail
  go_ret
  exact ⟨rfl, hW⟩

end Go.Proofs.Ytjhfnfffpofagaa
