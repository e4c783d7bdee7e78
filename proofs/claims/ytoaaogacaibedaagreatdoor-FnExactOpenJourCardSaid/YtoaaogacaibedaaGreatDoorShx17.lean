/- What the theorem needs, out of many texts. -/
import Derived.Test.YtoaaogacaibedaaGreatDoorShx3
import Derived.StillTailTactics
namespace Go.Proofs.YtoaaogacaibedaaGreatDoor
open Go.RowKit
set_option maxRecDepth 2000000
set_option linter.unusedVariables false
structure Wr where
 n : Int
 b : List UInt8
structure Disk where
 secs : List (List UInt8)
 cache : List Wr
 fuse : Int
 down : Bool
def byR : Rep (List UInt8) := Rep.bytes 5
def wrR : Rep Wr := (Rep.int.pair byR).iso (fun x => (x.n, x.b)) (fun p => ⟨p.1, p.2⟩)
def secsR : Rep (List (List UInt8)) := Rep.rows 22 byR
def cacheR : Rep (List Wr) := Rep.rows 100 wrR
def diskR : Rep Disk := (secsR.pair (cacheR.pair (Rep.int.pair Rep.bool))).iso (fun d => (d.secs, d.cache, d.fuse, d.down)) (fun p => ⟨p.1, p.2.1, p.2.2.1, p.2.2.2⟩)
theorem Tryz.info22 : (Tryz.prog.info? 22).map (fun i => (i.zero, i.size, i.bytes)) = some (some (.slice none 0 0), 1, 24) := by kernel_rfl
theorem secs_elem {w : World} {B n k : Nat} {A : Option Addr} {xs : List (List UInt8)} (h : Rep.RowsAt byR w B A n xs) (hk : k < n) :
  ∃ b off A' c l, A = some ⟨b, off, none⟩ ∧ b < B ∧ xs[k]? = some l ∧ w.cell? ⟨b, off + k, none⟩ = some (.slice A' l.length c) ∧ (l.length ≤ c ∧ c ≤ maxLen) ∧ Reads w B 1 A' l.length (bys l) := by
 obtain ⟨b, off, c, l, hA, hb, hx, ⟨A', c', rfl, hc, hr⟩, hcell⟩ := h.elem hk (show 0 < 1 by omega)
 have := hcell 0 _ rfl
 exact ⟨b, off, A', c', l, hA, hb, hx, by simpa [byR, Rep.bytes] using this, hc, hr⟩
set_option maxHeartbeats 1000000 in
theorem toByteSS_any (A : Option Addr) (c : Nat) (xs : List (List UInt8)) (w : World) (h : Rep.RowsAt byR w w.heap.size A xs.length xs) (hn : xs.length ≤ 1048576) (hm : ∀ l, l ∈ xs → l.length ≤ 1048576) :
  Calls Tryz.prog 69 #[.slice A xs.length c] w fun e w' => ∃ v fp, e = .returned v ∧ Rep.OwnRows byR 22 w' w.heap.size v xs fp ∧ Below w.heap.size w w' := by
 obtain ⟨i0, hi0, hz0, hz1, hz2⟩ := info_parts Tryz.info22
 go_enter Tryz.func69, Tryz.ntmps69
 go_wp2_with (at_make; refine wpList_make_full _ rfl _ _ _ rfl w.heap.size 22 i0 _ 1 Tryz.underlying24 hi0 hz0 hz1 _ _ _ _ xs.length rfl rfl rfl rfl (by rw [hz2]; omega) (by simp only [maxLen]; omega) (Nat.le_refl _) ?_; intro w1 hown1 hg1)
 have hb1 : Below w.heap.size w w1 := (Below.refl _ _).grown hg1 (Nat.le_refl _) (fun _ hk => by cases hk)
 have hz : Rep.OwnRows byR 22 w1 w.heap.size (.slice (some ⟨w.heap.size, 0, none⟩) xs.length xs.length) (halfL [] xs 0) [w.heap.size] := by
  rw [halfL_zero]
  exact rows_zero byR _ w1 _ _ _ [] [.slice none 0 0] _ hown1 (Rep.seg_made #[.slice none 0 0] _) (fun w => ⟨_, rfl, ⟨by simp [bys], .inl ⟨rfl, rfl⟩⟩, rfl⟩)
 clear hown1 hg1
 go_loopw [4] (fun i wr => ∃ (k : Nat) (fp : List Nat), k ≤ xs.length ∧ i = .int .i64 k ∧ Below w.heap.size w wr ∧ Rep.OwnRows byR 22 wr w.heap.size (.slice (some ⟨w.heap.size, 0, none⟩) xs.length xs.length) (halfL [] xs k) fp) (fun i _ => xs.length - (intOf i).toNat)
 case atStart => exact ⟨0, _, by omega, rfl, hb1, hz⟩
 case round =>
  obtain ⟨k, fp, hk, rfl, hb, hown⟩ := hrel
  clear hz hb1
  by_cases hlt : k < xs.length
  ·obtain ⟨b, off, A', c', l, rfl, hbl, hx, hcell, hlc, hr⟩ := secs_elem (h.keep fun p hp => hb.cell hp) hlt
   have hll : l.length ≤ 1048576 := hm l (List.mem_of_getElem? hx)
   have HX := Lib.hid hx
   clear hx
   go_wp2_with fail
   refine (toByteS_any A' c' l wr (hr.more hb.size) (by omega)).mono ?_
   rintro e w2 ⟨v2, rfl, hown2, hb2⟩
   obtain ⟨A2, c2, rfl, _, _, _, _⟩ := hown2.shape
   have hlh : (halfL [] xs k).length = xs.length := halfL_length _ _ _ hk
   have hown3 := hown.of_below hb2
   obtain ⟨⟨u0, hcl⟩, hfr, _, hgl⟩ := hown3.there k (by rw [hlh]; show k < xs.length * 1; omega)
   go_wp2_with fail
   obtain ⟨fp', hput⟩ := hown3.store (k := k) (x := l) [.slice A2 l.length c2] hlh hlt rfl ⟨_, rfl, hown2, rfl⟩ hb.size (fun g hg => (hown.lt g hg).2)
   rw [halfL_set [] HX.out, show k * byR.size = k from Nat.mul_one k] at hput
   have hB3 := Rep.setRow_below (g := w.heap.size) k [.slice A2 l.length c2] (hb.trans (hb2.mono hb.size)) (Nat.le_refl _)
   go_roundw
   case rel => exact ⟨k + 1, fp', by omega, by go_num, hB3, hput⟩
   case measure => simp [intOf]; omega
  ·have he : k = xs.length := by omega
   subst he
   rw [halfL_all] at hown
   go_wp2
   go_ret
   exact ⟨_, _, rfl, hown, hb⟩
set_option maxHeartbeats 1000000 in
theorem toWr_any (n : Int) (A : Option Addr) (c : Nat) (l : List UInt8) (w : World) (h : Reads w w.heap.size 1 A l.length (bys l)) (hn : l.length ≤ 1048576) :
  Calls Tryz.prog 120 #[.agg #[.int .i64 n, .slice A l.length c]] w fun e w' => ∃ v, e = .returned (.agg #[.int .i64 n, v]) ∧ Owns w' w.heap.size 5 v l ∧ Below w.heap.size w w' := by
 go_enter Tryz.func120, Tryz.ntmps120
 go_wp2_with fail
 refine (toByteS_any A c l _ ((((h.alloc (Nat.le_refl _) _).alloc (by simp) _).alloc (by simp; omega) _).more (by simp; omega)) (by omega)).mono ?_
 rintro e w2 ⟨v2, rfl, hown2, hb2⟩
 obtain ⟨A2, c2, rfl, _, _, _, _⟩ := hown2.shape
 obtain ⟨hc, hf⟩ := bcell hb2
 have hz : w.heap.size + 1 + 1 < w2.heap.size := by have := hb2.size; simp at this; omega
 go_wp2_with fail
 refine bodyPost_ret (v := .agg #[.int .i64 n, .slice A2 l.length c2]) (by simp [results, Tryz.results120, go_sem, hc]) rfl ⟨_, rfl, ?_, ?_⟩
 ·exact ownsRow_mono (((hown2.setLow (by simp) _).setLow (by simp) _).setLow (by simp) _) (by simp; omega)
 ·exact (((((((Below.refl _ _).alloc (Nat.le_refl _) _).alloc (by simp) _).alloc (by simp; omega) _).trans (hb2.mono (by simp; omega))).setCell (by simp; omega) _).setCell (by simp) _).setCell (by simp) _
theorem wr_elem {w : World} {B n k : Nat} {A : Option Addr} {xs : List Wr} (h : Rep.RowsAt wrR w B A n xs) (hk : k < n) :
  ∃ b off A' c x, A = some ⟨b, off, none⟩ ∧ b < B ∧ xs[k]? = some x ∧ w.cell? ⟨b, off + k * 2, none⟩ = some (.int .i64 x.n) ∧ w.cell? ⟨b, off + k * 2 + 1, none⟩ = some (.slice A' x.b.length c) ∧ (x.b.length ≤ c ∧ c ≤ maxLen) ∧ Reads w B 1 A' x.b.length (bys x.b) := by
 obtain ⟨b, off, c, x, hA, hb, hx, h2, hcell⟩ := h.elem hk (show 0 < 2 by omega)
 have h2' := h2
 obtain ⟨h3, A', c', h4, hc, hr⟩ := h2'
 have hl : c.length = 2 := Rep.len wrR h2
 match c, hl with
 | [u, v], _ =>
  replace h3 : [u] = [.int .i64 x.n] := h3
  replace h4 : [v] = [.slice A' x.b.length c'] := h4
  injection h3 with h3
  injection h4 with h4
  subst h3 h4
  exact ⟨b, off, A', c', x, hA, hb, hx, by have := hcell 0 _ rfl; rwa [show wrR.size = 2 from rfl] at this, by have := hcell 1 _ rfl; rwa [show wrR.size = 2 from rfl, ← Nat.add_assoc] at this, hc, hr⟩
theorem wr_own {w : World} {base : Nat} {v : Value} {x : Wr} (h : Owns w base 5 v x.b) : wrR.own w base [.int .i64 x.n, v] x v.ownBlock.toList :=
 ⟨[], v.ownBlock.toList, ⟨rfl, rfl⟩, ⟨v, rfl, h, rfl⟩, rfl, Rep.nodup_toList _⟩
theorem Tryz.info42 : (Tryz.prog.info? 100).map (fun i => (i.zero, i.size, i.bytes)) = some (some (.agg #[.int .i64 0, .slice none 0 0]), 2, 32) := by kernel_rfl
set_option maxHeartbeats 1000000 in
theorem toWrS_any (A : Option Addr) (c : Nat) (xs : List Wr) (w : World) (h : Rep.RowsAt wrR w w.heap.size A xs.length xs) (hn : xs.length ≤ 1048576) (hm : ∀ x, x ∈ xs → x.b.length ≤ 1048576) :
  Calls Tryz.prog 70 #[.slice A xs.length c] w fun e w' => ∃ v fp, e = .returned v ∧ Rep.OwnRows wrR 100 w' w.heap.size v xs fp ∧ Below w.heap.size w w' := by
 obtain ⟨i0, hi0, hz0, hz1, hz2⟩ := info_parts Tryz.info42
 go_enter Tryz.func70, Tryz.ntmps70
 go_wp2_with (at_make; refine wpList_make_full _ rfl _ _ _ rfl w.heap.size 100 i0 _ 2 Tryz.underlying25 hi0 hz0 hz1 _ _ _ _ xs.length rfl rfl rfl rfl (by rw [hz2]; omega) (by simp only [maxLen]; omega) (Nat.le_refl _) ?_; intro w1 hown1 hg1)
 have hb1 : Below w.heap.size w w1 := (Below.refl _ _).grown hg1 (Nat.le_refl _) (fun _ hk => by cases hk)
 have hz : Rep.OwnRows wrR 100 w1 w.heap.size (.slice (some ⟨w.heap.size, 0, none⟩) xs.length xs.length) (halfL ⟨0, []⟩ xs 0) [w.heap.size] := by
  rw [halfL_zero]
  exact rows_zero wrR _ w1 _ _ _ ⟨0, []⟩ [.int .i64 0, .slice none 0 0] _ hown1 (Rep.seg_made #[.int .i64 0, .slice none 0 0] _) (fun w => ⟨[], [], ⟨rfl, rfl⟩, ⟨_, rfl, ⟨by simp [bys], .inl ⟨rfl, rfl⟩⟩, rfl⟩, rfl, by simp⟩)
 clear hown1 hg1
 go_loopw [4] (fun i wr => ∃ (k : Nat) (fp : List Nat), k ≤ xs.length ∧ i = .int .i64 k ∧ Below w.heap.size w wr ∧ Rep.OwnRows wrR 100 wr w.heap.size (.slice (some ⟨w.heap.size, 0, none⟩) xs.length xs.length) (halfL ⟨0, []⟩ xs k) fp) (fun i _ => xs.length - (intOf i).toNat)
 case atStart => exact ⟨0, _, by omega, rfl, hb1, hz⟩
 case round =>
  obtain ⟨k, fp, hk, rfl, hb, hown⟩ := hrel
  clear hz hb1
  by_cases hlt : k < xs.length
  ·obtain ⟨b, off, A', c', x, rfl, hbl, hx, hcell, hcell', hlc, hr⟩ := wr_elem (h.keep fun p hp => hb.cell hp) hlt
   have hll : x.b.length ≤ 1048576 := hm x (List.mem_of_getElem? hx)
   have HX := Lib.hid hx
   clear hx
   go_wp2_with fail
   refine (toWr_any x.n A' c' x.b wr (hr.more hb.size) (by omega)).mono ?_
   rintro e w2 ⟨v2, rfl, hown2, hb2⟩
   obtain ⟨A2, c2, rfl, _, _, _, _⟩ := hown2.shape
   have hlh : (halfL (⟨0, []⟩ : Wr) xs k).length = xs.length := halfL_length _ _ _ hk
   have hown3 := hown.of_below hb2
   obtain ⟨⟨u0, hcl⟩, hfr, _, hgl⟩ := hown3.there (k * 2) (by rw [hlh]; show k * 2 < xs.length * 2; omega)
   obtain ⟨⟨u1, hcl1⟩, hfr1, _, _⟩ := hown3.there (k * 2 + 1) (by rw [hlh]; show k * 2 + 1 < xs.length * 2; omega)
   go_wp2_with fail
   obtain ⟨fp', hput⟩ := hown3.store (k := k) (x := x) [.int .i64 x.n, .slice A2 x.b.length c2] hlh hlt rfl (wr_own hown2) hb.size (fun g hg => (hown.lt g hg).2)
   rw [halfL_set _ HX.out] at hput
   have hB3 := Rep.setRow_below (g := w.heap.size) (k * 2) [.int .i64 x.n, .slice A2 x.b.length c2] (hb.trans (hb2.mono hb.size)) (Nat.le_refl _)
   go_roundw
   case rel => exact ⟨k + 1, fp', by omega, by go_num, hB3, hput⟩
   case measure => simp [intOf]; omega
  ·have he : k = xs.length := by omega
   subst he
   rw [halfL_all] at hown
   go_wp2
   go_ret
   exact ⟨_, _, rfl, hown, hb⟩
set_option maxHeartbeats 1000000 in
theorem szByteS_room (A : Option Addr) (c n : Nat) (left : Nat) (w : World) (hn : n ≤ 9223372036854775807) (hl : left ≤ 1048576) :
  Calls Tryz.prog 116 #[.slice A n c, .int .i64 left] w (Room (n ≤ 1048576) left w) := by
 by_cases h : n ≤ left
 ·have h' : ¬ ((left : Int) - (n : Int) < 0) := by omega
  go_enter Tryz.func116, Tryz.ntmps116
  go_wp2
  go_ret
  exact ⟨.inl ⟨left - n, by omega, by omega, by rw [Int.ofNat_sub h]; rfl⟩, rfl⟩
 ·go_enter Tryz.func116, Tryz.ntmps116
  go_wp2
  go_ret
  exact ⟨.inr rfl, rfl⟩
def AllLe (xs : List (List UInt8)) (k : Nat) : Prop := ∀ l, l ∈ xs.take k → l.length ≤ 1048576
theorem AllLe.zero (xs : List (List UInt8)) : AllLe xs 0 := by intro l hl; simp at hl
theorem AllLe.succ {xs : List (List UInt8)} {k : Nat} {l : List UInt8} (h : AllLe xs k) (hx : xs[k]? = some l) (hl : l.length ≤ 1048576) : AllLe xs (k + 1) := by
 intro m hm
 rw [Rep.take_get hx, List.mem_append] at hm
 rcases hm with hm | hm
 ·exact h m hm
 ·simp at hm; subst hm; exact hl
theorem AllLe.all {xs : List (List UInt8)} (h : AllLe xs xs.length) : ∀ l, l ∈ xs → l.length ≤ 1048576 := fun l hl => h l (by simpa using hl)
set_option maxHeartbeats 1000000 in
theorem szByteSS_room (A : Option Addr) (c : Nat) (xs : List (List UInt8)) (left : Nat) (w : World) (h : Rep.RowsAt byR w w.heap.size A xs.length xs) (hn : xs.length ≤ 9223372036854775807) (hl : left ≤ 1048576) :
  Calls Tryz.prog 65 #[.slice A xs.length c, .int .i64 left] w (Room (xs.length ≤ 1048576 ∧ ∀ l, l ∈ xs → l.length ≤ 1048576) left w) := by
 by_cases h1 : xs.length ≤ left
 ·have h' : ¬ ((left : Int) - (xs.length : Int) < 0) := by omega
  obtain ⟨z0, hz0, hz1⟩ : ∃ z : Nat, (left : Int) - (xs.length : Int) = z ∧ z ≤ left := ⟨left - xs.length, by omega, by omega⟩
  have HZ := Lib.hid hz0
  clear hz0
  go_enter Tryz.func65, Tryz.ntmps65
  go_wp2
  go_loop [1, 5] (fun q i => ∃ k z : Nat, k ≤ xs.length ∧ i = .int .i64 k ∧ z ≤ left ∧ q = .int .i64 z ∧ AllLe xs k) (fun _ i => xs.length - (intOf i).toNat)
  case atStart => exact ⟨0, z0, by omega, rfl, hz1, by rw [HZ.out], AllLe.zero xs⟩
  case round =>
   obtain ⟨k, z, hk, rfl, hz, rfl, hall⟩ := hrel
   by_cases hlt : k < xs.length
   ·obtain ⟨b, off, A', c', l, rfl, hbl, hx, hcell, hlc, hr⟩ := secs_elem h hlt
    have hll : l.length ≤ 9223372036854775807 := Nat.le_trans hlc.1 hlc.2
    have HX := Lib.hid hx
    clear hx
    go_wp2_with fail
    refine (szByteS_room A' c' l.length z w (by omega) (by omega)).mono ?_
    rintro e w' ⟨⟨z', hz', hb, rfl⟩ | rfl, rfl⟩
    ·go_wp2_with fail
     go_round
     case rel => exact ⟨k + 1, z', by omega, by go_num, by omega, rfl, hall.succ HX.out hb⟩
     case measure => simp [intOf]; omega
    ·go_wp2_with fail
     go_ret
     exact ⟨.inr rfl, rfl⟩
   ·have he : k = xs.length := by omega
    subst he
    go_wp2
    go_ret
    exact ⟨.inl ⟨z, hz, ⟨by omega, hall.all⟩, rfl⟩, rfl⟩
 ·go_enter Tryz.func65, Tryz.ntmps65
  go_wp2
  go_ret
  exact ⟨.inr rfl, rfl⟩
set_option maxHeartbeats 1000000 in
theorem szWr_room (n : Int) (A : Option Addr) (c m : Nat) (left : Nat) (w : World) (hn : m ≤ 9223372036854775807) (hl : left ≤ 1048576) :
  Calls Tryz.prog 117 #[.agg #[.int .i64 n, .slice A m c], .int .i64 left] w fun e w' => ((∃ z : Nat, z ≤ left ∧ m ≤ 1048576 ∧ e = .returned (.int .i64 z)) ∨ e = .returned (.int .i64 (-1))) ∧ Below w.heap.size w w' := by
 go_enter Tryz.func117, Tryz.ntmps117
 go_wp2_with fail
 refine (szByteS_room A c m left _ (by omega) (by omega)).mono ?_
 rintro e w' ⟨⟨z', hz', hb, rfl⟩ | rfl, rfl⟩
 ·go_wp2_with fail
  go_ret
  exact ⟨.inl ⟨z', hz', hb, rfl⟩, (Below.refl _ _).alloc (Nat.le_refl _) _⟩
 ·go_wp2_with fail
  go_ret
  exact ⟨.inr rfl, (Below.refl _ _).alloc (Nat.le_refl _) _⟩
set_option maxHeartbeats 1000000 in
theorem eqByteSS_same (A B : Option Addr) (c d : Nat) (xs : List (List UInt8)) (w : World) (h : Rep.RowsAt byR w w.heap.size A xs.length xs) (h' : Rep.RowsAt byR w w.heap.size B xs.length xs) (hn : xs.length ≤ 1048576) (hm : ∀ l, l ∈ xs → l.length ≤ 140737488351232) :
  Calls Tryz.prog 73 #[.slice A xs.length c, .slice B xs.length d] w fun e w' => e = .returned (.bool true) ∧ ∃ n, w' = w.drewN n := by
 have hnn : ((xs.length : Int) != (xs.length : Int)) = false := by simp
 have HM := Lib.hid hm
 clear hm
 go_enter Tryz.func73, Tryz.ntmps73
 go_wp2
 go_loopw [5] (fun i wr => ∃ k : Nat, k ≤ xs.length ∧ i = .int .i64 k ∧ Hid (∃ n, wr = w.drewN n)) (fun i _ => xs.length - (intOf i).toNat)
 case atStart => exact ⟨0, by omega, rfl, Lib.hid ⟨0, rfl⟩⟩
 case round =>
  obtain ⟨k, hk, rfl, hw⟩ := hrel
  have hkeep : (∀ p : Addr, wr.cell? p = w.cell? p) ∧ wr.heap.size = w.heap.size := by obtain ⟨n, rfl⟩ := hw.out; exact ⟨fun _ => rfl, rfl⟩
  by_cases hlt : k < xs.length
  ·obtain ⟨b, off, A', c', l, rfl, hbl, hx, hcell, hlc, hr⟩ := secs_elem (h.keep fun p _ => hkeep.1 p) hlt
   obtain ⟨b', off', A'', c'', l', rfl, hbl', hx', hcell', hlc', hr'⟩ := secs_elem (h'.keep fun p _ => hkeep.1 p) hlt
   obtain rfl : l = l' := by rw [hx] at hx'; injection hx'
   have hll : l.length ≤ 140737488351232 := HM.out l (List.mem_of_getElem? hx)
   rw [← hkeep.2] at hr hr'
   clear hkeep hx hx'
   have i1 : (0 : Int) ≤ (k : Int) := by omega
   have i2 : (k : Int) < (xs.length : Int) := by omega
   go_wp2
   go_quiet ((go_at_call 123; exact Calls.quiet_of (eqByteS_same _ _ _ _ l _ hr hr' hll)))
   go_wp2
   go_roundw
   case rel => exact ⟨k + 1, by omega, by go_num, Lib.hid (by obtain ⟨n, rfl⟩ := hw.out; exact ⟨n + nq, by rw [World.drewN_drewN]⟩)⟩
   case measure => simp [intOf]; omega
  ·have he : k = xs.length := by omega
   subst he
   clear hkeep
   go_wp2
   go_ret
   exact ⟨rfl, hw.out⟩
set_option maxHeartbeats 1000000 in
theorem eqWr_same (n : Int) (A B : Option Addr) (c d : Nat) (l : List UInt8) (w : World) (h : Reads w w.heap.size 1 A l.length (bys l)) (h' : Reads w w.heap.size 1 B l.length (bys l)) (hn : l.length ≤ 140737488351232) :
  Calls Tryz.prog 124 #[.agg #[.int .i64 n, .slice A l.length c], .agg #[.int .i64 n, .slice B l.length d]] w fun e w' => e = .returned (.bool true) ∧ Below w.heap.size w w' := by
 have hnn : (n != n) = false := by simp
 go_enter Tryz.func124, Tryz.ntmps124
 go_wp2_with fail
 refine (eqByteS_same A B c d l _ ?_ ?_ hn).mono ?_
 ·exact ((h.alloc (Nat.le_refl _) _).alloc (by simp) _).more (by simp; omega)
 ·exact ((h'.alloc (Nat.le_refl _) _).alloc (by simp) _).more (by simp; omega)
 rintro e w1 ⟨rfl, n1, rfl⟩
 go_wp2_with fail
 go_ret
 exact ⟨rfl, belowD (((Below.refl _ _).alloc (Nat.le_refl _) _).alloc (by simp) _) n1⟩
set_option maxRecDepth 2000000 in
set_option maxHeartbeats 1000000 in
theorem eqWrS_same (A B : Option Addr) (c d : Nat) (xs : List Wr) (w : World) (h : Rep.RowsAt wrR w w.heap.size A xs.length xs) (h' : Rep.RowsAt wrR w w.heap.size B xs.length xs) (hn : xs.length ≤ 1048576) (hm : ∀ x, x ∈ xs → x.b.length ≤ 140737488351232) :
  Calls Tryz.prog 74 #[.slice A xs.length c, .slice B xs.length d] w fun e w' => e = .returned (.bool true) ∧ Below w.heap.size w w' := by
 have hnn : ((xs.length : Int) != (xs.length : Int)) = false := by simp
 have HM := Lib.hid hm
 clear hm
 go_enter Tryz.func74, Tryz.ntmps74
 go_wp2
 go_loopw [5] (fun i wr => ∃ k : Nat, k ≤ xs.length ∧ i = .int .i64 k ∧ Below w.heap.size w wr) (fun i _ => xs.length - (intOf i).toNat)
 case atStart => exact ⟨0, by omega, rfl, Below.refl _ _⟩
 case round =>
  obtain ⟨k, hk, rfl, hb⟩ := hrel
  by_cases hlt : k < xs.length
  ·obtain ⟨b, off, A', c', x, rfl, hbl, hx, hcell1, hcell2, hlc, hr⟩ := wr_elem (h.keep fun p hp => hb.cell hp) hlt
   obtain ⟨b', off', A'', c'', x', rfl, hbl', hx', hcell1', hcell2', hlc', hr'⟩ := wr_elem (h'.keep fun p hp => hb.cell hp) hlt
   obtain rfl : x = x' := by rw [hx] at hx'; injection hx'
   have hll : x.b.length ≤ 140737488351232 := HM.out x (List.mem_of_getElem? hx)
   replace hr := hr.more hb.size
   replace hr' := hr'.more hb.size
   clear hx hx'
   have i1 : (0 : Int) ≤ (k : Int) := by omega
   have i2 : (k : Int) < (xs.length : Int) := by omega
   go_wp2
   go_still_tail 8, (by kernel_rfl)
   change wpList _ _ _ _ _ wr.drew
   go_wp2_with fail
   refine (eqWr_same x.n A' A'' c' c'' x.b wr.drew hr.drew hr'.drew hll).mono ?_
   rintro e w2 ⟨rfl, hb2⟩
   have hb3 : Below w.heap.size w w2 := hb.trans ((belowD (Below.refl wr.heap.size wr) 1).trans hb2 |>.mono hb.size)
   go_wp2_with fail
   go_roundw
   case rel => exact ⟨k + 1, by omega, by go_num, hb3⟩
   case measure => simp [intOf]; omega
  ·have he : k = xs.length := by omega
   subst he
   go_wp2
   go_ret
   exact ⟨rfl, hb⟩
theorem disk_cells {w : World} {B : Nat} {d : Disk} {cs : List Value} (h : diskR.at_ w B cs d) :
  ∃ A c A' c', cs = [.slice A d.secs.length c, .slice A' d.cache.length c', .int .i64 d.fuse, .bool d.down] ∧ (d.secs.length ≤ c ∧ c ≤ maxLen) ∧ (d.cache.length ≤ c' ∧ c' ≤ maxLen) ∧ Rep.RowsAt byR w B A d.secs.length d.secs ∧ Rep.RowsAt wrR w B A' d.cache.length d.cache := by
 have hl : cs.length = 4 := Rep.len diskR h
 obtain ⟨⟨A, c, h1, hc, hr⟩, ⟨A', c', h2, hc', hr'⟩, h3, h4⟩ := h
 match cs, hl with
 | [a, b, e, f], _ =>
  replace h1 : [a] = [.slice A d.secs.length c] := h1
  replace h2 : [b] = [.slice A' d.cache.length c'] := h2
  replace h3 : [e] = [.int .i64 d.fuse] := h3
  replace h4 : [f] = [.bool d.down] := h4
  injection h1 with h1
  injection h2 with h2
  injection h3 with h3
  injection h4 with h4
  subst h1 h2 h3 h4
  exact ⟨A, c, A', c', rfl, hc, hc', hr, hr'⟩
def Fits (d : Disk) : Prop := d.secs.length ≤ 1048576 ∧ (∀ l, l ∈ d.secs → l.length ≤ 1048576) ∧ d.cache.length ≤ 1048576 ∧ (∀ x, x ∈ d.cache → x.b.length ≤ 1048576)
set_option maxHeartbeats 1000000 in
theorem eqDisk_same (cs cs' : List Value) (d : Disk) (w : World) (h : diskR.at_ w w.heap.size cs d) (h' : diskR.at_ w w.heap.size cs' d) (hf : Fits d) :
  Calls Tryz.prog 25 #[.agg cs.toArray, .agg cs'.toArray] w fun e w' => e = .returned (.bool true) ∧ Below w.heap.size w w' := by
 obtain ⟨A, c, A', c', rfl, _, _, hr, hr'⟩ := disk_cells h
 obtain ⟨B, e, B', e', rfl, _, _, hq, hq'⟩ := disk_cells h'
 obtain ⟨f1, f2, f3, f4⟩ := hf
 have hne : (d.fuse != d.fuse) = false := by simp
 have hnd : (d.down != d.down) = false := by simp
 have F2 := Lib.hid f2
 have F4 := Lib.hid f4
 clear f2 f4 h h'
 go_enter Tryz.func25, Tryz.ntmps25
 go_wp2_with fail
 refine (eqByteSS_same A B c e d.secs _ ?_ ?_ f1 (fun l hl => by have := F2.out l hl; omega)).mono ?_
 ·exact (hr.keep fun p hp => (World.cell?_alloc_lt _ _ p (by simp; omega)).trans (World.cell?_alloc_lt _ _ p hp)).more (by simp; omega)
 ·exact (hq.keep fun p hp => (World.cell?_alloc_lt _ _ p (by simp; omega)).trans (World.cell?_alloc_lt _ _ p hp)).more (by simp; omega)
 rintro e1 w1 ⟨rfl, n1, rfl⟩
 go_wp2_with fail
 refine (eqWrS_same A' B' c' e' d.cache _ ?_ ?_ f3 (fun l hl => by have := F4.out l hl; omega)).mono ?_
 ·exact (hr'.keep fun p hp => (World.cell?_alloc_lt _ _ p (by simp; omega)).trans (World.cell?_alloc_lt _ _ p hp)).more (by simp; omega)
 ·exact (hq'.keep fun p hp => (World.cell?_alloc_lt _ _ p (by simp; omega)).trans (World.cell?_alloc_lt _ _ p hp)).more (by simp; omega)
 rintro e2 w2 ⟨rfl, hb2⟩
 obtain ⟨hc, hf⟩ := bcell hb2
 have hW : Below w.heap.size w w2 := (belowD (((Below.refl _ _).alloc (Nat.le_refl _) _).alloc (by simp) _) n1).trans (hb2.mono (by simp; omega))
 go_wp2_with fail
 go_ret
 exact ⟨rfl, hW⟩
def AllWr (xs : List Wr) (k : Nat) : Prop := ∀ l, l ∈ xs.take k → l.b.length ≤ 1048576
theorem AllWr.zero (xs : List Wr) : AllWr xs 0 := by intro l hl; simp at hl
theorem AllWr.succ {xs : List Wr} {k : Nat} {l : Wr} (h : AllWr xs k) (hx : xs[k]? = some l) (hl : l.b.length ≤ 1048576) : AllWr xs (k + 1) := by
 intro m hm
 rw [Rep.take_get hx, List.mem_append] at hm
 rcases hm with hm | hm
 ·exact h m hm
 ·simp at hm; subst hm; exact hl
theorem AllWr.all {xs : List Wr} (h : AllWr xs xs.length) : ∀ l, l ∈ xs → l.b.length ≤ 1048576 := fun l hl => h l (by simpa using hl)
set_option maxHeartbeats 1000000 in
theorem szWrS_room (A : Option Addr) (c : Nat) (xs : List Wr) (left : Nat) (w : World) (h : Rep.RowsAt wrR w w.heap.size A xs.length xs) (hn : xs.length ≤ 9223372036854775807) (hl : left ≤ 1048576) :
  Calls Tryz.prog 66 #[.slice A xs.length c, .int .i64 left] w (RoomB (xs.length ≤ 1048576 ∧ ∀ l, l ∈ xs → l.b.length ≤ 1048576) left w) := by
 by_cases h1 : xs.length ≤ left
 ·have h' : ¬ ((left : Int) - (xs.length : Int) < 0) := by omega
  obtain ⟨z0, hz0, hz1⟩ : ∃ z : Nat, (left : Int) - (xs.length : Int) = z ∧ z ≤ left := ⟨left - xs.length, by omega, by omega⟩
  have HZ := Lib.hid hz0
  clear hz0
  go_enter Tryz.func66, Tryz.ntmps66
  go_wp2
  go_loopw [1, 5] (fun q i wr => ∃ k z : Nat, k ≤ xs.length ∧ i = .int .i64 k ∧ z ≤ left ∧ q = .int .i64 z ∧ AllWr xs k ∧ Below w.heap.size w wr) (fun _ i _ => xs.length - (intOf i).toNat)
  case atStart => exact ⟨0, z0, by omega, rfl, hz1, by rw [HZ.out], AllWr.zero xs, Below.refl _ _⟩
  case round =>
   obtain ⟨k, z, hk, rfl, hz, rfl, hall, hb⟩ := hrel
   by_cases hlt : k < xs.length
   ·obtain ⟨b, off, A', c', x, rfl, hbl, hx, hcell1, hcell2, hlc, hr⟩ := wr_elem (h.keep fun p hp => hb.cell hp) hlt
    have hll : x.b.length ≤ 9223372036854775807 := Nat.le_trans hlc.1 hlc.2
    have HX := Lib.hid hx
    clear hx
    go_wp2_with fail
    refine (szWr_room x.n A' c' x.b.length z wr (by omega) (by omega)).mono ?_
    rintro e w' ⟨⟨z', hz', hbd, rfl⟩ | rfl, hb2⟩
    ·have hb3 := hb.trans (hb2.mono hb.size)
     go_wp2_with fail
     go_roundw
     case rel => exact ⟨k + 1, z', by omega, by go_num, by omega, rfl, hall.succ HX.out hbd, hb3⟩
     case measure => simp [intOf]; omega
    ·have hb3 := hb.trans (hb2.mono hb.size)
     go_wp2_with fail
     go_ret
     exact ⟨.inr rfl, hb3⟩
   ·have he : k = xs.length := by omega
    subst he
    go_wp2
    go_ret
    exact ⟨.inl ⟨z, hz, ⟨by omega, hall.all⟩, rfl⟩, hb⟩
 ·go_enter Tryz.func66, Tryz.ntmps66
  go_wp2
  go_ret
  exact ⟨.inr rfl, Below.refl _ _⟩
set_option maxHeartbeats 1000000 in
theorem szDisk_room (cs : List Value) (d : Disk) (left : Nat) (w : World) (h : diskR.at_ w w.heap.size cs d) (hl : left ≤ 1048576) :
  Calls Tryz.prog 20 #[.agg cs.toArray, .int .i64 left] w (RoomB (Fits d) left w) := by
 obtain ⟨A, c, A', c', rfl, hc, hc', hr, hr'⟩ := disk_cells h
 have f1 : d.secs.length ≤ 9223372036854775807 := Nat.le_trans hc.1 hc.2
 have f3 : d.cache.length ≤ 9223372036854775807 := Nat.le_trans hc'.1 hc'.2
 clear h hc hc'
 go_enter Tryz.func20, Tryz.ntmps20
 go_wp2_with fail
 refine (szByteSS_room A c d.secs left _ ?_ f1 hl).mono ?_
 ·exact (hr.keep fun p hp => World.cell?_alloc_lt _ _ p hp).more (by simp)
 rintro e1 w1 ⟨⟨z, hz, hbd, rfl⟩ | rfl, rfl⟩
 ·have HB := Lib.hid hbd
  clear hbd
  go_wp2_with fail
  refine (szWrS_room A' c' d.cache z _ ?_ f3 (by omega)).mono ?_
  ·exact (hr'.keep fun p hp => World.cell?_alloc_lt _ _ p hp).more (by simp)
  rintro e2 w2 ⟨⟨z2, hz2, hbd2, rfl⟩ | rfl, hb2⟩
  ·have HB2 := Lib.hid hbd2
   clear hbd2
   have hW := ((Below.refl w.heap.size w).alloc (Nat.le_refl _) _).trans (hb2.mono (by simp))
   go_wp2_with fail
   go_ret
   exact ⟨.inl ⟨z2, by omega, ⟨HB.out.1, HB.out.2, HB2.out.1, HB2.out.2⟩, rfl⟩, hW⟩
  ·have hW := ((Below.refl w.heap.size w).alloc (Nat.le_refl _) _).trans (hb2.mono (by simp))
   go_wp2_with fail
   go_ret
   exact ⟨.inr rfl, hW⟩
 ·go_wp2_with fail
  go_ret
  exact ⟨.inr rfl, (Below.refl _ _).alloc (Nat.le_refl _) _⟩
def OwnDisk (w : World) (base : Nat) (v : Value) (d : Disk) (fp : List Nat) : Prop := ∃ cs, v = .agg cs.toArray ∧ diskR.own w base cs d fp
theorem disk_own {w : World} {base B : Nat} {v v' : Value} {d : Disk} {f f' : List Nat} (h : Rep.OwnRows byR 22 w base v d.secs f) (h' : Rep.OwnRows wrR 100 w B v' d.cache f') (hB : base ≤ B) (hf : ∀ g, g ∈ f → g < B) :
  diskR.own w base [v, v', .int .i64 d.fuse, .bool d.down] d (f ++ f') := by
 have hn1 : f.Nodup := Rep.nodup secsR (w := w) (base := base) (cs := [v]) (x := d.secs) ⟨v, rfl, h⟩
 have hn2 : f'.Nodup := Rep.nodup cacheR (w := w) (base := B) (cs := [v']) (x := d.cache) ⟨v', rfl, h'⟩
 refine ⟨f, f', ⟨v, rfl, h⟩, ⟨f', [], ⟨v', rfl, h'.low hB⟩, ⟨[], [], ⟨rfl, rfl⟩, ⟨rfl, rfl⟩, rfl, by simp⟩, by simp, by simpa using hn2⟩, by simp, ?_⟩
 exact Rep.nodup_append_of hn1 hn2 fun a ha ha' => by have := hf a ha; have := (h'.lt a ha').1; omega
set_option maxHeartbeats 1000000 in
theorem toDisk_any (cs : List Value) (d : Disk) (w : World) (h : diskR.at_ w w.heap.size cs d) (hs : Fits d) :
  Calls Tryz.prog 22 #[.agg cs.toArray] w fun e w' => ∃ v fp, e = .returned v ∧ OwnDisk w' w.heap.size v d fp ∧ Below w.heap.size w w' := by
 obtain ⟨A, c, A', c', rfl, _, _, hr, hr'⟩ := disk_cells h
 obtain ⟨f1, f2, f3, f4⟩ := hs
 have F2 := Lib.hid f2
 have F4 := Lib.hid f4
 clear f2 f4 h
 go_enter Tryz.func22, Tryz.ntmps22
 go_wp2_with fail
 have hW0 := ((((Below.refl w.heap.size w).alloc (Nat.le_refl _) (.cells #[.slice A d.secs.length c, .slice A' d.cache.length c', .int .i64 d.fuse, .bool d.down] 50)).alloc (by simp) (.cells #[.slice none 0 0, .slice none 0 0, .int .i64 0, .bool false] 27)).alloc (by simp; omega) (.cells #[.slice none 0 0, .slice none 0 0, .int .i64 0, .bool false] 27))
 refine (toByteSS_any A c d.secs _ ((hr.keep fun p hp => hW0.cell hp).more hW0.size) f1 F2.out).mono ?_
 rintro e1 w1 ⟨v1, fp1, rfl, hown1, hb1⟩
 have hW1 := hW0.trans (hb1.mono hW0.size)
 clear hW0
 obtain ⟨A1, c1, rfl, _, _, _⟩ := hown1.reads
 obtain ⟨hc, hf⟩ := bcell hb1
 have hz : w.heap.size + 1 + 1 < w1.heap.size := by have := hb1.size; simp at this; omega
 have hz0 : w.heap.size < w1.heap.size := by omega
 have hz1 : w.heap.size + 1 < w1.heap.size := by omega
 go_wp2_with fail
 have hW2 : Below w.heap.size w (w1.setCell ⟨w.heap.size + 1 + 1, 0, none⟩ (.slice A1 d.secs.length c1)) := hW1.setCell (by simp; omega) _
 refine (toWrS_any A' c' d.cache _ ((hr'.keep fun p hp => hW2.cell hp).more hW2.size) f3 F4.out).mono ?_
 rintro e2 w2 ⟨v2, fp2, rfl, hown2, hb2⟩
 have hW3 := hW2.trans (hb2.mono hW2.size)
 obtain ⟨A2, c2, rfl, _, _, _⟩ := hown2.reads
 have hown1' : Rep.OwnRows byR 22 w2 (w.heap.size + 1 + 1 + 1) (.slice A1 d.secs.length c1) d.secs fp1 := by
  refine (((hown1.low (base' := w.heap.size + 1 + 1 + 1) (by simp)).kept (w' := w1.setCell ⟨w.heap.size + 1 + 1, 0, none⟩ (.slice A1 d.secs.length c1)) fun g hg => heap_setCell_other _ _ _ _ ?_)).of_below hb2
  have := (hown1.lt g hg).1
  simp at this ⊢
  omega
 have hlt1 : ∀ g, g ∈ fp1 → g < w1.heap.size := fun g hg => (hown1.lt g hg).2
 obtain ⟨hc', hf'⟩ := bcell hb2
 have hz2 : w1.heap.size ≤ w2.heap.size := by have := hb2.size; simpa using this
 go_wp2_with fail
 refine bodyPost_ret (v := .agg #[.slice A1 d.secs.length c1, .slice A2 d.cache.length c2, .int .i64 d.fuse, .bool d.down]) (by simp [results, Tryz.results22, go_sem, hc, hc', hz1]) rfl ⟨_, fp1 ++ fp2, rfl, ⟨_, rfl, ?_⟩, ?_⟩
 ·refine diskR.low (base := w.heap.size + 1 + 1 + 1) ?_ (by omega)
  repeat (refine Rep.setLow ?_ (by first | (simp; done) | (simp; omega)) _)
  exact disk_own hown1' hown2 (by simp; omega) (fun g hg => by have := hlt1 g hg; simpa using this)
 ·repeat (refine Below.setCell ?_ (by first | (simp; done) | (simp; omega)) _)
  exact hW3
set_option maxHeartbeats 1000000 in
theorem markByteSS_row (g c k0 : Nat) (xs : List (List UInt8)) (fp : List Nat) (w : World) (base : Nat) (h : Rep.OwnRows byR 22 w base (.slice (some ⟨g, 0, none⟩) xs.length c) xs fp) (hn : xs.length ≤ 1048576) (hm : ∀ l, l ∈ xs → l.length ≤ 1048576) (hk0 : k0 ≤ 4398046511104) (hcnt : Rep.cntL byR xs ≤ 4398046511104) :
  Calls Tryz.prog 75 #[.slice (some ⟨g, 0, none⟩) xs.length c, .int .i64 k0] w fun e w' => e = .returned (.int .i64 (k0 + Rep.cntL byR xs : Nat)) ∧ Rep.OwnRows byR 22 w' base (.slice (some ⟨g, 0, none⟩) xs.length c) (Rep.mkL byR k0 xs) fp ∧ Rep.Only w w' fp := by
 have HM := Lib.hid hm
 clear hm
 go_enter Tryz.func75, Tryz.ntmps75
 go_wp2
 go_loopw [1, 5] (fun q i wr => ∃ k : Nat, k ≤ xs.length ∧ i = .int .i64 k ∧ q = .int .i64 (k0 + Rep.cntL byR (xs.take k) : Nat) ∧ Rep.Only w wr fp ∧ Rep.OwnRows byR 22 wr base (.slice (some ⟨g, 0, none⟩) xs.length c) (Rep.mkTo byR k0 k xs) fp) (fun _ i _ => xs.length - (intOf i).toNat)
 case atStart => exact ⟨0, by omega, rfl, by simp [Rep.cntL], Rep.Only.refl _ _, by rw [Rep.mkTo_zero]; exact h⟩
 case round =>
  obtain ⟨k, hk, rfl, rfl, ho, hown⟩ := hrel
  clear h
  by_cases hlt : k < xs.length
  ·obtain ⟨l, hx⟩ := Rep.getElem?_of_lt rfl hlt
   have hll := HM.out l (List.mem_of_getElem? hx)
   have HX := Lib.hid hx
   clear hx
   obtain ⟨cs, f, ⟨v, rfl, hv, hfv⟩, hcell, hfr, hsub, hg1, hg2, hg3, hg4, hclose, _⟩ := hown.open_ (Rep.mkTo_get byR HX.out)
   have hc0 := hcell 0 v rfl
   replace hc0 : wr.cell? ⟨g, k, none⟩ = some v := by rw [show k * byR.size + 0 = k from Nat.mul_one k] at hc0; exact hc0
   obtain ⟨A', c', rfl, _, _, _, _⟩ := hv.shape
   have hkc := Rep.cntL_le byR xs k
   have HC := Lib.hid hclose
   have HF := Lib.hid hfv
   have HS := Lib.hid hsub
   clear hclose hfv hcell hsub
   go_wp2_with fail
   refine (markByteS_any _ (k0 + Rep.cntL byR (xs.take k)) l wr base hv (by omega) (by omega)).mono ?_
   rintro e w2 ⟨rfl, hv2, hgr⟩
   have hon : Rep.Only wr w2 f := Rep.Only.of_grown hgr (fun a ha => by rw [HF.out]; simpa using ha)
   have hown2 := HC.out w2 (marks (k0 + Rep.cntL byR (xs.take k)) l.length) (hon.block g hg4 hg2) ⟨_, rfl, by unfold Owns; rw [marks_length]; exact (by unfold Owns at hv2; rw [marks_length] at hv2; exact hv2), HF.out⟩ (fun a ha _ haf => hon.block a (hown.lt a ha).2 haf)
   have HE := Lib.hid (Rep.mkTo_succ byR (k := k0) HX.out)
   have HN := Lib.hid (Rep.cntL_succ byR HX.out)
   have ho2 := ho.trans (hon.mono HS.out)
   clear hgr
   go_wp2_with fail
   go_roundw
   case rel => exact ⟨k + 1, by omega, by go_num, by rw [HN.out]; exact congrArg (Value.int .i64) (by show _ = ((k0 + (Rep.cntL byR (xs.take k) + l.length) : Nat) : Int); omega), ho2, by rw [HE.out]; exact hown2⟩
   case measure => simp [intOf]; omega
  ·have he : k = xs.length := by omega
   subst he
   rw [Rep.mkTo_all] at hown
   have HT : Hid (xs.take xs.length = xs) := Lib.hid List.take_length
   go_wp2
   go_ret
   exact ⟨by rw [HT.out]; rfl, hown, ho⟩
theorem cntL_bound {α : Type} (R : Rep α) (xs : List α) (M : Nat) (h : ∀ x, x ∈ xs → R.cnt x ≤ M) : Rep.cntL R xs ≤ xs.length * M := by
 induction xs with
 | nil => simp [Rep.cntL]
 | cons x xs ih =>
  have h1 := h x (by simp)
  have h2 := ih fun y hy => h y (by simp [hy])
  simp only [Rep.cntL, List.length_cons, Nat.add_mul, Nat.one_mul]
  omega
theorem cnt_secs {xs : List (List UInt8)} (hn : xs.length ≤ 1048576) (hm : ∀ l, l ∈ xs → l.length ≤ 1048576) : Rep.cntL byR xs ≤ 1099511627776 :=
 Nat.le_trans (cntL_bound byR xs 1048576 hm) (by omega)
theorem cnt_cache {xs : List Wr} (hn : xs.length ≤ 1048576) (hm : ∀ x, x ∈ xs → x.b.length ≤ 1048576) : Rep.cntL wrR xs ≤ 2199023255552 :=
 Nat.le_trans (cntL_bound wrR xs 1048577 (fun x hx => by have := hm x hx; show 1 + x.b.length ≤ _; omega)) (by omega)
set_option maxHeartbeats 400000 in
theorem markByteSS_any (v : Value) (k0 : Nat) (xs : List (List UInt8)) (fp : List Nat) (w : World) (base : Nat) (h : Rep.OwnRows byR 22 w base v xs fp) (hn : xs.length ≤ 1048576) (hm : ∀ l, l ∈ xs → l.length ≤ 1048576) (hk0 : k0 ≤ 4398046511104) :
  Calls Tryz.prog 75 #[v, .int .i64 k0] w fun e w' => e = .returned (.int .i64 (k0 + Rep.cntL byR xs : Nat)) ∧ Rep.OwnRows byR 22 w' base v (Rep.mkL byR k0 xs) fp ∧ Rep.Only w w' fp := by
 obtain ⟨cells, fps, ho, hr⟩ := id h
 rcases ho.2 with ⟨rfl, h0⟩ | ⟨g, cap, cur, rfl, _⟩
 ·have hl : xs = [] := List.eq_nil_of_length_eq_zero h0
  subst hl
  clear h0 ho hr
  go_enter Tryz.func75, Tryz.ntmps75
  go_wp2
  refine wp_loop_rounds 1 ?_
  rw [rounds_succ]
  go_wp2
  go_ret
  exact ⟨rfl, h, Rep.Only.refl _ _⟩
 ·exact markByteSS_row g cap k0 xs fp w base h hn hm hk0 (Nat.le_trans (cnt_secs hn hm) (by omega))
theorem wr_inv {w : World} {base : Nat} {cs : List Value} {x : Wr} {f : List Nat} (h : wrR.own w base cs x f) : ∃ v, cs = [.int .i64 x.n, v] ∧ Owns w base 5 v x.b ∧ f = v.ownBlock.toList := by
 have hl : cs.length = 2 := Rep.len wrR (Rep.reads wrR h)
 obtain ⟨f1, f2, ⟨h1, hf1⟩, ⟨v, h2, hv, hfv⟩, hff, hnd⟩ := h
 match cs, hl with
 | [a, b], _ =>
  replace h1 : [a] = [.int .i64 x.n] := h1
  replace h2 : [b] = [v] := h2
  injection h1 with h1
  injection h2 with h2
  subst h1 h2 hf1
  exact ⟨b, rfl, hv, by simpa using hff.trans (by simpa using hfv)⟩
set_option maxHeartbeats 1000000 in
theorem markWrS_row (g c k0 : Nat) (xs : List Wr) (fp : List Nat) (w : World) (base : Nat) (h : Rep.OwnRows wrR 100 w base (.slice (some ⟨g, 0, none⟩) xs.length c) xs fp) (hn : xs.length ≤ 1048576) (hm : ∀ l, l ∈ xs → l.b.length ≤ 1048576) (hk0 : k0 ≤ 4398046511104) (hcnt : Rep.cntL wrR xs ≤ 4398046511104) :
  Calls Tryz.prog 76 #[.slice (some ⟨g, 0, none⟩) xs.length c, .int .i64 k0] w fun e w' => e = .returned (.int .i64 (k0 + Rep.cntL wrR xs : Nat)) ∧ Rep.OwnRows wrR 100 w' base (.slice (some ⟨g, 0, none⟩) xs.length c) (Rep.mkL wrR k0 xs) fp ∧ Rep.Only w w' fp := by
 have HM := Lib.hid hm
 clear hm
 go_enter Tryz.func76, Tryz.ntmps76
 go_wp2
 go_loopw [1, 5] (fun q i wr => ∃ k m : Nat, k ≤ xs.length ∧ i = .int .i64 k ∧ q = .int .i64 m ∧ Hid (m = k0 + Rep.cntL wrR (xs.take k)) ∧ Rep.Only w wr fp ∧ Rep.OwnRows wrR 100 wr base (.slice (some ⟨g, 0, none⟩) xs.length c) (Rep.mkTo wrR k0 k xs) fp) (fun _ i _ => xs.length - (intOf i).toNat)
 case atStart => exact ⟨0, k0, by omega, rfl, rfl, Lib.hid (by simp [Rep.cntL]), Rep.Only.refl _ _, by rw [Rep.mkTo_zero]; exact h⟩
 case round =>
  obtain ⟨k, m, hk, rfl, rfl, hm, ho, hown⟩ := hrel
  clear h
  by_cases hlt : k < xs.length
  ·obtain ⟨x, hx⟩ := Rep.getElem?_of_lt rfl hlt
   have hll := HM.out x (List.mem_of_getElem? hx)
   have HX := Lib.hid hx
   clear hx
   obtain ⟨cs, f, hx1, hcell, hfr, hsub, hg1, hg2, hg3, hg4, _, hclose⟩ := hown.open_ (Rep.mkTo_get wrR HX.out)
   obtain ⟨v, rfl, hv, hfv⟩ := wr_inv hx1
   have hc0 := hcell 0 _ rfl
   rw [show wrR.size = 2 from rfl] at hc0
   rw [Nat.add_zero] at hc0
   have hkc := Rep.cntL_le wrR xs k
   have hm1 : m ≤ 8796093022208 := by have := hm.out; omega
   clear hkc
   have hf0 := hfr (k * 2)
   have HCL := Lib.hid hclose
   have HF := Lib.hid hfv
   have HE := Lib.hid (Rep.mkTo_succ wrR (k := k0) HX.out)
   have HN := Lib.hid (Rep.cntL_succ wrR HX.out)
   have hlk : k < (Rep.mkTo wrR k0 k xs).length := by rw [Rep.mkTo_length _ _ _ _ hk]; exact hlt
   clear hclose hfv hcell hsub hfr
   -- the number
   have hown1 := HCL.out ⟨(m : Int), x.b⟩ 0 (.int .i64 (m : Int)) (by show 0 < 2; omega)
    (by rw [HF.out]; exact wr_own (x := ⟨_, x.b⟩) (Rep.ownsRow_block hv (fun a ha => heap_setCell_other _ _ _ _ (fun e => hg2 (by rw [HF.out, show g = a from e.symm]; exact ha)))))
   rw [show k * wrR.size + 0 = k * 2 from rfl] at hown1
   have ho1 : Rep.Only wr (wr.setCell ⟨g, k * 2, none⟩ (.int .i64 (m : Int))) fp := Rep.Only.setCell _ hg1 _
   obtain ⟨cs1, f1, hx2, hcell, hfr, hsub, _, hg5, _, hg6, hclose, _⟩ := hown1.open_ (k := k) (x := ⟨(m : Int), x.b⟩) (List.getElem?_set_self hlk)
   obtain ⟨v', rfl, hv', hfv'⟩ := wr_inv hx2
   obtain ⟨A', c', rfl, _, _, _, _⟩ := hv'.shape
   have hc1 := hcell 1 _ rfl
   rw [show wrR.size = 2 from rfl] at hc1
   have HC := Lib.hid hclose
   have HF' := Lib.hid hfv'
   have HS := Lib.hid hsub
   have HB : Hid (x.b.length = x.b.length) := Lib.hid rfl
   clear hclose hfv' hcell hsub hfr hx1 hx2
   go_wp2_with fail
   refine (markByteS_any _ (m + 1) x.b _ base hv' (by omega) (by omega)).mono ?_
   rintro e w2 ⟨rfl, hv2, hgr⟩
   have hon : Rep.Only (wr.setCell ⟨g, k * 2, none⟩ (.int .i64 (m : Int))) w2 f1 := Rep.Only.of_grown hgr (fun a ha => by rw [HF'.out]; simpa using ha)
   have hown2 := HC.out w2 ⟨(m : Int), marks (m + 1) x.b.length⟩ (hon.block g hg6 hg5) (by rw [HF'.out]; exact wr_own (x := ⟨_, _⟩) (by unfold Owns; rw [marks_length]; exact (by unfold Owns at hv2; rw [marks_length] at hv2; exact hv2))) (fun a ha _ haf => hon.block a (hown1.lt a ha).2 haf)
   rw [List.set_set] at hown2
   have ho2 := (ho.trans ho1).trans (hon.mono HS.out)
   clear hgr
   go_wp2_with fail
   go_roundw
   case rel => exact ⟨k + 1, m + 1 + x.b.length, by omega, by go_num, by go_num, Lib.hid (by rw [HN.out, hm.out]; show _ = k0 + (_ + (1 + x.b.length)); omega), ho2, by rw [HE.out, ← hm.out]; exact hown2⟩
   case measure => simp [intOf]; omega
  ·have he : k = xs.length := by omega
   subst he
   rw [Rep.mkTo_all] at hown
   have HT : Hid (xs.take xs.length = xs) := Lib.hid List.take_length
   go_wp2
   go_ret
   exact ⟨by rw [hm.out, HT.out]; rfl, hown, ho⟩
set_option maxHeartbeats 400000 in
theorem markWrS_any (v : Value) (k0 : Nat) (xs : List Wr) (fp : List Nat) (w : World) (base : Nat) (h : Rep.OwnRows wrR 100 w base v xs fp) (hn : xs.length ≤ 1048576) (hm : ∀ l, l ∈ xs → l.b.length ≤ 1048576) (hk0 : k0 ≤ 4398046511104) :
  Calls Tryz.prog 76 #[v, .int .i64 k0] w fun e w' => e = .returned (.int .i64 (k0 + Rep.cntL wrR xs : Nat)) ∧ Rep.OwnRows wrR 100 w' base v (Rep.mkL wrR k0 xs) fp ∧ Rep.Only w w' fp := by
 obtain ⟨cells, fps, ho, hr⟩ := id h
 rcases ho.2 with ⟨rfl, h0⟩ | ⟨g, cap, cur, rfl, _⟩
 ·have hl : xs = [] := List.eq_nil_of_length_eq_zero h0
  subst hl
  clear h0 ho hr
  go_enter Tryz.func76, Tryz.ntmps76
  go_wp2
  refine wp_loop_rounds 1 ?_
  rw [rounds_succ]
  go_wp2
  go_ret
  exact ⟨rfl, h, Rep.Only.refl _ _⟩
 ·exact markWrS_row g cap k0 xs fp w base h hn hm hk0 (Nat.le_trans (cnt_cache hn hm) (by omega))
theorem disk_inv {w : World} {base : Nat} {cs : List Value} {d : Disk} {fp : List Nat} (h : diskR.own w base cs d fp) :
  ∃ v v' f f', cs = [v, v', .int .i64 d.fuse, .bool d.down] ∧ Rep.OwnRows byR 22 w base v d.secs f ∧ Rep.OwnRows wrR 100 w base v' d.cache f' ∧ fp = f ++ f' ∧ fp.Nodup := by
 have hl : cs.length = 4 := Rep.len diskR (Rep.reads diskR h)
 obtain ⟨f, f', ⟨v, h1, ho⟩, ⟨g, g', ⟨v', h2, ho'⟩, ⟨q, q', ⟨h3, hq⟩, ⟨h4, hq'⟩, hqq, _⟩, hgg, _⟩, hff, hn⟩ := h
 match cs, hl with
 | [a, b, e, u], _ =>
  replace h1 : [a] = [v] := h1
  replace h2 : [b] = [v'] := h2
  replace h3 : [e] = [.int .i64 d.fuse] := h3
  replace h4 : [u] = [.bool d.down] := h4
  injection h1 with h1
  injection h2 with h2
  injection h3 with h3
  injection h4 with h4
  subst h1 h2 h3 h4 hq hq'
  refine ⟨a, b, f, g, rfl, ho, ho', ?_, hn⟩
  rw [hff, hgg, hqq]
  simp
def markD (k : Nat) (d : Disk) : Disk := ⟨Rep.mkL byR k d.secs, Rep.mkL wrR (k + Rep.cntL byR d.secs) d.cache, d.fuse, d.down⟩
def cntD (d : Disk) : Nat := Rep.cntL byR d.secs + Rep.cntL wrR d.cache
theorem cntD_le {d : Disk} (h : Fits d) : cntD d ≤ 3298534883328 := by
 have h1 := cnt_secs h.1 h.2.1
 have h2 := cnt_cache h.2.2.1 h.2.2.2
 unfold cntD
 omega
set_option maxHeartbeats 1000000 in
theorem markDisk_any (cs : List Value) (k0 : Nat) (d : Disk) (fp : List Nat) (w : World) (base : Nat) (h : diskR.own w base cs d fp) (hs : Fits d) (hk0 : k0 ≤ 1048576) :
  Calls Tryz.prog 29 #[.agg cs.toArray, .int .i64 k0] w fun e w' => e = .returned (.int .i64 (k0 + cntD d : Nat)) ∧ diskR.own w' base cs (markD k0 d) fp ∧ Rep.Only w w' fp := by
 obtain ⟨v, v', f, f', rfl, h1, h2, rfl, hnd⟩ := disk_inv h
 obtain ⟨s1, s2, s3, s4⟩ := hs
 have hd := cntD_le ⟨s1, s2, s3, s4⟩
 have c1 := cnt_secs s1 s2
 have c2 := cnt_cache s3 s4
 have S2 := Lib.hid s2
 have S4 := Lib.hid s4
 have HN := Lib.hid hnd
 clear s2 s4 hnd h
 obtain ⟨A, c, rfl, _, _, _⟩ := h1.reads
 obtain ⟨A', c', rfl, _, _, _⟩ := h2.reads
 have hlt1 : ∀ g, g ∈ f → g < w.heap.size := fun g hg => (h1.lt g hg).2
 have hlt2 : ∀ g, g ∈ f' → g < w.heap.size := fun g hg => (h2.lt g hg).2
 have H1 := Lib.hid hlt1
 have H2 := Lib.hid hlt2
 clear hlt1 hlt2
 go_enter Tryz.func29, Tryz.ntmps29
 go_wp2_with fail
 have ha : ∀ (o : Obj) (g : Nat), g < w.heap.size → (w.alloc o).heap[g]? = w.heap[g]? := fun o g hg => Below.heap_alloc w o g hg
 have HA := Lib.hid ha
 clear ha
 refine (markByteSS_any (.slice A d.secs.length c) k0 d.secs f _ base (h1.kept fun g hg => HA.out _ g (H1.out g hg)) s1 S2.out (by omega)).mono ?_
 rintro e1 w1 ⟨rfl, hm1, ho1⟩
 obtain ⟨m, hm, hmb⟩ : ∃ m : Nat, m = k0 + Rep.cntL byR d.secs ∧ m ≤ 1099512676352 := ⟨_, rfl, by omega⟩
 rw [← hm]
 have HM := Lib.hid hm
 clear hm
 have hdis : ∀ g, g ∈ f' → g ∉ f := fun g hg hg' => (List.nodup_append.1 HN.out).2.2 g hg' g hg rfl
 have hD := Lib.hid hdis
 clear hdis
 have hcB : ∀ o, w1.cell? ⟨w.heap.size, o, none⟩ = (w.alloc (.cells #[.slice A d.secs.length c, .slice A' d.cache.length c', .int .i64 d.fuse, .bool d.down] 27)).cell? ⟨w.heap.size, o, none⟩ := fun o =>
  World.cell?_of_block (ho1.block w.heap.size (by simp) (fun hg => by have := H1.out _ hg; omega))
 have hm2 : Rep.OwnRows wrR 100 w1 base (.slice A' d.cache.length c') d.cache f' := (h2.kept fun g hg => HA.out _ g (H2.out g hg)).kept fun g hg => ho1.block g (by have := H2.out g hg; simp; omega) (hD.out g hg)
 go_wp2_with fail
 refine (markWrS_any (.slice A' d.cache.length c') m d.cache f' w1 base hm2 s3 S4.out (by omega)).mono ?_
 rintro e2 w2 ⟨rfl, hm3, ho2⟩
 clear hcB
 go_wp2_with fail
 go_ret
 refine ⟨by rw [HM.out]; exact congrArg (fun z : Nat => Ending.returned (.int .i64 (z : Int))) (by unfold cntD; omega), ⟨f, f', ⟨_, rfl, ?_⟩, ⟨f', [], ⟨_, rfl, by rw [HM.out] at hm3; exact hm3⟩, ⟨[], [], ⟨rfl, rfl⟩, ⟨rfl, rfl⟩, rfl, by simp⟩, by simp, ?_⟩, rfl, HN.out⟩, ?_⟩
 ·exact hm1.kept fun g hg => ho2.block g (hm1.lt g hg).2 (fun hg' => hD.out g hg' hg)
 ·exact (List.nodup_append.1 HN.out).2.1
 ·have h0 : Rep.Only w (w.alloc (.cells #[.slice A d.secs.length c, .slice A' d.cache.length c', .int .i64 d.fuse, .bool d.down] 27)) (f ++ f') := ⟨rfl, rfl, rfl, by simp, fun k hk _ => HA.out _ k hk⟩
  exact h0.trans ((ho1.mono (by simp +contextual)).trans (ho2.mono (by simp +contextual)))
set_option maxHeartbeats 1000000 in
theorem heldByteSS_any (A : Option Addr) (c k0 : Nat) (xs : List (List UInt8)) (w : World) (h : Rep.RowsAt byR w w.heap.size A xs.length (Rep.mkL byR k0 xs)) (hn : xs.length ≤ 1048576) (hm : ∀ l, l ∈ xs → l.length ≤ 1048576) (hk0 : k0 ≤ 4398046511104) :
  Calls Tryz.prog 77 #[.slice A xs.length c, .int .i64 k0] w fun e w' => e = .returned (.int .i64 (k0 + Rep.cntL byR xs : Nat)) ∧ w = w' := by
 have hcnt := cnt_secs hn hm
 have HM := Lib.hid hm
 clear hm
 go_enter Tryz.func77, Tryz.ntmps77
 go_wp2
 go_loop [1, 5] (fun q i => ∃ k m : Nat, k ≤ xs.length ∧ i = .int .i64 k ∧ q = .int .i64 m ∧ Hid (m = k0 + Rep.cntL byR (xs.take k))) (fun _ i => xs.length - (intOf i).toNat)
 case atStart => exact ⟨0, k0, by omega, rfl, rfl, Lib.hid (by simp [Rep.cntL])⟩
 case round =>
  obtain ⟨k, m, hk, rfl, rfl, hm⟩ := hrel
  have hkc := Rep.cntL_le byR xs k
  have hm1 : m ≤ 8796093022208 := by have := hm.out; omega
  by_cases hlt : k < xs.length
  ·obtain ⟨l, hx⟩ := Rep.getElem?_of_lt (xs := xs) rfl hlt
   have hll := HM.out l (List.mem_of_getElem? hx)
   have HX := Lib.hid hx
   clear hx
   obtain ⟨b, off, A', c', l', rfl, hbl, hx', hcell, hlc, hr⟩ := secs_elem h hlt
   obtain rfl : marks m l.length = l' := by rw [Rep.mkL_get byR HX.out] at hx'; injection hx' with hx'; rw [hm.out]; exact hx'
   have HN := Lib.hid (Rep.cntL_succ byR HX.out)
   rw [marks_length] at hcell hr
   clear hx'
   go_wp2_with fail
   refine (heldByteS_any A' c' m l.length w hr (by omega) (by omega)).mono ?_
   rintro e w' ⟨rfl, rfl⟩
   have hneg : ¬ ((m : Int) + (l.length : Int) < 0) := by omega
   go_wp2_with fail
   go_round
   case rel => exact ⟨k + 1, m + l.length, by omega, by go_num, by go_num, Lib.hid (by rw [HN.out, hm.out]; show _ = k0 + (_ + l.length); omega)⟩
   case measure => simp [intOf]; omega
  ·have he : k = xs.length := by omega
   subst he
   have HT : Hid (xs.take xs.length = xs) := Lib.hid List.take_length
   go_wp2
   go_ret
   exact ⟨by rw [hm.out, HT.out]; rfl, rfl⟩
set_option maxHeartbeats 1000000 in
theorem heldWrS_any (A : Option Addr) (c k0 : Nat) (xs : List Wr) (w : World) (h : Rep.RowsAt wrR w w.heap.size A xs.length (Rep.mkL wrR k0 xs)) (hn : xs.length ≤ 1048576) (hm : ∀ l, l ∈ xs → l.b.length ≤ 1048576) (hk0 : k0 ≤ 4398046511104) :
  Calls Tryz.prog 78 #[.slice A xs.length c, .int .i64 k0] w fun e w' => e = .returned (.int .i64 (k0 + Rep.cntL wrR xs : Nat)) ∧ w = w' := by
 have hcnt := cnt_cache hn hm
 have HM := Lib.hid hm
 clear hm
 go_enter Tryz.func78, Tryz.ntmps78
 go_wp2
 go_loop [1, 5] (fun q i => ∃ k m : Nat, k ≤ xs.length ∧ i = .int .i64 k ∧ q = .int .i64 m ∧ Hid (m = k0 + Rep.cntL wrR (xs.take k))) (fun _ i => xs.length - (intOf i).toNat)
 case atStart => exact ⟨0, k0, by omega, rfl, rfl, Lib.hid (by simp [Rep.cntL])⟩
 case round =>
  obtain ⟨k, m, hk, rfl, rfl, hm⟩ := hrel
  have hkc := Rep.cntL_le wrR xs k
  have hm1 : m ≤ 8796093022208 := by have := hm.out; omega
  by_cases hlt : k < xs.length
  ·obtain ⟨l, hx⟩ := Rep.getElem?_of_lt (xs := xs) rfl hlt
   have hll := HM.out l (List.mem_of_getElem? hx)
   have HX := Lib.hid hx
   clear hx
   obtain ⟨b, off, A', c', l', rfl, hbl, hx', hcell1, hcell2, hlc, hr⟩ := wr_elem h hlt
   obtain rfl : (⟨(m : Int), marks (m + 1) l.b.length⟩ : Wr) = l' := by rw [Rep.mkL_get wrR HX.out] at hx'; injection hx' with hx'; rw [hm.out]; exact hx'
   have HN := Lib.hid (Rep.cntL_succ wrR HX.out)
   replace hr : Reads w w.heap.size 1 A' l.b.length (bys (marks (m + 1) l.b.length)) := by simpa [marks_length] using hr
   replace hcell2 : w.cell? ⟨b, off + k * 2 + 1, none⟩ = some (.slice A' l.b.length c') := by simpa [marks_length] using hcell2
   replace hcell1 : w.cell? ⟨b, off + k * 2, none⟩ = some (.int .i64 (m : Int)) := hcell1
   have hmm : ((m : Int) != (m : Int)) = false := by simp
   clear hx'
   go_wp2_with fail
   refine (heldByteS_any A' c' (m + 1) l.b.length w hr (by omega) (by omega)).mono ?_
   rintro e w' ⟨rfl, rfl⟩
   have hneg : ¬ ((m : Int) + 1 + (l.b.length : Int) < 0) := by omega
   go_wp2_with fail
   go_round
   case rel => exact ⟨k + 1, m + 1 + l.b.length, by omega, by go_num, by go_num, Lib.hid (by rw [HN.out, hm.out]; show _ = k0 + (_ + (1 + l.b.length)); omega)⟩
   case measure => simp [intOf]; omega
  ·have he : k = xs.length := by omega
   subst he
   have HT : Hid (xs.take xs.length = xs) := Lib.hid List.take_length
   go_wp2
   go_ret
   exact ⟨by rw [hm.out, HT.out]; rfl, rfl⟩
set_option maxHeartbeats 1000000 in
theorem heldDisk_any (cs : List Value) (k0 : Nat) (d : Disk) (w : World) (h : diskR.at_ w w.heap.size cs (markD k0 d)) (hs : Fits d) (hk0 : k0 ≤ 1048576) :
  Calls Tryz.prog 30 #[.agg cs.toArray, .int .i64 k0] w fun e w' => e = .returned (.int .i64 (k0 + cntD d : Nat)) ∧ Below w.heap.size w w' := by
 obtain ⟨A, c, A', c', rfl, _, _, h1, h2⟩ := disk_cells h
 replace h1 : Rep.RowsAt byR w w.heap.size A d.secs.length (Rep.mkL byR k0 d.secs) := by simpa [markD, Rep.mkL_length] using h1
 replace h2 : Rep.RowsAt wrR w w.heap.size A' d.cache.length (Rep.mkL wrR (k0 + Rep.cntL byR d.secs) d.cache) := by simpa [markD, Rep.mkL_length] using h2
 obtain ⟨s1, s2, s3, s4⟩ := hs
 have c1 := cnt_secs s1 s2
 have c2 := cnt_cache s3 s4
 have S2 := Lib.hid s2
 have S4 := Lib.hid s4
 clear s2 s4 h
 have e1 : (markD k0 d).secs.length = d.secs.length := Rep.mkL_length _ _ _
 have e2 : (markD k0 d).cache.length = d.cache.length := Rep.mkL_length _ _ _
 have e3 : (markD k0 d).fuse = d.fuse := rfl
 have e4 : (markD k0 d).down = d.down := rfl
 rw [e1, e2, e3, e4]
 clear e1 e2 e3 e4
 go_enter Tryz.func30, Tryz.ntmps30
 go_wp2_with fail
 refine (heldByteSS_any A c k0 d.secs _ ((h1.keep fun p hp => World.cell?_alloc_lt _ _ p hp).more (by simp)) s1 S2.out (by omega)).mono ?_
 rintro e1 w1 ⟨rfl, rfl⟩
 obtain ⟨m, hm, hmb⟩ : ∃ m : Nat, m = k0 + Rep.cntL byR d.secs ∧ m ≤ 1099512676352 := ⟨_, rfl, by omega⟩
 rw [← hm] at h2 ⊢
 have HM := Lib.hid hm
 clear hm
 have hneg : ¬ ((m : Int) < 0) := by omega
 go_wp2_with fail
 refine (heldWrS_any A' c' m d.cache _ ((h2.keep fun p hp => World.cell?_alloc_lt _ _ p hp).more (by simp)) s3 S4.out (by omega)).mono ?_
 rintro e2 w2 ⟨rfl, rfl⟩
 have hneg2 : ¬ ((m : Int) + (Rep.cntL wrR d.cache : Int) < 0) := by omega
 go_wp2_with fail
 go_ret
 exact ⟨by rw [HM.out]; exact congrArg (fun z : Nat => Ending.returned (.int .i64 (z : Int))) (by unfold cntD; omega), (Below.refl _ _).alloc (Nat.le_refl _) _⟩
end Go.Proofs.YtoaaogacaibedaaGreatDoor
