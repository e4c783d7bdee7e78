/- Lists of Sock: elements, what the exact laws ask of them. (By gen_nestl.py.) -/
import Derived.Test.YtcelkmphdeaaeaaNSock
import Derived.Test.YtcelkmphdeaaeaaLex
import Derived.Maps.RangeWalk
namespace Go.Proofs.Ytcelkmphdeaaeaa
open Go.RowKit
set_option maxRecDepth 100000
set_option linter.unusedVariables false

def skSR : Rep (List Sk) := Rep.rows 25 skR
theorem skS_opens : Rep.Opens Try.prog 61 skSR (fun xs => ∀ x, x ∈ xs → OkSk x) := Rep.Opens.rows (e' := 25) Try.underlying61 (by kernel_rfl) (by decide) sk_opens
theorem skS_rows {w : World} {B : Nat} {A : Option Addr} {c : Nat} {xs : List Sk} (h : skSR.at_ w B [.slice A xs.length c] xs) : (xs.length ≤ c ∧ c ≤ maxLen) ∧ Rep.RowsAt skR w B A xs.length xs := by
  obtain ⟨A', c', h1, h2, h3⟩ := h
  injection h1 with h1
  injection h1 with e1 e2 e3
  subst e1 e3
  exact ⟨h2, h3⟩
theorem sk_elem {w : World} {B n k : Nat} {A : Option Addr} {xs : List Sk} (h : Rep.RowsAt skR w B A n xs) (hk : k < n) : ∃ b off x A4 c4 A5 c5, A = some ⟨b, off, none⟩ ∧ b < B ∧ xs[k]? = some x ∧ (w.cell? ⟨b, off + k * 8, none⟩ = some (.int .i64 x.id) ∧ w.cell? ⟨b, off + k * 8 + 1, none⟩ = some (.int .i64 x.kind) ∧ w.cell? ⟨b, off + k * 8 + 2, none⟩ = some (.int .i64 x.hold) ∧ w.cell? ⟨b, off + k * 8 + 3, none⟩ = some (.bool x.shut) ∧ w.cell? ⟨b, off + k * 8 + 4, none⟩ = some (.slice A4 x.inn.length c4) ∧ w.cell? ⟨b, off + k * 8 + 5, none⟩ = some (.slice A5 x.out.length c5) ∧ w.cell? ⟨b, off + k * 8 + 6, none⟩ = some (.int .i64 x.st) ∧ w.cell? ⟨b, off + k * 8 + 7, none⟩ = some (.int .i64 x.done)) ∧ (x.inn.length ≤ c4 ∧ c4 ≤ maxLen) ∧ Reads w B 1 A4 x.inn.length (bys x.inn) ∧ (x.out.length ≤ c5 ∧ c5 ≤ maxLen) ∧ Reads w B 1 A5 x.out.length (bys x.out) := by
  obtain ⟨b, off, cs, x, hA, hb, hx, h2, hcell⟩ := h.elem hk (show 0 < 8 by omega)
  obtain ⟨A4, c4, A5, c5, rfl, hc4, hr4, hc5, hr5⟩ := sk_cells h2
  have hs : skR.size = 8 := rfl
  rw [hs] at hcell
  have e0 : w.cell? ⟨b, off + k * 8, none⟩ = some (.int .i64 x.id) := by have := hcell 0 _ rfl; simpa using this
  have e1 : w.cell? ⟨b, off + k * 8 + 1, none⟩ = some (.int .i64 x.kind) := by have := hcell 1 _ rfl; rwa [← Nat.add_assoc] at this
  have e2 : w.cell? ⟨b, off + k * 8 + 2, none⟩ = some (.int .i64 x.hold) := by have := hcell 2 _ rfl; rwa [← Nat.add_assoc] at this
  have e3 : w.cell? ⟨b, off + k * 8 + 3, none⟩ = some (.bool x.shut) := by have := hcell 3 _ rfl; rwa [← Nat.add_assoc] at this
  have e4 : w.cell? ⟨b, off + k * 8 + 4, none⟩ = some (.slice A4 x.inn.length c4) := by have := hcell 4 _ rfl; rwa [← Nat.add_assoc] at this
  have e5 : w.cell? ⟨b, off + k * 8 + 5, none⟩ = some (.slice A5 x.out.length c5) := by have := hcell 5 _ rfl; rwa [← Nat.add_assoc] at this
  have e6 : w.cell? ⟨b, off + k * 8 + 6, none⟩ = some (.int .i64 x.st) := by have := hcell 6 _ rfl; rwa [← Nat.add_assoc] at this
  have e7 : w.cell? ⟨b, off + k * 8 + 7, none⟩ = some (.int .i64 x.done) := by have := hcell 7 _ rfl; rwa [← Nat.add_assoc] at this
  exact ⟨b, off, x, A4, c4, A5, c5, hA, hb, hx, ⟨e0, e1, e2, e3, e4, e5, e6, e7⟩, hc4, hr4, hc5, hr5⟩

theorem Try.infoSkB : (Try.prog.info? 25).map (fun i => (i.zero, i.size, i.bytes)) = some (some (.agg #[.int .i64 0, .int .i64 0, .int .i64 0, .bool false, .slice none 0 0, .slice none 0 0, .int .i64 0, .int .i64 0]), 8, 96) := by kernel_rfl
def RoomSkS (xs : List Sk) : Prop := xs.length ≤ 1048576 ∧ ∀ x, x ∈ xs → RoomSk x
def FitsSkS (xs : List Sk) : Prop := xs.length ≤ 1048576 ∧ ∀ x, x ∈ xs → FitsSk x
theorem RoomSkS.fits {xs : List Sk} (h : RoomSkS xs) : FitsSkS xs := ⟨h.1, fun x hx => (h.2 x hx).fits⟩

set_option maxHeartbeats 2000000 in
theorem szSkS_room (A : Option Addr) (c : Nat) (xs : List Sk) (left : Nat) (w : World) (h : Rep.RowsAt skR w w.heap.size A xs.length xs) (hn : xs.length ≤ 9223372036854775807) (hl : left ≤ 1048576) :
    Calls Try.prog 45 #[.slice A xs.length c, .int .i64 left] w (RoomB (RoomSkS xs) left w) := by
  by_cases h1 : xs.length ≤ left
  · have h' : ¬ ((left : Int) - (xs.length : Int) < 0) := by omega
    obtain ⟨z0, hz0, hz1⟩ : ∃ z : Nat, (left : Int) - (xs.length : Int) = z ∧ z ≤ left := ⟨left - xs.length, by omega, by omega⟩
    have HZ := Lib.hid hz0
    clear hz0
    go_enter Try.func45, Try.ntmps45
    go_wp2
    go_loopw [1, 5] (fun q i wr => ∃ k z : Nat, k ≤ xs.length ∧ i = .int .i64 k ∧ z ≤ left ∧ q = .int .i64 z ∧ AllP RoomSk xs k ∧ Below w.heap.size w wr) (fun _ i _ => xs.length - (intOf i).toNat)
    case atStart => exact ⟨0, z0, by omega, rfl, hz1, by rw [HZ.out], AllP.zero _ xs, Below.refl _ _⟩
    case round =>
      obtain ⟨k, z, hk, rfl, hz, rfl, hall, hb⟩ := hrel
      by_cases hlt : k < xs.length
      · obtain ⟨b, off, x, A4, c4, A5, c5, rfl, hbl, hx, ⟨e0, e1, e2, e3, e4, e5, e6, e7⟩, hc4, hr4, hc5, hr5⟩ := sk_elem (h.keep fun p hp => hb.cell hp) hlt
        have HX := Lib.hid hx
        have hat := (sk_at hc4 (hr4.more hb.size) hc5 (hr5.more hb.size))
        clear hx hr4 hc4 hr5 hc5
        go_wp2_with fail
        clear e0 e1 e2 e3 e4 e5 e6 e7
        refine (szSk_room [.int .i64 x.id, .int .i64 x.kind, .int .i64 x.hold, .bool x.shut, .slice A4 x.inn.length c4, .slice A5 x.out.length c5, .int .i64 x.st, .int .i64 x.done] x z wr hat (by omega)).mono ?_
        rintro e w' ⟨⟨z', hz', hbd, rfl⟩ | rfl, hb2⟩
        · have hb3 := hb.trans (hb2.mono hb.size)
          go_wp2_with fail
          go_roundw
          case rel => exact ⟨k + 1, z', by omega, by go_num, by omega, rfl, hall.succ HX.out hbd, hb3⟩
          case measure => simp [intOf]; omega
        · have hb3 := hb.trans (hb2.mono hb.size)
          go_wp2_with fail
          go_ret
          exact ⟨.inr rfl, hb3⟩
      · have he : k = xs.length := by omega
        subst he
        go_wp2
        go_ret
        exact ⟨.inl ⟨z, hz, ⟨by omega, hall.all⟩, rfl⟩, hb⟩
  · go_enter Try.func45, Try.ntmps45
    go_wp2
    go_ret
    exact ⟨.inr rfl, Below.refl _ _⟩

def RetSkS (w : World) (xs : List Sk) (e : Ending) (w' : World) : Prop := ∃ A c fp, e = .returned (.slice A xs.length c) ∧ Rep.OwnRows skR 25 w' w.heap.size (.slice A xs.length c) xs fp ∧ Below w.heap.size w w'
set_option maxHeartbeats 4000000 in
theorem toSkS_any (A : Option Addr) (c : Nat) (xs : List Sk) (w : World) (h : Rep.RowsAt skR w w.heap.size A xs.length xs) (hs : FitsSkS xs) :
    Calls Try.prog 46 #[.slice A xs.length c] w (RetSkS w xs) := by
  obtain ⟨hn, hm⟩ := hs
  obtain ⟨i0, hi0, hz0, hz1, hz2⟩ := info_parts Try.infoSkB
  go_enter Try.func46, Try.ntmps46
  go_wp2_with (at_make; refine wpList_make_full _ rfl _ _ _ rfl w.heap.size 25 i0 _ 8 Try.underlying36 hi0 hz0 hz1 _ _ _ _ xs.length rfl rfl rfl rfl (by rw [hz2]; omega) (by simp only [maxLen]; omega) (Nat.le_refl _) ?_; intro w1 hown1 hg1)
  have hb1 : Below w.heap.size w w1 := (Below.refl _ _).grown hg1 (Nat.le_refl _) (fun _ hk => by cases hk)
  have hz : Rep.OwnRows skR 25 w1 w.heap.size (.slice (some ⟨w.heap.size, 0, none⟩) xs.length xs.length) (halfL skZero xs 0) [w.heap.size] := by
    rw [halfL_zero]
    exact rows_zero skR _ w1 _ _ _ skZero [.int .i64 0, .int .i64 0, .int .i64 0, .bool false, .slice none 0 0, .slice none 0 0, .int .i64 0, .int .i64 0] _ hown1 (Rep.seg_made #[.int .i64 0, .int .i64 0, .int .i64 0, .bool false, .slice none 0 0, .slice none 0 0, .int .i64 0, .int .i64 0] _) (fun V => sk_own (x := skZero) (base := w.heap.size) (w := V) (v4 := .slice none 0 0) (v5 := .slice none 0 0) ⟨by simp [bys, skZero], .inl ⟨rfl, rfl⟩⟩ ⟨by simp [bys, skZero], .inl ⟨rfl, rfl⟩⟩ (by simp [Value.ownBlock]))
  clear hown1 hg1
  go_loopw [4] (fun i wr => ∃ (k : Nat) (fp : List Nat), k ≤ xs.length ∧ i = .int .i64 k ∧ Below w.heap.size w wr ∧ Rep.OwnRows skR 25 wr w.heap.size (.slice (some ⟨w.heap.size, 0, none⟩) xs.length xs.length) (halfL skZero xs k) fp) (fun i _ => xs.length - (intOf i).toNat)
  case atStart => exact ⟨0, _, by omega, rfl, hb1, hz⟩
  case round =>
    obtain ⟨k, fp, hk, rfl, hb, hown⟩ := hrel
    clear hz hb1
    by_cases hlt : k < xs.length
    · obtain ⟨b, off, x, A4, c4, A5, c5, rfl, hbl, hx, ⟨e0, e1, e2, e3, e4, e5, e6, e7⟩, hc4, hr4, hc5, hr5⟩ := sk_elem (h.keep fun p hp => hb.cell hp) hlt
      have hfx := hm x (List.mem_of_getElem? hx)
      have HX := Lib.hid hx
      have hat := (sk_at hc4 (hr4.more hb.size) hc5 (hr5.more hb.size))
      clear hx hr4 hc4 hr5 hc5
      go_wp2_with fail
      refine (toSk_any [.int .i64 x.id, .int .i64 x.kind, .int .i64 x.hold, .bool x.shut, .slice A4 x.inn.length c4, .slice A5 x.out.length c5, .int .i64 x.st, .int .i64 x.done] x wr hat hfx).mono ?_
      rintro e w2 ⟨D4, d4, D5, d5, fp2, rfl, hown2, hb2⟩
      have hlh : (halfL skZero xs k).length = xs.length := halfL_length _ _ _ hk
      have hown3 := hown.of_below hb2
      have hsz : ∀ j, j < 8 → k * 8 + j < (halfL skZero xs k).length * skR.size := fun j hj => by rw [hlh]; show k * 8 + j < xs.length * 8; omega
      obtain ⟨⟨u0, g0⟩, t0, _, hgl⟩ := hown3.there (k * 8) (hsz 0 (by omega))
      obtain ⟨⟨u1, g1⟩, t1, _, _⟩ := hown3.there (k * 8 + 1) (hsz 1 (by omega))
      obtain ⟨⟨u2, g2⟩, t2, _, _⟩ := hown3.there (k * 8 + 2) (hsz 2 (by omega))
      obtain ⟨⟨u3, g3⟩, t3, _, _⟩ := hown3.there (k * 8 + 3) (hsz 3 (by omega))
      obtain ⟨⟨u4, g4⟩, t4, _, _⟩ := hown3.there (k * 8 + 4) (hsz 4 (by omega))
      obtain ⟨⟨u5, g5⟩, t5, _, _⟩ := hown3.there (k * 8 + 5) (hsz 5 (by omega))
      obtain ⟨⟨u6, g6⟩, t6, _, _⟩ := hown3.there (k * 8 + 6) (hsz 6 (by omega))
      obtain ⟨⟨u7, g7⟩, t7, _, _⟩ := hown3.there (k * 8 + 7) (hsz 7 (by omega))
      clear hsz hat e0 e1 e2 e3 e4 e5 e6 e7
      go_wp2_with fail
      obtain ⟨fp', hput⟩ := hown3.store (k := k) (x := x) [.int .i64 x.id, .int .i64 x.kind, .int .i64 x.hold, .bool x.shut, .slice D4 x.inn.length d4, .slice D5 x.out.length d5, .int .i64 x.st, .int .i64 x.done] hlh hlt rfl hown2 hb.size (fun g hg => (hown.lt g hg).2)
      rw [halfL_set _ HX.out] at hput
      have hB3 := Rep.setRow_below (g := w.heap.size) (k * 8) [.int .i64 x.id, .int .i64 x.kind, .int .i64 x.hold, .bool x.shut, .slice D4 x.inn.length d4, .slice D5 x.out.length d5, .int .i64 x.st, .int .i64 x.done] (hb.trans (hb2.mono hb.size)) (Nat.le_refl _)
      go_roundw
      case rel => exact ⟨k + 1, fp', by omega, by go_num, hB3, hput⟩
      case measure => simp [intOf]; omega
    · have he : k = xs.length := by omega
      subst he
      rw [halfL_all] at hown
      go_wp2
      go_ret
      exact ⟨_, _, _, rfl, hown, hb⟩

set_option maxHeartbeats 4000000 in
theorem eqSkS_same (A B : Option Addr) (c d : Nat) (xs : List Sk) (w : World) (h : Rep.RowsAt skR w w.heap.size A xs.length xs) (h' : Rep.RowsAt skR w w.heap.size B xs.length xs) (hs : FitsSkS xs) :
    Calls Try.prog 47 #[.slice A xs.length c, .slice B xs.length d] w fun e w' => e = .returned (.bool true) ∧ Below w.heap.size w w' := by
  have hnn : ((xs.length : Int) != (xs.length : Int)) = false := by simp
  have HM := Lib.hid hs
  have hn := hs.1
  clear hs
  go_enter Try.func47, Try.ntmps47
  go_wp2
  go_loopw [5] (fun i wr => ∃ k : Nat, k ≤ xs.length ∧ i = .int .i64 k ∧ Below w.heap.size w wr) (fun i _ => xs.length - (intOf i).toNat)
  case atStart => exact ⟨0, by omega, rfl, Below.refl _ _⟩
  case round =>
    obtain ⟨k, hk, rfl, hb⟩ := hrel
    by_cases hlt : k < xs.length
    · obtain ⟨b, off, x, A4, c4, A5, c5, rfl, hbl, hx, ⟨e0, e1, e2, e3, e4, e5, e6, e7⟩, hc4, hr4, hc5, hr5⟩ := sk_elem (h.keep fun p hp => hb.cell hp) hlt
      obtain ⟨b', off', x', A4', c4', A5', c5', rfl, hbl', hx', ⟨e0', e1', e2', e3', e4', e5', e6', e7'⟩, hc4', hr4', hc5', hr5'⟩ := sk_elem (h'.keep fun p hp => hb.cell hp) hlt
      obtain rfl : x = x' := by rw [hx] at hx'; injection hx'
      have hfx := HM.out.2 x (List.mem_of_getElem? hx)
      have hat := Lib.hid (Rep.at_drewN (R := skR) (sk_at hc4 (hr4.more hb.size) hc5 (hr5.more hb.size)) 1)
      have hat' := Lib.hid (Rep.at_drewN (R := skR) (sk_at hc4' (hr4'.more hb.size) hc5' (hr5'.more hb.size)) 1)
      clear hx hx' hr4 hc4 hr5 hc5 hr4' hc4' hr5' hc5'
      have i1 : (0 : Int) ≤ (k : Int) := by omega
      have i2 : (k : Int) < (xs.length : Int) := by omega
      go_wp2
      go_still_tail 8, (by kernel_rfl)
      change wpList _ _ _ _ _ wr.drew
      go_wp2_with fail
      refine (eqSk_same [.int .i64 x.id, .int .i64 x.kind, .int .i64 x.hold, .bool x.shut, .slice A4 x.inn.length c4, .slice A5 x.out.length c5, .int .i64 x.st, .int .i64 x.done] [.int .i64 x.id, .int .i64 x.kind, .int .i64 x.hold, .bool x.shut, .slice A4' x.inn.length c4', .slice A5' x.out.length c5', .int .i64 x.st, .int .i64 x.done] x wr.drew hat.out hat'.out hfx).mono ?_
      rintro e w2 ⟨rfl, hb2⟩
      have hb3 : Below w.heap.size w w2 := hb.trans ((belowD (Below.refl wr.heap.size wr) 1).trans hb2 |>.mono hb.size)
      go_wp2_with fail
      go_roundw
      case rel => exact ⟨k + 1, by omega, by go_num, hb3⟩
      case measure => simp [intOf]; omega
    · have he : k = xs.length := by omega
      subst he
      go_wp2
      go_ret
      exact ⟨rfl, hb⟩

theorem sk_cnt (x : Sk) : skR.cnt x = 6 + x.inn.length + x.out.length := by
  unfold skR
  simp only [Rep.iso, Rep.pair, Rep.int, Rep.bool, Rep.leaf, winR]
  omega
theorem sk_mark (m : Nat) (x : Sk) : skR.mark m x = ⟨((m : Nat) : Int), ((m + 1 : Nat) : Int), ((m + 2 : Nat) : Int), ((((m + 3 : Nat) : Int) % 3 == 0)), marks (m + 4) x.inn.length, marks (m + 4 + x.inn.length) x.out.length, ((m + 4 + x.inn.length + x.out.length : Nat) : Int), ((m + 4 + x.inn.length + x.out.length + 1 : Nat) : Int)⟩ := by
  unfold skR
  simp only [Rep.iso, Rep.pair, Rep.int, Rep.bool, Rep.leaf, winR]
  congr 1 <;> first | rfl | (rw [Bool.eq_iff_iff]; simp; omega) | (congr 1; omega) | omega
end Go.Proofs.Ytcelkmphdeaaeaa
