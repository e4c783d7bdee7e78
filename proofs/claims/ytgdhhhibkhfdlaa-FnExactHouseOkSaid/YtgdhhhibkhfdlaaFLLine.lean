/- Lists of Line as rows of data: elements, what the exact laws ask of them. (By gen_fl.py.) -/
import Derived.Test.YtgdhhhibkhfdlaaTLine
import Derived.Test.YtgdhhhibkhfdlaaRepMore
import Derived.Test.YtgdhhhibkhfdlaaLex
import Derived.Maps.RangeWalk
namespace Go.Proofs.Ytgdhhhibkhfdlaa
open Go.RowKit
set_option maxRecDepth 100000
set_option linter.unusedVariables false

def FitsLn (x : Ln) : Prop := x.db.size ≤ 1048576
theorem ln_at_shape {w : World} {B : Nat} {cs : List Value} {x : Ln} (h : lnR.at_ w B cs x) : cs = [.int .i64 x.sock, .string x.db, .int .i64 x.gen, .int .i64 x.st, .int .i64 x.since, .int .i64 x.asker, .int .i64 x.lease] := ln_cells h
theorem ln_own_shape {w : World} {base : Nat} {cs : List Value} {x : Ln} {fp : List Nat} (h : lnR.own w base cs x fp) : cs = [.int .i64 x.sock, .string x.db, .int .i64 x.gen, .int .i64 x.st, .int .i64 x.since, .int .i64 x.asker, .int .i64 x.lease] := ln_cells (Rep.reads lnR h)
theorem toLn_rep (cs : List Value) (x : Ln) (w : World) (h : lnR.at_ w w.heap.size cs x) (hs : FitsLn x) : Calls Try.prog 186 #[.agg cs.toArray] w (fun e w' => ∃ cs' fp, e = .returned (.agg cs'.toArray) ∧ lnR.own w' w.heap.size cs' x fp ∧ Below w.heap.size w w') := by
  obtain rfl := ln_cells h
  exact (toLn_any x w).mono fun e w' ⟨he, hb⟩ => ⟨_, _, he, ln_own w' _ x, hb⟩
theorem eqLn_rep (cs cs' : List Value) (x : Ln) (w : World) (h : lnR.at_ w w.heap.size cs x) (h' : lnR.at_ w w.heap.size cs' x) (hs : FitsLn x) : Calls Try.prog 132 #[.agg cs.toArray, .agg cs'.toArray] w fun e w' => e = .returned (.bool true) ∧ Below w.heap.size w w' := by
  obtain rfl := ln_cells h
  obtain rfl := ln_cells h'
  exact eqLn_same x w
theorem szLn_rep (cs : List Value) (x : Ln) (left : Nat) (w : World) (h : lnR.at_ w w.heap.size cs x) (hl : left ≤ 1048576) (hk : OkLn x) : Calls Try.prog 183 #[.agg cs.toArray, .int .i64 left] w (RoomB (FitsLn x) left w) := by
  obtain rfl := ln_cells h
  exact szLn_room x left w (hk.2.1) hl

def lnSR : Rep (List Ln) := Rep.rows 52 lnR
def OkLnS (xs : List Ln) : Prop := ∀ x, x ∈ xs → OkLn x
theorem lnS_opens : Rep.Opens Try.prog 89 lnSR OkLnS := Rep.Opens.rows (e' := 52) Try.underlying89 (by kernel_rfl) (by decide) ln_opens
theorem lnS_rows {w : World} {B : Nat} {A : Option Addr} {c : Nat} {xs : List Ln} (h : lnSR.at_ w B [.slice A xs.length c] xs) : (xs.length ≤ c ∧ c ≤ maxLen) ∧ Rep.RowsAt lnR w B A xs.length xs := by
  obtain ⟨A', c', h1, h2, h3⟩ := h
  injection h1 with h1
  injection h1 with e1 e2 e3
  subst e1 e3
  exact ⟨h2, h3⟩
theorem lnS_at_shape {w : World} {B : Nat} {cs : List Value} {xs : List Ln} (h : lnSR.at_ w B cs xs) : ∃ A c, cs = [.slice A xs.length c] := by
  obtain ⟨A, c, rfl, _⟩ := h
  exact ⟨A, c, rfl⟩
theorem lnS_own_shape {w : World} {base : Nat} {cs : List Value} {xs : List Ln} {fp : List Nat} (h : lnSR.own w base cs xs fp) : ∃ A c, cs = [.slice A xs.length c] := lnS_at_shape (Rep.reads lnSR h)
theorem lnS_of {w : World} {B : Nat} {cs : List Value} {xs : List Ln} (h : lnSR.at_ w B cs xs) : ∃ A c, cs.headD undef = .slice A xs.length c ∧ xs.length ≤ c ∧ c ≤ maxLen ∧ Rep.RowsAt lnR w B A xs.length xs := by
  obtain ⟨A, c, rfl, hc, hr⟩ := h
  exact ⟨A, c, rfl, hc.1, hc.2, hr⟩
theorem ln_elem {w : World} {B n k : Nat} {A : Option Addr} {xs : List Ln} (h : Rep.RowsAt lnR w B A n xs) (hk : k < n) : ∃ b off x, A = some ⟨b, off, none⟩ ∧ b < B ∧ xs[k]? = some x ∧ w.cell? ⟨b, off + k * 7, none⟩ = some (.int .i64 x.sock) ∧ w.cell? ⟨b, off + k * 7 + 1, none⟩ = some (.string x.db) ∧ w.cell? ⟨b, off + k * 7 + 2, none⟩ = some (.int .i64 x.gen) ∧ w.cell? ⟨b, off + k * 7 + 3, none⟩ = some (.int .i64 x.st) ∧ w.cell? ⟨b, off + k * 7 + 4, none⟩ = some (.int .i64 x.since) ∧ w.cell? ⟨b, off + k * 7 + 5, none⟩ = some (.int .i64 x.asker) ∧ w.cell? ⟨b, off + k * 7 + 6, none⟩ = some (.int .i64 x.lease) := by
  obtain ⟨b, off, cs, x, hA, hb, hx, h2, hcell⟩ := h.elem hk (show 0 < 7 by omega)
  obtain rfl := ln_cells h2
  have hs : lnR.size = 7 := rfl
  rw [hs] at hcell
  have e0 : w.cell? ⟨b, off + k * 7, none⟩ = some (.int .i64 x.sock) := by have := hcell 0 _ rfl; simpa using this
  have e1 : w.cell? ⟨b, off + k * 7 + 1, none⟩ = some (.string x.db) := by have := hcell 1 _ rfl; rwa [← Nat.add_assoc] at this
  have e2 : w.cell? ⟨b, off + k * 7 + 2, none⟩ = some (.int .i64 x.gen) := by have := hcell 2 _ rfl; rwa [← Nat.add_assoc] at this
  have e3 : w.cell? ⟨b, off + k * 7 + 3, none⟩ = some (.int .i64 x.st) := by have := hcell 3 _ rfl; rwa [← Nat.add_assoc] at this
  have e4 : w.cell? ⟨b, off + k * 7 + 4, none⟩ = some (.int .i64 x.since) := by have := hcell 4 _ rfl; rwa [← Nat.add_assoc] at this
  have e5 : w.cell? ⟨b, off + k * 7 + 5, none⟩ = some (.int .i64 x.asker) := by have := hcell 5 _ rfl; rwa [← Nat.add_assoc] at this
  have e6 : w.cell? ⟨b, off + k * 7 + 6, none⟩ = some (.int .i64 x.lease) := by have := hcell 6 _ rfl; rwa [← Nat.add_assoc] at this
  exact ⟨b, off, x, hA, hb, hx, e0, e1, e2, e3, e4, e5, e6⟩

theorem Try.infoLnL : (Try.prog.info? 52).map (fun i => (i.zero, i.size, i.bytes)) = some (some (.agg #[.int .i64 0, .string ⟨#[]⟩, .int .i64 0, .int .i64 0, .int .i64 0, .int .i64 0, .int .i64 0]), 7, 64) := by kernel_rfl
def FitsLnS (xs : List Ln) : Prop := xs.length ≤ 1048576 ∧ ∀ x, x ∈ xs → FitsLn x
def lnZero : Ln := ⟨0, ⟨#[]⟩, 0, 0, 0, 0, 0⟩

set_option maxHeartbeats 4000000 in
theorem szLnS_room (A : Option Addr) (c : Nat) (xs : List Ln) (left : Nat) (w : World) (h : Rep.RowsAt lnR w w.heap.size A xs.length xs) (hok : OkLnS xs) (hn : xs.length ≤ 9223372036854775807) (hl : left ≤ 1048576) :
    Calls Try.prog 135 #[.slice A xs.length c, .int .i64 left] w (RoomB (FitsLnS xs) left w) := by
  have HOK := Lib.hid hok
  clear hok
  by_cases h1 : xs.length ≤ left
  · have h' : ¬ ((left : Int) - (xs.length : Int) < 0) := by omega
    obtain ⟨z0, hz0, hz1⟩ : ∃ z : Nat, (left : Int) - (xs.length : Int) = z ∧ z ≤ left := ⟨left - xs.length, by omega, by omega⟩
    have HZ := Lib.hid hz0
    clear hz0
    go_enter Try.func135, Try.ntmps135
    go_wp2
    go_loopw [1, 5] (fun q i wr => ∃ k z : Nat, k ≤ xs.length ∧ i = .int .i64 k ∧ z ≤ left ∧ q = .int .i64 z ∧ AllP FitsLn xs k ∧ Below w.heap.size w wr) (fun _ i _ => xs.length - (intOf i).toNat)
    case atStart => exact ⟨0, z0, by omega, rfl, hz1, by rw [HZ.out], AllP.zero _ xs, Below.refl _ _⟩
    case round =>
      obtain ⟨k, z, hk, rfl, hz, rfl, hall, hb⟩ := hrel
      by_cases hlt : k < xs.length
      · obtain ⟨b, off, x, rfl, hbl, hx, e0, e1, e2, e3, e4, e5, e6⟩ := ln_elem (h.keep fun p hp => hb.cell hp) hlt
        have HX := Lib.hid hx
        have hk9 := HOK.out x (List.mem_of_getElem? hx)
        clear hx
        go_wp2_with fail
        clear e0 e1 e2 e3 e4 e5 e6
        refine (szLn_rep [.int .i64 x.sock, .string x.db, .int .i64 x.gen, .int .i64 x.st, .int .i64 x.since, .int .i64 x.asker, .int .i64 x.lease] x z wr (ln_at _ _ x) (by omega) hk9).mono ?_
        rintro e w' ⟨⟨z', hz', hbd, rfl⟩ | rfl, hb2⟩
        · have hb3 := hb.trans (hb2.mono hb.size)
          go_wp2_with fail
          go_roundw
          case rel => exact ⟨k + 1, z', by omega, by go_num, by omega, rfl, hall.succ HX.out hbd, hb3⟩
          case measure => simp [intOf]; omega
        · have hb3 := hb.trans (hb2.mono hb.size)
          go_wp2_with fail
          go_ret
          exact ⟨.inr rfl, hb3⟩
      · have he : k = xs.length := by omega
        subst he
        go_wp2
        go_ret
        exact ⟨.inl ⟨z, hz, ⟨by omega, hall.all⟩, rfl⟩, hb⟩
  · go_enter Try.func135, Try.ntmps135
    go_wp2
    go_ret
    exact ⟨.inr rfl, Below.refl _ _⟩

def RetLnRows (w : World) (xs : List Ln) (e : Ending) (w' : World) : Prop := ∃ A c fp, e = .returned (.slice A xs.length c) ∧ Rep.OwnRows lnR 52 w' w.heap.size (.slice A xs.length c) xs fp ∧ Below w.heap.size w w'
set_option maxHeartbeats 4000000 in
theorem toLnS_any (A : Option Addr) (c : Nat) (xs : List Ln) (w : World) (h : Rep.RowsAt lnR w w.heap.size A xs.length xs) (hs : FitsLnS xs) :
    Calls Try.prog 138 #[.slice A xs.length c] w (RetLnRows w xs) := by
  obtain ⟨hn, hm⟩ := hs
  obtain ⟨i0, hi0, hz0, hz1, hz2⟩ := info_parts Try.infoLnL
  go_enter Try.func138, Try.ntmps138
  go_wp2_with (at_make; refine wpList_make_full _ rfl _ _ _ rfl w.heap.size 52 i0 _ 7 Try.underlying66 hi0 hz0 hz1 _ _ _ _ xs.length rfl rfl rfl rfl (by rw [hz2]; omega) (by simp only [maxLen]; omega) (Nat.le_refl _) ?_; intro w1 hown1 hg1)
  have hb1 : Below w.heap.size w w1 := (Below.refl _ _).grown hg1 (Nat.le_refl _) (fun _ hk => by cases hk)
  have hz : Rep.OwnRows lnR 52 w1 w.heap.size (.slice (some ⟨w.heap.size, 0, none⟩) xs.length xs.length) (halfL lnZero xs 0) [w.heap.size] := by
    rw [halfL_zero]
    exact rows_zero lnR _ w1 _ _ _ lnZero [.int .i64 0, .string ⟨#[]⟩, .int .i64 0, .int .i64 0, .int .i64 0, .int .i64 0, .int .i64 0] _ hown1 (Rep.seg_made #[.int .i64 0, .string ⟨#[]⟩, .int .i64 0, .int .i64 0, .int .i64 0, .int .i64 0, .int .i64 0] _) (fun V => ln_own V _ lnZero)
  clear hown1 hg1
  go_loopw [4] (fun i wr => ∃ (k : Nat) (fp : List Nat), k ≤ xs.length ∧ i = .int .i64 k ∧ Below w.heap.size w wr ∧ Rep.OwnRows lnR 52 wr w.heap.size (.slice (some ⟨w.heap.size, 0, none⟩) xs.length xs.length) (halfL lnZero xs k) fp) (fun i _ => xs.length - (intOf i).toNat)
  case atStart => exact ⟨0, _, by omega, rfl, hb1, hz⟩
  case round =>
    obtain ⟨k, fp, hk, rfl, hb, hown⟩ := hrel
    clear hz hb1
    by_cases hlt : k < xs.length
    · obtain ⟨b, off, x, rfl, hbl, hx, e0, e1, e2, e3, e4, e5, e6⟩ := ln_elem (h.keep fun p hp => hb.cell hp) hlt
      have HX := Lib.hid hx
      clear hx
      go_wp2_with fail
      refine (toLn_any x wr).mono ?_
      rintro e w2 ⟨h9, hb2⟩
      replace h9 : e = .returned (.agg #[.int .i64 x.sock, .string x.db, .int .i64 x.gen, .int .i64 x.st, .int .i64 x.since, .int .i64 x.asker, .int .i64 x.lease]) := h9
      subst h9
      have hlh : (halfL lnZero xs k).length = xs.length := halfL_length _ _ _ hk
      have hown3 := hown.of_below hb2
      have hsz : ∀ j, j < 7 → k * 7 + j < (halfL lnZero xs k).length * lnR.size := fun j hj => by rw [hlh]; show k * 7 + j < xs.length * 7; omega
      obtain ⟨⟨u0, g0⟩, t0, _, hgl⟩ := hown3.there (k * 7) (hsz 0 (by omega))
      obtain ⟨⟨u1, g1⟩, t1, _, _⟩ := hown3.there (k * 7 + 1) (hsz 1 (by omega))
      obtain ⟨⟨u2, g2⟩, t2, _, _⟩ := hown3.there (k * 7 + 2) (hsz 2 (by omega))
      obtain ⟨⟨u3, g3⟩, t3, _, _⟩ := hown3.there (k * 7 + 3) (hsz 3 (by omega))
      obtain ⟨⟨u4, g4⟩, t4, _, _⟩ := hown3.there (k * 7 + 4) (hsz 4 (by omega))
      obtain ⟨⟨u5, g5⟩, t5, _, _⟩ := hown3.there (k * 7 + 5) (hsz 5 (by omega))
      obtain ⟨⟨u6, g6⟩, t6, _, _⟩ := hown3.there (k * 7 + 6) (hsz 6 (by omega))
      clear hsz e0 e1 e2 e3 e4 e5 e6
      go_wp2_with fail
      obtain ⟨fp', hput⟩ := hown3.store (k := k) (x := x) [.int .i64 x.sock, .string x.db, .int .i64 x.gen, .int .i64 x.st, .int .i64 x.since, .int .i64 x.asker, .int .i64 x.lease] hlh hlt rfl (ln_own w2 wr.heap.size x) hb.size (fun g hg => (hown.lt g hg).2)
      rw [halfL_set _ HX.out] at hput
      have hB3 := Rep.setRow_below (g := w.heap.size) (k * 7) [.int .i64 x.sock, .string x.db, .int .i64 x.gen, .int .i64 x.st, .int .i64 x.since, .int .i64 x.asker, .int .i64 x.lease] (hb.trans (hb2.mono hb.size)) (Nat.le_refl _)
      go_roundw
      case rel => exact ⟨k + 1, fp', by omega, by go_num, hB3, hput⟩
      case measure => simp [intOf]; omega
    · have he : k = xs.length := by omega
      subst he
      rw [halfL_all] at hown
      go_wp2
      go_ret
      exact ⟨_, _, _, rfl, hown, hb⟩

set_option maxHeartbeats 4000000 in
theorem eqLnR_same (A B : Option Addr) (c d : Nat) (xs : List Ln) (w : World) (h : Rep.RowsAt lnR w w.heap.size A xs.length xs) (h' : Rep.RowsAt lnR w w.heap.size B xs.length xs) (hn : xs.length ≤ 1048576) :
    Calls Try.prog 142 #[.slice A xs.length c, .slice B xs.length d] w fun e w' => e = .returned (.bool true) ∧ Below w.heap.size w w' := by
  have hnn : ((xs.length : Int) != (xs.length : Int)) = false := by simp
  go_enter Try.func142, Try.ntmps142
  go_wp2
  go_loopw [5] (fun i wr => ∃ k : Nat, k ≤ xs.length ∧ i = .int .i64 k ∧ Below w.heap.size w wr) (fun i _ => xs.length - (intOf i).toNat)
  case atStart => exact ⟨0, by omega, rfl, Below.refl _ _⟩
  case round =>
    obtain ⟨k, hk, rfl, hb⟩ := hrel
    by_cases hlt : k < xs.length
    · obtain ⟨b, off, x, rfl, hbl, hx, e0, e1, e2, e3, e4, e5, e6⟩ := ln_elem (h.keep fun p hp => hb.cell hp) hlt
      obtain ⟨b', off', x', rfl, hbl', hx', e0', e1', e2', e3', e4', e5', e6'⟩ := ln_elem (h'.keep fun p hp => hb.cell hp) hlt
      obtain rfl : x = x' := by rw [hx] at hx'; injection hx'
      clear hx hx'
      have i1 : (0 : Int) ≤ (k : Int) := by omega
      have i2 : (k : Int) < (xs.length : Int) := by omega
      go_wp2
      go_still_tail 8, (by kernel_rfl)
      change wpList _ _ _ _ _ wr.drew
      go_wp2_with fail
      refine (eqLn_same x wr.drew).mono ?_
      rintro e w2 ⟨rfl, hb2⟩
      have hb3 : Below w.heap.size w w2 := hb.trans ((belowD (Below.refl wr.heap.size wr) 1).trans hb2 |>.mono hb.size)
      clear e0 e1 e2 e3 e4 e5 e6 e0' e1' e2' e3' e4' e5' e6'
      go_wp2_with fail
      go_roundw
      case rel => exact ⟨k + 1, by omega, by go_num, hb3⟩
      case measure => simp [intOf]; omega
    · have he : k = xs.length := by omega
      subst he
      go_wp2
      go_ret
      exact ⟨rfl, hb⟩

def RetLnSR (w : World) (xs : List Ln) (e : Ending) (w' : World) : Prop := ∃ A c fp, e = .returned (.slice A xs.length c) ∧ lnSR.own w' w.heap.size [.slice A xs.length c] xs fp ∧ Below w.heap.size w w'
theorem szLnS_rep (cs : List Value) (xs : List Ln) (left : Nat) (w : World) (h : lnSR.at_ w w.heap.size cs xs) (hl : left ≤ 1048576) (hk : OkLnS xs) : Calls Try.prog 135 #[cs.headD undef, .int .i64 left] w (RoomB (FitsLnS xs) left w) := by
  obtain ⟨A, c, hv, h1, h2, hr⟩ := lnS_of h
  rw [hv]
  exact szLnS_room A c xs left w hr hk (Nat.le_trans h1 h2) hl
theorem toLnS_rep (cs : List Value) (xs : List Ln) (w : World) (h : lnSR.at_ w w.heap.size cs xs) (hs : FitsLnS xs) : Calls Try.prog 138 #[cs.headD undef] w (RetLnSR w xs) := by
  obtain ⟨A, c, hv, h1, h2, hr⟩ := lnS_of h
  rw [hv]
  exact (toLnS_any A c xs w hr hs).mono fun e w' ⟨A', c', fp, he, ho, hb⟩ => ⟨A', c', fp, he, ⟨_, rfl, ho⟩, hb⟩
theorem eqLnS_rep (cs cs' : List Value) (xs : List Ln) (w : World) (h : lnSR.at_ w w.heap.size cs xs) (h' : lnSR.at_ w w.heap.size cs' xs) (hs : FitsLnS xs) : Calls Try.prog 142 #[cs.headD undef, cs'.headD undef] w fun e w' => e = .returned (.bool true) ∧ Below w.heap.size w w' := by
  obtain ⟨A, c, hv, _, _, hr⟩ := lnS_of h
  obtain ⟨A', c', hv', _, _, hr'⟩ := lnS_of h'
  rw [hv, hv']
  exact eqLnR_same A A' c c' xs w hr hr' hs.1

end Go.Proofs.Ytgdhhhibkhfdlaa
