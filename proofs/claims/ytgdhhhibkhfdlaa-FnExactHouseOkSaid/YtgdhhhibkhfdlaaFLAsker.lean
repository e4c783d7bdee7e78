/- Lists of Asker as rows of data: elements, what the exact laws ask of them. (By gen_fl.py.) -/
import Derived.Test.YtgdhhhibkhfdlaaTAsker
import Derived.Test.YtgdhhhibkhfdlaaRepMore
import Derived.Test.YtgdhhhibkhfdlaaLex
import Derived.Maps.RangeWalk
namespace Go.Proofs.Ytgdhhhibkhfdlaa
open Go.RowKit
set_option maxRecDepth 100000
set_option linter.unusedVariables false

def FitsAk (x : Ak) : Prop := x.db.size ≤ 1048576 ∧ x.q.size ≤ 1048576
theorem ak_at_shape {w : World} {B : Nat} {cs : List Value} {x : Ak} (h : akR.at_ w B cs x) : cs = [.int .i64 x.sock, .string x.db, .int .i64 x.st, .int .i64 x.ticket, .int .i64 x.since, .string x.q, .int .i64 x.line, .int .i64 x.lease] := ak_cells h
theorem ak_own_shape {w : World} {base : Nat} {cs : List Value} {x : Ak} {fp : List Nat} (h : akR.own w base cs x fp) : cs = [.int .i64 x.sock, .string x.db, .int .i64 x.st, .int .i64 x.ticket, .int .i64 x.since, .string x.q, .int .i64 x.line, .int .i64 x.lease] := ak_cells (Rep.reads akR h)
theorem toAk_rep (cs : List Value) (x : Ak) (w : World) (h : akR.at_ w w.heap.size cs x) (hs : FitsAk x) : Calls Try.prog 185 #[.agg cs.toArray] w (fun e w' => ∃ cs' fp, e = .returned (.agg cs'.toArray) ∧ akR.own w' w.heap.size cs' x fp ∧ Below w.heap.size w w') := by
  obtain rfl := ak_cells h
  exact (toAk_any x w).mono fun e w' ⟨he, hb⟩ => ⟨_, _, he, ak_own w' _ x, hb⟩
theorem eqAk_rep (cs cs' : List Value) (x : Ak) (w : World) (h : akR.at_ w w.heap.size cs x) (h' : akR.at_ w w.heap.size cs' x) (hs : FitsAk x) : Calls Try.prog 131 #[.agg cs.toArray, .agg cs'.toArray] w fun e w' => e = .returned (.bool true) ∧ Below w.heap.size w w' := by
  obtain rfl := ak_cells h
  obtain rfl := ak_cells h'
  exact eqAk_same x w
theorem szAk_rep (cs : List Value) (x : Ak) (left : Nat) (w : World) (h : akR.at_ w w.heap.size cs x) (hl : left ≤ 1048576) (hk : OkAk x) : Calls Try.prog 182 #[.agg cs.toArray, .int .i64 left] w (RoomB (FitsAk x) left w) := by
  obtain rfl := ak_cells h
  exact szAk_room x left w (hk.2.1) (hk.2.2.2.2.2.1) hl

def akSR : Rep (List Ak) := Rep.rows 50 akR
def OkAkS (xs : List Ak) : Prop := ∀ x, x ∈ xs → OkAk x
theorem akS_opens : Rep.Opens Try.prog 88 akSR OkAkS := Rep.Opens.rows (e' := 50) Try.underlying88 (by kernel_rfl) (by decide) ak_opens
theorem akS_rows {w : World} {B : Nat} {A : Option Addr} {c : Nat} {xs : List Ak} (h : akSR.at_ w B [.slice A xs.length c] xs) : (xs.length ≤ c ∧ c ≤ maxLen) ∧ Rep.RowsAt akR w B A xs.length xs := by
  obtain ⟨A', c', h1, h2, h3⟩ := h
  injection h1 with h1
  injection h1 with e1 e2 e3
  subst e1 e3
  exact ⟨h2, h3⟩
theorem akS_at_shape {w : World} {B : Nat} {cs : List Value} {xs : List Ak} (h : akSR.at_ w B cs xs) : ∃ A c, cs = [.slice A xs.length c] := by
  obtain ⟨A, c, rfl, _⟩ := h
  exact ⟨A, c, rfl⟩
theorem akS_own_shape {w : World} {base : Nat} {cs : List Value} {xs : List Ak} {fp : List Nat} (h : akSR.own w base cs xs fp) : ∃ A c, cs = [.slice A xs.length c] := akS_at_shape (Rep.reads akSR h)
theorem akS_of {w : World} {B : Nat} {cs : List Value} {xs : List Ak} (h : akSR.at_ w B cs xs) : ∃ A c, cs.headD undef = .slice A xs.length c ∧ xs.length ≤ c ∧ c ≤ maxLen ∧ Rep.RowsAt akR w B A xs.length xs := by
  obtain ⟨A, c, rfl, hc, hr⟩ := h
  exact ⟨A, c, rfl, hc.1, hc.2, hr⟩
theorem ak_elem {w : World} {B n k : Nat} {A : Option Addr} {xs : List Ak} (h : Rep.RowsAt akR w B A n xs) (hk : k < n) : ∃ b off x, A = some ⟨b, off, none⟩ ∧ b < B ∧ xs[k]? = some x ∧ w.cell? ⟨b, off + k * 8, none⟩ = some (.int .i64 x.sock) ∧ w.cell? ⟨b, off + k * 8 + 1, none⟩ = some (.string x.db) ∧ w.cell? ⟨b, off + k * 8 + 2, none⟩ = some (.int .i64 x.st) ∧ w.cell? ⟨b, off + k * 8 + 3, none⟩ = some (.int .i64 x.ticket) ∧ w.cell? ⟨b, off + k * 8 + 4, none⟩ = some (.int .i64 x.since) ∧ w.cell? ⟨b, off + k * 8 + 5, none⟩ = some (.string x.q) ∧ w.cell? ⟨b, off + k * 8 + 6, none⟩ = some (.int .i64 x.line) ∧ w.cell? ⟨b, off + k * 8 + 7, none⟩ = some (.int .i64 x.lease) := by
  obtain ⟨b, off, cs, x, hA, hb, hx, h2, hcell⟩ := h.elem hk (show 0 < 8 by omega)
  obtain rfl := ak_cells h2
  have hs : akR.size = 8 := rfl
  rw [hs] at hcell
  have e0 : w.cell? ⟨b, off + k * 8, none⟩ = some (.int .i64 x.sock) := by have := hcell 0 _ rfl; simpa using this
  have e1 : w.cell? ⟨b, off + k * 8 + 1, none⟩ = some (.string x.db) := by have := hcell 1 _ rfl; rwa [← Nat.add_assoc] at this
  have e2 : w.cell? ⟨b, off + k * 8 + 2, none⟩ = some (.int .i64 x.st) := by have := hcell 2 _ rfl; rwa [← Nat.add_assoc] at this
  have e3 : w.cell? ⟨b, off + k * 8 + 3, none⟩ = some (.int .i64 x.ticket) := by have := hcell 3 _ rfl; rwa [← Nat.add_assoc] at this
  have e4 : w.cell? ⟨b, off + k * 8 + 4, none⟩ = some (.int .i64 x.since) := by have := hcell 4 _ rfl; rwa [← Nat.add_assoc] at this
  have e5 : w.cell? ⟨b, off + k * 8 + 5, none⟩ = some (.string x.q) := by have := hcell 5 _ rfl; rwa [← Nat.add_assoc] at this
  have e6 : w.cell? ⟨b, off + k * 8 + 6, none⟩ = some (.int .i64 x.line) := by have := hcell 6 _ rfl; rwa [← Nat.add_assoc] at this
  have e7 : w.cell? ⟨b, off + k * 8 + 7, none⟩ = some (.int .i64 x.lease) := by have := hcell 7 _ rfl; rwa [← Nat.add_assoc] at this
  exact ⟨b, off, x, hA, hb, hx, e0, e1, e2, e3, e4, e5, e6, e7⟩

theorem Try.infoAkL : (Try.prog.info? 50).map (fun i => (i.zero, i.size, i.bytes)) = some (some (.agg #[.int .i64 0, .string ⟨#[]⟩, .int .i64 0, .int .i64 0, .int .i64 0, .string ⟨#[]⟩, .int .i64 0, .int .i64 0]), 8, 80) := by kernel_rfl
def FitsAkS (xs : List Ak) : Prop := xs.length ≤ 1048576 ∧ ∀ x, x ∈ xs → FitsAk x
def akZero : Ak := ⟨0, ⟨#[]⟩, 0, 0, 0, ⟨#[]⟩, 0, 0⟩

set_option maxHeartbeats 4000000 in
theorem szAkS_room (A : Option Addr) (c : Nat) (xs : List Ak) (left : Nat) (w : World) (h : Rep.RowsAt akR w w.heap.size A xs.length xs) (hok : OkAkS xs) (hn : xs.length ≤ 9223372036854775807) (hl : left ≤ 1048576) :
    Calls Try.prog 134 #[.slice A xs.length c, .int .i64 left] w (RoomB (FitsAkS xs) left w) := by
  have HOK := Lib.hid hok
  clear hok
  by_cases h1 : xs.length ≤ left
  · have h' : ¬ ((left : Int) - (xs.length : Int) < 0) := by omega
    obtain ⟨z0, hz0, hz1⟩ : ∃ z : Nat, (left : Int) - (xs.length : Int) = z ∧ z ≤ left := ⟨left - xs.length, by omega, by omega⟩
    have HZ := Lib.hid hz0
    clear hz0
    go_enter Try.func134, Try.ntmps134
    go_wp2
    go_loopw [1, 5] (fun q i wr => ∃ k z : Nat, k ≤ xs.length ∧ i = .int .i64 k ∧ z ≤ left ∧ q = .int .i64 z ∧ AllP FitsAk xs k ∧ Below w.heap.size w wr) (fun _ i _ => xs.length - (intOf i).toNat)
    case atStart => exact ⟨0, z0, by omega, rfl, hz1, by rw [HZ.out], AllP.zero _ xs, Below.refl _ _⟩
    case round =>
      obtain ⟨k, z, hk, rfl, hz, rfl, hall, hb⟩ := hrel
      by_cases hlt : k < xs.length
      · obtain ⟨b, off, x, rfl, hbl, hx, e0, e1, e2, e3, e4, e5, e6, e7⟩ := ak_elem (h.keep fun p hp => hb.cell hp) hlt
        have HX := Lib.hid hx
        have hk9 := HOK.out x (List.mem_of_getElem? hx)
        clear hx
        go_wp2_with fail
        clear e0 e1 e2 e3 e4 e5 e6 e7
        refine (szAk_rep [.int .i64 x.sock, .string x.db, .int .i64 x.st, .int .i64 x.ticket, .int .i64 x.since, .string x.q, .int .i64 x.line, .int .i64 x.lease] x z wr (ak_at _ _ x) (by omega) hk9).mono ?_
        rintro e w' ⟨⟨z', hz', hbd, rfl⟩ | rfl, hb2⟩
        · have hb3 := hb.trans (hb2.mono hb.size)
          go_wp2_with fail
          go_roundw
          case rel => exact ⟨k + 1, z', by omega, by go_num, by omega, rfl, hall.succ HX.out hbd, hb3⟩
          case measure => simp [intOf]; omega
        · have hb3 := hb.trans (hb2.mono hb.size)
          go_wp2_with fail
          go_ret
          exact ⟨.inr rfl, hb3⟩
      · have he : k = xs.length := by omega
        subst he
        go_wp2
        go_ret
        exact ⟨.inl ⟨z, hz, ⟨by omega, hall.all⟩, rfl⟩, hb⟩
  · go_enter Try.func134, Try.ntmps134
    go_wp2
    go_ret
    exact ⟨.inr rfl, Below.refl _ _⟩

def RetAkRows (w : World) (xs : List Ak) (e : Ending) (w' : World) : Prop := ∃ A c fp, e = .returned (.slice A xs.length c) ∧ Rep.OwnRows akR 50 w' w.heap.size (.slice A xs.length c) xs fp ∧ Below w.heap.size w w'
set_option maxHeartbeats 4000000 in
theorem toAkS_any (A : Option Addr) (c : Nat) (xs : List Ak) (w : World) (h : Rep.RowsAt akR w w.heap.size A xs.length xs) (hs : FitsAkS xs) :
    Calls Try.prog 137 #[.slice A xs.length c] w (RetAkRows w xs) := by
  obtain ⟨hn, hm⟩ := hs
  obtain ⟨i0, hi0, hz0, hz1, hz2⟩ := info_parts Try.infoAkL
  go_enter Try.func137, Try.ntmps137
  go_wp2_with (at_make; refine wpList_make_full _ rfl _ _ _ rfl w.heap.size 50 i0 _ 8 Try.underlying65 hi0 hz0 hz1 _ _ _ _ xs.length rfl rfl rfl rfl (by rw [hz2]; omega) (by simp only [maxLen]; omega) (Nat.le_refl _) ?_; intro w1 hown1 hg1)
  have hb1 : Below w.heap.size w w1 := (Below.refl _ _).grown hg1 (Nat.le_refl _) (fun _ hk => by cases hk)
  have hz : Rep.OwnRows akR 50 w1 w.heap.size (.slice (some ⟨w.heap.size, 0, none⟩) xs.length xs.length) (halfL akZero xs 0) [w.heap.size] := by
    rw [halfL_zero]
    exact rows_zero akR _ w1 _ _ _ akZero [.int .i64 0, .string ⟨#[]⟩, .int .i64 0, .int .i64 0, .int .i64 0, .string ⟨#[]⟩, .int .i64 0, .int .i64 0] _ hown1 (Rep.seg_made #[.int .i64 0, .string ⟨#[]⟩, .int .i64 0, .int .i64 0, .int .i64 0, .string ⟨#[]⟩, .int .i64 0, .int .i64 0] _) (fun V => ak_own V _ akZero)
  clear hown1 hg1
  go_loopw [4] (fun i wr => ∃ (k : Nat) (fp : List Nat), k ≤ xs.length ∧ i = .int .i64 k ∧ Below w.heap.size w wr ∧ Rep.OwnRows akR 50 wr w.heap.size (.slice (some ⟨w.heap.size, 0, none⟩) xs.length xs.length) (halfL akZero xs k) fp) (fun i _ => xs.length - (intOf i).toNat)
  case atStart => exact ⟨0, _, by omega, rfl, hb1, hz⟩
  case round =>
    obtain ⟨k, fp, hk, rfl, hb, hown⟩ := hrel
    clear hz hb1
    by_cases hlt : k < xs.length
    · obtain ⟨b, off, x, rfl, hbl, hx, e0, e1, e2, e3, e4, e5, e6, e7⟩ := ak_elem (h.keep fun p hp => hb.cell hp) hlt
      have HX := Lib.hid hx
      clear hx
      go_wp2_with fail
      refine (toAk_any x wr).mono ?_
      rintro e w2 ⟨h9, hb2⟩
      replace h9 : e = .returned (.agg #[.int .i64 x.sock, .string x.db, .int .i64 x.st, .int .i64 x.ticket, .int .i64 x.since, .string x.q, .int .i64 x.line, .int .i64 x.lease]) := h9
      subst h9
      have hlh : (halfL akZero xs k).length = xs.length := halfL_length _ _ _ hk
      have hown3 := hown.of_below hb2
      have hsz : ∀ j, j < 8 → k * 8 + j < (halfL akZero xs k).length * akR.size := fun j hj => by rw [hlh]; show k * 8 + j < xs.length * 8; omega
      obtain ⟨⟨u0, g0⟩, t0, _, hgl⟩ := hown3.there (k * 8) (hsz 0 (by omega))
      obtain ⟨⟨u1, g1⟩, t1, _, _⟩ := hown3.there (k * 8 + 1) (hsz 1 (by omega))
      obtain ⟨⟨u2, g2⟩, t2, _, _⟩ := hown3.there (k * 8 + 2) (hsz 2 (by omega))
      obtain ⟨⟨u3, g3⟩, t3, _, _⟩ := hown3.there (k * 8 + 3) (hsz 3 (by omega))
      obtain ⟨⟨u4, g4⟩, t4, _, _⟩ := hown3.there (k * 8 + 4) (hsz 4 (by omega))
      obtain ⟨⟨u5, g5⟩, t5, _, _⟩ := hown3.there (k * 8 + 5) (hsz 5 (by omega))
      obtain ⟨⟨u6, g6⟩, t6, _, _⟩ := hown3.there (k * 8 + 6) (hsz 6 (by omega))
      obtain ⟨⟨u7, g7⟩, t7, _, _⟩ := hown3.there (k * 8 + 7) (hsz 7 (by omega))
      clear hsz e0 e1 e2 e3 e4 e5 e6 e7
      go_wp2_with fail
      obtain ⟨fp', hput⟩ := hown3.store (k := k) (x := x) [.int .i64 x.sock, .string x.db, .int .i64 x.st, .int .i64 x.ticket, .int .i64 x.since, .string x.q, .int .i64 x.line, .int .i64 x.lease] hlh hlt rfl (ak_own w2 wr.heap.size x) hb.size (fun g hg => (hown.lt g hg).2)
      rw [halfL_set _ HX.out] at hput
      have hB3 := Rep.setRow_below (g := w.heap.size) (k * 8) [.int .i64 x.sock, .string x.db, .int .i64 x.st, .int .i64 x.ticket, .int .i64 x.since, .string x.q, .int .i64 x.line, .int .i64 x.lease] (hb.trans (hb2.mono hb.size)) (Nat.le_refl _)
      go_roundw
      case rel => exact ⟨k + 1, fp', by omega, by go_num, hB3, hput⟩
      case measure => simp [intOf]; omega
    · have he : k = xs.length := by omega
      subst he
      rw [halfL_all] at hown
      go_wp2
      go_ret
      exact ⟨_, _, _, rfl, hown, hb⟩

set_option maxHeartbeats 4000000 in
theorem eqAkR_same (A B : Option Addr) (c d : Nat) (xs : List Ak) (w : World) (h : Rep.RowsAt akR w w.heap.size A xs.length xs) (h' : Rep.RowsAt akR w w.heap.size B xs.length xs) (hn : xs.length ≤ 1048576) :
    Calls Try.prog 141 #[.slice A xs.length c, .slice B xs.length d] w fun e w' => e = .returned (.bool true) ∧ Below w.heap.size w w' := by
  have hnn : ((xs.length : Int) != (xs.length : Int)) = false := by simp
  go_enter Try.func141, Try.ntmps141
  go_wp2
  go_loopw [5] (fun i wr => ∃ k : Nat, k ≤ xs.length ∧ i = .int .i64 k ∧ Below w.heap.size w wr) (fun i _ => xs.length - (intOf i).toNat)
  case atStart => exact ⟨0, by omega, rfl, Below.refl _ _⟩
  case round =>
    obtain ⟨k, hk, rfl, hb⟩ := hrel
    by_cases hlt : k < xs.length
    · obtain ⟨b, off, x, rfl, hbl, hx, e0, e1, e2, e3, e4, e5, e6, e7⟩ := ak_elem (h.keep fun p hp => hb.cell hp) hlt
      obtain ⟨b', off', x', rfl, hbl', hx', e0', e1', e2', e3', e4', e5', e6', e7'⟩ := ak_elem (h'.keep fun p hp => hb.cell hp) hlt
      obtain rfl : x = x' := by rw [hx] at hx'; injection hx'
      clear hx hx'
      have i1 : (0 : Int) ≤ (k : Int) := by omega
      have i2 : (k : Int) < (xs.length : Int) := by omega
      go_wp2
      go_still_tail 8, (by kernel_rfl)
      change wpList _ _ _ _ _ wr.drew
      go_wp2_with fail
      refine (eqAk_same x wr.drew).mono ?_
      rintro e w2 ⟨rfl, hb2⟩
      have hb3 : Below w.heap.size w w2 := hb.trans ((belowD (Below.refl wr.heap.size wr) 1).trans hb2 |>.mono hb.size)
      clear e0 e1 e2 e3 e4 e5 e6 e7 e0' e1' e2' e3' e4' e5' e6' e7'
      go_wp2_with fail
      go_roundw
      case rel => exact ⟨k + 1, by omega, by go_num, hb3⟩
      case measure => simp [intOf]; omega
    · have he : k = xs.length := by omega
      subst he
      go_wp2
      go_ret
      exact ⟨rfl, hb⟩

def RetAkSR (w : World) (xs : List Ak) (e : Ending) (w' : World) : Prop := ∃ A c fp, e = .returned (.slice A xs.length c) ∧ akSR.own w' w.heap.size [.slice A xs.length c] xs fp ∧ Below w.heap.size w w'
theorem szAkS_rep (cs : List Value) (xs : List Ak) (left : Nat) (w : World) (h : akSR.at_ w w.heap.size cs xs) (hl : left ≤ 1048576) (hk : OkAkS xs) : Calls Try.prog 134 #[cs.headD undef, .int .i64 left] w (RoomB (FitsAkS xs) left w) := by
  obtain ⟨A, c, hv, h1, h2, hr⟩ := akS_of h
  rw [hv]
  exact szAkS_room A c xs left w hr hk (Nat.le_trans h1 h2) hl
theorem toAkS_rep (cs : List Value) (xs : List Ak) (w : World) (h : akSR.at_ w w.heap.size cs xs) (hs : FitsAkS xs) : Calls Try.prog 137 #[cs.headD undef] w (RetAkSR w xs) := by
  obtain ⟨A, c, hv, h1, h2, hr⟩ := akS_of h
  rw [hv]
  exact (toAkS_any A c xs w hr hs).mono fun e w' ⟨A', c', fp, he, ho, hb⟩ => ⟨A', c', fp, he, ⟨_, rfl, ho⟩, hb⟩
theorem eqAkS_rep (cs cs' : List Value) (xs : List Ak) (w : World) (h : akSR.at_ w w.heap.size cs xs) (h' : akSR.at_ w w.heap.size cs' xs) (hs : FitsAkS xs) : Calls Try.prog 141 #[cs.headD undef, cs'.headD undef] w fun e w' => e = .returned (.bool true) ∧ Below w.heap.size w w' := by
  obtain ⟨A, c, hv, _, _, hr⟩ := akS_of h
  obtain ⟨A', c', hv', _, _, hr'⟩ := akS_of h'
  rw [hv, hv']
  exact eqAkR_same A A' c c' xs w hr hr' hs.1

end Go.Proofs.Ytgdhhhibkhfdlaa
