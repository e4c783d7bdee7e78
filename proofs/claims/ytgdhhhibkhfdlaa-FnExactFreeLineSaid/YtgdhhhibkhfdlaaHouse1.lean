/- Count, FreeLine and MayOpen of the program and of the model. (By gen_l10a.py.) -/
import Derived.Test.YtgdhhhibkhfdlaaRHouse
import Derived.Test.YtgdhhhibkhfdlaaConfAt
import Derived.Test.YtgdhhhibkhfdlaaAtLine
import Derived.BigQuiet
import Derived.Deep.QuietTactic
namespace Go.Proofs.Ytgdhhhibkhfdlaa
open Go.RowKit
set_option linter.unusedVariables false
set_option maxRecDepth 100000

def cntD (xs : List Ln) (db : ByteArray) : Nat := (xs.filter fun x => x.db.toList == db.toList).length
theorem cntD_le (xs : List Ln) (db : ByteArray) : cntD xs db ≤ xs.length := List.length_filter_le _ _
theorem cntD_succ {xs : List Ln} {db : ByteArray} {k : Nat} {y : Ln} (h : xs[k]? = some y) : cntD (xs.take (k + 1)) db = cntD (xs.take k) db + if (y.db.toList == db.toList) = true then 1 else 0 := by
  unfold cntD
  rw [Rep.take_get h, List.filter_append]
  by_cases hy : (y.db.toList == db.toList) = true
  · rw [if_pos hy]; simp [hy]
  · rw [if_neg hy]; simp [hy]
def freeB (g : Int) (db : ByteArray) (y : Ln) : Bool := (y.db.toList == db.toList) && (y.st == 0) && (y.gen == g)
def freeL (g : Int) (db : ByteArray) : List Ln → Int
  | [] => 0
  | y :: ys => if freeB g db y = true then y.sock else freeL g db ys
theorem freeL_yes {g : Int} {db : ByteArray} {xs : List Ln} {k : Nat} {y : Ln} (h : xs[k]? = some y) (he : freeB g db y = true) : freeL g db (xs.drop k) = y.sock := by
  rw [ln_drop h]; unfold freeL; rw [if_pos he]
theorem freeL_no {g : Int} {db : ByteArray} {xs : List Ln} {k : Nat} {y : Ln} (h : xs[k]? = some y) (he : freeB g db y = false) : freeL g db (xs.drop k) = freeL g db (xs.drop (k + 1)) := by
  rw [ln_drop h]
  show (if _ then _ else _) = _
  rw [if_neg (by rw [he]; simp)]
def countP (x : Ho) (db : ByteArray) : Int := (cntD x.ls db : Nat)
def freeLineP (x : Ho) (db : ByteArray) : Int := freeL x.gen db x.ls
def mayOpenP (x : Ho) (db : ByteArray) : Bool := (dbAt x.conf db).2 && decide (countP x db < (dbAt x.conf db).1.size) && decide ((x.ls.length : Int) < 9)

set_option maxHeartbeats 2000000 in
theorem countS_rep (cs : List Value) (x : Ho) (db : ByteArray) (w : World) (h : hoR.at_ w w.heap.size cs x) (hs : FitsHo x) :
    Calls Try.prog 68 #[.agg cs.toArray, .string db] w (fun e w' => e = .returned (.int .i64 (countP x db)) ∧ Below w.heap.size w w') := by
  obtain ⟨A3, c3, A5, c5, A6, c6, rfl, t3, t5, t6⟩ := ho_cells h
  have hn : x.ls.length ≤ 1048576 := hs.2.2.1
  have S : All (fun w' => (Below w.heap.size w w' ∧ lnSR.at_ w' w'.heap.size [.slice A6 x.ls.length c6] x.ls) ∧ w'.heap[w.heap.size]? = some (.cells #[.int .i64 x.st, .int .i64 x.epoch, .int .i64 x.gen, .slice A3 x.conf.length c3, .bool x.paused, .slice A5 x.as_.length c5, .slice A6 x.ls.length c6, .int .i64 x.ticket, .int .i64 x.h.id, .int .i64 x.h.no, .int .i64 x.h.acked, .int .i64 x.h.since] 70 (0, 0))) (w.alloc (.cells #[.int .i64 x.st, .int .i64 x.epoch, .int .i64 x.gen, .slice A3 x.conf.length c3, .bool x.paused, .slice A5 x.as_.length c5, .slice A6 x.ls.length c6, .int .i64 x.ticket, .int .i64 x.h.id, .int .i64 x.h.no, .int .i64 x.h.acked, .int .i64 x.h.since] 70)) :=
    ⟨⟨Later.alloc w _, Rep.more lnSR (Rep.at_below t6 (Later.alloc w _)) (by simp)⟩, heap_alloc_new w _⟩
  clear h hs t3 t5 t6
  unfold countP
  go_enter Try.func68, Try.ntmps68
  go_wp2_with fail
  generalize w.alloc (.cells #[.int .i64 x.st, .int .i64 x.epoch, .int .i64 x.gen, .slice A3 x.conf.length c3, .bool x.paused, .slice A5 x.as_.length c5, .slice A6 x.ls.length c6, .int .i64 x.ticket, .int .i64 x.h.id, .int .i64 x.h.no, .int .i64 x.h.acked, .int .i64 x.h.since] 70) = W0 at S ⊢
  go_loopw [5, 6] (fun n i wr => ∃ k : Nat, k ≤ x.ls.length ∧ i = .int .i64 k ∧ n = .int .i64 (cntD (x.ls.take k) db : Nat) ∧ All (fun w' => (Below w.heap.size w w' ∧ lnSR.at_ w' w'.heap.size [.slice A6 x.ls.length c6] x.ls) ∧ w'.heap[w.heap.size]? = some (.cells #[.int .i64 x.st, .int .i64 x.epoch, .int .i64 x.gen, .slice A3 x.conf.length c3, .bool x.paused, .slice A5 x.as_.length c5, .slice A6 x.ls.length c6, .int .i64 x.ticket, .int .i64 x.h.id, .int .i64 x.h.no, .int .i64 x.h.acked, .int .i64 x.h.since] 70 (0, 0))) wr) (fun _ i _ => x.ls.length - (intOf i).toNat)
  case atStart => exact ⟨0, by omega, rfl, rfl, S⟩
  case round =>
    clear S
    obtain ⟨k, hk, rfl, rfl, S⟩ := hrel
    have q6 := var_cell S.out.2 6
    by_cases hlt : k < x.ls.length
    · obtain ⟨b, off, y, rfl, hbl, hy, e0, e1, e2, e3, e4, e5, e6⟩ := ln_elem (lnS_rows S.out.1.2).2 hlt
      have hcn := Lib.hid (cntD_succ (db := db) hy)
      have hle := cntD_le (x.ls.take k) db
      rw [List.length_take, Nat.min_eq_left hk] at hle
      clear hy
      generalize cntD (x.ls.take k) db = m at *
      have S2 := S
      cases hdb : (y.db.toList == db.toList)
      · have hcn2 : cntD (x.ls.take (k + 1)) db = m := by rw [hcn.out, if_neg (by rw [hdb]; simp)]; rfl
        have H2 := Lib.hid hcn2
        clear hcn2 hcn S
        go_wp2_with fail
        go_roundw
        case rel => exact ⟨k + 1, by omega, by go_num, by rw [H2.out], S2⟩
        case measure => simp [intOf]; omega
      · have hcn2 : cntD (x.ls.take (k + 1)) db = m + 1 := by rw [hcn.out, if_pos hdb]
        have H2 := Lib.hid hcn2
        clear hcn2 hcn S
        go_wp2_with fail
        go_roundw
        case rel => exact ⟨k + 1, by omega, by go_num, by rw [H2.out]; go_num, S2⟩
        case measure => simp [intOf]; omega
    · have he : k = x.ls.length := by omega
      subst he
      rw [List.take_length]
      go_wp2_with fail
      go_ret
      exact ⟨rfl, S.out.1.1⟩

set_option maxHeartbeats 2000000 in
theorem count_rep (cs : List Value) (x : Ho) (db : ByteArray) (w : World) (h : hoR.at_ w w.heap.size cs x) (hs : FitsHo x) :
    Calls Try.prog 60 #[.agg cs.toArray, .string db] w (fun e w' => e = .returned (.int .i64 (countP x db)) ∧ Below w.heap.size w w') := by
  obtain ⟨A3, c3, A5, c5, A6, c6, rfl, t3, t5, t6⟩ := ho_cells h
  have hn : x.ls.length ≤ 1048576 := hs.2.2.1
  have S : All (fun w' => (Below w.heap.size w w' ∧ lnSR.at_ w' w'.heap.size [.slice A6 x.ls.length c6] x.ls) ∧ w'.heap[w.heap.size]? = some (.cells #[.int .i64 x.st, .int .i64 x.epoch, .int .i64 x.gen, .slice A3 x.conf.length c3, .bool x.paused, .slice A5 x.as_.length c5, .slice A6 x.ls.length c6, .int .i64 x.ticket, .int .i64 x.h.id, .int .i64 x.h.no, .int .i64 x.h.acked, .int .i64 x.h.since] 70 (0, 0))) (w.alloc (.cells #[.int .i64 x.st, .int .i64 x.epoch, .int .i64 x.gen, .slice A3 x.conf.length c3, .bool x.paused, .slice A5 x.as_.length c5, .slice A6 x.ls.length c6, .int .i64 x.ticket, .int .i64 x.h.id, .int .i64 x.h.no, .int .i64 x.h.acked, .int .i64 x.h.since] 70)) :=
    ⟨⟨Later.alloc w _, Rep.more lnSR (Rep.at_below t6 (Later.alloc w _)) (by simp)⟩, heap_alloc_new w _⟩
  clear h hs t3 t5 t6
  unfold countP
  go_enter Try.func60, Try.ntmps60
  have q6 := var_cell S.out.2 6
  go_wp2_with fail
  generalize w.alloc (.cells #[.int .i64 x.st, .int .i64 x.epoch, .int .i64 x.gen, .slice A3 x.conf.length c3, .bool x.paused, .slice A5 x.as_.length c5, .slice A6 x.ls.length c6, .int .i64 x.ticket, .int .i64 x.h.id, .int .i64 x.h.no, .int .i64 x.h.acked, .int .i64 x.h.since] 70) = W0 at S q6 ⊢
  go_loopw [5, 11] (fun n i wr => ∃ k : Nat, k ≤ x.ls.length ∧ i = .int .i64 k ∧ n = .int .i64 (cntD (x.ls.take k) db : Nat) ∧ All (fun w' => (Below w.heap.size w w' ∧ lnSR.at_ w' w'.heap.size [.slice A6 x.ls.length c6] x.ls) ∧ w'.heap[w.heap.size]? = some (.cells #[.int .i64 x.st, .int .i64 x.epoch, .int .i64 x.gen, .slice A3 x.conf.length c3, .bool x.paused, .slice A5 x.as_.length c5, .slice A6 x.ls.length c6, .int .i64 x.ticket, .int .i64 x.h.id, .int .i64 x.h.no, .int .i64 x.h.acked, .int .i64 x.h.since] 70 (0, 0))) wr) (fun _ i _ => x.ls.length - (intOf i).toNat)
  case atStart => exact ⟨0, by omega, rfl, rfl, S⟩
  case round =>
    clear S q6
    obtain ⟨k, hk, rfl, rfl, S⟩ := hrel
    have q6 := var_cell S.out.2 6
    by_cases hlt : k < x.ls.length
    · obtain ⟨b, off, y, rfl, hbl, hy, e0, e1, e2, e3, e4, e5, e6⟩ := ln_elem (lnS_rows S.out.1.2).2 hlt
      have hcn := Lib.hid (cntD_succ (db := db) hy)
      have hle := cntD_le (x.ls.take k) db
      rw [List.length_take, Nat.min_eq_left hk] at hle
      clear hy
      generalize cntD (x.ls.take k) db = m at *
      have S2 := S.alloc (.cells #[.int .i64 y.sock, .string y.db, .int .i64 y.gen, .int .i64 y.st, .int .i64 y.since, .int .i64 y.asker, .int .i64 y.lease] 52)
      cases hdb : (y.db.toList == db.toList)
      · have hcn2 : cntD (x.ls.take (k + 1)) db = m := by rw [hcn.out, if_neg (by rw [hdb]; simp)]; rfl
        have H2 := Lib.hid hcn2
        clear hcn2 hcn S
        go_wp2_with fail
        go_roundw
        case rel => exact ⟨k + 1, by omega, by go_num, by rw [H2.out], S2⟩
        case measure => simp [intOf]; omega
      · have hcn2 : cntD (x.ls.take (k + 1)) db = m + 1 := by rw [hcn.out, if_pos hdb]
        have H2 := Lib.hid hcn2
        clear hcn2 hcn S
        go_wp2_with fail
        go_roundw
        case rel => exact ⟨k + 1, by omega, by go_num, by rw [H2.out]; go_num, S2⟩
        case measure => simp [intOf]; omega
    · have he : k = x.ls.length := by omega
      subst he
      rw [List.take_length]
      go_wp2_with fail
      go_ret
      exact ⟨rfl, S.out.1.1⟩

set_option maxHeartbeats 4000000 in
theorem freeLineS_rep (cs : List Value) (x : Ho) (db : ByteArray) (w : World) (h : hoR.at_ w w.heap.size cs x) (hs : FitsHo x) :
    Calls Try.prog 57 #[.agg cs.toArray, .string db] w (fun e w' => e = .returned (.int .i64 (freeLineP x db)) ∧ Below w.heap.size w w') := by
  obtain ⟨A3, c3, A5, c5, A6, c6, rfl, t3, t5, t6⟩ := ho_cells h
  have hn : x.ls.length ≤ 1048576 := hs.2.2.1
  have S : All (fun w' => (Below w.heap.size w w' ∧ lnSR.at_ w' w'.heap.size [.slice A6 x.ls.length c6] x.ls) ∧ w'.heap[w.heap.size]? = some (.cells #[.int .i64 x.st, .int .i64 x.epoch, .int .i64 x.gen, .slice A3 x.conf.length c3, .bool x.paused, .slice A5 x.as_.length c5, .slice A6 x.ls.length c6, .int .i64 x.ticket, .int .i64 x.h.id, .int .i64 x.h.no, .int .i64 x.h.acked, .int .i64 x.h.since] 70 (0, 0))) (w.alloc (.cells #[.int .i64 x.st, .int .i64 x.epoch, .int .i64 x.gen, .slice A3 x.conf.length c3, .bool x.paused, .slice A5 x.as_.length c5, .slice A6 x.ls.length c6, .int .i64 x.ticket, .int .i64 x.h.id, .int .i64 x.h.no, .int .i64 x.h.acked, .int .i64 x.h.since] 70)) :=
    ⟨⟨Later.alloc w _, Rep.more lnSR (Rep.at_below t6 (Later.alloc w _)) (by simp)⟩, heap_alloc_new w _⟩
  clear h hs t3 t5 t6
  unfold freeLineP
  go_enter Try.func57, Try.ntmps57
  go_wp2_with fail
  generalize w.alloc (.cells #[.int .i64 x.st, .int .i64 x.epoch, .int .i64 x.gen, .slice A3 x.conf.length c3, .bool x.paused, .slice A5 x.as_.length c5, .slice A6 x.ls.length c6, .int .i64 x.ticket, .int .i64 x.h.id, .int .i64 x.h.no, .int .i64 x.h.acked, .int .i64 x.h.since] 70) = W0 at S ⊢
  go_loopw [5] (fun i wr => ∃ k : Nat, k ≤ x.ls.length ∧ i = .int .i64 k ∧ Hid (freeL x.gen db x.ls = freeL x.gen db (x.ls.drop k)) ∧ All (fun w' => (Below w.heap.size w w' ∧ lnSR.at_ w' w'.heap.size [.slice A6 x.ls.length c6] x.ls) ∧ w'.heap[w.heap.size]? = some (.cells #[.int .i64 x.st, .int .i64 x.epoch, .int .i64 x.gen, .slice A3 x.conf.length c3, .bool x.paused, .slice A5 x.as_.length c5, .slice A6 x.ls.length c6, .int .i64 x.ticket, .int .i64 x.h.id, .int .i64 x.h.no, .int .i64 x.h.acked, .int .i64 x.h.since] 70 (0, 0))) wr) (fun i _ => x.ls.length - (intOf i).toNat)
  case atStart => exact ⟨0, by omega, rfl, Lib.hid rfl, S⟩
  case round =>
    clear S
    obtain ⟨k, hk, rfl, hq, S⟩ := hrel
    have q2 := var_cell S.out.2 2
    have q6 := var_cell S.out.2 6
    by_cases hlt : k < x.ls.length
    · obtain ⟨b, off, y, rfl, hbl, hy, e0, e1, e2, e3, e4, e5, e6⟩ := ln_elem (lnS_rows S.out.1.2).2 hlt
      have HY := Lib.hid hy
      clear hy
      have S2 := fun n => S.later (belowD (Below.refl wr.heap.size wr) n)
      cases hdb : (y.db.toList == db.toList)
      · have HF := Lib.hid (hq.out.trans (freeL_no HY.out (by unfold freeB; rw [hdb]; rfl)))
        clear S hq HY
        go_wp2_with fail
        go_quiet (fail)
        go_wp2_with fail
        go_roundw
        case rel => exact ⟨k + 1, by omega, by go_num, HF, S2 _⟩
        case measure => simp [intOf]; omega
      · cases hst : (y.st == 0)
        · have HF := Lib.hid (hq.out.trans (freeL_no HY.out (by unfold freeB; rw [hdb, hst]; rfl)))
          clear S hq HY
          go_wp2_with fail
          go_quiet (fail)
          go_wp2_with fail
          go_roundw
          case rel => exact ⟨k + 1, by omega, by go_num, HF, S2 _⟩
          case measure => simp [intOf]; omega
        · cases hge : (y.gen == x.gen)
          · have HF := Lib.hid (hq.out.trans (freeL_no HY.out (by unfold freeB; rw [hdb, hst, hge]; rfl)))
            clear S hq HY
            go_wp2_with fail
            go_quiet (fail)
            go_wp2_with fail
            go_roundw
            case rel => exact ⟨k + 1, by omega, by go_num, HF, S2 _⟩
            case measure => simp [intOf]; omega
          · have HF := Lib.hid (hq.out.trans (freeL_yes HY.out (by unfold freeB; rw [hdb, hst, hge]; rfl)))
            clear S hq HY
            go_wp2_with fail
            go_quiet (fail)
            go_wp2_with fail
            go_ret
            exact ⟨by rw [HF.out]; exact rfl, (S2 _).out.1.1⟩
    · have he : k = x.ls.length := by omega
      subst he
      have HF := Lib.hid (hq.out.trans (by rw [List.drop_length]; rfl : freeL x.gen db (x.ls.drop x.ls.length) = 0))
      clear hq
      go_wp2_with fail
      go_ret
      exact ⟨by rw [HF.out]; exact rfl, S.out.1.1⟩

set_option maxHeartbeats 4000000 in
theorem freeLine_rep (cs : List Value) (x : Ho) (db : ByteArray) (w : World) (h : hoR.at_ w w.heap.size cs x) (hs : FitsHo x) :
    Calls Try.prog 54 #[.agg cs.toArray, .string db] w (fun e w' => e = .returned (.int .i64 (freeLineP x db)) ∧ Below w.heap.size w w') := by
  obtain ⟨A3, c3, A5, c5, A6, c6, rfl, t3, t5, t6⟩ := ho_cells h
  have hn : x.ls.length ≤ 1048576 := hs.2.2.1
  have S : All (fun w' => (Below w.heap.size w w' ∧ lnSR.at_ w' w'.heap.size [.slice A6 x.ls.length c6] x.ls) ∧ w'.heap[w.heap.size]? = some (.cells #[.int .i64 x.st, .int .i64 x.epoch, .int .i64 x.gen, .slice A3 x.conf.length c3, .bool x.paused, .slice A5 x.as_.length c5, .slice A6 x.ls.length c6, .int .i64 x.ticket, .int .i64 x.h.id, .int .i64 x.h.no, .int .i64 x.h.acked, .int .i64 x.h.since] 70 (0, 0))) (w.alloc (.cells #[.int .i64 x.st, .int .i64 x.epoch, .int .i64 x.gen, .slice A3 x.conf.length c3, .bool x.paused, .slice A5 x.as_.length c5, .slice A6 x.ls.length c6, .int .i64 x.ticket, .int .i64 x.h.id, .int .i64 x.h.no, .int .i64 x.h.acked, .int .i64 x.h.since] 70)) :=
    ⟨⟨Later.alloc w _, Rep.more lnSR (Rep.at_below t6 (Later.alloc w _)) (by simp)⟩, heap_alloc_new w _⟩
  clear h hs t3 t5 t6
  unfold freeLineP
  go_enter Try.func54, Try.ntmps54
  have q6 := var_cell S.out.2 6
  go_wp2_with fail
  generalize w.alloc (.cells #[.int .i64 x.st, .int .i64 x.epoch, .int .i64 x.gen, .slice A3 x.conf.length c3, .bool x.paused, .slice A5 x.as_.length c5, .slice A6 x.ls.length c6, .int .i64 x.ticket, .int .i64 x.h.id, .int .i64 x.h.no, .int .i64 x.h.acked, .int .i64 x.h.since] 70) = W0 at S q6 ⊢
  go_loopw [10] (fun i wr => ∃ k : Nat, k ≤ x.ls.length ∧ i = .int .i64 k ∧ Hid (freeL x.gen db x.ls = freeL x.gen db (x.ls.drop k)) ∧ All (fun w' => (Below w.heap.size w w' ∧ lnSR.at_ w' w'.heap.size [.slice A6 x.ls.length c6] x.ls) ∧ w'.heap[w.heap.size]? = some (.cells #[.int .i64 x.st, .int .i64 x.epoch, .int .i64 x.gen, .slice A3 x.conf.length c3, .bool x.paused, .slice A5 x.as_.length c5, .slice A6 x.ls.length c6, .int .i64 x.ticket, .int .i64 x.h.id, .int .i64 x.h.no, .int .i64 x.h.acked, .int .i64 x.h.since] 70 (0, 0))) wr) (fun i _ => x.ls.length - (intOf i).toNat)
  case atStart => exact ⟨0, by omega, rfl, Lib.hid rfl, S⟩
  case round =>
    clear S q6
    obtain ⟨k, hk, rfl, hq, S⟩ := hrel
    have q2 := var_cell S.out.2 2
    have q6 := var_cell S.out.2 6
    by_cases hlt : k < x.ls.length
    · obtain ⟨b, off, y, rfl, hbl, hy, e0, e1, e2, e3, e4, e5, e6⟩ := ln_elem (lnS_rows S.out.1.2).2 hlt
      have HY := Lib.hid hy
      clear hy
      have S2 := S.alloc (.cells #[.int .i64 y.sock, .string y.db, .int .i64 y.gen, .int .i64 y.st, .int .i64 y.since, .int .i64 y.asker, .int .i64 y.lease] 52)
      have hrl := (Array.getElem?_eq_some_iff.1 S.out.2).1
      cases hdb : (y.db.toList == db.toList)
      · have HF := Lib.hid (hq.out.trans (freeL_no HY.out (by unfold freeB; rw [hdb]; rfl)))
        clear S hq HY
        go_wp2_with fail
        go_roundw
        case rel => exact ⟨k + 1, by omega, by go_num, HF, S2⟩
        case measure => simp [intOf]; omega
      · cases hst : (y.st == 0)
        · have HF := Lib.hid (hq.out.trans (freeL_no HY.out (by unfold freeB; rw [hdb, hst]; rfl)))
          clear S hq HY
          go_wp2_with fail
          go_roundw
          case rel => exact ⟨k + 1, by omega, by go_num, HF, S2⟩
          case measure => simp [intOf]; omega
        · cases hge : (y.gen == x.gen)
          · have HF := Lib.hid (hq.out.trans (freeL_no HY.out (by unfold freeB; rw [hdb, hst, hge]; rfl)))
            clear S hq HY
            go_wp2_with fail
            go_roundw
            case rel => exact ⟨k + 1, by omega, by go_num, HF, S2⟩
            case measure => simp [intOf]; omega
          · have HF := Lib.hid (hq.out.trans (freeL_yes HY.out (by unfold freeB; rw [hdb, hst, hge]; rfl)))
            clear S hq HY
            go_wp2_with fail
            go_ret
            exact ⟨by rw [HF.out]; exact rfl, S2.out.1.1⟩
    · have he : k = x.ls.length := by omega
      subst he
      have HF := Lib.hid (hq.out.trans (by rw [List.drop_length]; rfl : freeL x.gen db (x.ls.drop x.ls.length) = 0))
      clear hq
      go_wp2_with fail
      go_ret
      exact ⟨by rw [HF.out]; exact rfl, S.out.1.1⟩

end Go.Proofs.Ytgdhhhibkhfdlaa
