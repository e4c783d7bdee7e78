/- LineAt of the program and of the model. (By gen_l9a.py.) -/
import Derived.Test.YtgdhhhibkhfdlaaFLLine
namespace Go.Proofs.Ytgdhhhibkhfdlaa
open Go.RowKit
set_option linter.unusedVariables false

def lnF (id : Int) : List Ln → Nat → Int
  | [], _ => -1
  | x :: xs, k => if x.sock = id then (k : Int) else lnF id xs (k + 1)
def lnAtP (xs : List Ln) (id : Int) : Int := lnF id xs 0
theorem ln_drop {xs : List Ln} {k : Nat} {x : Ln} (h : xs[k]? = some x) : xs.drop k = x :: xs.drop (k + 1) := by
  obtain ⟨hk, rfl⟩ := List.getElem?_eq_some_iff.1 h
  exact List.drop_eq_getElem_cons hk
theorem lnF_yes {id : Int} {xs : List Ln} {k : Nat} {x : Ln} (h : xs[k]? = some x) (he : x.sock = id) : lnF id (xs.drop k) k = k := by
  rw [ln_drop h]; simp [lnF, he]
theorem lnF_no {id : Int} {xs : List Ln} {k : Nat} {x : Ln} (h : xs[k]? = some x) (he : ¬ x.sock = id) : lnF id (xs.drop k) k = lnF id (xs.drop (k + 1)) (k + 1) := by
  rw [ln_drop h]; simp [lnF, he]

set_option maxHeartbeats 2000000 in
theorem lnAtS_any (A : Option Addr) (c : Nat) (xs : List Ln) (id : Int) (w : World) (h : Rep.RowsAt lnR w w.heap.size A xs.length xs) (hn : xs.length ≤ 9223372036854775807) :
    Calls Try.prog 177 #[.slice A xs.length c, .int .i64 id] w (fun e w' => e = .returned (.int .i64 (lnF id xs 0)) ∧ Below w.heap.size w w') := by
  go_enter Try.func177, Try.ntmps177
  go_wp2
  go_loop [5] (fun i => ∃ k : Nat, k ≤ xs.length ∧ i = .int .i64 k ∧ Hid (lnF id xs 0 = lnF id (xs.drop k) k)) (fun i => xs.length - (intOf i).toNat)
  case atStart => exact ⟨0, by omega, rfl, Lib.hid rfl⟩
  case round =>
    obtain ⟨k, hk, rfl, hq⟩ := hrel
    by_cases hlt : k < xs.length
    · obtain ⟨b, off, x, rfl, hbl, hx, e0, e1, e2, e3, e4, e5, e6⟩ := ln_elem h hlt
      by_cases hid : x.sock = id
      · have HF := Lib.hid (hq.out.trans (lnF_yes hx hid))
        have ht : (x.sock == id) = true := by simp [hid]
        clear hx hid hq
        go_wp2
        go_ret
        exact ⟨by rw [HF.out]; exact rfl, Below.refl _ _⟩
      · have HF := Lib.hid (hq.out.trans (lnF_no hx hid))
        have ht : (x.sock == id) = false := by simp [hid]
        clear hx hid hq
        go_wp2
        go_round
        case rel => exact ⟨k + 1, by omega, by go_num, HF⟩
        case measure => simp [intOf]; omega
    · have he : k = xs.length := by omega
      subst he
      have HF := Lib.hid (hq.out.trans (by rw [List.drop_length]; rfl : lnF id (xs.drop xs.length) xs.length = -1))
      clear hq
      go_wp2
      go_ret
      exact ⟨by rw [HF.out]; exact rfl, Below.refl _ _⟩

set_option maxHeartbeats 2000000 in
theorem lnAt_any (A : Option Addr) (c : Nat) (xs : List Ln) (id : Int) (w : World) (h : Rep.RowsAt lnR w w.heap.size A xs.length xs) (hn : xs.length ≤ 9223372036854775807) :
    Calls Try.prog 61 #[.slice A xs.length c, .int .i64 id] w (fun e w' => e = .returned (.int .i64 (lnF id xs 0)) ∧ Below w.heap.size w w') := by
  go_enter Try.func61, Try.ntmps61
  go_wp2
  go_loopw [9] (fun i wr => ∃ k : Nat, k ≤ xs.length ∧ i = .int .i64 k ∧ Hid (lnF id xs 0 = lnF id (xs.drop k) k) ∧ Below w.heap.size w wr) (fun i _ => xs.length - (intOf i).toNat)
  case atStart => exact ⟨0, by omega, rfl, Lib.hid rfl, Below.refl _ _⟩
  case round =>
    obtain ⟨k, hk, rfl, hq, hb⟩ := hrel
    by_cases hlt : k < xs.length
    · obtain ⟨b, off, x, rfl, hbl, hx, e0, e1, e2, e3, e4, e5, e6⟩ := ln_elem (h.keep fun p hp => hb.cell hp) hlt
      have hb2 := hb.alloc hb.size (.cells #[.int .i64 x.sock, .string x.db, .int .i64 x.gen, .int .i64 x.st, .int .i64 x.since, .int .i64 x.asker, .int .i64 x.lease] 52)
      by_cases hid : x.sock = id
      · have HF := Lib.hid (hq.out.trans (lnF_yes hx hid))
        have ht : (x.sock == id) = true := by simp [hid]
        clear hx hid hq
        go_wp2
        go_ret
        exact ⟨by rw [HF.out]; exact rfl, hb2⟩
      · have HF := Lib.hid (hq.out.trans (lnF_no hx hid))
        have ht : (x.sock == id) = false := by simp [hid]
        clear hx hid hq
        go_wp2
        go_roundw
        case rel => exact ⟨k + 1, by omega, by go_num, HF, hb2⟩
        case measure => simp [intOf]; omega
    · have he : k = xs.length := by omega
      subst he
      have HF := Lib.hid (hq.out.trans (by rw [List.drop_length]; rfl : lnF id (xs.drop xs.length) xs.length = -1))
      clear hq
      go_wp2
      go_ret
      exact ⟨by rw [HF.out]; exact rfl, hb⟩

theorem lnAtS_rep (cs : List Value) (xs : List Ln) (id : Int) (w : World) (h : lnSR.at_ w w.heap.size cs xs) (hs : FitsLnS xs) (hi : (Lit.int .i64 id).wf = true) : Calls Try.prog 177 #[cs.headD undef, .int .i64 id] w fun e w' => e = .returned (.int .i64 (lnAtP xs id)) ∧ Below w.heap.size w w' := by
  obtain ⟨A, c, hv, h1, h2, hr⟩ := lnS_of h
  rw [hv]
  exact lnAtS_any A c xs id w hr (Nat.le_trans h1 h2)
theorem lnAt_rep (cs : List Value) (xs : List Ln) (id : Int) (w : World) (h : lnSR.at_ w w.heap.size cs xs) (hs : FitsLnS xs) (hi : (Lit.int .i64 id).wf = true) : Calls Try.prog 61 #[cs.headD undef, .int .i64 id] w fun e w' => e = .returned (.int .i64 (lnAtP xs id)) ∧ Below w.heap.size w w' := by
  obtain ⟨A, c, hv, h1, h2, hr⟩ := lnS_of h
  rw [hv]
  exact lnAt_any A c xs id w hr (Nat.le_trans h1 h2)
end Go.Proofs.Ytgdhhhibkhfdlaa
