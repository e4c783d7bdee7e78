/- AskerAt of the program and of the model. (By gen_l9a.py.) -/
import Derived.Test.YtgdhhhibkhfdlaaFLAsker
namespace Go.Proofs.Ytgdhhhibkhfdlaa
open Go.RowKit
set_option linter.unusedVariables false

def akF (id : Int) : List Ak → Nat → Int
  | [], _ => -1
  | x :: xs, k => if x.sock = id then (k : Int) else akF id xs (k + 1)
def akAtP (xs : List Ak) (id : Int) : Int := akF id xs 0
theorem ak_drop {xs : List Ak} {k : Nat} {x : Ak} (h : xs[k]? = some x) : xs.drop k = x :: xs.drop (k + 1) := by
  obtain ⟨hk, rfl⟩ := List.getElem?_eq_some_iff.1 h
  exact List.drop_eq_getElem_cons hk
theorem akF_yes {id : Int} {xs : List Ak} {k : Nat} {x : Ak} (h : xs[k]? = some x) (he : x.sock = id) : akF id (xs.drop k) k = k := by
  rw [ak_drop h]; simp [akF, he]
theorem akF_no {id : Int} {xs : List Ak} {k : Nat} {x : Ak} (h : xs[k]? = some x) (he : ¬ x.sock = id) : akF id (xs.drop k) k = akF id (xs.drop (k + 1)) (k + 1) := by
  rw [ak_drop h]; simp [akF, he]

set_option maxHeartbeats 2000000 in
theorem akAtS_any (A : Option Addr) (c : Nat) (xs : List Ak) (id : Int) (w : World) (h : Rep.RowsAt akR w w.heap.size A xs.length xs) (hn : xs.length ≤ 9223372036854775807) :
    Calls Try.prog 180 #[.slice A xs.length c, .int .i64 id] w (fun e w' => e = .returned (.int .i64 (akF id xs 0)) ∧ Below w.heap.size w w') := by
  go_enter Try.func180, Try.ntmps180
  go_wp2
  go_loop [5] (fun i => ∃ k : Nat, k ≤ xs.length ∧ i = .int .i64 k ∧ Hid (akF id xs 0 = akF id (xs.drop k) k)) (fun i => xs.length - (intOf i).toNat)
  case atStart => exact ⟨0, by omega, rfl, Lib.hid rfl⟩
  case round =>
    obtain ⟨k, hk, rfl, hq⟩ := hrel
    by_cases hlt : k < xs.length
    · obtain ⟨b, off, x, rfl, hbl, hx, e0, e1, e2, e3, e4, e5, e6, e7⟩ := ak_elem h hlt
      by_cases hid : x.sock = id
      · have HF := Lib.hid (hq.out.trans (akF_yes hx hid))
        have ht : (x.sock == id) = true := by simp [hid]
        clear hx hid hq
        go_wp2
        go_ret
        exact ⟨by rw [HF.out]; exact rfl, Below.refl _ _⟩
      · have HF := Lib.hid (hq.out.trans (akF_no hx hid))
        have ht : (x.sock == id) = false := by simp [hid]
        clear hx hid hq
        go_wp2
        go_round
        case rel => exact ⟨k + 1, by omega, by go_num, HF⟩
        case measure => simp [intOf]; omega
    · have he : k = xs.length := by omega
      subst he
      have HF := Lib.hid (hq.out.trans (by rw [List.drop_length]; rfl : akF id (xs.drop xs.length) xs.length = -1))
      clear hq
      go_wp2
      go_ret
      exact ⟨by rw [HF.out]; exact rfl, Below.refl _ _⟩

set_option maxHeartbeats 2000000 in
theorem akAt_any (A : Option Addr) (c : Nat) (xs : List Ak) (id : Int) (w : World) (h : Rep.RowsAt akR w w.heap.size A xs.length xs) (hn : xs.length ≤ 9223372036854775807) :
    Calls Try.prog 52 #[.slice A xs.length c, .int .i64 id] w (fun e w' => e = .returned (.int .i64 (akF id xs 0)) ∧ Below w.heap.size w w') := by
  go_enter Try.func52, Try.ntmps52
  go_wp2
  go_loopw [9] (fun i wr => ∃ k : Nat, k ≤ xs.length ∧ i = .int .i64 k ∧ Hid (akF id xs 0 = akF id (xs.drop k) k) ∧ Below w.heap.size w wr) (fun i _ => xs.length - (intOf i).toNat)
  case atStart => exact ⟨0, by omega, rfl, Lib.hid rfl, Below.refl _ _⟩
  case round =>
    obtain ⟨k, hk, rfl, hq, hb⟩ := hrel
    by_cases hlt : k < xs.length
    · obtain ⟨b, off, x, rfl, hbl, hx, e0, e1, e2, e3, e4, e5, e6, e7⟩ := ak_elem (h.keep fun p hp => hb.cell hp) hlt
      have hb2 := hb.alloc hb.size (.cells #[.int .i64 x.sock, .string x.db, .int .i64 x.st, .int .i64 x.ticket, .int .i64 x.since, .string x.q, .int .i64 x.line, .int .i64 x.lease] 50)
      by_cases hid : x.sock = id
      · have HF := Lib.hid (hq.out.trans (akF_yes hx hid))
        have ht : (x.sock == id) = true := by simp [hid]
        clear hx hid hq
        go_wp2
        go_ret
        exact ⟨by rw [HF.out]; exact rfl, hb2⟩
      · have HF := Lib.hid (hq.out.trans (akF_no hx hid))
        have ht : (x.sock == id) = false := by simp [hid]
        clear hx hid hq
        go_wp2
        go_roundw
        case rel => exact ⟨k + 1, by omega, by go_num, HF, hb2⟩
        case measure => simp [intOf]; omega
    · have he : k = xs.length := by omega
      subst he
      have HF := Lib.hid (hq.out.trans (by rw [List.drop_length]; rfl : akF id (xs.drop xs.length) xs.length = -1))
      clear hq
      go_wp2
      go_ret
      exact ⟨by rw [HF.out]; exact rfl, hb⟩

theorem akAtS_rep (cs : List Value) (xs : List Ak) (id : Int) (w : World) (h : akSR.at_ w w.heap.size cs xs) (hs : FitsAkS xs) (hi : (Lit.int .i64 id).wf = true) : Calls Try.prog 180 #[cs.headD undef, .int .i64 id] w fun e w' => e = .returned (.int .i64 (akAtP xs id)) ∧ Below w.heap.size w w' := by
  obtain ⟨A, c, hv, h1, h2, hr⟩ := akS_of h
  rw [hv]
  exact akAtS_any A c xs id w hr (Nat.le_trans h1 h2)
theorem akAt_rep (cs : List Value) (xs : List Ak) (id : Int) (w : World) (h : akSR.at_ w w.heap.size cs xs) (hs : FitsAkS xs) (hi : (Lit.int .i64 id).wf = true) : Calls Try.prog 52 #[cs.headD undef, .int .i64 id] w fun e w' => e = .returned (.int .i64 (akAtP xs id)) ∧ Below w.heap.size w w' := by
  obtain ⟨A, c, hv, h1, h2, hr⟩ := akS_of h
  rw [hv]
  exact akAt_any A c xs id w hr (Nat.le_trans h1 h2)
end Go.Proofs.Ytgdhhhibkhfdlaa
