/- Lists of sockets: where one stands, whether the list is right; model and program. -/
import Derived.Test.YtcelkmphdeaaeaaNLSock
import Derived.Test.YtcelkmphdeaaeaaSockI
import Derived.Deep.Cut
namespace Go.Proofs.Ytcelkmphdeaaeaa
open Go.RowKit
set_option maxRecDepth 100000
set_option linter.unusedVariables false

def atF (id : Int) : List Sk → Nat → Int
  | [], _ => -1
  | x :: xs, k => if x.id = id then (k : Int) else atF id xs (k + 1)
theorem drop_get {α : Type} {xs : List α} {k : Nat} {x : α} (h : xs[k]? = some x) : xs.drop k = x :: xs.drop (k + 1) := by
  obtain ⟨hk, rfl⟩ := List.getElem?_eq_some_iff.1 h
  exact List.drop_eq_getElem_cons hk
theorem atF_yes {id : Int} {xs : List Sk} {k : Nat} {x : Sk} (h : xs[k]? = some x) (he : x.id = id) : atF id (xs.drop k) k = k := by
  rw [drop_get h]; simp [atF, he]
theorem atF_no {id : Int} {xs : List Sk} {k : Nat} {x : Sk} (h : xs[k]? = some x) (he : ¬ x.id = id) : atF id (xs.drop k) k = atF id (xs.drop (k + 1)) (k + 1) := by
  rw [drop_get h]; simp [atF, he]
theorem atF_in (id : Int) (xs : List Sk) : ∀ k : Nat, -1 ≤ atF id xs k ∧ atF id xs k < (k : Int) + xs.length := by
  induction xs with
  | nil => intro k; simp [atF]; omega
  | cons x xs ih =>
    intro k
    have := ih (k + 1)
    unfold atF
    simp only [List.length_cons]
    split <;> omega

set_option maxHeartbeats 2000000 in
theorem sockAtS_any (A : Option Addr) (c : Nat) (xs : List Sk) (id : Int) (w : World) (h : Rep.RowsAt skR w w.heap.size A xs.length xs) (hn : xs.length ≤ 9223372036854775807) :
    Calls Try.prog 48 #[.slice A xs.length c, .int .i64 id] w (fun e w' => e = .returned (.int .i64 (atF id xs 0)) ∧ Below w.heap.size w w') := by
  go_enter Try.func48, Try.ntmps48
  go_wp2
  go_loop [5] (fun i => ∃ k : Nat, k ≤ xs.length ∧ i = .int .i64 k ∧ Hid (atF id xs 0 = atF id (xs.drop k) k)) (fun i => xs.length - (intOf i).toNat)
  case atStart => exact ⟨0, by omega, rfl, Lib.hid rfl⟩
  case round =>
    obtain ⟨k, hk, rfl, hq⟩ := hrel
    by_cases hlt : k < xs.length
    · obtain ⟨b, off, x, A4, c4, A5, c5, rfl, hbl, hx, ⟨e0, _⟩, _⟩ := sk_elem h hlt
      by_cases hid : x.id = id
      · have HF := Lib.hid (hq.out.trans (atF_yes hx hid))
        have ht : (x.id == id) = true := by simp [hid]
        clear hx hid hq
        go_wp2
        go_ret
        exact ⟨by rw [HF.out]; exact rfl, Below.refl _ _⟩
      · have HF := Lib.hid (hq.out.trans (atF_no hx hid))
        have ht : (x.id == id) = false := by simp [hid]
        clear hx hid hq
        go_wp2
        go_round
        case rel => exact ⟨k + 1, by omega, by go_num, HF⟩
        case measure => simp [intOf]; omega
    · have he : k = xs.length := by omega
      subst he
      have HF := Lib.hid (hq.out.trans (by rw [List.drop_length]; rfl : atF id (xs.drop xs.length) xs.length = -1))
      clear hq
      go_wp2
      go_ret
      exact ⟨by rw [HF.out]; exact rfl, Below.refl _ _⟩

set_option maxHeartbeats 2000000 in
theorem sockAt_any (A : Option Addr) (c : Nat) (xs : List Sk) (id : Int) (w : World) (h : Rep.RowsAt skR w w.heap.size A xs.length xs) (hn : xs.length ≤ 9223372036854775807) :
    Calls Try.prog 49 #[.slice A xs.length c, .int .i64 id] w (fun e w' => e = .returned (.int .i64 (atF id xs 0)) ∧ Below w.heap.size w w') := by
  go_enter Try.func49, Try.ntmps49
  go_wp2
  go_loopw [9] (fun i wr => ∃ k : Nat, k ≤ xs.length ∧ i = .int .i64 k ∧ Hid (atF id xs 0 = atF id (xs.drop k) k) ∧ Below w.heap.size w wr) (fun i _ => xs.length - (intOf i).toNat)
  case atStart => exact ⟨0, by omega, rfl, Lib.hid rfl, Below.refl _ _⟩
  case round =>
    obtain ⟨k, hk, rfl, hq, hb⟩ := hrel
    by_cases hlt : k < xs.length
    · obtain ⟨b, off, x, A4, c4, A5, c5, rfl, hbl, hx, ⟨e0, e1, e2, e3, e4, e5, e6, e7⟩, _⟩ := sk_elem (h.keep fun p hp => hb.cell hp) hlt
      have hb2 := hb.alloc hb.size (.cells #[.int .i64 x.id, .int .i64 x.kind, .int .i64 x.hold, .bool x.shut, .slice A4 x.inn.length c4, .slice A5 x.out.length c5, .int .i64 x.st, .int .i64 x.done] 25)
      by_cases hid : x.id = id
      · have HF := Lib.hid (hq.out.trans (atF_yes hx hid))
        have ht : (x.id == id) = true := by simp [hid]
        clear hx hid hq
        go_wp2
        go_ret
        exact ⟨by rw [HF.out]; exact rfl, hb2⟩
      · have HF := Lib.hid (hq.out.trans (atF_no hx hid))
        have ht : (x.id == id) = false := by simp [hid]
        clear hx hid hq
        go_wp2
        go_roundw
        case rel => exact ⟨k + 1, by omega, by go_num, HF, hb2⟩
        case measure => simp [intOf]; omega
    · have he : k = xs.length := by omega
      subst he
      have HF := Lib.hid (hq.out.trans (by rw [List.drop_length]; rfl : atF id (xs.drop xs.length) xs.length = -1))
      clear hq
      go_wp2
      go_ret
      exact ⟨by rw [HF.out]; exact rfl, hb⟩

def socksF : Int → List Sk → Bool
  | _, [] => true
  | last, x :: xs => skB x && (decide (last < x.id) && socksF x.id xs)
def socksB (xs : List Sk) : Bool := socksF 0 xs && decide (xs.length ≤ 12)
theorem socksF_bad {xs : List Sk} {k : Nat} {x : Sk} {l : Int} (h : xs[k]? = some x) (hb : skB x = false ∨ x.id ≤ l) : socksF l (xs.drop k) = false := by
  rw [drop_get h]
  rcases hb with hb | hb
  · simp [socksF, hb]
  · have : ¬ l < x.id := by omega
    simp [socksF, this]
theorem socksF_ok {xs : List Sk} {k : Nat} {x : Sk} {l : Int} (h : xs[k]? = some x) (hb : skB x = true) (hl : ¬ x.id ≤ l) : socksF l (xs.drop k) = socksF x.id (xs.drop (k + 1)) := by
  rw [drop_get h]
  have : l < x.id := by omega
  simp [socksF, hb, this]
theorem skB_id {x : Sk} (h : skB x = true) : 1 ≤ x.id := by
  unfold skB inI at h
  simp at h
  exact h.1.1

set_option maxHeartbeats 4000000 in
theorem socksOk_any (A : Option Addr) (c : Nat) (xs : List Sk) (w : World) (h : Rep.RowsAt skR w w.heap.size A xs.length xs) (hn : xs.length ≤ 9223372036854775807) :
    Calls Try.prog 28 #[.slice A xs.length c] w (RetBool w (socksB xs)) := by
  go_enter Try.func28, Try.ntmps28
  go_wp2
  go_loopw [3, 8] (fun q i wr => ∃ (k : Nat) (l : Int), k ≤ xs.length ∧ i = .int .i64 k ∧ q = .int .i64 l ∧ Hid (socksF 0 xs = socksF l (xs.drop k)) ∧ Below w.heap.size w wr) (fun _ i _ => xs.length - (intOf i).toNat)
  case atStart => exact ⟨0, 0, by omega, rfl, rfl, Lib.hid rfl, Below.refl _ _⟩
  case round =>
    obtain ⟨k, l, hk, rfl, rfl, hq, hb⟩ := hrel
    by_cases hlt : k < xs.length
    · obtain ⟨b, off, x, A4, c4, A5, c5, rfl, hbl, hx, ⟨e0, e1, e2, e3, e4, e5, e6, e7⟩, hc4, hr4, hc5, hr5⟩ := sk_elem (h.keep fun p hp => hb.cell hp) hlt
      have hb2 := hb.alloc hb.size (.cells #[.int .i64 x.id, .int .i64 x.kind, .int .i64 x.hold, .bool x.shut, .slice A4 x.inn.length c4, .slice A5 x.out.length c5, .int .i64 x.st, .int .i64 x.done] 25)
      have hV := heap_alloc_new wr (.cells #[.int .i64 x.id, .int .i64 x.kind, .int .i64 x.hold, .bool x.shut, .slice A4 x.inn.length c4, .slice A5 x.out.length c5, .int .i64 x.st, .int .i64 x.done] 25)
      have hat := Rep.more skR (Rep.at_below (sk_at hc4 (hr4.more hb.size) hc5 (hr5.more hb.size)) (Later.alloc wr (.cells #[.int .i64 x.id, .int .i64 x.kind, .int .i64 x.hold, .bool x.shut, .slice A4 x.inn.length c4, .slice A5 x.out.length c5, .int .i64 x.st, .int .i64 x.done] 25))) (Later.alloc wr (.cells #[.int .i64 x.id, .int .i64 x.kind, .int .i64 x.hold, .bool x.shut, .slice A4 x.inn.length c4, .slice A5 x.out.length c5, .int .i64 x.st, .int .i64 x.done] 25)).size
      have HX := Lib.hid hx
      clear hx hr4 hr5 hc4 hc5
      obtain ⟨y, hy⟩ : ∃ y, skB x = y := ⟨_, rfl⟩
      obtain ⟨v, hv⟩ : ∃ v, decide (x.id ≤ l) = v := ⟨_, rfl⟩
      have HY := Lib.hid hy
      have HV := Lib.hid hv
      clear hy hv
      go_upto_region 5 with (fail)
      generalize (wr.alloc (.cells #[.int .i64 x.id, .int .i64 x.kind, .int .i64 x.hold, .bool x.shut, .slice A4 x.inn.length c4, .slice A5 x.out.length c5, .int .i64 x.st, .int .i64 x.done] 25)) = W at hb2 hV hat ⊢
      clear e0 e1 e2 e3 e4 e5 e6 e7
      have q0 := var_cell hV 0
      have q1 := var_cell hV 1
      have q2 := var_cell hV 2
      have q3 := var_cell hV 3
      have q4 := var_cell hV 4
      have q5 := var_cell hV 5
      have q6 := var_cell hV 6
      have q7 := var_cell hV 7
      go_wp2_with fail
      refine (sockOk_any [.int .i64 x.id, .int .i64 x.kind, .int .i64 x.hold, .bool x.shut, .slice A4 x.inn.length c4, .slice A5 x.out.length c5, .int .i64 x.st, .int .i64 x.done] x W hat).mono ?_
      rw [HY.out]
      rintro e w2 ⟨rfl, hb3⟩
      replace hV := (hb3.block _ (Array.getElem?_eq_some_iff.1 hV).1).trans hV
      replace hb2 := hb2.trans (hb3.mono hb2.size)
      clear q0 q1 q2 q3 q4 q5 q6 q7 hat hb3
      have q0 := var_cell hV 0
      cases y
      · have HF := Lib.hid (hq.out.trans (socksF_bad HX.out (.inl HY.out)))
        clear hq
        go_wp2
        go_ret
        exact ⟨by unfold socksB; rw [HF.out]; rfl, hb2⟩
      · cases v
        · have hle : ¬ x.id ≤ l := of_decide_eq_false HV.out
          have HF := Lib.hid (hq.out.trans (socksF_ok HX.out HY.out hle))
          clear hq
          go_wp2
          go_roundw
          case rel => exact ⟨k + 1, x.id, by omega, by go_num, rfl, HF, hb2⟩
          case measure => simp [intOf]; omega
        · have hle : x.id ≤ l := of_decide_eq_true HV.out
          have HF := Lib.hid (hq.out.trans (socksF_bad HX.out (.inr hle)))
          clear hq
          go_wp2
          go_ret
          exact ⟨by unfold socksB; rw [HF.out]; rfl, hb2⟩
    · have he : k = xs.length := by omega
      subst he
      have HF := Lib.hid (hq.out.trans (by rw [List.drop_length]; rfl : socksF l (xs.drop xs.length) = true))
      clear hq
      by_cases h12 : (xs.length : Int) ≤ 12
      · go_wp2
        go_ret
        exact ⟨by unfold socksB; rw [HF.out]; simp; omega, hb⟩
      · go_wp2
        go_ret
        exact ⟨by unfold socksB; rw [HF.out]; simp; omega, hb⟩

end Go.Proofs.Ytcelkmphdeaaeaa
