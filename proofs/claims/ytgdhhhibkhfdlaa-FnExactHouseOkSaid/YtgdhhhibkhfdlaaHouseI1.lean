/- askersOk, linesOk and apart of the program. (By gen_l10g.py.) -/
import Derived.Test.YtgdhhhibkhfdlaaHouseP
import Derived.Deep.Cut
namespace Go.Proofs.Ytgdhhhibkhfdlaa
open Go.RowKit
set_option linter.unusedVariables false
set_option maxRecDepth 100000

theorem akB_sock {y : Ak} (h : akB y = true) : 1 ≤ y.sock := by
  unfold akB inI at h
  simp only [Bool.and_eq_true, decide_eq_true_eq] at h
  exact h.1.1
theorem lnB_sock {y : Ln} (h : lnB y = true) : 1 ≤ y.sock := by
  unfold lnB inI at h
  simp only [Bool.and_eq_true, decide_eq_true_eq] at h
  exact h.1.1

/-- The first k are valid and ascend to last. -/
def UpA (xs : List Ak) (k : Nat) (last : Int) : Prop := (∀ i y, i < k → xs[i]? = some y → akB y = true ∧ ∀ z, 0 < i → xs[i - 1]? = some z → z.sock < y.sock) ∧ (k = 0 → last = 0) ∧ ∀ z, 0 < k → xs[k - 1]? = some z → last = z.sock
theorem UpA.succ {xs : List Ak} {k : Nat} {last : Int} {y : Ak} (h : UpA xs k last) (hy : xs[k]? = some y) (ho : akB y = true) (hl : last < y.sock) : UpA xs (k + 1) y.sock := by
  refine ⟨fun i z hi hz => ?_, fun e => by omega, fun z _ hz => ?_⟩
  · by_cases e : i = k
    · subst e
      rw [hy] at hz
      injection hz with hz
      subst hz
      exact ⟨ho, fun z h0 hz => by rw [← h.2.2 z h0 hz]; exact hl⟩
    · exact h.1 i z (by omega) hz
  · simp only [Nat.add_sub_cancel] at hz
    rw [hy] at hz
    injection hz with hz
    rw [hz]
theorem UpA.bad {xs : List Ak} {k : Nat} {last : Int} {y : Ak} (h : UpA xs k last) (hy : xs[k]? = some y) (hl : y.sock ≤ last) : ¬ AscA xs := by
  intro ha
  have h1 := ha k y hy
  by_cases k0 : k = 0
  · have := h.2.1 k0
    have := akB_sock h1.1
    omega
  · obtain ⟨hk, _⟩ := List.getElem?_eq_some_iff.1 hy
    have hz : xs[k - 1]? = some xs[k - 1] := List.getElem?_eq_getElem (by omega)
    have h2 := h1.2 _ (by omega) hz
    have h3 := h.2.2 _ (by omega) hz
    omega

set_option maxHeartbeats 4000000 in
theorem askersOk_any (A : Option Addr) (c : Nat) (xs : List Ak) (w : World) (h : akSR.at_ w w.heap.size [.slice A xs.length c] xs) (hs : FitsAkS xs) :
    Calls Try.prog 119 #[.slice A xs.length c] w (RetBool w (pB (AscA xs ∧ xs.length ≤ 6))) := by
  have HS := Lib.hid hs
  have hn : xs.length ≤ 1048576 := hs.1
  have S : All (fun w' => Below w.heap.size w w' ∧ akSR.at_ w' w'.heap.size [.slice A xs.length c] xs) w := ⟨Below.refl _ _, h⟩
  clear h hs
  unfold RetBool
  go_enter Try.func119, Try.ntmps119
  go_wp2_with fail
  go_loopw [3, 8] (fun l i wr => ∃ (k : Nat) (last : Int), k ≤ xs.length ∧ i = .int .i64 k ∧ l = .int .i64 last ∧ Hid (UpA xs k last) ∧ All (fun w' => Below w.heap.size w w' ∧ akSR.at_ w' w'.heap.size [.slice A xs.length c] xs) wr) (fun _ i _ => xs.length - (intOf i).toNat)
  case atStart => exact ⟨0, 0, by omega, rfl, rfl, Lib.hid ⟨fun i y hi => by omega, fun _ => rfl, fun z h0 => by omega⟩, S⟩
  case round =>
    clear S
    obtain ⟨k, last, hk, rfl, rfl, HU, S⟩ := hrel
    by_cases hlt : k < xs.length
    · obtain ⟨b, off, y, rfl, hbl, hy, e0, e1, e2, e3, e4, e5, e6, e7⟩ := ak_elem (akS_rows S.out.2).2 hlt
      have HY := Lib.hid hy
      have HV := Lib.hid (heap_alloc_new wr (.cells #[.int .i64 y.sock, .string y.db, .int .i64 y.st, .int .i64 y.ticket, .int .i64 y.since, .string y.q, .int .i64 y.line, .int .i64 y.lease] 50))
      have S2 := S.alloc (.cells #[.int .i64 y.sock, .string y.db, .int .i64 y.st, .int .i64 y.ticket, .int .i64 y.since, .string y.q, .int .i64 y.line, .int .i64 y.lease] 50)
      have hD : wr.heap.size < (wr.alloc (.cells #[.int .i64 y.sock, .string y.db, .int .i64 y.st, .int .i64 y.ticket, .int .i64 y.since, .string y.q, .int .i64 y.line, .int .i64 y.lease] 50)).heap.size := by simp
      have hf := HS.out.2 y (List.mem_of_getElem? hy)
      clear hy S
      go_upto_region 5 with (fail)
      clear e0 e1 e2 e3 e4 e5 e6 e7
      generalize wr.alloc (.cells #[.int .i64 y.sock, .string y.db, .int .i64 y.st, .int .i64 y.ticket, .int .i64 y.since, .string y.q, .int .i64 y.line, .int .i64 y.lease] 50) = W1 at *
      generalize wr.heap.size = D at *
      have d0 := var_cell HV.out 0
      have d1 := var_cell HV.out 1
      have d2 := var_cell HV.out 2
      have d3 := var_cell HV.out 3
      have d4 := var_cell HV.out 4
      have d5 := var_cell HV.out 5
      have d6 := var_cell HV.out 6
      have d7 := var_cell HV.out 7
      go_wp2_with fail
      clear d0 d1 d2 d3 d4 d5 d6 d7
      refine (askerOk_rep (akC y) y W1 (ak_at _ _ _) hf).mono ?_
      obtain ⟨b9, hb9⟩ : ∃ b, akB y = b := ⟨_, rfl⟩
      rw [hb9]
      have HB := Lib.hid hb9
      clear hb9
      rintro e W2 ⟨rfl, hb⟩
      replace S2 := S2.later hb
      replace HV := Lib.hid ((hb.block D hD).trans HV.out)
      clear hb hD
      have d0 := var_cell HV.out 0
      cases b9
      · have HE := Lib.hid (pB_no (p := AscA xs ∧ xs.length ≤ 6) (fun h9 => by have := (h9.1 k y HY.out).1; rw [HB.out] at this; cases this))
        go_wp2_with fail
        go_ret
        exact ⟨by rw [HE.out]; exact rfl, S2.out.1⟩
      · by_cases hle : y.sock ≤ last
        · have t1 : decide (y.sock ≤ last) = true := by simp [hle]
          have HE := Lib.hid (pB_no (p := AscA xs ∧ xs.length ≤ 6) (fun h9 => HU.out.bad HY.out hle h9.1))
          clear hle
          go_wp2_with fail
          go_ret
          exact ⟨by rw [HE.out]; exact rfl, S2.out.1⟩
        · have t1 : decide (y.sock ≤ last) = false := by simp [hle]
          have HU2 := Lib.hid (HU.out.succ HY.out HB.out (by omega))
          clear hle HU
          go_wp2_with fail
          go_roundw
          case rel => exact ⟨k + 1, _, by omega, by go_num, rfl, HU2, S2⟩
          case measure => simp [intOf]; omega
    · have he : k = xs.length := by omega
      subst he
      have HE := Lib.hid (show pB (AscA xs ∧ xs.length ≤ 6) = decide (xs.length ≤ 6) from pB_of (by
        simp only [decide_eq_true_eq]
        exact ⟨fun h9 => ⟨fun i y hy => HU.out.1 i y (List.getElem?_eq_some_iff.1 hy).1 hy, h9⟩, fun h9 => h9.2⟩))
      go_wp2_with fail
      go_ret
      exact ⟨by rw [HE.out]; go_num, S.out.1⟩

/-- The first k are valid and ascend to last. -/
def UpL (xs : List Ln) (k : Nat) (last : Int) : Prop := (∀ i y, i < k → xs[i]? = some y → lnB y = true ∧ ∀ z, 0 < i → xs[i - 1]? = some z → z.sock < y.sock) ∧ (k = 0 → last = 0) ∧ ∀ z, 0 < k → xs[k - 1]? = some z → last = z.sock
theorem UpL.succ {xs : List Ln} {k : Nat} {last : Int} {y : Ln} (h : UpL xs k last) (hy : xs[k]? = some y) (ho : lnB y = true) (hl : last < y.sock) : UpL xs (k + 1) y.sock := by
  refine ⟨fun i z hi hz => ?_, fun e => by omega, fun z _ hz => ?_⟩
  · by_cases e : i = k
    · subst e
      rw [hy] at hz
      injection hz with hz
      subst hz
      exact ⟨ho, fun z h0 hz => by rw [← h.2.2 z h0 hz]; exact hl⟩
    · exact h.1 i z (by omega) hz
  · simp only [Nat.add_sub_cancel] at hz
    rw [hy] at hz
    injection hz with hz
    rw [hz]
theorem UpL.bad {xs : List Ln} {k : Nat} {last : Int} {y : Ln} (h : UpL xs k last) (hy : xs[k]? = some y) (hl : y.sock ≤ last) : ¬ AscL xs := by
  intro ha
  have h1 := ha k y hy
  by_cases k0 : k = 0
  · have := h.2.1 k0
    have := lnB_sock h1.1
    omega
  · obtain ⟨hk, _⟩ := List.getElem?_eq_some_iff.1 hy
    have hz : xs[k - 1]? = some xs[k - 1] := List.getElem?_eq_getElem (by omega)
    have h2 := h1.2 _ (by omega) hz
    have h3 := h.2.2 _ (by omega) hz
    omega

set_option maxHeartbeats 4000000 in
theorem linesOk_any (A : Option Addr) (c : Nat) (xs : List Ln) (w : World) (h : lnSR.at_ w w.heap.size [.slice A xs.length c] xs) (hs : FitsLnS xs) :
    Calls Try.prog 120 #[.slice A xs.length c] w (RetBool w (pB (AscL xs ∧ xs.length ≤ 9))) := by
  have HS := Lib.hid hs
  have hn : xs.length ≤ 1048576 := hs.1
  have S : All (fun w' => Below w.heap.size w w' ∧ lnSR.at_ w' w'.heap.size [.slice A xs.length c] xs) w := ⟨Below.refl _ _, h⟩
  clear h hs
  unfold RetBool
  go_enter Try.func120, Try.ntmps120
  go_wp2_with fail
  go_loopw [3, 8] (fun l i wr => ∃ (k : Nat) (last : Int), k ≤ xs.length ∧ i = .int .i64 k ∧ l = .int .i64 last ∧ Hid (UpL xs k last) ∧ All (fun w' => Below w.heap.size w w' ∧ lnSR.at_ w' w'.heap.size [.slice A xs.length c] xs) wr) (fun _ i _ => xs.length - (intOf i).toNat)
  case atStart => exact ⟨0, 0, by omega, rfl, rfl, Lib.hid ⟨fun i y hi => by omega, fun _ => rfl, fun z h0 => by omega⟩, S⟩
  case round =>
    clear S
    obtain ⟨k, last, hk, rfl, rfl, HU, S⟩ := hrel
    by_cases hlt : k < xs.length
    · obtain ⟨b, off, y, rfl, hbl, hy, e0, e1, e2, e3, e4, e5, e6⟩ := ln_elem (lnS_rows S.out.2).2 hlt
      have HY := Lib.hid hy
      have HV := Lib.hid (heap_alloc_new wr (.cells #[.int .i64 y.sock, .string y.db, .int .i64 y.gen, .int .i64 y.st, .int .i64 y.since, .int .i64 y.asker, .int .i64 y.lease] 52))
      have S2 := S.alloc (.cells #[.int .i64 y.sock, .string y.db, .int .i64 y.gen, .int .i64 y.st, .int .i64 y.since, .int .i64 y.asker, .int .i64 y.lease] 52)
      have hD : wr.heap.size < (wr.alloc (.cells #[.int .i64 y.sock, .string y.db, .int .i64 y.gen, .int .i64 y.st, .int .i64 y.since, .int .i64 y.asker, .int .i64 y.lease] 52)).heap.size := by simp
      have hf := HS.out.2 y (List.mem_of_getElem? hy)
      clear hy S
      go_upto_region 5 with (fail)
      clear e0 e1 e2 e3 e4 e5 e6
      generalize wr.alloc (.cells #[.int .i64 y.sock, .string y.db, .int .i64 y.gen, .int .i64 y.st, .int .i64 y.since, .int .i64 y.asker, .int .i64 y.lease] 52) = W1 at *
      generalize wr.heap.size = D at *
      have d0 := var_cell HV.out 0
      have d1 := var_cell HV.out 1
      have d2 := var_cell HV.out 2
      have d3 := var_cell HV.out 3
      have d4 := var_cell HV.out 4
      have d5 := var_cell HV.out 5
      have d6 := var_cell HV.out 6
      go_wp2_with fail
      clear d0 d1 d2 d3 d4 d5 d6
      refine (lineOk_rep (lnC y) y W1 (ln_at _ _ _) hf).mono ?_
      obtain ⟨b9, hb9⟩ : ∃ b, lnB y = b := ⟨_, rfl⟩
      rw [hb9]
      have HB := Lib.hid hb9
      clear hb9
      rintro e W2 ⟨rfl, hb⟩
      replace S2 := S2.later hb
      replace HV := Lib.hid ((hb.block D hD).trans HV.out)
      clear hb hD
      have d0 := var_cell HV.out 0
      cases b9
      · have HE := Lib.hid (pB_no (p := AscL xs ∧ xs.length ≤ 9) (fun h9 => by have := (h9.1 k y HY.out).1; rw [HB.out] at this; cases this))
        go_wp2_with fail
        go_ret
        exact ⟨by rw [HE.out]; exact rfl, S2.out.1⟩
      · by_cases hle : y.sock ≤ last
        · have t1 : decide (y.sock ≤ last) = true := by simp [hle]
          have HE := Lib.hid (pB_no (p := AscL xs ∧ xs.length ≤ 9) (fun h9 => HU.out.bad HY.out hle h9.1))
          clear hle
          go_wp2_with fail
          go_ret
          exact ⟨by rw [HE.out]; exact rfl, S2.out.1⟩
        · have t1 : decide (y.sock ≤ last) = false := by simp [hle]
          have HU2 := Lib.hid (HU.out.succ HY.out HB.out (by omega))
          clear hle HU
          go_wp2_with fail
          go_roundw
          case rel => exact ⟨k + 1, _, by omega, by go_num, rfl, HU2, S2⟩
          case measure => simp [intOf]; omega
    · have he : k = xs.length := by omega
      subst he
      have HE := Lib.hid (show pB (AscL xs ∧ xs.length ≤ 9) = decide (xs.length ≤ 9) from pB_of (by
        simp only [decide_eq_true_eq]
        exact ⟨fun h9 => ⟨fun i y hy => HU.out.1 i y (List.getElem?_eq_some_iff.1 hy).1 hy, h9⟩, fun h9 => h9.2⟩))
      go_wp2_with fail
      go_ret
      exact ⟨by rw [HE.out]; go_num, S.out.1⟩

set_option maxHeartbeats 4000000 in
theorem apart_any (A : Option Addr) (c : Nat) (xs : List Ak) (B : Option Addr) (d : Nat) (ls : List Ln) (w : World) (h : akSR.at_ w w.heap.size [.slice A xs.length c] xs) (h' : lnSR.at_ w w.heap.size [.slice B ls.length d] ls) (hn : xs.length ≤ 1048576) (hm : ls.length ≤ 1048576) :
    Calls Try.prog 121 #[.slice A xs.length c, .slice B ls.length d] w (RetBool w (pB (ApartP xs ls))) := by
  have S : All (fun w' => (Below w.heap.size w w' ∧ akSR.at_ w' w'.heap.size [.slice A xs.length c] xs) ∧ lnSR.at_ w' w'.heap.size [.slice B ls.length d] ls) w := ⟨⟨Below.refl _ _, h⟩, h'⟩
  clear h h'
  unfold RetBool
  go_enter Try.func121, Try.ntmps121
  go_wp2_with fail
  go_loopw [9] (fun i wr => ∃ k : Nat, k ≤ xs.length ∧ i = .int .i64 k ∧ Hid (∀ i y, i < k → xs[i]? = some y → lnAtP ls y.sock < 0) ∧ All (fun w' => (Below w.heap.size w w' ∧ akSR.at_ w' w'.heap.size [.slice A xs.length c] xs) ∧ lnSR.at_ w' w'.heap.size [.slice B ls.length d] ls) wr) (fun i _ => xs.length - (intOf i).toNat)
  case atStart => exact ⟨0, by omega, rfl, Lib.hid (fun i y hi => by omega), S⟩
  case round =>
    clear S
    obtain ⟨k, hk, rfl, HU, S⟩ := hrel
    by_cases hlt : k < xs.length
    · obtain ⟨b, off, y, rfl, hbl, hy, e0, e1, e2, e3, e4, e5, e6, e7⟩ := ak_elem (akS_rows S.out.1.2).2 hlt
      have HY := Lib.hid hy
      have S2 := S.alloc (.cells #[.int .i64 y.sock, .string y.db, .int .i64 y.st, .int .i64 y.ticket, .int .i64 y.since, .string y.q, .int .i64 y.line, .int .i64 y.lease] 50)
      clear hy S
      go_wp2_with fail
      clear e0 e1 e2 e3 e4 e5 e6 e7
      generalize wr.alloc (.cells #[.int .i64 y.sock, .string y.db, .int .i64 y.st, .int .i64 y.ticket, .int .i64 y.since, .string y.q, .int .i64 y.line, .int .i64 y.lease] 50) = W1 at *
      refine (lnAt_any B d ls y.sock W1 (lnS_rows S2.out.2).2 (by omega)).mono ?_
      obtain ⟨n, hn9⟩ : ∃ n, lnF y.sock ls 0 = n := ⟨_, rfl⟩
      rw [hn9]
      have HN := Lib.hid (show lnAtP ls y.sock = n from hn9)
      clear hn9
      rintro e W2 ⟨rfl, hb⟩
      replace S2 := S2.later hb
      clear hb
      by_cases hp : 0 ≤ n
      · have HE := Lib.hid (pB_no (p := ApartP xs ls) (fun h9 => by have := h9 k y HY.out; rw [HN.out] at this; omega))
        go_wp2_with fail
        go_ret
        exact ⟨by rw [HE.out]; exact rfl, S2.out.1.1⟩
      · have HU2 : Hid (∀ i y, i < k + 1 → xs[i]? = some y → lnAtP ls y.sock < 0) := Lib.hid (fun i z hi hz => by
          by_cases e : i = k
          · subst e; rw [HY.out] at hz; injection hz with hz; subst hz; rw [HN.out]; omega
          · exact HU.out i z (by omega) hz)
        go_wp2_with fail
        go_roundw
        case rel => exact ⟨k + 1, by omega, by go_num, HU2, S2⟩
        case measure => simp [intOf]; omega
    · have he : k = xs.length := by omega
      subst he
      have HE := Lib.hid (pB_yes (p := ApartP xs ls) (fun i y hy => HU.out i y (List.getElem?_eq_some_iff.1 hy).1 hy))
      go_wp2_with fail
      go_ret
      exact ⟨by rw [HE.out]; exact rfl, S.out.1.1⟩

end Go.Proofs.Ytgdhhhibkhfdlaa
