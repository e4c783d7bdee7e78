/- Frames of the model: FrameOk, PutFrame, FrameText. -/
import Derived.Test.YtcelkmphdeaaeaaFrame
import Derived.Test.YtcelkmphdeaaeaaNum
import Derived.Deep.DeepMust
namespace Go.Proofs.Ytcelkmphdeaaeaa
open Go.RowKit
set_option linter.unusedVariables false

theorem toList_nil {s : ByteArray} (h : s.toList = []) : s = ⟨#[]⟩ := by
  obtain ⟨⟨l⟩⟩ := s
  rw [ByteArray.toList_mk] at h
  rw [h]

set_option maxHeartbeats 4000000 in
theorem frameOkS_any (f : Fr) (w : World) (hs : f.s.size ≤ 1048576) : Calls Try.prog 95 #[.agg (frC f).toArray] w (RetBool w (frB f)) := by
  unfold RetBool
  obtain ⟨k, s, st⟩ := f
  replace hs : s.size ≤ 1048576 := hs
  have hs2 : s.size ≤ 140737488351232 := by omega
  obtain ⟨r, hr⟩ : ∃ r, frB ⟨k, s, st⟩ = r := ⟨_, rfl⟩
  rw [hr]
  have HR := Lib.hid hr
  clear hr
  obtain ⟨z, hz⟩ : ∃ z, (st == 0) = z := ⟨_, rfl⟩
  unfold frC
  rcases kinds k with rfl | rfl | rfl | rfl | rfl | rfl | h
  · obtain ⟨b, hb⟩ : ∃ b, nameB s.data.toList = b := ⟨_, rfl⟩
    have HBB := Lib.hid hb
    obtain rfl : (b && z) = r := by rw [← HR.out, frB_1, hb, hz]
    clear hb HR
    cases b
    · clear hz
      go_enter Try.func95, Try.ntmps95
      go_wp2_with fail
      refine (l1Name_b HBB.out _ hs).mono ?_
      rintro e w' ⟨rfl, rfl⟩
      go_wp2_with fail
      go_ret
      exact ⟨rfl, Later.alloc w _⟩
    · go_enter Try.func95, Try.ntmps95
      go_wp2_with fail
      refine (l1Name_b HBB.out _ hs).mono ?_
      rintro e w' ⟨rfl, rfl⟩
      go_wp2_with fail
      go_ret
      exact ⟨rfl, Later.alloc w _⟩
  rotate_right 1
  · obtain rfl : false = r := by rw [← HR.out, frB_no (f := ⟨k, s, st⟩) h]
    have t1 : (k == 1) = false := by simp; omega
    have t2 : (k == 2) = false := by simp; omega
    have t3 : (k == 3) = false := by simp; omega
    have t4 : (k == 4) = false := by simp; omega
    have t5 : (k == 5) = false := by simp; omega
    have t6 : (k == 6) = false := by simp; omega
    clear h HR hz
    go_enter Try.func95, Try.ntmps95
    go_wp2_with fail
    go_ret
    exact ⟨rfl, Later.alloc w _⟩
  · obtain ⟨b, hb⟩ : ∃ b, okB s.data.toList = b := ⟨_, rfl⟩
    have HBB := Lib.hid hb
    obtain rfl : (b && z) = r := by rw [← HR.out, frB_2, hb, hz]
    clear hb HR
    cases b
    · clear hz
      go_enter Try.func95, Try.ntmps95
      go_wp2_with fail
      refine (textOkS_any s _ hs2).mono ?_
      rw [HBB.out]
      rintro e w' ⟨rfl, rfl⟩
      go_wp2_with fail
      go_ret
      exact ⟨rfl, Later.alloc w _⟩
    · go_enter Try.func95, Try.ntmps95
      go_wp2_with fail
      refine (textOkS_any s _ hs2).mono ?_
      rw [HBB.out]
      rintro e w' ⟨rfl, rfl⟩
      go_wp2_with fail
      go_ret
      exact ⟨rfl, Later.alloc w _⟩
  · by_cases he : (s.data.toList == []) = true
    · obtain rfl := (empty_iff s).1 he
      obtain rfl : z = r := by rw [← HR.out, frB_3, hz]; rfl
      clear HR he
      go_enter Try.func95, Try.ntmps95
      go_wp2_with fail
      go_ret
      exact ⟨rfl, Later.alloc w _⟩
    · obtain rfl : false = r := by rw [← HR.out, frB_3, (Bool.not_eq_true _).mp he]; rfl
      have e1 : s.toList = [] → False := fun h => he ((empty_iff s).2 (toList_nil h))
      have e2 : (s.toList == []) = false := by simpa using e1
      have e3 : s.toList.isEmpty = false := by simpa using e1
      clear HR hz he e1
      go_enter Try.func95, Try.ntmps95
      go_wp2_with fail
      go_ret
      exact ⟨rfl, Later.alloc w _⟩
  · obtain ⟨b, hb⟩ : ∃ b, okB s.data.toList = b := ⟨_, rfl⟩
    have HBB := Lib.hid hb
    obtain rfl : (b && z) = r := by rw [← HR.out, frB_4, hb, hz]
    clear hb HR
    cases b
    · clear hz
      go_enter Try.func95, Try.ntmps95
      go_wp2_with fail
      refine (textOkS_any s _ hs2).mono ?_
      rw [HBB.out]
      rintro e w' ⟨rfl, rfl⟩
      go_wp2_with fail
      go_ret
      exact ⟨rfl, Later.alloc w _⟩
    · go_enter Try.func95, Try.ntmps95
      go_wp2_with fail
      refine (textOkS_any s _ hs2).mono ?_
      rw [HBB.out]
      rintro e w' ⟨rfl, rfl⟩
      go_wp2_with fail
      go_ret
      exact ⟨rfl, Later.alloc w _⟩
  · by_cases he : (s.data.toList == []) = true
    · obtain rfl := (empty_iff s).1 he
      obtain ⟨y, hy⟩ : ∃ y, inI st 0 2 = y := ⟨_, rfl⟩
      obtain rfl : y = r := by rw [← HR.out, frB_5, hy]; rfl
      have HY := Lib.hid hy
      clear HR he hy hz
      go_enter Try.func95, Try.ntmps95
      go_wp2_with fail
      refine (l1In_b HY.out _).mono ?_
      rintro e w' ⟨rfl, rfl⟩
      go_wp2_with fail
      go_ret
      exact ⟨rfl, Later.alloc w _⟩
    · obtain rfl : false = r := by rw [← HR.out, frB_5, (Bool.not_eq_true _).mp he]; rfl
      have e1 : s.toList = [] → False := fun h => he ((empty_iff s).2 (toList_nil h))
      have e2 : (s.toList == []) = false := by simpa using e1
      have e3 : s.toList.isEmpty = false := by simpa using e1
      clear HR hz he e1
      go_enter Try.func95, Try.ntmps95
      go_wp2_with fail
      go_ret
      exact ⟨rfl, Later.alloc w _⟩
  · obtain ⟨b, hb⟩ : ∃ b, okB s.data.toList = b := ⟨_, rfl⟩
    have HBB := Lib.hid hb
    obtain rfl : (b && z) = r := by rw [← HR.out, frB_6, hb, hz]
    clear hb HR
    cases b
    · clear hz
      go_enter Try.func95, Try.ntmps95
      go_wp2_with fail
      refine (textOkS_any s _ hs2).mono ?_
      rw [HBB.out]
      rintro e w' ⟨rfl, rfl⟩
      go_wp2_with fail
      go_ret
      exact ⟨rfl, Later.alloc w _⟩
    · go_enter Try.func95, Try.ntmps95
      go_wp2_with fail
      refine (textOkS_any s _ hs2).mono ?_
      rw [HBB.out]
      rintro e w' ⟨rfl, rfl⟩
      go_wp2_with fail
      go_ret
      exact ⟨rfl, Later.alloc w _⟩

theorem one_lit (w : World) (n : Int) (h0 : 0 ≤ n) (h1 : n ≤ 255) : Reads (w.alloc (.cells #[.int .u8 n] 5)) (w.alloc (.cells #[.int .u8 n] 5)).heap.size 1 (some ⟨w.heap.size, 0, none⟩) 1 (bys [u8 n]) := by
  have h := one_u8 w n
  rwa [Int.emod_eq_of_lt h0 (by omega)] at h
theorem own_lit (w : World) (n : Int) (h0 : 0 ≤ n) (h1 : n ≤ 255) (base : Nat) (hb : base ≤ w.heap.size) : Owns (w.alloc (.cells #[.int .u8 n] 5)) base 5 (.slice (some ⟨w.heap.size, 0, none⟩) 1 1) [u8 n] := by
  have h := World.ownsRow_lit (base := base) (e := 5) (size := 1) w #[.int .u8 n] 1 hb (by simp [maxLen]) rfl
  unfold Owns
  rw [show bys [u8 n] = [.int .u8 n] by simp [bys, u8_cell]; omega]
  exact h

theorem nameB_ok {l : List UInt8} (h : nameB l = true) : okB l = true := by
  unfold nameB at h
  unfold okB
  rw [Bool.and_eq_true] at h ⊢
  have h1 := of_decide_eq_true h.1
  refine ⟨decide_eq_true (by omega), ?_⟩
  rw [List.all_eq_true] at h ⊢
  intro b hb
  have h2 := of_decide_eq_true (h.2 b hb)
  unfold inB
  rw [Bool.and_eq_true]
  exact ⟨decide_eq_true (by omega), decide_eq_true (by omega)⟩
theorem frB_text {f : Fr} (h : frB f = true) : okB f.s.data.toList = true := by
  obtain ⟨k, s, st⟩ := f
  have e : (s.data.toList == []) = true → okB s.data.toList = true := fun h => by
    obtain rfl := (empty_iff s).1 h
    rfl
  rcases kinds k with rfl | rfl | rfl | rfl | rfl | rfl | h7
  · rw [frB_1, Bool.and_eq_true] at h; exact nameB_ok h.1
  · rw [frB_2, Bool.and_eq_true] at h; exact h.1
  · rw [frB_3, Bool.and_eq_true] at h; exact e h.1
  · rw [frB_4, Bool.and_eq_true] at h; exact h.1
  · rw [frB_5, Bool.and_eq_true] at h; exact e h.1
  · rw [frB_6, Bool.and_eq_true] at h; exact h.1
  · rw [frB_no (f := ⟨k, s, st⟩) h7] at h; cases h
theorem frB_kind {f : Fr} (h : frB f = true) : 1 ≤ f.k ∧ f.k ≤ 6 := by
  by_cases h7 : f.k < 1 ∨ 6 < f.k
  · rw [frB_no h7] at h; cases h
  · omega
theorem frB_st {f : Fr} (h : frB f = true) : 0 ≤ f.st ∧ f.st ≤ 2 := by
  obtain ⟨k, s, st⟩ := f
  have e : (st == 0) = true → 0 ≤ st ∧ st ≤ 2 := fun h => by have := eq_of_beq h; omega
  rcases kinds k with rfl | rfl | rfl | rfl | rfl | rfl | h7
  · rw [frB_1, Bool.and_eq_true] at h; exact e h.2
  · rw [frB_2, Bool.and_eq_true] at h; exact e h.2
  · rw [frB_3, Bool.and_eq_true] at h; exact e h.2
  · rw [frB_4, Bool.and_eq_true] at h; exact e h.2
  · rw [frB_5, Bool.and_eq_true] at h; exact of_decide_eq_true h.2
  · rw [frB_6, Bool.and_eq_true] at h; exact e h.2
  · rw [frB_no (f := ⟨k, s, st⟩) h7] at h; cases h

set_option maxHeartbeats 4000000 in
theorem putFrameS_no (k : Int) (s : ByteArray) (st : Int) (w : World) (hs : s.size ≤ 1048576) (hr : frB ⟨k, s, st⟩ = false) : Calls Try.prog 81 #[.agg (frC ⟨k, s, st⟩).toArray] w (RetOwn w (putF ⟨k, s, st⟩)) := by
  rw [putF_no hr]
  unfold RetOwn
  have HR := Lib.hid hr
  have S : All (fun w' => Below w.heap.size w w') (w.alloc (.cells #[.int .i64 k, .string s, .int .i64 st] 33)) := ⟨Later.alloc w _⟩
  clear hr
  unfold frC
  go_enter Try.func81, Try.ntmps81
  go_wp2_with fail
  generalize w.alloc (.cells #[.int .i64 k, .string s, .int .i64 st] 33) = W at S ⊢
  refine (frameOkS_any ⟨k, s, st⟩ W hs).mono ?_
  rw [HR.out]
  rintro e W1 ⟨rfl, hb⟩
  replace S := S.later hb
  clear hb
  go_wp2_with fail
  go_ret
  exact ⟨_, rfl, own_empty W1 _ S.out.size, S.out.alloc S.out.size _⟩

set_option maxHeartbeats 4000000 in
theorem putFrameS_1 (s : ByteArray) (st : Int) (w : World) (hs : s.size ≤ 1048576) (hr : frB ⟨1, s, st⟩ = true) : Calls Try.prog 81 #[.agg (frC ⟨1, s, st⟩).toArray] w (RetOwn w (putF ⟨1, s, st⟩)) := by
  rw [putF_t hr (by show (1 : Int) ≠ 5; decide) (by show (1 : Int) ≠ 3; decide)]
  unfold RetOwn
  have HR := Lib.hid hr
  have S : All (fun w' => Below w.heap.size w w' ∧ Hid (w'.heap[w.heap.size]? = some (.cells (frC ⟨1, s, st⟩).toArray 33 (0, 0)))) (w.alloc (.cells #[.int .i64 1, .string s, .int .i64 st] 33)) := ⟨Later.alloc w _, Lib.hid (heap_alloc_new w _)⟩
  clear hr
  show Calls Try.prog 81 #[.agg #[.int .i64 1, .string s, .int .i64 st]] w _
  go_enter Try.func81, Try.ntmps81
  go_wp2_with fail
  generalize w.alloc (.cells #[.int .i64 1, .string s, .int .i64 st] 33) = W at S ⊢
  refine (frameOkS_any ⟨1, s, st⟩ W hs).mono ?_
  rw [HR.out]
  rintro e W1 ⟨rfl, hb⟩
  replace S := S.later hb
  clear hb
  obtain ⟨d0, d1, d2⟩ := fr_box S.out.2.out
  have hlt : w.heap.size < W1.heap.size := (Array.getElem?_eq_some_iff.1 S.out.2.out).1
  go_wp2_with fail
  have hb1 := S.out.1
  have hr1 := one_lit W1 1 (by decide) (by decide)
  refine (putTextS_any (some ⟨W1.heap.size, 0, none⟩) 1 s [u8 1] _ hr1 (by simp) (by omega)).mono ?_
  rintro e W2 ⟨v, rfl, hown, hb⟩
  go_wp2_with fail
  go_ret
  exact ⟨v, rfl, ownsRow_mono hown (Nat.le_trans hb1.size (by simp)), Later.trans (hb1.alloc hb1.size _) hb⟩

set_option maxHeartbeats 4000000 in
theorem putFrameS_2 (s : ByteArray) (st : Int) (w : World) (hs : s.size ≤ 1048576) (hr : frB ⟨2, s, st⟩ = true) : Calls Try.prog 81 #[.agg (frC ⟨2, s, st⟩).toArray] w (RetOwn w (putF ⟨2, s, st⟩)) := by
  rw [putF_t hr (by show (2 : Int) ≠ 5; decide) (by show (2 : Int) ≠ 3; decide)]
  unfold RetOwn
  have HR := Lib.hid hr
  have S : All (fun w' => Below w.heap.size w w' ∧ Hid (w'.heap[w.heap.size]? = some (.cells (frC ⟨2, s, st⟩).toArray 33 (0, 0)))) (w.alloc (.cells #[.int .i64 2, .string s, .int .i64 st] 33)) := ⟨Later.alloc w _, Lib.hid (heap_alloc_new w _)⟩
  clear hr
  show Calls Try.prog 81 #[.agg #[.int .i64 2, .string s, .int .i64 st]] w _
  go_enter Try.func81, Try.ntmps81
  go_wp2_with fail
  generalize w.alloc (.cells #[.int .i64 2, .string s, .int .i64 st] 33) = W at S ⊢
  refine (frameOkS_any ⟨2, s, st⟩ W hs).mono ?_
  rw [HR.out]
  rintro e W1 ⟨rfl, hb⟩
  replace S := S.later hb
  clear hb
  obtain ⟨d0, d1, d2⟩ := fr_box S.out.2.out
  have hlt : w.heap.size < W1.heap.size := (Array.getElem?_eq_some_iff.1 S.out.2.out).1
  go_wp2_with fail
  have hb1 := S.out.1
  have hr1 := one_lit W1 2 (by decide) (by decide)
  refine (putTextS_any (some ⟨W1.heap.size, 0, none⟩) 1 s [u8 2] _ hr1 (by simp) (by omega)).mono ?_
  rintro e W2 ⟨v, rfl, hown, hb⟩
  go_wp2_with fail
  go_ret
  exact ⟨v, rfl, ownsRow_mono hown (Nat.le_trans hb1.size (by simp)), Later.trans (hb1.alloc hb1.size _) hb⟩

set_option maxHeartbeats 4000000 in
theorem putFrameS_4 (s : ByteArray) (st : Int) (w : World) (hs : s.size ≤ 1048576) (hr : frB ⟨4, s, st⟩ = true) : Calls Try.prog 81 #[.agg (frC ⟨4, s, st⟩).toArray] w (RetOwn w (putF ⟨4, s, st⟩)) := by
  rw [putF_t hr (by show (4 : Int) ≠ 5; decide) (by show (4 : Int) ≠ 3; decide)]
  unfold RetOwn
  have HR := Lib.hid hr
  have S : All (fun w' => Below w.heap.size w w' ∧ Hid (w'.heap[w.heap.size]? = some (.cells (frC ⟨4, s, st⟩).toArray 33 (0, 0)))) (w.alloc (.cells #[.int .i64 4, .string s, .int .i64 st] 33)) := ⟨Later.alloc w _, Lib.hid (heap_alloc_new w _)⟩
  clear hr
  show Calls Try.prog 81 #[.agg #[.int .i64 4, .string s, .int .i64 st]] w _
  go_enter Try.func81, Try.ntmps81
  go_wp2_with fail
  generalize w.alloc (.cells #[.int .i64 4, .string s, .int .i64 st] 33) = W at S ⊢
  refine (frameOkS_any ⟨4, s, st⟩ W hs).mono ?_
  rw [HR.out]
  rintro e W1 ⟨rfl, hb⟩
  replace S := S.later hb
  clear hb
  obtain ⟨d0, d1, d2⟩ := fr_box S.out.2.out
  have hlt : w.heap.size < W1.heap.size := (Array.getElem?_eq_some_iff.1 S.out.2.out).1
  go_wp2_with fail
  have hb1 := S.out.1
  have hr1 := one_lit W1 4 (by decide) (by decide)
  refine (putTextS_any (some ⟨W1.heap.size, 0, none⟩) 1 s [u8 4] _ hr1 (by simp) (by omega)).mono ?_
  rintro e W2 ⟨v, rfl, hown, hb⟩
  go_wp2_with fail
  go_ret
  exact ⟨v, rfl, ownsRow_mono hown (Nat.le_trans hb1.size (by simp)), Later.trans (hb1.alloc hb1.size _) hb⟩

set_option maxHeartbeats 4000000 in
theorem putFrameS_6 (s : ByteArray) (st : Int) (w : World) (hs : s.size ≤ 1048576) (hr : frB ⟨6, s, st⟩ = true) : Calls Try.prog 81 #[.agg (frC ⟨6, s, st⟩).toArray] w (RetOwn w (putF ⟨6, s, st⟩)) := by
  rw [putF_t hr (by show (6 : Int) ≠ 5; decide) (by show (6 : Int) ≠ 3; decide)]
  unfold RetOwn
  have HR := Lib.hid hr
  have S : All (fun w' => Below w.heap.size w w' ∧ Hid (w'.heap[w.heap.size]? = some (.cells (frC ⟨6, s, st⟩).toArray 33 (0, 0)))) (w.alloc (.cells #[.int .i64 6, .string s, .int .i64 st] 33)) := ⟨Later.alloc w _, Lib.hid (heap_alloc_new w _)⟩
  clear hr
  show Calls Try.prog 81 #[.agg #[.int .i64 6, .string s, .int .i64 st]] w _
  go_enter Try.func81, Try.ntmps81
  go_wp2_with fail
  generalize w.alloc (.cells #[.int .i64 6, .string s, .int .i64 st] 33) = W at S ⊢
  refine (frameOkS_any ⟨6, s, st⟩ W hs).mono ?_
  rw [HR.out]
  rintro e W1 ⟨rfl, hb⟩
  replace S := S.later hb
  clear hb
  obtain ⟨d0, d1, d2⟩ := fr_box S.out.2.out
  have hlt : w.heap.size < W1.heap.size := (Array.getElem?_eq_some_iff.1 S.out.2.out).1
  go_wp2_with fail
  have hb1 := S.out.1
  have hr1 := one_lit W1 6 (by decide) (by decide)
  refine (putTextS_any (some ⟨W1.heap.size, 0, none⟩) 1 s [u8 6] _ hr1 (by simp) (by omega)).mono ?_
  rintro e W2 ⟨v, rfl, hown, hb⟩
  go_wp2_with fail
  go_ret
  exact ⟨v, rfl, ownsRow_mono hown (Nat.le_trans hb1.size (by simp)), Later.trans (hb1.alloc hb1.size _) hb⟩

set_option maxHeartbeats 4000000 in
theorem putFrameS_3 (s : ByteArray) (st : Int) (w : World) (hs : s.size ≤ 1048576) (hr : frB ⟨3, s, st⟩ = true) : Calls Try.prog 81 #[.agg (frC ⟨3, s, st⟩).toArray] w (RetOwn w (putF ⟨3, s, st⟩)) := by
  rw [putF_3 hr rfl]
  unfold RetOwn
  obtain ⟨h0, h2⟩ := frB_st hr
  replace h0 : 0 ≤ st := h0
  replace h2 : st ≤ 2 := h2
  have HR := Lib.hid hr
  have S : All (fun w' => Below w.heap.size w w' ∧ Hid (w'.heap[w.heap.size]? = some (.cells (frC ⟨3, s, st⟩).toArray 33 (0, 0)))) (w.alloc (.cells #[.int .i64 3, .string s, .int .i64 st] 33)) := ⟨Later.alloc w _, Lib.hid (heap_alloc_new w _)⟩
  clear hr
  show Calls Try.prog 81 #[.agg #[.int .i64 3, .string s, .int .i64 st]] w _
  go_enter Try.func81, Try.ntmps81
  go_wp2_with fail
  generalize w.alloc (.cells #[.int .i64 3, .string s, .int .i64 st] 33) = W at S ⊢
  refine (frameOkS_any ⟨3, s, st⟩ W hs).mono ?_
  rw [HR.out]
  rintro e W1 ⟨rfl, hb⟩
  replace S := S.later hb
  clear hb
  obtain ⟨d0, d1, d2⟩ := fr_box S.out.2.out
  have hlt : w.heap.size < W1.heap.size := (Array.getElem?_eq_some_iff.1 S.out.2.out).1
  have hb1 := S.out.1
  go_wp2_with fail
  go_ret
  exact ⟨_, rfl, own_lit W1 3 (by decide) (by decide) _ hb1.size, hb1.alloc hb1.size _⟩

set_option maxHeartbeats 4000000 in
theorem putFrameS_5 (s : ByteArray) (st : Int) (w : World) (hs : s.size ≤ 1048576) (hr : frB ⟨5, s, st⟩ = true) : Calls Try.prog 81 #[.agg (frC ⟨5, s, st⟩).toArray] w (RetOwn w (putF ⟨5, s, st⟩)) := by
  rw [putF_5 hr rfl]
  unfold RetOwn
  obtain ⟨h0, h2⟩ := frB_st hr
  replace h0 : 0 ≤ st := h0
  replace h2 : st ≤ 2 := h2
  have HR := Lib.hid hr
  have S : All (fun w' => Below w.heap.size w w' ∧ Hid (w'.heap[w.heap.size]? = some (.cells (frC ⟨5, s, st⟩).toArray 33 (0, 0)))) (w.alloc (.cells #[.int .i64 5, .string s, .int .i64 st] 33)) := ⟨Later.alloc w _, Lib.hid (heap_alloc_new w _)⟩
  clear hr
  show Calls Try.prog 81 #[.agg #[.int .i64 5, .string s, .int .i64 st]] w _
  go_enter Try.func81, Try.ntmps81
  go_wp2_with fail
  generalize w.alloc (.cells #[.int .i64 5, .string s, .int .i64 st] 33) = W at S ⊢
  refine (frameOkS_any ⟨5, s, st⟩ W hs).mono ?_
  rw [HR.out]
  rintro e W1 ⟨rfl, hb⟩
  replace S := S.later hb
  clear hb
  obtain ⟨d0, d1, d2⟩ := fr_box S.out.2.out
  have hlt : w.heap.size < W1.heap.size := (Array.getElem?_eq_some_iff.1 S.out.2.out).1
  have hb1 := S.out.1
  obtain ⟨i0, hi0, hz0, hz1, hz2⟩ := info_parts Try.info8
  have hown0 : (W1.alloc (.cells #[.int .u8 5] 5)).ownsRow w.heap.size 5 1 (.slice (some ⟨W1.heap.size, 0, none⟩) 1 1) 1 (bys [u8 5]) := own_lit W1 5 (by decide) (by decide) w.heap.size hb1.size
  have hb2 : Below w.heap.size w (W1.alloc (.cells #[.int .u8 5] 5)) := hb1.alloc hb1.size _
  have hb3 : Below w.heap.size w ((W1.alloc (.cells #[.int .u8 5] 5)).alloc (.cells #[.int .u8 st] 5)) := hb2.alloc hb2.size _
  have hnew := one_lit (W1.alloc (.cells #[.int .u8 5] 5)) st h0 (by omega)
  rw [show (W1.alloc (.cells #[.int .u8 5] 5)).heap.size = W1.heap.size + 1 by simp] at hnew
  go_wp2_with (first
    | (at_builtin
       go_must (refine wpList_append_any _ rfl (.tmp 16) (.tmp 20) _ rfl w.heap.size 5 i0 _ 1 1 Try.underlying22 hi0 hz0 hz1 hz2 rfl (by omega) _ 1 (bys [u8 5]) rfl (hown0.alloc _) _ _ 1 _ (bys [u8 st]) rfl hnew (bys_one _) (by simp only [maxLen]; omega) (by omega) hb3.size ?_)
       clear hnew
       intro v3 w3 hown3 hg3 hat3
       have hb4 : Below w.heap.size w w3 := hb3.grown hg3 hb3.size (fun k hk => (hown0.lt k hk).1)
       clear hg3 hat3)
    | fail)
  go_ret
  exact ⟨v3, rfl, hown3, hb4⟩

theorem putFrameS_any (f : Fr) (w : World) (hs : f.s.size ≤ 1048576) : Calls Try.prog 81 #[.agg (frC f).toArray] w (RetOwn w (putF f)) := by
  obtain ⟨k, s, st⟩ := f
  obtain ⟨r, hr⟩ : ∃ r, frB ⟨k, s, st⟩ = r := ⟨_, rfl⟩
  cases r
  · exact putFrameS_no k s st w hs hr
  · rcases kinds k with rfl | rfl | rfl | rfl | rfl | rfl | h
    · exact putFrameS_1 s st w hs hr
    · exact putFrameS_2 s st w hs hr
    · exact putFrameS_3 s st w hs hr
    · exact putFrameS_4 s st w hs hr
    · exact putFrameS_5 s st w hs hr
    · exact putFrameS_6 s st w hs hr
    · rw [frB_no (f := ⟨k, s, st⟩) h] at hr; cases hr

theorem textF_no {f : Fr} (h : frB f = false) : textF f = ⟨#[]⟩ := if_pos h
theorem textF_5 {f : Fr} (h : frB f = true) (hk : f.k = 5) : textF f = (wordK 5 ++ ⟨#[32]⟩) ++ ⟨#[digB f.st.toNat]⟩ := by
  unfold textF
  rw [if_neg (by rw [h]; decide), if_pos hk]
theorem textF_e {f : Fr} (h : frB f = true) (hk : f.k ≠ 5) (he : f.s = ⟨#[]⟩) : textF f = wordK f.k := by
  unfold textF
  rw [if_neg (by rw [h]; decide), if_neg hk, if_pos ((empty_iff _).2 he)]
theorem textF_t {f : Fr} (h : frB f = true) (hk : f.k ≠ 5) (he : f.s ≠ ⟨#[]⟩) : textF f = (wordK f.k ++ ⟨#[32]⟩) ++ f.s := by
  unfold textF
  rw [if_neg (by rw [h]; decide), if_neg hk, if_neg (fun e => he ((empty_iff _).1 e))]
theorem not_empty {s : ByteArray} (h : s ≠ ⟨#[]⟩) : (s.toList == []) = false ∧ s.toList.isEmpty = false := by
  have e1 : s.toList ≠ [] := fun e => h (toList_nil e)
  exact ⟨by simpa using e1, by simpa using e1⟩
def RetText (w : World) (s : ByteArray) (e : Ending) (w' : World) : Prop := e = .returned (.string s) ∧ Below w.heap.size w w'

end Go.Proofs.Ytcelkmphdeaaeaa
