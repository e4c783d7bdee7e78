/- PutFrame and FrameText of the program. -/
import Derived.Test.YtcelkmphdeaaeaaValid
import Derived.Test.YtcelkmphdeaaeaaFrameS
namespace Go.Proofs.Ytcelkmphdeaaeaa
open Go.RowKit
set_option linter.unusedVariables false

set_option maxHeartbeats 4000000 in
theorem putFrame_no (k : Int) (s : ByteArray) (st : Int) (w : World) (hs : s.size ≤ 1048576) (hr : frB ⟨k, s, st⟩ = false) : Calls Try.prog 32 #[.agg (frC ⟨k, s, st⟩).toArray] w (RetOwn w (putF ⟨k, s, st⟩)) := by
  rw [putF_no hr]
  unfold RetOwn
  have HR := Lib.hid hr
  have S : All (fun w' => Below w.heap.size w w') (w.alloc (.cells #[.int .i64 k, .string s, .int .i64 st] 33)) := ⟨Later.alloc w _⟩
  clear hr
  obtain ⟨m, hm⟩ : ∃ m, msgV ⟨k, s, st⟩ = m := ⟨_, rfl⟩
  have HM := Lib.hid hm
  clear hm
  unfold frC
  go_enter Try.func32, Try.ntmps32
  go_wp2_with fail
  generalize w.alloc (.cells #[.int .i64 k, .string s, .int .i64 st] 33) = W at S ⊢
  refine (validMessage_any ⟨k, s, st⟩ W hs).mono ?_
  rintro e W1 ⟨h1, hb⟩
  rw [HM.out, HR.out] at h1
  subst h1
  replace S := S.later hb
  clear hb
  go_wp2_with fail
  go_ret
  exact ⟨_, rfl, own_empty W1 _ S.out.size, S.out.alloc S.out.size _⟩

set_option maxHeartbeats 4000000 in
theorem putFrame_1 (s : ByteArray) (st : Int) (w : World) (hs : s.size ≤ 1048576) (hr : frB ⟨1, s, st⟩ = true) : Calls Try.prog 32 #[.agg (frC ⟨1, s, st⟩).toArray] w (RetOwn w (putF ⟨1, s, st⟩)) := by
  rw [putF_t hr (by show (1 : Int) ≠ 5; decide) (by show (1 : Int) ≠ 3; decide)]
  unfold RetOwn
  obtain ⟨h0, h2⟩ := frB_st hr
  replace h0 : 0 ≤ st := h0
  replace h2 : st ≤ 2 := h2
  have HR := Lib.hid hr
  have S : All (fun w' => Below w.heap.size w w' ∧ Hid (w'.heap[w.heap.size]? = some (.cells (frC ⟨1, s, st⟩).toArray 33 (0, 0)))) (w.alloc (.cells #[.int .i64 1, .string s, .int .i64 st] 33)) := ⟨Later.alloc w _, Lib.hid (heap_alloc_new w _)⟩
  clear hr
  show Calls Try.prog 32 #[.agg #[.int .i64 1, .string s, .int .i64 st]] w _
  go_enter Try.func32, Try.ntmps32
  go_wp2_with fail
  generalize w.alloc (.cells #[.int .i64 1, .string s, .int .i64 st] 33) = W at S ⊢
  refine (validMessage_1 s st W hs).mono ?_
  rintro e W1 ⟨h1, hb⟩
  rw [HR.out, show msgV ⟨1, s, st⟩ = .iface 125 (.string s) from rfl] at h1
  subst h1
  replace S := S.later hb
  clear hb
  obtain ⟨d0, d1, d2⟩ := fr_box S.out.2.out
  have hlt : w.heap.size < W1.heap.size := (Array.getElem?_eq_some_iff.1 S.out.2.out).1
  have hb1 := S.out.1
  have hb2 := hb1.alloc hb1.size (.cells #[.int .u8 1] 5)
  have a3 := Try.as_1_3 (.string s)
  have a5 := Try.as_1_5 (.string s)
  have hr1 := one_lit W1 1 (by decide) (by decide)
  go_wp2_with fail
  refine (putText_any (some ⟨W1.heap.size, 0, none⟩) 1 s [u8 1] _ hr1 (by simp) (by omega)).mono ?_
  rintro e W2 ⟨v, rfl, hown, hb⟩
  go_wp2_with fail
  go_ret
  exact ⟨v, rfl, ownsRow_mono hown (Nat.le_trans hb1.size (by simp)), Later.trans hb2 hb⟩

set_option maxHeartbeats 4000000 in
theorem putFrame_2 (s : ByteArray) (st : Int) (w : World) (hs : s.size ≤ 1048576) (hr : frB ⟨2, s, st⟩ = true) : Calls Try.prog 32 #[.agg (frC ⟨2, s, st⟩).toArray] w (RetOwn w (putF ⟨2, s, st⟩)) := by
  rw [putF_t hr (by show (2 : Int) ≠ 5; decide) (by show (2 : Int) ≠ 3; decide)]
  unfold RetOwn
  obtain ⟨h0, h2⟩ := frB_st hr
  replace h0 : 0 ≤ st := h0
  replace h2 : st ≤ 2 := h2
  have HR := Lib.hid hr
  have S : All (fun w' => Below w.heap.size w w' ∧ Hid (w'.heap[w.heap.size]? = some (.cells (frC ⟨2, s, st⟩).toArray 33 (0, 0)))) (w.alloc (.cells #[.int .i64 2, .string s, .int .i64 st] 33)) := ⟨Later.alloc w _, Lib.hid (heap_alloc_new w _)⟩
  clear hr
  show Calls Try.prog 32 #[.agg #[.int .i64 2, .string s, .int .i64 st]] w _
  go_enter Try.func32, Try.ntmps32
  go_wp2_with fail
  generalize w.alloc (.cells #[.int .i64 2, .string s, .int .i64 st] 33) = W at S ⊢
  refine (validMessage_2 s st W hs).mono ?_
  rintro e W1 ⟨h1, hb⟩
  rw [HR.out, show msgV ⟨2, s, st⟩ = .iface 126 (.string s) from rfl] at h1
  subst h1
  replace S := S.later hb
  clear hb
  obtain ⟨d0, d1, d2⟩ := fr_box S.out.2.out
  have hlt : w.heap.size < W1.heap.size := (Array.getElem?_eq_some_iff.1 S.out.2.out).1
  have hb1 := S.out.1
  have hb2 := hb1.alloc hb1.size (.cells #[.int .u8 2] 5)
  have a3 := Try.as_2_3 (.string s)
  have a5 := Try.as_2_5 (.string s)
  have hr1 := one_lit W1 2 (by decide) (by decide)
  go_wp2_with fail
  refine (putText_any (some ⟨W1.heap.size, 0, none⟩) 1 s [u8 2] _ hr1 (by simp) (by omega)).mono ?_
  rintro e W2 ⟨v, rfl, hown, hb⟩
  go_wp2_with fail
  go_ret
  exact ⟨v, rfl, ownsRow_mono hown (Nat.le_trans hb1.size (by simp)), Later.trans hb2 hb⟩

set_option maxHeartbeats 4000000 in
theorem putFrame_3 (s : ByteArray) (st : Int) (w : World) (hs : s.size ≤ 1048576) (hr : frB ⟨3, s, st⟩ = true) : Calls Try.prog 32 #[.agg (frC ⟨3, s, st⟩).toArray] w (RetOwn w (putF ⟨3, s, st⟩)) := by
  rw [putF_3 hr rfl]
  unfold RetOwn
  obtain ⟨h0, h2⟩ := frB_st hr
  replace h0 : 0 ≤ st := h0
  replace h2 : st ≤ 2 := h2
  have HR := Lib.hid hr
  have S : All (fun w' => Below w.heap.size w w' ∧ Hid (w'.heap[w.heap.size]? = some (.cells (frC ⟨3, s, st⟩).toArray 33 (0, 0)))) (w.alloc (.cells #[.int .i64 3, .string s, .int .i64 st] 33)) := ⟨Later.alloc w _, Lib.hid (heap_alloc_new w _)⟩
  clear hr
  show Calls Try.prog 32 #[.agg #[.int .i64 3, .string s, .int .i64 st]] w _
  go_enter Try.func32, Try.ntmps32
  go_wp2_with fail
  generalize w.alloc (.cells #[.int .i64 3, .string s, .int .i64 st] 33) = W at S ⊢
  refine (validMessage_3 s st W hs).mono ?_
  rintro e W1 ⟨h1, hb⟩
  rw [HR.out, show msgV ⟨3, s, st⟩ = .iface 98 (.agg #[]) from rfl] at h1
  subst h1
  replace S := S.later hb
  clear hb
  obtain ⟨d0, d1, d2⟩ := fr_box S.out.2.out
  have hlt : w.heap.size < W1.heap.size := (Array.getElem?_eq_some_iff.1 S.out.2.out).1
  have hb1 := S.out.1
  have hb2 := hb1.alloc hb1.size (.cells #[.int .u8 3] 5)
  have a3 := Try.as_3_3 (.agg #[])
  have a5 := Try.as_3_5 (.agg #[])
  go_wp2_with fail
  go_ret
  exact ⟨_, rfl, own_lit W1 3 (by decide) (by decide) _ hb1.size, hb2⟩

set_option maxHeartbeats 4000000 in
theorem putFrame_4 (s : ByteArray) (st : Int) (w : World) (hs : s.size ≤ 1048576) (hr : frB ⟨4, s, st⟩ = true) : Calls Try.prog 32 #[.agg (frC ⟨4, s, st⟩).toArray] w (RetOwn w (putF ⟨4, s, st⟩)) := by
  rw [putF_t hr (by show (4 : Int) ≠ 5; decide) (by show (4 : Int) ≠ 3; decide)]
  unfold RetOwn
  obtain ⟨h0, h2⟩ := frB_st hr
  replace h0 : 0 ≤ st := h0
  replace h2 : st ≤ 2 := h2
  have HR := Lib.hid hr
  have S : All (fun w' => Below w.heap.size w w' ∧ Hid (w'.heap[w.heap.size]? = some (.cells (frC ⟨4, s, st⟩).toArray 33 (0, 0)))) (w.alloc (.cells #[.int .i64 4, .string s, .int .i64 st] 33)) := ⟨Later.alloc w _, Lib.hid (heap_alloc_new w _)⟩
  clear hr
  show Calls Try.prog 32 #[.agg #[.int .i64 4, .string s, .int .i64 st]] w _
  go_enter Try.func32, Try.ntmps32
  go_wp2_with fail
  generalize w.alloc (.cells #[.int .i64 4, .string s, .int .i64 st] 33) = W at S ⊢
  refine (validMessage_4 s st W hs).mono ?_
  rintro e W1 ⟨h1, hb⟩
  rw [HR.out, show msgV ⟨4, s, st⟩ = .iface 127 (.string s) from rfl] at h1
  subst h1
  replace S := S.later hb
  clear hb
  obtain ⟨d0, d1, d2⟩ := fr_box S.out.2.out
  have hlt : w.heap.size < W1.heap.size := (Array.getElem?_eq_some_iff.1 S.out.2.out).1
  have hb1 := S.out.1
  have hb2 := hb1.alloc hb1.size (.cells #[.int .u8 4] 5)
  have a3 := Try.as_4_3 (.string s)
  have a5 := Try.as_4_5 (.string s)
  have hr1 := one_lit W1 4 (by decide) (by decide)
  go_wp2_with fail
  refine (putText_any (some ⟨W1.heap.size, 0, none⟩) 1 s [u8 4] _ hr1 (by simp) (by omega)).mono ?_
  rintro e W2 ⟨v, rfl, hown, hb⟩
  go_wp2_with fail
  go_ret
  exact ⟨v, rfl, ownsRow_mono hown (Nat.le_trans hb1.size (by simp)), Later.trans hb2 hb⟩

set_option maxHeartbeats 4000000 in
theorem putFrame_5 (s : ByteArray) (st : Int) (w : World) (hs : s.size ≤ 1048576) (hr : frB ⟨5, s, st⟩ = true) : Calls Try.prog 32 #[.agg (frC ⟨5, s, st⟩).toArray] w (RetOwn w (putF ⟨5, s, st⟩)) := by
  rw [putF_5 hr rfl]
  unfold RetOwn
  obtain ⟨h0, h2⟩ := frB_st hr
  replace h0 : 0 ≤ st := h0
  replace h2 : st ≤ 2 := h2
  have HR := Lib.hid hr
  have S : All (fun w' => Below w.heap.size w w' ∧ Hid (w'.heap[w.heap.size]? = some (.cells (frC ⟨5, s, st⟩).toArray 33 (0, 0)))) (w.alloc (.cells #[.int .i64 5, .string s, .int .i64 st] 33)) := ⟨Later.alloc w _, Lib.hid (heap_alloc_new w _)⟩
  clear hr
  show Calls Try.prog 32 #[.agg #[.int .i64 5, .string s, .int .i64 st]] w _
  go_enter Try.func32, Try.ntmps32
  go_wp2_with fail
  generalize w.alloc (.cells #[.int .i64 5, .string s, .int .i64 st] 33) = W at S ⊢
  refine (validMessage_5 s st W hs).mono ?_
  rintro e W1 ⟨h1, hb⟩
  rw [HR.out, show msgV ⟨5, s, st⟩ = .iface 99 (.int .i64 st) from rfl] at h1
  subst h1
  replace S := S.later hb
  clear hb
  obtain ⟨d0, d1, d2⟩ := fr_box S.out.2.out
  have hlt : w.heap.size < W1.heap.size := (Array.getElem?_eq_some_iff.1 S.out.2.out).1
  have hb1 := S.out.1
  have hb2 := hb1.alloc hb1.size (.cells #[.int .u8 5] 5)
  have a3 := Try.as_5_3 (.int .i64 st)
  have a5 := Try.as_5_5 (.int .i64 st)
  have hr1 := one_lit W1 5 (by decide) (by decide)
  have hr2 := one_lit (W1.alloc (.cells #[.int .u8 5] 5)) st h0 (by omega)
  rw [show (W1.alloc (.cells #[.int .u8 5] 5)).heap.size = W1.heap.size + 1 by simp] at hr2
  go_wp2_with fail
  refine (joined_any (some ⟨W1.heap.size, 0, none⟩) (some ⟨W1.heap.size + 1, 0, none⟩) 1 1 [u8 5] [u8 st] _ ((hr1.alloc (Nat.le_refl _) _).more (by simp)) hr2 (by simp) (by simp)).mono ?_
  rintro e W2 ⟨v, rfl, hown, hb⟩
  go_wp2_with fail
  go_ret
  exact ⟨v, rfl, ownsRow_mono hown (Nat.le_trans hb2.size (by simp)), Later.trans (hb2.alloc hb2.size _) hb⟩

set_option maxHeartbeats 4000000 in
theorem putFrame_6 (s : ByteArray) (st : Int) (w : World) (hs : s.size ≤ 1048576) (hr : frB ⟨6, s, st⟩ = true) : Calls Try.prog 32 #[.agg (frC ⟨6, s, st⟩).toArray] w (RetOwn w (putF ⟨6, s, st⟩)) := by
  rw [putF_t hr (by show (6 : Int) ≠ 5; decide) (by show (6 : Int) ≠ 3; decide)]
  unfold RetOwn
  obtain ⟨h0, h2⟩ := frB_st hr
  replace h0 : 0 ≤ st := h0
  replace h2 : st ≤ 2 := h2
  have HR := Lib.hid hr
  have S : All (fun w' => Below w.heap.size w w' ∧ Hid (w'.heap[w.heap.size]? = some (.cells (frC ⟨6, s, st⟩).toArray 33 (0, 0)))) (w.alloc (.cells #[.int .i64 6, .string s, .int .i64 st] 33)) := ⟨Later.alloc w _, Lib.hid (heap_alloc_new w _)⟩
  clear hr
  show Calls Try.prog 32 #[.agg #[.int .i64 6, .string s, .int .i64 st]] w _
  go_enter Try.func32, Try.ntmps32
  go_wp2_with fail
  generalize w.alloc (.cells #[.int .i64 6, .string s, .int .i64 st] 33) = W at S ⊢
  refine (validMessage_6 s st W hs).mono ?_
  rintro e W1 ⟨h1, hb⟩
  rw [HR.out, show msgV ⟨6, s, st⟩ = .iface 128 (.string s) from rfl] at h1
  subst h1
  replace S := S.later hb
  clear hb
  obtain ⟨d0, d1, d2⟩ := fr_box S.out.2.out
  have hlt : w.heap.size < W1.heap.size := (Array.getElem?_eq_some_iff.1 S.out.2.out).1
  have hb1 := S.out.1
  have hb2 := hb1.alloc hb1.size (.cells #[.int .u8 6] 5)
  have a3 := Try.as_6_3 (.string s)
  have a5 := Try.as_6_5 (.string s)
  have hr1 := one_lit W1 6 (by decide) (by decide)
  go_wp2_with fail
  refine (putText_any (some ⟨W1.heap.size, 0, none⟩) 1 s [u8 6] _ hr1 (by simp) (by omega)).mono ?_
  rintro e W2 ⟨v, rfl, hown, hb⟩
  go_wp2_with fail
  go_ret
  exact ⟨v, rfl, ownsRow_mono hown (Nat.le_trans hb1.size (by simp)), Later.trans hb2 hb⟩

theorem putFrame_any (f : Fr) (w : World) (hs : f.s.size ≤ 1048576) : Calls Try.prog 32 #[.agg (frC f).toArray] w (RetOwn w (putF f)) := by
  obtain ⟨k, s, st⟩ := f
  obtain ⟨r, hr⟩ : ∃ r, frB ⟨k, s, st⟩ = r := ⟨_, rfl⟩
  cases r
  · exact putFrame_no k s st w hs hr
  · rcases kinds k with rfl | rfl | rfl | rfl | rfl | rfl | h
    · exact putFrame_1 s st w hs hr
    · exact putFrame_2 s st w hs hr
    · exact putFrame_3 s st w hs hr
    · exact putFrame_4 s st w hs hr
    · exact putFrame_5 s st w hs hr
    · exact putFrame_6 s st w hs hr
    · rw [frB_no (f := ⟨k, s, st⟩) h] at hr; cases hr

end Go.Proofs.Ytcelkmphdeaaeaa
