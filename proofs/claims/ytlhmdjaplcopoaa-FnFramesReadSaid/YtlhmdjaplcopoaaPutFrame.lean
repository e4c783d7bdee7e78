/- PutFrame and FrameText of the program. -/
import Derived.Test.YtlhmdjaplcopoaaValid
import Derived.Test.YtlhmdjaplcopoaaFrameS
namespace Go.Proofs.Ytlhmdjaplcopoaa
open Go.RowKit
set_option linter.unusedVariables false

set_option maxHeartbeats 4000000 in
theorem putFrame_no (k : Int) (s : ByteArray) (st : Int) (w : World) (hs : s.size ≤ 1048576) (hr : frB ⟨k, s, st⟩ = false) : Calls Try.prog 12 #[.agg (frC ⟨k, s, st⟩).toArray] w (RetOwn w (putF ⟨k, s, st⟩)) := by
  rw [putF_no hr]
  unfold RetOwn
  have HR := Lib.hid hr
  have S : All (fun w' => Below w.heap.size w w') (w.alloc (.cells #[.int .i64 k, .string s, .int .i64 st] 25)) := ⟨Later.alloc w _⟩
  clear hr
  obtain ⟨m, hm⟩ : ∃ m, msgV ⟨k, s, st⟩ = m := ⟨_, rfl⟩
  have HM := Lib.hid hm
  clear hm
  unfold frC
  go_enter Try.func12, Try.ntmps12
  go_wp2_with fail
  generalize w.alloc (.cells #[.int .i64 k, .string s, .int .i64 st] 25) = W at S ⊢
  refine (validMessage_any ⟨k, s, st⟩ W hs).mono ?_
  rintro e W1 ⟨h1, hb⟩
  rw [HM.out, HR.out] at h1
  subst h1
  replace S := S.later hb
  clear hb
  go_wp2_with fail
  go_ret
  exact ⟨_, rfl, own_empty W1 _ S.out.size, S.out.alloc S.out.size _⟩

set_option maxHeartbeats 4000000 in
theorem putFrame_1 (s : ByteArray) (st : Int) (w : World) (hs : s.size ≤ 1048576) (hr : frB ⟨1, s, st⟩ = true) : Calls Try.prog 12 #[.agg (frC ⟨1, s, st⟩).toArray] w (RetOwn w (putF ⟨1, s, st⟩)) := by
  rw [putF_t hr (by show (1 : Int) ≠ 5; decide) (by show (1 : Int) ≠ 3; decide)]
  unfold RetOwn
  obtain ⟨h0, h2⟩ := frB_st hr
  replace h0 : 0 ≤ st := h0
  replace h2 : st ≤ 2 := h2
  have HR := Lib.hid hr
  have S : All (fun w' => Below w.heap.size w w' ∧ Hid (w'.heap[w.heap.size]? = some (.cells (frC ⟨1, s, st⟩).toArray 25 (0, 0)))) (w.alloc (.cells #[.int .i64 1, .string s, .int .i64 st] 25)) := ⟨Later.alloc w _, Lib.hid (heap_alloc_new w _)⟩
  clear hr
  show Calls Try.prog 12 #[.agg #[.int .i64 1, .string s, .int .i64 st]] w _
  go_enter Try.func12, Try.ntmps12
  go_wp2_with fail
  generalize w.alloc (.cells #[.int .i64 1, .string s, .int .i64 st] 25) = W at S ⊢
  refine (validMessage_1 s st W hs).mono ?_
  rintro e W1 ⟨h1, hb⟩
  rw [HR.out, show msgV ⟨1, s, st⟩ = .iface 78 (.string s) from rfl] at h1
  subst h1
  replace S := S.later hb
  clear hb
  obtain ⟨d0, d1, d2⟩ := fr_box S.out.2.out
  have hlt : w.heap.size < W1.heap.size := (Array.getElem?_eq_some_iff.1 S.out.2.out).1
  have hb1 := S.out.1
  have hb2 := hb1.alloc hb1.size (.cells #[.int .u8 1] 5)
  have a3 := Try.as_1_3 (.string s)
  have a5 := Try.as_1_5 (.string s)
  have hr1 := one_lit W1 1 (by decide) (by decide)
  go_wp2_with fail
  refine (putText_any (some ⟨W1.heap.size, 0, none⟩) 1 s [u8 1] _ hr1 (by simp) (by omega)).mono ?_
  rintro e W2 ⟨v, rfl, hown, hb⟩
  go_wp2_with fail
  go_ret
  exact ⟨v, rfl, ownsRow_mono hown (Nat.le_trans hb1.size (by simp)), Later.trans hb2 hb⟩

set_option maxHeartbeats 4000000 in
theorem putFrame_2 (s : ByteArray) (st : Int) (w : World) (hs : s.size ≤ 1048576) (hr : frB ⟨2, s, st⟩ = true) : Calls Try.prog 12 #[.agg (frC ⟨2, s, st⟩).toArray] w (RetOwn w (putF ⟨2, s, st⟩)) := by
  rw [putF_t hr (by show (2 : Int) ≠ 5; decide) (by show (2 : Int) ≠ 3; decide)]
  unfold RetOwn
  obtain ⟨h0, h2⟩ := frB_st hr
  replace h0 : 0 ≤ st := h0
  replace h2 : st ≤ 2 := h2
  have HR := Lib.hid hr
  have S : All (fun w' => Below w.heap.size w w' ∧ Hid (w'.heap[w.heap.size]? = some (.cells (frC ⟨2, s, st⟩).toArray 25 (0, 0)))) (w.alloc (.cells #[.int .i64 2, .string s, .int .i64 st] 25)) := ⟨Later.alloc w _, Lib.hid (heap_alloc_new w _)⟩
  clear hr
  show Calls Try.prog 12 #[.agg #[.int .i64 2, .string s, .int .i64 st]] w _
  go_enter Try.func12, Try.ntmps12
  go_wp2_with fail
  generalize w.alloc (.cells #[.int .i64 2, .string s, .int .i64 st] 25) = W at S ⊢
  refine (validMessage_2 s st W hs).mono ?_
  rintro e W1 ⟨h1, hb⟩
  rw [HR.out, show msgV ⟨2, s, st⟩ = .iface 79 (.string s) from rfl] at h1
  subst h1
  replace S := S.later hb
  clear hb
  obtain ⟨d0, d1, d2⟩ := fr_box S.out.2.out
  have hlt : w.heap.size < W1.heap.size := (Array.getElem?_eq_some_iff.1 S.out.2.out).1
  have hb1 := S.out.1
  have hb2 := hb1.alloc hb1.size (.cells #[.int .u8 2] 5)
  have a3 := Try.as_2_3 (.string s)
  have a5 := Try.as_2_5 (.string s)
  have hr1 := one_lit W1 2 (by decide) (by decide)
  go_wp2_with fail
  refine (putText_any (some ⟨W1.heap.size, 0, none⟩) 1 s [u8 2] _ hr1 (by simp) (by omega)).mono ?_
  rintro e W2 ⟨v, rfl, hown, hb⟩
  go_wp2_with fail
  go_ret
  exact ⟨v, rfl, ownsRow_mono hown (Nat.le_trans hb1.size (by simp)), Later.trans hb2 hb⟩

set_option maxHeartbeats 4000000 in
theorem putFrame_3 (s : ByteArray) (st : Int) (w : World) (hs : s.size ≤ 1048576) (hr : frB ⟨3, s, st⟩ = true) : Calls Try.prog 12 #[.agg (frC ⟨3, s, st⟩).toArray] w (RetOwn w (putF ⟨3, s, st⟩)) := by
  rw [putF_3 hr rfl]
  unfold RetOwn
  obtain ⟨h0, h2⟩ := frB_st hr
  replace h0 : 0 ≤ st := h0
  replace h2 : st ≤ 2 := h2
  have HR := Lib.hid hr
  have S : All (fun w' => Below w.heap.size w w' ∧ Hid (w'.heap[w.heap.size]? = some (.cells (frC ⟨3, s, st⟩).toArray 25 (0, 0)))) (w.alloc (.cells #[.int .i64 3, .string s, .int .i64 st] 25)) := ⟨Later.alloc w _, Lib.hid (heap_alloc_new w _)⟩
  clear hr
  show Calls Try.prog 12 #[.agg #[.int .i64 3, .string s, .int .i64 st]] w _
  go_enter Try.func12, Try.ntmps12
  go_wp2_with fail
  generalize w.alloc (.cells #[.int .i64 3, .string s, .int .i64 st] 25) = W at S ⊢
  refine (validMessage_3 s st W hs).mono ?_
  rintro e W1 ⟨h1, hb⟩
  rw [HR.out, show msgV ⟨3, s, st⟩ = .iface 53 (.agg #[]) from rfl] at h1
  subst h1
  replace S := S.later hb
  clear hb
  obtain ⟨d0, d1, d2⟩ := fr_box S.out.2.out
  have hlt : w.heap.size < W1.heap.size := (Array.getElem?_eq_some_iff.1 S.out.2.out).1
  have hb1 := S.out.1
  have hb2 := hb1.alloc hb1.size (.cells #[.int .u8 3] 5)
  have a3 := Try.as_3_3 (.agg #[])
  have a5 := Try.as_3_5 (.agg #[])
  go_wp2_with fail
  go_ret
  exact ⟨_, rfl, own_lit W1 3 (by decide) (by decide) _ hb1.size, hb2⟩

set_option maxHeartbeats 4000000 in
theorem putFrame_4 (s : ByteArray) (st : Int) (w : World) (hs : s.size ≤ 1048576) (hr : frB ⟨4, s, st⟩ = true) : Calls Try.prog 12 #[.agg (frC ⟨4, s, st⟩).toArray] w (RetOwn w (putF ⟨4, s, st⟩)) := by
  rw [putF_t hr (by show (4 : Int) ≠ 5; decide) (by show (4 : Int) ≠ 3; decide)]
  unfold RetOwn
  obtain ⟨h0, h2⟩ := frB_st hr
  replace h0 : 0 ≤ st := h0
  replace h2 : st ≤ 2 := h2
  have HR := Lib.hid hr
  have S : All (fun w' => Below w.heap.size w w' ∧ Hid (w'.heap[w.heap.size]? = some (.cells (frC ⟨4, s, st⟩).toArray 25 (0, 0)))) (w.alloc (.cells #[.int .i64 4, .string s, .int .i64 st] 25)) := ⟨Later.alloc w _, Lib.hid (heap_alloc_new w _)⟩
  clear hr
  show Calls Try.prog 12 #[.agg #[.int .i64 4, .string s, .int .i64 st]] w _
  go_enter Try.func12, Try.ntmps12
  go_wp2_with fail
  generalize w.alloc (.cells #[.int .i64 4, .string s, .int .i64 st] 25) = W at S ⊢
  refine (validMessage_4 s st W hs).mono ?_
  rintro e W1 ⟨h1, hb⟩
  rw [HR.out, show msgV ⟨4, s, st⟩ = .iface 80 (.string s) from rfl] at h1
  subst h1
  replace S := S.later hb
  clear hb
  obtain ⟨d0, d1, d2⟩ := fr_box S.out.2.out
  have hlt : w.heap.size < W1.heap.size := (Array.getElem?_eq_some_iff.1 S.out.2.out).1
  have hb1 := S.out.1
  have hb2 := hb1.alloc hb1.size (.cells #[.int .u8 4] 5)
  have a3 := Try.as_4_3 (.string s)
  have a5 := Try.as_4_5 (.string s)
  have hr1 := one_lit W1 4 (by decide) (by decide)
  go_wp2_with fail
  refine (putText_any (some ⟨W1.heap.size, 0, none⟩) 1 s [u8 4] _ hr1 (by simp) (by omega)).mono ?_
  rintro e W2 ⟨v, rfl, hown, hb⟩
  go_wp2_with fail
  go_ret
  exact ⟨v, rfl, ownsRow_mono hown (Nat.le_trans hb1.size (by simp)), Later.trans hb2 hb⟩

set_option maxHeartbeats 4000000 in
theorem putFrame_5 (s : ByteArray) (st : Int) (w : World) (hs : s.size ≤ 1048576) (hr : frB ⟨5, s, st⟩ = true) : Calls Try.prog 12 #[.agg (frC ⟨5, s, st⟩).toArray] w (RetOwn w (putF ⟨5, s, st⟩)) := by
  rw [putF_5 hr rfl]
  unfold RetOwn
  obtain ⟨h0, h2⟩ := frB_st hr
  replace h0 : 0 ≤ st := h0
  replace h2 : st ≤ 2 := h2
  have HR := Lib.hid hr
  have S : All (fun w' => Below w.heap.size w w' ∧ Hid (w'.heap[w.heap.size]? = some (.cells (frC ⟨5, s, st⟩).toArray 25 (0, 0)))) (w.alloc (.cells #[.int .i64 5, .string s, .int .i64 st] 25)) := ⟨Later.alloc w _, Lib.hid (heap_alloc_new w _)⟩
  clear hr
  show Calls Try.prog 12 #[.agg #[.int .i64 5, .string s, .int .i64 st]] w _
  go_enter Try.func12, Try.ntmps12
  go_wp2_with fail
  generalize w.alloc (.cells #[.int .i64 5, .string s, .int .i64 st] 25) = W at S ⊢
  refine (validMessage_5 s st W hs).mono ?_
  rintro e W1 ⟨h1, hb⟩
  rw [HR.out, show msgV ⟨5, s, st⟩ = .iface 54 (.int .i64 st) from rfl] at h1
  subst h1
  replace S := S.later hb
  clear hb
  obtain ⟨d0, d1, d2⟩ := fr_box S.out.2.out
  have hlt : w.heap.size < W1.heap.size := (Array.getElem?_eq_some_iff.1 S.out.2.out).1
  have hb1 := S.out.1
  have hb2 := hb1.alloc hb1.size (.cells #[.int .u8 5] 5)
  have a3 := Try.as_5_3 (.int .i64 st)
  have a5 := Try.as_5_5 (.int .i64 st)
  have hr1 := one_lit W1 5 (by decide) (by decide)
  have hr2 := one_lit (W1.alloc (.cells #[.int .u8 5] 5)) st h0 (by omega)
  rw [show (W1.alloc (.cells #[.int .u8 5] 5)).heap.size = W1.heap.size + 1 by simp] at hr2
  go_wp2_with fail
  refine (joined_any (some ⟨W1.heap.size, 0, none⟩) (some ⟨W1.heap.size + 1, 0, none⟩) 1 1 [u8 5] [u8 st] _ ((hr1.alloc (Nat.le_refl _) _).more (by simp)) hr2 (by simp) (by simp)).mono ?_
  rintro e W2 ⟨v, rfl, hown, hb⟩
  go_wp2_with fail
  go_ret
  exact ⟨v, rfl, ownsRow_mono hown (Nat.le_trans hb2.size (by simp)), Later.trans (hb2.alloc hb2.size _) hb⟩

set_option maxHeartbeats 4000000 in
theorem putFrame_6 (s : ByteArray) (st : Int) (w : World) (hs : s.size ≤ 1048576) (hr : frB ⟨6, s, st⟩ = true) : Calls Try.prog 12 #[.agg (frC ⟨6, s, st⟩).toArray] w (RetOwn w (putF ⟨6, s, st⟩)) := by
  rw [putF_t hr (by show (6 : Int) ≠ 5; decide) (by show (6 : Int) ≠ 3; decide)]
  unfold RetOwn
  obtain ⟨h0, h2⟩ := frB_st hr
  replace h0 : 0 ≤ st := h0
  replace h2 : st ≤ 2 := h2
  have HR := Lib.hid hr
  have S : All (fun w' => Below w.heap.size w w' ∧ Hid (w'.heap[w.heap.size]? = some (.cells (frC ⟨6, s, st⟩).toArray 25 (0, 0)))) (w.alloc (.cells #[.int .i64 6, .string s, .int .i64 st] 25)) := ⟨Later.alloc w _, Lib.hid (heap_alloc_new w _)⟩
  clear hr
  show Calls Try.prog 12 #[.agg #[.int .i64 6, .string s, .int .i64 st]] w _
  go_enter Try.func12, Try.ntmps12
  go_wp2_with fail
  generalize w.alloc (.cells #[.int .i64 6, .string s, .int .i64 st] 25) = W at S ⊢
  refine (validMessage_6 s st W hs).mono ?_
  rintro e W1 ⟨h1, hb⟩
  rw [HR.out, show msgV ⟨6, s, st⟩ = .iface 81 (.string s) from rfl] at h1
  subst h1
  replace S := S.later hb
  clear hb
  obtain ⟨d0, d1, d2⟩ := fr_box S.out.2.out
  have hlt : w.heap.size < W1.heap.size := (Array.getElem?_eq_some_iff.1 S.out.2.out).1
  have hb1 := S.out.1
  have hb2 := hb1.alloc hb1.size (.cells #[.int .u8 6] 5)
  have a3 := Try.as_6_3 (.string s)
  have a5 := Try.as_6_5 (.string s)
  have hr1 := one_lit W1 6 (by decide) (by decide)
  go_wp2_with fail
  refine (putText_any (some ⟨W1.heap.size, 0, none⟩) 1 s [u8 6] _ hr1 (by simp) (by omega)).mono ?_
  rintro e W2 ⟨v, rfl, hown, hb⟩
  go_wp2_with fail
  go_ret
  exact ⟨v, rfl, ownsRow_mono hown (Nat.le_trans hb1.size (by simp)), Later.trans hb2 hb⟩

theorem putFrame_any (f : Fr) (w : World) (hs : f.s.size ≤ 1048576) : Calls Try.prog 12 #[.agg (frC f).toArray] w (RetOwn w (putF f)) := by
  obtain ⟨k, s, st⟩ := f
  obtain ⟨r, hr⟩ : ∃ r, frB ⟨k, s, st⟩ = r := ⟨_, rfl⟩
  cases r
  · exact putFrame_no k s st w hs hr
  · rcases kinds k with rfl | rfl | rfl | rfl | rfl | rfl | h
    · exact putFrame_1 s st w hs hr
    · exact putFrame_2 s st w hs hr
    · exact putFrame_3 s st w hs hr
    · exact putFrame_4 s st w hs hr
    · exact putFrame_5 s st w hs hr
    · exact putFrame_6 s st w hs hr
    · rw [frB_no (f := ⟨k, s, st⟩) h] at hr; cases hr

set_option maxHeartbeats 1000000 in
theorem wordAnd_any (a s : ByteArray) (w : World) (ha : a.size ≤ 100) (hs : s.size ≤ 1048576) : Calls Try.prog 82 #[.string a, .string s] w fun e w' => e = .returned (.string (if s = ⟨#[]⟩ then a else (a ++ ⟨#[32]⟩) ++ s)) ∧ w = w' := by
  by_cases he : s = ⟨#[]⟩
  · rw [if_pos he]
    subst he
    go_enter Try.func82, Try.ntmps82
    go_wp2
    go_ret
    exact ⟨rfl, rfl⟩
  · rw [if_neg he]
    obtain ⟨e2, e3⟩ := not_empty he
    clear he
    have h1 : (a ++ (⟨#[32]⟩ : ByteArray)).size ≤ 101 := by rw [ByteArray.size_append]; show a.size + 1 ≤ 101; omega
    go_enter Try.func82, Try.ntmps82
    go_wp2
    go_ret
    exact ⟨rfl, rfl⟩

set_option maxRecDepth 100000 in
set_option maxHeartbeats 4000000 in
theorem numText_small (st : Int) (h0 : 0 ≤ st) (h2 : st ≤ 2) (w : World) : Calls Try.prog 83 #[.int .i64 st] w fun e w' => e = .returned (.string ⟨#[digB st.toNat]⟩) ∧ Below w.heap.size w w' := by
  have h : st = 0 ∨ st = 1 ∨ st = 2 := by omega
  clear h0 h2
  rcases h with rfl | rfl | rfl
  · go_enter Try.func83, Try.ntmps83
    go_wp2_with (first | (go_at_call 85; go_in) | (go_at_call 86; go_in) | (go_at_call 87; go_in) | (go_at_call 88; go_in))
    go_ret
    exact ⟨rfl, by go_grown⟩
  · go_enter Try.func83, Try.ntmps83
    go_wp2_with (first | (go_at_call 85; go_in) | (go_at_call 86; go_in) | (go_at_call 87; go_in) | (go_at_call 88; go_in))
    go_ret
    exact ⟨rfl, by go_grown⟩
  · go_enter Try.func83, Try.ntmps83
    go_wp2_with (first | (go_at_call 85; go_in) | (go_at_call 86; go_in) | (go_at_call 87; go_in) | (go_at_call 88; go_in))
    go_ret
    exact ⟨rfl, by go_grown⟩

def sayF (f : Fr) : ByteArray := if f.k = 3 then wordK 3 else if f.k = 5 then (wordK 5 ++ ⟨#[32]⟩) ++ ⟨#[digB f.st.toNat]⟩ else if f.s = ⟨#[]⟩ then wordK f.k else (wordK f.k ++ ⟨#[32]⟩) ++ f.s
theorem textF_say {f : Fr} (h : frB f = true) : textF f = sayF f := by
  obtain ⟨k, s, st⟩ := f
  by_cases h5 : k = 5
  · subst h5
    rw [textF_5 h rfl]
    rfl
  · by_cases h3 : k = 3
    · subst h3
      have hs : s = ⟨#[]⟩ := by rw [frB_3, Bool.and_eq_true] at h; exact (empty_iff s).1 h.1
      rw [textF_e h (by show (3 : Int) ≠ 5; decide) hs]
      rfl
    · by_cases he : s = ⟨#[]⟩
      · rw [textF_e h h5 he]
        unfold sayF
        rw [if_neg h3, if_neg h5, if_pos he]
      · rw [textF_t h h5 he]
        unfold sayF
        rw [if_neg h3, if_neg h5, if_neg he]

theorem say_1 (s : ByteArray) (st : Int) (w : World) (hs : s.size ≤ 1048576) (h0 : 0 ≤ st) (h2 : st ≤ 2) : Calls Try.prog 99 #[.string s] w (RetText w (sayF ⟨1, s, st⟩)) := by
  unfold RetText
  have HW := Lib.hid (show (if s = ⟨#[]⟩ then (⟨#[104, 101, 108, 108, 111]⟩ : ByteArray) else ((⟨#[104, 101, 108, 108, 111]⟩ : ByteArray) ++ ⟨#[32]⟩) ++ s) = sayF ⟨1, s, st⟩ from rfl)
  go_enter Try.func99, Try.ntmps99
  go_wp2_with fail
  refine (wordAnd_any ⟨#[104, 101, 108, 108, 111]⟩ s w (by decide) hs).mono ?_
  rw [HW.out]
  rintro e W2 ⟨rfl, rfl⟩
  go_wp2_with fail
  go_ret
  exact ⟨rfl, Later.refl w⟩

theorem say_2 (s : ByteArray) (st : Int) (w : World) (hs : s.size ≤ 1048576) (h0 : 0 ≤ st) (h2 : st ≤ 2) : Calls Try.prog 102 #[.string s] w (RetText w (sayF ⟨2, s, st⟩)) := by
  unfold RetText
  have HW := Lib.hid (show (if s = ⟨#[]⟩ then (⟨#[113, 117, 101, 114, 121]⟩ : ByteArray) else ((⟨#[113, 117, 101, 114, 121]⟩ : ByteArray) ++ ⟨#[32]⟩) ++ s) = sayF ⟨2, s, st⟩ from rfl)
  go_enter Try.func102, Try.ntmps102
  go_wp2_with fail
  refine (wordAnd_any ⟨#[113, 117, 101, 114, 121]⟩ s w (by decide) hs).mono ?_
  rw [HW.out]
  rintro e W2 ⟨rfl, rfl⟩
  go_wp2_with fail
  go_ret
  exact ⟨rfl, Later.refl w⟩

theorem say_3 (s : ByteArray) (st : Int) (w : World) (hs : s.size ≤ 1048576) (h0 : 0 ≤ st) (h2 : st ≤ 2) : Calls Try.prog 78 #[.agg #[]] w (RetText w (sayF ⟨3, s, st⟩)) := by
  unfold RetText
  go_enter Try.func78, Try.ntmps78
  go_wp2_with fail
  go_ret
  exact ⟨rfl, Later.alloc w _⟩

theorem say_4 (s : ByteArray) (st : Int) (w : World) (hs : s.size ≤ 1048576) (h0 : 0 ≤ st) (h2 : st ≤ 2) : Calls Try.prog 104 #[.string s] w (RetText w (sayF ⟨4, s, st⟩)) := by
  unfold RetText
  have HW := Lib.hid (show (if s = ⟨#[]⟩ then (⟨#[114, 111, 119]⟩ : ByteArray) else ((⟨#[114, 111, 119]⟩ : ByteArray) ++ ⟨#[32]⟩) ++ s) = sayF ⟨4, s, st⟩ from rfl)
  go_enter Try.func104, Try.ntmps104
  go_wp2_with fail
  refine (wordAnd_any ⟨#[114, 111, 119]⟩ s w (by decide) hs).mono ?_
  rw [HW.out]
  rintro e W2 ⟨rfl, rfl⟩
  go_wp2_with fail
  go_ret
  exact ⟨rfl, Later.refl w⟩

theorem say_5 (s : ByteArray) (st : Int) (w : World) (hs : s.size ≤ 1048576) (h0 : 0 ≤ st) (h2 : st ≤ 2) : Calls Try.prog 80 #[.int .i64 st] w (RetText w (sayF ⟨5, s, st⟩)) := by
  unfold RetText
  have HD := Lib.hid (show (⟨#[digB st.toNat]⟩ : ByteArray) ≠ ⟨#[]⟩ from fun e => by injection e with e; injection e with e; cases e)
  go_enter Try.func80, Try.ntmps80
  go_wp2_with fail
  refine (numText_small st h0 h2 w).mono ?_
  rintro e W1 ⟨rfl, hb⟩
  go_wp2_with fail
  refine (wordAnd_any ⟨#[114, 101, 97, 100, 121]⟩ ⟨#[digB st.toNat]⟩ W1 (by decide) (by show 1 ≤ 1048576; decide)).mono ?_
  rw [if_neg HD.out]
  rintro e W2 ⟨rfl, rfl⟩
  go_wp2_with fail
  go_ret
  exact ⟨rfl, hb⟩

theorem say_6 (s : ByteArray) (st : Int) (w : World) (hs : s.size ≤ 1048576) (h0 : 0 ≤ st) (h2 : st ≤ 2) : Calls Try.prog 106 #[.string s] w (RetText w (sayF ⟨6, s, st⟩)) := by
  unfold RetText
  have HW := Lib.hid (show (if s = ⟨#[]⟩ then (⟨#[101, 114, 114, 111, 114]⟩ : ByteArray) else ((⟨#[101, 114, 114, 111, 114]⟩ : ByteArray) ++ ⟨#[32]⟩) ++ s) = sayF ⟨6, s, st⟩ from rfl)
  go_enter Try.func106, Try.ntmps106
  go_wp2_with fail
  refine (wordAnd_any ⟨#[101, 114, 114, 111, 114]⟩ s w (by decide) hs).mono ?_
  rw [HW.out]
  rintro e W2 ⟨rfl, rfl⟩
  go_wp2_with fail
  go_ret
  exact ⟨rfl, Later.refl w⟩

set_option maxHeartbeats 4000000 in
theorem frameText_no (k : Int) (s : ByteArray) (st : Int) (w : World) (hs : s.size ≤ 1048576) (hr : frB ⟨k, s, st⟩ = false) : Calls Try.prog 15 #[.agg (frC ⟨k, s, st⟩).toArray] w (RetText w (textF ⟨k, s, st⟩)) := by
  rw [textF_no hr]
  unfold RetText
  have HR := Lib.hid hr
  have S : All (fun w' => Below w.heap.size w w') (w.alloc (.cells #[.int .i64 k, .string s, .int .i64 st] 25)) := ⟨Later.alloc w _⟩
  clear hr
  obtain ⟨m, hm⟩ : ∃ m, msgV ⟨k, s, st⟩ = m := ⟨_, rfl⟩
  have HM := Lib.hid hm
  clear hm
  unfold frC
  go_enter Try.func15, Try.ntmps15
  go_wp2_with fail
  generalize w.alloc (.cells #[.int .i64 k, .string s, .int .i64 st] 25) = W at S ⊢
  refine (validMessage_any ⟨k, s, st⟩ W hs).mono ?_
  rintro e W1 ⟨h1, hb⟩
  rw [HM.out, HR.out] at h1
  subst h1
  replace S := S.later hb
  clear hb
  go_wp2_with fail
  go_ret
  exact ⟨rfl, S.out⟩

set_option maxHeartbeats 4000000 in
theorem frameText_1 (s : ByteArray) (st : Int) (w : World) (hs : s.size ≤ 1048576) (hr : frB ⟨1, s, st⟩ = true) : Calls Try.prog 15 #[.agg (frC ⟨1, s, st⟩).toArray] w (RetText w (textF ⟨1, s, st⟩)) := by
  rw [textF_say hr]
  unfold RetText
  obtain ⟨h0, h2⟩ := frB_st hr
  replace h0 : 0 ≤ st := h0
  replace h2 : st ≤ 2 := h2
  have HR := Lib.hid hr
  obtain ⟨q, hq⟩ : ∃ q, sayF ⟨1, s, st⟩ = q := ⟨_, rfl⟩
  rw [hq]
  have HQ := Lib.hid hq
  have S : All (fun w' => Below w.heap.size w w') (w.alloc (.cells #[.int .i64 1, .string s, .int .i64 st] 25)) := ⟨Later.alloc w _⟩
  clear hr hq
  show Calls Try.prog 15 #[.agg #[.int .i64 1, .string s, .int .i64 st]] w _
  go_enter Try.func15, Try.ntmps15
  go_wp2_with fail
  generalize w.alloc (.cells #[.int .i64 1, .string s, .int .i64 st] 25) = W at S ⊢
  refine (validMessage_1 s st W hs).mono ?_
  rintro e W1 ⟨h1, hb⟩
  rw [HR.out, show msgV ⟨1, s, st⟩ = .iface 78 (.string s) from rfl] at h1
  subst h1
  replace S := S.later hb
  clear hb
  go_wp2_with fail
  refine (say_1 s st W1 hs h0 h2).mono ?_
  rw [HQ.out]
  rintro e W2 ⟨rfl, hb⟩
  have hfin := (S.later hb).out
  clear hb S
  go_wp2_with fail
  go_ret
  exact ⟨rfl, hfin⟩

set_option maxHeartbeats 4000000 in
theorem frameText_2 (s : ByteArray) (st : Int) (w : World) (hs : s.size ≤ 1048576) (hr : frB ⟨2, s, st⟩ = true) : Calls Try.prog 15 #[.agg (frC ⟨2, s, st⟩).toArray] w (RetText w (textF ⟨2, s, st⟩)) := by
  rw [textF_say hr]
  unfold RetText
  obtain ⟨h0, h2⟩ := frB_st hr
  replace h0 : 0 ≤ st := h0
  replace h2 : st ≤ 2 := h2
  have HR := Lib.hid hr
  obtain ⟨q, hq⟩ : ∃ q, sayF ⟨2, s, st⟩ = q := ⟨_, rfl⟩
  rw [hq]
  have HQ := Lib.hid hq
  have S : All (fun w' => Below w.heap.size w w') (w.alloc (.cells #[.int .i64 2, .string s, .int .i64 st] 25)) := ⟨Later.alloc w _⟩
  clear hr hq
  show Calls Try.prog 15 #[.agg #[.int .i64 2, .string s, .int .i64 st]] w _
  go_enter Try.func15, Try.ntmps15
  go_wp2_with fail
  generalize w.alloc (.cells #[.int .i64 2, .string s, .int .i64 st] 25) = W at S ⊢
  refine (validMessage_2 s st W hs).mono ?_
  rintro e W1 ⟨h1, hb⟩
  rw [HR.out, show msgV ⟨2, s, st⟩ = .iface 79 (.string s) from rfl] at h1
  subst h1
  replace S := S.later hb
  clear hb
  go_wp2_with fail
  refine (say_2 s st W1 hs h0 h2).mono ?_
  rw [HQ.out]
  rintro e W2 ⟨rfl, hb⟩
  have hfin := (S.later hb).out
  clear hb S
  go_wp2_with fail
  go_ret
  exact ⟨rfl, hfin⟩

set_option maxHeartbeats 4000000 in
theorem frameText_3 (s : ByteArray) (st : Int) (w : World) (hs : s.size ≤ 1048576) (hr : frB ⟨3, s, st⟩ = true) : Calls Try.prog 15 #[.agg (frC ⟨3, s, st⟩).toArray] w (RetText w (textF ⟨3, s, st⟩)) := by
  rw [textF_say hr]
  unfold RetText
  obtain ⟨h0, h2⟩ := frB_st hr
  replace h0 : 0 ≤ st := h0
  replace h2 : st ≤ 2 := h2
  have HR := Lib.hid hr
  obtain ⟨q, hq⟩ : ∃ q, sayF ⟨3, s, st⟩ = q := ⟨_, rfl⟩
  rw [hq]
  have HQ := Lib.hid hq
  have S : All (fun w' => Below w.heap.size w w') (w.alloc (.cells #[.int .i64 3, .string s, .int .i64 st] 25)) := ⟨Later.alloc w _⟩
  clear hr hq
  show Calls Try.prog 15 #[.agg #[.int .i64 3, .string s, .int .i64 st]] w _
  go_enter Try.func15, Try.ntmps15
  go_wp2_with fail
  generalize w.alloc (.cells #[.int .i64 3, .string s, .int .i64 st] 25) = W at S ⊢
  refine (validMessage_3 s st W hs).mono ?_
  rintro e W1 ⟨h1, hb⟩
  rw [HR.out, show msgV ⟨3, s, st⟩ = .iface 53 (.agg #[]) from rfl] at h1
  subst h1
  replace S := S.later hb
  clear hb
  go_wp2_with fail
  refine (say_3 s st W1 hs h0 h2).mono ?_
  rw [HQ.out]
  rintro e W2 ⟨rfl, hb⟩
  have hfin := (S.later hb).out
  clear hb S
  go_wp2_with fail
  go_ret
  exact ⟨rfl, hfin⟩

set_option maxHeartbeats 4000000 in
theorem frameText_4 (s : ByteArray) (st : Int) (w : World) (hs : s.size ≤ 1048576) (hr : frB ⟨4, s, st⟩ = true) : Calls Try.prog 15 #[.agg (frC ⟨4, s, st⟩).toArray] w (RetText w (textF ⟨4, s, st⟩)) := by
  rw [textF_say hr]
  unfold RetText
  obtain ⟨h0, h2⟩ := frB_st hr
  replace h0 : 0 ≤ st := h0
  replace h2 : st ≤ 2 := h2
  have HR := Lib.hid hr
  obtain ⟨q, hq⟩ : ∃ q, sayF ⟨4, s, st⟩ = q := ⟨_, rfl⟩
  rw [hq]
  have HQ := Lib.hid hq
  have S : All (fun w' => Below w.heap.size w w') (w.alloc (.cells #[.int .i64 4, .string s, .int .i64 st] 25)) := ⟨Later.alloc w _⟩
  clear hr hq
  show Calls Try.prog 15 #[.agg #[.int .i64 4, .string s, .int .i64 st]] w _
  go_enter Try.func15, Try.ntmps15
  go_wp2_with fail
  generalize w.alloc (.cells #[.int .i64 4, .string s, .int .i64 st] 25) = W at S ⊢
  refine (validMessage_4 s st W hs).mono ?_
  rintro e W1 ⟨h1, hb⟩
  rw [HR.out, show msgV ⟨4, s, st⟩ = .iface 80 (.string s) from rfl] at h1
  subst h1
  replace S := S.later hb
  clear hb
  go_wp2_with fail
  refine (say_4 s st W1 hs h0 h2).mono ?_
  rw [HQ.out]
  rintro e W2 ⟨rfl, hb⟩
  have hfin := (S.later hb).out
  clear hb S
  go_wp2_with fail
  go_ret
  exact ⟨rfl, hfin⟩

set_option maxHeartbeats 4000000 in
theorem frameText_5 (s : ByteArray) (st : Int) (w : World) (hs : s.size ≤ 1048576) (hr : frB ⟨5, s, st⟩ = true) : Calls Try.prog 15 #[.agg (frC ⟨5, s, st⟩).toArray] w (RetText w (textF ⟨5, s, st⟩)) := by
  rw [textF_say hr]
  unfold RetText
  obtain ⟨h0, h2⟩ := frB_st hr
  replace h0 : 0 ≤ st := h0
  replace h2 : st ≤ 2 := h2
  have HR := Lib.hid hr
  obtain ⟨q, hq⟩ : ∃ q, sayF ⟨5, s, st⟩ = q := ⟨_, rfl⟩
  rw [hq]
  have HQ := Lib.hid hq
  have S : All (fun w' => Below w.heap.size w w') (w.alloc (.cells #[.int .i64 5, .string s, .int .i64 st] 25)) := ⟨Later.alloc w _⟩
  clear hr hq
  show Calls Try.prog 15 #[.agg #[.int .i64 5, .string s, .int .i64 st]] w _
  go_enter Try.func15, Try.ntmps15
  go_wp2_with fail
  generalize w.alloc (.cells #[.int .i64 5, .string s, .int .i64 st] 25) = W at S ⊢
  refine (validMessage_5 s st W hs).mono ?_
  rintro e W1 ⟨h1, hb⟩
  rw [HR.out, show msgV ⟨5, s, st⟩ = .iface 54 (.int .i64 st) from rfl] at h1
  subst h1
  replace S := S.later hb
  clear hb
  go_wp2_with fail
  refine (say_5 s st W1 hs h0 h2).mono ?_
  rw [HQ.out]
  rintro e W2 ⟨rfl, hb⟩
  have hfin := (S.later hb).out
  clear hb S
  go_wp2_with fail
  go_ret
  exact ⟨rfl, hfin⟩

set_option maxHeartbeats 4000000 in
theorem frameText_6 (s : ByteArray) (st : Int) (w : World) (hs : s.size ≤ 1048576) (hr : frB ⟨6, s, st⟩ = true) : Calls Try.prog 15 #[.agg (frC ⟨6, s, st⟩).toArray] w (RetText w (textF ⟨6, s, st⟩)) := by
  rw [textF_say hr]
  unfold RetText
  obtain ⟨h0, h2⟩ := frB_st hr
  replace h0 : 0 ≤ st := h0
  replace h2 : st ≤ 2 := h2
  have HR := Lib.hid hr
  obtain ⟨q, hq⟩ : ∃ q, sayF ⟨6, s, st⟩ = q := ⟨_, rfl⟩
  rw [hq]
  have HQ := Lib.hid hq
  have S : All (fun w' => Below w.heap.size w w') (w.alloc (.cells #[.int .i64 6, .string s, .int .i64 st] 25)) := ⟨Later.alloc w _⟩
  clear hr hq
  show Calls Try.prog 15 #[.agg #[.int .i64 6, .string s, .int .i64 st]] w _
  go_enter Try.func15, Try.ntmps15
  go_wp2_with fail
  generalize w.alloc (.cells #[.int .i64 6, .string s, .int .i64 st] 25) = W at S ⊢
  refine (validMessage_6 s st W hs).mono ?_
  rintro e W1 ⟨h1, hb⟩
  rw [HR.out, show msgV ⟨6, s, st⟩ = .iface 81 (.string s) from rfl] at h1
  subst h1
  replace S := S.later hb
  clear hb
  go_wp2_with fail
  refine (say_6 s st W1 hs h0 h2).mono ?_
  rw [HQ.out]
  rintro e W2 ⟨rfl, hb⟩
  have hfin := (S.later hb).out
  clear hb S
  go_wp2_with fail
  go_ret
  exact ⟨rfl, hfin⟩

theorem frameText_any (f : Fr) (w : World) (hs : f.s.size ≤ 1048576) : Calls Try.prog 15 #[.agg (frC f).toArray] w (RetText w (textF f)) := by
  obtain ⟨k, s, st⟩ := f
  obtain ⟨r, hr⟩ : ∃ r, frB ⟨k, s, st⟩ = r := ⟨_, rfl⟩
  cases r
  · exact frameText_no k s st w hs hr
  · rcases kinds k with rfl | rfl | rfl | rfl | rfl | rfl | h
    · exact frameText_1 s st w hs hr
    · exact frameText_2 s st w hs hr
    · exact frameText_3 s st w hs hr
    · exact frameText_4 s st w hs hr
    · exact frameText_5 s st w hs hr
    · exact frameText_6 s st w hs hr
    · rw [frB_no (f := ⟨k, s, st⟩) h] at hr; cases hr

end Go.Proofs.Ytlhmdjaplcopoaa
