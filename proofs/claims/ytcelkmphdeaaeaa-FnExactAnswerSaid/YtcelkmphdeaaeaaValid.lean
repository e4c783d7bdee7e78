/- A frame that is right: the methods of the six messages, validMessage, FrameOk of the program. (By gen_valid.py.) -/
import Derived.Test.YtcelkmphdeaaeaaFrameI
import Derived.Test.YtcelkmphdeaaeaaLexG
import Derived.Deep.Cut
namespace Go.Proofs.Ytcelkmphdeaaeaa
open Go.RowKit
set_option linter.unusedVariables false

/-- What the message of a frame says of it. -/
def vB (f : Fr) : Bool := if f.k = 1 then nameB f.s.data.toList else if f.k = 3 then true else if f.k = 5 then inI f.st 0 2 else okB f.s.data.toList
theorem frB_split (f : Fr) (h : isK f = true) : frB f = (vB f && frEqB (outF f) f) := by
  obtain ⟨k, s, st⟩ := f
  have e0 : ∀ s : ByteArray, ((⟨#[]⟩ : ByteArray).toList == s.toList) = (s.data.toList == []) := fun s => by
    obtain ⟨⟨l⟩⟩ := s
    rw [ByteArray.toList_mk, ByteArray.toList_mk]
    cases l <;> rfl
  have e1 : ∀ x : Int, ((0 : Int) == x) = (x == 0) := fun x => by rw [Bool.eq_iff_iff]; simp; omega
  have hk : k = 1 ∨ k = 2 ∨ k = 3 ∨ k = 4 ∨ k = 5 ∨ k = 6 := by have := of_decide_eq_true h; simp at this; omega
  rcases hk with rfl | rfl | rfl | rfl | rfl | rfl
  · show _ = (nameB s.data.toList && frEqB ⟨1, s, 0⟩ ⟨1, s, st⟩)
    rw [frB_1]; simp [frEqB, e1]
  · show _ = (okB s.data.toList && frEqB ⟨2, s, 0⟩ ⟨2, s, st⟩)
    rw [frB_2]; simp [frEqB, e1]
  · show _ = (true && frEqB ⟨3, ⟨#[]⟩, 0⟩ ⟨3, s, st⟩)
    rw [frB_3]
    show _ = (true && ((3 : Int) == 3 && (((⟨#[]⟩ : ByteArray).toList == s.toList) && ((0 : Int) == st))))
    rw [e0, e1]; rfl
  · show _ = (okB s.data.toList && frEqB ⟨4, s, 0⟩ ⟨4, s, st⟩)
    rw [frB_4]; simp [frEqB, e1]
  · show _ = (inI st 0 2 && frEqB ⟨5, ⟨#[]⟩, st⟩ ⟨5, s, st⟩)
    rw [frB_5]
    show _ = (inI st 0 2 && ((5 : Int) == 5 && (((⟨#[]⟩ : ByteArray).toList == s.toList) && (st == st))))
    have e3 : (st == st) = true := by simp
    rw [e0, e3]
    generalize (s.data.toList == []) = x
    generalize inI st 0 2 = y
    cases x <;> cases y <;> rfl
  · show _ = (okB s.data.toList && frEqB ⟨6, s, 0⟩ ⟨6, s, st⟩)
    rw [frB_6]; simp [frEqB, e1]

theorem valid_1 {s : ByteArray} {b : Bool} (hb : nameB s.data.toList = b) (hs : s.size ≤ 1048576) (w : World) : Calls Try.prog 131 #[.string s] w (RetBool w b) := by
  unfold RetBool
  go_enter Try.func131, Try.ntmps131
  go_wp2_with (go_at_call 132; refine (nameOk_b hb _ hs).mono ?_; rintro e w' ⟨rfl, hb2⟩)
  go_ret
  exact ⟨rfl, hb2⟩

theorem valid_2 {s : ByteArray} {b : Bool} (hb : okB s.data.toList = b) (hs : s.size ≤ 1048576) (w : World) : Calls Try.prog 134 #[.string s] w (RetBool w b) := by
  have HB := Lib.hid hb
  clear hb
  unfold RetBool
  go_enter Try.func134, Try.ntmps134
  go_wp2_with (go_at_call 98; refine (textOk_any s _ (by omega)).mono ?_; rw [HB.out]; rintro e w' ⟨rfl, rfl⟩)
  go_ret
  exact ⟨rfl, Later.refl w⟩

theorem valid_3 (w : World) : Calls Try.prog 127 #[.agg #[]] w (RetBool w true) := by
  unfold RetBool
  go_enter Try.func127, Try.ntmps127
  go_wp2_with fail
  go_ret
  exact ⟨rfl, Later.alloc w _⟩

theorem valid_4 {s : ByteArray} {b : Bool} (hb : okB s.data.toList = b) (hs : s.size ≤ 1048576) (w : World) : Calls Try.prog 136 #[.string s] w (RetBool w b) := by
  have HB := Lib.hid hb
  clear hb
  unfold RetBool
  go_enter Try.func136, Try.ntmps136
  go_wp2_with (go_at_call 98; refine (textOk_any s _ (by omega)).mono ?_; rw [HB.out]; rintro e w' ⟨rfl, rfl⟩)
  go_ret
  exact ⟨rfl, Later.refl w⟩

theorem valid_5 {st : Int} {b : Bool} (hb : inI st 0 2 = b) (w : World) : Calls Try.prog 129 #[.int .i64 st] w (RetBool w b) := by
  unfold RetBool
  go_enter Try.func129, Try.ntmps129
  go_wp2_with (go_at_call 73; refine (within_b hb _).mono ?_; rintro e w' ⟨rfl, rfl⟩)
  go_ret
  exact ⟨rfl, Later.refl w⟩

theorem valid_6 {s : ByteArray} {b : Bool} (hb : okB s.data.toList = b) (hs : s.size ≤ 1048576) (w : World) : Calls Try.prog 138 #[.string s] w (RetBool w b) := by
  have HB := Lib.hid hb
  clear hb
  unfold RetBool
  go_enter Try.func138, Try.ntmps138
  go_wp2_with (go_at_call 98; refine (textOk_any s _ (by omega)).mono ?_; rw [HB.out]; rintro e w' ⟨rfl, rfl⟩)
  go_ret
  exact ⟨rfl, Later.refl w⟩

def RetMsg (w : World) (f : Fr) (b : Bool) (e : Ending) (w' : World) : Prop := e = .returned (.tuple #[msgV f, .bool b]) ∧ Below w.heap.size w w'

set_option maxRecDepth 100000 in
set_option maxHeartbeats 8000000 in
theorem validMessage_1 (s : ByteArray) (st : Int) (w : World) (hs : s.size ≤ 1048576) : Calls Try.prog 75 #[.agg (frC ⟨1, s, st⟩).toArray] w (RetMsg w ⟨1, s, st⟩ (frB ⟨1, s, st⟩)) := by
  obtain ⟨b, hb⟩ : ∃ b, frB ⟨1, s, st⟩ = b := ⟨_, rfl⟩
  rw [hb]
  have HB := Lib.hid hb
  clear hb
  unfold RetMsg
  have hm : msgV ⟨1, s, st⟩ = .iface 125 (.string s) := rfl
  have hi : isK ⟨1, s, st⟩ = true := rfl
  rw [hm]
  have HM := Lib.hid hm
  have HI := Lib.hid hi
  clear hm hi
  obtain ⟨v, hv⟩ : ∃ v, vB ⟨1, s, st⟩ = v := ⟨_, rfl⟩
  have HV := Lib.hid hv
  clear hv
  unfold frC
  go_enter Try.func75, Try.ntmps75
  have S : All (fun w' => Below w.heap.size w w' ∧ w'.heap[w.heap.size]? = some (.cells (frC ⟨1, s, st⟩).toArray 33 (0, 0))) (w.alloc (.cells #[.int .i64 1, .string s, .int .i64 st] 33)) := ⟨Later.alloc w _, heap_alloc_new w _⟩
  go_wp2_with fail
  generalize w.alloc (.cells #[.int .i64 1, .string s, .int .i64 st] 33) = W at S ⊢
  refine (messageOf_any ⟨1, s, st⟩ W).mono ?_
  rw [HM.out, HI.out]
  rintro e W1 ⟨rfl, hb⟩
  replace S := S.later hb
  clear hb
  go_upto_region 2 with (fail)
  cases v
  · obtain rfl : b = false := by rw [← HB.out, frB_split _ HI.out, HV.out]; rfl
    refine wp_region_open 100 (fun w' => w'.heap[w.heap.size]? = some (.cells (frC ⟨1, s, st⟩).toArray 33 (0, 0))) (by kernel_rfl) ?_
    replace S := S.drew
    refine wpAnyL_readsG [0, 1, 2, 3] (fuel := 10) (by kernel_rfl) S.out.2 ?_
    refine LexRG.yes rfl (by first | rfl | (simp [Region.wanted, yielded]; done)) ?_ (fun w' hw => ?_) ?_
    rotate_left
    focus (clear hw; go_simp; (try exact rfl))
    try go_frame
    refine LexRG.yes rfl (by first | rfl | (simp [Region.wanted, yielded]; done)) ?_ (fun w' hw => ?_) ?_
    rotate_left
    focus (clear hw; go_simp; (try exact rfl))
    try go_frame
    refine LexRG.yes rfl (by first | rfl | (simp [Region.wanted, yielded]; done)) ?_ (fun w' hw => ?_) ?_
    rotate_left
    focus (clear hw; go_simp; (try exact rfl))
    try go_frame
    refine LexRG.yes rfl (by first | rfl | (simp [Region.wanted, yielded]; done)) ?_ (fun w' hw => ?_) ?_
    rotate_left
    focus (clear hw; go_simp; (try exact rfl))
    try go_frame
    refine LexRG.nil ?_
    refine wpAnyL_one (i := 4) (by kernel_rfl) ?_
    refine lexA_get rfl ?_
    try go_frame
    go_wp2_with fail
    refine ((valid_1 (show nameB s.data.toList = false from HV.out) hs W1.drew)).mono ?_
    rintro e V1 ⟨rfl, hb⟩
    replace S := S.later hb
    clear hb
    go_wp2_with fail
    refine ⟨fun _ => S.out.2, ?_⟩
    refine wpAnyL_readsG [5, 6, 7, 9] (fuel := 5) (by kernel_rfl) S.out.2 ?_
    refine LexRG.yes rfl (by first | rfl | (simp [Region.wanted, yielded]; done)) ?_ (fun w' hw => ?_) ?_
    rotate_left
    focus (clear hw; go_simp; (try exact rfl))
    try go_frame
    refine LexRG.yes rfl (by first | rfl | (simp [Region.wanted, yielded]; done)) ?_ (fun w' hw => ?_) ?_
    rotate_left
    focus (clear hw; go_simp; (try exact rfl))
    try go_frame
    refine LexRG.no rfl (by first | rfl | (simp [Region.wanted, yielded]; done)) ?_
    try go_frame
    refine LexRG.no rfl (by first | rfl | (simp [Region.wanted, yielded]; done)) ?_
    try go_frame
    refine LexRG.nil ?_
    refine wpAnyL_one (i := 8) (by kernel_rfl) ?_
    refine lexA_get rfl ?_
    try go_frame
    go_wp2_with fail
    refine ⟨fun _ => S.out.2, ?_⟩
    refine wpAnyL_readsG [10, 11, 12] (fuel := 1) (by kernel_rfl) S.out.2 ?_
    refine LexRG.no rfl (by first | rfl | (simp [Region.wanted, yielded]; done)) ?_
    try go_frame
    refine LexRG.yes rfl (by first | rfl | (simp [Region.wanted, yielded]; done)) ?_ (fun w' hw => ?_) ?_
    rotate_left
    focus (clear hw; go_simp; (try exact rfl))
    try go_frame
    refine LexRG.yes rfl (by first | rfl | (simp [Region.wanted, yielded]; done)) ?_ (fun w' hw => ?_) ?_
    rotate_left
    focus (clear hw; go_simp; (try exact rfl))
    try go_frame
    refine LexRG.nil ?_
    refine wpAnyL_writes [13] (by kernel_rfl) (LexW.cons rfl ?_)
    try go_frame
    go_wp2_with fail
    refine ⟨fun _ => S.out.2, LexW.nil ?_⟩
    have hfin := S.out.1
    go_wp2_with fail
    go_ret2
    exact ⟨rfl, hfin⟩
  · have HQ := Lib.hid (show frEqB (outF ⟨1, s, st⟩) ⟨1, s, st⟩ = b by rw [← HB.out, frB_split _ HI.out, HV.out]; rfl)
    have G1 := fun a b w => fr_guard .eql a b (outF ⟨1, s, st⟩) ⟨1, s, st⟩ w
    have G2 := fun w => fr_equal (outF ⟨1, s, st⟩) ⟨1, s, st⟩ w
    rw [HQ.out] at G2
    have hout : (frC (outF ⟨1, s, st⟩)).toArray = #[.int .i64 1, .string s, .int .i64 0] := rfl
    rw [hout] at G1 G2
    replace G1 := fun a b w => G1 a b w
    have HO := Lib.hid hout
    clear hout
    unfold frC at G1 G2
    refine wp_region_open 100 (fun w' => w'.heap[w.heap.size]? = some (.cells (frC ⟨1, s, st⟩).toArray 33 (0, 0))) (by kernel_rfl) ?_
    replace S := S.drew
    refine wpAnyL_readsG [0, 1, 2, 3] (fuel := 10) (by kernel_rfl) S.out.2 ?_
    refine LexRG.yes rfl (by first | rfl | (simp [Region.wanted, yielded]; done)) ?_ (fun w' hw => ?_) ?_
    rotate_left
    focus (clear hw; go_simp; (try exact rfl))
    try go_frame
    refine LexRG.yes rfl (by first | rfl | (simp [Region.wanted, yielded]; done)) ?_ (fun w' hw => ?_) ?_
    rotate_left
    focus (clear hw; go_simp; (try exact rfl))
    try go_frame
    refine LexRG.yes rfl (by first | rfl | (simp [Region.wanted, yielded]; done)) ?_ (fun w' hw => ?_) ?_
    rotate_left
    focus (clear hw; go_simp; (try exact rfl))
    try go_frame
    refine LexRG.yes rfl (by first | rfl | (simp [Region.wanted, yielded]; done)) ?_ (fun w' hw => ?_) ?_
    rotate_left
    focus (clear hw; go_simp; (try exact rfl))
    try go_frame
    refine LexRG.nil ?_
    refine wpAnyL_one (i := 4) (by kernel_rfl) ?_
    refine lexA_get rfl ?_
    try go_frame
    go_wp2_with fail
    refine ((valid_1 (show nameB s.data.toList = true from HV.out) hs W1.drew)).mono ?_
    rintro e V1 ⟨rfl, hb⟩
    replace S := S.later hb
    clear hb
    go_wp2_with fail
    refine ⟨fun _ => S.out.2, ?_⟩
    refine wpAnyL_readsG [5, 6, 7, 9] (fuel := 5) (by kernel_rfl) S.out.2 ?_
    refine LexRG.yes rfl (by first | rfl | (simp [Region.wanted, yielded]; done)) ?_ (fun w' hw => ?_) ?_
    rotate_left
    focus (clear hw; go_simp; (try exact rfl))
    try go_frame
    refine LexRG.yes rfl (by first | rfl | (simp [Region.wanted, yielded]; done)) ?_ (fun w' hw => ?_) ?_
    rotate_left
    focus (clear hw; go_simp; (try exact rfl))
    try go_frame
    refine LexRG.yes rfl (by first | rfl | (simp [Region.wanted, yielded]; done)) ?_ (fun w' hw => ?_) ?_
    rotate_left
    focus (clear hw; go_simp; (try exact rfl))
    try go_frame
    refine LexRG.yes rfl (by first | rfl | (simp [Region.wanted, yielded]; done)) ?_ (fun w' hw => ?_) ?_
    rotate_left
    focus (obtain ⟨d0, d1, d2⟩ := fr_box (r := ⟨1, s, st⟩) hw; clear hw; go_simp; (try exact rfl))
    try go_frame
    refine LexRG.nil ?_
    refine wpAnyL_one (i := 8) (by kernel_rfl) ?_
    refine lexA_get rfl ?_
    try go_frame
    go_wp2_with fail
    refine (frameOf_any ⟨1, s, st⟩ V1).mono ?_
    rw [HO.out]
    rintro e V2 ⟨rfl, hb⟩
    replace S := S.later hb
    clear hb
    go_wp2_with fail
    refine ⟨fun _ => S.out.2, ?_⟩
    refine wpAnyL_readsG [10, 11, 12] (fuel := 1) (by kernel_rfl) S.out.2 ?_
    refine LexRG.yes rfl (by first | rfl | (simp [Region.wanted, yielded]; done)) ?_ (fun w' hw => ?_) ?_
    rotate_left
    focus (clear hw; go_simp; (try exact rfl))
    try go_frame
    refine LexRG.yes rfl (by first | rfl | (simp [Region.wanted, yielded]; done)) ?_ (fun w' hw => ?_) ?_
    rotate_left
    focus (clear hw; go_simp; (try exact rfl))
    try go_frame
    refine LexRG.yes rfl (by first | rfl | (simp [Region.wanted, yielded]; done)) ?_ (fun w' hw => ?_) ?_
    rotate_left
    focus (clear hw; go_simp; (try exact rfl))
    try go_frame
    refine LexRG.nil ?_
    refine wpAnyL_writes [13] (by kernel_rfl) (LexW.cons rfl ?_)
    try go_frame
    go_wp2_with fail
    refine ⟨fun _ => S.out.2, LexW.nil ?_⟩
    have hfin := S.out.1
    go_wp2_with fail
    go_ret2
    exact ⟨rfl, hfin⟩

set_option maxRecDepth 100000 in
set_option maxHeartbeats 8000000 in
theorem validMessage_2 (s : ByteArray) (st : Int) (w : World) (hs : s.size ≤ 1048576) : Calls Try.prog 75 #[.agg (frC ⟨2, s, st⟩).toArray] w (RetMsg w ⟨2, s, st⟩ (frB ⟨2, s, st⟩)) := by
  obtain ⟨b, hb⟩ : ∃ b, frB ⟨2, s, st⟩ = b := ⟨_, rfl⟩
  rw [hb]
  have HB := Lib.hid hb
  clear hb
  unfold RetMsg
  have hm : msgV ⟨2, s, st⟩ = .iface 126 (.string s) := rfl
  have hi : isK ⟨2, s, st⟩ = true := rfl
  rw [hm]
  have HM := Lib.hid hm
  have HI := Lib.hid hi
  clear hm hi
  obtain ⟨v, hv⟩ : ∃ v, vB ⟨2, s, st⟩ = v := ⟨_, rfl⟩
  have HV := Lib.hid hv
  clear hv
  unfold frC
  go_enter Try.func75, Try.ntmps75
  have S : All (fun w' => Below w.heap.size w w' ∧ w'.heap[w.heap.size]? = some (.cells (frC ⟨2, s, st⟩).toArray 33 (0, 0))) (w.alloc (.cells #[.int .i64 2, .string s, .int .i64 st] 33)) := ⟨Later.alloc w _, heap_alloc_new w _⟩
  go_wp2_with fail
  generalize w.alloc (.cells #[.int .i64 2, .string s, .int .i64 st] 33) = W at S ⊢
  refine (messageOf_any ⟨2, s, st⟩ W).mono ?_
  rw [HM.out, HI.out]
  rintro e W1 ⟨rfl, hb⟩
  replace S := S.later hb
  clear hb
  go_upto_region 2 with (fail)
  cases v
  · obtain rfl : b = false := by rw [← HB.out, frB_split _ HI.out, HV.out]; rfl
    refine wp_region_open 100 (fun w' => w'.heap[w.heap.size]? = some (.cells (frC ⟨2, s, st⟩).toArray 33 (0, 0))) (by kernel_rfl) ?_
    replace S := S.drew
    refine wpAnyL_readsG [0, 1, 2, 3] (fuel := 10) (by kernel_rfl) S.out.2 ?_
    refine LexRG.yes rfl (by first | rfl | (simp [Region.wanted, yielded]; done)) ?_ (fun w' hw => ?_) ?_
    rotate_left
    focus (clear hw; go_simp; (try exact rfl))
    try go_frame
    refine LexRG.yes rfl (by first | rfl | (simp [Region.wanted, yielded]; done)) ?_ (fun w' hw => ?_) ?_
    rotate_left
    focus (clear hw; go_simp; (try exact rfl))
    try go_frame
    refine LexRG.yes rfl (by first | rfl | (simp [Region.wanted, yielded]; done)) ?_ (fun w' hw => ?_) ?_
    rotate_left
    focus (clear hw; go_simp; (try exact rfl))
    try go_frame
    refine LexRG.yes rfl (by first | rfl | (simp [Region.wanted, yielded]; done)) ?_ (fun w' hw => ?_) ?_
    rotate_left
    focus (clear hw; go_simp; (try exact rfl))
    try go_frame
    refine LexRG.nil ?_
    refine wpAnyL_one (i := 4) (by kernel_rfl) ?_
    refine lexA_get rfl ?_
    try go_frame
    go_wp2_with fail
    refine ((valid_2 (show okB s.data.toList = false from HV.out) hs W1.drew)).mono ?_
    rintro e V1 ⟨rfl, hb⟩
    replace S := S.later hb
    clear hb
    go_wp2_with fail
    refine ⟨fun _ => S.out.2, ?_⟩
    refine wpAnyL_readsG [5, 6, 7, 9] (fuel := 5) (by kernel_rfl) S.out.2 ?_
    refine LexRG.yes rfl (by first | rfl | (simp [Region.wanted, yielded]; done)) ?_ (fun w' hw => ?_) ?_
    rotate_left
    focus (clear hw; go_simp; (try exact rfl))
    try go_frame
    refine LexRG.yes rfl (by first | rfl | (simp [Region.wanted, yielded]; done)) ?_ (fun w' hw => ?_) ?_
    rotate_left
    focus (clear hw; go_simp; (try exact rfl))
    try go_frame
    refine LexRG.no rfl (by first | rfl | (simp [Region.wanted, yielded]; done)) ?_
    try go_frame
    refine LexRG.no rfl (by first | rfl | (simp [Region.wanted, yielded]; done)) ?_
    try go_frame
    refine LexRG.nil ?_
    refine wpAnyL_one (i := 8) (by kernel_rfl) ?_
    refine lexA_get rfl ?_
    try go_frame
    go_wp2_with fail
    refine ⟨fun _ => S.out.2, ?_⟩
    refine wpAnyL_readsG [10, 11, 12] (fuel := 1) (by kernel_rfl) S.out.2 ?_
    refine LexRG.no rfl (by first | rfl | (simp [Region.wanted, yielded]; done)) ?_
    try go_frame
    refine LexRG.yes rfl (by first | rfl | (simp [Region.wanted, yielded]; done)) ?_ (fun w' hw => ?_) ?_
    rotate_left
    focus (clear hw; go_simp; (try exact rfl))
    try go_frame
    refine LexRG.yes rfl (by first | rfl | (simp [Region.wanted, yielded]; done)) ?_ (fun w' hw => ?_) ?_
    rotate_left
    focus (clear hw; go_simp; (try exact rfl))
    try go_frame
    refine LexRG.nil ?_
    refine wpAnyL_writes [13] (by kernel_rfl) (LexW.cons rfl ?_)
    try go_frame
    go_wp2_with fail
    refine ⟨fun _ => S.out.2, LexW.nil ?_⟩
    have hfin := S.out.1
    go_wp2_with fail
    go_ret2
    exact ⟨rfl, hfin⟩
  · have HQ := Lib.hid (show frEqB (outF ⟨2, s, st⟩) ⟨2, s, st⟩ = b by rw [← HB.out, frB_split _ HI.out, HV.out]; rfl)
    have G1 := fun a b w => fr_guard .eql a b (outF ⟨2, s, st⟩) ⟨2, s, st⟩ w
    have G2 := fun w => fr_equal (outF ⟨2, s, st⟩) ⟨2, s, st⟩ w
    rw [HQ.out] at G2
    have hout : (frC (outF ⟨2, s, st⟩)).toArray = #[.int .i64 2, .string s, .int .i64 0] := rfl
    rw [hout] at G1 G2
    replace G1 := fun a b w => G1 a b w
    have HO := Lib.hid hout
    clear hout
    unfold frC at G1 G2
    refine wp_region_open 100 (fun w' => w'.heap[w.heap.size]? = some (.cells (frC ⟨2, s, st⟩).toArray 33 (0, 0))) (by kernel_rfl) ?_
    replace S := S.drew
    refine wpAnyL_readsG [0, 1, 2, 3] (fuel := 10) (by kernel_rfl) S.out.2 ?_
    refine LexRG.yes rfl (by first | rfl | (simp [Region.wanted, yielded]; done)) ?_ (fun w' hw => ?_) ?_
    rotate_left
    focus (clear hw; go_simp; (try exact rfl))
    try go_frame
    refine LexRG.yes rfl (by first | rfl | (simp [Region.wanted, yielded]; done)) ?_ (fun w' hw => ?_) ?_
    rotate_left
    focus (clear hw; go_simp; (try exact rfl))
    try go_frame
    refine LexRG.yes rfl (by first | rfl | (simp [Region.wanted, yielded]; done)) ?_ (fun w' hw => ?_) ?_
    rotate_left
    focus (clear hw; go_simp; (try exact rfl))
    try go_frame
    refine LexRG.yes rfl (by first | rfl | (simp [Region.wanted, yielded]; done)) ?_ (fun w' hw => ?_) ?_
    rotate_left
    focus (clear hw; go_simp; (try exact rfl))
    try go_frame
    refine LexRG.nil ?_
    refine wpAnyL_one (i := 4) (by kernel_rfl) ?_
    refine lexA_get rfl ?_
    try go_frame
    go_wp2_with fail
    refine ((valid_2 (show okB s.data.toList = true from HV.out) hs W1.drew)).mono ?_
    rintro e V1 ⟨rfl, hb⟩
    replace S := S.later hb
    clear hb
    go_wp2_with fail
    refine ⟨fun _ => S.out.2, ?_⟩
    refine wpAnyL_readsG [5, 6, 7, 9] (fuel := 5) (by kernel_rfl) S.out.2 ?_
    refine LexRG.yes rfl (by first | rfl | (simp [Region.wanted, yielded]; done)) ?_ (fun w' hw => ?_) ?_
    rotate_left
    focus (clear hw; go_simp; (try exact rfl))
    try go_frame
    refine LexRG.yes rfl (by first | rfl | (simp [Region.wanted, yielded]; done)) ?_ (fun w' hw => ?_) ?_
    rotate_left
    focus (clear hw; go_simp; (try exact rfl))
    try go_frame
    refine LexRG.yes rfl (by first | rfl | (simp [Region.wanted, yielded]; done)) ?_ (fun w' hw => ?_) ?_
    rotate_left
    focus (clear hw; go_simp; (try exact rfl))
    try go_frame
    refine LexRG.yes rfl (by first | rfl | (simp [Region.wanted, yielded]; done)) ?_ (fun w' hw => ?_) ?_
    rotate_left
    focus (obtain ⟨d0, d1, d2⟩ := fr_box (r := ⟨2, s, st⟩) hw; clear hw; go_simp; (try exact rfl))
    try go_frame
    refine LexRG.nil ?_
    refine wpAnyL_one (i := 8) (by kernel_rfl) ?_
    refine lexA_get rfl ?_
    try go_frame
    go_wp2_with fail
    refine (frameOf_any ⟨2, s, st⟩ V1).mono ?_
    rw [HO.out]
    rintro e V2 ⟨rfl, hb⟩
    replace S := S.later hb
    clear hb
    go_wp2_with fail
    refine ⟨fun _ => S.out.2, ?_⟩
    refine wpAnyL_readsG [10, 11, 12] (fuel := 1) (by kernel_rfl) S.out.2 ?_
    refine LexRG.yes rfl (by first | rfl | (simp [Region.wanted, yielded]; done)) ?_ (fun w' hw => ?_) ?_
    rotate_left
    focus (clear hw; go_simp; (try exact rfl))
    try go_frame
    refine LexRG.yes rfl (by first | rfl | (simp [Region.wanted, yielded]; done)) ?_ (fun w' hw => ?_) ?_
    rotate_left
    focus (clear hw; go_simp; (try exact rfl))
    try go_frame
    refine LexRG.yes rfl (by first | rfl | (simp [Region.wanted, yielded]; done)) ?_ (fun w' hw => ?_) ?_
    rotate_left
    focus (clear hw; go_simp; (try exact rfl))
    try go_frame
    refine LexRG.nil ?_
    refine wpAnyL_writes [13] (by kernel_rfl) (LexW.cons rfl ?_)
    try go_frame
    go_wp2_with fail
    refine ⟨fun _ => S.out.2, LexW.nil ?_⟩
    have hfin := S.out.1
    go_wp2_with fail
    go_ret2
    exact ⟨rfl, hfin⟩

set_option maxRecDepth 100000 in
set_option maxHeartbeats 8000000 in
theorem validMessage_3 (s : ByteArray) (st : Int) (w : World) (hs : s.size ≤ 1048576) : Calls Try.prog 75 #[.agg (frC ⟨3, s, st⟩).toArray] w (RetMsg w ⟨3, s, st⟩ (frB ⟨3, s, st⟩)) := by
  obtain ⟨b, hb⟩ : ∃ b, frB ⟨3, s, st⟩ = b := ⟨_, rfl⟩
  rw [hb]
  have HB := Lib.hid hb
  clear hb
  unfold RetMsg
  have hm : msgV ⟨3, s, st⟩ = .iface 98 (.agg #[]) := rfl
  have hi : isK ⟨3, s, st⟩ = true := rfl
  rw [hm]
  have HM := Lib.hid hm
  have HI := Lib.hid hi
  clear hm hi
  unfold frC
  go_enter Try.func75, Try.ntmps75
  have S : All (fun w' => Below w.heap.size w w' ∧ w'.heap[w.heap.size]? = some (.cells (frC ⟨3, s, st⟩).toArray 33 (0, 0))) (w.alloc (.cells #[.int .i64 3, .string s, .int .i64 st] 33)) := ⟨Later.alloc w _, heap_alloc_new w _⟩
  go_wp2_with fail
  generalize w.alloc (.cells #[.int .i64 3, .string s, .int .i64 st] 33) = W at S ⊢
  refine (messageOf_any ⟨3, s, st⟩ W).mono ?_
  rw [HM.out, HI.out]
  rintro e W1 ⟨rfl, hb⟩
  replace S := S.later hb
  clear hb
  go_upto_region 2 with (fail)
  have HQ := Lib.hid (show frEqB (outF ⟨3, s, st⟩) ⟨3, s, st⟩ = b by rw [← HB.out, frB_split _ HI.out]; rfl)
  have G1 := fun a b w => fr_guard .eql a b (outF ⟨3, s, st⟩) ⟨3, s, st⟩ w
  have G2 := fun w => fr_equal (outF ⟨3, s, st⟩) ⟨3, s, st⟩ w
  rw [HQ.out] at G2
  have hout : (frC (outF ⟨3, s, st⟩)).toArray = #[.int .i64 3, .string ⟨#[]⟩, .int .i64 0] := rfl
  rw [hout] at G1 G2
  replace G1 := fun a b w => G1 a b w
  have HO := Lib.hid hout
  clear hout
  unfold frC at G1 G2
  refine wp_region_open 100 (fun w' => w'.heap[w.heap.size]? = some (.cells (frC ⟨3, s, st⟩).toArray 33 (0, 0))) (by kernel_rfl) ?_
  replace S := S.drew
  refine wpAnyL_readsG [0, 1, 2, 3] (fuel := 10) (by kernel_rfl) S.out.2 ?_
  refine LexRG.yes rfl (by first | rfl | (simp [Region.wanted, yielded]; done)) ?_ (fun w' hw => ?_) ?_
  rotate_left
  focus (clear hw; go_simp; (try exact rfl))
  try go_frame
  refine LexRG.yes rfl (by first | rfl | (simp [Region.wanted, yielded]; done)) ?_ (fun w' hw => ?_) ?_
  rotate_left
  focus (clear hw; go_simp; (try exact rfl))
  try go_frame
  refine LexRG.yes rfl (by first | rfl | (simp [Region.wanted, yielded]; done)) ?_ (fun w' hw => ?_) ?_
  rotate_left
  focus (clear hw; go_simp; (try exact rfl))
  try go_frame
  refine LexRG.yes rfl (by first | rfl | (simp [Region.wanted, yielded]; done)) ?_ (fun w' hw => ?_) ?_
  rotate_left
  focus (clear hw; go_simp; (try exact rfl))
  try go_frame
  refine LexRG.nil ?_
  refine wpAnyL_one (i := 4) (by kernel_rfl) ?_
  refine lexA_get rfl ?_
  try go_frame
  go_wp2_with fail
  refine (valid_3 W1.drew).mono ?_
  rintro e V1 ⟨rfl, hb⟩
  replace S := S.later hb
  clear hb
  go_wp2_with fail
  refine ⟨fun _ => S.out.2, ?_⟩
  refine wpAnyL_readsG [5, 6, 7, 9] (fuel := 5) (by kernel_rfl) S.out.2 ?_
  refine LexRG.yes rfl (by first | rfl | (simp [Region.wanted, yielded]; done)) ?_ (fun w' hw => ?_) ?_
  rotate_left
  focus (clear hw; go_simp; (try exact rfl))
  try go_frame
  refine LexRG.yes rfl (by first | rfl | (simp [Region.wanted, yielded]; done)) ?_ (fun w' hw => ?_) ?_
  rotate_left
  focus (clear hw; go_simp; (try exact rfl))
  try go_frame
  refine LexRG.yes rfl (by first | rfl | (simp [Region.wanted, yielded]; done)) ?_ (fun w' hw => ?_) ?_
  rotate_left
  focus (clear hw; go_simp; (try exact rfl))
  try go_frame
  refine LexRG.yes rfl (by first | rfl | (simp [Region.wanted, yielded]; done)) ?_ (fun w' hw => ?_) ?_
  rotate_left
  focus (obtain ⟨d0, d1, d2⟩ := fr_box (r := ⟨3, s, st⟩) hw; clear hw; go_simp; (try exact rfl))
  try go_frame
  refine LexRG.nil ?_
  refine wpAnyL_one (i := 8) (by kernel_rfl) ?_
  refine lexA_get rfl ?_
  try go_frame
  go_wp2_with fail
  refine (frameOf_any ⟨3, s, st⟩ V1).mono ?_
  rw [HO.out]
  rintro e V2 ⟨rfl, hb⟩
  replace S := S.later hb
  clear hb
  go_wp2_with fail
  refine ⟨fun _ => S.out.2, ?_⟩
  refine wpAnyL_readsG [10, 11, 12] (fuel := 1) (by kernel_rfl) S.out.2 ?_
  refine LexRG.yes rfl (by first | rfl | (simp [Region.wanted, yielded]; done)) ?_ (fun w' hw => ?_) ?_
  rotate_left
  focus (clear hw; go_simp; (try exact rfl))
  try go_frame
  refine LexRG.yes rfl (by first | rfl | (simp [Region.wanted, yielded]; done)) ?_ (fun w' hw => ?_) ?_
  rotate_left
  focus (clear hw; go_simp; (try exact rfl))
  try go_frame
  refine LexRG.yes rfl (by first | rfl | (simp [Region.wanted, yielded]; done)) ?_ (fun w' hw => ?_) ?_
  rotate_left
  focus (clear hw; go_simp; (try exact rfl))
  try go_frame
  refine LexRG.nil ?_
  refine wpAnyL_writes [13] (by kernel_rfl) (LexW.cons rfl ?_)
  try go_frame
  go_wp2_with fail
  refine ⟨fun _ => S.out.2, LexW.nil ?_⟩
  have hfin := S.out.1
  go_wp2_with fail
  go_ret2
  exact ⟨rfl, hfin⟩

set_option maxRecDepth 100000 in
set_option maxHeartbeats 8000000 in
theorem validMessage_4 (s : ByteArray) (st : Int) (w : World) (hs : s.size ≤ 1048576) : Calls Try.prog 75 #[.agg (frC ⟨4, s, st⟩).toArray] w (RetMsg w ⟨4, s, st⟩ (frB ⟨4, s, st⟩)) := by
  obtain ⟨b, hb⟩ : ∃ b, frB ⟨4, s, st⟩ = b := ⟨_, rfl⟩
  rw [hb]
  have HB := Lib.hid hb
  clear hb
  unfold RetMsg
  have hm : msgV ⟨4, s, st⟩ = .iface 127 (.string s) := rfl
  have hi : isK ⟨4, s, st⟩ = true := rfl
  rw [hm]
  have HM := Lib.hid hm
  have HI := Lib.hid hi
  clear hm hi
  obtain ⟨v, hv⟩ : ∃ v, vB ⟨4, s, st⟩ = v := ⟨_, rfl⟩
  have HV := Lib.hid hv
  clear hv
  unfold frC
  go_enter Try.func75, Try.ntmps75
  have S : All (fun w' => Below w.heap.size w w' ∧ w'.heap[w.heap.size]? = some (.cells (frC ⟨4, s, st⟩).toArray 33 (0, 0))) (w.alloc (.cells #[.int .i64 4, .string s, .int .i64 st] 33)) := ⟨Later.alloc w _, heap_alloc_new w _⟩
  go_wp2_with fail
  generalize w.alloc (.cells #[.int .i64 4, .string s, .int .i64 st] 33) = W at S ⊢
  refine (messageOf_any ⟨4, s, st⟩ W).mono ?_
  rw [HM.out, HI.out]
  rintro e W1 ⟨rfl, hb⟩
  replace S := S.later hb
  clear hb
  go_upto_region 2 with (fail)
  cases v
  · obtain rfl : b = false := by rw [← HB.out, frB_split _ HI.out, HV.out]; rfl
    refine wp_region_open 100 (fun w' => w'.heap[w.heap.size]? = some (.cells (frC ⟨4, s, st⟩).toArray 33 (0, 0))) (by kernel_rfl) ?_
    replace S := S.drew
    refine wpAnyL_readsG [0, 1, 2, 3] (fuel := 10) (by kernel_rfl) S.out.2 ?_
    refine LexRG.yes rfl (by first | rfl | (simp [Region.wanted, yielded]; done)) ?_ (fun w' hw => ?_) ?_
    rotate_left
    focus (clear hw; go_simp; (try exact rfl))
    try go_frame
    refine LexRG.yes rfl (by first | rfl | (simp [Region.wanted, yielded]; done)) ?_ (fun w' hw => ?_) ?_
    rotate_left
    focus (clear hw; go_simp; (try exact rfl))
    try go_frame
    refine LexRG.yes rfl (by first | rfl | (simp [Region.wanted, yielded]; done)) ?_ (fun w' hw => ?_) ?_
    rotate_left
    focus (clear hw; go_simp; (try exact rfl))
    try go_frame
    refine LexRG.yes rfl (by first | rfl | (simp [Region.wanted, yielded]; done)) ?_ (fun w' hw => ?_) ?_
    rotate_left
    focus (clear hw; go_simp; (try exact rfl))
    try go_frame
    refine LexRG.nil ?_
    refine wpAnyL_one (i := 4) (by kernel_rfl) ?_
    refine lexA_get rfl ?_
    try go_frame
    go_wp2_with fail
    refine ((valid_4 (show okB s.data.toList = false from HV.out) hs W1.drew)).mono ?_
    rintro e V1 ⟨rfl, hb⟩
    replace S := S.later hb
    clear hb
    go_wp2_with fail
    refine ⟨fun _ => S.out.2, ?_⟩
    refine wpAnyL_readsG [5, 6, 7, 9] (fuel := 5) (by kernel_rfl) S.out.2 ?_
    refine LexRG.yes rfl (by first | rfl | (simp [Region.wanted, yielded]; done)) ?_ (fun w' hw => ?_) ?_
    rotate_left
    focus (clear hw; go_simp; (try exact rfl))
    try go_frame
    refine LexRG.yes rfl (by first | rfl | (simp [Region.wanted, yielded]; done)) ?_ (fun w' hw => ?_) ?_
    rotate_left
    focus (clear hw; go_simp; (try exact rfl))
    try go_frame
    refine LexRG.no rfl (by first | rfl | (simp [Region.wanted, yielded]; done)) ?_
    try go_frame
    refine LexRG.no rfl (by first | rfl | (simp [Region.wanted, yielded]; done)) ?_
    try go_frame
    refine LexRG.nil ?_
    refine wpAnyL_one (i := 8) (by kernel_rfl) ?_
    refine lexA_get rfl ?_
    try go_frame
    go_wp2_with fail
    refine ⟨fun _ => S.out.2, ?_⟩
    refine wpAnyL_readsG [10, 11, 12] (fuel := 1) (by kernel_rfl) S.out.2 ?_
    refine LexRG.no rfl (by first | rfl | (simp [Region.wanted, yielded]; done)) ?_
    try go_frame
    refine LexRG.yes rfl (by first | rfl | (simp [Region.wanted, yielded]; done)) ?_ (fun w' hw => ?_) ?_
    rotate_left
    focus (clear hw; go_simp; (try exact rfl))
    try go_frame
    refine LexRG.yes rfl (by first | rfl | (simp [Region.wanted, yielded]; done)) ?_ (fun w' hw => ?_) ?_
    rotate_left
    focus (clear hw; go_simp; (try exact rfl))
    try go_frame
    refine LexRG.nil ?_
    refine wpAnyL_writes [13] (by kernel_rfl) (LexW.cons rfl ?_)
    try go_frame
    go_wp2_with fail
    refine ⟨fun _ => S.out.2, LexW.nil ?_⟩
    have hfin := S.out.1
    go_wp2_with fail
    go_ret2
    exact ⟨rfl, hfin⟩
  · have HQ := Lib.hid (show frEqB (outF ⟨4, s, st⟩) ⟨4, s, st⟩ = b by rw [← HB.out, frB_split _ HI.out, HV.out]; rfl)
    have G1 := fun a b w => fr_guard .eql a b (outF ⟨4, s, st⟩) ⟨4, s, st⟩ w
    have G2 := fun w => fr_equal (outF ⟨4, s, st⟩) ⟨4, s, st⟩ w
    rw [HQ.out] at G2
    have hout : (frC (outF ⟨4, s, st⟩)).toArray = #[.int .i64 4, .string s, .int .i64 0] := rfl
    rw [hout] at G1 G2
    replace G1 := fun a b w => G1 a b w
    have HO := Lib.hid hout
    clear hout
    unfold frC at G1 G2
    refine wp_region_open 100 (fun w' => w'.heap[w.heap.size]? = some (.cells (frC ⟨4, s, st⟩).toArray 33 (0, 0))) (by kernel_rfl) ?_
    replace S := S.drew
    refine wpAnyL_readsG [0, 1, 2, 3] (fuel := 10) (by kernel_rfl) S.out.2 ?_
    refine LexRG.yes rfl (by first | rfl | (simp [Region.wanted, yielded]; done)) ?_ (fun w' hw => ?_) ?_
    rotate_left
    focus (clear hw; go_simp; (try exact rfl))
    try go_frame
    refine LexRG.yes rfl (by first | rfl | (simp [Region.wanted, yielded]; done)) ?_ (fun w' hw => ?_) ?_
    rotate_left
    focus (clear hw; go_simp; (try exact rfl))
    try go_frame
    refine LexRG.yes rfl (by first | rfl | (simp [Region.wanted, yielded]; done)) ?_ (fun w' hw => ?_) ?_
    rotate_left
    focus (clear hw; go_simp; (try exact rfl))
    try go_frame
    refine LexRG.yes rfl (by first | rfl | (simp [Region.wanted, yielded]; done)) ?_ (fun w' hw => ?_) ?_
    rotate_left
    focus (clear hw; go_simp; (try exact rfl))
    try go_frame
    refine LexRG.nil ?_
    refine wpAnyL_one (i := 4) (by kernel_rfl) ?_
    refine lexA_get rfl ?_
    try go_frame
    go_wp2_with fail
    refine ((valid_4 (show okB s.data.toList = true from HV.out) hs W1.drew)).mono ?_
    rintro e V1 ⟨rfl, hb⟩
    replace S := S.later hb
    clear hb
    go_wp2_with fail
    refine ⟨fun _ => S.out.2, ?_⟩
    refine wpAnyL_readsG [5, 6, 7, 9] (fuel := 5) (by kernel_rfl) S.out.2 ?_
    refine LexRG.yes rfl (by first | rfl | (simp [Region.wanted, yielded]; done)) ?_ (fun w' hw => ?_) ?_
    rotate_left
    focus (clear hw; go_simp; (try exact rfl))
    try go_frame
    refine LexRG.yes rfl (by first | rfl | (simp [Region.wanted, yielded]; done)) ?_ (fun w' hw => ?_) ?_
    rotate_left
    focus (clear hw; go_simp; (try exact rfl))
    try go_frame
    refine LexRG.yes rfl (by first | rfl | (simp [Region.wanted, yielded]; done)) ?_ (fun w' hw => ?_) ?_
    rotate_left
    focus (clear hw; go_simp; (try exact rfl))
    try go_frame
    refine LexRG.yes rfl (by first | rfl | (simp [Region.wanted, yielded]; done)) ?_ (fun w' hw => ?_) ?_
    rotate_left
    focus (obtain ⟨d0, d1, d2⟩ := fr_box (r := ⟨4, s, st⟩) hw; clear hw; go_simp; (try exact rfl))
    try go_frame
    refine LexRG.nil ?_
    refine wpAnyL_one (i := 8) (by kernel_rfl) ?_
    refine lexA_get rfl ?_
    try go_frame
    go_wp2_with fail
    refine (frameOf_any ⟨4, s, st⟩ V1).mono ?_
    rw [HO.out]
    rintro e V2 ⟨rfl, hb⟩
    replace S := S.later hb
    clear hb
    go_wp2_with fail
    refine ⟨fun _ => S.out.2, ?_⟩
    refine wpAnyL_readsG [10, 11, 12] (fuel := 1) (by kernel_rfl) S.out.2 ?_
    refine LexRG.yes rfl (by first | rfl | (simp [Region.wanted, yielded]; done)) ?_ (fun w' hw => ?_) ?_
    rotate_left
    focus (clear hw; go_simp; (try exact rfl))
    try go_frame
    refine LexRG.yes rfl (by first | rfl | (simp [Region.wanted, yielded]; done)) ?_ (fun w' hw => ?_) ?_
    rotate_left
    focus (clear hw; go_simp; (try exact rfl))
    try go_frame
    refine LexRG.yes rfl (by first | rfl | (simp [Region.wanted, yielded]; done)) ?_ (fun w' hw => ?_) ?_
    rotate_left
    focus (clear hw; go_simp; (try exact rfl))
    try go_frame
    refine LexRG.nil ?_
    refine wpAnyL_writes [13] (by kernel_rfl) (LexW.cons rfl ?_)
    try go_frame
    go_wp2_with fail
    refine ⟨fun _ => S.out.2, LexW.nil ?_⟩
    have hfin := S.out.1
    go_wp2_with fail
    go_ret2
    exact ⟨rfl, hfin⟩

set_option maxRecDepth 100000 in
set_option maxHeartbeats 8000000 in
theorem validMessage_5 (s : ByteArray) (st : Int) (w : World) (hs : s.size ≤ 1048576) : Calls Try.prog 75 #[.agg (frC ⟨5, s, st⟩).toArray] w (RetMsg w ⟨5, s, st⟩ (frB ⟨5, s, st⟩)) := by
  obtain ⟨b, hb⟩ : ∃ b, frB ⟨5, s, st⟩ = b := ⟨_, rfl⟩
  rw [hb]
  have HB := Lib.hid hb
  clear hb
  unfold RetMsg
  have hm : msgV ⟨5, s, st⟩ = .iface 99 (.int .i64 st) := rfl
  have hi : isK ⟨5, s, st⟩ = true := rfl
  rw [hm]
  have HM := Lib.hid hm
  have HI := Lib.hid hi
  clear hm hi
  obtain ⟨v, hv⟩ : ∃ v, vB ⟨5, s, st⟩ = v := ⟨_, rfl⟩
  have HV := Lib.hid hv
  clear hv
  unfold frC
  go_enter Try.func75, Try.ntmps75
  have S : All (fun w' => Below w.heap.size w w' ∧ w'.heap[w.heap.size]? = some (.cells (frC ⟨5, s, st⟩).toArray 33 (0, 0))) (w.alloc (.cells #[.int .i64 5, .string s, .int .i64 st] 33)) := ⟨Later.alloc w _, heap_alloc_new w _⟩
  go_wp2_with fail
  generalize w.alloc (.cells #[.int .i64 5, .string s, .int .i64 st] 33) = W at S ⊢
  refine (messageOf_any ⟨5, s, st⟩ W).mono ?_
  rw [HM.out, HI.out]
  rintro e W1 ⟨rfl, hb⟩
  replace S := S.later hb
  clear hb
  go_upto_region 2 with (fail)
  cases v
  · obtain rfl : b = false := by rw [← HB.out, frB_split _ HI.out, HV.out]; rfl
    refine wp_region_open 100 (fun w' => w'.heap[w.heap.size]? = some (.cells (frC ⟨5, s, st⟩).toArray 33 (0, 0))) (by kernel_rfl) ?_
    replace S := S.drew
    refine wpAnyL_readsG [0, 1, 2, 3] (fuel := 10) (by kernel_rfl) S.out.2 ?_
    refine LexRG.yes rfl (by first | rfl | (simp [Region.wanted, yielded]; done)) ?_ (fun w' hw => ?_) ?_
    rotate_left
    focus (clear hw; go_simp; (try exact rfl))
    try go_frame
    refine LexRG.yes rfl (by first | rfl | (simp [Region.wanted, yielded]; done)) ?_ (fun w' hw => ?_) ?_
    rotate_left
    focus (clear hw; go_simp; (try exact rfl))
    try go_frame
    refine LexRG.yes rfl (by first | rfl | (simp [Region.wanted, yielded]; done)) ?_ (fun w' hw => ?_) ?_
    rotate_left
    focus (clear hw; go_simp; (try exact rfl))
    try go_frame
    refine LexRG.yes rfl (by first | rfl | (simp [Region.wanted, yielded]; done)) ?_ (fun w' hw => ?_) ?_
    rotate_left
    focus (clear hw; go_simp; (try exact rfl))
    try go_frame
    refine LexRG.nil ?_
    refine wpAnyL_one (i := 4) (by kernel_rfl) ?_
    refine lexA_get rfl ?_
    try go_frame
    go_wp2_with fail
    refine ((valid_5 (show inI st 0 2 = false from HV.out) W1.drew)).mono ?_
    rintro e V1 ⟨rfl, hb⟩
    replace S := S.later hb
    clear hb
    go_wp2_with fail
    refine ⟨fun _ => S.out.2, ?_⟩
    refine wpAnyL_readsG [5, 6, 7, 9] (fuel := 5) (by kernel_rfl) S.out.2 ?_
    refine LexRG.yes rfl (by first | rfl | (simp [Region.wanted, yielded]; done)) ?_ (fun w' hw => ?_) ?_
    rotate_left
    focus (clear hw; go_simp; (try exact rfl))
    try go_frame
    refine LexRG.yes rfl (by first | rfl | (simp [Region.wanted, yielded]; done)) ?_ (fun w' hw => ?_) ?_
    rotate_left
    focus (clear hw; go_simp; (try exact rfl))
    try go_frame
    refine LexRG.no rfl (by first | rfl | (simp [Region.wanted, yielded]; done)) ?_
    try go_frame
    refine LexRG.no rfl (by first | rfl | (simp [Region.wanted, yielded]; done)) ?_
    try go_frame
    refine LexRG.nil ?_
    refine wpAnyL_one (i := 8) (by kernel_rfl) ?_
    refine lexA_get rfl ?_
    try go_frame
    go_wp2_with fail
    refine ⟨fun _ => S.out.2, ?_⟩
    refine wpAnyL_readsG [10, 11, 12] (fuel := 1) (by kernel_rfl) S.out.2 ?_
    refine LexRG.no rfl (by first | rfl | (simp [Region.wanted, yielded]; done)) ?_
    try go_frame
    refine LexRG.yes rfl (by first | rfl | (simp [Region.wanted, yielded]; done)) ?_ (fun w' hw => ?_) ?_
    rotate_left
    focus (clear hw; go_simp; (try exact rfl))
    try go_frame
    refine LexRG.yes rfl (by first | rfl | (simp [Region.wanted, yielded]; done)) ?_ (fun w' hw => ?_) ?_
    rotate_left
    focus (clear hw; go_simp; (try exact rfl))
    try go_frame
    refine LexRG.nil ?_
    refine wpAnyL_writes [13] (by kernel_rfl) (LexW.cons rfl ?_)
    try go_frame
    go_wp2_with fail
    refine ⟨fun _ => S.out.2, LexW.nil ?_⟩
    have hfin := S.out.1
    go_wp2_with fail
    go_ret2
    exact ⟨rfl, hfin⟩
  · have HQ := Lib.hid (show frEqB (outF ⟨5, s, st⟩) ⟨5, s, st⟩ = b by rw [← HB.out, frB_split _ HI.out, HV.out]; rfl)
    have G1 := fun a b w => fr_guard .eql a b (outF ⟨5, s, st⟩) ⟨5, s, st⟩ w
    have G2 := fun w => fr_equal (outF ⟨5, s, st⟩) ⟨5, s, st⟩ w
    rw [HQ.out] at G2
    have hout : (frC (outF ⟨5, s, st⟩)).toArray = #[.int .i64 5, .string ⟨#[]⟩, .int .i64 st] := rfl
    rw [hout] at G1 G2
    replace G1 := fun a b w => G1 a b w
    have HO := Lib.hid hout
    clear hout
    unfold frC at G1 G2
    refine wp_region_open 100 (fun w' => w'.heap[w.heap.size]? = some (.cells (frC ⟨5, s, st⟩).toArray 33 (0, 0))) (by kernel_rfl) ?_
    replace S := S.drew
    refine wpAnyL_readsG [0, 1, 2, 3] (fuel := 10) (by kernel_rfl) S.out.2 ?_
    refine LexRG.yes rfl (by first | rfl | (simp [Region.wanted, yielded]; done)) ?_ (fun w' hw => ?_) ?_
    rotate_left
    focus (clear hw; go_simp; (try exact rfl))
    try go_frame
    refine LexRG.yes rfl (by first | rfl | (simp [Region.wanted, yielded]; done)) ?_ (fun w' hw => ?_) ?_
    rotate_left
    focus (clear hw; go_simp; (try exact rfl))
    try go_frame
    refine LexRG.yes rfl (by first | rfl | (simp [Region.wanted, yielded]; done)) ?_ (fun w' hw => ?_) ?_
    rotate_left
    focus (clear hw; go_simp; (try exact rfl))
    try go_frame
    refine LexRG.yes rfl (by first | rfl | (simp [Region.wanted, yielded]; done)) ?_ (fun w' hw => ?_) ?_
    rotate_left
    focus (clear hw; go_simp; (try exact rfl))
    try go_frame
    refine LexRG.nil ?_
    refine wpAnyL_one (i := 4) (by kernel_rfl) ?_
    refine lexA_get rfl ?_
    try go_frame
    go_wp2_with fail
    refine ((valid_5 (show inI st 0 2 = true from HV.out) W1.drew)).mono ?_
    rintro e V1 ⟨rfl, hb⟩
    replace S := S.later hb
    clear hb
    go_wp2_with fail
    refine ⟨fun _ => S.out.2, ?_⟩
    refine wpAnyL_readsG [5, 6, 7, 9] (fuel := 5) (by kernel_rfl) S.out.2 ?_
    refine LexRG.yes rfl (by first | rfl | (simp [Region.wanted, yielded]; done)) ?_ (fun w' hw => ?_) ?_
    rotate_left
    focus (clear hw; go_simp; (try exact rfl))
    try go_frame
    refine LexRG.yes rfl (by first | rfl | (simp [Region.wanted, yielded]; done)) ?_ (fun w' hw => ?_) ?_
    rotate_left
    focus (clear hw; go_simp; (try exact rfl))
    try go_frame
    refine LexRG.yes rfl (by first | rfl | (simp [Region.wanted, yielded]; done)) ?_ (fun w' hw => ?_) ?_
    rotate_left
    focus (clear hw; go_simp; (try exact rfl))
    try go_frame
    refine LexRG.yes rfl (by first | rfl | (simp [Region.wanted, yielded]; done)) ?_ (fun w' hw => ?_) ?_
    rotate_left
    focus (obtain ⟨d0, d1, d2⟩ := fr_box (r := ⟨5, s, st⟩) hw; clear hw; go_simp; (try exact rfl))
    try go_frame
    refine LexRG.nil ?_
    refine wpAnyL_one (i := 8) (by kernel_rfl) ?_
    refine lexA_get rfl ?_
    try go_frame
    go_wp2_with fail
    refine (frameOf_any ⟨5, s, st⟩ V1).mono ?_
    rw [HO.out]
    rintro e V2 ⟨rfl, hb⟩
    replace S := S.later hb
    clear hb
    go_wp2_with fail
    refine ⟨fun _ => S.out.2, ?_⟩
    refine wpAnyL_readsG [10, 11, 12] (fuel := 1) (by kernel_rfl) S.out.2 ?_
    refine LexRG.yes rfl (by first | rfl | (simp [Region.wanted, yielded]; done)) ?_ (fun w' hw => ?_) ?_
    rotate_left
    focus (clear hw; go_simp; (try exact rfl))
    try go_frame
    refine LexRG.yes rfl (by first | rfl | (simp [Region.wanted, yielded]; done)) ?_ (fun w' hw => ?_) ?_
    rotate_left
    focus (clear hw; go_simp; (try exact rfl))
    try go_frame
    refine LexRG.yes rfl (by first | rfl | (simp [Region.wanted, yielded]; done)) ?_ (fun w' hw => ?_) ?_
    rotate_left
    focus (clear hw; go_simp; (try exact rfl))
    try go_frame
    refine LexRG.nil ?_
    refine wpAnyL_writes [13] (by kernel_rfl) (LexW.cons rfl ?_)
    try go_frame
    go_wp2_with fail
    refine ⟨fun _ => S.out.2, LexW.nil ?_⟩
    have hfin := S.out.1
    go_wp2_with fail
    go_ret2
    exact ⟨rfl, hfin⟩

set_option maxRecDepth 100000 in
set_option maxHeartbeats 8000000 in
theorem validMessage_6 (s : ByteArray) (st : Int) (w : World) (hs : s.size ≤ 1048576) : Calls Try.prog 75 #[.agg (frC ⟨6, s, st⟩).toArray] w (RetMsg w ⟨6, s, st⟩ (frB ⟨6, s, st⟩)) := by
  obtain ⟨b, hb⟩ : ∃ b, frB ⟨6, s, st⟩ = b := ⟨_, rfl⟩
  rw [hb]
  have HB := Lib.hid hb
  clear hb
  unfold RetMsg
  have hm : msgV ⟨6, s, st⟩ = .iface 128 (.string s) := rfl
  have hi : isK ⟨6, s, st⟩ = true := rfl
  rw [hm]
  have HM := Lib.hid hm
  have HI := Lib.hid hi
  clear hm hi
  obtain ⟨v, hv⟩ : ∃ v, vB ⟨6, s, st⟩ = v := ⟨_, rfl⟩
  have HV := Lib.hid hv
  clear hv
  unfold frC
  go_enter Try.func75, Try.ntmps75
  have S : All (fun w' => Below w.heap.size w w' ∧ w'.heap[w.heap.size]? = some (.cells (frC ⟨6, s, st⟩).toArray 33 (0, 0))) (w.alloc (.cells #[.int .i64 6, .string s, .int .i64 st] 33)) := ⟨Later.alloc w _, heap_alloc_new w _⟩
  go_wp2_with fail
  generalize w.alloc (.cells #[.int .i64 6, .string s, .int .i64 st] 33) = W at S ⊢
  refine (messageOf_any ⟨6, s, st⟩ W).mono ?_
  rw [HM.out, HI.out]
  rintro e W1 ⟨rfl, hb⟩
  replace S := S.later hb
  clear hb
  go_upto_region 2 with (fail)
  cases v
  · obtain rfl : b = false := by rw [← HB.out, frB_split _ HI.out, HV.out]; rfl
    refine wp_region_open 100 (fun w' => w'.heap[w.heap.size]? = some (.cells (frC ⟨6, s, st⟩).toArray 33 (0, 0))) (by kernel_rfl) ?_
    replace S := S.drew
    refine wpAnyL_readsG [0, 1, 2, 3] (fuel := 10) (by kernel_rfl) S.out.2 ?_
    refine LexRG.yes rfl (by first | rfl | (simp [Region.wanted, yielded]; done)) ?_ (fun w' hw => ?_) ?_
    rotate_left
    focus (clear hw; go_simp; (try exact rfl))
    try go_frame
    refine LexRG.yes rfl (by first | rfl | (simp [Region.wanted, yielded]; done)) ?_ (fun w' hw => ?_) ?_
    rotate_left
    focus (clear hw; go_simp; (try exact rfl))
    try go_frame
    refine LexRG.yes rfl (by first | rfl | (simp [Region.wanted, yielded]; done)) ?_ (fun w' hw => ?_) ?_
    rotate_left
    focus (clear hw; go_simp; (try exact rfl))
    try go_frame
    refine LexRG.yes rfl (by first | rfl | (simp [Region.wanted, yielded]; done)) ?_ (fun w' hw => ?_) ?_
    rotate_left
    focus (clear hw; go_simp; (try exact rfl))
    try go_frame
    refine LexRG.nil ?_
    refine wpAnyL_one (i := 4) (by kernel_rfl) ?_
    refine lexA_get rfl ?_
    try go_frame
    go_wp2_with fail
    refine ((valid_6 (show okB s.data.toList = false from HV.out) hs W1.drew)).mono ?_
    rintro e V1 ⟨rfl, hb⟩
    replace S := S.later hb
    clear hb
    go_wp2_with fail
    refine ⟨fun _ => S.out.2, ?_⟩
    refine wpAnyL_readsG [5, 6, 7, 9] (fuel := 5) (by kernel_rfl) S.out.2 ?_
    refine LexRG.yes rfl (by first | rfl | (simp [Region.wanted, yielded]; done)) ?_ (fun w' hw => ?_) ?_
    rotate_left
    focus (clear hw; go_simp; (try exact rfl))
    try go_frame
    refine LexRG.yes rfl (by first | rfl | (simp [Region.wanted, yielded]; done)) ?_ (fun w' hw => ?_) ?_
    rotate_left
    focus (clear hw; go_simp; (try exact rfl))
    try go_frame
    refine LexRG.no rfl (by first | rfl | (simp [Region.wanted, yielded]; done)) ?_
    try go_frame
    refine LexRG.no rfl (by first | rfl | (simp [Region.wanted, yielded]; done)) ?_
    try go_frame
    refine LexRG.nil ?_
    refine wpAnyL_one (i := 8) (by kernel_rfl) ?_
    refine lexA_get rfl ?_
    try go_frame
    go_wp2_with fail
    refine ⟨fun _ => S.out.2, ?_⟩
    refine wpAnyL_readsG [10, 11, 12] (fuel := 1) (by kernel_rfl) S.out.2 ?_
    refine LexRG.no rfl (by first | rfl | (simp [Region.wanted, yielded]; done)) ?_
    try go_frame
    refine LexRG.yes rfl (by first | rfl | (simp [Region.wanted, yielded]; done)) ?_ (fun w' hw => ?_) ?_
    rotate_left
    focus (clear hw; go_simp; (try exact rfl))
    try go_frame
    refine LexRG.yes rfl (by first | rfl | (simp [Region.wanted, yielded]; done)) ?_ (fun w' hw => ?_) ?_
    rotate_left
    focus (clear hw; go_simp; (try exact rfl))
    try go_frame
    refine LexRG.nil ?_
    refine wpAnyL_writes [13] (by kernel_rfl) (LexW.cons rfl ?_)
    try go_frame
    go_wp2_with fail
    refine ⟨fun _ => S.out.2, LexW.nil ?_⟩
    have hfin := S.out.1
    go_wp2_with fail
    go_ret2
    exact ⟨rfl, hfin⟩
  · have HQ := Lib.hid (show frEqB (outF ⟨6, s, st⟩) ⟨6, s, st⟩ = b by rw [← HB.out, frB_split _ HI.out, HV.out]; rfl)
    have G1 := fun a b w => fr_guard .eql a b (outF ⟨6, s, st⟩) ⟨6, s, st⟩ w
    have G2 := fun w => fr_equal (outF ⟨6, s, st⟩) ⟨6, s, st⟩ w
    rw [HQ.out] at G2
    have hout : (frC (outF ⟨6, s, st⟩)).toArray = #[.int .i64 6, .string s, .int .i64 0] := rfl
    rw [hout] at G1 G2
    replace G1 := fun a b w => G1 a b w
    have HO := Lib.hid hout
    clear hout
    unfold frC at G1 G2
    refine wp_region_open 100 (fun w' => w'.heap[w.heap.size]? = some (.cells (frC ⟨6, s, st⟩).toArray 33 (0, 0))) (by kernel_rfl) ?_
    replace S := S.drew
    refine wpAnyL_readsG [0, 1, 2, 3] (fuel := 10) (by kernel_rfl) S.out.2 ?_
    refine LexRG.yes rfl (by first | rfl | (simp [Region.wanted, yielded]; done)) ?_ (fun w' hw => ?_) ?_
    rotate_left
    focus (clear hw; go_simp; (try exact rfl))
    try go_frame
    refine LexRG.yes rfl (by first | rfl | (simp [Region.wanted, yielded]; done)) ?_ (fun w' hw => ?_) ?_
    rotate_left
    focus (clear hw; go_simp; (try exact rfl))
    try go_frame
    refine LexRG.yes rfl (by first | rfl | (simp [Region.wanted, yielded]; done)) ?_ (fun w' hw => ?_) ?_
    rotate_left
    focus (clear hw; go_simp; (try exact rfl))
    try go_frame
    refine LexRG.yes rfl (by first | rfl | (simp [Region.wanted, yielded]; done)) ?_ (fun w' hw => ?_) ?_
    rotate_left
    focus (clear hw; go_simp; (try exact rfl))
    try go_frame
    refine LexRG.nil ?_
    refine wpAnyL_one (i := 4) (by kernel_rfl) ?_
    refine lexA_get rfl ?_
    try go_frame
    go_wp2_with fail
    refine ((valid_6 (show okB s.data.toList = true from HV.out) hs W1.drew)).mono ?_
    rintro e V1 ⟨rfl, hb⟩
    replace S := S.later hb
    clear hb
    go_wp2_with fail
    refine ⟨fun _ => S.out.2, ?_⟩
    refine wpAnyL_readsG [5, 6, 7, 9] (fuel := 5) (by kernel_rfl) S.out.2 ?_
    refine LexRG.yes rfl (by first | rfl | (simp [Region.wanted, yielded]; done)) ?_ (fun w' hw => ?_) ?_
    rotate_left
    focus (clear hw; go_simp; (try exact rfl))
    try go_frame
    refine LexRG.yes rfl (by first | rfl | (simp [Region.wanted, yielded]; done)) ?_ (fun w' hw => ?_) ?_
    rotate_left
    focus (clear hw; go_simp; (try exact rfl))
    try go_frame
    refine LexRG.yes rfl (by first | rfl | (simp [Region.wanted, yielded]; done)) ?_ (fun w' hw => ?_) ?_
    rotate_left
    focus (clear hw; go_simp; (try exact rfl))
    try go_frame
    refine LexRG.yes rfl (by first | rfl | (simp [Region.wanted, yielded]; done)) ?_ (fun w' hw => ?_) ?_
    rotate_left
    focus (obtain ⟨d0, d1, d2⟩ := fr_box (r := ⟨6, s, st⟩) hw; clear hw; go_simp; (try exact rfl))
    try go_frame
    refine LexRG.nil ?_
    refine wpAnyL_one (i := 8) (by kernel_rfl) ?_
    refine lexA_get rfl ?_
    try go_frame
    go_wp2_with fail
    refine (frameOf_any ⟨6, s, st⟩ V1).mono ?_
    rw [HO.out]
    rintro e V2 ⟨rfl, hb⟩
    replace S := S.later hb
    clear hb
    go_wp2_with fail
    refine ⟨fun _ => S.out.2, ?_⟩
    refine wpAnyL_readsG [10, 11, 12] (fuel := 1) (by kernel_rfl) S.out.2 ?_
    refine LexRG.yes rfl (by first | rfl | (simp [Region.wanted, yielded]; done)) ?_ (fun w' hw => ?_) ?_
    rotate_left
    focus (clear hw; go_simp; (try exact rfl))
    try go_frame
    refine LexRG.yes rfl (by first | rfl | (simp [Region.wanted, yielded]; done)) ?_ (fun w' hw => ?_) ?_
    rotate_left
    focus (clear hw; go_simp; (try exact rfl))
    try go_frame
    refine LexRG.yes rfl (by first | rfl | (simp [Region.wanted, yielded]; done)) ?_ (fun w' hw => ?_) ?_
    rotate_left
    focus (clear hw; go_simp; (try exact rfl))
    try go_frame
    refine LexRG.nil ?_
    refine wpAnyL_writes [13] (by kernel_rfl) (LexW.cons rfl ?_)
    try go_frame
    go_wp2_with fail
    refine ⟨fun _ => S.out.2, LexW.nil ?_⟩
    have hfin := S.out.1
    go_wp2_with fail
    go_ret2
    exact ⟨rfl, hfin⟩

theorem msg_none {k : Int} (s : ByteArray) (st : Int) (h : k < 1 ∨ 6 < k) : msgV ⟨k, s, st⟩ = .nilIface ∧ isK ⟨k, s, st⟩ = false := by
  refine ⟨?_, by unfold isK; simp; omega⟩
  unfold msgV
  rw [if_neg (by simp; omega), if_neg (by simp; omega), if_neg (by simp; omega), if_neg (by simp; omega), if_neg (by simp; omega), if_neg (by simp; omega)]

set_option maxRecDepth 100000 in
set_option maxHeartbeats 8000000 in
theorem validMessage_0 (k : Int) (s : ByteArray) (st : Int) (w : World) (hk : k < 1 ∨ 6 < k) : Calls Try.prog 75 #[.agg (frC ⟨k, s, st⟩).toArray] w (RetMsg w ⟨k, s, st⟩ (frB ⟨k, s, st⟩)) := by
  rw [frB_no (f := ⟨k, s, st⟩) hk]
  unfold RetMsg
  have hm := (msg_none s st hk).1
  have hi := (msg_none s st hk).2
  rw [hm]
  have HM := Lib.hid hm
  have HI := Lib.hid hi
  clear hm hi hk
  unfold frC
  go_enter Try.func75, Try.ntmps75
  have S : All (fun w' => Below w.heap.size w w' ∧ w'.heap[w.heap.size]? = some (.cells (frC ⟨k, s, st⟩).toArray 33 (0, 0))) (w.alloc (.cells #[.int .i64 k, .string s, .int .i64 st] 33)) := ⟨Later.alloc w _, heap_alloc_new w _⟩
  go_wp2_with fail
  generalize w.alloc (.cells #[.int .i64 k, .string s, .int .i64 st] 33) = W at S ⊢
  refine (messageOf_any ⟨k, s, st⟩ W).mono ?_
  rw [HM.out, HI.out]
  rintro e W1 ⟨rfl, hb⟩
  replace S := S.later hb
  clear hb
  go_upto_region 2 with (fail)
  refine wp_region_open 100 (fun w' => w'.heap[w.heap.size]? = some (.cells (frC ⟨k, s, st⟩).toArray 33 (0, 0))) (by kernel_rfl) ?_
  replace S := S.drew
  refine wpAnyL_readsG [0, 1, 2, 3] (fuel := 10) (by kernel_rfl) S.out.2 ?_
  refine LexRG.yes rfl (by first | rfl | (simp [Region.wanted, yielded]; done)) ?_ (fun w' hw => ?_) ?_
  rotate_left
  focus (clear hw; go_simp; (try exact rfl))
  try go_frame
  refine LexRG.yes rfl (by first | rfl | (simp [Region.wanted, yielded]; done)) ?_ (fun w' hw => ?_) ?_
  rotate_left
  focus (clear hw; go_simp; (try exact rfl))
  try go_frame
  refine LexRG.yes rfl (by first | rfl | (simp [Region.wanted, yielded]; done)) ?_ (fun w' hw => ?_) ?_
  rotate_left
  focus (clear hw; go_simp; (try exact rfl))
  try go_frame
  refine LexRG.no rfl (by first | rfl | (simp [Region.wanted, yielded]; done)) ?_
  try go_frame
  refine LexRG.nil ?_
  refine wpAnyL_one (i := 4) (by kernel_rfl) ?_
  refine lexA_get rfl ?_
  try go_frame
  go_wp2_with fail
  refine ⟨fun _ => S.out.2, ?_⟩
  refine wpAnyL_readsG [5, 6, 7, 9] (fuel := 5) (by kernel_rfl) S.out.2 ?_
  refine LexRG.yes rfl (by first | rfl | (simp [Region.wanted, yielded]; done)) ?_ (fun w' hw => ?_) ?_
  rotate_left
  focus (clear hw; go_simp; (try exact rfl))
  try go_frame
  refine LexRG.yes rfl (by first | rfl | (simp [Region.wanted, yielded]; done)) ?_ (fun w' hw => ?_) ?_
  rotate_left
  focus (clear hw; go_simp; (try exact rfl))
  try go_frame
  refine LexRG.no rfl (by first | rfl | (simp [Region.wanted, yielded]; done)) ?_
  try go_frame
  refine LexRG.no rfl (by first | rfl | (simp [Region.wanted, yielded]; done)) ?_
  try go_frame
  refine LexRG.nil ?_
  refine wpAnyL_one (i := 8) (by kernel_rfl) ?_
  refine lexA_get rfl ?_
  try go_frame
  go_wp2_with fail
  refine ⟨fun _ => S.out.2, ?_⟩
  refine wpAnyL_readsG [10, 11, 12] (fuel := 1) (by kernel_rfl) S.out.2 ?_
  refine LexRG.no rfl (by first | rfl | (simp [Region.wanted, yielded]; done)) ?_
  try go_frame
  refine LexRG.yes rfl (by first | rfl | (simp [Region.wanted, yielded]; done)) ?_ (fun w' hw => ?_) ?_
  rotate_left
  focus (clear hw; go_simp; (try exact rfl))
  try go_frame
  refine LexRG.yes rfl (by first | rfl | (simp [Region.wanted, yielded]; done)) ?_ (fun w' hw => ?_) ?_
  rotate_left
  focus (clear hw; go_simp; (try exact rfl))
  try go_frame
  refine LexRG.nil ?_
  refine wpAnyL_writes [13] (by kernel_rfl) (LexW.cons rfl ?_)
  try go_frame
  go_wp2_with fail
  refine ⟨fun _ => S.out.2, LexW.nil ?_⟩
  have hfin := S.out.1
  go_wp2_with fail
  go_ret2
  exact ⟨rfl, hfin⟩

theorem validMessage_any (f : Fr) (w : World) (hs : f.s.size ≤ 1048576) : Calls Try.prog 75 #[.agg (frC f).toArray] w (RetMsg w f (frB f)) := by
  obtain ⟨k, s, st⟩ := f
  rcases kinds k with rfl | rfl | rfl | rfl | rfl | rfl | h
  · exact validMessage_1 s st w hs
  · exact validMessage_2 s st w hs
  · exact validMessage_3 s st w hs
  · exact validMessage_4 s st w hs
  · exact validMessage_5 s st w hs
  · exact validMessage_6 s st w hs
  · exact validMessage_0 k s st w h

set_option maxHeartbeats 1000000 in
theorem frameOk_any (f : Fr) (w : World) (hs : f.s.size ≤ 1048576) : Calls Try.prog 89 #[.agg (frC f).toArray] w (RetBool w (frB f)) := by
  unfold RetBool
  obtain ⟨k, s, st⟩ := f
  obtain ⟨m, hm⟩ : ∃ m, msgV ⟨k, s, st⟩ = m := ⟨_, rfl⟩
  have HM := Lib.hid hm
  clear hm
  obtain ⟨b, hb⟩ : ∃ b, frB ⟨k, s, st⟩ = b := ⟨_, rfl⟩
  rw [hb]
  have HB := Lib.hid hb
  clear hb
  have S : All (fun w' => Below w.heap.size w w') (w.alloc (.cells #[.int .i64 k, .string s, .int .i64 st] 33)) := ⟨Later.alloc w _⟩
  unfold frC
  go_enter Try.func89, Try.ntmps89
  go_wp2_with fail
  generalize w.alloc (.cells #[.int .i64 k, .string s, .int .i64 st] 33) = W at S ⊢
  refine (validMessage_any ⟨k, s, st⟩ W hs).mono ?_
  rintro e W1 ⟨h1, hb⟩
  rw [HM.out, HB.out] at h1
  subst h1
  replace S := S.later hb
  have hfin := S.out
  clear hb S
  go_wp2_with fail
  go_ret
  exact ⟨rfl, hfin⟩

end Go.Proofs.Ytcelkmphdeaaeaa
