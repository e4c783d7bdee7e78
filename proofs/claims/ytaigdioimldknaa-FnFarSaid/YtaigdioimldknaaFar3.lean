/- What the theorem needs, out of many texts. -/
import Derived.Test.YtaigdioimldknaaFar2
import Derived.Deep.Cut
import Derived.Lib.ItoaNum
import Derived.Lib.ItoaMem
namespace Go.Proofs.Ytaigdioimldknaa
open Go.RowKit
set_option linter.unusedVariables false
/-- What the message of a frame says of it. -/
def vB (f : Fr) : Bool := if f.k = 1 then nameB f.s.data.toList else if f.k = 3 then true else if f.k = 5 then inI f.st 0 2 else okB f.s.data.toList
theorem frB_split (f : Fr) (h : isK f = true) : frB f = (vB f && frEqB (outF f) f) := by
  obtain ⟨k, s, st⟩ := f
  have e0 : ∀ s : ByteArray, ((⟨#[]⟩ : ByteArray).toList == s.toList) = (s.data.toList == []) := fun s => by
    obtain ⟨⟨l⟩⟩ := s
    rw [ByteArray.toList_mk, ByteArray.toList_mk]
    cases l <;> rfl
  have e1 : ∀ x : Int, ((0 : Int) == x) = (x == 0) := fun x => by rw [Bool.eq_iff_iff]; simp; omega
  have hk : k = 1 ∨ k = 2 ∨ k = 3 ∨ k = 4 ∨ k = 5 ∨ k = 6 := by have := of_decide_eq_true h; simp at this; omega
  rcases hk with rfl | rfl | rfl | rfl | rfl | rfl
  · show _ = (nameB s.data.toList && frEqB ⟨1, s, 0⟩ ⟨1, s, st⟩)
    rw [frB_1]; simp [frEqB, e1]
  · show _ = (okB s.data.toList && frEqB ⟨2, s, 0⟩ ⟨2, s, st⟩)
    rw [frB_2]; simp [frEqB, e1]
  · show _ = (true && frEqB ⟨3, ⟨#[]⟩, 0⟩ ⟨3, s, st⟩)
    rw [frB_3]
    show _ = (true && ((3 : Int) == 3 && (((⟨#[]⟩ : ByteArray).toList == s.toList) && ((0 : Int) == st))))
    rw [e0, e1]; rfl
  · show _ = (okB s.data.toList && frEqB ⟨4, s, 0⟩ ⟨4, s, st⟩)
    rw [frB_4]; simp [frEqB, e1]
  · show _ = (inI st 0 2 && frEqB ⟨5, ⟨#[]⟩, st⟩ ⟨5, s, st⟩)
    rw [frB_5]
    show _ = (inI st 0 2 && ((5 : Int) == 5 && (((⟨#[]⟩ : ByteArray).toList == s.toList) && (st == st))))
    have e3 : (st == st) = true := by simp
    rw [e0, e3]
    generalize (s.data.toList == []) = x
    generalize inI st 0 2 = y
    cases x <;> cases y <;> rfl
  · show _ = (okB s.data.toList && frEqB ⟨6, s, 0⟩ ⟨6, s, st⟩)
    rw [frB_6]; simp [frEqB, e1]
theorem valid_1 {s : ByteArray} {b : Bool} (hb : nameB s.data.toList = b) (hs : s.size ≤ 1048576) (w : World) : Calls Try.prog 174 #[.string s] w (RetBool w b) := by
  unfold RetBool
  go_enter Try.func174, Try.ntmps174
  go_wp2_with (go_at_call 117; refine (nameOk_b hb _ hs).mono ?_; rintro e w' ⟨rfl, hb2⟩)
  go_ret
  exact ⟨rfl, hb2⟩
theorem valid_2 {s : ByteArray} {b : Bool} (hb : okB s.data.toList = b) (hs : s.size ≤ 1048576) (w : World) : Calls Try.prog 176 #[.string s] w (RetBool w b) := by
  have HB := Lib.hid hb
  clear hb
  unfold RetBool
  go_enter Try.func176, Try.ntmps176
  go_wp2_with (go_at_call 119; refine (textOk_any s _ (by omega)).mono ?_; rw [HB.out]; rintro e w' ⟨rfl, rfl⟩)
  go_ret
  exact ⟨rfl, Later.refl w⟩
theorem valid_3 (w : World) : Calls Try.prog 170 #[.agg #[]] w (RetBool w true) := by
  unfold RetBool
  go_enter Try.func170, Try.ntmps170
  go_wp2_with fail
  go_ret
  exact ⟨rfl, Later.alloc w _⟩
theorem valid_4 {s : ByteArray} {b : Bool} (hb : okB s.data.toList = b) (hs : s.size ≤ 1048576) (w : World) : Calls Try.prog 178 #[.string s] w (RetBool w b) := by
  have HB := Lib.hid hb
  clear hb
  unfold RetBool
  go_enter Try.func178, Try.ntmps178
  go_wp2_with (go_at_call 119; refine (textOk_any s _ (by omega)).mono ?_; rw [HB.out]; rintro e w' ⟨rfl, rfl⟩)
  go_ret
  exact ⟨rfl, Later.refl w⟩
theorem valid_5 {st : Int} {b : Bool} (hb : inI st 0 2 = b) (w : World) : Calls Try.prog 172 #[.int .i64 st] w (RetBool w b) := by
  unfold RetBool
  go_enter Try.func172, Try.ntmps172
  go_wp2_with (go_at_call 84; refine (within_b hb _).mono ?_; rintro e w' ⟨rfl, rfl⟩)
  go_ret
  exact ⟨rfl, Later.refl w⟩
theorem valid_6 {s : ByteArray} {b : Bool} (hb : okB s.data.toList = b) (hs : s.size ≤ 1048576) (w : World) : Calls Try.prog 180 #[.string s] w (RetBool w b) := by
  have HB := Lib.hid hb
  clear hb
  unfold RetBool
  go_enter Try.func180, Try.ntmps180
  go_wp2_with (go_at_call 119; refine (textOk_any s _ (by omega)).mono ?_; rw [HB.out]; rintro e w' ⟨rfl, rfl⟩)
  go_ret
  exact ⟨rfl, Later.refl w⟩
def RetMsg (w : World) (f : Fr) (b : Bool) (e : Ending) (w' : World) : Prop := e = .returned (.tuple #[msgV f, .bool b]) ∧ Below w.heap.size w w'
set_option maxRecDepth 100000 in
set_option maxHeartbeats 8000000 in
theorem validMessage_1 (s : ByteArray) (st : Int) (w : World) (hs : s.size ≤ 1048576) : Calls Try.prog 86 #[.agg (frC ⟨1, s, st⟩).toArray] w (RetMsg w ⟨1, s, st⟩ (frB ⟨1, s, st⟩)) := by
  obtain ⟨b, hb⟩ : ∃ b, frB ⟨1, s, st⟩ = b := ⟨_, rfl⟩
  rw [hb]
  have HB := Lib.hid hb
  clear hb
  unfold RetMsg
  have hm : msgV ⟨1, s, st⟩ = .iface 176 (.string s) := rfl
  have hi : isK ⟨1, s, st⟩ = true := rfl
  rw [hm]
  have HM := Lib.hid hm
  have HI := Lib.hid hi
  clear hm hi
  obtain ⟨v, hv⟩ : ∃ v, vB ⟨1, s, st⟩ = v := ⟨_, rfl⟩
  have HV := Lib.hid hv
  clear hv
  unfold frC
  go_enter Try.func86, Try.ntmps86
  have S : All (fun w' => Below w.heap.size w w' ∧ w'.heap[w.heap.size]? = some (.cells (frC ⟨1, s, st⟩).toArray 33 (0, 0))) (w.alloc (.cells #[.int .i64 1, .string s, .int .i64 st] 33)) := ⟨Later.alloc w _, heap_alloc_new w _⟩
  go_wp2_with fail
  generalize w.alloc (.cells #[.int .i64 1, .string s, .int .i64 st] 33) = W at S ⊢
  refine (messageOf_any ⟨1, s, st⟩ W).mono ?_
  rw [HM.out, HI.out]
  rintro e W1 ⟨rfl, hb⟩
  replace S := S.later hb
  clear hb
  go_upto_region 2 with (fail)
  cases v
  · obtain rfl : b = false := by rw [← HB.out, frB_split _ HI.out, HV.out]; rfl
    refine wp_region_open 100 (fun w' => w'.heap[w.heap.size]? = some (.cells (frC ⟨1, s, st⟩).toArray 33 (0, 0))) (by kernel_rfl) ?_
    replace S := S.drew
    refine wpAnyL_readsG [0, 1, 2, 3] (fuel := 10) (by kernel_rfl) S.out.2 ?_
    refine LexRG.yes rfl (by first | rfl | (simp [Region.wanted, yielded]; done)) ?_ (fun w' hw => ?_) ?_
    rotate_left
    focus (clear hw; go_simp; (try exact rfl))
    try go_frame
    refine LexRG.yes rfl (by first | rfl | (simp [Region.wanted, yielded]; done)) ?_ (fun w' hw => ?_) ?_
    rotate_left
    focus (clear hw; go_simp; (try exact rfl))
    try go_frame
    refine LexRG.yes rfl (by first | rfl | (simp [Region.wanted, yielded]; done)) ?_ (fun w' hw => ?_) ?_
    rotate_left
    focus (clear hw; go_simp; (try exact rfl))
    try go_frame
    refine LexRG.yes rfl (by first | rfl | (simp [Region.wanted, yielded]; done)) ?_ (fun w' hw => ?_) ?_
    rotate_left
    focus (clear hw; go_simp; (try exact rfl))
    try go_frame
    refine LexRG.nil ?_
    refine wpAnyL_one (i := 4) (by kernel_rfl) ?_
    refine lexA_get rfl ?_
    try go_frame
    go_wp2_with fail
    refine ((valid_1 (show nameB s.data.toList = false from HV.out) hs W1.drew)).mono ?_
    rintro e V1 ⟨rfl, hb⟩
    replace S := S.later hb
    clear hb
    go_wp2_with fail
    refine ⟨fun _ => S.out.2, ?_⟩
    refine wpAnyL_readsG [5, 6, 7, 9] (fuel := 5) (by kernel_rfl) S.out.2 ?_
    refine LexRG.yes rfl (by first | rfl | (simp [Region.wanted, yielded]; done)) ?_ (fun w' hw => ?_) ?_
    rotate_left
    focus (clear hw; go_simp; (try exact rfl))
    try go_frame
    refine LexRG.yes rfl (by first | rfl | (simp [Region.wanted, yielded]; done)) ?_ (fun w' hw => ?_) ?_
    rotate_left
    focus (clear hw; go_simp; (try exact rfl))
    try go_frame
    refine LexRG.no rfl (by first | rfl | (simp [Region.wanted, yielded]; done)) ?_
    try go_frame
    refine LexRG.no rfl (by first | rfl | (simp [Region.wanted, yielded]; done)) ?_
    try go_frame
    refine LexRG.nil ?_
    refine wpAnyL_one (i := 8) (by kernel_rfl) ?_
    refine lexA_get rfl ?_
    try go_frame
    go_wp2_with fail
    refine ⟨fun _ => S.out.2, ?_⟩
    refine wpAnyL_readsG [10, 11, 12] (fuel := 1) (by kernel_rfl) S.out.2 ?_
    refine LexRG.no rfl (by first | rfl | (simp [Region.wanted, yielded]; done)) ?_
    try go_frame
    refine LexRG.yes rfl (by first | rfl | (simp [Region.wanted, yielded]; done)) ?_ (fun w' hw => ?_) ?_
    rotate_left
    focus (clear hw; go_simp; (try exact rfl))
    try go_frame
    refine LexRG.yes rfl (by first | rfl | (simp [Region.wanted, yielded]; done)) ?_ (fun w' hw => ?_) ?_
    rotate_left
    focus (clear hw; go_simp; (try exact rfl))
    try go_frame
    refine LexRG.nil ?_
    refine wpAnyL_writes [13] (by kernel_rfl) (LexW.cons rfl ?_)
    try go_frame
    go_wp2_with fail
    refine ⟨fun _ => S.out.2, LexW.nil ?_⟩
    have hfin := S.out.1
    go_wp2_with fail
    go_ret2
    exact ⟨rfl, hfin⟩
  · have HQ := Lib.hid (show frEqB (outF ⟨1, s, st⟩) ⟨1, s, st⟩ = b by rw [← HB.out, frB_split _ HI.out, HV.out]; rfl)
    have G1 := fun a b w => fr_guard .eql a b (outF ⟨1, s, st⟩) ⟨1, s, st⟩ w
    have G2 := fun w => fr_equal (outF ⟨1, s, st⟩) ⟨1, s, st⟩ w
    rw [HQ.out] at G2
    have hout : (frC (outF ⟨1, s, st⟩)).toArray = #[.int .i64 1, .string s, .int .i64 0] := rfl
    rw [hout] at G1 G2
    replace G1 := fun a b w => G1 a b w
    have HO := Lib.hid hout
    clear hout
    unfold frC at G1 G2
    refine wp_region_open 100 (fun w' => w'.heap[w.heap.size]? = some (.cells (frC ⟨1, s, st⟩).toArray 33 (0, 0))) (by kernel_rfl) ?_
    replace S := S.drew
    refine wpAnyL_readsG [0, 1, 2, 3] (fuel := 10) (by kernel_rfl) S.out.2 ?_
    refine LexRG.yes rfl (by first | rfl | (simp [Region.wanted, yielded]; done)) ?_ (fun w' hw => ?_) ?_
    rotate_left
    focus (clear hw; go_simp; (try exact rfl))
    try go_frame
    refine LexRG.yes rfl (by first | rfl | (simp [Region.wanted, yielded]; done)) ?_ (fun w' hw => ?_) ?_
    rotate_left
    focus (clear hw; go_simp; (try exact rfl))
    try go_frame
    refine LexRG.yes rfl (by first | rfl | (simp [Region.wanted, yielded]; done)) ?_ (fun w' hw => ?_) ?_
    rotate_left
    focus (clear hw; go_simp; (try exact rfl))
    try go_frame
    refine LexRG.yes rfl (by first | rfl | (simp [Region.wanted, yielded]; done)) ?_ (fun w' hw => ?_) ?_
    rotate_left
    focus (clear hw; go_simp; (try exact rfl))
    try go_frame
    refine LexRG.nil ?_
    refine wpAnyL_one (i := 4) (by kernel_rfl) ?_
    refine lexA_get rfl ?_
    try go_frame
    go_wp2_with fail
    refine ((valid_1 (show nameB s.data.toList = true from HV.out) hs W1.drew)).mono ?_
    rintro e V1 ⟨rfl, hb⟩
    replace S := S.later hb
    clear hb
    go_wp2_with fail
    refine ⟨fun _ => S.out.2, ?_⟩
    refine wpAnyL_readsG [5, 6, 7, 9] (fuel := 5) (by kernel_rfl) S.out.2 ?_
    refine LexRG.yes rfl (by first | rfl | (simp [Region.wanted, yielded]; done)) ?_ (fun w' hw => ?_) ?_
    rotate_left
    focus (clear hw; go_simp; (try exact rfl))
    try go_frame
    refine LexRG.yes rfl (by first | rfl | (simp [Region.wanted, yielded]; done)) ?_ (fun w' hw => ?_) ?_
    rotate_left
    focus (clear hw; go_simp; (try exact rfl))
    try go_frame
    refine LexRG.yes rfl (by first | rfl | (simp [Region.wanted, yielded]; done)) ?_ (fun w' hw => ?_) ?_
    rotate_left
    focus (clear hw; go_simp; (try exact rfl))
    try go_frame
    refine LexRG.yes rfl (by first | rfl | (simp [Region.wanted, yielded]; done)) ?_ (fun w' hw => ?_) ?_
    rotate_left
    focus (obtain ⟨d0, d1, d2⟩ := fr_box (r := ⟨1, s, st⟩) hw; clear hw; go_simp; (try exact rfl))
    try go_frame
    refine LexRG.nil ?_
    refine wpAnyL_one (i := 8) (by kernel_rfl) ?_
    refine lexA_get rfl ?_
    try go_frame
    go_wp2_with fail
    refine (frameOf_any ⟨1, s, st⟩ V1).mono ?_
    rw [HO.out]
    rintro e V2 ⟨rfl, hb⟩
    replace S := S.later hb
    clear hb
    go_wp2_with fail
    refine ⟨fun _ => S.out.2, ?_⟩
    refine wpAnyL_readsG [10, 11, 12] (fuel := 1) (by kernel_rfl) S.out.2 ?_
    refine LexRG.yes rfl (by first | rfl | (simp [Region.wanted, yielded]; done)) ?_ (fun w' hw => ?_) ?_
    rotate_left
    focus (clear hw; go_simp; (try exact rfl))
    try go_frame
    refine LexRG.yes rfl (by first | rfl | (simp [Region.wanted, yielded]; done)) ?_ (fun w' hw => ?_) ?_
    rotate_left
    focus (clear hw; go_simp; (try exact rfl))
    try go_frame
    refine LexRG.yes rfl (by first | rfl | (simp [Region.wanted, yielded]; done)) ?_ (fun w' hw => ?_) ?_
    rotate_left
    focus (clear hw; go_simp; (try exact rfl))
    try go_frame
    refine LexRG.nil ?_
    refine wpAnyL_writes [13] (by kernel_rfl) (LexW.cons rfl ?_)
    try go_frame
    go_wp2_with fail
    refine ⟨fun _ => S.out.2, LexW.nil ?_⟩
    have hfin := S.out.1
    go_wp2_with fail
    go_ret2
    exact ⟨rfl, hfin⟩
set_option maxRecDepth 100000 in
set_option maxHeartbeats 8000000 in
theorem validMessage_2 (s : ByteArray) (st : Int) (w : World) (hs : s.size ≤ 1048576) : Calls Try.prog 86 #[.agg (frC ⟨2, s, st⟩).toArray] w (RetMsg w ⟨2, s, st⟩ (frB ⟨2, s, st⟩)) := by
  obtain ⟨b, hb⟩ : ∃ b, frB ⟨2, s, st⟩ = b := ⟨_, rfl⟩
  rw [hb]
  have HB := Lib.hid hb
  clear hb
  unfold RetMsg
  have hm : msgV ⟨2, s, st⟩ = .iface 177 (.string s) := rfl
  have hi : isK ⟨2, s, st⟩ = true := rfl
  rw [hm]
  have HM := Lib.hid hm
  have HI := Lib.hid hi
  clear hm hi
  obtain ⟨v, hv⟩ : ∃ v, vB ⟨2, s, st⟩ = v := ⟨_, rfl⟩
  have HV := Lib.hid hv
  clear hv
  unfold frC
  go_enter Try.func86, Try.ntmps86
  have S : All (fun w' => Below w.heap.size w w' ∧ w'.heap[w.heap.size]? = some (.cells (frC ⟨2, s, st⟩).toArray 33 (0, 0))) (w.alloc (.cells #[.int .i64 2, .string s, .int .i64 st] 33)) := ⟨Later.alloc w _, heap_alloc_new w _⟩
  go_wp2_with fail
  generalize w.alloc (.cells #[.int .i64 2, .string s, .int .i64 st] 33) = W at S ⊢
  refine (messageOf_any ⟨2, s, st⟩ W).mono ?_
  rw [HM.out, HI.out]
  rintro e W1 ⟨rfl, hb⟩
  replace S := S.later hb
  clear hb
  go_upto_region 2 with (fail)
  cases v
  · obtain rfl : b = false := by rw [← HB.out, frB_split _ HI.out, HV.out]; rfl
    refine wp_region_open 100 (fun w' => w'.heap[w.heap.size]? = some (.cells (frC ⟨2, s, st⟩).toArray 33 (0, 0))) (by kernel_rfl) ?_
    replace S := S.drew
    refine wpAnyL_readsG [0, 1, 2, 3] (fuel := 10) (by kernel_rfl) S.out.2 ?_
    refine LexRG.yes rfl (by first | rfl | (simp [Region.wanted, yielded]; done)) ?_ (fun w' hw => ?_) ?_
    rotate_left
    focus (clear hw; go_simp; (try exact rfl))
    try go_frame
    refine LexRG.yes rfl (by first | rfl | (simp [Region.wanted, yielded]; done)) ?_ (fun w' hw => ?_) ?_
    rotate_left
    focus (clear hw; go_simp; (try exact rfl))
    try go_frame
    refine LexRG.yes rfl (by first | rfl | (simp [Region.wanted, yielded]; done)) ?_ (fun w' hw => ?_) ?_
    rotate_left
    focus (clear hw; go_simp; (try exact rfl))
    try go_frame
    refine LexRG.yes rfl (by first | rfl | (simp [Region.wanted, yielded]; done)) ?_ (fun w' hw => ?_) ?_
    rotate_left
    focus (clear hw; go_simp; (try exact rfl))
    try go_frame
    refine LexRG.nil ?_
    refine wpAnyL_one (i := 4) (by kernel_rfl) ?_
    refine lexA_get rfl ?_
    try go_frame
    go_wp2_with fail
    refine ((valid_2 (show okB s.data.toList = false from HV.out) hs W1.drew)).mono ?_
    rintro e V1 ⟨rfl, hb⟩
    replace S := S.later hb
    clear hb
    go_wp2_with fail
    refine ⟨fun _ => S.out.2, ?_⟩
    refine wpAnyL_readsG [5, 6, 7, 9] (fuel := 5) (by kernel_rfl) S.out.2 ?_
    refine LexRG.yes rfl (by first | rfl | (simp [Region.wanted, yielded]; done)) ?_ (fun w' hw => ?_) ?_
    rotate_left
    focus (clear hw; go_simp; (try exact rfl))
    try go_frame
    refine LexRG.yes rfl (by first | rfl | (simp [Region.wanted, yielded]; done)) ?_ (fun w' hw => ?_) ?_
    rotate_left
    focus (clear hw; go_simp; (try exact rfl))
    try go_frame
    refine LexRG.no rfl (by first | rfl | (simp [Region.wanted, yielded]; done)) ?_
    try go_frame
    refine LexRG.no rfl (by first | rfl | (simp [Region.wanted, yielded]; done)) ?_
    try go_frame
    refine LexRG.nil ?_
    refine wpAnyL_one (i := 8) (by kernel_rfl) ?_
    refine lexA_get rfl ?_
    try go_frame
    go_wp2_with fail
    refine ⟨fun _ => S.out.2, ?_⟩
    refine wpAnyL_readsG [10, 11, 12] (fuel := 1) (by kernel_rfl) S.out.2 ?_
    refine LexRG.no rfl (by first | rfl | (simp [Region.wanted, yielded]; done)) ?_
    try go_frame
    refine LexRG.yes rfl (by first | rfl | (simp [Region.wanted, yielded]; done)) ?_ (fun w' hw => ?_) ?_
    rotate_left
    focus (clear hw; go_simp; (try exact rfl))
    try go_frame
    refine LexRG.yes rfl (by first | rfl | (simp [Region.wanted, yielded]; done)) ?_ (fun w' hw => ?_) ?_
    rotate_left
    focus (clear hw; go_simp; (try exact rfl))
    try go_frame
    refine LexRG.nil ?_
    refine wpAnyL_writes [13] (by kernel_rfl) (LexW.cons rfl ?_)
    try go_frame
    go_wp2_with fail
    refine ⟨fun _ => S.out.2, LexW.nil ?_⟩
    have hfin := S.out.1
    go_wp2_with fail
    go_ret2
    exact ⟨rfl, hfin⟩
  · have HQ := Lib.hid (show frEqB (outF ⟨2, s, st⟩) ⟨2, s, st⟩ = b by rw [← HB.out, frB_split _ HI.out, HV.out]; rfl)
    have G1 := fun a b w => fr_guard .eql a b (outF ⟨2, s, st⟩) ⟨2, s, st⟩ w
    have G2 := fun w => fr_equal (outF ⟨2, s, st⟩) ⟨2, s, st⟩ w
    rw [HQ.out] at G2
    have hout : (frC (outF ⟨2, s, st⟩)).toArray = #[.int .i64 2, .string s, .int .i64 0] := rfl
    rw [hout] at G1 G2
    replace G1 := fun a b w => G1 a b w
    have HO := Lib.hid hout
    clear hout
    unfold frC at G1 G2
    refine wp_region_open 100 (fun w' => w'.heap[w.heap.size]? = some (.cells (frC ⟨2, s, st⟩).toArray 33 (0, 0))) (by kernel_rfl) ?_
    replace S := S.drew
    refine wpAnyL_readsG [0, 1, 2, 3] (fuel := 10) (by kernel_rfl) S.out.2 ?_
    refine LexRG.yes rfl (by first | rfl | (simp [Region.wanted, yielded]; done)) ?_ (fun w' hw => ?_) ?_
    rotate_left
    focus (clear hw; go_simp; (try exact rfl))
    try go_frame
    refine LexRG.yes rfl (by first | rfl | (simp [Region.wanted, yielded]; done)) ?_ (fun w' hw => ?_) ?_
    rotate_left
    focus (clear hw; go_simp; (try exact rfl))
    try go_frame
    refine LexRG.yes rfl (by first | rfl | (simp [Region.wanted, yielded]; done)) ?_ (fun w' hw => ?_) ?_
    rotate_left
    focus (clear hw; go_simp; (try exact rfl))
    try go_frame
    refine LexRG.yes rfl (by first | rfl | (simp [Region.wanted, yielded]; done)) ?_ (fun w' hw => ?_) ?_
    rotate_left
    focus (clear hw; go_simp; (try exact rfl))
    try go_frame
    refine LexRG.nil ?_
    refine wpAnyL_one (i := 4) (by kernel_rfl) ?_
    refine lexA_get rfl ?_
    try go_frame
    go_wp2_with fail
    refine ((valid_2 (show okB s.data.toList = true from HV.out) hs W1.drew)).mono ?_
    rintro e V1 ⟨rfl, hb⟩
    replace S := S.later hb
    clear hb
    go_wp2_with fail
    refine ⟨fun _ => S.out.2, ?_⟩
    refine wpAnyL_readsG [5, 6, 7, 9] (fuel := 5) (by kernel_rfl) S.out.2 ?_
    refine LexRG.yes rfl (by first | rfl | (simp [Region.wanted, yielded]; done)) ?_ (fun w' hw => ?_) ?_
    rotate_left
    focus (clear hw; go_simp; (try exact rfl))
    try go_frame
    refine LexRG.yes rfl (by first | rfl | (simp [Region.wanted, yielded]; done)) ?_ (fun w' hw => ?_) ?_
    rotate_left
    focus (clear hw; go_simp; (try exact rfl))
    try go_frame
    refine LexRG.yes rfl (by first | rfl | (simp [Region.wanted, yielded]; done)) ?_ (fun w' hw => ?_) ?_
    rotate_left
    focus (clear hw; go_simp; (try exact rfl))
    try go_frame
    refine LexRG.yes rfl (by first | rfl | (simp [Region.wanted, yielded]; done)) ?_ (fun w' hw => ?_) ?_
    rotate_left
    focus (obtain ⟨d0, d1, d2⟩ := fr_box (r := ⟨2, s, st⟩) hw; clear hw; go_simp; (try exact rfl))
    try go_frame
    refine LexRG.nil ?_
    refine wpAnyL_one (i := 8) (by kernel_rfl) ?_
    refine lexA_get rfl ?_
    try go_frame
    go_wp2_with fail
    refine (frameOf_any ⟨2, s, st⟩ V1).mono ?_
    rw [HO.out]
    rintro e V2 ⟨rfl, hb⟩
    replace S := S.later hb
    clear hb
    go_wp2_with fail
    refine ⟨fun _ => S.out.2, ?_⟩
    refine wpAnyL_readsG [10, 11, 12] (fuel := 1) (by kernel_rfl) S.out.2 ?_
    refine LexRG.yes rfl (by first | rfl | (simp [Region.wanted, yielded]; done)) ?_ (fun w' hw => ?_) ?_
    rotate_left
    focus (clear hw; go_simp; (try exact rfl))
    try go_frame
    refine LexRG.yes rfl (by first | rfl | (simp [Region.wanted, yielded]; done)) ?_ (fun w' hw => ?_) ?_
    rotate_left
    focus (clear hw; go_simp; (try exact rfl))
    try go_frame
    refine LexRG.yes rfl (by first | rfl | (simp [Region.wanted, yielded]; done)) ?_ (fun w' hw => ?_) ?_
    rotate_left
    focus (clear hw; go_simp; (try exact rfl))
    try go_frame
    refine LexRG.nil ?_
    refine wpAnyL_writes [13] (by kernel_rfl) (LexW.cons rfl ?_)
    try go_frame
    go_wp2_with fail
    refine ⟨fun _ => S.out.2, LexW.nil ?_⟩
    have hfin := S.out.1
    go_wp2_with fail
    go_ret2
    exact ⟨rfl, hfin⟩
set_option maxRecDepth 100000 in
set_option maxHeartbeats 8000000 in
theorem validMessage_3 (s : ByteArray) (st : Int) (w : World) (hs : s.size ≤ 1048576) : Calls Try.prog 86 #[.agg (frC ⟨3, s, st⟩).toArray] w (RetMsg w ⟨3, s, st⟩ (frB ⟨3, s, st⟩)) := by
  obtain ⟨b, hb⟩ : ∃ b, frB ⟨3, s, st⟩ = b := ⟨_, rfl⟩
  rw [hb]
  have HB := Lib.hid hb
  clear hb
  unfold RetMsg
  have hm : msgV ⟨3, s, st⟩ = .iface 122 (.agg #[]) := rfl
  have hi : isK ⟨3, s, st⟩ = true := rfl
  rw [hm]
  have HM := Lib.hid hm
  have HI := Lib.hid hi
  clear hm hi
  unfold frC
  go_enter Try.func86, Try.ntmps86
  have S : All (fun w' => Below w.heap.size w w' ∧ w'.heap[w.heap.size]? = some (.cells (frC ⟨3, s, st⟩).toArray 33 (0, 0))) (w.alloc (.cells #[.int .i64 3, .string s, .int .i64 st] 33)) := ⟨Later.alloc w _, heap_alloc_new w _⟩
  go_wp2_with fail
  generalize w.alloc (.cells #[.int .i64 3, .string s, .int .i64 st] 33) = W at S ⊢
  refine (messageOf_any ⟨3, s, st⟩ W).mono ?_
  rw [HM.out, HI.out]
  rintro e W1 ⟨rfl, hb⟩
  replace S := S.later hb
  clear hb
  go_upto_region 2 with (fail)
  have HQ := Lib.hid (show frEqB (outF ⟨3, s, st⟩) ⟨3, s, st⟩ = b by rw [← HB.out, frB_split _ HI.out]; rfl)
  have G1 := fun a b w => fr_guard .eql a b (outF ⟨3, s, st⟩) ⟨3, s, st⟩ w
  have G2 := fun w => fr_equal (outF ⟨3, s, st⟩) ⟨3, s, st⟩ w
  rw [HQ.out] at G2
  have hout : (frC (outF ⟨3, s, st⟩)).toArray = #[.int .i64 3, .string ⟨#[]⟩, .int .i64 0] := rfl
  rw [hout] at G1 G2
  replace G1 := fun a b w => G1 a b w
  have HO := Lib.hid hout
  clear hout
  unfold frC at G1 G2
  refine wp_region_open 100 (fun w' => w'.heap[w.heap.size]? = some (.cells (frC ⟨3, s, st⟩).toArray 33 (0, 0))) (by kernel_rfl) ?_
  replace S := S.drew
  refine wpAnyL_readsG [0, 1, 2, 3] (fuel := 10) (by kernel_rfl) S.out.2 ?_
  refine LexRG.yes rfl (by first | rfl | (simp [Region.wanted, yielded]; done)) ?_ (fun w' hw => ?_) ?_
  rotate_left
  focus (clear hw; go_simp; (try exact rfl))
  try go_frame
  refine LexRG.yes rfl (by first | rfl | (simp [Region.wanted, yielded]; done)) ?_ (fun w' hw => ?_) ?_
  rotate_left
  focus (clear hw; go_simp; (try exact rfl))
  try go_frame
  refine LexRG.yes rfl (by first | rfl | (simp [Region.wanted, yielded]; done)) ?_ (fun w' hw => ?_) ?_
  rotate_left
  focus (clear hw; go_simp; (try exact rfl))
  try go_frame
  refine LexRG.yes rfl (by first | rfl | (simp [Region.wanted, yielded]; done)) ?_ (fun w' hw => ?_) ?_
  rotate_left
  focus (clear hw; go_simp; (try exact rfl))
  try go_frame
  refine LexRG.nil ?_
  refine wpAnyL_one (i := 4) (by kernel_rfl) ?_
  refine lexA_get rfl ?_
  try go_frame
  go_wp2_with fail
  refine (valid_3 W1.drew).mono ?_
  rintro e V1 ⟨rfl, hb⟩
  replace S := S.later hb
  clear hb
  go_wp2_with fail
  refine ⟨fun _ => S.out.2, ?_⟩
  refine wpAnyL_readsG [5, 6, 7, 9] (fuel := 5) (by kernel_rfl) S.out.2 ?_
  refine LexRG.yes rfl (by first | rfl | (simp [Region.wanted, yielded]; done)) ?_ (fun w' hw => ?_) ?_
  rotate_left
  focus (clear hw; go_simp; (try exact rfl))
  try go_frame
  refine LexRG.yes rfl (by first | rfl | (simp [Region.wanted, yielded]; done)) ?_ (fun w' hw => ?_) ?_
  rotate_left
  focus (clear hw; go_simp; (try exact rfl))
  try go_frame
  refine LexRG.yes rfl (by first | rfl | (simp [Region.wanted, yielded]; done)) ?_ (fun w' hw => ?_) ?_
  rotate_left
  focus (clear hw; go_simp; (try exact rfl))
  try go_frame
  refine LexRG.yes rfl (by first | rfl | (simp [Region.wanted, yielded]; done)) ?_ (fun w' hw => ?_) ?_
  rotate_left
  focus (obtain ⟨d0, d1, d2⟩ := fr_box (r := ⟨3, s, st⟩) hw; clear hw; go_simp; (try exact rfl))
  try go_frame
  refine LexRG.nil ?_
  refine wpAnyL_one (i := 8) (by kernel_rfl) ?_
  refine lexA_get rfl ?_
  try go_frame
  go_wp2_with fail
  refine (frameOf_any ⟨3, s, st⟩ V1).mono ?_
  rw [HO.out]
  rintro e V2 ⟨rfl, hb⟩
  replace S := S.later hb
  clear hb
  go_wp2_with fail
  refine ⟨fun _ => S.out.2, ?_⟩
  refine wpAnyL_readsG [10, 11, 12] (fuel := 1) (by kernel_rfl) S.out.2 ?_
  refine LexRG.yes rfl (by first | rfl | (simp [Region.wanted, yielded]; done)) ?_ (fun w' hw => ?_) ?_
  rotate_left
  focus (clear hw; go_simp; (try exact rfl))
  try go_frame
  refine LexRG.yes rfl (by first | rfl | (simp [Region.wanted, yielded]; done)) ?_ (fun w' hw => ?_) ?_
  rotate_left
  focus (clear hw; go_simp; (try exact rfl))
  try go_frame
  refine LexRG.yes rfl (by first | rfl | (simp [Region.wanted, yielded]; done)) ?_ (fun w' hw => ?_) ?_
  rotate_left
  focus (clear hw; go_simp; (try exact rfl))
  try go_frame
  refine LexRG.nil ?_
  refine wpAnyL_writes [13] (by kernel_rfl) (LexW.cons rfl ?_)
  try go_frame
  go_wp2_with fail
  refine ⟨fun _ => S.out.2, LexW.nil ?_⟩
  have hfin := S.out.1
  go_wp2_with fail
  go_ret2
  exact ⟨rfl, hfin⟩
set_option maxRecDepth 100000 in
set_option maxHeartbeats 8000000 in
theorem validMessage_4 (s : ByteArray) (st : Int) (w : World) (hs : s.size ≤ 1048576) : Calls Try.prog 86 #[.agg (frC ⟨4, s, st⟩).toArray] w (RetMsg w ⟨4, s, st⟩ (frB ⟨4, s, st⟩)) := by
  obtain ⟨b, hb⟩ : ∃ b, frB ⟨4, s, st⟩ = b := ⟨_, rfl⟩
  rw [hb]
  have HB := Lib.hid hb
  clear hb
  unfold RetMsg
  have hm : msgV ⟨4, s, st⟩ = .iface 178 (.string s) := rfl
  have hi : isK ⟨4, s, st⟩ = true := rfl
  rw [hm]
  have HM := Lib.hid hm
  have HI := Lib.hid hi
  clear hm hi
  obtain ⟨v, hv⟩ : ∃ v, vB ⟨4, s, st⟩ = v := ⟨_, rfl⟩
  have HV := Lib.hid hv
  clear hv
  unfold frC
  go_enter Try.func86, Try.ntmps86
  have S : All (fun w' => Below w.heap.size w w' ∧ w'.heap[w.heap.size]? = some (.cells (frC ⟨4, s, st⟩).toArray 33 (0, 0))) (w.alloc (.cells #[.int .i64 4, .string s, .int .i64 st] 33)) := ⟨Later.alloc w _, heap_alloc_new w _⟩
  go_wp2_with fail
  generalize w.alloc (.cells #[.int .i64 4, .string s, .int .i64 st] 33) = W at S ⊢
  refine (messageOf_any ⟨4, s, st⟩ W).mono ?_
  rw [HM.out, HI.out]
  rintro e W1 ⟨rfl, hb⟩
  replace S := S.later hb
  clear hb
  go_upto_region 2 with (fail)
  cases v
  · obtain rfl : b = false := by rw [← HB.out, frB_split _ HI.out, HV.out]; rfl
    refine wp_region_open 100 (fun w' => w'.heap[w.heap.size]? = some (.cells (frC ⟨4, s, st⟩).toArray 33 (0, 0))) (by kernel_rfl) ?_
    replace S := S.drew
    refine wpAnyL_readsG [0, 1, 2, 3] (fuel := 10) (by kernel_rfl) S.out.2 ?_
    refine LexRG.yes rfl (by first | rfl | (simp [Region.wanted, yielded]; done)) ?_ (fun w' hw => ?_) ?_
    rotate_left
    focus (clear hw; go_simp; (try exact rfl))
    try go_frame
    refine LexRG.yes rfl (by first | rfl | (simp [Region.wanted, yielded]; done)) ?_ (fun w' hw => ?_) ?_
    rotate_left
    focus (clear hw; go_simp; (try exact rfl))
    try go_frame
    refine LexRG.yes rfl (by first | rfl | (simp [Region.wanted, yielded]; done)) ?_ (fun w' hw => ?_) ?_
    rotate_left
    focus (clear hw; go_simp; (try exact rfl))
    try go_frame
    refine LexRG.yes rfl (by first | rfl | (simp [Region.wanted, yielded]; done)) ?_ (fun w' hw => ?_) ?_
    rotate_left
    focus (clear hw; go_simp; (try exact rfl))
    try go_frame
    refine LexRG.nil ?_
    refine wpAnyL_one (i := 4) (by kernel_rfl) ?_
    refine lexA_get rfl ?_
    try go_frame
    go_wp2_with fail
    refine ((valid_4 (show okB s.data.toList = false from HV.out) hs W1.drew)).mono ?_
    rintro e V1 ⟨rfl, hb⟩
    replace S := S.later hb
    clear hb
    go_wp2_with fail
    refine ⟨fun _ => S.out.2, ?_⟩
    refine wpAnyL_readsG [5, 6, 7, 9] (fuel := 5) (by kernel_rfl) S.out.2 ?_
    refine LexRG.yes rfl (by first | rfl | (simp [Region.wanted, yielded]; done)) ?_ (fun w' hw => ?_) ?_
    rotate_left
    focus (clear hw; go_simp; (try exact rfl))
    try go_frame
    refine LexRG.yes rfl (by first | rfl | (simp [Region.wanted, yielded]; done)) ?_ (fun w' hw => ?_) ?_
    rotate_left
    focus (clear hw; go_simp; (try exact rfl))
    try go_frame
    refine LexRG.no rfl (by first | rfl | (simp [Region.wanted, yielded]; done)) ?_
    try go_frame
    refine LexRG.no rfl (by first | rfl | (simp [Region.wanted, yielded]; done)) ?_
    try go_frame
    refine LexRG.nil ?_
    refine wpAnyL_one (i := 8) (by kernel_rfl) ?_
    refine lexA_get rfl ?_
    try go_frame
    go_wp2_with fail
    refine ⟨fun _ => S.out.2, ?_⟩
    refine wpAnyL_readsG [10, 11, 12] (fuel := 1) (by kernel_rfl) S.out.2 ?_
    refine LexRG.no rfl (by first | rfl | (simp [Region.wanted, yielded]; done)) ?_
    try go_frame
    refine LexRG.yes rfl (by first | rfl | (simp [Region.wanted, yielded]; done)) ?_ (fun w' hw => ?_) ?_
    rotate_left
    focus (clear hw; go_simp; (try exact rfl))
    try go_frame
    refine LexRG.yes rfl (by first | rfl | (simp [Region.wanted, yielded]; done)) ?_ (fun w' hw => ?_) ?_
    rotate_left
    focus (clear hw; go_simp; (try exact rfl))
    try go_frame
    refine LexRG.nil ?_
    refine wpAnyL_writes [13] (by kernel_rfl) (LexW.cons rfl ?_)
    try go_frame
    go_wp2_with fail
    refine ⟨fun _ => S.out.2, LexW.nil ?_⟩
    have hfin := S.out.1
    go_wp2_with fail
    go_ret2
    exact ⟨rfl, hfin⟩
  · have HQ := Lib.hid (show frEqB (outF ⟨4, s, st⟩) ⟨4, s, st⟩ = b by rw [← HB.out, frB_split _ HI.out, HV.out]; rfl)
    have G1 := fun a b w => fr_guard .eql a b (outF ⟨4, s, st⟩) ⟨4, s, st⟩ w
    have G2 := fun w => fr_equal (outF ⟨4, s, st⟩) ⟨4, s, st⟩ w
    rw [HQ.out] at G2
    have hout : (frC (outF ⟨4, s, st⟩)).toArray = #[.int .i64 4, .string s, .int .i64 0] := rfl
    rw [hout] at G1 G2
    replace G1 := fun a b w => G1 a b w
    have HO := Lib.hid hout
    clear hout
    unfold frC at G1 G2
    refine wp_region_open 100 (fun w' => w'.heap[w.heap.size]? = some (.cells (frC ⟨4, s, st⟩).toArray 33 (0, 0))) (by kernel_rfl) ?_
    replace S := S.drew
    refine wpAnyL_readsG [0, 1, 2, 3] (fuel := 10) (by kernel_rfl) S.out.2 ?_
    refine LexRG.yes rfl (by first | rfl | (simp [Region.wanted, yielded]; done)) ?_ (fun w' hw => ?_) ?_
    rotate_left
    focus (clear hw; go_simp; (try exact rfl))
    try go_frame
    refine LexRG.yes rfl (by first | rfl | (simp [Region.wanted, yielded]; done)) ?_ (fun w' hw => ?_) ?_
    rotate_left
    focus (clear hw; go_simp; (try exact rfl))
    try go_frame
    refine LexRG.yes rfl (by first | rfl | (simp [Region.wanted, yielded]; done)) ?_ (fun w' hw => ?_) ?_
    rotate_left
    focus (clear hw; go_simp; (try exact rfl))
    try go_frame
    refine LexRG.yes rfl (by first | rfl | (simp [Region.wanted, yielded]; done)) ?_ (fun w' hw => ?_) ?_
    rotate_left
    focus (clear hw; go_simp; (try exact rfl))
    try go_frame
    refine LexRG.nil ?_
    refine wpAnyL_one (i := 4) (by kernel_rfl) ?_
    refine lexA_get rfl ?_
    try go_frame
    go_wp2_with fail
    refine ((valid_4 (show okB s.data.toList = true from HV.out) hs W1.drew)).mono ?_
    rintro e V1 ⟨rfl, hb⟩
    replace S := S.later hb
    clear hb
    go_wp2_with fail
    refine ⟨fun _ => S.out.2, ?_⟩
    refine wpAnyL_readsG [5, 6, 7, 9] (fuel := 5) (by kernel_rfl) S.out.2 ?_
    refine LexRG.yes rfl (by first | rfl | (simp [Region.wanted, yielded]; done)) ?_ (fun w' hw => ?_) ?_
    rotate_left
    focus (clear hw; go_simp; (try exact rfl))
    try go_frame
    refine LexRG.yes rfl (by first | rfl | (simp [Region.wanted, yielded]; done)) ?_ (fun w' hw => ?_) ?_
    rotate_left
    focus (clear hw; go_simp; (try exact rfl))
    try go_frame
    refine LexRG.yes rfl (by first | rfl | (simp [Region.wanted, yielded]; done)) ?_ (fun w' hw => ?_) ?_
    rotate_left
    focus (clear hw; go_simp; (try exact rfl))
    try go_frame
    refine LexRG.yes rfl (by first | rfl | (simp [Region.wanted, yielded]; done)) ?_ (fun w' hw => ?_) ?_
    rotate_left
    focus (obtain ⟨d0, d1, d2⟩ := fr_box (r := ⟨4, s, st⟩) hw; clear hw; go_simp; (try exact rfl))
    try go_frame
    refine LexRG.nil ?_
    refine wpAnyL_one (i := 8) (by kernel_rfl) ?_
    refine lexA_get rfl ?_
    try go_frame
    go_wp2_with fail
    refine (frameOf_any ⟨4, s, st⟩ V1).mono ?_
    rw [HO.out]
    rintro e V2 ⟨rfl, hb⟩
    replace S := S.later hb
    clear hb
    go_wp2_with fail
    refine ⟨fun _ => S.out.2, ?_⟩
    refine wpAnyL_readsG [10, 11, 12] (fuel := 1) (by kernel_rfl) S.out.2 ?_
    refine LexRG.yes rfl (by first | rfl | (simp [Region.wanted, yielded]; done)) ?_ (fun w' hw => ?_) ?_
    rotate_left
    focus (clear hw; go_simp; (try exact rfl))
    try go_frame
    refine LexRG.yes rfl (by first | rfl | (simp [Region.wanted, yielded]; done)) ?_ (fun w' hw => ?_) ?_
    rotate_left
    focus (clear hw; go_simp; (try exact rfl))
    try go_frame
    refine LexRG.yes rfl (by first | rfl | (simp [Region.wanted, yielded]; done)) ?_ (fun w' hw => ?_) ?_
    rotate_left
    focus (clear hw; go_simp; (try exact rfl))
    try go_frame
    refine LexRG.nil ?_
    refine wpAnyL_writes [13] (by kernel_rfl) (LexW.cons rfl ?_)
    try go_frame
    go_wp2_with fail
    refine ⟨fun _ => S.out.2, LexW.nil ?_⟩
    have hfin := S.out.1
    go_wp2_with fail
    go_ret2
    exact ⟨rfl, hfin⟩
set_option maxRecDepth 100000 in
set_option maxHeartbeats 8000000 in
theorem validMessage_5 (s : ByteArray) (st : Int) (w : World) (hs : s.size ≤ 1048576) : Calls Try.prog 86 #[.agg (frC ⟨5, s, st⟩).toArray] w (RetMsg w ⟨5, s, st⟩ (frB ⟨5, s, st⟩)) := by
  obtain ⟨b, hb⟩ : ∃ b, frB ⟨5, s, st⟩ = b := ⟨_, rfl⟩
  rw [hb]
  have HB := Lib.hid hb
  clear hb
  unfold RetMsg
  have hm : msgV ⟨5, s, st⟩ = .iface 123 (.int .i64 st) := rfl
  have hi : isK ⟨5, s, st⟩ = true := rfl
  rw [hm]
  have HM := Lib.hid hm
  have HI := Lib.hid hi
  clear hm hi
  obtain ⟨v, hv⟩ : ∃ v, vB ⟨5, s, st⟩ = v := ⟨_, rfl⟩
  have HV := Lib.hid hv
  clear hv
  unfold frC
  go_enter Try.func86, Try.ntmps86
  have S : All (fun w' => Below w.heap.size w w' ∧ w'.heap[w.heap.size]? = some (.cells (frC ⟨5, s, st⟩).toArray 33 (0, 0))) (w.alloc (.cells #[.int .i64 5, .string s, .int .i64 st] 33)) := ⟨Later.alloc w _, heap_alloc_new w _⟩
  go_wp2_with fail
  generalize w.alloc (.cells #[.int .i64 5, .string s, .int .i64 st] 33) = W at S ⊢
  refine (messageOf_any ⟨5, s, st⟩ W).mono ?_
  rw [HM.out, HI.out]
  rintro e W1 ⟨rfl, hb⟩
  replace S := S.later hb
  clear hb
  go_upto_region 2 with (fail)
  cases v
  · obtain rfl : b = false := by rw [← HB.out, frB_split _ HI.out, HV.out]; rfl
    refine wp_region_open 100 (fun w' => w'.heap[w.heap.size]? = some (.cells (frC ⟨5, s, st⟩).toArray 33 (0, 0))) (by kernel_rfl) ?_
    replace S := S.drew
    refine wpAnyL_readsG [0, 1, 2, 3] (fuel := 10) (by kernel_rfl) S.out.2 ?_
    refine LexRG.yes rfl (by first | rfl | (simp [Region.wanted, yielded]; done)) ?_ (fun w' hw => ?_) ?_
    rotate_left
    focus (clear hw; go_simp; (try exact rfl))
    try go_frame
    refine LexRG.yes rfl (by first | rfl | (simp [Region.wanted, yielded]; done)) ?_ (fun w' hw => ?_) ?_
    rotate_left
    focus (clear hw; go_simp; (try exact rfl))
    try go_frame
    refine LexRG.yes rfl (by first | rfl | (simp [Region.wanted, yielded]; done)) ?_ (fun w' hw => ?_) ?_
    rotate_left
    focus (clear hw; go_simp; (try exact rfl))
    try go_frame
    refine LexRG.yes rfl (by first | rfl | (simp [Region.wanted, yielded]; done)) ?_ (fun w' hw => ?_) ?_
    rotate_left
    focus (clear hw; go_simp; (try exact rfl))
    try go_frame
    refine LexRG.nil ?_
    refine wpAnyL_one (i := 4) (by kernel_rfl) ?_
    refine lexA_get rfl ?_
    try go_frame
    go_wp2_with fail
    refine ((valid_5 (show inI st 0 2 = false from HV.out) W1.drew)).mono ?_
    rintro e V1 ⟨rfl, hb⟩
    replace S := S.later hb
    clear hb
    go_wp2_with fail
    refine ⟨fun _ => S.out.2, ?_⟩
    refine wpAnyL_readsG [5, 6, 7, 9] (fuel := 5) (by kernel_rfl) S.out.2 ?_
    refine LexRG.yes rfl (by first | rfl | (simp [Region.wanted, yielded]; done)) ?_ (fun w' hw => ?_) ?_
    rotate_left
    focus (clear hw; go_simp; (try exact rfl))
    try go_frame
    refine LexRG.yes rfl (by first | rfl | (simp [Region.wanted, yielded]; done)) ?_ (fun w' hw => ?_) ?_
    rotate_left
    focus (clear hw; go_simp; (try exact rfl))
    try go_frame
    refine LexRG.no rfl (by first | rfl | (simp [Region.wanted, yielded]; done)) ?_
    try go_frame
    refine LexRG.no rfl (by first | rfl | (simp [Region.wanted, yielded]; done)) ?_
    try go_frame
    refine LexRG.nil ?_
    refine wpAnyL_one (i := 8) (by kernel_rfl) ?_
    refine lexA_get rfl ?_
    try go_frame
    go_wp2_with fail
    refine ⟨fun _ => S.out.2, ?_⟩
    refine wpAnyL_readsG [10, 11, 12] (fuel := 1) (by kernel_rfl) S.out.2 ?_
    refine LexRG.no rfl (by first | rfl | (simp [Region.wanted, yielded]; done)) ?_
    try go_frame
    refine LexRG.yes rfl (by first | rfl | (simp [Region.wanted, yielded]; done)) ?_ (fun w' hw => ?_) ?_
    rotate_left
    focus (clear hw; go_simp; (try exact rfl))
    try go_frame
    refine LexRG.yes rfl (by first | rfl | (simp [Region.wanted, yielded]; done)) ?_ (fun w' hw => ?_) ?_
    rotate_left
    focus (clear hw; go_simp; (try exact rfl))
    try go_frame
    refine LexRG.nil ?_
    refine wpAnyL_writes [13] (by kernel_rfl) (LexW.cons rfl ?_)
    try go_frame
    go_wp2_with fail
    refine ⟨fun _ => S.out.2, LexW.nil ?_⟩
    have hfin := S.out.1
    go_wp2_with fail
    go_ret2
    exact ⟨rfl, hfin⟩
  · have HQ := Lib.hid (show frEqB (outF ⟨5, s, st⟩) ⟨5, s, st⟩ = b by rw [← HB.out, frB_split _ HI.out, HV.out]; rfl)
    have G1 := fun a b w => fr_guard .eql a b (outF ⟨5, s, st⟩) ⟨5, s, st⟩ w
    have G2 := fun w => fr_equal (outF ⟨5, s, st⟩) ⟨5, s, st⟩ w
    rw [HQ.out] at G2
    have hout : (frC (outF ⟨5, s, st⟩)).toArray = #[.int .i64 5, .string ⟨#[]⟩, .int .i64 st] := rfl
    rw [hout] at G1 G2
    replace G1 := fun a b w => G1 a b w
    have HO := Lib.hid hout
    clear hout
    unfold frC at G1 G2
    refine wp_region_open 100 (fun w' => w'.heap[w.heap.size]? = some (.cells (frC ⟨5, s, st⟩).toArray 33 (0, 0))) (by kernel_rfl) ?_
    replace S := S.drew
    refine wpAnyL_readsG [0, 1, 2, 3] (fuel := 10) (by kernel_rfl) S.out.2 ?_
    refine LexRG.yes rfl (by first | rfl | (simp [Region.wanted, yielded]; done)) ?_ (fun w' hw => ?_) ?_
    rotate_left
    focus (clear hw; go_simp; (try exact rfl))
    try go_frame
    refine LexRG.yes rfl (by first | rfl | (simp [Region.wanted, yielded]; done)) ?_ (fun w' hw => ?_) ?_
    rotate_left
    focus (clear hw; go_simp; (try exact rfl))
    try go_frame
    refine LexRG.yes rfl (by first | rfl | (simp [Region.wanted, yielded]; done)) ?_ (fun w' hw => ?_) ?_
    rotate_left
    focus (clear hw; go_simp; (try exact rfl))
    try go_frame
    refine LexRG.yes rfl (by first | rfl | (simp [Region.wanted, yielded]; done)) ?_ (fun w' hw => ?_) ?_
    rotate_left
    focus (clear hw; go_simp; (try exact rfl))
    try go_frame
    refine LexRG.nil ?_
    refine wpAnyL_one (i := 4) (by kernel_rfl) ?_
    refine lexA_get rfl ?_
    try go_frame
    go_wp2_with fail
    refine ((valid_5 (show inI st 0 2 = true from HV.out) W1.drew)).mono ?_
    rintro e V1 ⟨rfl, hb⟩
    replace S := S.later hb
    clear hb
    go_wp2_with fail
    refine ⟨fun _ => S.out.2, ?_⟩
    refine wpAnyL_readsG [5, 6, 7, 9] (fuel := 5) (by kernel_rfl) S.out.2 ?_
    refine LexRG.yes rfl (by first | rfl | (simp [Region.wanted, yielded]; done)) ?_ (fun w' hw => ?_) ?_
    rotate_left
    focus (clear hw; go_simp; (try exact rfl))
    try go_frame
    refine LexRG.yes rfl (by first | rfl | (simp [Region.wanted, yielded]; done)) ?_ (fun w' hw => ?_) ?_
    rotate_left
    focus (clear hw; go_simp; (try exact rfl))
    try go_frame
    refine LexRG.yes rfl (by first | rfl | (simp [Region.wanted, yielded]; done)) ?_ (fun w' hw => ?_) ?_
    rotate_left
    focus (clear hw; go_simp; (try exact rfl))
    try go_frame
    refine LexRG.yes rfl (by first | rfl | (simp [Region.wanted, yielded]; done)) ?_ (fun w' hw => ?_) ?_
    rotate_left
    focus (obtain ⟨d0, d1, d2⟩ := fr_box (r := ⟨5, s, st⟩) hw; clear hw; go_simp; (try exact rfl))
    try go_frame
    refine LexRG.nil ?_
    refine wpAnyL_one (i := 8) (by kernel_rfl) ?_
    refine lexA_get rfl ?_
    try go_frame
    go_wp2_with fail
    refine (frameOf_any ⟨5, s, st⟩ V1).mono ?_
    rw [HO.out]
    rintro e V2 ⟨rfl, hb⟩
    replace S := S.later hb
    clear hb
    go_wp2_with fail
    refine ⟨fun _ => S.out.2, ?_⟩
    refine wpAnyL_readsG [10, 11, 12] (fuel := 1) (by kernel_rfl) S.out.2 ?_
    refine LexRG.yes rfl (by first | rfl | (simp [Region.wanted, yielded]; done)) ?_ (fun w' hw => ?_) ?_
    rotate_left
    focus (clear hw; go_simp; (try exact rfl))
    try go_frame
    refine LexRG.yes rfl (by first | rfl | (simp [Region.wanted, yielded]; done)) ?_ (fun w' hw => ?_) ?_
    rotate_left
    focus (clear hw; go_simp; (try exact rfl))
    try go_frame
    refine LexRG.yes rfl (by first | rfl | (simp [Region.wanted, yielded]; done)) ?_ (fun w' hw => ?_) ?_
    rotate_left
    focus (clear hw; go_simp; (try exact rfl))
    try go_frame
    refine LexRG.nil ?_
    refine wpAnyL_writes [13] (by kernel_rfl) (LexW.cons rfl ?_)
    try go_frame
    go_wp2_with fail
    refine ⟨fun _ => S.out.2, LexW.nil ?_⟩
    have hfin := S.out.1
    go_wp2_with fail
    go_ret2
    exact ⟨rfl, hfin⟩
set_option maxRecDepth 100000 in
set_option maxHeartbeats 8000000 in
theorem validMessage_6 (s : ByteArray) (st : Int) (w : World) (hs : s.size ≤ 1048576) : Calls Try.prog 86 #[.agg (frC ⟨6, s, st⟩).toArray] w (RetMsg w ⟨6, s, st⟩ (frB ⟨6, s, st⟩)) := by
  obtain ⟨b, hb⟩ : ∃ b, frB ⟨6, s, st⟩ = b := ⟨_, rfl⟩
  rw [hb]
  have HB := Lib.hid hb
  clear hb
  unfold RetMsg
  have hm : msgV ⟨6, s, st⟩ = .iface 179 (.string s) := rfl
  have hi : isK ⟨6, s, st⟩ = true := rfl
  rw [hm]
  have HM := Lib.hid hm
  have HI := Lib.hid hi
  clear hm hi
  obtain ⟨v, hv⟩ : ∃ v, vB ⟨6, s, st⟩ = v := ⟨_, rfl⟩
  have HV := Lib.hid hv
  clear hv
  unfold frC
  go_enter Try.func86, Try.ntmps86
  have S : All (fun w' => Below w.heap.size w w' ∧ w'.heap[w.heap.size]? = some (.cells (frC ⟨6, s, st⟩).toArray 33 (0, 0))) (w.alloc (.cells #[.int .i64 6, .string s, .int .i64 st] 33)) := ⟨Later.alloc w _, heap_alloc_new w _⟩
  go_wp2_with fail
  generalize w.alloc (.cells #[.int .i64 6, .string s, .int .i64 st] 33) = W at S ⊢
  refine (messageOf_any ⟨6, s, st⟩ W).mono ?_
  rw [HM.out, HI.out]
  rintro e W1 ⟨rfl, hb⟩
  replace S := S.later hb
  clear hb
  go_upto_region 2 with (fail)
  cases v
  · obtain rfl : b = false := by rw [← HB.out, frB_split _ HI.out, HV.out]; rfl
    refine wp_region_open 100 (fun w' => w'.heap[w.heap.size]? = some (.cells (frC ⟨6, s, st⟩).toArray 33 (0, 0))) (by kernel_rfl) ?_
    replace S := S.drew
    refine wpAnyL_readsG [0, 1, 2, 3] (fuel := 10) (by kernel_rfl) S.out.2 ?_
    refine LexRG.yes rfl (by first | rfl | (simp [Region.wanted, yielded]; done)) ?_ (fun w' hw => ?_) ?_
    rotate_left
    focus (clear hw; go_simp; (try exact rfl))
    try go_frame
    refine LexRG.yes rfl (by first | rfl | (simp [Region.wanted, yielded]; done)) ?_ (fun w' hw => ?_) ?_
    rotate_left
    focus (clear hw; go_simp; (try exact rfl))
    try go_frame
    refine LexRG.yes rfl (by first | rfl | (simp [Region.wanted, yielded]; done)) ?_ (fun w' hw => ?_) ?_
    rotate_left
    focus (clear hw; go_simp; (try exact rfl))
    try go_frame
    refine LexRG.yes rfl (by first | rfl | (simp [Region.wanted, yielded]; done)) ?_ (fun w' hw => ?_) ?_
    rotate_left
    focus (clear hw; go_simp; (try exact rfl))
    try go_frame
    refine LexRG.nil ?_
    refine wpAnyL_one (i := 4) (by kernel_rfl) ?_
    refine lexA_get rfl ?_
    try go_frame
    go_wp2_with fail
    refine ((valid_6 (show okB s.data.toList = false from HV.out) hs W1.drew)).mono ?_
    rintro e V1 ⟨rfl, hb⟩
    replace S := S.later hb
    clear hb
    go_wp2_with fail
    refine ⟨fun _ => S.out.2, ?_⟩
    refine wpAnyL_readsG [5, 6, 7, 9] (fuel := 5) (by kernel_rfl) S.out.2 ?_
    refine LexRG.yes rfl (by first | rfl | (simp [Region.wanted, yielded]; done)) ?_ (fun w' hw => ?_) ?_
    rotate_left
    focus (clear hw; go_simp; (try exact rfl))
    try go_frame
    refine LexRG.yes rfl (by first | rfl | (simp [Region.wanted, yielded]; done)) ?_ (fun w' hw => ?_) ?_
    rotate_left
    focus (clear hw; go_simp; (try exact rfl))
    try go_frame
    refine LexRG.no rfl (by first | rfl | (simp [Region.wanted, yielded]; done)) ?_
    try go_frame
    refine LexRG.no rfl (by first | rfl | (simp [Region.wanted, yielded]; done)) ?_
    try go_frame
    refine LexRG.nil ?_
    refine wpAnyL_one (i := 8) (by kernel_rfl) ?_
    refine lexA_get rfl ?_
    try go_frame
    go_wp2_with fail
    refine ⟨fun _ => S.out.2, ?_⟩
    refine wpAnyL_readsG [10, 11, 12] (fuel := 1) (by kernel_rfl) S.out.2 ?_
    refine LexRG.no rfl (by first | rfl | (simp [Region.wanted, yielded]; done)) ?_
    try go_frame
    refine LexRG.yes rfl (by first | rfl | (simp [Region.wanted, yielded]; done)) ?_ (fun w' hw => ?_) ?_
    rotate_left
    focus (clear hw; go_simp; (try exact rfl))
    try go_frame
    refine LexRG.yes rfl (by first | rfl | (simp [Region.wanted, yielded]; done)) ?_ (fun w' hw => ?_) ?_
    rotate_left
    focus (clear hw; go_simp; (try exact rfl))
    try go_frame
    refine LexRG.nil ?_
    refine wpAnyL_writes [13] (by kernel_rfl) (LexW.cons rfl ?_)
    try go_frame
    go_wp2_with fail
    refine ⟨fun _ => S.out.2, LexW.nil ?_⟩
    have hfin := S.out.1
    go_wp2_with fail
    go_ret2
    exact ⟨rfl, hfin⟩
  · have HQ := Lib.hid (show frEqB (outF ⟨6, s, st⟩) ⟨6, s, st⟩ = b by rw [← HB.out, frB_split _ HI.out, HV.out]; rfl)
    have G1 := fun a b w => fr_guard .eql a b (outF ⟨6, s, st⟩) ⟨6, s, st⟩ w
    have G2 := fun w => fr_equal (outF ⟨6, s, st⟩) ⟨6, s, st⟩ w
    rw [HQ.out] at G2
    have hout : (frC (outF ⟨6, s, st⟩)).toArray = #[.int .i64 6, .string s, .int .i64 0] := rfl
    rw [hout] at G1 G2
    replace G1 := fun a b w => G1 a b w
    have HO := Lib.hid hout
    clear hout
    unfold frC at G1 G2
    refine wp_region_open 100 (fun w' => w'.heap[w.heap.size]? = some (.cells (frC ⟨6, s, st⟩).toArray 33 (0, 0))) (by kernel_rfl) ?_
    replace S := S.drew
    refine wpAnyL_readsG [0, 1, 2, 3] (fuel := 10) (by kernel_rfl) S.out.2 ?_
    refine LexRG.yes rfl (by first | rfl | (simp [Region.wanted, yielded]; done)) ?_ (fun w' hw => ?_) ?_
    rotate_left
    focus (clear hw; go_simp; (try exact rfl))
    try go_frame
    refine LexRG.yes rfl (by first | rfl | (simp [Region.wanted, yielded]; done)) ?_ (fun w' hw => ?_) ?_
    rotate_left
    focus (clear hw; go_simp; (try exact rfl))
    try go_frame
    refine LexRG.yes rfl (by first | rfl | (simp [Region.wanted, yielded]; done)) ?_ (fun w' hw => ?_) ?_
    rotate_left
    focus (clear hw; go_simp; (try exact rfl))
    try go_frame
    refine LexRG.yes rfl (by first | rfl | (simp [Region.wanted, yielded]; done)) ?_ (fun w' hw => ?_) ?_
    rotate_left
    focus (clear hw; go_simp; (try exact rfl))
    try go_frame
    refine LexRG.nil ?_
    refine wpAnyL_one (i := 4) (by kernel_rfl) ?_
    refine lexA_get rfl ?_
    try go_frame
    go_wp2_with fail
    refine ((valid_6 (show okB s.data.toList = true from HV.out) hs W1.drew)).mono ?_
    rintro e V1 ⟨rfl, hb⟩
    replace S := S.later hb
    clear hb
    go_wp2_with fail
    refine ⟨fun _ => S.out.2, ?_⟩
    refine wpAnyL_readsG [5, 6, 7, 9] (fuel := 5) (by kernel_rfl) S.out.2 ?_
    refine LexRG.yes rfl (by first | rfl | (simp [Region.wanted, yielded]; done)) ?_ (fun w' hw => ?_) ?_
    rotate_left
    focus (clear hw; go_simp; (try exact rfl))
    try go_frame
    refine LexRG.yes rfl (by first | rfl | (simp [Region.wanted, yielded]; done)) ?_ (fun w' hw => ?_) ?_
    rotate_left
    focus (clear hw; go_simp; (try exact rfl))
    try go_frame
    refine LexRG.yes rfl (by first | rfl | (simp [Region.wanted, yielded]; done)) ?_ (fun w' hw => ?_) ?_
    rotate_left
    focus (clear hw; go_simp; (try exact rfl))
    try go_frame
    refine LexRG.yes rfl (by first | rfl | (simp [Region.wanted, yielded]; done)) ?_ (fun w' hw => ?_) ?_
    rotate_left
    focus (obtain ⟨d0, d1, d2⟩ := fr_box (r := ⟨6, s, st⟩) hw; clear hw; go_simp; (try exact rfl))
    try go_frame
    refine LexRG.nil ?_
    refine wpAnyL_one (i := 8) (by kernel_rfl) ?_
    refine lexA_get rfl ?_
    try go_frame
    go_wp2_with fail
    refine (frameOf_any ⟨6, s, st⟩ V1).mono ?_
    rw [HO.out]
    rintro e V2 ⟨rfl, hb⟩
    replace S := S.later hb
    clear hb
    go_wp2_with fail
    refine ⟨fun _ => S.out.2, ?_⟩
    refine wpAnyL_readsG [10, 11, 12] (fuel := 1) (by kernel_rfl) S.out.2 ?_
    refine LexRG.yes rfl (by first | rfl | (simp [Region.wanted, yielded]; done)) ?_ (fun w' hw => ?_) ?_
    rotate_left
    focus (clear hw; go_simp; (try exact rfl))
    try go_frame
    refine LexRG.yes rfl (by first | rfl | (simp [Region.wanted, yielded]; done)) ?_ (fun w' hw => ?_) ?_
    rotate_left
    focus (clear hw; go_simp; (try exact rfl))
    try go_frame
    refine LexRG.yes rfl (by first | rfl | (simp [Region.wanted, yielded]; done)) ?_ (fun w' hw => ?_) ?_
    rotate_left
    focus (clear hw; go_simp; (try exact rfl))
    try go_frame
    refine LexRG.nil ?_
    refine wpAnyL_writes [13] (by kernel_rfl) (LexW.cons rfl ?_)
    try go_frame
    go_wp2_with fail
    refine ⟨fun _ => S.out.2, LexW.nil ?_⟩
    have hfin := S.out.1
    go_wp2_with fail
    go_ret2
    exact ⟨rfl, hfin⟩
theorem msg_none {k : Int} (s : ByteArray) (st : Int) (h : k < 1 ∨ 6 < k) : msgV ⟨k, s, st⟩ = .nilIface ∧ isK ⟨k, s, st⟩ = false := by
  refine ⟨?_, by unfold isK; simp; omega⟩
  unfold msgV
  rw [if_neg (by simp; omega), if_neg (by simp; omega), if_neg (by simp; omega), if_neg (by simp; omega), if_neg (by simp; omega), if_neg (by simp; omega)]
set_option maxRecDepth 100000 in
set_option maxHeartbeats 8000000 in
theorem validMessage_0 (k : Int) (s : ByteArray) (st : Int) (w : World) (hk : k < 1 ∨ 6 < k) : Calls Try.prog 86 #[.agg (frC ⟨k, s, st⟩).toArray] w (RetMsg w ⟨k, s, st⟩ (frB ⟨k, s, st⟩)) := by
  rw [frB_no (f := ⟨k, s, st⟩) hk]
  unfold RetMsg
  have hm := (msg_none s st hk).1
  have hi := (msg_none s st hk).2
  rw [hm]
  have HM := Lib.hid hm
  have HI := Lib.hid hi
  clear hm hi hk
  unfold frC
  go_enter Try.func86, Try.ntmps86
  have S : All (fun w' => Below w.heap.size w w' ∧ w'.heap[w.heap.size]? = some (.cells (frC ⟨k, s, st⟩).toArray 33 (0, 0))) (w.alloc (.cells #[.int .i64 k, .string s, .int .i64 st] 33)) := ⟨Later.alloc w _, heap_alloc_new w _⟩
  go_wp2_with fail
  generalize w.alloc (.cells #[.int .i64 k, .string s, .int .i64 st] 33) = W at S ⊢
  refine (messageOf_any ⟨k, s, st⟩ W).mono ?_
  rw [HM.out, HI.out]
  rintro e W1 ⟨rfl, hb⟩
  replace S := S.later hb
  clear hb
  go_upto_region 2 with (fail)
  refine wp_region_open 100 (fun w' => w'.heap[w.heap.size]? = some (.cells (frC ⟨k, s, st⟩).toArray 33 (0, 0))) (by kernel_rfl) ?_
  replace S := S.drew
  refine wpAnyL_readsG [0, 1, 2, 3] (fuel := 10) (by kernel_rfl) S.out.2 ?_
  refine LexRG.yes rfl (by first | rfl | (simp [Region.wanted, yielded]; done)) ?_ (fun w' hw => ?_) ?_
  rotate_left
  focus (clear hw; go_simp; (try exact rfl))
  try go_frame
  refine LexRG.yes rfl (by first | rfl | (simp [Region.wanted, yielded]; done)) ?_ (fun w' hw => ?_) ?_
  rotate_left
  focus (clear hw; go_simp; (try exact rfl))
  try go_frame
  refine LexRG.yes rfl (by first | rfl | (simp [Region.wanted, yielded]; done)) ?_ (fun w' hw => ?_) ?_
  rotate_left
  focus (clear hw; go_simp; (try exact rfl))
  try go_frame
  refine LexRG.no rfl (by first | rfl | (simp [Region.wanted, yielded]; done)) ?_
  try go_frame
  refine LexRG.nil ?_
  refine wpAnyL_one (i := 4) (by kernel_rfl) ?_
  refine lexA_get rfl ?_
  try go_frame
  go_wp2_with fail
  refine ⟨fun _ => S.out.2, ?_⟩
  refine wpAnyL_readsG [5, 6, 7, 9] (fuel := 5) (by kernel_rfl) S.out.2 ?_
  refine LexRG.yes rfl (by first | rfl | (simp [Region.wanted, yielded]; done)) ?_ (fun w' hw => ?_) ?_
  rotate_left
  focus (clear hw; go_simp; (try exact rfl))
  try go_frame
  refine LexRG.yes rfl (by first | rfl | (simp [Region.wanted, yielded]; done)) ?_ (fun w' hw => ?_) ?_
  rotate_left
  focus (clear hw; go_simp; (try exact rfl))
  try go_frame
  refine LexRG.no rfl (by first | rfl | (simp [Region.wanted, yielded]; done)) ?_
  try go_frame
  refine LexRG.no rfl (by first | rfl | (simp [Region.wanted, yielded]; done)) ?_
  try go_frame
  refine LexRG.nil ?_
  refine wpAnyL_one (i := 8) (by kernel_rfl) ?_
  refine lexA_get rfl ?_
  try go_frame
  go_wp2_with fail
  refine ⟨fun _ => S.out.2, ?_⟩
  refine wpAnyL_readsG [10, 11, 12] (fuel := 1) (by kernel_rfl) S.out.2 ?_
  refine LexRG.no rfl (by first | rfl | (simp [Region.wanted, yielded]; done)) ?_
  try go_frame
  refine LexRG.yes rfl (by first | rfl | (simp [Region.wanted, yielded]; done)) ?_ (fun w' hw => ?_) ?_
  rotate_left
  focus (clear hw; go_simp; (try exact rfl))
  try go_frame
  refine LexRG.yes rfl (by first | rfl | (simp [Region.wanted, yielded]; done)) ?_ (fun w' hw => ?_) ?_
  rotate_left
  focus (clear hw; go_simp; (try exact rfl))
  try go_frame
  refine LexRG.nil ?_
  refine wpAnyL_writes [13] (by kernel_rfl) (LexW.cons rfl ?_)
  try go_frame
  go_wp2_with fail
  refine ⟨fun _ => S.out.2, LexW.nil ?_⟩
  have hfin := S.out.1
  go_wp2_with fail
  go_ret2
  exact ⟨rfl, hfin⟩
theorem validMessage_any (f : Fr) (w : World) (hs : f.s.size ≤ 1048576) : Calls Try.prog 86 #[.agg (frC f).toArray] w (RetMsg w f (frB f)) := by
  obtain ⟨k, s, st⟩ := f
  rcases kinds k with rfl | rfl | rfl | rfl | rfl | rfl | h
  · exact validMessage_1 s st w hs
  · exact validMessage_2 s st w hs
  · exact validMessage_3 s st w hs
  · exact validMessage_4 s st w hs
  · exact validMessage_5 s st w hs
  · exact validMessage_6 s st w hs
  · exact validMessage_0 k s st w h
set_option maxHeartbeats 1000000 in
theorem frameOk_any (f : Fr) (w : World) (hs : f.s.size ≤ 1048576) : Calls Try.prog 100 #[.agg (frC f).toArray] w (RetBool w (frB f)) := by
  unfold RetBool
  obtain ⟨k, s, st⟩ := f
  obtain ⟨m, hm⟩ : ∃ m, msgV ⟨k, s, st⟩ = m := ⟨_, rfl⟩
  have HM := Lib.hid hm
  clear hm
  obtain ⟨b, hb⟩ : ∃ b, frB ⟨k, s, st⟩ = b := ⟨_, rfl⟩
  rw [hb]
  have HB := Lib.hid hb
  clear hb
  have S : All (fun w' => Below w.heap.size w w') (w.alloc (.cells #[.int .i64 k, .string s, .int .i64 st] 33)) := ⟨Later.alloc w _⟩
  unfold frC
  go_enter Try.func100, Try.ntmps100
  go_wp2_with fail
  generalize w.alloc (.cells #[.int .i64 k, .string s, .int .i64 st] 33) = W at S ⊢
  refine (validMessage_any ⟨k, s, st⟩ W hs).mono ?_
  rintro e W1 ⟨h1, hb⟩
  rw [HM.out, HB.out] at h1
  subst h1
  replace S := S.later hb
  have hfin := S.out
  clear hb S
  go_wp2_with fail
  go_ret
  exact ⟨rfl, hfin⟩
theorem toList_nil {s : ByteArray} (h : s.toList = []) : s = ⟨#[]⟩ := by
  obtain ⟨⟨l⟩⟩ := s
  rw [ByteArray.toList_mk] at h
  rw [h]
set_option maxHeartbeats 4000000 in
theorem frameOkS_any (f : Fr) (w : World) (hs : f.s.size ≤ 1048576) : Calls Try.prog 129 #[.agg (frC f).toArray] w (RetBool w (frB f)) := by
  unfold RetBool
  obtain ⟨k, s, st⟩ := f
  replace hs : s.size ≤ 1048576 := hs
  have hs2 : s.size ≤ 140737488351232 := by omega
  obtain ⟨r, hr⟩ : ∃ r, frB ⟨k, s, st⟩ = r := ⟨_, rfl⟩
  rw [hr]
  have HR := Lib.hid hr
  clear hr
  obtain ⟨z, hz⟩ : ∃ z, (st == 0) = z := ⟨_, rfl⟩
  unfold frC
  rcases kinds k with rfl | rfl | rfl | rfl | rfl | rfl | h
  · obtain ⟨b, hb⟩ : ∃ b, nameB s.data.toList = b := ⟨_, rfl⟩
    have HBB := Lib.hid hb
    obtain rfl : (b && z) = r := by rw [← HR.out, frB_1, hb, hz]
    clear hb HR
    cases b
    · clear hz
      go_enter Try.func129, Try.ntmps129
      go_wp2_with fail
      refine (l1Name_b HBB.out _ hs).mono ?_
      rintro e w' ⟨rfl, rfl⟩
      go_wp2_with fail
      go_ret
      exact ⟨rfl, Later.alloc w _⟩
    · go_enter Try.func129, Try.ntmps129
      go_wp2_with fail
      refine (l1Name_b HBB.out _ hs).mono ?_
      rintro e w' ⟨rfl, rfl⟩
      go_wp2_with fail
      go_ret
      exact ⟨rfl, Later.alloc w _⟩
  rotate_right 1
  · obtain rfl : false = r := by rw [← HR.out, frB_no (f := ⟨k, s, st⟩) h]
    have t1 : (k == 1) = false := by simp; omega
    have t2 : (k == 2) = false := by simp; omega
    have t3 : (k == 3) = false := by simp; omega
    have t4 : (k == 4) = false := by simp; omega
    have t5 : (k == 5) = false := by simp; omega
    have t6 : (k == 6) = false := by simp; omega
    clear h HR hz
    go_enter Try.func129, Try.ntmps129
    go_wp2_with fail
    go_ret
    exact ⟨rfl, Later.alloc w _⟩
  · obtain ⟨b, hb⟩ : ∃ b, okB s.data.toList = b := ⟨_, rfl⟩
    have HBB := Lib.hid hb
    obtain rfl : (b && z) = r := by rw [← HR.out, frB_2, hb, hz]
    clear hb HR
    cases b
    · clear hz
      go_enter Try.func129, Try.ntmps129
      go_wp2_with fail
      refine (textOkS_any s _ hs2).mono ?_
      rw [HBB.out]
      rintro e w' ⟨rfl, rfl⟩
      go_wp2_with fail
      go_ret
      exact ⟨rfl, Later.alloc w _⟩
    · go_enter Try.func129, Try.ntmps129
      go_wp2_with fail
      refine (textOkS_any s _ hs2).mono ?_
      rw [HBB.out]
      rintro e w' ⟨rfl, rfl⟩
      go_wp2_with fail
      go_ret
      exact ⟨rfl, Later.alloc w _⟩
  · by_cases he : (s.data.toList == []) = true
    · obtain rfl := (empty_iff s).1 he
      obtain rfl : z = r := by rw [← HR.out, frB_3, hz]; rfl
      clear HR he
      go_enter Try.func129, Try.ntmps129
      go_wp2_with fail
      go_ret
      exact ⟨rfl, Later.alloc w _⟩
    · obtain rfl : false = r := by rw [← HR.out, frB_3, (Bool.not_eq_true _).mp he]; rfl
      have e1 : s.toList = [] → False := fun h => he ((empty_iff s).2 (toList_nil h))
      have e2 : (s.toList == []) = false := by simpa using e1
      have e3 : s.toList.isEmpty = false := by simpa using e1
      clear HR hz he e1
      go_enter Try.func129, Try.ntmps129
      go_wp2_with fail
      go_ret
      exact ⟨rfl, Later.alloc w _⟩
  · obtain ⟨b, hb⟩ : ∃ b, okB s.data.toList = b := ⟨_, rfl⟩
    have HBB := Lib.hid hb
    obtain rfl : (b && z) = r := by rw [← HR.out, frB_4, hb, hz]
    clear hb HR
    cases b
    · clear hz
      go_enter Try.func129, Try.ntmps129
      go_wp2_with fail
      refine (textOkS_any s _ hs2).mono ?_
      rw [HBB.out]
      rintro e w' ⟨rfl, rfl⟩
      go_wp2_with fail
      go_ret
      exact ⟨rfl, Later.alloc w _⟩
    · go_enter Try.func129, Try.ntmps129
      go_wp2_with fail
      refine (textOkS_any s _ hs2).mono ?_
      rw [HBB.out]
      rintro e w' ⟨rfl, rfl⟩
      go_wp2_with fail
      go_ret
      exact ⟨rfl, Later.alloc w _⟩
  · by_cases he : (s.data.toList == []) = true
    · obtain rfl := (empty_iff s).1 he
      obtain ⟨y, hy⟩ : ∃ y, inI st 0 2 = y := ⟨_, rfl⟩
      obtain rfl : y = r := by rw [← HR.out, frB_5, hy]; rfl
      have HY := Lib.hid hy
      clear HR he hy hz
      go_enter Try.func129, Try.ntmps129
      go_wp2_with fail
      refine (l1In_b HY.out _).mono ?_
      rintro e w' ⟨rfl, rfl⟩
      go_wp2_with fail
      go_ret
      exact ⟨rfl, Later.alloc w _⟩
    · obtain rfl : false = r := by rw [← HR.out, frB_5, (Bool.not_eq_true _).mp he]; rfl
      have e1 : s.toList = [] → False := fun h => he ((empty_iff s).2 (toList_nil h))
      have e2 : (s.toList == []) = false := by simpa using e1
      have e3 : s.toList.isEmpty = false := by simpa using e1
      clear HR hz he e1
      go_enter Try.func129, Try.ntmps129
      go_wp2_with fail
      go_ret
      exact ⟨rfl, Later.alloc w _⟩
  · obtain ⟨b, hb⟩ : ∃ b, okB s.data.toList = b := ⟨_, rfl⟩
    have HBB := Lib.hid hb
    obtain rfl : (b && z) = r := by rw [← HR.out, frB_6, hb, hz]
    clear hb HR
    cases b
    · clear hz
      go_enter Try.func129, Try.ntmps129
      go_wp2_with fail
      refine (textOkS_any s _ hs2).mono ?_
      rw [HBB.out]
      rintro e w' ⟨rfl, rfl⟩
      go_wp2_with fail
      go_ret
      exact ⟨rfl, Later.alloc w _⟩
    · go_enter Try.func129, Try.ntmps129
      go_wp2_with fail
      refine (textOkS_any s _ hs2).mono ?_
      rw [HBB.out]
      rintro e w' ⟨rfl, rfl⟩
      go_wp2_with fail
      go_ret
      exact ⟨rfl, Later.alloc w _⟩
theorem one_lit (w : World) (n : Int) (h0 : 0 ≤ n) (h1 : n ≤ 255) : Reads (w.alloc (.cells #[.int .u8 n] 5)) (w.alloc (.cells #[.int .u8 n] 5)).heap.size 1 (some ⟨w.heap.size, 0, none⟩) 1 (bys [u8 n]) := by
  have h := one_u8 w n
  rwa [Int.emod_eq_of_lt h0 (by omega)] at h
theorem own_lit (w : World) (n : Int) (h0 : 0 ≤ n) (h1 : n ≤ 255) (base : Nat) (hb : base ≤ w.heap.size) : Owns (w.alloc (.cells #[.int .u8 n] 5)) base 5 (.slice (some ⟨w.heap.size, 0, none⟩) 1 1) [u8 n] := by
  have h := World.ownsRow_lit (base := base) (e := 5) (size := 1) w #[.int .u8 n] 1 hb (by simp [maxLen]) rfl
  unfold Owns
  rw [show bys [u8 n] = [.int .u8 n] by simp [bys, u8_cell]; omega]
  exact h
theorem nameB_ok {l : List UInt8} (h : nameB l = true) : okB l = true := by
  unfold nameB at h
  unfold okB
  rw [Bool.and_eq_true] at h ⊢
  have h1 := of_decide_eq_true h.1
  refine ⟨decide_eq_true (by omega), ?_⟩
  rw [List.all_eq_true] at h ⊢
  intro b hb
  have h2 := of_decide_eq_true (h.2 b hb)
  unfold inB
  rw [Bool.and_eq_true]
  exact ⟨decide_eq_true (by omega), decide_eq_true (by omega)⟩
theorem frB_text {f : Fr} (h : frB f = true) : okB f.s.data.toList = true := by
  obtain ⟨k, s, st⟩ := f
  have e : (s.data.toList == []) = true → okB s.data.toList = true := fun h => by
    obtain rfl := (empty_iff s).1 h
    rfl
  rcases kinds k with rfl | rfl | rfl | rfl | rfl | rfl | h7
  · rw [frB_1, Bool.and_eq_true] at h; exact nameB_ok h.1
  · rw [frB_2, Bool.and_eq_true] at h; exact h.1
  · rw [frB_3, Bool.and_eq_true] at h; exact e h.1
  · rw [frB_4, Bool.and_eq_true] at h; exact h.1
  · rw [frB_5, Bool.and_eq_true] at h; exact e h.1
  · rw [frB_6, Bool.and_eq_true] at h; exact h.1
  · rw [frB_no (f := ⟨k, s, st⟩) h7] at h; cases h
theorem frB_kind {f : Fr} (h : frB f = true) : 1 ≤ f.k ∧ f.k ≤ 6 := by
  by_cases h7 : f.k < 1 ∨ 6 < f.k
  · rw [frB_no h7] at h; cases h
  · omega
theorem frB_st {f : Fr} (h : frB f = true) : 0 ≤ f.st ∧ f.st ≤ 2 := by
  obtain ⟨k, s, st⟩ := f
  have e : (st == 0) = true → 0 ≤ st ∧ st ≤ 2 := fun h => by have := eq_of_beq h; omega
  rcases kinds k with rfl | rfl | rfl | rfl | rfl | rfl | h7
  · rw [frB_1, Bool.and_eq_true] at h; exact e h.2
  · rw [frB_2, Bool.and_eq_true] at h; exact e h.2
  · rw [frB_3, Bool.and_eq_true] at h; exact e h.2
  · rw [frB_4, Bool.and_eq_true] at h; exact e h.2
  · rw [frB_5, Bool.and_eq_true] at h; exact of_decide_eq_true h.2
  · rw [frB_6, Bool.and_eq_true] at h; exact e h.2
  · rw [frB_no (f := ⟨k, s, st⟩) h7] at h; cases h
set_option maxHeartbeats 4000000 in
theorem putFrameS_no (k : Int) (s : ByteArray) (st : Int) (w : World) (hs : s.size ≤ 1048576) (hr : frB ⟨k, s, st⟩ = false) : Calls Try.prog 92 #[.agg (frC ⟨k, s, st⟩).toArray] w (RetOwn w (putF ⟨k, s, st⟩)) := by
  rw [putF_no hr]
  unfold RetOwn
  have HR := Lib.hid hr
  have S : All (fun w' => Below w.heap.size w w') (w.alloc (.cells #[.int .i64 k, .string s, .int .i64 st] 33)) := ⟨Later.alloc w _⟩
  clear hr
  unfold frC
  go_enter Try.func92, Try.ntmps92
  go_wp2_with fail
  generalize w.alloc (.cells #[.int .i64 k, .string s, .int .i64 st] 33) = W at S ⊢
  refine (frameOkS_any ⟨k, s, st⟩ W hs).mono ?_
  rw [HR.out]
  rintro e W1 ⟨rfl, hb⟩
  replace S := S.later hb
  clear hb
  go_wp2_with fail
  go_ret
  exact ⟨_, rfl, own_empty W1 _ S.out.size, S.out.alloc S.out.size _⟩
set_option maxHeartbeats 4000000 in
theorem putFrameS_1 (s : ByteArray) (st : Int) (w : World) (hs : s.size ≤ 1048576) (hr : frB ⟨1, s, st⟩ = true) : Calls Try.prog 92 #[.agg (frC ⟨1, s, st⟩).toArray] w (RetOwn w (putF ⟨1, s, st⟩)) := by
  rw [putF_t hr (by show (1 : Int) ≠ 5; decide) (by show (1 : Int) ≠ 3; decide)]
  unfold RetOwn
  have HR := Lib.hid hr
  have S : All (fun w' => Below w.heap.size w w' ∧ Hid (w'.heap[w.heap.size]? = some (.cells (frC ⟨1, s, st⟩).toArray 33 (0, 0)))) (w.alloc (.cells #[.int .i64 1, .string s, .int .i64 st] 33)) := ⟨Later.alloc w _, Lib.hid (heap_alloc_new w _)⟩
  clear hr
  show Calls Try.prog 92 #[.agg #[.int .i64 1, .string s, .int .i64 st]] w _
  go_enter Try.func92, Try.ntmps92
  go_wp2_with fail
  generalize w.alloc (.cells #[.int .i64 1, .string s, .int .i64 st] 33) = W at S ⊢
  refine (frameOkS_any ⟨1, s, st⟩ W hs).mono ?_
  rw [HR.out]
  rintro e W1 ⟨rfl, hb⟩
  replace S := S.later hb
  clear hb
  obtain ⟨d0, d1, d2⟩ := fr_box S.out.2.out
  have hlt : w.heap.size < W1.heap.size := (Array.getElem?_eq_some_iff.1 S.out.2.out).1
  go_wp2_with fail
  have hb1 := S.out.1
  have hr1 := one_lit W1 1 (by decide) (by decide)
  refine (putTextS_any (some ⟨W1.heap.size, 0, none⟩) 1 s [u8 1] _ hr1 (by simp) (by omega)).mono ?_
  rintro e W2 ⟨v, rfl, hown, hb⟩
  go_wp2_with fail
  go_ret
  exact ⟨v, rfl, ownsRow_mono hown (Nat.le_trans hb1.size (by simp)), Later.trans (hb1.alloc hb1.size _) hb⟩
set_option maxHeartbeats 4000000 in
theorem putFrameS_2 (s : ByteArray) (st : Int) (w : World) (hs : s.size ≤ 1048576) (hr : frB ⟨2, s, st⟩ = true) : Calls Try.prog 92 #[.agg (frC ⟨2, s, st⟩).toArray] w (RetOwn w (putF ⟨2, s, st⟩)) := by
  rw [putF_t hr (by show (2 : Int) ≠ 5; decide) (by show (2 : Int) ≠ 3; decide)]
  unfold RetOwn
  have HR := Lib.hid hr
  have S : All (fun w' => Below w.heap.size w w' ∧ Hid (w'.heap[w.heap.size]? = some (.cells (frC ⟨2, s, st⟩).toArray 33 (0, 0)))) (w.alloc (.cells #[.int .i64 2, .string s, .int .i64 st] 33)) := ⟨Later.alloc w _, Lib.hid (heap_alloc_new w _)⟩
  clear hr
  show Calls Try.prog 92 #[.agg #[.int .i64 2, .string s, .int .i64 st]] w _
  go_enter Try.func92, Try.ntmps92
  go_wp2_with fail
  generalize w.alloc (.cells #[.int .i64 2, .string s, .int .i64 st] 33) = W at S ⊢
  refine (frameOkS_any ⟨2, s, st⟩ W hs).mono ?_
  rw [HR.out]
  rintro e W1 ⟨rfl, hb⟩
  replace S := S.later hb
  clear hb
  obtain ⟨d0, d1, d2⟩ := fr_box S.out.2.out
  have hlt : w.heap.size < W1.heap.size := (Array.getElem?_eq_some_iff.1 S.out.2.out).1
  go_wp2_with fail
  have hb1 := S.out.1
  have hr1 := one_lit W1 2 (by decide) (by decide)
  refine (putTextS_any (some ⟨W1.heap.size, 0, none⟩) 1 s [u8 2] _ hr1 (by simp) (by omega)).mono ?_
  rintro e W2 ⟨v, rfl, hown, hb⟩
  go_wp2_with fail
  go_ret
  exact ⟨v, rfl, ownsRow_mono hown (Nat.le_trans hb1.size (by simp)), Later.trans (hb1.alloc hb1.size _) hb⟩
set_option maxHeartbeats 4000000 in
theorem putFrameS_4 (s : ByteArray) (st : Int) (w : World) (hs : s.size ≤ 1048576) (hr : frB ⟨4, s, st⟩ = true) : Calls Try.prog 92 #[.agg (frC ⟨4, s, st⟩).toArray] w (RetOwn w (putF ⟨4, s, st⟩)) := by
  rw [putF_t hr (by show (4 : Int) ≠ 5; decide) (by show (4 : Int) ≠ 3; decide)]
  unfold RetOwn
  have HR := Lib.hid hr
  have S : All (fun w' => Below w.heap.size w w' ∧ Hid (w'.heap[w.heap.size]? = some (.cells (frC ⟨4, s, st⟩).toArray 33 (0, 0)))) (w.alloc (.cells #[.int .i64 4, .string s, .int .i64 st] 33)) := ⟨Later.alloc w _, Lib.hid (heap_alloc_new w _)⟩
  clear hr
  show Calls Try.prog 92 #[.agg #[.int .i64 4, .string s, .int .i64 st]] w _
  go_enter Try.func92, Try.ntmps92
  go_wp2_with fail
  generalize w.alloc (.cells #[.int .i64 4, .string s, .int .i64 st] 33) = W at S ⊢
  refine (frameOkS_any ⟨4, s, st⟩ W hs).mono ?_
  rw [HR.out]
  rintro e W1 ⟨rfl, hb⟩
  replace S := S.later hb
  clear hb
  obtain ⟨d0, d1, d2⟩ := fr_box S.out.2.out
  have hlt : w.heap.size < W1.heap.size := (Array.getElem?_eq_some_iff.1 S.out.2.out).1
  go_wp2_with fail
  have hb1 := S.out.1
  have hr1 := one_lit W1 4 (by decide) (by decide)
  refine (putTextS_any (some ⟨W1.heap.size, 0, none⟩) 1 s [u8 4] _ hr1 (by simp) (by omega)).mono ?_
  rintro e W2 ⟨v, rfl, hown, hb⟩
  go_wp2_with fail
  go_ret
  exact ⟨v, rfl, ownsRow_mono hown (Nat.le_trans hb1.size (by simp)), Later.trans (hb1.alloc hb1.size _) hb⟩
set_option maxHeartbeats 4000000 in
theorem putFrameS_6 (s : ByteArray) (st : Int) (w : World) (hs : s.size ≤ 1048576) (hr : frB ⟨6, s, st⟩ = true) : Calls Try.prog 92 #[.agg (frC ⟨6, s, st⟩).toArray] w (RetOwn w (putF ⟨6, s, st⟩)) := by
  rw [putF_t hr (by show (6 : Int) ≠ 5; decide) (by show (6 : Int) ≠ 3; decide)]
  unfold RetOwn
  have HR := Lib.hid hr
  have S : All (fun w' => Below w.heap.size w w' ∧ Hid (w'.heap[w.heap.size]? = some (.cells (frC ⟨6, s, st⟩).toArray 33 (0, 0)))) (w.alloc (.cells #[.int .i64 6, .string s, .int .i64 st] 33)) := ⟨Later.alloc w _, Lib.hid (heap_alloc_new w _)⟩
  clear hr
  show Calls Try.prog 92 #[.agg #[.int .i64 6, .string s, .int .i64 st]] w _
  go_enter Try.func92, Try.ntmps92
  go_wp2_with fail
  generalize w.alloc (.cells #[.int .i64 6, .string s, .int .i64 st] 33) = W at S ⊢
  refine (frameOkS_any ⟨6, s, st⟩ W hs).mono ?_
  rw [HR.out]
  rintro e W1 ⟨rfl, hb⟩
  replace S := S.later hb
  clear hb
  obtain ⟨d0, d1, d2⟩ := fr_box S.out.2.out
  have hlt : w.heap.size < W1.heap.size := (Array.getElem?_eq_some_iff.1 S.out.2.out).1
  go_wp2_with fail
  have hb1 := S.out.1
  have hr1 := one_lit W1 6 (by decide) (by decide)
  refine (putTextS_any (some ⟨W1.heap.size, 0, none⟩) 1 s [u8 6] _ hr1 (by simp) (by omega)).mono ?_
  rintro e W2 ⟨v, rfl, hown, hb⟩
  go_wp2_with fail
  go_ret
  exact ⟨v, rfl, ownsRow_mono hown (Nat.le_trans hb1.size (by simp)), Later.trans (hb1.alloc hb1.size _) hb⟩
set_option maxHeartbeats 4000000 in
theorem putFrameS_3 (s : ByteArray) (st : Int) (w : World) (hs : s.size ≤ 1048576) (hr : frB ⟨3, s, st⟩ = true) : Calls Try.prog 92 #[.agg (frC ⟨3, s, st⟩).toArray] w (RetOwn w (putF ⟨3, s, st⟩)) := by
  rw [putF_3 hr rfl]
  unfold RetOwn
  obtain ⟨h0, h2⟩ := frB_st hr
  replace h0 : 0 ≤ st := h0
  replace h2 : st ≤ 2 := h2
  have HR := Lib.hid hr
  have S : All (fun w' => Below w.heap.size w w' ∧ Hid (w'.heap[w.heap.size]? = some (.cells (frC ⟨3, s, st⟩).toArray 33 (0, 0)))) (w.alloc (.cells #[.int .i64 3, .string s, .int .i64 st] 33)) := ⟨Later.alloc w _, Lib.hid (heap_alloc_new w _)⟩
  clear hr
  show Calls Try.prog 92 #[.agg #[.int .i64 3, .string s, .int .i64 st]] w _
  go_enter Try.func92, Try.ntmps92
  go_wp2_with fail
  generalize w.alloc (.cells #[.int .i64 3, .string s, .int .i64 st] 33) = W at S ⊢
  refine (frameOkS_any ⟨3, s, st⟩ W hs).mono ?_
  rw [HR.out]
  rintro e W1 ⟨rfl, hb⟩
  replace S := S.later hb
  clear hb
  obtain ⟨d0, d1, d2⟩ := fr_box S.out.2.out
  have hlt : w.heap.size < W1.heap.size := (Array.getElem?_eq_some_iff.1 S.out.2.out).1
  have hb1 := S.out.1
  go_wp2_with fail
  go_ret
  exact ⟨_, rfl, own_lit W1 3 (by decide) (by decide) _ hb1.size, hb1.alloc hb1.size _⟩
set_option maxHeartbeats 4000000 in
theorem putFrameS_5 (s : ByteArray) (st : Int) (w : World) (hs : s.size ≤ 1048576) (hr : frB ⟨5, s, st⟩ = true) : Calls Try.prog 92 #[.agg (frC ⟨5, s, st⟩).toArray] w (RetOwn w (putF ⟨5, s, st⟩)) := by
  rw [putF_5 hr rfl]
  unfold RetOwn
  obtain ⟨h0, h2⟩ := frB_st hr
  replace h0 : 0 ≤ st := h0
  replace h2 : st ≤ 2 := h2
  have HR := Lib.hid hr
  have S : All (fun w' => Below w.heap.size w w' ∧ Hid (w'.heap[w.heap.size]? = some (.cells (frC ⟨5, s, st⟩).toArray 33 (0, 0)))) (w.alloc (.cells #[.int .i64 5, .string s, .int .i64 st] 33)) := ⟨Later.alloc w _, Lib.hid (heap_alloc_new w _)⟩
  clear hr
  show Calls Try.prog 92 #[.agg #[.int .i64 5, .string s, .int .i64 st]] w _
  go_enter Try.func92, Try.ntmps92
  go_wp2_with fail
  generalize w.alloc (.cells #[.int .i64 5, .string s, .int .i64 st] 33) = W at S ⊢
  refine (frameOkS_any ⟨5, s, st⟩ W hs).mono ?_
  rw [HR.out]
  rintro e W1 ⟨rfl, hb⟩
  replace S := S.later hb
  clear hb
  obtain ⟨d0, d1, d2⟩ := fr_box S.out.2.out
  have hlt : w.heap.size < W1.heap.size := (Array.getElem?_eq_some_iff.1 S.out.2.out).1
  have hb1 := S.out.1
  obtain ⟨i0, hi0, hz0, hz1, hz2⟩ := info_parts Try.info8
  have hown0 : (W1.alloc (.cells #[.int .u8 5] 5)).ownsRow w.heap.size 5 1 (.slice (some ⟨W1.heap.size, 0, none⟩) 1 1) 1 (bys [u8 5]) := own_lit W1 5 (by decide) (by decide) w.heap.size hb1.size
  have hb2 : Below w.heap.size w (W1.alloc (.cells #[.int .u8 5] 5)) := hb1.alloc hb1.size _
  have hb3 : Below w.heap.size w ((W1.alloc (.cells #[.int .u8 5] 5)).alloc (.cells #[.int .u8 st] 5)) := hb2.alloc hb2.size _
  have hnew := one_lit (W1.alloc (.cells #[.int .u8 5] 5)) st h0 (by omega)
  rw [show (W1.alloc (.cells #[.int .u8 5] 5)).heap.size = W1.heap.size + 1 by simp] at hnew
  go_wp2_with (first
    | (at_builtin
       go_must (refine wpList_append_any _ rfl (.tmp 16) (.tmp 20) _ rfl w.heap.size 5 i0 _ 1 1 Try.underlying22 hi0 hz0 hz1 hz2 rfl (by omega) _ 1 (bys [u8 5]) rfl (hown0.alloc _) _ _ 1 _ (bys [u8 st]) rfl hnew (bys_one _) (by simp only [maxLen]; omega) (by omega) hb3.size ?_)
       clear hnew
       intro v3 w3 hown3 hg3 hat3
       have hb4 : Below w.heap.size w w3 := hb3.grown hg3 hb3.size (fun k hk => (hown0.lt k hk).1)
       clear hg3 hat3)
    | fail)
  go_ret
  exact ⟨v3, rfl, hown3, hb4⟩
theorem putFrameS_any (f : Fr) (w : World) (hs : f.s.size ≤ 1048576) : Calls Try.prog 92 #[.agg (frC f).toArray] w (RetOwn w (putF f)) := by
  obtain ⟨k, s, st⟩ := f
  obtain ⟨r, hr⟩ : ∃ r, frB ⟨k, s, st⟩ = r := ⟨_, rfl⟩
  cases r
  · exact putFrameS_no k s st w hs hr
  · rcases kinds k with rfl | rfl | rfl | rfl | rfl | rfl | h
    · exact putFrameS_1 s st w hs hr
    · exact putFrameS_2 s st w hs hr
    · exact putFrameS_3 s st w hs hr
    · exact putFrameS_4 s st w hs hr
    · exact putFrameS_5 s st w hs hr
    · exact putFrameS_6 s st w hs hr
    · rw [frB_no (f := ⟨k, s, st⟩) h] at hr; cases hr
set_option maxHeartbeats 4000000 in
theorem putFrame_no (k : Int) (s : ByteArray) (st : Int) (w : World) (hs : s.size ≤ 1048576) (hr : frB ⟨k, s, st⟩ = false) : Calls Try.prog 30 #[.agg (frC ⟨k, s, st⟩).toArray] w (RetOwn w (putF ⟨k, s, st⟩)) := by
  rw [putF_no hr]
  unfold RetOwn
  have HR := Lib.hid hr
  have S : All (fun w' => Below w.heap.size w w') (w.alloc (.cells #[.int .i64 k, .string s, .int .i64 st] 33)) := ⟨Later.alloc w _⟩
  clear hr
  obtain ⟨m, hm⟩ : ∃ m, msgV ⟨k, s, st⟩ = m := ⟨_, rfl⟩
  have HM := Lib.hid hm
  clear hm
  unfold frC
  go_enter Try.func30, Try.ntmps30
  go_wp2_with fail
  generalize w.alloc (.cells #[.int .i64 k, .string s, .int .i64 st] 33) = W at S ⊢
  refine (validMessage_any ⟨k, s, st⟩ W hs).mono ?_
  rintro e W1 ⟨h1, hb⟩
  rw [HM.out, HR.out] at h1
  subst h1
  replace S := S.later hb
  clear hb
  go_wp2_with fail
  go_ret
  exact ⟨_, rfl, own_empty W1 _ S.out.size, S.out.alloc S.out.size _⟩
set_option maxHeartbeats 4000000 in
theorem putFrame_1 (s : ByteArray) (st : Int) (w : World) (hs : s.size ≤ 1048576) (hr : frB ⟨1, s, st⟩ = true) : Calls Try.prog 30 #[.agg (frC ⟨1, s, st⟩).toArray] w (RetOwn w (putF ⟨1, s, st⟩)) := by
  rw [putF_t hr (by show (1 : Int) ≠ 5; decide) (by show (1 : Int) ≠ 3; decide)]
  unfold RetOwn
  obtain ⟨h0, h2⟩ := frB_st hr
  replace h0 : 0 ≤ st := h0
  replace h2 : st ≤ 2 := h2
  have HR := Lib.hid hr
  have S : All (fun w' => Below w.heap.size w w' ∧ Hid (w'.heap[w.heap.size]? = some (.cells (frC ⟨1, s, st⟩).toArray 33 (0, 0)))) (w.alloc (.cells #[.int .i64 1, .string s, .int .i64 st] 33)) := ⟨Later.alloc w _, Lib.hid (heap_alloc_new w _)⟩
  clear hr
  show Calls Try.prog 30 #[.agg #[.int .i64 1, .string s, .int .i64 st]] w _
  go_enter Try.func30, Try.ntmps30
  go_wp2_with fail
  generalize w.alloc (.cells #[.int .i64 1, .string s, .int .i64 st] 33) = W at S ⊢
  refine (validMessage_1 s st W hs).mono ?_
  rintro e W1 ⟨h1, hb⟩
  rw [HR.out, show msgV ⟨1, s, st⟩ = .iface 176 (.string s) from rfl] at h1
  subst h1
  replace S := S.later hb
  clear hb
  obtain ⟨d0, d1, d2⟩ := fr_box S.out.2.out
  have hlt : w.heap.size < W1.heap.size := (Array.getElem?_eq_some_iff.1 S.out.2.out).1
  have hb1 := S.out.1
  have hb2 := hb1.alloc hb1.size (.cells #[.int .u8 1] 5)
  have a3 := Try.as_1_3 (.string s)
  have a5 := Try.as_1_5 (.string s)
  have hr1 := one_lit W1 1 (by decide) (by decide)
  go_wp2_with fail
  refine (putText_any (some ⟨W1.heap.size, 0, none⟩) 1 s [u8 1] _ hr1 (by simp) (by omega)).mono ?_
  rintro e W2 ⟨v, rfl, hown, hb⟩
  go_wp2_with fail
  go_ret
  exact ⟨v, rfl, ownsRow_mono hown (Nat.le_trans hb1.size (by simp)), Later.trans hb2 hb⟩
set_option maxHeartbeats 4000000 in
theorem putFrame_2 (s : ByteArray) (st : Int) (w : World) (hs : s.size ≤ 1048576) (hr : frB ⟨2, s, st⟩ = true) : Calls Try.prog 30 #[.agg (frC ⟨2, s, st⟩).toArray] w (RetOwn w (putF ⟨2, s, st⟩)) := by
  rw [putF_t hr (by show (2 : Int) ≠ 5; decide) (by show (2 : Int) ≠ 3; decide)]
  unfold RetOwn
  obtain ⟨h0, h2⟩ := frB_st hr
  replace h0 : 0 ≤ st := h0
  replace h2 : st ≤ 2 := h2
  have HR := Lib.hid hr
  have S : All (fun w' => Below w.heap.size w w' ∧ Hid (w'.heap[w.heap.size]? = some (.cells (frC ⟨2, s, st⟩).toArray 33 (0, 0)))) (w.alloc (.cells #[.int .i64 2, .string s, .int .i64 st] 33)) := ⟨Later.alloc w _, Lib.hid (heap_alloc_new w _)⟩
  clear hr
  show Calls Try.prog 30 #[.agg #[.int .i64 2, .string s, .int .i64 st]] w _
  go_enter Try.func30, Try.ntmps30
  go_wp2_with fail
  generalize w.alloc (.cells #[.int .i64 2, .string s, .int .i64 st] 33) = W at S ⊢
  refine (validMessage_2 s st W hs).mono ?_
  rintro e W1 ⟨h1, hb⟩
  rw [HR.out, show msgV ⟨2, s, st⟩ = .iface 177 (.string s) from rfl] at h1
  subst h1
  replace S := S.later hb
  clear hb
  obtain ⟨d0, d1, d2⟩ := fr_box S.out.2.out
  have hlt : w.heap.size < W1.heap.size := (Array.getElem?_eq_some_iff.1 S.out.2.out).1
  have hb1 := S.out.1
  have hb2 := hb1.alloc hb1.size (.cells #[.int .u8 2] 5)
  have a3 := Try.as_2_3 (.string s)
  have a5 := Try.as_2_5 (.string s)
  have hr1 := one_lit W1 2 (by decide) (by decide)
  go_wp2_with fail
  refine (putText_any (some ⟨W1.heap.size, 0, none⟩) 1 s [u8 2] _ hr1 (by simp) (by omega)).mono ?_
  rintro e W2 ⟨v, rfl, hown, hb⟩
  go_wp2_with fail
  go_ret
  exact ⟨v, rfl, ownsRow_mono hown (Nat.le_trans hb1.size (by simp)), Later.trans hb2 hb⟩
set_option maxHeartbeats 4000000 in
theorem putFrame_3 (s : ByteArray) (st : Int) (w : World) (hs : s.size ≤ 1048576) (hr : frB ⟨3, s, st⟩ = true) : Calls Try.prog 30 #[.agg (frC ⟨3, s, st⟩).toArray] w (RetOwn w (putF ⟨3, s, st⟩)) := by
  rw [putF_3 hr rfl]
  unfold RetOwn
  obtain ⟨h0, h2⟩ := frB_st hr
  replace h0 : 0 ≤ st := h0
  replace h2 : st ≤ 2 := h2
  have HR := Lib.hid hr
  have S : All (fun w' => Below w.heap.size w w' ∧ Hid (w'.heap[w.heap.size]? = some (.cells (frC ⟨3, s, st⟩).toArray 33 (0, 0)))) (w.alloc (.cells #[.int .i64 3, .string s, .int .i64 st] 33)) := ⟨Later.alloc w _, Lib.hid (heap_alloc_new w _)⟩
  clear hr
  show Calls Try.prog 30 #[.agg #[.int .i64 3, .string s, .int .i64 st]] w _
  go_enter Try.func30, Try.ntmps30
  go_wp2_with fail
  generalize w.alloc (.cells #[.int .i64 3, .string s, .int .i64 st] 33) = W at S ⊢
  refine (validMessage_3 s st W hs).mono ?_
  rintro e W1 ⟨h1, hb⟩
  rw [HR.out, show msgV ⟨3, s, st⟩ = .iface 122 (.agg #[]) from rfl] at h1
  subst h1
  replace S := S.later hb
  clear hb
  obtain ⟨d0, d1, d2⟩ := fr_box S.out.2.out
  have hlt : w.heap.size < W1.heap.size := (Array.getElem?_eq_some_iff.1 S.out.2.out).1
  have hb1 := S.out.1
  have hb2 := hb1.alloc hb1.size (.cells #[.int .u8 3] 5)
  have a3 := Try.as_3_3 (.agg #[])
  have a5 := Try.as_3_5 (.agg #[])
  go_wp2_with fail
  go_ret
  exact ⟨_, rfl, own_lit W1 3 (by decide) (by decide) _ hb1.size, hb2⟩
set_option maxHeartbeats 4000000 in
theorem putFrame_4 (s : ByteArray) (st : Int) (w : World) (hs : s.size ≤ 1048576) (hr : frB ⟨4, s, st⟩ = true) : Calls Try.prog 30 #[.agg (frC ⟨4, s, st⟩).toArray] w (RetOwn w (putF ⟨4, s, st⟩)) := by
  rw [putF_t hr (by show (4 : Int) ≠ 5; decide) (by show (4 : Int) ≠ 3; decide)]
  unfold RetOwn
  obtain ⟨h0, h2⟩ := frB_st hr
  replace h0 : 0 ≤ st := h0
  replace h2 : st ≤ 2 := h2
  have HR := Lib.hid hr
  have S : All (fun w' => Below w.heap.size w w' ∧ Hid (w'.heap[w.heap.size]? = some (.cells (frC ⟨4, s, st⟩).toArray 33 (0, 0)))) (w.alloc (.cells #[.int .i64 4, .string s, .int .i64 st] 33)) := ⟨Later.alloc w _, Lib.hid (heap_alloc_new w _)⟩
  clear hr
  show Calls Try.prog 30 #[.agg #[.int .i64 4, .string s, .int .i64 st]] w _
  go_enter Try.func30, Try.ntmps30
  go_wp2_with fail
  generalize w.alloc (.cells #[.int .i64 4, .string s, .int .i64 st] 33) = W at S ⊢
  refine (validMessage_4 s st W hs).mono ?_
  rintro e W1 ⟨h1, hb⟩
  rw [HR.out, show msgV ⟨4, s, st⟩ = .iface 178 (.string s) from rfl] at h1
  subst h1
  replace S := S.later hb
  clear hb
  obtain ⟨d0, d1, d2⟩ := fr_box S.out.2.out
  have hlt : w.heap.size < W1.heap.size := (Array.getElem?_eq_some_iff.1 S.out.2.out).1
  have hb1 := S.out.1
  have hb2 := hb1.alloc hb1.size (.cells #[.int .u8 4] 5)
  have a3 := Try.as_4_3 (.string s)
  have a5 := Try.as_4_5 (.string s)
  have hr1 := one_lit W1 4 (by decide) (by decide)
  go_wp2_with fail
  refine (putText_any (some ⟨W1.heap.size, 0, none⟩) 1 s [u8 4] _ hr1 (by simp) (by omega)).mono ?_
  rintro e W2 ⟨v, rfl, hown, hb⟩
  go_wp2_with fail
  go_ret
  exact ⟨v, rfl, ownsRow_mono hown (Nat.le_trans hb1.size (by simp)), Later.trans hb2 hb⟩
set_option maxHeartbeats 4000000 in
theorem putFrame_5 (s : ByteArray) (st : Int) (w : World) (hs : s.size ≤ 1048576) (hr : frB ⟨5, s, st⟩ = true) : Calls Try.prog 30 #[.agg (frC ⟨5, s, st⟩).toArray] w (RetOwn w (putF ⟨5, s, st⟩)) := by
  rw [putF_5 hr rfl]
  unfold RetOwn
  obtain ⟨h0, h2⟩ := frB_st hr
  replace h0 : 0 ≤ st := h0
  replace h2 : st ≤ 2 := h2
  have HR := Lib.hid hr
  have S : All (fun w' => Below w.heap.size w w' ∧ Hid (w'.heap[w.heap.size]? = some (.cells (frC ⟨5, s, st⟩).toArray 33 (0, 0)))) (w.alloc (.cells #[.int .i64 5, .string s, .int .i64 st] 33)) := ⟨Later.alloc w _, Lib.hid (heap_alloc_new w _)⟩
  clear hr
  show Calls Try.prog 30 #[.agg #[.int .i64 5, .string s, .int .i64 st]] w _
  go_enter Try.func30, Try.ntmps30
  go_wp2_with fail
  generalize w.alloc (.cells #[.int .i64 5, .string s, .int .i64 st] 33) = W at S ⊢
  refine (validMessage_5 s st W hs).mono ?_
  rintro e W1 ⟨h1, hb⟩
  rw [HR.out, show msgV ⟨5, s, st⟩ = .iface 123 (.int .i64 st) from rfl] at h1
  subst h1
  replace S := S.later hb
  clear hb
  obtain ⟨d0, d1, d2⟩ := fr_box S.out.2.out
  have hlt : w.heap.size < W1.heap.size := (Array.getElem?_eq_some_iff.1 S.out.2.out).1
  have hb1 := S.out.1
  have hb2 := hb1.alloc hb1.size (.cells #[.int .u8 5] 5)
  have a3 := Try.as_5_3 (.int .i64 st)
  have a5 := Try.as_5_5 (.int .i64 st)
  have hr1 := one_lit W1 5 (by decide) (by decide)
  have hr2 := one_lit (W1.alloc (.cells #[.int .u8 5] 5)) st h0 (by omega)
  rw [show (W1.alloc (.cells #[.int .u8 5] 5)).heap.size = W1.heap.size + 1 by simp] at hr2
  go_wp2_with fail
  refine (joined_any (some ⟨W1.heap.size, 0, none⟩) (some ⟨W1.heap.size + 1, 0, none⟩) 1 1 [u8 5] [u8 st] _ ((hr1.alloc (Nat.le_refl _) _).more (by simp)) hr2 (by simp) (by simp)).mono ?_
  rintro e W2 ⟨v, rfl, hown, hb⟩
  go_wp2_with fail
  go_ret
  exact ⟨v, rfl, ownsRow_mono hown (Nat.le_trans hb2.size (by simp)), Later.trans (hb2.alloc hb2.size _) hb⟩
set_option maxHeartbeats 4000000 in
theorem putFrame_6 (s : ByteArray) (st : Int) (w : World) (hs : s.size ≤ 1048576) (hr : frB ⟨6, s, st⟩ = true) : Calls Try.prog 30 #[.agg (frC ⟨6, s, st⟩).toArray] w (RetOwn w (putF ⟨6, s, st⟩)) := by
  rw [putF_t hr (by show (6 : Int) ≠ 5; decide) (by show (6 : Int) ≠ 3; decide)]
  unfold RetOwn
  obtain ⟨h0, h2⟩ := frB_st hr
  replace h0 : 0 ≤ st := h0
  replace h2 : st ≤ 2 := h2
  have HR := Lib.hid hr
  have S : All (fun w' => Below w.heap.size w w' ∧ Hid (w'.heap[w.heap.size]? = some (.cells (frC ⟨6, s, st⟩).toArray 33 (0, 0)))) (w.alloc (.cells #[.int .i64 6, .string s, .int .i64 st] 33)) := ⟨Later.alloc w _, Lib.hid (heap_alloc_new w _)⟩
  clear hr
  show Calls Try.prog 30 #[.agg #[.int .i64 6, .string s, .int .i64 st]] w _
  go_enter Try.func30, Try.ntmps30
  go_wp2_with fail
  generalize w.alloc (.cells #[.int .i64 6, .string s, .int .i64 st] 33) = W at S ⊢
  refine (validMessage_6 s st W hs).mono ?_
  rintro e W1 ⟨h1, hb⟩
  rw [HR.out, show msgV ⟨6, s, st⟩ = .iface 179 (.string s) from rfl] at h1
  subst h1
  replace S := S.later hb
  clear hb
  obtain ⟨d0, d1, d2⟩ := fr_box S.out.2.out
  have hlt : w.heap.size < W1.heap.size := (Array.getElem?_eq_some_iff.1 S.out.2.out).1
  have hb1 := S.out.1
  have hb2 := hb1.alloc hb1.size (.cells #[.int .u8 6] 5)
  have a3 := Try.as_6_3 (.string s)
  have a5 := Try.as_6_5 (.string s)
  have hr1 := one_lit W1 6 (by decide) (by decide)
  go_wp2_with fail
  refine (putText_any (some ⟨W1.heap.size, 0, none⟩) 1 s [u8 6] _ hr1 (by simp) (by omega)).mono ?_
  rintro e W2 ⟨v, rfl, hown, hb⟩
  go_wp2_with fail
  go_ret
  exact ⟨v, rfl, ownsRow_mono hown (Nat.le_trans hb1.size (by simp)), Later.trans hb2 hb⟩
theorem putFrame_any (f : Fr) (w : World) (hs : f.s.size ≤ 1048576) : Calls Try.prog 30 #[.agg (frC f).toArray] w (RetOwn w (putF f)) := by
  obtain ⟨k, s, st⟩ := f
  obtain ⟨r, hr⟩ : ∃ r, frB ⟨k, s, st⟩ = r := ⟨_, rfl⟩
  cases r
  · exact putFrame_no k s st w hs hr
  · rcases kinds k with rfl | rfl | rfl | rfl | rfl | rfl | h
    · exact putFrame_1 s st w hs hr
    · exact putFrame_2 s st w hs hr
    · exact putFrame_3 s st w hs hr
    · exact putFrame_4 s st w hs hr
    · exact putFrame_5 s st w hs hr
    · exact putFrame_6 s st w hs hr
    · rw [frB_no (f := ⟨k, s, st⟩) h] at hr; cases hr
end Go.Proofs.Ytaigdioimldknaa
