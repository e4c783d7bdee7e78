/- Journal records: when they are right, of the model and of the program. Journal records: the table of kinds of the program, RecOk of the program. RecOk of the program. -/
import Derived.Test.YtlnmlfpkpplgoaaDoorRecPure
import Derived.Test.YtlnmlfpkpplgoaaDoorFnExactParseConf
import Derived.Test.YtlnmlfpkpplgoaaDoorConfOkI
import Derived.Laws.EntriesVeiled
namespace Go.Proofs.YtlnmlfpkpplgoaaDoor
open Go.RowKit
set_option maxRecDepth 100000
set_option linter.unusedVariables false

theorem l4Text_any (s : ByteArray) (w : World) : Calls Tryd.prog 23 #[.string s] w (RetBool w (txtB s)) := by
  obtain ⟨p, hp⟩ : ∃ p, parseS s.data.toList = p := ⟨_, rfl⟩
  have HT := Lib.hid (show txtB s = p.2 by unfold txtB; rw [hp])
  have HP := Lib.hid hp
  clear hp
  unfold RetBool
  go_enter Tryd.func23, Tryd.ntmps23
  go_wp2_with fail
  refine (parseConfS_any s w).mono ?_
  rw [HP.out]
  rintro e W1 ⟨A0, c0, fp0, rfl, O0, hb⟩
  clear O0
  go_wp2_with fail
  go_ret
  exact ⟨by rw [HT.out]; rfl, hb⟩

theorem txtI_any (s : ByteArray) (w : World) (hg : Given w) (hs : s.size ≤ 1048576) {t : Bool} (ht : txtB s = t) : Calls Tryd.prog 17 #[.string s, .bool true] w (RetBool w t) := by
  obtain ⟨p, hp⟩ : ∃ p, parseS s.data.toList = p := ⟨_, rfl⟩
  have HT := Lib.hid (show p.2 = t by rw [← ht]; unfold txtB; rw [hp])
  have HP := Lib.hid hp
  clear hp ht
  unfold RetBool
  go_enter Tryd.func17, Tryd.ntmps17
  go_wp2_with fail
  refine (parseConf_ok s w hg hs).mono ?_
  rw [HP.out]
  rintro e W1 ⟨A0, c0, fp0, rfl, O0, hb⟩
  clear O0
  go_wp2_with fail
  go_ret
  exact ⟨by rw [HT.out]; rfl, hb⟩

/-- Is the string empty? In the walk's spelling. -/
theorem nil_yes {s : ByteArray} (h : nilB s = true) : s = ⟨#[]⟩ := (nilB_iff s).1 h
theorem nil_no {s : ByteArray} (h : nilB s = false) : s.toList.isEmpty = false ∧ (s.toList == []) = false := by
  have h1 : s.toList ≠ [] := fun e => by
    rw [Lib.toList_data] at e
    unfold nilB at h
    rw [e] at h
    cases h
  exact ⟨by simpa using h1, by simpa using h1⟩

theorem noneI_any (s : ByteArray) (w : World) {t : Bool} (ht : nilB s = t) : Calls Tryd.prog 17 #[.string s, .bool false] w (RetBool w t) := by
  unfold RetBool
  cases t
  · obtain ⟨h1, h2⟩ := nil_no ht
    go_enter Tryd.func17, Tryd.ntmps17
    go_wp2_with fail
    go_ret
    exact ⟨rfl, Below.refl _ _⟩
  · obtain rfl := nil_yes ht
    go_enter Tryd.func17, Tryd.ntmps17
    go_wp2_with fail
    go_ret
    exact ⟨rfl, Below.refl _ _⟩

/-! ### RecOk of the model -/
set_option maxHeartbeats 4000000 in
theorem recOkS_any (r : Rec) (w : World) : Calls Tryd.prog 21 #[.agg (recC r).toArray] w (RetBool w (recB r)) := by
  obtain ⟨b0, h0⟩ : ∃ b, inI r.n 1 60000 = b := ⟨_, rfl⟩
  obtain ⟨o0, p0⟩ : ∃ b, (r.owner == 0) = b := ⟨_, rfl⟩
  obtain ⟨o1, p1⟩ : ∃ b, inI r.owner 0 1 = b := ⟨_, rfl⟩
  obtain ⟨t, ht⟩ : ∃ b, txtB r.text = b := ⟨_, rfl⟩
  obtain ⟨n, hn⟩ : ∃ b, nilB r.text = b := ⟨_, rfl⟩
  have HC := Lib.hid (show recB r = (b0 && if r.kind = 1 then o0 && t else if r.kind = 2 then o0 && n else decide (r.kind = 3) && (o1 && n)) by
    unfold recB; rw [ht, hn, ← h0, ← p0, ← p1]; rfl)
  have HT := Lib.hid ht
  clear ht
  unfold recC RetBool
  cases b0
  · go_enter Tryd.func21, Tryd.ntmps21
    go_wp2_with (go_at_call 22; refine (l1In_b (by assumption) _).mono ?_; rintro e w' ⟨rfl, rfl⟩)
    go_ret
    exact ⟨by rw [HC.out]; simp, (Below.refl _ _).alloc (Nat.le_refl _) _⟩
  · by_cases k1 : r.kind = 1
    · have q1 : (r.kind == 1) = true := by simpa using k1
      have HK := Lib.hid k1
      clear k1
      cases o0
      · go_enter Tryd.func21, Tryd.ntmps21
        go_wp2_with (go_at_call 22; refine (l1In_b (by assumption) _).mono ?_; rintro e w' ⟨rfl, rfl⟩)
        go_ret
        exact ⟨by rw [HC.out, HK.out]; simp, (Below.refl _ _).alloc (Nat.le_refl _) _⟩
      · go_enter Tryd.func21, Tryd.ntmps21
        go_wp2_with (first
          | (go_at_call 22; refine (l1In_b (by assumption) _).mono ?_; rintro e w' ⟨rfl, rfl⟩)
          | (go_at_call 23; refine (l4Text_any _ _).mono ?_; rintro e w2 ⟨rfl, hb2⟩))
        go_ret
        exact ⟨by rw [HC.out, HK.out, HT.out]; simp, ((Below.refl _ _).alloc (Nat.le_refl _) _).trans (hb2.mono (by simp))⟩
    · have q1 : (r.kind == 1) = false := by simpa using k1
      have HK1 := Lib.hid k1
      clear k1
      by_cases k2 : r.kind = 2
      · have q2 : (r.kind == 2) = true := by simpa using k2
        have HK := Lib.hid k2
        clear k2
        cases o0
        · go_enter Tryd.func21, Tryd.ntmps21
          go_wp2_with (go_at_call 22; refine (l1In_b (by assumption) _).mono ?_; rintro e w' ⟨rfl, rfl⟩)
          go_ret
          exact ⟨by rw [HC.out, HK.out]; simp, (Below.refl _ _).alloc (Nat.le_refl _) _⟩
        · cases n
          · obtain ⟨e1, e2⟩ := nil_no hn
            go_enter Tryd.func21, Tryd.ntmps21
            go_wp2_with (go_at_call 22; refine (l1In_b (by assumption) _).mono ?_; rintro e w' ⟨rfl, rfl⟩)
            go_ret
            exact ⟨by rw [HC.out, HK.out]; simp, (Below.refl _ _).alloc (Nat.le_refl _) _⟩
          · have HN := nil_yes hn
            rw [HN]
            clear HN
            go_enter Tryd.func21, Tryd.ntmps21
            go_wp2_with (go_at_call 22; refine (l1In_b (by assumption) _).mono ?_; rintro e w' ⟨rfl, rfl⟩)
            go_ret
            exact ⟨by rw [HC.out, HK.out]; simp, (Below.refl _ _).alloc (Nat.le_refl _) _⟩
      · have q2 : (r.kind == 2) = false := by simpa using k2
        have HK2 := Lib.hid k2
        clear k2
        by_cases k3 : r.kind = 3
        · have q3 : (r.kind == 3) = true := by simpa using k3
          have HK := Lib.hid k3
          clear k3
          cases o1
          · go_enter Tryd.func21, Tryd.ntmps21
            go_wp2_with (go_at_call 22; refine (l1In_b (by assumption) _).mono ?_; rintro e w' ⟨rfl, rfl⟩)
            go_ret
            exact ⟨by rw [HC.out, HK.out]; simp, (Below.refl _ _).alloc (Nat.le_refl _) _⟩
          · cases n
            · obtain ⟨e1, e2⟩ := nil_no hn
              go_enter Tryd.func21, Tryd.ntmps21
              go_wp2_with (go_at_call 22; refine (l1In_b (by assumption) _).mono ?_; rintro e w' ⟨rfl, rfl⟩)
              go_ret
              exact ⟨by rw [HC.out, HK.out]; simp, (Below.refl _ _).alloc (Nat.le_refl _) _⟩
            · have HN := nil_yes hn
              rw [HN]
              clear HN
              go_enter Tryd.func21, Tryd.ntmps21
              go_wp2_with (go_at_call 22; refine (l1In_b (by assumption) _).mono ?_; rintro e w' ⟨rfl, rfl⟩)
              go_ret
              exact ⟨by rw [HC.out, HK.out]; simp, (Below.refl _ _).alloc (Nat.le_refl _) _⟩
        · have q3 : (r.kind == 3) = false := by simpa using k3
          have HK3 := Lib.hid k3
          clear k3
          go_enter Tryd.func21, Tryd.ntmps21
          go_wp2_with (go_at_call 22; refine (l1In_b (by assumption) _).mono ?_; rintro e w' ⟨rfl, rfl⟩)
          go_ret
          exact ⟨by rw [HC.out, if_neg HK1.out, if_neg HK2.out, decide_eq_false HK3.out]; simp, (Below.refl _ _).alloc (Nat.le_refl _) _⟩

end Go.Proofs.YtlnmlfpkpplgoaaDoor

namespace Go.Proofs.YtlnmlfpkpplgoaaDoor
open Go.RowKit
set_option linter.unusedVariables false

/-! ### the kinds of the program -/
def kPrep : Value := .agg #[.int .i64 1, .int .i64 0, .bool true, .func (.func 26) #[] #[]]
def kCommit : Value := .agg #[.int .i64 2, .int .i64 0, .bool false, .func (.func 27) #[] #[]]
def kEpoch : Value := .agg #[.int .i64 3, .int .i64 1, .bool false, .func (.func 28) #[] #[]]
def kNone : Value := .agg #[.int .i64 0, .int .i64 0, .bool false, .nilFunc]

set_option maxHeartbeats 4000000 in
theorem kind_1 (w : World) : Calls Tryd.prog 15 #[.int .i64 1] w fun e w' => e = .returned (.tuple #[kPrep, .bool true]) ∧ Below w.heap.size w w' := by
  unfold kPrep
  go_enter Tryd.func15, Tryd.ntmps15
  go_wp2
  refine wp_loop_rounds 1 ?_
  rw [rounds_succ]
  go_wp2
  refine bodyPost_ret (v := .tuple #[.agg #[.int .i64 1, .int .i64 0, .bool true, .func (.func 26) #[] #[]], .bool true]) (by simp [results, Tryd.results15, go_sem]) rfl ⟨rfl, ?_⟩
  repeat (first | exact Below.refl _ _ | (refine Below.setCell ?_ (by simp <;> omega) _) | (refine Below.alloc ?_ (by simp <;> omega) _))

set_option maxHeartbeats 4000000 in
theorem kind_2 (w : World) : Calls Tryd.prog 15 #[.int .i64 2] w fun e w' => e = .returned (.tuple #[kCommit, .bool true]) ∧ Below w.heap.size w w' := by
  unfold kCommit
  go_enter Tryd.func15, Tryd.ntmps15
  go_wp2
  refine wp_loop_rounds 2 ?_
  rw [rounds_succ]
  go_wp2
  rw [rounds_succ]
  go_wp2
  refine bodyPost_ret (v := .tuple #[.agg #[.int .i64 2, .int .i64 0, .bool false, .func (.func 27) #[] #[]], .bool true]) (by simp [results, Tryd.results15, go_sem]) rfl ⟨rfl, ?_⟩
  repeat (first | exact Below.refl _ _ | (refine Below.setCell ?_ (by simp <;> omega) _) | (refine Below.alloc ?_ (by simp <;> omega) _))

set_option maxHeartbeats 4000000 in
theorem kind_3 (w : World) : Calls Tryd.prog 15 #[.int .i64 3] w fun e w' => e = .returned (.tuple #[kEpoch, .bool true]) ∧ Below w.heap.size w w' := by
  unfold kEpoch
  go_enter Tryd.func15, Tryd.ntmps15
  go_wp2
  refine wp_loop_rounds 3 ?_
  rw [rounds_succ]
  go_wp2
  rw [rounds_succ]
  go_wp2
  rw [rounds_succ]
  go_wp2
  refine bodyPost_ret (v := .tuple #[.agg #[.int .i64 3, .int .i64 1, .bool false, .func (.func 28) #[] #[]], .bool true]) (by simp [results, Tryd.results15, go_sem]) rfl ⟨rfl, ?_⟩
  repeat (first | exact Below.refl _ _ | (refine Below.setCell ?_ (by simp <;> omega) _) | (refine Below.alloc ?_ (by simp <;> omega) _))

set_option maxHeartbeats 4000000 in
theorem kind_none (k : Int) (h1 : k ≠ 1) (h2 : k ≠ 2) (h3 : k ≠ 3) (w : World) : Calls Tryd.prog 15 #[.int .i64 k] w fun e w' => e = .returned (.tuple #[kNone, .bool false]) ∧ Below w.heap.size w w' := by
  have q1 : ((1 : Int) == k) = false := by simp; omega
  have q2 : ((2 : Int) == k) = false := by simp; omega
  have q3 : ((3 : Int) == k) = false := by simp; omega
  clear h1 h2 h3
  unfold kNone
  go_enter Tryd.func15, Tryd.ntmps15
  go_wp2
  refine wp_loop_rounds 4 ?_
  rw [rounds_succ]
  go_wp2
  rw [rounds_succ]
  go_wp2
  rw [rounds_succ]
  go_wp2
  rw [rounds_succ]
  go_wp2
  refine bodyPost_ret (v := .tuple #[.agg #[.int .i64 0, .int .i64 0, .bool false, .nilFunc], .bool false]) (by simp [results, Tryd.results15, go_sem]) rfl ⟨rfl, ?_⟩
  repeat (first | exact Below.refl _ _ | (refine Below.setCell ?_ (by simp <;> omega) _) | (refine Below.alloc ?_ (by simp <;> omega) _))

end Go.Proofs.YtlnmlfpkpplgoaaDoor

namespace Go.Proofs.YtlnmlfpkpplgoaaDoor
open Go.RowKit
set_option linter.unusedVariables false

set_option maxHeartbeats 4000000 in
theorem recOkI_1 (n owner : Int) (text : ByteArray) (w : World) (hg : Given w) (hs : text.size ≤ 1048576) {b0 b1 b2 : Bool} (h0 : inI n 1 60000 = b0) (h1 : inI owner 0 0 = b1) (h2 : txtB text = b2) :
    Calls Tryd.prog 8 #[.agg #[.int .i64 1, .int .i64 n, .int .i64 owner, .string text]] w (RetBool w (b0 && (b1 && b2))) := by
  have HG := Lib.hid hg
  have H2 := Lib.hid h2
  clear hg h2
  unfold RetBool
  cases b0
  rotate_left
  cases b1
  rotate_left
  all_goals
    go_enter Tryd.func8, Tryd.ntmps8
    go_wp2_with fail
    refine (kind_1 _).mono ?_
    rintro e w2 ⟨rfl, hb2⟩
    unfold kPrep
    obtain ⟨hc, hf⟩ := bcell hb2
    have hz : w.heap.size < w2.heap.size := by have := hb2.size; simp at this; omega
    have hb0 : Below w.heap.size w w2 := ((Below.refl _ _).alloc (Nat.le_refl _) _).trans (hb2.mono (by simp))
    have HG2 := Lib.hid (Keeps.keeps (F := Given) hb0 HG.out)
    clear hb2
    go_wp2_with (first
      | (go_at_call 16; refine (within_b (by assumption) _).mono ?_; rintro e w' ⟨rfl, rfl⟩)
      | (go_at_call 17
         refine (txtI_any _ _ (Keeps.keeps (F := Given) (Later.alloc w2 _) HG2.out) hs H2.out).mono ?_
         rintro e w3 ⟨rfl, hb3⟩))
    all_goals first
      | (go_ret; refine ⟨by simp, hb0.trans (Below.mono ?_ hb0.size)⟩; (repeat (first | exact Below.refl _ _ | (refine Below.setCell ?_ (by simp <;> omega) _) | (refine Below.alloc ?_ (by simp <;> omega) _))); done)
      | (go_ret; refine ⟨by simp, Later.trans (Later.trans (w1 := w2) hb0 ?_) hb3⟩; show Below w2.heap.size w2 _; (repeat (first | exact Below.refl _ _ | (refine Below.setCell ?_ (by simp <;> omega) _) | (refine Below.alloc ?_ (by simp <;> omega) _))); done)
      | (show Below w2.heap.size w2 _; (repeat (first | exact Below.refl _ _ | (refine Below.setCell ?_ (by simp <;> omega) _) | (refine Below.alloc ?_ (by simp <;> omega) _))); done)

set_option maxHeartbeats 4000000 in
theorem recOkI_2 (n owner : Int) (text : ByteArray) (w : World) (hg : Given w) (hs : text.size ≤ 1048576) {b0 b1 b2 : Bool} (h0 : inI n 1 60000 = b0) (h1 : inI owner 0 0 = b1) (h2 : nilB text = b2) :
    Calls Tryd.prog 8 #[.agg #[.int .i64 2, .int .i64 n, .int .i64 owner, .string text]] w (RetBool w (b0 && (b1 && b2))) := by
  have HG := Lib.hid hg
  have H2 := Lib.hid h2
  clear hg h2
  unfold RetBool
  cases b0
  rotate_left
  cases b1
  rotate_left
  all_goals
    go_enter Tryd.func8, Tryd.ntmps8
    go_wp2_with fail
    refine (kind_2 _).mono ?_
    rintro e w2 ⟨rfl, hb2⟩
    unfold kCommit
    obtain ⟨hc, hf⟩ := bcell hb2
    have hz : w.heap.size < w2.heap.size := by have := hb2.size; simp at this; omega
    have hb0 : Below w.heap.size w w2 := ((Below.refl _ _).alloc (Nat.le_refl _) _).trans (hb2.mono (by simp))
    have HG2 := Lib.hid (Keeps.keeps (F := Given) hb0 HG.out)
    clear hb2
    go_wp2_with (first
      | (go_at_call 16; refine (within_b (by assumption) _).mono ?_; rintro e w' ⟨rfl, rfl⟩)
      | (go_at_call 17
         refine (noneI_any _ _ H2.out).mono ?_
         rintro e w3 ⟨rfl, hb3⟩))
    all_goals first
      | (go_ret; refine ⟨by simp, hb0.trans (Below.mono ?_ hb0.size)⟩; (repeat (first | exact Below.refl _ _ | (refine Below.setCell ?_ (by simp <;> omega) _) | (refine Below.alloc ?_ (by simp <;> omega) _))); done)
      | (go_ret; refine ⟨by simp, Later.trans (Later.trans (w1 := w2) hb0 ?_) hb3⟩; show Below w2.heap.size w2 _; (repeat (first | exact Below.refl _ _ | (refine Below.setCell ?_ (by simp <;> omega) _) | (refine Below.alloc ?_ (by simp <;> omega) _))); done)
      | (show Below w2.heap.size w2 _; (repeat (first | exact Below.refl _ _ | (refine Below.setCell ?_ (by simp <;> omega) _) | (refine Below.alloc ?_ (by simp <;> omega) _))); done)

set_option maxHeartbeats 4000000 in
theorem recOkI_3 (n owner : Int) (text : ByteArray) (w : World) (hg : Given w) (hs : text.size ≤ 1048576) {b0 b1 b2 : Bool} (h0 : inI n 1 60000 = b0) (h1 : inI owner 0 1 = b1) (h2 : nilB text = b2) :
    Calls Tryd.prog 8 #[.agg #[.int .i64 3, .int .i64 n, .int .i64 owner, .string text]] w (RetBool w (b0 && (b1 && b2))) := by
  have HG := Lib.hid hg
  have H2 := Lib.hid h2
  clear hg h2
  unfold RetBool
  cases b0
  rotate_left
  cases b1
  rotate_left
  all_goals
    go_enter Tryd.func8, Tryd.ntmps8
    go_wp2_with fail
    refine (kind_3 _).mono ?_
    rintro e w2 ⟨rfl, hb2⟩
    unfold kEpoch
    obtain ⟨hc, hf⟩ := bcell hb2
    have hz : w.heap.size < w2.heap.size := by have := hb2.size; simp at this; omega
    have hb0 : Below w.heap.size w w2 := ((Below.refl _ _).alloc (Nat.le_refl _) _).trans (hb2.mono (by simp))
    have HG2 := Lib.hid (Keeps.keeps (F := Given) hb0 HG.out)
    clear hb2
    go_wp2_with (first
      | (go_at_call 16; refine (within_b (by assumption) _).mono ?_; rintro e w' ⟨rfl, rfl⟩)
      | (go_at_call 17
         refine (noneI_any _ _ H2.out).mono ?_
         rintro e w3 ⟨rfl, hb3⟩))
    all_goals first
      | (go_ret; refine ⟨by simp, hb0.trans (Below.mono ?_ hb0.size)⟩; (repeat (first | exact Below.refl _ _ | (refine Below.setCell ?_ (by simp <;> omega) _) | (refine Below.alloc ?_ (by simp <;> omega) _))); done)
      | (go_ret; refine ⟨by simp, Later.trans (Later.trans (w1 := w2) hb0 ?_) hb3⟩; show Below w2.heap.size w2 _; (repeat (first | exact Below.refl _ _ | (refine Below.setCell ?_ (by simp <;> omega) _) | (refine Below.alloc ?_ (by simp <;> omega) _))); done)
      | (show Below w2.heap.size w2 _; (repeat (first | exact Below.refl _ _ | (refine Below.setCell ?_ (by simp <;> omega) _) | (refine Below.alloc ?_ (by simp <;> omega) _))); done)

set_option maxHeartbeats 4000000 in
theorem recOkI_none (k n owner : Int) (text : ByteArray) (w : World) (k1 : k ≠ 1) (k2 : k ≠ 2) (k3 : k ≠ 3) :
    Calls Tryd.prog 8 #[.agg #[.int .i64 k, .int .i64 n, .int .i64 owner, .string text]] w (RetBool w false) := by
  have hk := fun w => kind_none k k1 k2 k3 w
  clear k1 k2 k3
  unfold RetBool
  go_enter Tryd.func8, Tryd.ntmps8
  go_wp2_with fail
  refine (hk _).mono ?_
  clear hk
  rintro e w2 ⟨rfl, hb2⟩
  unfold kNone
  obtain ⟨hc, hf⟩ := bcell hb2
  have hz : w.heap.size < w2.heap.size := by have := hb2.size; simp at this; omega
  have hb0 : Below w.heap.size w w2 := ((Below.refl _ _).alloc (Nat.le_refl _) _).trans (hb2.mono (by simp))
  clear hb2
  go_wp2_with fail
  go_ret
  refine ⟨rfl, hb0.trans (Below.mono ?_ hb0.size)⟩
  repeat (first | exact Below.refl _ _ | (refine Below.setCell ?_ (by simp <;> omega) _) | (refine Below.alloc ?_ (by simp <;> omega) _))

theorem recOkI_any (r : Rec) (w : World) (hg : Given w) (hs : r.text.size ≤ 1048576) : Calls Tryd.prog 8 #[.agg (recC r).toArray] w (RetBool w (recB r)) := by
  obtain ⟨k, n, o, t⟩ := r
  show Calls Tryd.prog 8 #[.agg #[.int .i64 k, .int .i64 n, .int .i64 o, .string t]] w (RetBool w _)
  have e0 : inI o 0 0 = decide (o = 0) := by unfold inI; by_cases h : o = 0 <;> simp [h] <;> omega
  by_cases k1 : k = 1
  · subst k1
    have := recOkI_1 n o t w hg hs rfl rfl rfl
    rw [e0] at this
    exact this
  · by_cases k2 : k = 2
    · subst k2
      have := recOkI_2 n o t w hg hs rfl rfl rfl
      rw [e0] at this
      exact this
    · by_cases k3 : k = 3
      · subst k3
        exact recOkI_3 n o t w hg hs rfl rfl rfl
      · have := recOkI_none k n o t w k1 k2 k3
        have e : recB ⟨k, n, o, t⟩ = false := by unfold recB; simp [k1, k2, k3]
        rw [e]
        exact this

end Go.Proofs.YtlnmlfpkpplgoaaDoor
