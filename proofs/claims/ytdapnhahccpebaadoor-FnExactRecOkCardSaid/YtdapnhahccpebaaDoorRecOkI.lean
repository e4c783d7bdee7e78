/- RecOk of the program. -/
import Derived.Test.YtdapnhahccpebaaDoorRecI
namespace Go.Proofs.YtdapnhahccpebaaDoor
open Go.RowKit
set_option maxRecDepth 100000
set_option linter.unusedVariables false

set_option maxHeartbeats 4000000 in
theorem recOkI_1 (n owner : Int) (text : ByteArray) (w : World) (hg : Given w) (hs : text.size ≤ 1048576) {b0 b1 b2 : Bool} (h0 : inI n 1 60000 = b0) (h1 : inI owner 0 0 = b1) (h2 : txtB text = b2) :
    Calls Tryd.prog 26 #[.agg #[.int .i64 1, .int .i64 n, .int .i64 owner, .string text]] w (RetBool w (b0 && (b1 && b2))) := by
  have HG := Lib.hid hg
  have H2 := Lib.hid h2
  clear hg h2
  unfold RetBool
  cases b0
  rotate_left
  cases b1
  rotate_left
  all_goals
    go_enter Tryd.func26, Tryd.ntmps26
    go_wp2_with fail
    refine (kind_1 _).mono ?_
    rintro e w2 ⟨rfl, hb2⟩
    unfold kPrep
    obtain ⟨hc, hf⟩ := bcell hb2
    have hz : w.heap.size < w2.heap.size := by have := hb2.size; simp at this; omega
    have hb0 : Below w.heap.size w w2 := ((Below.refl _ _).alloc (Nat.le_refl _) _).trans (hb2.mono (by simp))
    have HG2 := Lib.hid (Keeps.keeps (F := Given) hb0 HG.out)
    clear hb2
    go_wp2_with (first
      | (go_at_call 60; refine (within_b (by assumption) _).mono ?_; rintro e w' ⟨rfl, rfl⟩)
      | (go_at_call 67
         refine (txtI_any _ _ (Keeps.keeps (F := Given) (Later.alloc w2 _) HG2.out) hs H2.out).mono ?_
         rintro e w3 ⟨rfl, hb3⟩))
    all_goals first
      | (go_ret; refine ⟨by simp, hb0.trans (Below.mono ?_ hb0.size)⟩; (repeat (first | exact Below.refl _ _ | (refine Below.setCell ?_ (by simp <;> omega) _) | (refine Below.alloc ?_ (by simp <;> omega) _))); done)
      | (go_ret; refine ⟨by simp, Later.trans (Later.trans (w1 := w2) hb0 ?_) hb3⟩; show Below w2.heap.size w2 _; (repeat (first | exact Below.refl _ _ | (refine Below.setCell ?_ (by simp <;> omega) _) | (refine Below.alloc ?_ (by simp <;> omega) _))); done)
      | (show Below w2.heap.size w2 _; (repeat (first | exact Below.refl _ _ | (refine Below.setCell ?_ (by simp <;> omega) _) | (refine Below.alloc ?_ (by simp <;> omega) _))); done)

set_option maxHeartbeats 4000000 in
theorem recOkI_2 (n owner : Int) (text : ByteArray) (w : World) (hg : Given w) (hs : text.size ≤ 1048576) {b0 b1 b2 : Bool} (h0 : inI n 1 60000 = b0) (h1 : inI owner 0 0 = b1) (h2 : nilB text = b2) :
    Calls Tryd.prog 26 #[.agg #[.int .i64 2, .int .i64 n, .int .i64 owner, .string text]] w (RetBool w (b0 && (b1 && b2))) := by
  have HG := Lib.hid hg
  have H2 := Lib.hid h2
  clear hg h2
  unfold RetBool
  cases b0
  rotate_left
  cases b1
  rotate_left
  all_goals
    go_enter Tryd.func26, Tryd.ntmps26
    go_wp2_with fail
    refine (kind_2 _).mono ?_
    rintro e w2 ⟨rfl, hb2⟩
    unfold kCommit
    obtain ⟨hc, hf⟩ := bcell hb2
    have hz : w.heap.size < w2.heap.size := by have := hb2.size; simp at this; omega
    have hb0 : Below w.heap.size w w2 := ((Below.refl _ _).alloc (Nat.le_refl _) _).trans (hb2.mono (by simp))
    have HG2 := Lib.hid (Keeps.keeps (F := Given) hb0 HG.out)
    clear hb2
    go_wp2_with (first
      | (go_at_call 60; refine (within_b (by assumption) _).mono ?_; rintro e w' ⟨rfl, rfl⟩)
      | (go_at_call 67
         refine (noneI_any _ _ H2.out).mono ?_
         rintro e w3 ⟨rfl, hb3⟩))
    all_goals first
      | (go_ret; refine ⟨by simp, hb0.trans (Below.mono ?_ hb0.size)⟩; (repeat (first | exact Below.refl _ _ | (refine Below.setCell ?_ (by simp <;> omega) _) | (refine Below.alloc ?_ (by simp <;> omega) _))); done)
      | (go_ret; refine ⟨by simp, Later.trans (Later.trans (w1 := w2) hb0 ?_) hb3⟩; show Below w2.heap.size w2 _; (repeat (first | exact Below.refl _ _ | (refine Below.setCell ?_ (by simp <;> omega) _) | (refine Below.alloc ?_ (by simp <;> omega) _))); done)
      | (show Below w2.heap.size w2 _; (repeat (first | exact Below.refl _ _ | (refine Below.setCell ?_ (by simp <;> omega) _) | (refine Below.alloc ?_ (by simp <;> omega) _))); done)

set_option maxHeartbeats 4000000 in
theorem recOkI_3 (n owner : Int) (text : ByteArray) (w : World) (hg : Given w) (hs : text.size ≤ 1048576) {b0 b1 b2 : Bool} (h0 : inI n 1 60000 = b0) (h1 : inI owner 0 1 = b1) (h2 : nilB text = b2) :
    Calls Tryd.prog 26 #[.agg #[.int .i64 3, .int .i64 n, .int .i64 owner, .string text]] w (RetBool w (b0 && (b1 && b2))) := by
  have HG := Lib.hid hg
  have H2 := Lib.hid h2
  clear hg h2
  unfold RetBool
  cases b0
  rotate_left
  cases b1
  rotate_left
  all_goals
    go_enter Tryd.func26, Tryd.ntmps26
    go_wp2_with fail
    refine (kind_3 _).mono ?_
    rintro e w2 ⟨rfl, hb2⟩
    unfold kEpoch
    obtain ⟨hc, hf⟩ := bcell hb2
    have hz : w.heap.size < w2.heap.size := by have := hb2.size; simp at this; omega
    have hb0 : Below w.heap.size w w2 := ((Below.refl _ _).alloc (Nat.le_refl _) _).trans (hb2.mono (by simp))
    have HG2 := Lib.hid (Keeps.keeps (F := Given) hb0 HG.out)
    clear hb2
    go_wp2_with (first
      | (go_at_call 60; refine (within_b (by assumption) _).mono ?_; rintro e w' ⟨rfl, rfl⟩)
      | (go_at_call 67
         refine (noneI_any _ _ H2.out).mono ?_
         rintro e w3 ⟨rfl, hb3⟩))
    all_goals first
      | (go_ret; refine ⟨by simp, hb0.trans (Below.mono ?_ hb0.size)⟩; (repeat (first | exact Below.refl _ _ | (refine Below.setCell ?_ (by simp <;> omega) _) | (refine Below.alloc ?_ (by simp <;> omega) _))); done)
      | (go_ret; refine ⟨by simp, Later.trans (Later.trans (w1 := w2) hb0 ?_) hb3⟩; show Below w2.heap.size w2 _; (repeat (first | exact Below.refl _ _ | (refine Below.setCell ?_ (by simp <;> omega) _) | (refine Below.alloc ?_ (by simp <;> omega) _))); done)
      | (show Below w2.heap.size w2 _; (repeat (first | exact Below.refl _ _ | (refine Below.setCell ?_ (by simp <;> omega) _) | (refine Below.alloc ?_ (by simp <;> omega) _))); done)

set_option maxHeartbeats 4000000 in
theorem recOkI_none (k n owner : Int) (text : ByteArray) (w : World) (k1 : k ≠ 1) (k2 : k ≠ 2) (k3 : k ≠ 3) :
    Calls Tryd.prog 26 #[.agg #[.int .i64 k, .int .i64 n, .int .i64 owner, .string text]] w (RetBool w false) := by
  have hk := fun w => kind_none k k1 k2 k3 w
  clear k1 k2 k3
  unfold RetBool
  go_enter Tryd.func26, Tryd.ntmps26
  go_wp2_with fail
  refine (hk _).mono ?_
  clear hk
  rintro e w2 ⟨rfl, hb2⟩
  unfold kNone
  obtain ⟨hc, hf⟩ := bcell hb2
  have hz : w.heap.size < w2.heap.size := by have := hb2.size; simp at this; omega
  have hb0 : Below w.heap.size w w2 := ((Below.refl _ _).alloc (Nat.le_refl _) _).trans (hb2.mono (by simp))
  clear hb2
  go_wp2_with fail
  go_ret
  refine ⟨rfl, hb0.trans (Below.mono ?_ hb0.size)⟩
  repeat (first | exact Below.refl _ _ | (refine Below.setCell ?_ (by simp <;> omega) _) | (refine Below.alloc ?_ (by simp <;> omega) _))

theorem recOkI_any (r : Rec) (w : World) (hg : Given w) (hs : r.text.size ≤ 1048576) : Calls Tryd.prog 26 #[.agg (recC r).toArray] w (RetBool w (recB r)) := by
  obtain ⟨k, n, o, t⟩ := r
  show Calls Tryd.prog 26 #[.agg #[.int .i64 k, .int .i64 n, .int .i64 o, .string t]] w (RetBool w _)
  have e0 : inI o 0 0 = decide (o = 0) := by unfold inI; by_cases h : o = 0 <;> simp [h] <;> omega
  by_cases k1 : k = 1
  · subst k1
    have := recOkI_1 n o t w hg hs rfl rfl rfl
    rw [e0] at this
    exact this
  · by_cases k2 : k = 2
    · subst k2
      have := recOkI_2 n o t w hg hs rfl rfl rfl
      rw [e0] at this
      exact this
    · by_cases k3 : k = 3
      · subst k3
        exact recOkI_3 n o t w hg hs rfl rfl rfl
      · have := recOkI_none k n o t w k1 k2 k3
        have e : recB ⟨k, n, o, t⟩ = false := by unfold recB; simp [k1, k2, k3]
        rw [e]
        exact this

end Go.Proofs.YtdapnhahccpebaaDoor
