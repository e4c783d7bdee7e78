/- The program's socket: made. (By gen_socket.py.) -/
import Derived.Test.YtcelkmphdeaaeaaSocket
namespace Go.Proofs.Ytcelkmphdeaaeaa
open Go.RowKit
set_option maxRecDepth 100000
set_option linter.unusedVariables false


def RetKB (w : World) (x : Sk) (e : Ending) (w' : World) : Prop := ∃ S v4 v5 o5 d7, e = .returned (.pointer (some ⟨S, 0, none⟩)) ∧ KB w S x v4 v5 o5 d7 w'

set_option maxHeartbeats 4000000 in
theorem socketOf_any (cs : List Value) (x : Sk) (w : World) (h : skR.at_ w w.heap.size cs x) (hs : RoomSk x) :
    Calls Try.prog 66 #[.agg cs.toArray] w (RetKB w x) := by
  obtain ⟨B4, e4, B5, e5, rfl, _, hr4, _, hr5⟩ := sk_cells h
  obtain ⟨f4, f5⟩ := hs
  have hn0 : ∀ w, Reads w w.heap.size 1 none ([] : List UInt8).length (bys []) := fun w => ⟨by simp [bys], fun h => by simp at h⟩
  have S0 : All (fun w' => (Below w.heap.size w w' ∧ Reads w' w'.heap.size 1 B4 x.inn.length (bys x.inn)) ∧ Reads w' w'.heap.size 1 B5 x.out.length (bys x.out)) w := ⟨⟨Below.refl _ _, hr4⟩, hr5⟩
  have T : All (fun w' => ((Below w.heap.size w w' ∧ Reads w' w'.heap.size 1 B4 x.inn.length (bys x.inn)) ∧ Reads w' w'.heap.size 1 B5 x.out.length (bys x.out)) ∧ w'.heap[w.heap.size]? = some (.cells #[.int .i64 x.id, .int .i64 x.kind, .int .i64 x.hold, .bool x.shut, .slice B4 x.inn.length e4, .slice B5 x.out.length e5, .int .i64 x.st, .int .i64 x.done] 25 (0, 0))) (w.alloc (.cells #[.int .i64 x.id, .int .i64 x.kind, .int .i64 x.hold, .bool x.shut, .slice B4 x.inn.length e4, .slice B5 x.out.length e5, .int .i64 x.st, .int .i64 x.done] 25)) := ⟨(S0.alloc _).out, heap_alloc_new w _⟩
  clear h hr4 hr5 S0
  go_enter Try.func66, Try.ntmps66
  go_wp2_with fail
  generalize w.alloc (.cells #[.int .i64 x.id, .int .i64 x.kind, .int .i64 x.hold, .bool x.shut, .slice B4 x.inn.length e4, .slice B5 x.out.length e5, .int .i64 x.st, .int .i64 x.done] 25) = W at T ⊢
  refine wp_region_open 100 (fun w' => w'.heap[w.heap.size]? = some (.cells #[.int .i64 x.id, .int .i64 x.kind, .int .i64 x.hold, .bool x.shut, .slice B4 x.inn.length e4, .slice B5 x.out.length e5, .int .i64 x.st, .int .i64 x.done] 25 (0, 0))) (by kernel_rfl) ?_
  replace T := T.drew
  refine wpAnyL_readsG [0, 1, 3, 4, 6] (fuel := 5) (by kernel_rfl) T.out.2 ?_
  refine LexRG.yes rfl (by first | rfl | (simp [Region.wanted, yielded]; done)) ?_ (fun w' hw => ?_) ?_
  rotate_left
  focus (clear hw; go_simp; (try exact rfl))
  try go_frame
  refine LexRG.yes rfl (by first | rfl | (simp [Region.wanted, yielded]; done)) ?_ (fun w' hw => ?_) ?_
  rotate_left
  focus (have hw2 := hw; have q0 := var_cell hw2 0; have q1 := var_cell hw2 1; have q2 := var_cell hw2 2; have q3 := var_cell hw2 3; have q4 := var_cell hw2 4; have q5 := var_cell hw2 5; have q6 := var_cell hw2 6; have q7 := var_cell hw2 7; clear hw; go_simp; (try exact rfl))
  try go_frame
  refine LexRG.yes rfl (by first | rfl | (simp [Region.wanted, yielded]; done)) ?_ (fun w' hw => ?_) ?_
  rotate_left
  focus (clear hw; go_simp; (try exact rfl))
  try go_frame
  refine LexRG.yes rfl (by first | rfl | (simp [Region.wanted, yielded]; done)) ?_ (fun w' hw => ?_) ?_
  rotate_left
  focus (have hw2 := hw; have q0 := var_cell hw2 0; have q1 := var_cell hw2 1; have q2 := var_cell hw2 2; have q3 := var_cell hw2 3; have q4 := var_cell hw2 4; have q5 := var_cell hw2 5; have q6 := var_cell hw2 6; have q7 := var_cell hw2 7; clear hw; go_simp; (try exact rfl))
  try go_frame
  refine LexRG.yes rfl (by first | rfl | (simp [Region.wanted, yielded]; done)) ?_ (fun w' hw => ?_) ?_
  rotate_left
  focus (have hw2 := hw; have q0 := var_cell hw2 0; have q1 := var_cell hw2 1; have q2 := var_cell hw2 2; have q3 := var_cell hw2 3; have q4 := var_cell hw2 4; have q5 := var_cell hw2 5; have q6 := var_cell hw2 6; have q7 := var_cell hw2 7; clear hw; go_simp; (try exact rfl))
  try go_frame
  refine LexRG.nil ?_
  refine wpAnyL_one (i := 2) (by kernel_rfl) ?_
  refine lexA_get rfl ?_
  try go_frame
  go_wp2_with fail
  refine (joined_any B5 none e5 0 x.out [] W.drew T.out.1.2 (hn0 _) (by omega) (by simp)).mono ?_
  rintro e V1 ⟨v5, rfl, o5, hb⟩
  rw [List.append_nil] at o5
  obtain ⟨A5, c5, rfl, _⟩ := o5.shape
  have h0 : w.heap.size ≤ W.drew.heap.size := T.out.1.1.1.size
  have h1 : Below w.heap.size w V1 := Later.trans T.out.1.1.1 hb
  replace T := T.later hb
  clear hb
  go_wp2_with fail
  refine ⟨fun _ => T.out.2, ?_⟩
  refine wpAnyL_readsG [5, 7] (fuel := 2) (by kernel_rfl) T.out.2 ?_
  refine LexRG.yes rfl (by first | rfl | (simp [Region.wanted, yielded]; done)) ?_ (fun w' hw => ?_) ?_
  rotate_left
  focus (clear hw; go_simp; (try exact rfl))
  try go_frame
  refine LexRG.yes rfl (by first | rfl | (simp [Region.wanted, yielded]; done)) ?_ (fun w' hw => ?_) ?_
  rotate_left
  focus (clear hw; go_simp; (try exact rfl))
  try go_frame
  refine LexRG.nil ?_
  refine wpAnyL_one (i := 8) (by kernel_rfl) ?_
  refine lexA_get rfl ?_
  try go_frame
  go_wp2_with fail
  replace T := T.alloc (.cells #[.slice A5 x.out.length c5, .int .i64 x.done, .int .i64 x.id, .int .i64 x.kind, .int .i64 x.hold, .bool x.shut, .slice B4 x.inn.length e4, .slice B5 x.out.length e5, .int .i64 x.st, .int .i64 x.done] 89)
  refine ⟨fun _ => T.out.2, ?_⟩
  refine wpAnyL_writes [9] (by kernel_rfl) (LexW.cons rfl ?_)
  try go_frame
  go_wp2_with fail
  refine ⟨fun _ => T.out.2, LexW.nil ?_⟩
  have hbx := heap_alloc_new V1 (.cells #[.slice A5 x.out.length c5, .int .i64 x.done, .int .i64 x.id, .int .i64 x.kind, .int .i64 x.hold, .bool x.shut, .slice B4 x.inn.length e4, .slice B5 x.out.length e5, .int .i64 x.st, .int .i64 x.done] 89)
  have HA := Later.alloc V1 (.cells #[.slice A5 x.out.length c5, .int .i64 x.done, .int .i64 x.id, .int .i64 x.kind, .int .i64 x.hold, .bool x.shut, .slice B4 x.inn.length e4, .slice B5 x.out.length e5, .int .i64 x.st, .int .i64 x.done] 89)
  have hS2 : V1.heap.size < (V1.alloc (.cells #[.slice A5 x.out.length c5, .int .i64 x.done, .int .i64 x.id, .int .i64 x.kind, .int .i64 x.hold, .bool x.shut, .slice B4 x.inn.length e4, .slice B5 x.out.length e5, .int .i64 x.st, .int .i64 x.done] 89)).heap.size := by simp
  have u5 : ∀ k, (Value.slice A5 x.out.length c5).ownBlock = some k → k < V1.heap.size := fun k hk => (o5.lt k hk).2
  replace o5 := Owns.keep o5 HA
  have hlo : w.heap.size ≤ V1.heap.size := h1.size
  clear HA h1
  generalize V1.alloc (.cells #[.slice A5 x.out.length c5, .int .i64 x.done, .int .i64 x.id, .int .i64 x.kind, .int .i64 x.hold, .bool x.shut, .slice B4 x.inn.length e4, .slice B5 x.out.length e5, .int .i64 x.st, .int .i64 x.done] 89) = W2 at T hbx hS2 o5 ⊢
  generalize V1.heap.size = S at hbx hS2 u5 hlo ⊢
  have q4 := var_cell T.out.2 4
  go_wp2_with fail
  refine (joined_any B4 none e4 0 x.inn [] W2 T.out.1.1.2 (hn0 _) (by omega) (by simp)).mono ?_
  rintro e W3 ⟨v4, rfl, o4, hb⟩
  rw [List.append_nil] at o4
  obtain ⟨A4, c4, rfl, _⟩ := o4.shape
  replace hbx := (hb.block _ hS2).trans hbx
  replace o5 := Owns.keep o5 hb
  have hlow : Below w.heap.size w W3 := Later.trans T.out.1.1.1 hb
  have hsz : w.heap.size ≤ W2.heap.size := T.out.1.1.1.size
  have hS3 : S < W3.heap.size := Nat.lt_of_lt_of_le hS2 hb.size
  clear hb q4 T
  have y6 := var_cell hbx 6
  have t6 := var_frozen hbx 6
  go_wp2_with fail
  go_ret
  refine ⟨S, .slice A4 x.inn.length c4, .slice A5 x.out.length c5, .slice B5 x.out.length e5, x.done, rfl, ?_⟩
  refine ⟨hlow.setCell (p := ⟨S, 6, none⟩) hlo _, var_set hbx 6 _, ?_, ?_, ?_, hlo, ?_, ?_, ⟨_, _, _, rfl⟩⟩
  · exact ownsRow_mono (Owns.setLow o4 (p := ⟨S, 6, none⟩) hS2 _) hsz
  · exact Rep.ownsRow_block (ownsRow_mono o5 h0) fun g hg => heap_setCell_other _ _ _ _ (fun e => by have := u5 g (by simpa using hg); have e2 : g = S := e; omega)
  · intro k h4 h5
    have := (o4.lt k h4).1
    have := u5 k h5
    omega
  · intro h4
    have := (o4.lt S h4).1
    omega
  · intro h5
    have := u5 S h5
    omega


set_option maxHeartbeats 4000000 in
theorem receive_any {w0 : World} {S : Nat} {x : Sk} {v4 v5 o5 : Value} {d7 : Int} (w : World) (h : KB w0 S x v4 v5 o5 d7 w) (B : Option Addr) (e : Nat) (b : List UInt8) (hr : Reads w w.heap.size 1 B b.length (bys b)) (hl : x.inn.length ≤ 2097152) (hbl : b.length ≤ 1048576) :
    Calls Try.prog 67 #[.pointer (some ⟨S, 0, none⟩), .slice B b.length e] w fun e' w' => (x.inn.length + b.length ≤ 240 ∧ e' = .returned (.bool true) ∧ ∃ v4', KB w0 S { x with inn := x.inn ++ b } v4' v5 o5 d7 w') ∨ (¬ x.inn.length + b.length ≤ 240 ∧ e' = .returned (.bool false) ∧ w = w') := by
  obtain ⟨A4, c4, A5, c5, B5, m5, e5, rfl, rfl, rfl, hc4, hc5⟩ := h.slices
  obtain ⟨i0, hi0, hz0, hz1, hz2⟩ := info_parts Try.info8
  have q6 := var_cell h.box 6
  have hS := h.lt
  by_cases h240 : x.inn.length + b.length ≤ 240
  · have g240 : ¬ (240 : Int) < (x.inn.length : Int) + (b.length : Int) := by omega
    go_enter Try.func67, Try.ntmps67
    go_wp2_with (first
      | (at_builtin
         refine wpList_append_any _ rfl (.tmp 20) (.tmp 21) _ rfl w0.heap.size 5 i0 _ 1 1 Try.underlying22 hi0 hz0 hz1 hz2 rfl (by omega) (.slice A4 x.inn.length c4) x.inn.length (bys x.inn) rfl h.inn w.heap.size B b.length e (bys b) rfl hr (bys_one b) (by simp only [maxLen]; omega) (by omega) h.below.size ?_
         intro v3 w3 hown3 hg3 hat3
         refine Halt.go ?_)
      | fail)
    have hl3 : Owns w3 w0.heap.size 5 v3 (x.inn ++ b) := by unfold Owns; rw [bys_append, List.length_append]; exact hown3
    have hbx := ((hg3.block S hS (fun e => h.n4 e.symm))).trans h.box
    have hK := h.grown4 hg3 hl3 (by rcases hat3 with e | e; exact .inl e; exact .inr (.inl e))
    obtain ⟨A3, c3, rfl, _⟩ := hl3.shape
    have hS3 : S < w3.heap.size := Nat.lt_of_lt_of_le hS hg3.size
    clear q6 hown3 hg3 hat3 hl3 hr
    refine Halt.mk ?_
    have y6 := var_cell hbx 6
    have t6 := var_frozen hbx 6
    go_wp2_with fail
    go_ret
    have hK2 := hK
    rw [List.length_append] at hK2
    exact .inl ⟨h240, rfl, _, hK2⟩
  · have g240 : (240 : Int) < (x.inn.length : Int) + (b.length : Int) := by omega
    go_enter Try.func67, Try.ntmps67
    go_wp2_with fail
    go_ret
    exact .inr ⟨h240, rfl, rfl⟩


set_option maxHeartbeats 8000000 in
theorem send_any {w0 : World} {S : Nat} {x : Sk} {v4 v5 o5 : Value} {d7 : Int} (f : Fr) (w : World) (h : KB w0 S x v4 v5 o5 d7 w) (hl : x.out.length ≤ 2097152) (hs : f.s.size ≤ 1048576) :
    Calls Try.prog 79 #[.pointer (some ⟨S, 0, none⟩), .agg (frC f).toArray] w fun e' w' => e' = .returned (.tuple #[]) ∧ ∃ v5', KB w0 S { x with out := x.out ++ putF f } v4 v5' o5 d7 w' := by
  obtain ⟨A4, c4, A5, c5, B5, m5, e5, rfl, rfl, rfl, hc4, hc5⟩ := h.slices
  obtain ⟨i0, hi0, hz0, hz1, hz2⟩ := info_parts Try.info8
  obtain ⟨P, hP⟩ : ∃ P, putF f = P := ⟨_, rfl⟩
  have HP := Lib.hid hP
  have hPl : P.length ≤ 102 := by rw [← hP]; exact putF_len f
  rw [hP]
  clear hP
  have hK := h.later (Later.alloc w (.cells (frC f).toArray 33))
  have T : All (fun w' => KB w0 S x (.slice A4 x.inn.length c4) (.slice A5 x.out.length c5) (.slice B5 m5 e5) d7 w' ∧ (w'.heap[S]? = some (.cells #[.slice A5 x.out.length c5, .int .i64 x.done, .int .i64 x.id, .int .i64 x.kind, .int .i64 x.hold, .bool x.shut, .slice A4 x.inn.length c4, .slice B5 m5 e5, .int .i64 x.st, .int .i64 d7] 89 (0, 0)) ∧ w'.heap[w.heap.size]? = some (.cells (frC f).toArray 33 (0, 0)))) (w.alloc (.cells (frC f).toArray 33)) := ⟨hK, hK.box, heap_alloc_new w _⟩
  have hnf : (Value.slice A5 x.out.length c5).ownBlock ≠ some w.heap.size := fun e => by have := (h.out.lt _ e).2; omega
  clear h hK
  unfold frC
  go_enter Try.func79, Try.ntmps79
  go_upto_region 1 with (fail)
  replace T : All _ (w.alloc (.cells #[.int .i64 f.k, .string f.s, .int .i64 f.st] 33)) := T
  generalize w.alloc (.cells #[.int .i64 f.k, .string f.s, .int .i64 f.st] 33) = W at T ⊢
  refine wp_region_open 10 (fun w' => w'.heap[S]? = some (.cells #[.slice A5 x.out.length c5, .int .i64 x.done, .int .i64 x.id, .int .i64 x.kind, .int .i64 x.hold, .bool x.shut, .slice A4 x.inn.length c4, .slice B5 m5 e5, .int .i64 x.st, .int .i64 d7] 89 (0, 0)) ∧ w'.heap[w.heap.size]? = some (.cells (frC f).toArray 33 (0, 0))) (by kernel_rfl) ?_
  replace T := T.drew
  generalize W.drew = W at T ⊢
  refine wpAnyL_readsG [0, 1, 2, 3, 4, 5] (fuel := 5) (by kernel_rfl) T.out.2 ?_
  refine LexRG.yes rfl (by first | rfl | (simp [Region.wanted, yielded]; done)) ?_ (fun w' hw => ?_) ?_
  rotate_left
  focus (skip; clear hw; go_simp; (try exact rfl))
  try go_frame
  refine LexRG.yes rfl (by first | rfl | (simp [Region.wanted, yielded]; done)) ?_ (fun w' hw => ?_) ?_
  rotate_left
  focus (skip; clear hw; go_simp; (try exact rfl))
  try go_frame
  refine LexRG.yes rfl (by first | rfl | (simp [Region.wanted, yielded]; done)) ?_ (fun w' hw => ?_) ?_
  rotate_left
  focus (skip; clear hw; go_simp; (try exact rfl))
  try go_frame
  refine LexRG.yes rfl (by first | rfl | (simp [Region.wanted, yielded]; done)) ?_ (fun w' hw => ?_) ?_
  rotate_left
  focus (skip; clear hw; go_simp; (try exact rfl))
  try go_frame
  refine LexRG.yes rfl (by first | rfl | (simp [Region.wanted, yielded]; done)) ?_ (fun w' hw => ?_) ?_
  rotate_left
  focus (have hw2 := hw.1; have s0 := var_cell hw2 0; have s1 := var_cell hw2 1; clear hw; go_simp; (try exact rfl))
  try go_frame
  refine LexRG.yes rfl (by first | rfl | (simp [Region.wanted, yielded]; done)) ?_ (fun w' hw => ?_) ?_
  rotate_left
  focus (obtain ⟨f0, f1, f2⟩ := fr_box hw.2; clear hw; go_simp; (try exact rfl))
  try go_frame
  refine LexRG.nil ?_
  refine wpAnyL_one (i := 6) (by kernel_rfl) ?_
  refine lexA_get rfl ?_
  try go_frame
  go_wp2_with fail
  refine (putFrame_any f W hs).mono ?_
  rintro e W1 ⟨v, rfl, oP, hb⟩
  rw [HP.out] at oP
  obtain ⟨AP, cP, rfl, _, _, hrP, _⟩ := oP.shape
  replace T := T.later hb
  clear hb oP
  go_wp2_with fail
  refine ⟨fun _ => T.out.2, ?_⟩
  refine wpAnyL_one (i := 7) (by kernel_rfl) ?_
  refine lexA_get rfl ?_
  try go_frame
  go_wp2_with (first
    | (at_builtin
       refine wpList_append_any _ rfl (.tmp 8) (.tmp 10) _ rfl w0.heap.size 5 i0 _ 1 1 Try.underlying22 hi0 hz0 hz1 hz2 rfl (by omega) (.slice A5 x.out.length c5) x.out.length (bys x.out) rfl T.out.1.out W1.heap.size AP P.length cP (bys P) rfl hrP (bys_one P) (by simp only [maxLen]; omega) (by omega) T.out.1.below.size ?_
       intro v3 w3 hown3 hg3 hat3
       refine Halt.go ?_)
    | fail)
  have hl3 : Owns w3 w0.heap.size 5 v3 (x.out ++ P) := by unfold Owns; rw [bys_append, List.length_append]; exact hown3
  have hbx := ((hg3.block S T.out.1.lt (fun e => T.out.1.n5 e.symm))).trans T.out.1.box
  have hfx := ((hg3.block w.heap.size (Array.getElem?_eq_some_iff.1 T.out.2.2).1 (fun e => hnf e.symm))).trans T.out.2.2
  have hK := T.out.1.grown5 hg3 hl3 (by rcases hat3 with e | e; exact .inl e; exact .inr (.inl e))
  have hS3 : S < w3.heap.size := (Array.getElem?_eq_some_iff.1 hbx).1
  obtain ⟨A3, c3, rfl, _⟩ := hl3.shape
  clear hown3 hg3 hat3 hl3 hrP T
  refine Halt.mk ?_
  go_wp2_with fail
  refine ⟨⟨hbx, hfx⟩, ?_⟩
  have y0 := var_cell hbx 0
  have t0 := var_frozen hbx 0
  refine wpAnyL_writes [8, 9, 10] (by kernel_rfl) (LexW.cons rfl ?_)
  try go_frame
  go_wp2_with fail
  refine ⟨?_, LexW.cons rfl ?_⟩
  · first | exact ⟨hbx, hfx⟩ | exact fun _ => ⟨hbx, hfx⟩
  try go_frame
  go_wp2_with fail
  refine ⟨?_, LexW.cons rfl ?_⟩
  · first | exact ⟨hbx, hfx⟩ | exact fun _ => ⟨hbx, hfx⟩
  try go_frame
  go_wp2_with fail
  refine ⟨fun h => absurd rfl h, LexW.nil ?_⟩
  try go_frame
  go_wp2_with fail
  go_end0
  have hK2 := hK
  rw [List.length_append] at hK2
  exact ⟨rfl, _, hK2⟩


end Go.Proofs.Ytcelkmphdeaaeaa
