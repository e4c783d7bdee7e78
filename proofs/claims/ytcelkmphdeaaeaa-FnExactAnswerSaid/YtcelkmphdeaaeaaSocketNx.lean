/- The program's socket: the next frame. (By gen_socket.py.) -/
import Derived.Test.YtcelkmphdeaaeaaSocket
namespace Go.Proofs.Ytcelkmphdeaaeaa
open Go.RowKit
set_option maxRecDepth 100000
set_option linter.unusedVariables false


theorem gz_store {w W : World} (hb : Below w.heap.size w W) (a b c : Value) : Below w.heap.size w (((W.setCell ⟨w.heap.size, 0, none⟩ a).setCell ⟨w.heap.size, 1, none⟩ b).setCell ⟨w.heap.size, 2, none⟩ c) :=
  ((hb.setCell (p := ⟨w.heap.size, 0, none⟩) (Nat.le_refl _) a).setCell (p := ⟨w.heap.size, 1, none⟩) (Nat.le_refl _) b).setCell (p := ⟨w.heap.size, 2, none⟩) (Nat.le_refl _) c
set_option maxHeartbeats 8000000 in
theorem next_any {w0 : World} {S : Nat} {x : Sk} {v4 v5 o5 : Value} {d7 : Int} (d : Nat) (p : Fr × Int × Int) (w : World) (h : KB w0 S x v4 v5 o5 d7 w) (hl : x.out.length ≤ 2097152) (hd : x.done = (d : Int)) (hdl : d ≤ x.out.length) (hp : getF (x.out.drop d) = p) :
    Calls Try.prog 103 #[.pointer (some ⟨S, 0, none⟩)] w fun e' w' => e' = .returned (.tuple #[.agg (frC p.1).toArray, .int .i64 p.2.1, .int .i64 p.2.2]) ∧ Below w.heap.size w w' := by
  obtain ⟨A4, c4, A5, c5, B5, m5, e5, rfl, rfl, rfl, hc4, hc5⟩ := h.slices
  obtain ⟨i0, hi0, hz0, hz1, hz2⟩ := info_parts Try.info8
  obtain ⟨A', rs, qs⟩ := slice_readsF Try.underlying22 hi0 hz1 (A := A5) (n := x.out.length) (c := c5) (lo := d) .i64 hdl hc5.1
  have hK := h.later (Later.alloc w (.cells #[.int .i64 0, .string ⟨#[]⟩, .int .i64 0] 33))
  have T : All (fun w' => (KB w0 S x (.slice A4 x.inn.length c4) (.slice A5 x.out.length c5) (.slice B5 m5 e5) d7 w' ∧ Below w.heap.size w w' ∧ (w'.heap[w.heap.size]? = some (.cells #[.int .i64 0, .string ⟨#[]⟩, .int .i64 0] 33 (0, 0)))) ∧ (w'.heap[S]? = some (.cells #[.slice A5 x.out.length c5, .int .i64 x.done, .int .i64 x.id, .int .i64 x.kind, .int .i64 x.hold, .bool x.shut, .slice A4 x.inn.length c4, .slice B5 m5 e5, .int .i64 x.st, .int .i64 d7] 89 (0, 0)))) (w.alloc (.cells #[.int .i64 0, .string ⟨#[]⟩, .int .i64 0] 33)) := ⟨⟨hK, Later.alloc w _, heap_alloc_new w _⟩, hK.box⟩
  rw [hd] at T
  obtain ⟨⟨fk, fs, fst⟩, fn, fc⟩ := p
  have HP := Lib.hid hp
  have e1 : x.out.length - d = (x.out.drop d).length := List.length_drop.symm
  rw [e1] at rs qs
  obtain ⟨k, hk⟩ : ∃ k, c5 - d = k := ⟨_, rfl⟩
  have HC : Hid ((x.out.drop d).length ≤ k) := Lib.hid (by rw [← e1, ← hk]; have := hc5.1; omega)
  have HL : Hid ((x.out.drop d).length ≤ 100000000) := Lib.hid (by rw [← e1]; omega)
  replace qs : ∀ {w : World} {B : Nat}, Reads w B 1 A5 x.out.length (bys x.out) → Reads w B 1 A' (x.out.drop d).length (bys (x.out.drop d)) := fun h => qs h
  rw [hk] at rs
  obtain ⟨m, hm⟩ : ∃ m, x.out.drop d = m := ⟨_, rfl⟩
  rw [hm] at rs qs HC HL HP
  have QS : Hid (∀ (w : World) (u : Unit), Reads w w.heap.size 1 A5 x.out.length (bys x.out) → Reads w w.heap.size 1 A' m.length (bys m)) := Lib.hid fun w _ h => qs h
  clear hk hm qs
  have hSw : S ≠ w.heap.size := by have := h.lt; omega
  clear h hK hp e1 hd
  go_enter Try.func103, Try.ntmps103
  go_upto_region 1 with (fail)
  generalize w.alloc (.cells #[.int .i64 0, .string ⟨#[]⟩, .int .i64 0] 33) = W at T ⊢
  refine wp_region_open 100 (fun w' => w'.heap[S]? = some (.cells #[.slice A5 x.out.length c5, .int .i64 (d : Int), .int .i64 x.id, .int .i64 x.kind, .int .i64 x.hold, .bool x.shut, .slice A4 x.inn.length c4, .slice B5 m5 e5, .int .i64 x.st, .int .i64 d7] 89 (0, 0))) (by kernel_rfl) ?_
  replace T := T.drew
  generalize W.drew = W at T ⊢
  refine wpAnyL_readsG [0, 1, 2, 3, 4, 5, 6, 7, 8] (fuel := 7) (by kernel_rfl) T.out.2 ?_
  refine LexRG.yes rfl (by first | rfl | (simp [Region.wanted, yielded]; done)) ?_ (fun w' hw => ?_) ?_
  rotate_left
  focus (skip; clear hw; go_simp; (try exact rfl))
  try go_frame
  refine LexRG.yes rfl (by first | rfl | (simp [Region.wanted, yielded]; done)) ?_ (fun w' hw => ?_) ?_
  rotate_left
  focus (skip; clear hw; go_simp; (try exact rfl))
  try go_frame
  refine LexRG.yes rfl (by first | rfl | (simp [Region.wanted, yielded]; done)) ?_ (fun w' hw => ?_) ?_
  rotate_left
  focus (skip; clear hw; go_simp; (try exact rfl))
  try go_frame
  refine LexRG.yes rfl (by first | rfl | (simp [Region.wanted, yielded]; done)) ?_ (fun w' hw => ?_) ?_
  rotate_left
  focus (have hw2 := hw; have s0 := var_cell hw2 0; have s1 := var_cell hw2 1; clear hw; go_simp; (try exact rfl))
  try go_frame
  refine LexRG.yes rfl (by first | rfl | (simp [Region.wanted, yielded]; done)) ?_ (fun w' hw => ?_) ?_
  rotate_left
  focus (skip; clear hw; go_simp; (try exact rfl))
  try go_frame
  refine LexRG.yes rfl (by first | rfl | (simp [Region.wanted, yielded]; done)) ?_ (fun w' hw => ?_) ?_
  rotate_left
  focus (skip; clear hw; go_simp; (try exact rfl))
  try go_frame
  refine LexRG.yes rfl (by first | rfl | (simp [Region.wanted, yielded]; done)) ?_ (fun w' hw => ?_) ?_
  rotate_left
  focus (skip; clear hw; go_simp; (try exact rfl))
  try go_frame
  refine LexRG.yes rfl (by first | rfl | (simp [Region.wanted, yielded]; done)) ?_ (fun w' hw => ?_) ?_
  rotate_left
  focus (have hw2 := hw; have s0 := var_cell hw2 0; have s1 := var_cell hw2 1; clear hw; go_simp; (try exact rfl))
  try go_frame
  refine LexRG.yes rfl (by first | rfl | (simp [Region.wanted, yielded]; done)) ?_ (fun w' hw => ?_) ?_
  rotate_left
  focus (have r9 := rs; clear hw; go_simp; (try exact rfl))
  try go_frame
  refine LexRG.nil ?_
  refine wpAnyL_one (i := 9) (by kernel_rfl) ?_
  refine lexA_get rfl ?_
  try go_frame
  go_wp2_with fail
  refine (getFrame_any A' k m W (QS.out _ () T.out.1.1.out.reads) HL.out HC.out).mono ?_
  rw [HP.out]
  rintro e W1 ⟨rfl, hb⟩
  replace T := T.later hb
  clear hb
  unfold frC
  go_wp2_with fail
  refine ⟨fun _ => T.out.2, ?_⟩
  refine wpAnyL_readsG [10, 11, 12] (fuel := 3) (by kernel_rfl) T.out.2 ?_
  refine LexRG.yes rfl (by first | rfl | (simp [Region.wanted, yielded]; done)) ?_ (fun w' hw => ?_) ?_
  rotate_left
  focus (skip; clear hw; go_simp; (try exact rfl))
  try go_frame
  refine LexRG.yes rfl (by first | rfl | (simp [Region.wanted, yielded]; done)) ?_ (fun w' hw => ?_) ?_
  rotate_left
  focus (skip; clear hw; go_simp; (try exact rfl))
  try go_frame
  refine LexRG.yes rfl (by first | rfl | (simp [Region.wanted, yielded]; done)) ?_ (fun w' hw => ?_) ?_
  rotate_left
  focus (skip; clear hw; go_simp; (try exact rfl))
  try go_frame
  refine LexRG.nil ?_
  have hlow := T.out.1.2.1
  have hbx := T.out.2
  have hgx := T.out.1.2.2
  have hS : S ≠ w.heap.size := hSw
  have g0 := var_cell hgx 0
  have g1 := var_cell hgx 1
  have g2 := var_cell hgx 2
  have f0 := var_frozen hgx 0
  have f1 := var_frozen hgx 1
  have f2 := var_frozen hgx 2
  have hlw : w.heap.size < W1.heap.size := (Array.getElem?_eq_some_iff.1 hgx).1
  clear T rs
  have hbx2 : ∀ a b c, (((W1.setCell ⟨w.heap.size, 0, none⟩ a).setCell ⟨w.heap.size, 1, none⟩ b).setCell ⟨w.heap.size, 2, none⟩ c).heap[S]? = W1.heap[S]? := fun a b c => by
    rw [heap_setCell_other _ _ _ _ (fun e => hS e), heap_setCell_other _ _ _ _ (fun e => hS e), heap_setCell_other _ _ _ _ (fun e => hS e)]
  have HX := Lib.hid hbx2
  clear hbx2
  refine wpAnyL_writes [13, 14, 15] (by kernel_rfl) (LexW.cons rfl ?_)
  try go_frame
  go_wp2_with fail
  refine ⟨fun _ => (HX.out _ _ _).trans hbx, LexW.cons rfl ?_⟩
  try go_frame
  go_wp2_with fail
  refine ⟨fun _ => (HX.out _ _ _).trans hbx, LexW.cons rfl ?_⟩
  try go_frame
  go_wp2_with fail
  refine ⟨fun _ => (HX.out _ _ _).trans hbx, LexW.nil ?_⟩
  try go_frame
  go_wp2_with fail
  refine bodyPost_ret (v := .tuple #[.agg #[.int .i64 fk, .string fs, .int .i64 fst], .int .i64 fn, .int .i64 fc]) (by simp [results, Try.results103, go_sem, g0, g1, g2]) rfl ?_
  exact ⟨rfl, gz_store hlow _ _ _⟩


end Go.Proofs.Ytcelkmphdeaaeaa
