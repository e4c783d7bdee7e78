/- The walk of the exact law of RecsOf. -/
import Derived.Test.YtlnmlfpkpplgoaaRecsOf2
namespace Go.Proofs.Ytlnmlfpkpplgoaa
open Go.RowKit
set_option linter.unusedVariables false

theorem recs_own_at {w : World} {base : Nat} {A : Option Addr} {c : Nat} {xs : List Rec} (h : w.ownsRow base 33 4 (.slice A xs.length c) xs.length (flatR xs)) : RecsAt w A xs := Reads.of_own h
theorem recs_flat {w : World} {base c n : Nat} {e : TypeId} {A : Option Addr} {f : Nat → Value} (h : FlatTo w base e 4 n (.slice A n c) f (n * 4)) : 0 < n → ∃ b off, A = some ⟨b, off, none⟩ ∧ b < w.heap.size ∧ ∀ j, j < n * 4 → w.cell? ⟨b, off + j, none⟩ = some (f j) := by
  obtain ⟨A', c', he, hr⟩ := h.reads (by omega)
  injection he with he
  subst he
  exact hr

set_option maxRecDepth 100000 in
set_option maxHeartbeats 4000000 in
theorem walk_FnExactRecsOf (w : World) (cs0 : List Value) (x0 : Known) (w0 : knownR.at_ w w.heap.size cs0 x0) (k0 : OkKnown x0) :
    Calls Try.prog 3 #[.agg cs0.toArray] w fun e w' => e = .returned (.bool true) ∧ Below w.heap.size w w' := by
  obtain rfl := known_cells w0
  obtain ⟨_, hk1, _, hk2, _, _⟩ := k0
  obtain ⟨L, hL, hLn⟩ : ∃ L, recsL x0 = L ∧ L.length ≤ 4 := ⟨_, rfl, recsL_len _⟩
  have HL := Lib.hid hL
  have S : All (fun w' => Below w.heap.size w w' ∧ w.heap.size < w'.heap.size ∧ w'.heap[w.heap.size]? = some (.cells (knownC x0).toArray 23 (0, 0))) (w.alloc (.cells (knownC x0).toArray 23)) := ⟨Later.alloc w _, by simp, heap_alloc_new w _⟩
  clear hL w0
  show Calls Try.prog 3 #[.agg #[.int .i64 x0.gen, .string x0.text, .int .i64 x0.pGen, .string x0.pText, .int .i64 x0.epoch, .int .i64 x0.owner]] w _
  go_enter Try.func3, Try.ntmps3
  go_wp2_with fail
  replace S : All (fun w' => Below w.heap.size w w' ∧ w.heap.size < w'.heap.size ∧ w'.heap[w.heap.size]? = some (.cells (knownC x0).toArray 23 (0, 0))) (w.alloc (.cells #[.int .i64 x0.gen, .string x0.text, .int .i64 x0.pGen, .string x0.pText, .int .i64 x0.epoch, .int .i64 x0.owner] 23)) := S
  generalize w.alloc (.cells #[.int .i64 x0.gen, .string x0.text, .int .i64 x0.pGen, .string x0.pText, .int .i64 x0.epoch, .int .i64 x0.owner] 23) = W0 at S ⊢
  refine (szKnown_room x0 1048576 W0 hk1 hk2 (by omega)).mono ?_
  rintro e W1 ⟨⟨z, hz, hfit, rfl⟩ | rfl, hb⟩
  rotate_left
  · replace S := S.later hb
    clear hb
    go_wp2_with fail
    go_ret
    exact ⟨rfl, S.out.1⟩
  · replace S := S.later hb
    clear hb hfit
    obtain ⟨c0, c1, c2, c3, c4, c5⟩ := known_box S.out.2.2
    have hbig := S.out.2.1
    go_wp2_with fail
    clear c0 c1 c2 c3 c4 c5 hbig
    refine (toKnown_any x0 W1).mono ?_
    rintro e W2 ⟨rfl, hb⟩
    replace S := S.later hb
    clear hb
    go_wp2_with fail
    refine (recsOfS_any x0 W2).mono ?_
    rw [HL.out]
    rintro e W3 ⟨A3, k3, rfl, o3, hb⟩
    have T3 := recs_own_at o3
    replace S := S.later hb
    clear hb o3
    obtain ⟨c0, c1, c2, c3, c4, c5⟩ := known_box S.out.2.2
    have hbig := S.out.2.1
    go_wp2_with fail
    clear c0 c1 c2 c3 c4 c5 hbig
    refine (toKnown_any x0 W3).mono ?_
    rintro e W4 ⟨rfl, hb⟩
    have S4 : All (fun w' => (Below w.heap.size w w' ∧ w.heap.size < w'.heap.size ∧ w'.heap[w.heap.size]? = some (.cells (knownC x0).toArray 23 (0, 0))) ∧ RecsAt w' A3 L) W4 := ⟨(S.later hb).out, Keeps.keeps (F := fun w' => RecsAt w' A3 L) hb T3⟩
    clear hb T3 S
    go_wp2_with fail
    refine (recsOfI_any x0 W4).mono ?_
    rw [HL.out]
    rintro e W5 ⟨A5, k5, rfl, o5, hb⟩
    have HB := Lib.hid hb
    clear hb
    go_wp2_with fail
    refine (eqRecS_same A5 A3 k5 k3 L W5 (recs_own_at o5) (S4.later HB.out).out.2 (by omega)).mono ?_
    rintro e W6 ⟨rfl, hb⟩
    replace o5 := ownsRow_below o5 hb (Nat.le_refl _)
    replace HB := Lib.hid (HB.out.trans (hb.mono HB.out.size))
    clear hb
    go_wp2_with fail
    refine (markRecS_any _ 1 L.length _ W6 W4.heap.size o5 (by omega) (by omega) HB.out.size).mono ?_
    rintro e W7 ⟨rfl, f7, hb⟩
    replace HB := Lib.hid (HB.out.trans hb)
    clear hb o5
    go_wp2_with fail
    refine (heldRecS_any A5 k5 1 L.length W7 (recs_flat f7) (by omega) (by omega)).mono ?_
    rintro e W8 ⟨rfl, hb⟩
    have S := S4.later (HB.out.trans (hb.mono HB.out.size))
    replace f7 := f7.later hb
    clear hb HB S4
    have q0 : (((1 + L.length * 4 : Nat) : Int) != ((1 + L.length * 4 : Nat) : Int)) = false := by simp
    obtain ⟨c0, c1, c2, c3, c4, c5⟩ := known_box S.out.1.2.2
    have hbig := S.out.1.2.1
    go_wp2_with fail
    clear c0 c1 c2 c3 c4 c5 hbig
    refine (toKnown_any x0 W8).mono ?_
    rintro e W9 ⟨rfl, hb⟩
    replace S := S.later hb
    replace f7 := f7.later hb
    clear hb
    go_wp2_with fail
    refine (recsOfI_any x0 W9).mono ?_
    rw [HL.out]
    rintro e W10 ⟨A10, k10, rfl, o10, hb⟩
    replace S := S.later hb
    replace f7 := f7.later hb
    clear hb
    go_wp2_with fail
    refine (eqRecS_same A10 A3 k10 k3 L W10 (recs_own_at o10) S.out.2 (by omega)).mono ?_
    rintro e W11 ⟨rfl, hb⟩
    replace S := S.later hb
    replace f7 := f7.later hb
    clear hb o10
    go_wp2_with fail
    refine (heldRecS_any A5 k5 1 L.length W11 (recs_flat f7) (by omega) (by omega)).mono ?_
    rintro e W12 ⟨rfl, hb⟩
    replace S := S.later hb
    clear hb f7
    go_wp2_with fail
    go_ret
    exact ⟨rfl, S.out.1.1⟩

end Go.Proofs.Ytlnmlfpkpplgoaa
