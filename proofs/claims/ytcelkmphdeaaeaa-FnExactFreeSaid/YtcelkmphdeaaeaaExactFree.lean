/- Free in the exact laws (gen.py). -/
import Derived.Test.YtcelkmphdeaaeaaFreeS
import Derived.Test.YtcelkmphdeaaeaaFreeI
import Derived.Test.YtcelkmphdeaaeaaExactSkS
namespace Go.Proofs.Ytcelkmphdeaaeaa
open Go.RowKit
set_option linter.unusedVariables false

theorem freeX_in {id hold : Int} {x y : Sk} (h : freeX id hold x = some y) : y.inn = x.inn ∧ y.out = x.out := by
  unfold freeX at h
  split at h
  · split at h
    · cases h
    · injection h with h; subst h; exact ⟨rfl, rfl⟩
  · injection h with h; subst h; exact ⟨rfl, rfl⟩
theorem fits_free {xs : List Sk} (id hold : Int) (h : RoomSkS xs) : FitsSkS (freeP xs id hold) := by
  refine ⟨Nat.le_trans (freeP_len xs id hold) h.1, fun y hy => ?_⟩
  unfold freeP at hy
  obtain ⟨x, hx, hxy⟩ := List.mem_filterMap.1 hy
  have h1 := (h.2 x hx).fits
  obtain ⟨e1, e2⟩ := freeX_in hxy
  unfold FitsSk at *
  rw [e1, e2]
  exact h1
theorem freeS_rep (cs : List Value) (xs : List Sk) (id hold : Int) (w : World) (h : skSR.at_ w w.heap.size cs xs) (hs : RoomSkS xs) (h1 : (Lit.int .i64 id).wf = true) (h2 : (Lit.int .i64 hold).wf = true) : Calls Try.prog 27 #[cs.headD undef, .int .i64 id, .int .i64 hold] w (RetSkSR w (freeP xs id hold)) := by
  obtain ⟨A, c, hv, _, _, hr⟩ := skS_of h
  rw [hv]
  exact (freeS_any A c xs id hold w hr hs).mono fun e w' ⟨A', c', fp, he, ho, hb⟩ => ⟨A', c', fp, he, ⟨_, rfl, ho⟩, hb⟩
theorem free_rep (cs : List Value) (xs : List Sk) (id hold : Int) (w : World) (h : skSR.at_ w w.heap.size cs xs) (hs : RoomSkS xs) (h1 : (Lit.int .i64 id).wf = true) (h2 : (Lit.int .i64 hold).wf = true) : Calls Try.prog 23 #[cs.headD undef, .int .i64 id, .int .i64 hold] w (RetSkSR w (freeP xs id hold)) := by
  obtain ⟨A, c, hv, _, _, hr⟩ := skS_of h
  rw [hv]
  exact (free_any A c xs id hold w hr hs).mono fun e w' ⟨A', c', fp, he, ho, hb⟩ => ⟨A', c', fp, he, ⟨_, rfl, ho⟩, hb⟩

end Go.Proofs.Ytcelkmphdeaaeaa
