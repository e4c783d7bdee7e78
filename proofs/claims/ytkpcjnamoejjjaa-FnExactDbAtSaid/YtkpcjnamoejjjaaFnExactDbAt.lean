/- The walk of the exact law of DbAt. -/
import Derived.Test.YtkpcjnamoejjjaaConfAt
import Derived.Deep.Cut
namespace Go.Proofs.Ytkpcjnamoejjjaa
open Go.RowKit
set_option linter.unusedVariables false

set_option maxRecDepth 100000 in
set_option maxHeartbeats 4000000 in
theorem walk_FnExactDbAt (w : World) (cs0 : List Value) (x0 : List Db) (w0 : dbsR.at_ w w.heap.size cs0 x0) (k0 : OkDbs x0) (a1 : ByteArray) (w1 : a1.size ≤ maxLen) :
    Calls Try.prog 6 #[cs0.headD undef, .string a1] w fun e w' => e = .returned (.bool true) ∧ Below w.heap.size w w' := by
  obtain ⟨A, c, rfl⟩ := dbs_at_shape w0
  obtain ⟨⟨hc1, hc2⟩, _⟩ := dbs_rows w0
  have S : All (fun w' => Below w.heap.size w w' ∧ dbsR.at_ w' w'.heap.size [.slice A x0.length c] x0) w := ⟨Below.refl _ _, w0⟩
  clear w0
  unfold maxLen at hc2 w1
  by_cases big : (1048576 : Int) < (a1.size : Int)
  · go_enter Try.func6, Try.ntmps6
    go_wp2_with fail
    go_ret
    exact ⟨rfl, Below.refl _ _⟩
  obtain ⟨p, hp⟩ : ∃ p, dbAt x0 a1 = p := ⟨_, rfl⟩
  obtain ⟨d, y⟩ := p
  have hyy : (y != y) = false := by simp
  have HY := Lib.hid hp
  clear hp
  go_enter Try.func6, Try.ntmps6
  go_wp2_with fail
  refine (szDbS_room A c x0 1048576 w (dbs_rows S.out.2).2 (by omega) k0 (by omega)).mono ?_
  rintro e W1 ⟨⟨z, hz, hfit, rfl⟩ | rfl, hb⟩
  rotate_left
  · replace S := S.later hb
    go_wp2_with fail
    go_ret
    exact ⟨rfl, S.out.1⟩
  · replace S := S.later hb
    have HF := Lib.hid hfit
    clear hb hfit
    go_wp2_with fail
    refine (toDbS_any A c x0 W1 (dbs_rows S.out.2).2 HF.out.1).mono ?_
    rintro e W2 ⟨A2, c2, fp2, rfl, O2, hb⟩
    have T2 := Rep.reads dbsR O2
    replace S := S.later hb
    clear hb O2
    go_wp2_with fail
    refine (dbAtS_any A2 c2 x0 a1 W2 (dbs_rows T2).2 HF.out.1).mono ?_
    rw [HY.out]
    rintro e W3 ⟨rfl, hb⟩
    replace S := S.later hb
    clear hb T2
    unfold dbC
    go_wp2_with fail
    have S2 := S.alloc (.cells #[.string d.name, .int .i64 d.size, .int .i64 d.queue, .int .i64 d.wait, .int .i64 d.idle] 51)
    have hv := heap_alloc_new W3 (.cells #[.string d.name, .int .i64 d.size, .int .i64 d.queue, .int .i64 d.wait, .int .i64 d.idle] 51)
    have hz : W3.heap.size < (W3.alloc (.cells #[.string d.name, .int .i64 d.size, .int .i64 d.queue, .int .i64 d.wait, .int .i64 d.idle] 51)).heap.size := by simp
    generalize hgW : W3.alloc (.cells #[.string d.name, .int .i64 d.size, .int .i64 d.queue, .int .i64 d.wait, .int .i64 d.idle] 51) = W4 at S2 hv hz ⊢
    clear hgW S
    generalize W3.heap.size = D at hv hz ⊢
    have S : All (fun w' => ((Below w.heap.size w w' ∧ dbsR.at_ w' w'.heap.size [.slice A x0.length c] x0) ∧ D < w'.heap.size ∧ Hid (w'.heap[D]? = some (.cells #[.string d.name, .int .i64 d.size, .int .i64 d.queue, .int .i64 d.wait, .int .i64 d.idle] 51 (0, 0))))) W4 := ⟨S2.out, hz, Lib.hid hv⟩
    clear S2 hv hz
    refine (toDbS_any A c x0 W4 (dbs_rows S.out.1.2).2 HF.out.1).mono ?_
    rintro e W5 ⟨A2, c2, fp2, rfl, O2, hb⟩
    have T2 := Rep.reads dbsR O2
    replace S := S.later hb
    clear hb O2
    go_wp2_with fail
    refine (dbAt_any A2 c2 x0 a1 W5 (dbs_rows T2).2 HF.out.1).mono ?_
    rw [HY.out]
    rintro e W6 ⟨rfl, hb⟩
    replace S := S.later hb
    replace T2 := Keeps.keeps (F := fun w' => dbsR.at_ w' w'.heap.size [.slice A2 x0.length c2] x0) hb T2
    clear hb
    unfold dbC
    go_upto_region 10 with (fail)
    have T3 := Keeps.keeps (F := fun w' => dbsR.at_ w' w'.heap.size [.slice A2 x0.length c2] x0) (Later.alloc W6 (.cells #[.string d.name, .int .i64 d.size, .int .i64 d.queue, .int .i64 d.wait, .int .i64 d.idle] 51)) T2
    have S2 := S.alloc (.cells #[.string d.name, .int .i64 d.size, .int .i64 d.queue, .int .i64 d.wait, .int .i64 d.idle] 51)
    have hv := heap_alloc_new W6 (.cells #[.string d.name, .int .i64 d.size, .int .i64 d.queue, .int .i64 d.wait, .int .i64 d.idle] 51)
    have hz : W6.heap.size < (W6.alloc (.cells #[.string d.name, .int .i64 d.size, .int .i64 d.queue, .int .i64 d.wait, .int .i64 d.idle] 51)).heap.size := by simp
    generalize hgW : W6.alloc (.cells #[.string d.name, .int .i64 d.size, .int .i64 d.queue, .int .i64 d.wait, .int .i64 d.idle] 51) = W7 at S2 hv hz T3 ⊢
    clear hgW T2 S
    generalize W6.heap.size = E at hv hz ⊢
    have S : All (fun w' => (((Below w.heap.size w w' ∧ dbsR.at_ w' w'.heap.size [.slice A x0.length c] x0) ∧ D < w'.heap.size ∧ Hid (w'.heap[D]? = some (.cells #[.string d.name, .int .i64 d.size, .int .i64 d.queue, .int .i64 d.wait, .int .i64 d.idle] 51 (0, 0)))) ∧ E < w'.heap.size ∧ Hid (w'.heap[E]? = some (.cells #[.string d.name, .int .i64 d.size, .int .i64 d.queue, .int .i64 d.wait, .int .i64 d.idle] 51 (0, 0))))) W7 := ⟨S2.out, hz, Lib.hid hv⟩
    clear S2 hv hz
    have p0 : W7.cell? ⟨D, 0, none⟩ = some (.string d.name) := var_cell S.out.1.2.2.out 0
    have p1 : W7.cell? ⟨D, 1, none⟩ = some (.int .i64 d.size) := var_cell S.out.1.2.2.out 1
    have p2 : W7.cell? ⟨D, 2, none⟩ = some (.int .i64 d.queue) := var_cell S.out.1.2.2.out 2
    have p3 : W7.cell? ⟨D, 3, none⟩ = some (.int .i64 d.wait) := var_cell S.out.1.2.2.out 3
    have p4 : W7.cell? ⟨D, 4, none⟩ = some (.int .i64 d.idle) := var_cell S.out.1.2.2.out 4
    have r0 : W7.cell? ⟨E, 0, none⟩ = some (.string d.name) := var_cell S.out.2.2.out 0
    have r1 : W7.cell? ⟨E, 1, none⟩ = some (.int .i64 d.size) := var_cell S.out.2.2.out 1
    have r2 : W7.cell? ⟨E, 2, none⟩ = some (.int .i64 d.queue) := var_cell S.out.2.2.out 2
    have r3 : W7.cell? ⟨E, 3, none⟩ = some (.int .i64 d.wait) := var_cell S.out.2.2.out 3
    have r4 : W7.cell? ⟨E, 4, none⟩ = some (.int .i64 d.idle) := var_cell S.out.2.2.out 4
    have z1 := S.out.1.2.1
    have z2 := S.out.2.1
    go_wp2_with fail
    clear p0 p1 p2 p3 p4 r0 r1 r2 r3 r4 z1 z2
    refine (eqDb_same d W7).mono ?_
    rintro e W8 ⟨rfl, hb⟩
    replace S := S.later hb
    replace T3 := Keeps.keeps (F := fun w' => dbsR.at_ w' w'.heap.size [.slice A2 x0.length c2] x0) hb T3
    clear hb
    go_wp2_with fail
    refine (toDbS_any A c x0 _ (dbs_rows S.out.1.1.2).2 HF.out.1).mono ?_
    rintro e W9 ⟨A4, c4, fp4, rfl, O4, hb⟩
    have T4 := Rep.reads dbsR O4
    replace S := S.later hb
    replace T3 := Keeps.keeps (F := fun w' => dbsR.at_ w' w'.heap.size [.slice A2 x0.length c2] x0) hb T3
    clear hb O4
    go_wp2_with fail
    refine (eqDbS_same A2 A4 c2 c4 x0 _ (dbs_rows T3).2 (dbs_rows T4).2 HF.out.1).mono ?_
    rintro e W10 ⟨rfl, hb⟩
    replace S := S.later hb
    clear hb T4 T3
    go_wp2_with fail
    go_ret
    exact ⟨rfl, S.out.1.1.1⟩

end Go.Proofs.Ytkpcjnamoejjjaa
