/- The walk of the exact law of ConfText. -/
import Derived.Test.YtkpcjnamoejjjaaDoorConfTextI
namespace Go.Proofs.YtkpcjnamoejjjaaDoor
open Go.RowKit
set_option maxRecDepth 100000
set_option linter.unusedVariables false

set_option maxRecDepth 100000 in
set_option maxHeartbeats 4000000 in
theorem walk_FnExactConfText (w : World) (cs0 : List Value) (x0 : List Db) (w0 : dbsR.at_ w w.heap.size cs0 x0) (k0 : OkDbs x0) (ht : Tab w) :
    Calls Tryd.prog 4 #[cs0.headD undef] w fun e w' => e = .returned (.bool true) ∧ Below w.heap.size w w' := by
  obtain ⟨A, c, rfl⟩ := dbs_at_shape w0
  obtain ⟨⟨hc1, hc2⟩, _⟩ := dbs_rows w0
  have S : All (fun w' => Below w.heap.size w w' ∧ dbsR.at_ w' w'.heap.size [.slice A x0.length c] x0 ∧ Tab w') w := ⟨Below.refl _ _, w0, ht⟩
  clear w0 ht
  unfold maxLen at hc2
  obtain ⟨y, hy⟩ : ∃ y, confT x0 = y := ⟨_, rfl⟩
  have hyy : (y.toList != y.toList) = false := by simp
  have HY := Lib.hid hy
  clear hy
  go_enter Tryd.func4, Tryd.ntmps4
  go_wp2_with fail
  refine (szDbS_room A c x0 1048576 w (dbs_rows S.out.2.1).2 (by omega) k0 (by omega)).mono ?_
  rintro e W1 ⟨⟨z, hz, hfit, rfl⟩ | rfl, hb⟩
  rotate_left
  · replace S := S.later hb
    go_wp2_with fail
    go_ret
    exact ⟨rfl, S.out.1⟩
  · replace S := S.later hb
    have HF := Lib.hid hfit
    clear hb hfit
    go_wp2_with fail
    refine (toDbS_any A c x0 W1 (dbs_rows S.out.2.1).2 HF.out.1).mono ?_
    rintro e W2 ⟨A2, c2, fp2, rfl, O2, hb⟩
    have T2 := Rep.reads dbsR O2
    replace S := S.later hb
    clear hb O2
    go_wp2_with fail
    refine (confTextS_any A2 c2 x0 W2 (dbs_rows T2).2 HF.out).mono ?_
    rintro e W3 ⟨rfl, hb⟩
    rw [HY.out]
    replace S := S.later hb
    clear hb T2
    go_wp2_with fail
    refine (toDbS_any A c x0 W3 (dbs_rows S.out.2.1).2 HF.out.1).mono ?_
    rintro e W4 ⟨A4, c4, fp4, rfl, O4, hb⟩
    have T4 := Rep.reads dbsR O4
    replace S := S.later hb
    clear hb O4
    go_wp2_with fail
    refine (confText_any A4 c4 x0 W4 (dbs_rows T4).2 (dbs_rows T4).1.1 HF.out S.out.2.2).mono ?_
    rintro e W5 ⟨rfl, hb⟩
    rw [HY.out]
    replace S := S.later hb
    replace T4 := Keeps.keeps (F := fun w' => dbsR.at_ w' w'.heap.size [.slice A4 x0.length c4] x0) hb T4
    clear hb
    go_wp2_with fail
    refine (toDbS_any A c x0 W5 (dbs_rows S.out.2.1).2 HF.out.1).mono ?_
    rintro e W6 ⟨A6, c6, fp6, rfl, O6, hb⟩
    have T6 := Rep.reads dbsR O6
    replace S := S.later hb
    replace T4 := Keeps.keeps (F := fun w' => dbsR.at_ w' w'.heap.size [.slice A4 x0.length c4] x0) hb T4
    clear hb O6
    go_wp2_with fail
    refine (eqDbS_same A4 A6 c4 c6 x0 W6 (dbs_rows T4).2 (dbs_rows T6).2 HF.out.1).mono ?_
    rintro e W7 ⟨rfl, hb⟩
    replace S := S.later hb
    clear hb T4 T6
    go_wp2_with fail
    go_ret
    exact ⟨rfl, S.out.1⟩

end Go.Proofs.YtkpcjnamoejjjaaDoor
