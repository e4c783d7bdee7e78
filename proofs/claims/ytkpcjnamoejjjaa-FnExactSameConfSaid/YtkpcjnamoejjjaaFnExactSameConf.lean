/- The walk of the exact law of SameConf. -/
import Derived.Test.YtkpcjnamoejjjaaConfSame
namespace Go.Proofs.Ytkpcjnamoejjjaa
open Go.RowKit
set_option linter.unusedVariables false

set_option maxRecDepth 100000 in
set_option maxHeartbeats 4000000 in
theorem walk_FnExactSameConf (w : World) (cs0 : List Value) (x0 : List Db) (w0 : dbsR.at_ w w.heap.size cs0 x0) (k0 : OkDbs x0) (cs1 : List Value) (x1 : List Db) (w1 : dbsR.at_ w w.heap.size cs1 x1) (k1 : OkDbs x1) :
    Calls Try.prog 7 #[cs0.headD undef, cs1.headD undef] w fun e w' => e = .returned (.bool true) ∧ Below w.heap.size w w' := by
  obtain ⟨A, c, rfl⟩ := dbs_at_shape w0
  obtain ⟨B, d, rfl⟩ := dbs_at_shape w1
  obtain ⟨⟨hc1, hc2⟩, _⟩ := dbs_rows w0
  obtain ⟨⟨hd1, hd2⟩, _⟩ := dbs_rows w1
  have S : All (fun w' => Below w.heap.size w w' ∧ dbsR.at_ w' w'.heap.size [.slice A x0.length c] x0 ∧ dbsR.at_ w' w'.heap.size [.slice B x1.length d] x1) w := ⟨Below.refl _ _, w0, w1⟩
  clear w0 w1
  unfold maxLen at hc2 hd2
  obtain ⟨y, hy⟩ : ∃ y, sameB x0 x1 = y := ⟨_, rfl⟩
  have hyy : (y != y) = false := by simp
  have HY := Lib.hid hy
  clear hy
  go_enter Try.func7, Try.ntmps7
  go_wp2_with fail
  refine (szDbS_room A c x0 1048576 w (dbs_rows S.out.2.1).2 (by omega) k0 (by omega)).mono ?_
  rintro e W1 ⟨⟨z, hz, hfit, rfl⟩ | rfl, hb⟩
  rotate_left
  · replace S := S.later hb
    go_wp2_with fail
    go_ret
    exact ⟨rfl, S.out.1⟩
  · replace S := S.later hb
    have HF := Lib.hid hfit
    clear hb hfit
    go_wp2_with fail
    refine (szDbS_room B d x1 z W1 (dbs_rows S.out.2.2).2 (by omega) k1 (by omega)).mono ?_
    rintro e W2 ⟨⟨z2, hz2, hfit, rfl⟩ | rfl, hb⟩
    rotate_left
    · replace S := S.later hb
      go_wp2_with fail
      go_ret
      exact ⟨rfl, S.out.1⟩
    · replace S := S.later hb
      have HF1 := Lib.hid hfit
      clear hb hfit
      go_wp2_with fail
      refine (toDbS_any A c x0 _ (dbs_rows S.out.2.1).2 HF.out.1).mono ?_
      rintro e W3 ⟨A2, c2, fp2, rfl, O2, hb⟩
      have T2 := Rep.reads dbsR O2
      replace S := S.later hb
      clear hb O2
      go_wp2_with fail
      refine (toDbS_any B d x1 _ (dbs_rows S.out.2.2).2 HF1.out.1).mono ?_
      rintro e W4 ⟨A3, c3, fp3, rfl, O3, hb⟩
      have T3 := Rep.reads dbsR O3
      replace S := S.later hb
      replace T2 := Keeps.keeps (F := fun w' => dbsR.at_ w' w'.heap.size [.slice A2 x0.length c2] x0) hb T2
      clear hb O3
      go_wp2_with fail
      refine (sameConfS_any A2 A3 c2 c3 x0 x1 _ (dbs_rows T2).2 (dbs_rows T3).2 HF.out.1 HF1.out.1).mono ?_
      rintro e W5 ⟨rfl, hb⟩
      rw [HY.out]
      replace S := S.later hb
      clear hb T2 T3
      go_wp2_with fail
      refine (toDbS_any A c x0 _ (dbs_rows S.out.2.1).2 HF.out.1).mono ?_
      rintro e W6 ⟨A2, c2, fp2, rfl, O2, hb⟩
      have T2 := Rep.reads dbsR O2
      replace S := S.later hb
      clear hb O2
      go_wp2_with fail
      refine (toDbS_any B d x1 _ (dbs_rows S.out.2.2).2 HF1.out.1).mono ?_
      rintro e W7 ⟨A3, c3, fp3, rfl, O3, hb⟩
      have T3 := Rep.reads dbsR O3
      replace S := S.later hb
      replace T2 := Keeps.keeps (F := fun w' => dbsR.at_ w' w'.heap.size [.slice A2 x0.length c2] x0) hb T2
      clear hb O3
      go_wp2_with fail
      refine (sameConf_any A2 A3 c2 c3 x0 x1 _ (dbs_rows T2).2 (dbs_rows T3).2 HF.out.1 HF1.out.1).mono ?_
      rintro e W8 ⟨rfl, hb⟩
      rw [HY.out]
      replace S := S.later hb
      replace T2 := Keeps.keeps (F := fun w' => dbsR.at_ w' w'.heap.size [.slice A2 x0.length c2] x0) hb T2
      replace T3 := Keeps.keeps (F := fun w' => dbsR.at_ w' w'.heap.size [.slice A3 x1.length c3] x1) hb T3
      clear hb
      go_wp2_with fail
      refine (toDbS_any A c x0 _ (dbs_rows S.out.2.1).2 HF.out.1).mono ?_
      rintro e W9 ⟨A4, c4, fp4, rfl, O4, hb⟩
      have T4 := Rep.reads dbsR O4
      replace S := S.later hb
      replace T2 := Keeps.keeps (F := fun w' => dbsR.at_ w' w'.heap.size [.slice A2 x0.length c2] x0) hb T2
      replace T3 := Keeps.keeps (F := fun w' => dbsR.at_ w' w'.heap.size [.slice A3 x1.length c3] x1) hb T3
      clear hb O4
      go_wp2_with fail
      refine (eqDbS_same A2 A4 c2 c4 x0 _ (dbs_rows T2).2 (dbs_rows T4).2 HF.out.1).mono ?_
      rintro e W10 ⟨rfl, hb⟩
      replace S := S.later hb
      replace T3 := Keeps.keeps (F := fun w' => dbsR.at_ w' w'.heap.size [.slice A3 x1.length c3] x1) hb T3
      clear hb T4 T2
      go_wp2_with fail
      refine (toDbS_any B d x1 _ (dbs_rows S.out.2.2).2 HF1.out.1).mono ?_
      rintro e W11 ⟨A4, c4, fp4, rfl, O4, hb⟩
      have T4 := Rep.reads dbsR O4
      replace S := S.later hb
      replace T3 := Keeps.keeps (F := fun w' => dbsR.at_ w' w'.heap.size [.slice A3 x1.length c3] x1) hb T3
      clear hb O4
      go_wp2_with fail
      refine (eqDbS_same A3 A4 c3 c4 x1 _ (dbs_rows T3).2 (dbs_rows T4).2 HF1.out.1).mono ?_
      rintro e W12 ⟨rfl, hb⟩
      replace S := S.later hb
      clear hb T4 T3
      go_wp2_with fail
      go_ret
      exact ⟨rfl, S.out.1⟩

end Go.Proofs.Ytkpcjnamoejjjaa
