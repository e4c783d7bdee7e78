/- MayOpen of the program and of the model. (By gen_l10b.py.) -/
import Derived.Test.YtgdhhhibkhfdlaaHouse1
import Derived.Test.YtgdhhhibkhfdlaaLexG
import Derived.Deep.Cut
namespace Go.Proofs.Ytgdhhhibkhfdlaa
open Go.RowKit
set_option linter.unusedVariables false
set_option maxRecDepth 100000

set_option maxHeartbeats 4000000 in
theorem mayOpenS_rep (cs : List Value) (x : Ho) (db : ByteArray) (w : World) (h : hoR.at_ w w.heap.size cs x) (hs : FitsHo x) :
    Calls Try.prog 59 #[.agg cs.toArray, .string db] w (fun e w' => e = .returned (.bool (mayOpenP x db)) ∧ Below w.heap.size w w') := by
  obtain ⟨A3, c3, A5, c5, A6, c6, rfl, t3, t5, t6⟩ := ho_cells h
  have hn3 : x.conf.length ≤ 1048576 := hs.1.1
  have hn6 : x.ls.length ≤ 1048576 := hs.2.2.1
  have HS := Lib.hid hs
  obtain ⟨p, hp⟩ : ∃ p, dbAt x.conf db = p := ⟨_, rfl⟩
  obtain ⟨d, y⟩ := p
  obtain ⟨n, hq⟩ : ∃ n, countP x db = n := ⟨_, rfl⟩
  have HP := Lib.hid hp
  have HQ := Lib.hid hq
  have hr : mayOpenP x db = (y && decide (n < d.size) && decide ((x.ls.length : Int) < 9)) := by unfold mayOpenP; rw [hp, hq]
  rw [hr]
  clear hp hq hr
  have S : All (fun w' => (Below w.heap.size w w' ∧ hoR.at_ w' w'.heap.size [.int .i64 x.st, .int .i64 x.epoch, .int .i64 x.gen, .slice A3 x.conf.length c3, .bool x.paused, .slice A5 x.as_.length c5, .slice A6 x.ls.length c6, .int .i64 x.ticket, .int .i64 x.h.id, .int .i64 x.h.no, .int .i64 x.h.acked, .int .i64 x.h.since] x) ∧ w'.heap[w.heap.size]? = some (.cells #[.int .i64 x.st, .int .i64 x.epoch, .int .i64 x.gen, .slice A3 x.conf.length c3, .bool x.paused, .slice A5 x.as_.length c5, .slice A6 x.ls.length c6, .int .i64 x.ticket, .int .i64 x.h.id, .int .i64 x.h.no, .int .i64 x.h.acked, .int .i64 x.h.since] 70 (0, 0))) (w.alloc (.cells #[.int .i64 x.st, .int .i64 x.epoch, .int .i64 x.gen, .slice A3 x.conf.length c3, .bool x.paused, .slice A5 x.as_.length c5, .slice A6 x.ls.length c6, .int .i64 x.ticket, .int .i64 x.h.id, .int .i64 x.h.no, .int .i64 x.h.acked, .int .i64 x.h.since] 70)) :=
    ⟨⟨Later.alloc w _, Rep.more hoR (Rep.at_below h (Later.alloc w _)) (by simp)⟩, heap_alloc_new w _⟩
  have q3 := var_cell S.out.2 3
  clear h hs t5 t6
  go_enter Try.func59, Try.ntmps59
  go_wp2_with fail
  generalize w.alloc (.cells #[.int .i64 x.st, .int .i64 x.epoch, .int .i64 x.gen, .slice A3 x.conf.length c3, .bool x.paused, .slice A5 x.as_.length c5, .slice A6 x.ls.length c6, .int .i64 x.ticket, .int .i64 x.h.id, .int .i64 x.h.no, .int .i64 x.h.acked, .int .i64 x.h.since] 70) = W0 at S q3 ⊢
  refine (dbAtS_any A3 c3 x.conf db W0 (dbs_rows (Rep.more dbsR (Rep.at_below t3 S.out.1.1) S.out.1.1.size)).2 hn3).mono ?_
  rw [HP.out]
  rintro e W1 ⟨rfl, hb⟩
  replace S := S.later hb
  clear hb q3 t3
  unfold dbC
  go_upto_region 2 with (fail)
  have S2 := S.alloc (.cells #[.string d.name, .int .i64 d.size, .int .i64 d.queue, .int .i64 d.wait, .int .i64 d.idle] 81)
  have hv := heap_alloc_new W1 (.cells #[.string d.name, .int .i64 d.size, .int .i64 d.queue, .int .i64 d.wait, .int .i64 d.idle] 81)
  have hzl : W1.heap.size < (W1.alloc (.cells #[.string d.name, .int .i64 d.size, .int .i64 d.queue, .int .i64 d.wait, .int .i64 d.idle] 81)).heap.size := by simp
  generalize W1.alloc (.cells #[.string d.name, .int .i64 d.size, .int .i64 d.queue, .int .i64 d.wait, .int .i64 d.idle] 81) = W at S2 hv hzl ⊢
  generalize W1.heap.size = D at hv hzl ⊢
  have T : All (fun w' => (Below w.heap.size w w' ∧ hoR.at_ w' w'.heap.size [.int .i64 x.st, .int .i64 x.epoch, .int .i64 x.gen, .slice A3 x.conf.length c3, .bool x.paused, .slice A5 x.as_.length c5, .slice A6 x.ls.length c6, .int .i64 x.ticket, .int .i64 x.h.id, .int .i64 x.h.no, .int .i64 x.h.acked, .int .i64 x.h.since] x) ∧ (w'.heap[w.heap.size]? = some (.cells #[.int .i64 x.st, .int .i64 x.epoch, .int .i64 x.gen, .slice A3 x.conf.length c3, .bool x.paused, .slice A5 x.as_.length c5, .slice A6 x.ls.length c6, .int .i64 x.ticket, .int .i64 x.h.id, .int .i64 x.h.no, .int .i64 x.h.acked, .int .i64 x.h.since] 70 (0, 0)) ∧ w'.heap[D]? = some (.cells #[.string d.name, .int .i64 d.size, .int .i64 d.queue, .int .i64 d.wait, .int .i64 d.idle] 81 (0, 0)))) W := ⟨S2.out.1, S2.out.2, hv⟩
  clear S S2 hv
  cases y
  · skip
    refine wp_region_open 100 (fun w' => w'.heap[w.heap.size]? = some (.cells #[.int .i64 x.st, .int .i64 x.epoch, .int .i64 x.gen, .slice A3 x.conf.length c3, .bool x.paused, .slice A5 x.as_.length c5, .slice A6 x.ls.length c6, .int .i64 x.ticket, .int .i64 x.h.id, .int .i64 x.h.no, .int .i64 x.h.acked, .int .i64 x.h.since] 70 (0, 0)) ∧ w'.heap[D]? = some (.cells #[.string d.name, .int .i64 d.size, .int .i64 d.queue, .int .i64 d.wait, .int .i64 d.idle] 81 (0, 0))) (by kernel_rfl) ?_
    replace T := T.drew
    refine wpAnyL_readsG [0, 1, 2, 3, 5, 6] (fuel := 10) (by kernel_rfl) T.out.2 ?_
    refine LexRG.yes rfl (by first | rfl | (simp [Region.wanted, yielded]; done)) ?_ (fun w' hw => ?_) ?_
    rotate_left
    focus (clear hw; go_simp; (try exact rfl))
    try go_frame
    refine LexRG.yes rfl (by first | rfl | (simp [Region.wanted, yielded]; done)) ?_ (fun w' hw => ?_) ?_
    rotate_left
    focus (clear hw; go_simp; (try exact rfl))
    try go_frame
    refine LexRG.no rfl (by first | rfl | (simp [Region.wanted, yielded]; done)) ?_
    try go_frame
    refine LexRG.no rfl (by first | rfl | (simp [Region.wanted, yielded]; done)) ?_
    try go_frame
    refine LexRG.no rfl (by first | rfl | (simp [Region.wanted, yielded]; done)) ?_
    try go_frame
    refine LexRG.no rfl (by first | rfl | (simp [Region.wanted, yielded]; done)) ?_
    try go_frame
    refine LexRG.nil ?_
    refine wpAnyL_one (i := 4) (by kernel_rfl) ?_
    refine lexA_get rfl ?_
    try go_frame
    go_wp2_with fail
    refine ⟨fun _ => T.out.2, ?_⟩
    refine wpAnyL_readsG [7, 8, 9, 10, 11, 12, 13, 14] (fuel := 1) (by kernel_rfl) T.out.2 ?_
    refine LexRG.no rfl (by first | rfl | (simp [Region.wanted, yielded]; done)) ?_
    try go_frame
    refine LexRG.yes rfl (by first | rfl | (simp [Region.wanted, yielded]; done)) ?_ (fun w' hw => ?_) ?_
    rotate_left
    focus (clear hw; go_simp; (try exact rfl))
    try go_frame
    refine LexRG.yes rfl (by first | rfl | (simp [Region.wanted, yielded]; done)) ?_ (fun w' hw => ?_) ?_
    rotate_left
    focus (clear hw; go_simp; (try exact rfl))
    try go_frame
    refine LexRG.no rfl (by first | rfl | (simp [Region.wanted, yielded]; done)) ?_
    try go_frame
    refine LexRG.no rfl (by first | rfl | (simp [Region.wanted, yielded]; done)) ?_
    try go_frame
    refine LexRG.no rfl (by first | rfl | (simp [Region.wanted, yielded]; done)) ?_
    try go_frame
    refine LexRG.no rfl (by first | rfl | (simp [Region.wanted, yielded]; done)) ?_
    try go_frame
    refine LexRG.yes rfl (by first | rfl | (simp [Region.wanted, yielded]; done)) ?_ (fun w' hw => ?_) ?_
    rotate_left
    focus (clear hw; go_simp; (try exact rfl))
    try go_frame
    refine LexRG.nil ?_
    refine wpAnyL_writes [15] (by kernel_rfl) (LexW.cons rfl ?_)
    try go_frame
    go_wp2_with fail
    refine ⟨fun _ => T.out.2, LexW.nil ?_⟩
    go_wp2_with fail
    go_ret
    exact ⟨by exact rfl, T.out.1.1⟩
  · cases hlt : decide (n < d.size)
    · skip
      refine wp_region_open 100 (fun w' => w'.heap[w.heap.size]? = some (.cells #[.int .i64 x.st, .int .i64 x.epoch, .int .i64 x.gen, .slice A3 x.conf.length c3, .bool x.paused, .slice A5 x.as_.length c5, .slice A6 x.ls.length c6, .int .i64 x.ticket, .int .i64 x.h.id, .int .i64 x.h.no, .int .i64 x.h.acked, .int .i64 x.h.since] 70 (0, 0)) ∧ w'.heap[D]? = some (.cells #[.string d.name, .int .i64 d.size, .int .i64 d.queue, .int .i64 d.wait, .int .i64 d.idle] 81 (0, 0))) (by kernel_rfl) ?_
      replace T := T.drew
      refine wpAnyL_readsG [0, 1, 2, 3, 5, 6] (fuel := 10) (by kernel_rfl) T.out.2 ?_
      refine LexRG.yes rfl (by first | rfl | (simp [Region.wanted, yielded]; done)) ?_ (fun w' hw => ?_) ?_
      rotate_left
      focus (clear hw; go_simp; (try exact rfl))
      try go_frame
      refine LexRG.yes rfl (by first | rfl | (simp [Region.wanted, yielded]; done)) ?_ (fun w' hw => ?_) ?_
      rotate_left
      focus (clear hw; go_simp; (try exact rfl))
      try go_frame
      refine LexRG.yes rfl (by first | rfl | (simp [Region.wanted, yielded]; done)) ?_ (fun w' hw => ?_) ?_
      rotate_left
      focus (have q0 := var_cell hw.1 0; have q1 := var_cell hw.1 1; have q2 := var_cell hw.1 2; have q3 := var_cell hw.1 3; have q4 := var_cell hw.1 4; have q5 := var_cell hw.1 5; have q6 := var_cell hw.1 6; have q7 := var_cell hw.1 7; have q8 := var_cell hw.1 8; have q9 := var_cell hw.1 9; have q10 := var_cell hw.1 10; have q11 := var_cell hw.1 11; clear hw; go_simp; (try exact rfl))
      try go_frame
      refine LexRG.yes rfl (by first | rfl | (simp [Region.wanted, yielded]; done)) ?_ (fun w' hw => ?_) ?_
      rotate_left
      focus (clear hw; go_simp; (try exact rfl))
      try go_frame
      refine LexRG.yes rfl (by first | rfl | (simp [Region.wanted, yielded]; done)) ?_ (fun w' hw => ?_) ?_
      rotate_left
      focus (clear hw; go_simp; (try exact rfl))
      try go_frame
      refine LexRG.yes rfl (by first | rfl | (simp [Region.wanted, yielded]; done)) ?_ (fun w' hw => ?_) ?_
      rotate_left
      focus (have q1 := var_cell hw.2 1; clear hw; go_simp; (try exact rfl))
      try go_frame
      refine LexRG.nil ?_
      refine wpAnyL_one (i := 4) (by kernel_rfl) ?_
      refine lexA_get rfl ?_
      try go_frame
      go_wp2_with fail
      refine (countS_rep [.int .i64 x.st, .int .i64 x.epoch, .int .i64 x.gen, .slice A3 x.conf.length c3, .bool x.paused, .slice A5 x.as_.length c5, .slice A6 x.ls.length c6, .int .i64 x.ticket, .int .i64 x.h.id, .int .i64 x.h.no, .int .i64 x.h.acked, .int .i64 x.h.since] x db W.drew T.out.1.2 HS.out).mono ?_
      rw [HQ.out]
      rintro e V1 ⟨rfl, hb⟩
      replace T := T.later hb
      clear hb
      go_wp2_with fail
      refine ⟨fun _ => T.out.2, ?_⟩
      refine wpAnyL_readsG [7, 8, 9, 10, 11, 12, 13, 14] (fuel := 1) (by kernel_rfl) T.out.2 ?_
      refine LexRG.yes rfl (by first | rfl | (simp [Region.wanted, yielded]; done)) ?_ (fun w' hw => ?_) ?_
      rotate_left
      focus (clear hw; go_simp; (try exact rfl))
      try go_frame
      refine LexRG.yes rfl (by first | rfl | (simp [Region.wanted, yielded]; done)) ?_ (fun w' hw => ?_) ?_
      rotate_left
      focus (clear hw; go_simp; (try exact rfl))
      try go_frame
      refine LexRG.yes rfl (by first | rfl | (simp [Region.wanted, yielded]; done)) ?_ (fun w' hw => ?_) ?_
      rotate_left
      focus (clear hw; go_simp; (try exact rfl))
      try go_frame
      refine LexRG.no rfl (by first | rfl | (simp [Region.wanted, yielded]; done)) ?_
      try go_frame
      refine LexRG.no rfl (by first | rfl | (simp [Region.wanted, yielded]; done)) ?_
      try go_frame
      refine LexRG.no rfl (by first | rfl | (simp [Region.wanted, yielded]; done)) ?_
      try go_frame
      refine LexRG.no rfl (by first | rfl | (simp [Region.wanted, yielded]; done)) ?_
      try go_frame
      refine LexRG.yes rfl (by first | rfl | (simp [Region.wanted, yielded]; done)) ?_ (fun w' hw => ?_) ?_
      rotate_left
      focus (clear hw; go_simp; (try exact rfl))
      try go_frame
      refine LexRG.nil ?_
      refine wpAnyL_writes [15] (by kernel_rfl) (LexW.cons rfl ?_)
      try go_frame
      go_wp2_with fail
      refine ⟨fun _ => T.out.2, LexW.nil ?_⟩
      go_wp2_with fail
      go_ret
      exact ⟨by rw [hlt]; exact rfl, T.out.1.1⟩
    · skip
      refine wp_region_open 100 (fun w' => w'.heap[w.heap.size]? = some (.cells #[.int .i64 x.st, .int .i64 x.epoch, .int .i64 x.gen, .slice A3 x.conf.length c3, .bool x.paused, .slice A5 x.as_.length c5, .slice A6 x.ls.length c6, .int .i64 x.ticket, .int .i64 x.h.id, .int .i64 x.h.no, .int .i64 x.h.acked, .int .i64 x.h.since] 70 (0, 0)) ∧ w'.heap[D]? = some (.cells #[.string d.name, .int .i64 d.size, .int .i64 d.queue, .int .i64 d.wait, .int .i64 d.idle] 81 (0, 0))) (by kernel_rfl) ?_
      replace T := T.drew
      refine wpAnyL_readsG [0, 1, 2, 3, 5, 6] (fuel := 10) (by kernel_rfl) T.out.2 ?_
      refine LexRG.yes rfl (by first | rfl | (simp [Region.wanted, yielded]; done)) ?_ (fun w' hw => ?_) ?_
      rotate_left
      focus (clear hw; go_simp; (try exact rfl))
      try go_frame
      refine LexRG.yes rfl (by first | rfl | (simp [Region.wanted, yielded]; done)) ?_ (fun w' hw => ?_) ?_
      rotate_left
      focus (clear hw; go_simp; (try exact rfl))
      try go_frame
      refine LexRG.yes rfl (by first | rfl | (simp [Region.wanted, yielded]; done)) ?_ (fun w' hw => ?_) ?_
      rotate_left
      focus (have q0 := var_cell hw.1 0; have q1 := var_cell hw.1 1; have q2 := var_cell hw.1 2; have q3 := var_cell hw.1 3; have q4 := var_cell hw.1 4; have q5 := var_cell hw.1 5; have q6 := var_cell hw.1 6; have q7 := var_cell hw.1 7; have q8 := var_cell hw.1 8; have q9 := var_cell hw.1 9; have q10 := var_cell hw.1 10; have q11 := var_cell hw.1 11; clear hw; go_simp; (try exact rfl))
      try go_frame
      refine LexRG.yes rfl (by first | rfl | (simp [Region.wanted, yielded]; done)) ?_ (fun w' hw => ?_) ?_
      rotate_left
      focus (clear hw; go_simp; (try exact rfl))
      try go_frame
      refine LexRG.yes rfl (by first | rfl | (simp [Region.wanted, yielded]; done)) ?_ (fun w' hw => ?_) ?_
      rotate_left
      focus (clear hw; go_simp; (try exact rfl))
      try go_frame
      refine LexRG.yes rfl (by first | rfl | (simp [Region.wanted, yielded]; done)) ?_ (fun w' hw => ?_) ?_
      rotate_left
      focus (have q1 := var_cell hw.2 1; clear hw; go_simp; (try exact rfl))
      try go_frame
      refine LexRG.nil ?_
      refine wpAnyL_one (i := 4) (by kernel_rfl) ?_
      refine lexA_get rfl ?_
      try go_frame
      go_wp2_with fail
      refine (countS_rep [.int .i64 x.st, .int .i64 x.epoch, .int .i64 x.gen, .slice A3 x.conf.length c3, .bool x.paused, .slice A5 x.as_.length c5, .slice A6 x.ls.length c6, .int .i64 x.ticket, .int .i64 x.h.id, .int .i64 x.h.no, .int .i64 x.h.acked, .int .i64 x.h.since] x db W.drew T.out.1.2 HS.out).mono ?_
      rw [HQ.out]
      rintro e V1 ⟨rfl, hb⟩
      replace T := T.later hb
      clear hb
      go_wp2_with fail
      refine ⟨fun _ => T.out.2, ?_⟩
      refine wpAnyL_readsG [7, 8, 9, 10, 11, 12, 13, 14] (fuel := 1) (by kernel_rfl) T.out.2 ?_
      refine LexRG.yes rfl (by first | rfl | (simp [Region.wanted, yielded]; done)) ?_ (fun w' hw => ?_) ?_
      rotate_left
      focus (clear hw; go_simp; (try exact rfl))
      try go_frame
      refine LexRG.yes rfl (by first | rfl | (simp [Region.wanted, yielded]; done)) ?_ (fun w' hw => ?_) ?_
      rotate_left
      focus (clear hw; go_simp; (try exact rfl))
      try go_frame
      refine LexRG.yes rfl (by first | rfl | (simp [Region.wanted, yielded]; done)) ?_ (fun w' hw => ?_) ?_
      rotate_left
      focus (clear hw; go_simp; (try exact rfl))
      try go_frame
      refine LexRG.yes rfl (by first | rfl | (simp [Region.wanted, yielded]; done)) ?_ (fun w' hw => ?_) ?_
      rotate_left
      focus (clear hw; go_simp; (try exact rfl))
      try go_frame
      refine LexRG.yes rfl (by first | rfl | (simp [Region.wanted, yielded]; done)) ?_ (fun w' hw => ?_) ?_
      rotate_left
      focus (have q6 := var_cell hw.1 6; clear hw; go_simp; (try exact rfl))
      try go_frame
      refine LexRG.yes rfl (by first | rfl | (simp [Region.wanted, yielded]; done)) ?_ (fun w' hw => ?_) ?_
      rotate_left
      focus (clear hw; go_simp; (try exact rfl))
      try go_frame
      refine LexRG.yes rfl (by first | rfl | (simp [Region.wanted, yielded]; done)) ?_ (fun w' hw => ?_) ?_
      rotate_left
      focus (clear hw; go_simp; (try exact rfl))
      try go_frame
      refine LexRG.yes rfl (by first | rfl | (simp [Region.wanted, yielded]; done)) ?_ (fun w' hw => ?_) ?_
      rotate_left
      focus (clear hw; go_simp; (try exact rfl))
      try go_frame
      refine LexRG.nil ?_
      refine wpAnyL_writes [15] (by kernel_rfl) (LexW.cons rfl ?_)
      try go_frame
      go_wp2_with fail
      refine ⟨fun _ => T.out.2, LexW.nil ?_⟩
      go_wp2_with fail
      go_ret
      exact ⟨by rw [hlt]; exact rfl, T.out.1.1⟩

set_option maxHeartbeats 4000000 in
theorem mayOpen_rep (cs : List Value) (x : Ho) (db : ByteArray) (w : World) (h : hoR.at_ w w.heap.size cs x) (hs : FitsHo x) :
    Calls Try.prog 58 #[.agg cs.toArray, .string db] w (fun e w' => e = .returned (.bool (mayOpenP x db)) ∧ Below w.heap.size w w') := by
  obtain ⟨A3, c3, A5, c5, A6, c6, rfl, t3, t5, t6⟩ := ho_cells h
  have hn3 : x.conf.length ≤ 1048576 := hs.1.1
  have hn6 : x.ls.length ≤ 1048576 := hs.2.2.1
  have HS := Lib.hid hs
  obtain ⟨p, hp⟩ : ∃ p, dbAt x.conf db = p := ⟨_, rfl⟩
  obtain ⟨d, y⟩ := p
  obtain ⟨n, hq⟩ : ∃ n, countP x db = n := ⟨_, rfl⟩
  have HP := Lib.hid hp
  have HQ := Lib.hid hq
  have hr : mayOpenP x db = (y && decide (n < d.size) && decide ((x.ls.length : Int) < 9)) := by unfold mayOpenP; rw [hp, hq]
  rw [hr]
  clear hp hq hr
  have S : All (fun w' => (Below w.heap.size w w' ∧ hoR.at_ w' w'.heap.size [.int .i64 x.st, .int .i64 x.epoch, .int .i64 x.gen, .slice A3 x.conf.length c3, .bool x.paused, .slice A5 x.as_.length c5, .slice A6 x.ls.length c6, .int .i64 x.ticket, .int .i64 x.h.id, .int .i64 x.h.no, .int .i64 x.h.acked, .int .i64 x.h.since] x) ∧ w'.heap[w.heap.size]? = some (.cells #[.int .i64 x.st, .int .i64 x.epoch, .int .i64 x.gen, .slice A3 x.conf.length c3, .bool x.paused, .slice A5 x.as_.length c5, .slice A6 x.ls.length c6, .int .i64 x.ticket, .int .i64 x.h.id, .int .i64 x.h.no, .int .i64 x.h.acked, .int .i64 x.h.since] 70 (0, 0))) (w.alloc (.cells #[.int .i64 x.st, .int .i64 x.epoch, .int .i64 x.gen, .slice A3 x.conf.length c3, .bool x.paused, .slice A5 x.as_.length c5, .slice A6 x.ls.length c6, .int .i64 x.ticket, .int .i64 x.h.id, .int .i64 x.h.no, .int .i64 x.h.acked, .int .i64 x.h.since] 70)) :=
    ⟨⟨Later.alloc w _, Rep.more hoR (Rep.at_below h (Later.alloc w _)) (by simp)⟩, heap_alloc_new w _⟩
  have q3 := var_cell S.out.2 3
  clear h hs t5 t6
  go_enter Try.func58, Try.ntmps58
  go_wp2_with fail
  generalize w.alloc (.cells #[.int .i64 x.st, .int .i64 x.epoch, .int .i64 x.gen, .slice A3 x.conf.length c3, .bool x.paused, .slice A5 x.as_.length c5, .slice A6 x.ls.length c6, .int .i64 x.ticket, .int .i64 x.h.id, .int .i64 x.h.no, .int .i64 x.h.acked, .int .i64 x.h.since] 70) = W0 at S q3 ⊢
  refine (dbAt_any A3 c3 x.conf db W0 (dbs_rows (Rep.more dbsR (Rep.at_below t3 S.out.1.1) S.out.1.1.size)).2 hn3).mono ?_
  rw [HP.out]
  rintro e W1 ⟨rfl, hb⟩
  replace S := S.later hb
  clear hb q3 t3
  unfold dbC
  go_upto_region 2 with (fail)
  have S2 := S.alloc (.cells #[.string d.name, .int .i64 d.size, .int .i64 d.queue, .int .i64 d.wait, .int .i64 d.idle] 81)
  have hv := heap_alloc_new W1 (.cells #[.string d.name, .int .i64 d.size, .int .i64 d.queue, .int .i64 d.wait, .int .i64 d.idle] 81)
  have hzl : W1.heap.size < (W1.alloc (.cells #[.string d.name, .int .i64 d.size, .int .i64 d.queue, .int .i64 d.wait, .int .i64 d.idle] 81)).heap.size := by simp
  generalize W1.alloc (.cells #[.string d.name, .int .i64 d.size, .int .i64 d.queue, .int .i64 d.wait, .int .i64 d.idle] 81) = W at S2 hv hzl ⊢
  generalize W1.heap.size = D at hv hzl ⊢
  have T : All (fun w' => (Below w.heap.size w w' ∧ hoR.at_ w' w'.heap.size [.int .i64 x.st, .int .i64 x.epoch, .int .i64 x.gen, .slice A3 x.conf.length c3, .bool x.paused, .slice A5 x.as_.length c5, .slice A6 x.ls.length c6, .int .i64 x.ticket, .int .i64 x.h.id, .int .i64 x.h.no, .int .i64 x.h.acked, .int .i64 x.h.since] x) ∧ (w'.heap[w.heap.size]? = some (.cells #[.int .i64 x.st, .int .i64 x.epoch, .int .i64 x.gen, .slice A3 x.conf.length c3, .bool x.paused, .slice A5 x.as_.length c5, .slice A6 x.ls.length c6, .int .i64 x.ticket, .int .i64 x.h.id, .int .i64 x.h.no, .int .i64 x.h.acked, .int .i64 x.h.since] 70 (0, 0)) ∧ w'.heap[D]? = some (.cells #[.string d.name, .int .i64 d.size, .int .i64 d.queue, .int .i64 d.wait, .int .i64 d.idle] 81 (0, 0)))) W := ⟨S2.out.1, S2.out.2, hv⟩
  clear S S2 hv
  cases y
  · skip
    refine wp_region_open 100 (fun w' => w'.heap[w.heap.size]? = some (.cells #[.int .i64 x.st, .int .i64 x.epoch, .int .i64 x.gen, .slice A3 x.conf.length c3, .bool x.paused, .slice A5 x.as_.length c5, .slice A6 x.ls.length c6, .int .i64 x.ticket, .int .i64 x.h.id, .int .i64 x.h.no, .int .i64 x.h.acked, .int .i64 x.h.since] 70 (0, 0)) ∧ w'.heap[D]? = some (.cells #[.string d.name, .int .i64 d.size, .int .i64 d.queue, .int .i64 d.wait, .int .i64 d.idle] 81 (0, 0))) (by kernel_rfl) ?_
    replace T := T.drew
    refine wpAnyL_readsG [0, 1, 2, 3, 5, 6] (fuel := 10) (by kernel_rfl) T.out.2 ?_
    refine LexRG.yes rfl (by first | rfl | (simp [Region.wanted, yielded]; done)) ?_ (fun w' hw => ?_) ?_
    rotate_left
    focus (clear hw; go_simp; (try exact rfl))
    try go_frame
    refine LexRG.yes rfl (by first | rfl | (simp [Region.wanted, yielded]; done)) ?_ (fun w' hw => ?_) ?_
    rotate_left
    focus (clear hw; go_simp; (try exact rfl))
    try go_frame
    refine LexRG.no rfl (by first | rfl | (simp [Region.wanted, yielded]; done)) ?_
    try go_frame
    refine LexRG.no rfl (by first | rfl | (simp [Region.wanted, yielded]; done)) ?_
    try go_frame
    refine LexRG.no rfl (by first | rfl | (simp [Region.wanted, yielded]; done)) ?_
    try go_frame
    refine LexRG.no rfl (by first | rfl | (simp [Region.wanted, yielded]; done)) ?_
    try go_frame
    refine LexRG.nil ?_
    refine wpAnyL_one (i := 4) (by kernel_rfl) ?_
    refine lexA_get rfl ?_
    try go_frame
    go_wp2_with fail
    refine ⟨fun _ => T.out.2, ?_⟩
    refine wpAnyL_readsG [7, 8, 9, 10, 11, 12, 13, 14] (fuel := 1) (by kernel_rfl) T.out.2 ?_
    refine LexRG.no rfl (by first | rfl | (simp [Region.wanted, yielded]; done)) ?_
    try go_frame
    refine LexRG.yes rfl (by first | rfl | (simp [Region.wanted, yielded]; done)) ?_ (fun w' hw => ?_) ?_
    rotate_left
    focus (clear hw; go_simp; (try exact rfl))
    try go_frame
    refine LexRG.yes rfl (by first | rfl | (simp [Region.wanted, yielded]; done)) ?_ (fun w' hw => ?_) ?_
    rotate_left
    focus (clear hw; go_simp; (try exact rfl))
    try go_frame
    refine LexRG.no rfl (by first | rfl | (simp [Region.wanted, yielded]; done)) ?_
    try go_frame
    refine LexRG.no rfl (by first | rfl | (simp [Region.wanted, yielded]; done)) ?_
    try go_frame
    refine LexRG.no rfl (by first | rfl | (simp [Region.wanted, yielded]; done)) ?_
    try go_frame
    refine LexRG.no rfl (by first | rfl | (simp [Region.wanted, yielded]; done)) ?_
    try go_frame
    refine LexRG.yes rfl (by first | rfl | (simp [Region.wanted, yielded]; done)) ?_ (fun w' hw => ?_) ?_
    rotate_left
    focus (clear hw; go_simp; (try exact rfl))
    try go_frame
    refine LexRG.nil ?_
    refine wpAnyL_writes [15] (by kernel_rfl) (LexW.cons rfl ?_)
    try go_frame
    go_wp2_with fail
    refine ⟨fun _ => T.out.2, LexW.nil ?_⟩
    go_wp2_with fail
    go_ret
    exact ⟨by exact rfl, T.out.1.1⟩
  · cases hlt : decide (n < d.size)
    · skip
      refine wp_region_open 100 (fun w' => w'.heap[w.heap.size]? = some (.cells #[.int .i64 x.st, .int .i64 x.epoch, .int .i64 x.gen, .slice A3 x.conf.length c3, .bool x.paused, .slice A5 x.as_.length c5, .slice A6 x.ls.length c6, .int .i64 x.ticket, .int .i64 x.h.id, .int .i64 x.h.no, .int .i64 x.h.acked, .int .i64 x.h.since] 70 (0, 0)) ∧ w'.heap[D]? = some (.cells #[.string d.name, .int .i64 d.size, .int .i64 d.queue, .int .i64 d.wait, .int .i64 d.idle] 81 (0, 0))) (by kernel_rfl) ?_
      replace T := T.drew
      refine wpAnyL_readsG [0, 1, 2, 3, 5, 6] (fuel := 10) (by kernel_rfl) T.out.2 ?_
      refine LexRG.yes rfl (by first | rfl | (simp [Region.wanted, yielded]; done)) ?_ (fun w' hw => ?_) ?_
      rotate_left
      focus (clear hw; go_simp; (try exact rfl))
      try go_frame
      refine LexRG.yes rfl (by first | rfl | (simp [Region.wanted, yielded]; done)) ?_ (fun w' hw => ?_) ?_
      rotate_left
      focus (clear hw; go_simp; (try exact rfl))
      try go_frame
      refine LexRG.yes rfl (by first | rfl | (simp [Region.wanted, yielded]; done)) ?_ (fun w' hw => ?_) ?_
      rotate_left
      focus (have q0 := var_cell hw.1 0; have q1 := var_cell hw.1 1; have q2 := var_cell hw.1 2; have q3 := var_cell hw.1 3; have q4 := var_cell hw.1 4; have q5 := var_cell hw.1 5; have q6 := var_cell hw.1 6; have q7 := var_cell hw.1 7; have q8 := var_cell hw.1 8; have q9 := var_cell hw.1 9; have q10 := var_cell hw.1 10; have q11 := var_cell hw.1 11; clear hw; go_simp; (try exact rfl))
      try go_frame
      refine LexRG.yes rfl (by first | rfl | (simp [Region.wanted, yielded]; done)) ?_ (fun w' hw => ?_) ?_
      rotate_left
      focus (clear hw; go_simp; (try exact rfl))
      try go_frame
      refine LexRG.yes rfl (by first | rfl | (simp [Region.wanted, yielded]; done)) ?_ (fun w' hw => ?_) ?_
      rotate_left
      focus (clear hw; go_simp; (try exact rfl))
      try go_frame
      refine LexRG.yes rfl (by first | rfl | (simp [Region.wanted, yielded]; done)) ?_ (fun w' hw => ?_) ?_
      rotate_left
      focus (have q1 := var_cell hw.2 1; clear hw; go_simp; (try exact rfl))
      try go_frame
      refine LexRG.nil ?_
      refine wpAnyL_one (i := 4) (by kernel_rfl) ?_
      refine lexA_get rfl ?_
      try go_frame
      go_wp2_with fail
      refine (count_rep [.int .i64 x.st, .int .i64 x.epoch, .int .i64 x.gen, .slice A3 x.conf.length c3, .bool x.paused, .slice A5 x.as_.length c5, .slice A6 x.ls.length c6, .int .i64 x.ticket, .int .i64 x.h.id, .int .i64 x.h.no, .int .i64 x.h.acked, .int .i64 x.h.since] x db W.drew T.out.1.2 HS.out).mono ?_
      rw [HQ.out]
      rintro e V1 ⟨rfl, hb⟩
      replace T := T.later hb
      clear hb
      go_wp2_with fail
      refine ⟨fun _ => T.out.2, ?_⟩
      refine wpAnyL_readsG [7, 8, 9, 10, 11, 12, 13, 14] (fuel := 1) (by kernel_rfl) T.out.2 ?_
      refine LexRG.yes rfl (by first | rfl | (simp [Region.wanted, yielded]; done)) ?_ (fun w' hw => ?_) ?_
      rotate_left
      focus (clear hw; go_simp; (try exact rfl))
      try go_frame
      refine LexRG.yes rfl (by first | rfl | (simp [Region.wanted, yielded]; done)) ?_ (fun w' hw => ?_) ?_
      rotate_left
      focus (clear hw; go_simp; (try exact rfl))
      try go_frame
      refine LexRG.yes rfl (by first | rfl | (simp [Region.wanted, yielded]; done)) ?_ (fun w' hw => ?_) ?_
      rotate_left
      focus (clear hw; go_simp; (try exact rfl))
      try go_frame
      refine LexRG.no rfl (by first | rfl | (simp [Region.wanted, yielded]; done)) ?_
      try go_frame
      refine LexRG.no rfl (by first | rfl | (simp [Region.wanted, yielded]; done)) ?_
      try go_frame
      refine LexRG.no rfl (by first | rfl | (simp [Region.wanted, yielded]; done)) ?_
      try go_frame
      refine LexRG.no rfl (by first | rfl | (simp [Region.wanted, yielded]; done)) ?_
      try go_frame
      refine LexRG.yes rfl (by first | rfl | (simp [Region.wanted, yielded]; done)) ?_ (fun w' hw => ?_) ?_
      rotate_left
      focus (clear hw; go_simp; (try exact rfl))
      try go_frame
      refine LexRG.nil ?_
      refine wpAnyL_writes [15] (by kernel_rfl) (LexW.cons rfl ?_)
      try go_frame
      go_wp2_with fail
      refine ⟨fun _ => T.out.2, LexW.nil ?_⟩
      go_wp2_with fail
      go_ret
      exact ⟨by rw [hlt]; exact rfl, T.out.1.1⟩
    · skip
      refine wp_region_open 100 (fun w' => w'.heap[w.heap.size]? = some (.cells #[.int .i64 x.st, .int .i64 x.epoch, .int .i64 x.gen, .slice A3 x.conf.length c3, .bool x.paused, .slice A5 x.as_.length c5, .slice A6 x.ls.length c6, .int .i64 x.ticket, .int .i64 x.h.id, .int .i64 x.h.no, .int .i64 x.h.acked, .int .i64 x.h.since] 70 (0, 0)) ∧ w'.heap[D]? = some (.cells #[.string d.name, .int .i64 d.size, .int .i64 d.queue, .int .i64 d.wait, .int .i64 d.idle] 81 (0, 0))) (by kernel_rfl) ?_
      replace T := T.drew
      refine wpAnyL_readsG [0, 1, 2, 3, 5, 6] (fuel := 10) (by kernel_rfl) T.out.2 ?_
      refine LexRG.yes rfl (by first | rfl | (simp [Region.wanted, yielded]; done)) ?_ (fun w' hw => ?_) ?_
      rotate_left
      focus (clear hw; go_simp; (try exact rfl))
      try go_frame
      refine LexRG.yes rfl (by first | rfl | (simp [Region.wanted, yielded]; done)) ?_ (fun w' hw => ?_) ?_
      rotate_left
      focus (clear hw; go_simp; (try exact rfl))
      try go_frame
      refine LexRG.yes rfl (by first | rfl | (simp [Region.wanted, yielded]; done)) ?_ (fun w' hw => ?_) ?_
      rotate_left
      focus (have q0 := var_cell hw.1 0; have q1 := var_cell hw.1 1; have q2 := var_cell hw.1 2; have q3 := var_cell hw.1 3; have q4 := var_cell hw.1 4; have q5 := var_cell hw.1 5; have q6 := var_cell hw.1 6; have q7 := var_cell hw.1 7; have q8 := var_cell hw.1 8; have q9 := var_cell hw.1 9; have q10 := var_cell hw.1 10; have q11 := var_cell hw.1 11; clear hw; go_simp; (try exact rfl))
      try go_frame
      refine LexRG.yes rfl (by first | rfl | (simp [Region.wanted, yielded]; done)) ?_ (fun w' hw => ?_) ?_
      rotate_left
      focus (clear hw; go_simp; (try exact rfl))
      try go_frame
      refine LexRG.yes rfl (by first | rfl | (simp [Region.wanted, yielded]; done)) ?_ (fun w' hw => ?_) ?_
      rotate_left
      focus (clear hw; go_simp; (try exact rfl))
      try go_frame
      refine LexRG.yes rfl (by first | rfl | (simp [Region.wanted, yielded]; done)) ?_ (fun w' hw => ?_) ?_
      rotate_left
      focus (have q1 := var_cell hw.2 1; clear hw; go_simp; (try exact rfl))
      try go_frame
      refine LexRG.nil ?_
      refine wpAnyL_one (i := 4) (by kernel_rfl) ?_
      refine lexA_get rfl ?_
      try go_frame
      go_wp2_with fail
      refine (count_rep [.int .i64 x.st, .int .i64 x.epoch, .int .i64 x.gen, .slice A3 x.conf.length c3, .bool x.paused, .slice A5 x.as_.length c5, .slice A6 x.ls.length c6, .int .i64 x.ticket, .int .i64 x.h.id, .int .i64 x.h.no, .int .i64 x.h.acked, .int .i64 x.h.since] x db W.drew T.out.1.2 HS.out).mono ?_
      rw [HQ.out]
      rintro e V1 ⟨rfl, hb⟩
      replace T := T.later hb
      clear hb
      go_wp2_with fail
      refine ⟨fun _ => T.out.2, ?_⟩
      refine wpAnyL_readsG [7, 8, 9, 10, 11, 12, 13, 14] (fuel := 1) (by kernel_rfl) T.out.2 ?_
      refine LexRG.yes rfl (by first | rfl | (simp [Region.wanted, yielded]; done)) ?_ (fun w' hw => ?_) ?_
      rotate_left
      focus (clear hw; go_simp; (try exact rfl))
      try go_frame
      refine LexRG.yes rfl (by first | rfl | (simp [Region.wanted, yielded]; done)) ?_ (fun w' hw => ?_) ?_
      rotate_left
      focus (clear hw; go_simp; (try exact rfl))
      try go_frame
      refine LexRG.yes rfl (by first | rfl | (simp [Region.wanted, yielded]; done)) ?_ (fun w' hw => ?_) ?_
      rotate_left
      focus (clear hw; go_simp; (try exact rfl))
      try go_frame
      refine LexRG.yes rfl (by first | rfl | (simp [Region.wanted, yielded]; done)) ?_ (fun w' hw => ?_) ?_
      rotate_left
      focus (clear hw; go_simp; (try exact rfl))
      try go_frame
      refine LexRG.yes rfl (by first | rfl | (simp [Region.wanted, yielded]; done)) ?_ (fun w' hw => ?_) ?_
      rotate_left
      focus (have q6 := var_cell hw.1 6; clear hw; go_simp; (try exact rfl))
      try go_frame
      refine LexRG.yes rfl (by first | rfl | (simp [Region.wanted, yielded]; done)) ?_ (fun w' hw => ?_) ?_
      rotate_left
      focus (clear hw; go_simp; (try exact rfl))
      try go_frame
      refine LexRG.yes rfl (by first | rfl | (simp [Region.wanted, yielded]; done)) ?_ (fun w' hw => ?_) ?_
      rotate_left
      focus (clear hw; go_simp; (try exact rfl))
      try go_frame
      refine LexRG.yes rfl (by first | rfl | (simp [Region.wanted, yielded]; done)) ?_ (fun w' hw => ?_) ?_
      rotate_left
      focus (clear hw; go_simp; (try exact rfl))
      try go_frame
      refine LexRG.nil ?_
      refine wpAnyL_writes [15] (by kernel_rfl) (LexW.cons rfl ?_)
      try go_frame
      go_wp2_with fail
      refine ⟨fun _ => T.out.2, LexW.nil ?_⟩
      go_wp2_with fail
      go_ret
      exact ⟨by rw [hlt]; exact rfl, T.out.1.1⟩

end Go.Proofs.Ytgdhhhibkhfdlaa
