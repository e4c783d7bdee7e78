/- The bytes of a client and of a server connection, by the program. (By gen_l9b.py.) -/
import Derived.Test.YtgdhhhibkhfdlaaParts
import Derived.Test.YtgdhhhibkhfdlaaAskP
import Derived.Test.YtgdhhhibkhfdlaaPutText
import Derived.Test.YtgdhhhibkhfdlaaFLLine
import Derived.Test.YtgdhhhibkhfdlaaLexG
import Derived.Deep.Cut
namespace Go.Proofs.Ytgdhhhibkhfdlaa
open Go.RowKit
set_option linter.unusedVariables false

theorem octet_any (n : Int) (w : World) : Calls Try.prog 161 #[.int .i64 n] w (RetOwn w [u8 n]) := by
  unfold RetOwn
  have h := World.ownsRow_lit (base := w.heap.size) (e := 5) (size := 1) w #[.int .u8 (n % 256)] 1 (Nat.le_refl _) (by simp [maxLen]) rfl
  have e : bys [u8 n] = [.int .u8 (n % 256)] := by simp [bys, u8_cell]
  have HO := Lib.hid (show Owns (w.alloc (.cells #[.int .u8 (n % 256)] 5)) w.heap.size 5 (.slice (some ⟨w.heap.size, 0, none⟩) 1 1) [u8 n] by unfold Owns; rw [e]; exact h)
  clear h e
  go_enter Try.func161, Try.ntmps161
  go_wp2
  go_ret
  exact ⟨_, rfl, HO.out, Later.alloc w _⟩
def momB (n : Int) : List UInt8 := wordBytes (n / 256) ++ [u8 (n % 256)]
theorem momB_len (n : Int) : (momB n).length = 3 := rfl

set_option maxHeartbeats 2000000 in
theorem moment_any (n : Int) (w : World) (h0 : 0 ≤ n) (h1 : n ≤ 100000) : Calls Try.prog 163 #[.int .i64 n] w (RetOwn w (momB n)) := by
  unfold RetOwn
  go_enter Try.func163, Try.ntmps163
  go_wp2_with fail
  refine (putWord_any none 0 (n / 256) [] w Reads.none_ (by simp)).mono ?_
  rintro e W1 ⟨v1, rfl, o1, hb1⟩
  obtain ⟨L1, hL1⟩ : ∃ L, [] ++ wordBytes (n / 256) = L := ⟨_, rfl⟩
  rw [hL1] at o1
  obtain ⟨A1, c1, rfl, _, _, r1, _⟩ := o1.shape
  have HL1 := Lib.hid hL1
  clear hL1 o1
  go_wp2_with fail
  refine (octet_any (n % 256) W1).mono ?_
  rintro e W2 ⟨v2, rfl, o2, hb2⟩
  obtain ⟨L2, hL2⟩ : ∃ L, [u8 (n % 256)] = L := ⟨_, rfl⟩
  rw [hL2] at o2
  obtain ⟨A2, c2, rfl, _, _, r2, _⟩ := o2.shape
  have HL2 := Lib.hid hL2
  clear hL2 o2
  replace r1 := (r1.below hb2).more hb2.size
  have hb := Later.trans hb1 hb2
  clear hb1 hb2
  go_wp2_with fail
  have ha := Later.alloc W2 (.cells #[.slice A1 L1.length c1, .slice A2 L2.length c2] 22)
  have hg := heap_alloc_new W2 (.cells #[.slice A1 L1.length c1, .slice A2 L2.length c2] 22)
  replace r1 := (r1.below ha).more ha.size
  replace r2 := (r2.below ha).more ha.size
  replace hb := Later.trans hb ha
  clear ha
  generalize W2.alloc (.cells #[.slice A1 L1.length c1, .slice A2 L2.length c2] 22) = W3 at r1 r2 hb hg ⊢
  generalize W2.heap.size = D at hg ⊢
  have hp : PartsAt W3 W3.heap.size [⟨A1, c1, L1⟩, ⟨A2, c2, L2⟩] := by
    intro p hp
    simp only [List.mem_cons, List.not_mem_nil, or_false] at hp
    rcases hp with rfl | rfl
    · exact r1
    · exact r2
  have he : partsL [⟨A1, c1, L1⟩, ⟨A2, c2, L2⟩] = momB n := by
    unfold partsL momB
    rw [← HL1.out, ← HL2.out]
    rfl
  refine (partsJoined_any D _ [⟨A1, c1, L1⟩, ⟨A2, c2, L2⟩] 2 rfl W3 hg hp (by rw [he, momB_len]; decide) (by decide)).mono ?_
  rw [he]
  rintro e W4 ⟨v, rfl, o, hb4⟩
  have hfin := Later.trans hb hb4
  have ho := ownsRow_mono o hb.size
  have HO := Lib.hid (show Owns W4 w.heap.size 5 v (momB n) from ho)
  obtain ⟨A, c, rfl, _, _, _, _⟩ := o.shape
  clear o ho hb4 he hp r1 r2 hg hb
  go_wp2_with fail
  go_ret
  exact ⟨_, rfl, HO.out, hfin⟩
def akBytes (x : Ak) : List UInt8 := [u8 1] ++ (wordBytes x.sock ++ ([u8 x.st] ++ (ptB [] x.db.data.toList ++ (wordBytes x.ticket ++ (momB x.since ++ (ptB [] x.q.data.toList ++ (wordBytes x.line ++ (wordBytes x.lease))))))))
theorem akBytes_len (x : Ak) : (akBytes x).length ≤ 220 := by
  have hdb := ptB_len [] x.db.data.toList
  have hq := ptB_len [] x.q.data.toList
  unfold akBytes wordBytes momB
  simp only [List.length_append, List.length_cons, List.length_nil, wordBytes] at *
  omega

set_option maxRecDepth 100000 in
set_option maxHeartbeats 8000000 in
theorem askerBytes_any (x : Ak) (w : World) (hs : FitsAk x) (h0 : 0 ≤ x.since) (h1 : x.since ≤ 100000) : Calls Try.prog 95 #[.agg (akC x).toArray] w (RetOwn w (akBytes x)) := by
  have hs1 : x.db.size ≤ 1048576 := hs.1
  have hs2 : x.q.size ≤ 1048576 := hs.2
  clear hs
  have hlen : (akBytes x).length ≤ 100000000 := Nat.le_trans (akBytes_len x) (by decide)
  unfold RetOwn akC
  go_enter Try.func95, Try.ntmps95
  go_upto_region 1 with (fail)
  have T : All (fun w' => Below w.heap.size w w' ∧ w'.heap[w.heap.size]? = some (.cells #[.int .i64 x.sock, .string x.db, .int .i64 x.st, .int .i64 x.ticket, .int .i64 x.since, .string x.q, .int .i64 x.line, .int .i64 x.lease] 50 (0, 0))) (w.alloc (.cells #[.int .i64 x.sock, .string x.db, .int .i64 x.st, .int .i64 x.ticket, .int .i64 x.since, .string x.q, .int .i64 x.line, .int .i64 x.lease] 50)) := ⟨Later.alloc w _, heap_alloc_new w _⟩
  generalize w.alloc (.cells #[.int .i64 x.sock, .string x.db, .int .i64 x.st, .int .i64 x.ticket, .int .i64 x.since, .string x.q, .int .i64 x.line, .int .i64 x.lease] 50) = W0 at T ⊢
  refine wp_region_open 100 (fun w' => w'.heap[w.heap.size]? = some (.cells #[.int .i64 x.sock, .string x.db, .int .i64 x.st, .int .i64 x.ticket, .int .i64 x.since, .string x.q, .int .i64 x.line, .int .i64 x.lease] 50 (0, 0))) (by kernel_rfl) ?_
  replace T := T.drew
  refine wpAnyL_readsG [1, 2, 4, 5, 7, 8, 10, 11, 13, 14, 16, 17, 19, 20, 22, 23] (fuel := 12) (by kernel_rfl) T.out.2 ?_
  refine LexRG.yes rfl (by first | rfl | (simp [Region.wanted, yielded]; done)) ?_ (fun w' hw => ?_) ?_
  rotate_left
  focus (clear hw; go_simp; (try exact rfl))
  try go_frame
  refine LexRG.yes rfl (by first | rfl | (simp [Region.wanted, yielded]; done)) ?_ (fun w' hw => ?_) ?_
  rotate_left
  focus (have c0 := var_cell hw 0; clear hw; go_simp; (try exact rfl))
  try go_frame
  refine LexRG.yes rfl (by first | rfl | (simp [Region.wanted, yielded]; done)) ?_ (fun w' hw => ?_) ?_
  rotate_left
  focus (clear hw; go_simp; (try exact rfl))
  try go_frame
  refine LexRG.yes rfl (by first | rfl | (simp [Region.wanted, yielded]; done)) ?_ (fun w' hw => ?_) ?_
  rotate_left
  focus (have c0 := var_cell hw 2; clear hw; go_simp; (try exact rfl))
  try go_frame
  refine LexRG.yes rfl (by first | rfl | (simp [Region.wanted, yielded]; done)) ?_ (fun w' hw => ?_) ?_
  rotate_left
  focus (clear hw; go_simp; (try exact rfl))
  try go_frame
  refine LexRG.yes rfl (by first | rfl | (simp [Region.wanted, yielded]; done)) ?_ (fun w' hw => ?_) ?_
  rotate_left
  focus (have c0 := var_cell hw 1; clear hw; go_simp; (try exact rfl))
  try go_frame
  refine LexRG.yes rfl (by first | rfl | (simp [Region.wanted, yielded]; done)) ?_ (fun w' hw => ?_) ?_
  rotate_left
  focus (clear hw; go_simp; (try exact rfl))
  try go_frame
  refine LexRG.yes rfl (by first | rfl | (simp [Region.wanted, yielded]; done)) ?_ (fun w' hw => ?_) ?_
  rotate_left
  focus (have c0 := var_cell hw 3; clear hw; go_simp; (try exact rfl))
  try go_frame
  refine LexRG.yes rfl (by first | rfl | (simp [Region.wanted, yielded]; done)) ?_ (fun w' hw => ?_) ?_
  rotate_left
  focus (clear hw; go_simp; (try exact rfl))
  try go_frame
  refine LexRG.yes rfl (by first | rfl | (simp [Region.wanted, yielded]; done)) ?_ (fun w' hw => ?_) ?_
  rotate_left
  focus (have c0 := var_cell hw 4; clear hw; go_simp; (try exact rfl))
  try go_frame
  refine LexRG.yes rfl (by first | rfl | (simp [Region.wanted, yielded]; done)) ?_ (fun w' hw => ?_) ?_
  rotate_left
  focus (clear hw; go_simp; (try exact rfl))
  try go_frame
  refine LexRG.yes rfl (by first | rfl | (simp [Region.wanted, yielded]; done)) ?_ (fun w' hw => ?_) ?_
  rotate_left
  focus (have c0 := var_cell hw 5; clear hw; go_simp; (try exact rfl))
  try go_frame
  refine LexRG.yes rfl (by first | rfl | (simp [Region.wanted, yielded]; done)) ?_ (fun w' hw => ?_) ?_
  rotate_left
  focus (clear hw; go_simp; (try exact rfl))
  try go_frame
  refine LexRG.yes rfl (by first | rfl | (simp [Region.wanted, yielded]; done)) ?_ (fun w' hw => ?_) ?_
  rotate_left
  focus (have c0 := var_cell hw 6; clear hw; go_simp; (try exact rfl))
  try go_frame
  refine LexRG.yes rfl (by first | rfl | (simp [Region.wanted, yielded]; done)) ?_ (fun w' hw => ?_) ?_
  rotate_left
  focus (clear hw; go_simp; (try exact rfl))
  try go_frame
  refine LexRG.yes rfl (by first | rfl | (simp [Region.wanted, yielded]; done)) ?_ (fun w' hw => ?_) ?_
  rotate_left
  focus (have c0 := var_cell hw 7; clear hw; go_simp; (try exact rfl))
  try go_frame
  refine LexRG.nil ?_
  refine wpAnyL_one (i := 0) (by kernel_rfl) ?_
  refine lexA_get rfl ?_
  try go_frame
  go_wp2_with fail
  refine (octet_any 1 W0.drew).mono ?_
  rintro e V1 ⟨v0, rfl, o0, hb⟩
  obtain ⟨L0, hL0⟩ : ∃ L, [u8 1] = L := ⟨_, rfl⟩
  rw [hL0] at o0
  obtain ⟨A0, c0, rfl, _, _, r0, _⟩ := o0.shape
  have HL0 := Lib.hid hL0
  clear hL0 o0
  replace T := T.later hb
  clear hb
  go_wp2_with fail
  refine ⟨fun _ => T.out.2, ?_⟩
  refine wpAnyL_one (i := 3) (by kernel_rfl) ?_
  refine lexA_get rfl ?_
  try go_frame
  go_wp2_with fail
  refine (putWord_any none 0 x.sock [] V1 Reads.none_ (by simp)).mono ?_
  rintro e V2 ⟨v1, rfl, o1, hb⟩
  obtain ⟨L1, hL1⟩ : ∃ L, [] ++ wordBytes x.sock = L := ⟨_, rfl⟩
  rw [hL1] at o1
  obtain ⟨A1, c1, rfl, _, _, r1, _⟩ := o1.shape
  have HL1 := Lib.hid hL1
  clear hL1 o1
  replace r0 := (r0.below hb).more hb.size
  replace T := T.later hb
  clear hb
  go_wp2_with fail
  refine ⟨fun _ => T.out.2, ?_⟩
  refine wpAnyL_one (i := 6) (by kernel_rfl) ?_
  refine lexA_get rfl ?_
  try go_frame
  go_wp2_with fail
  refine (octet_any x.st V2).mono ?_
  rintro e V3 ⟨v2, rfl, o2, hb⟩
  obtain ⟨L2, hL2⟩ : ∃ L, [u8 x.st] = L := ⟨_, rfl⟩
  rw [hL2] at o2
  obtain ⟨A2, c2, rfl, _, _, r2, _⟩ := o2.shape
  have HL2 := Lib.hid hL2
  clear hL2 o2
  replace r0 := (r0.below hb).more hb.size
  replace r1 := (r1.below hb).more hb.size
  replace T := T.later hb
  clear hb
  go_wp2_with fail
  refine ⟨fun _ => T.out.2, ?_⟩
  refine wpAnyL_one (i := 9) (by kernel_rfl) ?_
  refine lexA_get rfl ?_
  try go_frame
  go_wp2_with fail
  refine (putText_any none 0 x.db [] V3 Reads.none_ (by simp) (by omega)).mono ?_
  rintro e V4 ⟨v3, rfl, o3, hb⟩
  obtain ⟨L3, hL3⟩ : ∃ L, ptB [] x.db.data.toList = L := ⟨_, rfl⟩
  rw [hL3] at o3
  obtain ⟨A3, c3, rfl, _, _, r3, _⟩ := o3.shape
  have HL3 := Lib.hid hL3
  clear hL3 o3
  replace r0 := (r0.below hb).more hb.size
  replace r1 := (r1.below hb).more hb.size
  replace r2 := (r2.below hb).more hb.size
  replace T := T.later hb
  clear hb
  go_wp2_with fail
  refine ⟨fun _ => T.out.2, ?_⟩
  refine wpAnyL_one (i := 12) (by kernel_rfl) ?_
  refine lexA_get rfl ?_
  try go_frame
  go_wp2_with fail
  refine (putWord_any none 0 x.ticket [] V4 Reads.none_ (by simp)).mono ?_
  rintro e V5 ⟨v4, rfl, o4, hb⟩
  obtain ⟨L4, hL4⟩ : ∃ L, [] ++ wordBytes x.ticket = L := ⟨_, rfl⟩
  rw [hL4] at o4
  obtain ⟨A4, c4, rfl, _, _, r4, _⟩ := o4.shape
  have HL4 := Lib.hid hL4
  clear hL4 o4
  replace r0 := (r0.below hb).more hb.size
  replace r1 := (r1.below hb).more hb.size
  replace r2 := (r2.below hb).more hb.size
  replace r3 := (r3.below hb).more hb.size
  replace T := T.later hb
  clear hb
  go_wp2_with fail
  refine ⟨fun _ => T.out.2, ?_⟩
  refine wpAnyL_one (i := 15) (by kernel_rfl) ?_
  refine lexA_get rfl ?_
  try go_frame
  go_wp2_with fail
  refine (moment_any x.since V5 h0 h1).mono ?_
  rintro e V6 ⟨v5, rfl, o5, hb⟩
  obtain ⟨L5, hL5⟩ : ∃ L, momB x.since = L := ⟨_, rfl⟩
  rw [hL5] at o5
  obtain ⟨A5, c5, rfl, _, _, r5, _⟩ := o5.shape
  have HL5 := Lib.hid hL5
  clear hL5 o5
  replace r0 := (r0.below hb).more hb.size
  replace r1 := (r1.below hb).more hb.size
  replace r2 := (r2.below hb).more hb.size
  replace r3 := (r3.below hb).more hb.size
  replace r4 := (r4.below hb).more hb.size
  replace T := T.later hb
  clear hb
  go_wp2_with fail
  refine ⟨fun _ => T.out.2, ?_⟩
  refine wpAnyL_one (i := 18) (by kernel_rfl) ?_
  refine lexA_get rfl ?_
  try go_frame
  go_wp2_with fail
  refine (putText_any none 0 x.q [] V6 Reads.none_ (by simp) (by omega)).mono ?_
  rintro e V7 ⟨v6, rfl, o6, hb⟩
  obtain ⟨L6, hL6⟩ : ∃ L, ptB [] x.q.data.toList = L := ⟨_, rfl⟩
  rw [hL6] at o6
  obtain ⟨A6, c6, rfl, _, _, r6, _⟩ := o6.shape
  have HL6 := Lib.hid hL6
  clear hL6 o6
  replace r0 := (r0.below hb).more hb.size
  replace r1 := (r1.below hb).more hb.size
  replace r2 := (r2.below hb).more hb.size
  replace r3 := (r3.below hb).more hb.size
  replace r4 := (r4.below hb).more hb.size
  replace r5 := (r5.below hb).more hb.size
  replace T := T.later hb
  clear hb
  go_wp2_with fail
  refine ⟨fun _ => T.out.2, ?_⟩
  refine wpAnyL_one (i := 21) (by kernel_rfl) ?_
  refine lexA_get rfl ?_
  try go_frame
  go_wp2_with fail
  refine (putWord_any none 0 x.line [] V7 Reads.none_ (by simp)).mono ?_
  rintro e V8 ⟨v7, rfl, o7, hb⟩
  obtain ⟨L7, hL7⟩ : ∃ L, [] ++ wordBytes x.line = L := ⟨_, rfl⟩
  rw [hL7] at o7
  obtain ⟨A7, c7, rfl, _, _, r7, _⟩ := o7.shape
  have HL7 := Lib.hid hL7
  clear hL7 o7
  replace r0 := (r0.below hb).more hb.size
  replace r1 := (r1.below hb).more hb.size
  replace r2 := (r2.below hb).more hb.size
  replace r3 := (r3.below hb).more hb.size
  replace r4 := (r4.below hb).more hb.size
  replace r5 := (r5.below hb).more hb.size
  replace r6 := (r6.below hb).more hb.size
  replace T := T.later hb
  clear hb
  go_wp2_with fail
  refine ⟨fun _ => T.out.2, ?_⟩
  refine wpAnyL_one (i := 24) (by kernel_rfl) ?_
  refine lexA_get rfl ?_
  try go_frame
  go_wp2_with fail
  refine (putWord_any none 0 x.lease [] V8 Reads.none_ (by simp)).mono ?_
  rintro e V9 ⟨v8, rfl, o8, hb⟩
  obtain ⟨L8, hL8⟩ : ∃ L, [] ++ wordBytes x.lease = L := ⟨_, rfl⟩
  rw [hL8] at o8
  obtain ⟨A8, c8, rfl, _, _, r8, _⟩ := o8.shape
  have HL8 := Lib.hid hL8
  clear hL8 o8
  replace r0 := (r0.below hb).more hb.size
  replace r1 := (r1.below hb).more hb.size
  replace r2 := (r2.below hb).more hb.size
  replace r3 := (r3.below hb).more hb.size
  replace r4 := (r4.below hb).more hb.size
  replace r5 := (r5.below hb).more hb.size
  replace r6 := (r6.below hb).more hb.size
  replace r7 := (r7.below hb).more hb.size
  replace T := T.later hb
  clear hb
  go_wp2_with fail
  refine ⟨fun _ => T.out.2, ?_⟩
  refine wpAnyL_one (i := 25) (by kernel_rfl) ?_
  refine lexA_get rfl ?_
  try go_frame
  go_wp2_with fail
  replace T := T.alloc (.cells #[.slice A0 L0.length c0, .slice A1 L1.length c1, .slice A2 L2.length c2, .slice A3 L3.length c3, .slice A4 L4.length c4, .slice A5 L5.length c5, .slice A6 L6.length c6, .slice A7 L7.length c7, .slice A8 L8.length c8] 22)
  have ha := Later.alloc V9 (.cells #[.slice A0 L0.length c0, .slice A1 L1.length c1, .slice A2 L2.length c2, .slice A3 L3.length c3, .slice A4 L4.length c4, .slice A5 L5.length c5, .slice A6 L6.length c6, .slice A7 L7.length c7, .slice A8 L8.length c8] 22)
  have hg := heap_alloc_new V9 (.cells #[.slice A0 L0.length c0, .slice A1 L1.length c1, .slice A2 L2.length c2, .slice A3 L3.length c3, .slice A4 L4.length c4, .slice A5 L5.length c5, .slice A6 L6.length c6, .slice A7 L7.length c7, .slice A8 L8.length c8] 22)
  replace r0 := (r0.below ha).more ha.size
  replace r1 := (r1.below ha).more ha.size
  replace r2 := (r2.below ha).more ha.size
  replace r3 := (r3.below ha).more ha.size
  replace r4 := (r4.below ha).more ha.size
  replace r5 := (r5.below ha).more ha.size
  replace r6 := (r6.below ha).more ha.size
  replace r7 := (r7.below ha).more ha.size
  replace r8 := (r8.below ha).more ha.size
  clear ha
  generalize V9.alloc (.cells #[.slice A0 L0.length c0, .slice A1 L1.length c1, .slice A2 L2.length c2, .slice A3 L3.length c3, .slice A4 L4.length c4, .slice A5 L5.length c5, .slice A6 L6.length c6, .slice A7 L7.length c7, .slice A8 L8.length c8] 22) = Wr at T r0 r1 r2 r3 r4 r5 r6 r7 r8 hg ⊢
  generalize V9.heap.size = E at hg ⊢
  have hp : PartsAt Wr Wr.heap.size [⟨A0, c0, L0⟩, ⟨A1, c1, L1⟩, ⟨A2, c2, L2⟩, ⟨A3, c3, L3⟩, ⟨A4, c4, L4⟩, ⟨A5, c5, L5⟩, ⟨A6, c6, L6⟩, ⟨A7, c7, L7⟩, ⟨A8, c8, L8⟩] := by
    intro p hp
    simp only [List.mem_cons, List.not_mem_nil, or_false] at hp
    rcases hp with rfl | rfl | rfl | rfl | rfl | rfl | rfl | rfl | rfl <;> assumption
  have he : partsL [⟨A0, c0, L0⟩, ⟨A1, c1, L1⟩, ⟨A2, c2, L2⟩, ⟨A3, c3, L3⟩, ⟨A4, c4, L4⟩, ⟨A5, c5, L5⟩, ⟨A6, c6, L6⟩, ⟨A7, c7, L7⟩, ⟨A8, c8, L8⟩] = akBytes x := by
    unfold partsL akBytes
    rw [← HL0.out, ← HL1.out, ← HL2.out, ← HL3.out, ← HL4.out, ← HL5.out, ← HL6.out, ← HL7.out, ← HL8.out]
    simp only [List.flatMap_cons, List.flatMap_nil, List.nil_append, List.append_nil]
  have HP := Lib.hid (And.intro hp (And.intro hg he))
  clear hp hg he
  refine ⟨fun _ => T.out.2, ?_⟩
  refine wpAnyL_one (i := 26) (by kernel_rfl) ?_
  refine lexA_get rfl ?_
  try go_frame
  go_wp2_with fail
  refine (partsJoined_any E _ [⟨A0, c0, L0⟩, ⟨A1, c1, L1⟩, ⟨A2, c2, L2⟩, ⟨A3, c3, L3⟩, ⟨A4, c4, L4⟩, ⟨A5, c5, L5⟩, ⟨A6, c6, L6⟩, ⟨A7, c7, L7⟩, ⟨A8, c8, L8⟩] 9 rfl Wr HP.out.2.1 HP.out.1 (by rw [HP.out.2.2]; exact hlen) (by decide)).mono ?_
  rw [HP.out.2.2]
  rintro e V10 ⟨v, rfl, o, hb⟩
  obtain ⟨A, c, rfl, _, _, _, _⟩ := o.shape
  have HO := Lib.hid (show Owns V10 w.heap.size 5 _ (akBytes x) from ownsRow_mono o T.out.1.size)
  clear o
  replace T := T.later hb
  clear hb
  go_wp2_with fail
  refine ⟨fun _ => T.out.2, ?_⟩
  refine wpAnyL_writes [27] (by kernel_rfl) (LexW.cons rfl ?_)
  try go_frame
  go_wp2_with fail
  refine ⟨fun _ => T.out.2, LexW.nil ?_⟩
  have hfin := T.out.1
  have HF := Lib.hid (show Owns V10 w.heap.size 5 _ (akBytes x) from HO.out)
  clear HO
  go_wp2_with fail
  go_ret
  exact ⟨_, rfl, HF.out, hfin⟩

def lnBytes (x : Ln) : List UInt8 := [u8 2] ++ (wordBytes x.sock ++ ([u8 x.st] ++ (ptB [] x.db.data.toList ++ (wordBytes x.gen ++ (momB x.since ++ (wordBytes x.asker ++ (wordBytes x.lease)))))))
theorem lnBytes_len (x : Ln) : (lnBytes x).length ≤ 220 := by
  have hdb := ptB_len [] x.db.data.toList
  unfold lnBytes wordBytes momB
  simp only [List.length_append, List.length_cons, List.length_nil, wordBytes] at *
  omega

set_option maxRecDepth 100000 in
set_option maxHeartbeats 8000000 in
theorem lineBytes_any (x : Ln) (w : World) (hs : FitsLn x) (h0 : 0 ≤ x.since) (h1 : x.since ≤ 100000) : Calls Try.prog 96 #[.agg (lnC x).toArray] w (RetOwn w (lnBytes x)) := by
  have hs1 : x.db.size ≤ 1048576 := hs
  clear hs
  have hlen : (lnBytes x).length ≤ 100000000 := Nat.le_trans (lnBytes_len x) (by decide)
  unfold RetOwn lnC
  go_enter Try.func96, Try.ntmps96
  go_upto_region 1 with (fail)
  have T : All (fun w' => Below w.heap.size w w' ∧ w'.heap[w.heap.size]? = some (.cells #[.int .i64 x.sock, .string x.db, .int .i64 x.gen, .int .i64 x.st, .int .i64 x.since, .int .i64 x.asker, .int .i64 x.lease] 52 (0, 0))) (w.alloc (.cells #[.int .i64 x.sock, .string x.db, .int .i64 x.gen, .int .i64 x.st, .int .i64 x.since, .int .i64 x.asker, .int .i64 x.lease] 52)) := ⟨Later.alloc w _, heap_alloc_new w _⟩
  generalize w.alloc (.cells #[.int .i64 x.sock, .string x.db, .int .i64 x.gen, .int .i64 x.st, .int .i64 x.since, .int .i64 x.asker, .int .i64 x.lease] 52) = W0 at T ⊢
  refine wp_region_open 100 (fun w' => w'.heap[w.heap.size]? = some (.cells #[.int .i64 x.sock, .string x.db, .int .i64 x.gen, .int .i64 x.st, .int .i64 x.since, .int .i64 x.asker, .int .i64 x.lease] 52 (0, 0))) (by kernel_rfl) ?_
  replace T := T.drew
  refine wpAnyL_readsG [1, 2, 4, 5, 7, 8, 10, 11, 13, 14, 16, 17, 19, 20] (fuel := 11) (by kernel_rfl) T.out.2 ?_
  refine LexRG.yes rfl (by first | rfl | (simp [Region.wanted, yielded]; done)) ?_ (fun w' hw => ?_) ?_
  rotate_left
  focus (clear hw; go_simp; (try exact rfl))
  try go_frame
  refine LexRG.yes rfl (by first | rfl | (simp [Region.wanted, yielded]; done)) ?_ (fun w' hw => ?_) ?_
  rotate_left
  focus (have c0 := var_cell hw 0; clear hw; go_simp; (try exact rfl))
  try go_frame
  refine LexRG.yes rfl (by first | rfl | (simp [Region.wanted, yielded]; done)) ?_ (fun w' hw => ?_) ?_
  rotate_left
  focus (clear hw; go_simp; (try exact rfl))
  try go_frame
  refine LexRG.yes rfl (by first | rfl | (simp [Region.wanted, yielded]; done)) ?_ (fun w' hw => ?_) ?_
  rotate_left
  focus (have c0 := var_cell hw 3; clear hw; go_simp; (try exact rfl))
  try go_frame
  refine LexRG.yes rfl (by first | rfl | (simp [Region.wanted, yielded]; done)) ?_ (fun w' hw => ?_) ?_
  rotate_left
  focus (clear hw; go_simp; (try exact rfl))
  try go_frame
  refine LexRG.yes rfl (by first | rfl | (simp [Region.wanted, yielded]; done)) ?_ (fun w' hw => ?_) ?_
  rotate_left
  focus (have c0 := var_cell hw 1; clear hw; go_simp; (try exact rfl))
  try go_frame
  refine LexRG.yes rfl (by first | rfl | (simp [Region.wanted, yielded]; done)) ?_ (fun w' hw => ?_) ?_
  rotate_left
  focus (clear hw; go_simp; (try exact rfl))
  try go_frame
  refine LexRG.yes rfl (by first | rfl | (simp [Region.wanted, yielded]; done)) ?_ (fun w' hw => ?_) ?_
  rotate_left
  focus (have c0 := var_cell hw 2; clear hw; go_simp; (try exact rfl))
  try go_frame
  refine LexRG.yes rfl (by first | rfl | (simp [Region.wanted, yielded]; done)) ?_ (fun w' hw => ?_) ?_
  rotate_left
  focus (clear hw; go_simp; (try exact rfl))
  try go_frame
  refine LexRG.yes rfl (by first | rfl | (simp [Region.wanted, yielded]; done)) ?_ (fun w' hw => ?_) ?_
  rotate_left
  focus (have c0 := var_cell hw 4; clear hw; go_simp; (try exact rfl))
  try go_frame
  refine LexRG.yes rfl (by first | rfl | (simp [Region.wanted, yielded]; done)) ?_ (fun w' hw => ?_) ?_
  rotate_left
  focus (clear hw; go_simp; (try exact rfl))
  try go_frame
  refine LexRG.yes rfl (by first | rfl | (simp [Region.wanted, yielded]; done)) ?_ (fun w' hw => ?_) ?_
  rotate_left
  focus (have c0 := var_cell hw 5; clear hw; go_simp; (try exact rfl))
  try go_frame
  refine LexRG.yes rfl (by first | rfl | (simp [Region.wanted, yielded]; done)) ?_ (fun w' hw => ?_) ?_
  rotate_left
  focus (clear hw; go_simp; (try exact rfl))
  try go_frame
  refine LexRG.yes rfl (by first | rfl | (simp [Region.wanted, yielded]; done)) ?_ (fun w' hw => ?_) ?_
  rotate_left
  focus (have c0 := var_cell hw 6; clear hw; go_simp; (try exact rfl))
  try go_frame
  refine LexRG.nil ?_
  refine wpAnyL_one (i := 0) (by kernel_rfl) ?_
  refine lexA_get rfl ?_
  try go_frame
  go_wp2_with fail
  refine (octet_any 2 W0.drew).mono ?_
  rintro e V1 ⟨v0, rfl, o0, hb⟩
  obtain ⟨L0, hL0⟩ : ∃ L, [u8 2] = L := ⟨_, rfl⟩
  rw [hL0] at o0
  obtain ⟨A0, c0, rfl, _, _, r0, _⟩ := o0.shape
  have HL0 := Lib.hid hL0
  clear hL0 o0
  replace T := T.later hb
  clear hb
  go_wp2_with fail
  refine ⟨fun _ => T.out.2, ?_⟩
  refine wpAnyL_one (i := 3) (by kernel_rfl) ?_
  refine lexA_get rfl ?_
  try go_frame
  go_wp2_with fail
  refine (putWord_any none 0 x.sock [] V1 Reads.none_ (by simp)).mono ?_
  rintro e V2 ⟨v1, rfl, o1, hb⟩
  obtain ⟨L1, hL1⟩ : ∃ L, [] ++ wordBytes x.sock = L := ⟨_, rfl⟩
  rw [hL1] at o1
  obtain ⟨A1, c1, rfl, _, _, r1, _⟩ := o1.shape
  have HL1 := Lib.hid hL1
  clear hL1 o1
  replace r0 := (r0.below hb).more hb.size
  replace T := T.later hb
  clear hb
  go_wp2_with fail
  refine ⟨fun _ => T.out.2, ?_⟩
  refine wpAnyL_one (i := 6) (by kernel_rfl) ?_
  refine lexA_get rfl ?_
  try go_frame
  go_wp2_with fail
  refine (octet_any x.st V2).mono ?_
  rintro e V3 ⟨v2, rfl, o2, hb⟩
  obtain ⟨L2, hL2⟩ : ∃ L, [u8 x.st] = L := ⟨_, rfl⟩
  rw [hL2] at o2
  obtain ⟨A2, c2, rfl, _, _, r2, _⟩ := o2.shape
  have HL2 := Lib.hid hL2
  clear hL2 o2
  replace r0 := (r0.below hb).more hb.size
  replace r1 := (r1.below hb).more hb.size
  replace T := T.later hb
  clear hb
  go_wp2_with fail
  refine ⟨fun _ => T.out.2, ?_⟩
  refine wpAnyL_one (i := 9) (by kernel_rfl) ?_
  refine lexA_get rfl ?_
  try go_frame
  go_wp2_with fail
  refine (putText_any none 0 x.db [] V3 Reads.none_ (by simp) (by omega)).mono ?_
  rintro e V4 ⟨v3, rfl, o3, hb⟩
  obtain ⟨L3, hL3⟩ : ∃ L, ptB [] x.db.data.toList = L := ⟨_, rfl⟩
  rw [hL3] at o3
  obtain ⟨A3, c3, rfl, _, _, r3, _⟩ := o3.shape
  have HL3 := Lib.hid hL3
  clear hL3 o3
  replace r0 := (r0.below hb).more hb.size
  replace r1 := (r1.below hb).more hb.size
  replace r2 := (r2.below hb).more hb.size
  replace T := T.later hb
  clear hb
  go_wp2_with fail
  refine ⟨fun _ => T.out.2, ?_⟩
  refine wpAnyL_one (i := 12) (by kernel_rfl) ?_
  refine lexA_get rfl ?_
  try go_frame
  go_wp2_with fail
  refine (putWord_any none 0 x.gen [] V4 Reads.none_ (by simp)).mono ?_
  rintro e V5 ⟨v4, rfl, o4, hb⟩
  obtain ⟨L4, hL4⟩ : ∃ L, [] ++ wordBytes x.gen = L := ⟨_, rfl⟩
  rw [hL4] at o4
  obtain ⟨A4, c4, rfl, _, _, r4, _⟩ := o4.shape
  have HL4 := Lib.hid hL4
  clear hL4 o4
  replace r0 := (r0.below hb).more hb.size
  replace r1 := (r1.below hb).more hb.size
  replace r2 := (r2.below hb).more hb.size
  replace r3 := (r3.below hb).more hb.size
  replace T := T.later hb
  clear hb
  go_wp2_with fail
  refine ⟨fun _ => T.out.2, ?_⟩
  refine wpAnyL_one (i := 15) (by kernel_rfl) ?_
  refine lexA_get rfl ?_
  try go_frame
  go_wp2_with fail
  refine (moment_any x.since V5 h0 h1).mono ?_
  rintro e V6 ⟨v5, rfl, o5, hb⟩
  obtain ⟨L5, hL5⟩ : ∃ L, momB x.since = L := ⟨_, rfl⟩
  rw [hL5] at o5
  obtain ⟨A5, c5, rfl, _, _, r5, _⟩ := o5.shape
  have HL5 := Lib.hid hL5
  clear hL5 o5
  replace r0 := (r0.below hb).more hb.size
  replace r1 := (r1.below hb).more hb.size
  replace r2 := (r2.below hb).more hb.size
  replace r3 := (r3.below hb).more hb.size
  replace r4 := (r4.below hb).more hb.size
  replace T := T.later hb
  clear hb
  go_wp2_with fail
  refine ⟨fun _ => T.out.2, ?_⟩
  refine wpAnyL_one (i := 18) (by kernel_rfl) ?_
  refine lexA_get rfl ?_
  try go_frame
  go_wp2_with fail
  refine (putWord_any none 0 x.asker [] V6 Reads.none_ (by simp)).mono ?_
  rintro e V7 ⟨v6, rfl, o6, hb⟩
  obtain ⟨L6, hL6⟩ : ∃ L, [] ++ wordBytes x.asker = L := ⟨_, rfl⟩
  rw [hL6] at o6
  obtain ⟨A6, c6, rfl, _, _, r6, _⟩ := o6.shape
  have HL6 := Lib.hid hL6
  clear hL6 o6
  replace r0 := (r0.below hb).more hb.size
  replace r1 := (r1.below hb).more hb.size
  replace r2 := (r2.below hb).more hb.size
  replace r3 := (r3.below hb).more hb.size
  replace r4 := (r4.below hb).more hb.size
  replace r5 := (r5.below hb).more hb.size
  replace T := T.later hb
  clear hb
  go_wp2_with fail
  refine ⟨fun _ => T.out.2, ?_⟩
  refine wpAnyL_one (i := 21) (by kernel_rfl) ?_
  refine lexA_get rfl ?_
  try go_frame
  go_wp2_with fail
  refine (putWord_any none 0 x.lease [] V7 Reads.none_ (by simp)).mono ?_
  rintro e V8 ⟨v7, rfl, o7, hb⟩
  obtain ⟨L7, hL7⟩ : ∃ L, [] ++ wordBytes x.lease = L := ⟨_, rfl⟩
  rw [hL7] at o7
  obtain ⟨A7, c7, rfl, _, _, r7, _⟩ := o7.shape
  have HL7 := Lib.hid hL7
  clear hL7 o7
  replace r0 := (r0.below hb).more hb.size
  replace r1 := (r1.below hb).more hb.size
  replace r2 := (r2.below hb).more hb.size
  replace r3 := (r3.below hb).more hb.size
  replace r4 := (r4.below hb).more hb.size
  replace r5 := (r5.below hb).more hb.size
  replace r6 := (r6.below hb).more hb.size
  replace T := T.later hb
  clear hb
  go_wp2_with fail
  refine ⟨fun _ => T.out.2, ?_⟩
  refine wpAnyL_one (i := 22) (by kernel_rfl) ?_
  refine lexA_get rfl ?_
  try go_frame
  go_wp2_with fail
  replace T := T.alloc (.cells #[.slice A0 L0.length c0, .slice A1 L1.length c1, .slice A2 L2.length c2, .slice A3 L3.length c3, .slice A4 L4.length c4, .slice A5 L5.length c5, .slice A6 L6.length c6, .slice A7 L7.length c7] 22)
  have ha := Later.alloc V8 (.cells #[.slice A0 L0.length c0, .slice A1 L1.length c1, .slice A2 L2.length c2, .slice A3 L3.length c3, .slice A4 L4.length c4, .slice A5 L5.length c5, .slice A6 L6.length c6, .slice A7 L7.length c7] 22)
  have hg := heap_alloc_new V8 (.cells #[.slice A0 L0.length c0, .slice A1 L1.length c1, .slice A2 L2.length c2, .slice A3 L3.length c3, .slice A4 L4.length c4, .slice A5 L5.length c5, .slice A6 L6.length c6, .slice A7 L7.length c7] 22)
  replace r0 := (r0.below ha).more ha.size
  replace r1 := (r1.below ha).more ha.size
  replace r2 := (r2.below ha).more ha.size
  replace r3 := (r3.below ha).more ha.size
  replace r4 := (r4.below ha).more ha.size
  replace r5 := (r5.below ha).more ha.size
  replace r6 := (r6.below ha).more ha.size
  replace r7 := (r7.below ha).more ha.size
  clear ha
  generalize V8.alloc (.cells #[.slice A0 L0.length c0, .slice A1 L1.length c1, .slice A2 L2.length c2, .slice A3 L3.length c3, .slice A4 L4.length c4, .slice A5 L5.length c5, .slice A6 L6.length c6, .slice A7 L7.length c7] 22) = Wr at T r0 r1 r2 r3 r4 r5 r6 r7 hg ⊢
  generalize V8.heap.size = E at hg ⊢
  have hp : PartsAt Wr Wr.heap.size [⟨A0, c0, L0⟩, ⟨A1, c1, L1⟩, ⟨A2, c2, L2⟩, ⟨A3, c3, L3⟩, ⟨A4, c4, L4⟩, ⟨A5, c5, L5⟩, ⟨A6, c6, L6⟩, ⟨A7, c7, L7⟩] := by
    intro p hp
    simp only [List.mem_cons, List.not_mem_nil, or_false] at hp
    rcases hp with rfl | rfl | rfl | rfl | rfl | rfl | rfl | rfl <;> assumption
  have he : partsL [⟨A0, c0, L0⟩, ⟨A1, c1, L1⟩, ⟨A2, c2, L2⟩, ⟨A3, c3, L3⟩, ⟨A4, c4, L4⟩, ⟨A5, c5, L5⟩, ⟨A6, c6, L6⟩, ⟨A7, c7, L7⟩] = lnBytes x := by
    unfold partsL lnBytes
    rw [← HL0.out, ← HL1.out, ← HL2.out, ← HL3.out, ← HL4.out, ← HL5.out, ← HL6.out, ← HL7.out]
    simp only [List.flatMap_cons, List.flatMap_nil, List.nil_append, List.append_nil]
  have HP := Lib.hid (And.intro hp (And.intro hg he))
  clear hp hg he
  refine ⟨fun _ => T.out.2, ?_⟩
  refine wpAnyL_one (i := 23) (by kernel_rfl) ?_
  refine lexA_get rfl ?_
  try go_frame
  go_wp2_with fail
  refine (partsJoined_any E _ [⟨A0, c0, L0⟩, ⟨A1, c1, L1⟩, ⟨A2, c2, L2⟩, ⟨A3, c3, L3⟩, ⟨A4, c4, L4⟩, ⟨A5, c5, L5⟩, ⟨A6, c6, L6⟩, ⟨A7, c7, L7⟩] 8 rfl Wr HP.out.2.1 HP.out.1 (by rw [HP.out.2.2]; exact hlen) (by decide)).mono ?_
  rw [HP.out.2.2]
  rintro e V9 ⟨v, rfl, o, hb⟩
  obtain ⟨A, c, rfl, _, _, _, _⟩ := o.shape
  have HO := Lib.hid (show Owns V9 w.heap.size 5 _ (lnBytes x) from ownsRow_mono o T.out.1.size)
  clear o
  replace T := T.later hb
  clear hb
  go_wp2_with fail
  refine ⟨fun _ => T.out.2, ?_⟩
  refine wpAnyL_writes [24] (by kernel_rfl) (LexW.cons rfl ?_)
  try go_frame
  go_wp2_with fail
  refine ⟨fun _ => T.out.2, LexW.nil ?_⟩
  have hfin := T.out.1
  have HF := Lib.hid (show Owns V9 w.heap.size 5 _ (lnBytes x) from HO.out)
  clear HO
  go_wp2_with fail
  go_ret
  exact ⟨_, rfl, HF.out, hfin⟩

end Go.Proofs.Ytgdhhhibkhfdlaa
