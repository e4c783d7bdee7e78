/- What the theorem needs, out of many texts. -/
import Derived.Test.YtaigdioimldknaaFar7
import Derived.Test.YtaigdioimldknaaFar8
import Derived.Deep.RegionWith
import Derived.Laws.BitsAllLaws
namespace Go.Proofs.Ytaigdioimldknaa
open Go.RowKit
set_option linter.unusedVariables false
theorem own_read {w : World} {base : Nat} {e : TypeId} {A : Option Addr} {c : Nat} {l : List UInt8} (h : Owns w base e (.slice A l.length c) l) : Reads w w.heap.size 1 A l.length (bys l) ∧ l.length ≤ c ∧ c ≤ maxLen := by
  obtain ⟨A', c', he, h1, h2, h3, _⟩ := h.shape
  injection he with e1 e2 e3
  subst e1 e3
  exact ⟨h3, h1, h2⟩
theorem sk_reads {w : World} {B : Nat} {x : Sk} {A4 A5 : Option Addr} {c4 c5 : Nat} (h : skR.at_ w B [.int .i64 x.id, .int .i64 x.kind, .int .i64 x.hold, .bool x.shut, .slice A4 x.inn.length c4, .slice A5 x.out.length c5, .int .i64 x.st, .int .i64 x.done] x) : (Reads w B 1 A4 x.inn.length (bys x.inn) ∧ x.inn.length ≤ c4 ∧ c4 ≤ maxLen) ∧ (Reads w B 1 A5 x.out.length (bys x.out) ∧ x.out.length ≤ c5 ∧ c5 ≤ maxLen) := by
  obtain ⟨B4, e4, B5, e5, he, k4, r4, k5, r5⟩ := sk_cells h
  simp at he
  obtain ⟨⟨rfl, rfl⟩, rfl, rfl⟩ := he
  exact ⟨⟨r4, k4⟩, r5, k5⟩
set_option maxRecDepth 100000 in
set_option maxHeartbeats 8000000 in
theorem walk_FnFar (a0 : Option Addr) (len0 cap0 : Nat) (z0 : List Int) (w : World) (w0 : IsRow .u8 w a0 len0 cap0 z0) :
    Calls Try.prog 4 #[.slice a0 len0 cap0] w fun e w' => e = .returned (.bool true) ∧ Below w.heap.size w w' := by
  obtain ⟨code, rfl, _, hr⟩ := w0.reads
  clear w0
  by_cases hbig : (1048576 : Int) < code.length
  · go_enter Try.func4, Try.ntmps4
    go_wp2_with (first | (go_at_call 12; go_in) | fail)
    go_ret
    exact ⟨rfl, Below.refl _ _⟩
  have hn : code.length ≤ 1048576 := by omega
  have HR := Lib.hid hr
  clear hr
  go_enter Try.func4, Try.ntmps4
  go_wp2_with (first | (go_at_call 12; go_in) | fail)
  refine (drawAnswer_any a0 cap0 code w HR.out hn).mono ?_
  rintro e W0 ⟨x, A4, c4, A5, c5, rfl, hsm, o4, o5, hap, hb⟩
  obtain ⟨r4, k4⟩ := own_read o4
  obtain ⟨r5, k5⟩ := own_read o5
  clear o4 o5 hap
  have HK := Lib.hid (And.intro k4 k5)
  have HS := Lib.hid (show RoomSk x from ⟨Nat.le_trans hsm.1 (by decide), Nat.le_trans hsm.2 (by decide)⟩)
  have S0 : All (fun w' => Below w.heap.size w w' ∧ (skR.at_ w' w'.heap.size [.int .i64 x.id, .int .i64 x.kind, .int .i64 x.hold, .bool x.shut, .slice A4 x.inn.length c4, .slice A5 x.out.length c5, .int .i64 x.st, .int .i64 x.done] x)) W0 := ⟨hb, sk_at k4 r4 k5 r5⟩
  have HSM := Lib.hid hsm
  clear hb r4 r5 k4 k5 hsm hn hbig
  go_wp2_with fail
  have S : All (fun w' => Below w.heap.size w w' ∧ (skR.at_ w' w'.heap.size [.int .i64 x.id, .int .i64 x.kind, .int .i64 x.hold, .bool x.shut, .slice A4 x.inn.length c4, .slice A5 x.out.length c5, .int .i64 x.st, .int .i64 x.done] x) ∧ (w'.heap[W0.heap.size]? = some (.cells #[.int .i64 x.id, .int .i64 x.kind, .int .i64 x.hold, .bool x.shut, .slice A4 x.inn.length c4, .slice A5 x.out.length c5, .int .i64 x.st, .int .i64 x.done] 25 (0, 0)))) (W0.alloc (.cells #[.int .i64 x.id, .int .i64 x.kind, .int .i64 x.hold, .bool x.shut, .slice A4 x.inn.length c4, .slice A5 x.out.length c5, .int .i64 x.st, .int .i64 x.done] 25)) := ⟨(S0.alloc _).out.1, (S0.alloc _).out.2, heap_alloc_new W0 _⟩
  clear S0
  generalize W0.alloc (.cells #[.int .i64 x.id, .int .i64 x.kind, .int .i64 x.hold, .bool x.shut, .slice A4 x.inn.length c4, .slice A5 x.out.length c5, .int .i64 x.st, .int .i64 x.done] 25) = W1 at S ⊢
  generalize W0.heap.size = D1 at S ⊢
  have q1 := S.out.2.2
  obtain ⟨⟨Y, ok⟩, hY⟩ : ∃ p, ansP x = p := ⟨_, rfl⟩
  have HY := Lib.hid hY
  clear hY
  go_wp2_with fail
  have C := answer_any [.int .i64 x.id, .int .i64 x.kind, .int .i64 x.hold, .bool x.shut, .slice A4 x.inn.length c4, .slice A5 x.out.length c5, .int .i64 x.st, .int .i64 x.done] x W1 S.out.2.1 HS.out
  rw [HY.out] at C
  refine C.mono ?_
  clear C
  rintro e W2 ⟨cs, fp, rfl, o, hb⟩
  obtain ⟨B4, d4, B5, d5, rfl⟩ := sk_own_shape o
  have S2 := (S.later hb)
  have T2 := Rep.reads skR o
  clear o hb S q1
  have S3 : All (fun w' => Below w.heap.size w w' ∧ (skR.at_ w' w'.heap.size [.int .i64 x.id, .int .i64 x.kind, .int .i64 x.hold, .bool x.shut, .slice A4 x.inn.length c4, .slice A5 x.out.length c5, .int .i64 x.st, .int .i64 x.done] x) ∧ (w'.heap[D1]? = some (.cells #[.int .i64 x.id, .int .i64 x.kind, .int .i64 x.hold, .bool x.shut, .slice A4 x.inn.length c4, .slice A5 x.out.length c5, .int .i64 x.st, .int .i64 x.done] 25 (0, 0))) ∧ (skR.at_ w' w'.heap.size [.int .i64 Y.id, .int .i64 Y.kind, .int .i64 Y.hold, .bool Y.shut, .slice B4 Y.inn.length d4, .slice B5 Y.out.length d5, .int .i64 Y.st, .int .i64 Y.done] Y) ∧ (w'.heap[W2.heap.size]? = some (.cells #[.int .i64 Y.id, .int .i64 Y.kind, .int .i64 Y.hold, .bool Y.shut, .slice B4 Y.inn.length d4, .slice B5 Y.out.length d5, .int .i64 Y.st, .int .i64 Y.done] 25 (0, 0)))) (W2.alloc (.cells #[.int .i64 Y.id, .int .i64 Y.kind, .int .i64 Y.hold, .bool Y.shut, .slice B4 Y.inn.length d4, .slice B5 Y.out.length d5, .int .i64 Y.st, .int .i64 Y.done] 25)) := ⟨(S2.alloc _).out.1, (S2.alloc _).out.2.1, (S2.alloc _).out.2.2, (All.alloc (F := fun w' => skR.at_ w' w'.heap.size [.int .i64 Y.id, .int .i64 Y.kind, .int .i64 Y.hold, .bool Y.shut, .slice B4 Y.inn.length d4, .slice B5 Y.out.length d5, .int .i64 Y.st, .int .i64 Y.done] Y) ⟨T2⟩ _).out, heap_alloc_new W2 _⟩
  have q1 := S3.out.2.2.1
  clear S2 T2
  have c1_0 := var_cell q1 0
  have c1_1 := var_cell q1 1
  have c1_2 := var_cell q1 2
  have c1_3 := var_cell q1 3
  have c1_4 := var_cell q1 4
  have c1_5 := var_cell q1 5
  have c1_6 := var_cell q1 6
  have c1_7 := var_cell q1 7
  go_wp2_with fail
  clear c1_0 c1_1 c1_2 c1_3 c1_4 c1_5 c1_6 c1_7
  clear q1
  generalize W2.alloc (.cells #[.int .i64 Y.id, .int .i64 Y.kind, .int .i64 Y.hold, .bool Y.shut, .slice B4 Y.inn.length d4, .slice B5 Y.out.length d5, .int .i64 Y.st, .int .i64 Y.done] 25) = W3 at S3 ⊢
  generalize W2.heap.size = D2 at S3 ⊢
  have C := answerS_any [.int .i64 x.id, .int .i64 x.kind, .int .i64 x.hold, .bool x.shut, .slice A4 x.inn.length c4, .slice A5 x.out.length c5, .int .i64 x.st, .int .i64 x.done] x W3 S3.out.2.1 HS.out
  rw [HY.out] at C
  refine C.mono ?_
  clear C
  rintro e W4 ⟨cs, fp, rfl, o, hb⟩
  obtain ⟨C4, e4, C5, e5, rfl⟩ := sk_own_shape o
  have S4 := (S3.later hb)
  have T4 := Rep.reads skR o
  clear o hb S3
  have S5 : All (fun w' => Below w.heap.size w w' ∧ (skR.at_ w' w'.heap.size [.int .i64 x.id, .int .i64 x.kind, .int .i64 x.hold, .bool x.shut, .slice A4 x.inn.length c4, .slice A5 x.out.length c5, .int .i64 x.st, .int .i64 x.done] x) ∧ (w'.heap[D1]? = some (.cells #[.int .i64 x.id, .int .i64 x.kind, .int .i64 x.hold, .bool x.shut, .slice A4 x.inn.length c4, .slice A5 x.out.length c5, .int .i64 x.st, .int .i64 x.done] 25 (0, 0))) ∧ (skR.at_ w' w'.heap.size [.int .i64 Y.id, .int .i64 Y.kind, .int .i64 Y.hold, .bool Y.shut, .slice B4 Y.inn.length d4, .slice B5 Y.out.length d5, .int .i64 Y.st, .int .i64 Y.done] Y) ∧ (w'.heap[D2]? = some (.cells #[.int .i64 Y.id, .int .i64 Y.kind, .int .i64 Y.hold, .bool Y.shut, .slice B4 Y.inn.length d4, .slice B5 Y.out.length d5, .int .i64 Y.st, .int .i64 Y.done] 25 (0, 0))) ∧ (skR.at_ w' w'.heap.size [.int .i64 Y.id, .int .i64 Y.kind, .int .i64 Y.hold, .bool Y.shut, .slice C4 Y.inn.length e4, .slice C5 Y.out.length e5, .int .i64 Y.st, .int .i64 Y.done] Y) ∧ (w'.heap[W4.heap.size]? = some (.cells #[.int .i64 Y.id, .int .i64 Y.kind, .int .i64 Y.hold, .bool Y.shut, .slice C4 Y.inn.length e4, .slice C5 Y.out.length e5, .int .i64 Y.st, .int .i64 Y.done] 25 (0, 0)))) (W4.alloc (.cells #[.int .i64 Y.id, .int .i64 Y.kind, .int .i64 Y.hold, .bool Y.shut, .slice C4 Y.inn.length e4, .slice C5 Y.out.length e5, .int .i64 Y.st, .int .i64 Y.done] 25)) := ⟨(S4.alloc _).out.1, (S4.alloc _).out.2.1, (S4.alloc _).out.2.2.1, (S4.alloc _).out.2.2.2.1, (S4.alloc _).out.2.2.2.2, (All.alloc (F := fun w' => skR.at_ w' w'.heap.size [.int .i64 Y.id, .int .i64 Y.kind, .int .i64 Y.hold, .bool Y.shut, .slice C4 Y.inn.length e4, .slice C5 Y.out.length e5, .int .i64 Y.st, .int .i64 Y.done] Y) ⟨T4⟩ _).out, heap_alloc_new W4 _⟩
  clear S4 T4
  have q1 := S5.out.2.2.1
  have q2 := S5.out.2.2.2.2.1
  have q3 := S5.out.2.2.2.2.2.2
  have c1_0 := var_cell q1 0
  have c1_1 := var_cell q1 1
  have c1_2 := var_cell q1 2
  have c1_3 := var_cell q1 3
  have c1_4 := var_cell q1 4
  have c1_5 := var_cell q1 5
  have c1_6 := var_cell q1 6
  have c1_7 := var_cell q1 7
  have c2_0 := var_cell q2 0
  have c2_1 := var_cell q2 1
  have c2_2 := var_cell q2 2
  have c2_3 := var_cell q2 3
  have c2_4 := var_cell q2 4
  have c2_5 := var_cell q2 5
  have c2_6 := var_cell q2 6
  have c2_7 := var_cell q2 7
  have c3_0 := var_cell q3 0
  have c3_1 := var_cell q3 1
  have c3_2 := var_cell q3 2
  have c3_3 := var_cell q3 3
  have c3_4 := var_cell q3 4
  have c3_5 := var_cell q3 5
  have c3_6 := var_cell q3 6
  have c3_7 := var_cell q3 7
  have nok : (ok != ok) = false := by simp
  go_wp2_with fail
  clear c1_0 c1_1 c1_2 c1_3 c1_4 c1_5 c1_6 c1_7
  clear c2_0 c2_1 c2_2 c2_3 c2_4 c2_5 c2_6 c2_7
  clear c3_0 c3_1 c3_2 c3_3 c3_4 c3_5 c3_6 c3_7
  clear q1 q2 q3
  generalize W4.alloc (.cells #[.int .i64 Y.id, .int .i64 Y.kind, .int .i64 Y.hold, .bool Y.shut, .slice C4 Y.inn.length e4, .slice C5 Y.out.length e5, .int .i64 Y.st, .int .i64 Y.done] 25) = W5 at S5 ⊢
  generalize W4.heap.size = D3 at S5 ⊢
  have R2 := sk_reads S5.out.2.2.2.1
  have R3 := sk_reads S5.out.2.2.2.2.2.1
  refine (sameSock_same B4 B5 C4 C5 d4 d5 e4 e5 Y W5 R2.1.1 R2.2.1 R3.1.1 R3.2.1).mono ?_
  rintro e W6 ⟨rfl, hb⟩
  have S6 := S5.later hb
  clear S5 hb R2 R3
  have q1 := S6.out.2.2.1
  have q2 := S6.out.2.2.2.2.1
  have c1_0 := var_cell q1 0
  have c1_1 := var_cell q1 1
  have c1_2 := var_cell q1 2
  have c1_3 := var_cell q1 3
  have c1_4 := var_cell q1 4
  have c1_5 := var_cell q1 5
  have c1_6 := var_cell q1 6
  have c1_7 := var_cell q1 7
  have c2_0 := var_cell q2 0
  have c2_1 := var_cell q2 1
  have c2_2 := var_cell q2 2
  have c2_3 := var_cell q2 3
  have c2_4 := var_cell q2 4
  have c2_5 := var_cell q2 5
  have c2_6 := var_cell q2 6
  have c2_7 := var_cell q2 7
  cases ok
  · go_wp2_with fail
    have R1 := sk_reads S6.out.2.1
    have R2 := sk_reads S6.out.2.2.2.1
    have e := ansP_no (x := x) (by rw [HY.out])
    rw [HY.out] at e
    replace e : Y = x := e
    subst e
    refine (sameSock_same B4 B5 A4 A5 d4 d5 c4 c5 Y W6 R2.1.1 R2.2.1 R1.1.1 R1.2.1).mono ?_
    rintro e W7 ⟨rfl, hb⟩
    have S7 := S6.later hb
    clear S6 hb R1 R2
    go_wp2_with fail
    go_ret
    exact ⟨rfl, S7.out.1⟩
  obtain ⟨f, a, b, n, d, hd, hdl, hg, hn1, hdn, hf, ha, hb, hb5, hYe, hbs, hx, hy, hlen⟩ := ansP_yes (x := x) (by rw [HY.out])
  rw [HY.out] at hYe hy
  replace hYe : Y = _ := hYe
  replace hy : skB Y = true := hy
  have hyd : Y.done = (d : Int) + (n : Int) := by rw [hYe]; show ((d + n : Nat) : Int) = _; omega
  have hyl : x.inn.length ≤ Y.inn.length := by rw [hYe]; show _ ≤ (x.inn ++ allB [a, b]).length; rw [List.length_append]; omega
  have hyo : Y.out = x.out := by rw [hYe]
  have hyr : RoomSk Y := by
    refine ⟨?_, by rw [hyo]; exact HS.out.2⟩
    rw [hYe]; show (x.inn ++ allB [a, b]).length ≤ _; rw [List.length_append]; omega
  have hyi : Y.inn.drop x.inn.length = allB [a, b] := by rw [hYe]; exact List.drop_left
  have hys : Y.st = repS x.st f := by rw [hYe]
  have HF := Lib.hid (And.intro hys (And.intro hb5 (And.intro hbs (And.intro ha (And.intro hb hyi)))))
  have HYR := Lib.hid hyr
  have HYO := Lib.hid hyo
  have HSY := Lib.hid hy
  have HLN := Lib.hid hyl
  have hol := HS.out.2
  obtain ⟨i0, hi0, hz0, hz1, hz2⟩ := info_parts Try.info8
  obtain ⟨A', rs, qs⟩ := slice_readsF Try.underlying22 hi0 hz1 (A := A5) (n := x.out.length) (c := c5) (lo := d) .i64 hdl HK.out.2.1
  have e1 : x.out.length - d = (x.out.drop d).length := List.length_drop.symm
  rw [e1] at rs qs
  obtain ⟨k, hk⟩ : ∃ k, c5 - d = k := ⟨_, rfl⟩
  have HC : Hid ((x.out.drop d).length ≤ k) := Lib.hid (by rw [← e1, ← hk]; have := HK.out.2.1; omega)
  have HL : Hid ((x.out.drop d).length ≤ 100000000) := Lib.hid (by rw [← e1]; omega)
  replace qs : ∀ {w : World} {B : Nat}, Reads w B 1 A5 x.out.length (bys x.out) → Reads w B 1 A' (x.out.drop d).length (bys (x.out.drop d)) := fun h => qs h
  rw [hk] at rs
  obtain ⟨m, hm⟩ : ∃ m, x.out.drop d = m := ⟨_, rfl⟩
  rw [hm] at rs qs HC HL hg
  have QS : Hid (∀ (w : World) (u : Unit), Reads w w.heap.size 1 A5 x.out.length (bys x.out) → Reads w w.heap.size 1 A' m.length (bys m)) := Lib.hid fun w _ h => qs h
  have HG := Lib.hid hg
  have hN : d + n ≤ 1048576 := by omega
  clear hk hm qs hg hYe hy hyl hyo hyr hyi hys hb5 hbs ha hb hx hlen e1 hdn
  obtain ⟨fk, fs, fst⟩ := f
  go_wp2_with fail
  have C := getFrame_any A' k m W6 (QS.out W6 () (sk_reads S6.out.2.1).2.1) HL.out HC.out
  rw [HG.out] at C
  refine C.mono ?_
  clear C rs
  rintro e W7 ⟨rfl, hb⟩
  have S7 := S6.later hb
  clear S6 hb q1 q2
  clear c1_0 c1_1 c1_2 c1_3 c1_4 c1_5 c1_6 c1_7
  clear c2_0 c2_1 c2_2 c2_3 c2_4 c2_5 c2_6 c2_7
  have S8 : All (fun w' => Below w.heap.size w w' ∧ (skR.at_ w' w'.heap.size [.int .i64 x.id, .int .i64 x.kind, .int .i64 x.hold, .bool x.shut, .slice A4 x.inn.length c4, .slice A5 x.out.length c5, .int .i64 x.st, .int .i64 x.done] x) ∧ (w'.heap[D1]? = some (.cells #[.int .i64 x.id, .int .i64 x.kind, .int .i64 x.hold, .bool x.shut, .slice A4 x.inn.length c4, .slice A5 x.out.length c5, .int .i64 x.st, .int .i64 x.done] 25 (0, 0))) ∧ (skR.at_ w' w'.heap.size [.int .i64 Y.id, .int .i64 Y.kind, .int .i64 Y.hold, .bool Y.shut, .slice B4 Y.inn.length d4, .slice B5 Y.out.length d5, .int .i64 Y.st, .int .i64 Y.done] Y) ∧ (w'.heap[D2]? = some (.cells #[.int .i64 Y.id, .int .i64 Y.kind, .int .i64 Y.hold, .bool Y.shut, .slice B4 Y.inn.length d4, .slice B5 Y.out.length d5, .int .i64 Y.st, .int .i64 Y.done] 25 (0, 0))) ∧ w'.heap[W7.heap.size]? = some (.cells #[.int .i64 fk, .string fs, .int .i64 fst] 33 (0, 0))) (W7.alloc (.cells #[.int .i64 fk, .string fs, .int .i64 fst] 33)) := ⟨(S7.alloc _).out.1, (S7.alloc _).out.2.1, (S7.alloc _).out.2.2.1, (S7.alloc _).out.2.2.2.1, (S7.alloc _).out.2.2.2.2.1, heap_alloc_new W7 _⟩
  clear S7
  unfold frC
  have q1 := S8.out.2.2.1
  have q2 := S8.out.2.2.2.2.1
  have c1_0 := var_cell q1 0
  have c1_1 := var_cell q1 1
  have c1_2 := var_cell q1 2
  have c1_3 := var_cell q1 3
  have c1_4 := var_cell q1 4
  have c1_5 := var_cell q1 5
  have c1_6 := var_cell q1 6
  have c1_7 := var_cell q1 7
  have c2_0 := var_cell q2 0
  have c2_1 := var_cell q2 1
  have c2_2 := var_cell q2 2
  have c2_3 := var_cell q2 3
  have c2_4 := var_cell q2 4
  have c2_5 := var_cell q2 5
  have c2_6 := var_cell q2 6
  have c2_7 := var_cell q2 7
  go_wp2_with fail
  clear c1_0 c1_1 c1_2 c1_3 c1_4 c1_5 c1_6 c1_7
  clear c2_0 c2_1 c2_2 c2_3 c2_4 c2_5 c2_6 c2_7
  clear q1 q2
  replace S8 : All (fun w' => Below w.heap.size w w' ∧ (skR.at_ w' w'.heap.size [.int .i64 x.id, .int .i64 x.kind, .int .i64 x.hold, .bool x.shut, .slice A4 x.inn.length c4, .slice A5 x.out.length c5, .int .i64 x.st, .int .i64 x.done] x) ∧ (w'.heap[D1]? = some (.cells #[.int .i64 x.id, .int .i64 x.kind, .int .i64 x.hold, .bool x.shut, .slice A4 x.inn.length c4, .slice A5 x.out.length c5, .int .i64 x.st, .int .i64 x.done] 25 (0, 0))) ∧ (skR.at_ w' w'.heap.size [.int .i64 Y.id, .int .i64 Y.kind, .int .i64 Y.hold, .bool Y.shut, .slice B4 Y.inn.length d4, .slice B5 Y.out.length d5, .int .i64 Y.st, .int .i64 Y.done] Y) ∧ (w'.heap[D2]? = some (.cells #[.int .i64 Y.id, .int .i64 Y.kind, .int .i64 Y.hold, .bool Y.shut, .slice B4 Y.inn.length d4, .slice B5 Y.out.length d5, .int .i64 Y.st, .int .i64 Y.done] 25 (0, 0))) ∧ w'.heap[W7.heap.size]? = some (.cells #[.int .i64 fk, .string fs, .int .i64 fst] 33 (0, 0))) (W7.alloc (.cells #[.int .i64 fk, .string fs, .int .i64 fst] 33)) := S8
  generalize W7.alloc (.cells #[.int .i64 fk, .string fs, .int .i64 fst] 33) = W8 at S8 ⊢
  generalize W7.heap.size = D4 at S8 ⊢
  rw [← hyd]
  clear hyd
  refine (sockOk_any [.int .i64 Y.id, .int .i64 Y.kind, .int .i64 Y.hold, .bool Y.shut, .slice B4 Y.inn.length d4, .slice B5 Y.out.length d5, .int .i64 Y.st, .int .i64 Y.done] Y W8 S8.out.2.2.2.1).mono ?_
  rintro e W9 ⟨rfl, hb⟩
  rw [HSY.out]
  have S9 := S8.later hb
  clear S8 hb
  have q1 := S9.out.2.2.1
  have q2 := S9.out.2.2.2.2.1
  have c1_0 := var_cell q1 0
  have c1_1 := var_cell q1 1
  have c1_2 := var_cell q1 2
  have c1_3 := var_cell q1 3
  have c1_4 := var_cell q1 4
  have c1_5 := var_cell q1 5
  have c1_6 := var_cell q1 6
  have c1_7 := var_cell q1 7
  have c2_0 := var_cell q2 0
  have c2_1 := var_cell q2 1
  have c2_2 := var_cell q2 2
  have c2_3 := var_cell q2 3
  have c2_4 := var_cell q2 4
  have c2_5 := var_cell q2 5
  have c2_6 := var_cell q2 6
  have c2_7 := var_cell q2 7
  go_wp2_with fail
  refine (same_any B5 A5 d5 c5 _ _ Y.out x.out W9 (sk_reads S9.out.2.2.2.1).2.1 (sk_reads S9.out.2.1).2.1).mono ?_
  rintro e W10 ⟨rfl, rfl⟩
  have e8 : (Y.out == x.out) = true := by rw [HYO.out]; simp
  rw [e8]
  have HLN2 := HLN.out
  obtain ⟨A2, rs, qs⟩ := slice_readsF Try.underlying22 hi0 hz1 (A := B4) (n := Y.inn.length) (c := d4) (lo := x.inn.length) .i64 HLN2 (sk_reads S9.out.2.2.2.1).1.2.1
  have e1 : Y.inn.length - x.inn.length = (Y.inn.drop x.inn.length).length := List.length_drop.symm
  rw [e1] at rs qs
  obtain ⟨k2, hk⟩ : ∃ k, d4 - x.inn.length = k := ⟨_, rfl⟩
  have HC2 : Hid ((Y.inn.drop x.inn.length).length ≤ k2) := Lib.hid (by rw [← e1, ← hk]; have := (sk_reads S9.out.2.2.2.1).1.2.1; omega)
  have HL2 : Hid ((Y.inn.drop x.inn.length).length ≤ 10000000) := Lib.hid (by rw [← e1]; have := HYR.out.1; omega)
  replace qs : ∀ {w : World} {B : Nat}, Reads w B 1 B4 Y.inn.length (bys Y.inn) → Reads w B 1 A2 (Y.inn.drop x.inn.length).length (bys (Y.inn.drop x.inn.length)) := fun h => qs h
  rw [hk] at rs
  obtain ⟨m2, hm⟩ : ∃ m, Y.inn.drop x.inn.length = m := ⟨_, rfl⟩
  rw [hm] at rs qs HC2 HL2
  have QS2 : Hid (∀ (w : World) (u : Unit), Reads w w.heap.size 1 B4 Y.inn.length (bys Y.inn) → Reads w w.heap.size 1 A2 m2.length (bys m2)) := Lib.hid fun w _ h => qs h
  have HG2 : Hid (frs m2 = ([a, b], 0)) := Lib.hid (by rw [← hm, HF.out.2.2.2.2.2]; exact frs_two HF.out.2.2.2.1 HF.out.2.2.2.2.1)
  have hil := HS.out.1
  have hyl2 := HYR.out.1
  clear hk hm qs e1
  go_wp2_with fail
  have C := frames_any A2 k2 m2 W9 (QS2.out W9 () (sk_reads S9.out.2.2.2.1).1.1) HL2.out HC2.out
  rw [HG2.out] at C
  refine C.mono ?_
  clear C rs
  rintro e W10 ⟨L1, l1, rfl, o, hb⟩
  have S10 := S9.later hb
  clear c1_0 c1_1 c1_2 c1_3 c1_4 c1_5 c1_6 c1_7
  clear c2_0 c2_1 c2_2 c2_3 c2_4 c2_5 c2_6 c2_7
  clear S9 q1 q2
  obtain ⟨bb, off, y, rfl, hbl, hy, c0, c1, c2⟩ := frS_elem (frS_own_at o) (show 1 < [a, b].length by simp)
  have hyb : b = y := by simpa using hy
  clear hy
  subst hyb
  have T : All (fun w' => Below w.heap.size w w' ∧ (w'.cell? ⟨bb, off + 3, none⟩ = some (.int .i64 b.k) ∧ w'.cell? ⟨bb, off + 3 + 2, none⟩ = some (.int .i64 b.st) ∧ (w'.heap[D1]? = some (.cells #[.int .i64 x.id, .int .i64 x.kind, .int .i64 x.hold, .bool x.shut, .slice A4 x.inn.length c4, .slice A5 x.out.length c5, .int .i64 x.st, .int .i64 x.done] 25 (0, 0))) ∧ (w'.heap[D2]? = some (.cells #[.int .i64 Y.id, .int .i64 Y.kind, .int .i64 Y.hold, .bool Y.shut, .slice B4 Y.inn.length d4, .slice B5 Y.out.length d5, .int .i64 Y.st, .int .i64 Y.done] 25 (0, 0))) ∧ w'.heap[D4]? = some (.cells #[.int .i64 fk, .string fs, .int .i64 fst] 33 (0, 0)))) W10 := ⟨S10.out.1, by simpa using c0, by simpa using c2, S10.out.2.2.1, S10.out.2.2.2.2.1, S10.out.2.2.2.2.2⟩
  clear S10 c0 c1 c2 o hb
  have k1 : (b.k != 5) = false := by rw [HF.out.2.1]; rfl
  have k2 : (b.st != Y.st) = false := by rw [HF.out.2.2.1, HF.out.1]; simp
  go_upto_region 14 with (fail)
  refine wp_region_open 100 (fun w' => w'.cell? ⟨bb, off + 3, none⟩ = some (.int .i64 b.k) ∧ w'.cell? ⟨bb, off + 3 + 2, none⟩ = some (.int .i64 b.st) ∧ (w'.heap[D1]? = some (.cells #[.int .i64 x.id, .int .i64 x.kind, .int .i64 x.hold, .bool x.shut, .slice A4 x.inn.length c4, .slice A5 x.out.length c5, .int .i64 x.st, .int .i64 x.done] 25 (0, 0))) ∧ (w'.heap[D2]? = some (.cells #[.int .i64 Y.id, .int .i64 Y.kind, .int .i64 Y.hold, .bool Y.shut, .slice B4 Y.inn.length d4, .slice B5 Y.out.length d5, .int .i64 Y.st, .int .i64 Y.done] 25 (0, 0))) ∧ w'.heap[D4]? = some (.cells #[.int .i64 fk, .string fs, .int .i64 fst] 33 (0, 0))) (by kernel_rfl) ?_
  replace T := T.drew
  refine wpAnyL_readsG [0, 1, 2, 3, 4, 5, 6, 7, 8, 9, 10, 11, 12, 13, 14, 15, 16, 17, 18, 19, 20, 21] (fuel := 1) (by kernel_rfl) T.out.2 ?_
  refine LexRG.yes rfl (by first | rfl | (simp [Region.wanted, yielded]; done)) ?_ (fun w' hw => ?_) ?_
  rotate_left
  focus (clear hw; go_simp; (try exact rfl))
  try go_frame
  refine LexRG.yes rfl (by first | rfl | (simp [Region.wanted, yielded]; done)) ?_ (fun w' hw => ?_) ?_
  rotate_left
  focus (clear hw; go_simp; (try exact rfl))
  try go_frame
  refine LexRG.yes rfl (by first | rfl | (simp [Region.wanted, yielded]; done)) ?_ (fun w' hw => ?_) ?_
  rotate_left
  focus (clear hw; go_simp; (try exact rfl))
  try go_frame
  refine LexRG.yes rfl (by first | rfl | (simp [Region.wanted, yielded]; done)) ?_ (fun w' hw => ?_) ?_
  rotate_left
  focus (clear hw; go_simp; (try exact rfl))
  try go_frame
  refine LexRG.yes rfl (by first | rfl | (simp [Region.wanted, yielded]; done)) ?_ (fun w' hw => ?_) ?_
  rotate_left
  focus (clear hw; go_simp; (try exact rfl))
  try go_frame
  refine LexRG.yes rfl (by first | rfl | (simp [Region.wanted, yielded]; done)) ?_ (fun w' hw => ?_) ?_
  rotate_left
  focus (clear hw; go_simp; (try exact rfl))
  try go_frame
  refine LexRG.yes rfl (by first | rfl | (simp [Region.wanted, yielded]; done)) ?_ (fun w' hw => ?_) ?_
  rotate_left
  focus (clear hw; go_simp; (try exact rfl))
  try go_frame
  refine LexRG.yes rfl (by first | rfl | (simp [Region.wanted, yielded]; done)) ?_ (fun w' hw => ?_) ?_
  rotate_left
  focus (clear hw; go_simp; (try exact rfl))
  try go_frame
  refine LexRG.yes rfl (by first | rfl | (simp [Region.wanted, yielded]; done)) ?_ (fun w' hw => ?_) ?_
  rotate_left
  focus (clear hw; go_simp; (try exact rfl))
  try go_frame
  refine LexRG.yes rfl (by first | rfl | (simp [Region.wanted, yielded]; done)) ?_ (fun w' hw => ?_) ?_
  rotate_left
  focus (clear hw; go_simp; (try exact rfl))
  try go_frame
  refine LexRG.yes rfl (by first | rfl | (simp [Region.wanted, yielded]; done)) ?_ (fun w' hw => ?_) ?_
  rotate_left
  focus (clear hw; go_simp; (try exact rfl))
  try go_frame
  refine LexRG.yes rfl (by first | rfl | (simp [Region.wanted, yielded]; done)) ?_ (fun w' hw => ?_) ?_
  rotate_left
  focus (have q0 := hw.1; have q1 := hw.2.1; clear hw; go_simp; (try exact rfl))
  try go_frame
  refine LexRG.yes rfl (by first | rfl | (simp [Region.wanted, yielded]; done)) ?_ (fun w' hw => ?_) ?_
  rotate_left
  focus (clear hw; go_simp; (try exact rfl))
  try go_frame
  refine LexRG.yes rfl (by first | rfl | (simp [Region.wanted, yielded]; done)) ?_ (fun w' hw => ?_) ?_
  rotate_left
  focus (clear hw; go_simp; (try exact rfl))
  try go_frame
  refine LexRG.yes rfl (by first | rfl | (simp [Region.wanted, yielded]; done)) ?_ (fun w' hw => ?_) ?_
  rotate_left
  focus (clear hw; go_simp; (try exact rfl))
  try go_frame
  refine LexRG.yes rfl (by first | rfl | (simp [Region.wanted, yielded]; done)) ?_ (fun w' hw => ?_) ?_
  rotate_left
  focus (clear hw; go_simp; (try exact rfl))
  try go_frame
  refine LexRG.yes rfl (by first | rfl | (simp [Region.wanted, yielded]; done)) ?_ (fun w' hw => ?_) ?_
  rotate_left
  focus (clear hw; go_simp; (try exact rfl))
  try go_frame
  refine LexRG.yes rfl (by first | rfl | (simp [Region.wanted, yielded]; done)) ?_ (fun w' hw => ?_) ?_
  rotate_left
  focus (clear hw; go_simp; (try exact rfl))
  try go_frame
  refine LexRG.yes rfl (by first | rfl | (simp [Region.wanted, yielded]; done)) ?_ (fun w' hw => ?_) ?_
  rotate_left
  focus (have q0 := hw.1; have q1 := hw.2.1; clear hw; go_simp; (try exact rfl))
  try go_frame
  refine LexRG.yes rfl (by first | rfl | (simp [Region.wanted, yielded]; done)) ?_ (fun w' hw => ?_) ?_
  rotate_left
  focus (clear hw; go_simp; (try exact rfl))
  try go_frame
  refine LexRG.yes rfl (by first | rfl | (simp [Region.wanted, yielded]; done)) ?_ (fun w' hw => ?_) ?_
  rotate_left
  focus (have q2 := var_cell hw.2.2.2.1 6; clear hw; go_simp; (try exact rfl))
  try go_frame
  refine LexRG.yes rfl (by first | rfl | (simp [Region.wanted, yielded]; done)) ?_ (fun w' hw => ?_) ?_
  rotate_left
  focus (clear hw; go_simp; (try exact rfl))
  try go_frame
  refine LexRG.nil ?_
  refine wpAnyL_writes [22] (by kernel_rfl) (LexW.cons rfl ?_)
  try go_frame
  go_wp2_with fail
  refine ⟨fun _ => T.out.2, LexW.nil ?_⟩
  go_wp2_with fail
  replace T := T
  generalize W10.drew = W11 at T ⊢
  by_cases hfk : fk = 2
  · have t1 : (fk != 2) = false := by simp [hfk]
    have t2 : (fk == 2) = true := by simp [hfk]
    have t3 : (Y.st == nextS x.st (wordQ fs)) = true := by rw [HF.out.1]; simp [repS, hfk]
    clear hfk
    go_upto_region 16 with (fail)
    refine wp_region_open 100 (fun w' => w'.cell? ⟨bb, off + 3, none⟩ = some (.int .i64 b.k) ∧ w'.cell? ⟨bb, off + 3 + 2, none⟩ = some (.int .i64 b.st) ∧ (w'.heap[D1]? = some (.cells #[.int .i64 x.id, .int .i64 x.kind, .int .i64 x.hold, .bool x.shut, .slice A4 x.inn.length c4, .slice A5 x.out.length c5, .int .i64 x.st, .int .i64 x.done] 25 (0, 0))) ∧ (w'.heap[D2]? = some (.cells #[.int .i64 Y.id, .int .i64 Y.kind, .int .i64 Y.hold, .bool Y.shut, .slice B4 Y.inn.length d4, .slice B5 Y.out.length d5, .int .i64 Y.st, .int .i64 Y.done] 25 (0, 0))) ∧ w'.heap[D4]? = some (.cells #[.int .i64 fk, .string fs, .int .i64 fst] 33 (0, 0))) (by kernel_rfl) ?_
    replace T := T.drew
    refine wpAnyL_readsG [0, 1, 2, 3, 4, 5, 6, 7, 8, 9, 10, 11, 12, 13, 14, 15, 16, 17, 18, 19, 20] (fuel := 6) (by kernel_rfl) T.out.2 ?_
    refine LexRG.yes rfl (by first | rfl | (simp [Region.wanted, yielded]; done)) ?_ (fun w' hw => ?_) ?_
    rotate_left
    focus (clear hw; go_simp; (try exact rfl))
    try go_frame
    refine LexRG.yes rfl (by first | rfl | (simp [Region.wanted, yielded]; done)) ?_ (fun w' hw => ?_) ?_
    rotate_left
    focus (have q2 := var_cell hw.2.2.2.2 0; clear hw; go_simp; (try exact rfl))
    try go_frame
    refine LexRG.yes rfl (by first | rfl | (simp [Region.wanted, yielded]; done)) ?_ (fun w' hw => ?_) ?_
    rotate_left
    focus (clear hw; go_simp; (try exact rfl))
    try go_frame
    refine LexRG.yes rfl (by first | rfl | (simp [Region.wanted, yielded]; done)) ?_ (fun w' hw => ?_) ?_
    rotate_left
    focus (clear hw; go_simp; (try exact rfl))
    try go_frame
    refine LexRG.no rfl (by first | rfl | (simp [Region.wanted, yielded]; done)) ?_
    try go_frame
    refine LexRG.no rfl (by first | rfl | (simp [Region.wanted, yielded]; done)) ?_
    try go_frame
    refine LexRG.no rfl (by first | rfl | (simp [Region.wanted, yielded]; done)) ?_
    try go_frame
    refine LexRG.no rfl (by first | rfl | (simp [Region.wanted, yielded]; done)) ?_
    try go_frame
    refine LexRG.no rfl (by first | rfl | (simp [Region.wanted, yielded]; done)) ?_
    try go_frame
    refine LexRG.yes rfl (by first | rfl | (simp [Region.wanted, yielded]; done)) ?_ (fun w' hw => ?_) ?_
    rotate_left
    focus (clear hw; go_simp; (try exact rfl))
    try go_frame
    refine LexRG.yes rfl (by first | rfl | (simp [Region.wanted, yielded]; done)) ?_ (fun w' hw => ?_) ?_
    rotate_left
    focus (clear hw; go_simp; (try exact rfl))
    try go_frame
    refine LexRG.yes rfl (by first | rfl | (simp [Region.wanted, yielded]; done)) ?_ (fun w' hw => ?_) ?_
    rotate_left
    focus (clear hw; go_simp; (try exact rfl))
    try go_frame
    refine LexRG.yes rfl (by first | rfl | (simp [Region.wanted, yielded]; done)) ?_ (fun w' hw => ?_) ?_
    rotate_left
    focus (have q2 := var_cell hw.2.2.2.2 0; clear hw; go_simp; (try exact rfl))
    try go_frame
    refine LexRG.yes rfl (by first | rfl | (simp [Region.wanted, yielded]; done)) ?_ (fun w' hw => ?_) ?_
    rotate_left
    focus (clear hw; go_simp; (try exact rfl))
    try go_frame
    refine LexRG.yes rfl (by first | rfl | (simp [Region.wanted, yielded]; done)) ?_ (fun w' hw => ?_) ?_
    rotate_left
    focus (clear hw; go_simp; (try exact rfl))
    try go_frame
    refine LexRG.yes rfl (by first | rfl | (simp [Region.wanted, yielded]; done)) ?_ (fun w' hw => ?_) ?_
    rotate_left
    focus (clear hw; go_simp; (try exact rfl))
    try go_frame
    refine LexRG.yes rfl (by first | rfl | (simp [Region.wanted, yielded]; done)) ?_ (fun w' hw => ?_) ?_
    rotate_left
    focus (have q2 := var_cell hw.2.2.2.1 6; clear hw; go_simp; (try exact rfl))
    try go_frame
    refine LexRG.yes rfl (by first | rfl | (simp [Region.wanted, yielded]; done)) ?_ (fun w' hw => ?_) ?_
    rotate_left
    focus (clear hw; go_simp; (try exact rfl))
    try go_frame
    refine LexRG.yes rfl (by first | rfl | (simp [Region.wanted, yielded]; done)) ?_ (fun w' hw => ?_) ?_
    rotate_left
    focus (have q2 := var_cell hw.2.2.1 6; clear hw; go_simp; (try exact rfl))
    try go_frame
    refine LexRG.yes rfl (by first | rfl | (simp [Region.wanted, yielded]; done)) ?_ (fun w' hw => ?_) ?_
    rotate_left
    focus (clear hw; go_simp; (try exact rfl))
    try go_frame
    refine LexRG.yes rfl (by first | rfl | (simp [Region.wanted, yielded]; done)) ?_ (fun w' hw => ?_) ?_
    rotate_left
    focus (have q2 := var_cell hw.2.2.2.2 1; clear hw; go_simp; (try exact rfl))
    try go_frame
    refine LexRG.nil ?_
    refine wpAnyL_one (i := 21) (by kernel_rfl) ?_
    refine lexA_get rfl ?_
    try go_frame
    go_wp2_with fail
    refine (wordOf_any fs W11.drew).mono ?_
    rintro e V1 ⟨rfl, rfl⟩
    go_wp2_with fail
    refine ⟨fun _ => T.out.2, ?_⟩
    refine wpAnyL_one (i := 22) (by kernel_rfl) ?_
    refine lexA_get rfl ?_
    try go_frame
    go_wp2_with fail
    refine (nextSt_any x.st (wordQ fs) W11.drew).mono ?_
    rintro e V2 ⟨rfl, rfl⟩
    go_wp2_with fail
    refine ⟨fun _ => T.out.2, ?_⟩
    refine wpAnyL_readsG [23, 24, 25] (fuel := 1) (by kernel_rfl) T.out.2 ?_
    refine LexRG.yes rfl (by first | rfl | (simp [Region.wanted, yielded]; done)) ?_ (fun w' hw => ?_) ?_
    rotate_left
    focus (clear hw; go_simp; (try exact rfl))
    try go_frame
    refine LexRG.yes rfl (by first | rfl | (simp [Region.wanted, yielded]; done)) ?_ (fun w' hw => ?_) ?_
    rotate_left
    focus (clear hw; go_simp; (try exact rfl))
    try go_frame
    refine LexRG.yes rfl (by first | rfl | (simp [Region.wanted, yielded]; done)) ?_ (fun w' hw => ?_) ?_
    rotate_left
    focus (clear hw; go_simp; (try exact rfl))
    try go_frame
    refine LexRG.nil ?_
    refine wpAnyL_writes [26] (by kernel_rfl) (LexW.cons rfl ?_)
    try go_frame
    go_wp2_with fail
    refine ⟨fun _ => T.out.2, LexW.nil ?_⟩
    have hfin := T.out.1
    go_wp2_with fail
    go_ret
    exact ⟨rfl, hfin⟩
  · have t1 : (fk != 2) = true := by simp [hfk]
    have t3 : (Y.st == x.st) = true := by rw [HF.out.1]; simp [repS, hfk]
    clear hfk
    go_upto_region 16 with (fail)
    refine wp_region_open 100 (fun w' => w'.cell? ⟨bb, off + 3, none⟩ = some (.int .i64 b.k) ∧ w'.cell? ⟨bb, off + 3 + 2, none⟩ = some (.int .i64 b.st) ∧ (w'.heap[D1]? = some (.cells #[.int .i64 x.id, .int .i64 x.kind, .int .i64 x.hold, .bool x.shut, .slice A4 x.inn.length c4, .slice A5 x.out.length c5, .int .i64 x.st, .int .i64 x.done] 25 (0, 0))) ∧ (w'.heap[D2]? = some (.cells #[.int .i64 Y.id, .int .i64 Y.kind, .int .i64 Y.hold, .bool Y.shut, .slice B4 Y.inn.length d4, .slice B5 Y.out.length d5, .int .i64 Y.st, .int .i64 Y.done] 25 (0, 0))) ∧ w'.heap[D4]? = some (.cells #[.int .i64 fk, .string fs, .int .i64 fst] 33 (0, 0))) (by kernel_rfl) ?_
    replace T := T.drew
    refine wpAnyL_readsG [0, 1, 2, 3, 4, 5, 6, 7, 8, 9, 10, 11, 12, 13, 14, 15, 16, 17, 18, 19, 20] (fuel := 6) (by kernel_rfl) T.out.2 ?_
    refine LexRG.yes rfl (by first | rfl | (simp [Region.wanted, yielded]; done)) ?_ (fun w' hw => ?_) ?_
    rotate_left
    focus (clear hw; go_simp; (try exact rfl))
    try go_frame
    refine LexRG.yes rfl (by first | rfl | (simp [Region.wanted, yielded]; done)) ?_ (fun w' hw => ?_) ?_
    rotate_left
    focus (have q2 := var_cell hw.2.2.2.2 0; clear hw; go_simp; (try exact rfl))
    try go_frame
    refine LexRG.yes rfl (by first | rfl | (simp [Region.wanted, yielded]; done)) ?_ (fun w' hw => ?_) ?_
    rotate_left
    focus (clear hw; go_simp; (try exact rfl))
    try go_frame
    refine LexRG.yes rfl (by first | rfl | (simp [Region.wanted, yielded]; done)) ?_ (fun w' hw => ?_) ?_
    rotate_left
    focus (clear hw; go_simp; (try exact rfl))
    try go_frame
    refine LexRG.yes rfl (by first | rfl | (simp [Region.wanted, yielded]; done)) ?_ (fun w' hw => ?_) ?_
    rotate_left
    focus (clear hw; go_simp; (try exact rfl))
    try go_frame
    refine LexRG.yes rfl (by first | rfl | (simp [Region.wanted, yielded]; done)) ?_ (fun w' hw => ?_) ?_
    rotate_left
    focus (have q2 := var_cell hw.2.2.2.1 6; clear hw; go_simp; (try exact rfl))
    try go_frame
    refine LexRG.yes rfl (by first | rfl | (simp [Region.wanted, yielded]; done)) ?_ (fun w' hw => ?_) ?_
    rotate_left
    focus (clear hw; go_simp; (try exact rfl))
    try go_frame
    refine LexRG.yes rfl (by first | rfl | (simp [Region.wanted, yielded]; done)) ?_ (fun w' hw => ?_) ?_
    rotate_left
    focus (have q2 := var_cell hw.2.2.1 6; clear hw; go_simp; (try exact rfl))
    try go_frame
    refine LexRG.yes rfl (by first | rfl | (simp [Region.wanted, yielded]; done)) ?_ (fun w' hw => ?_) ?_
    rotate_left
    focus (clear hw; go_simp; (try exact rfl))
    try go_frame
    refine LexRG.yes rfl (by first | rfl | (simp [Region.wanted, yielded]; done)) ?_ (fun w' hw => ?_) ?_
    rotate_left
    focus (clear hw; go_simp; (try exact rfl))
    try go_frame
    refine LexRG.yes rfl (by first | rfl | (simp [Region.wanted, yielded]; done)) ?_ (fun w' hw => ?_) ?_
    rotate_left
    focus (clear hw; go_simp; (try exact rfl))
    try go_frame
    refine LexRG.no rfl (by first | rfl | (simp [Region.wanted, yielded]; done)) ?_
    try go_frame
    refine LexRG.no rfl (by first | rfl | (simp [Region.wanted, yielded]; done)) ?_
    try go_frame
    refine LexRG.no rfl (by first | rfl | (simp [Region.wanted, yielded]; done)) ?_
    try go_frame
    refine LexRG.no rfl (by first | rfl | (simp [Region.wanted, yielded]; done)) ?_
    try go_frame
    refine LexRG.no rfl (by first | rfl | (simp [Region.wanted, yielded]; done)) ?_
    try go_frame
    refine LexRG.no rfl (by first | rfl | (simp [Region.wanted, yielded]; done)) ?_
    try go_frame
    refine LexRG.no rfl (by first | rfl | (simp [Region.wanted, yielded]; done)) ?_
    try go_frame
    refine LexRG.no rfl (by first | rfl | (simp [Region.wanted, yielded]; done)) ?_
    try go_frame
    refine LexRG.no rfl (by first | rfl | (simp [Region.wanted, yielded]; done)) ?_
    try go_frame
    refine LexRG.no rfl (by first | rfl | (simp [Region.wanted, yielded]; done)) ?_
    try go_frame
    refine LexRG.nil ?_
    refine wpAnyL_one (i := 21) (by kernel_rfl) ?_
    refine lexA_get rfl ?_
    try go_frame
    go_wp2_with fail
    refine ⟨fun _ => T.out.2, ?_⟩
    refine wpAnyL_one (i := 22) (by kernel_rfl) ?_
    refine lexA_get rfl ?_
    try go_frame
    go_wp2_with fail
    refine ⟨fun _ => T.out.2, ?_⟩
    refine wpAnyL_readsG [23, 24, 25] (fuel := 1) (by kernel_rfl) T.out.2 ?_
    refine LexRG.no rfl (by first | rfl | (simp [Region.wanted, yielded]; done)) ?_
    try go_frame
    refine LexRG.no rfl (by first | rfl | (simp [Region.wanted, yielded]; done)) ?_
    try go_frame
    refine LexRG.yes rfl (by first | rfl | (simp [Region.wanted, yielded]; done)) ?_ (fun w' hw => ?_) ?_
    rotate_left
    focus (clear hw; go_simp; (try exact rfl))
    try go_frame
    refine LexRG.nil ?_
    refine wpAnyL_writes [26] (by kernel_rfl) (LexW.cons rfl ?_)
    try go_frame
    go_wp2_with fail
    refine ⟨fun _ => T.out.2, LexW.nil ?_⟩
    have hfin := T.out.1
    go_wp2_with fail
    go_ret
    exact ⟨rfl, hfin⟩
end Go.Proofs.Ytaigdioimldknaa
