/- paired, hasLine, hasAsker, leasesOk and handOk of the program. (By gen_l10h.py.) -/
import Derived.Test.YtgdhhhibkhfdlaaHouseI1
import Derived.Test.YtgdhhhibkhfdlaaConfAt
import Derived.Test.YtgdhhhibkhfdlaaLexG
import Derived.Deep.Cut
namespace Go.Proofs.Ytgdhhhibkhfdlaa
open Go.RowKit
set_option linter.unusedVariables false
set_option linter.unusedSimpArgs false
set_option maxRecDepth 100000

def lentB (a : Ak) (y : Ln) : Bool := (((a.line == y.sock && y.asker == a.sock) && a.lease == y.lease) && (a.db.toList == y.db.toList)) && ((a.st == 3 && y.st == 1) || (a.st == 4 && y.st == 2))
theorem lentB_iff (a : Ak) (y : Ln) : lentB a y = true ↔ LentP a y := by
  unfold lentB LentP
  have hd : (a.db.toList == y.db.toList) = true ↔ a.db = y.db := ⟨fun h => str_eq h, fun h => by rw [h]; simp⟩
  simp only [Bool.and_eq_true, Bool.or_eq_true, hd, beq_iff_eq]
  constructor
  · rintro ⟨⟨⟨⟨h1, h2⟩, h3⟩, h4⟩, h5⟩
    exact ⟨⟨h1, h2, h3, h4⟩, h5⟩
  · rintro ⟨⟨h1, h2, h3, h4⟩, h5⟩
    exact ⟨⟨⟨⟨h1, h2⟩, h3⟩, h4⟩, h5⟩
theorem st34 (s : Int) : s = 3 ∨ s = 4 ∨ ((s == 3) = false ∧ (s == 4) = false) := by
  by_cases h3 : s = 3; · exact .inl h3
  by_cases h4 : s = 4; · exact .inr (.inl h4)
  exact .inr (.inr ⟨by simpa using h3, by simpa using h4⟩)

set_option maxHeartbeats 8000000 in
theorem paired_any (a : Ak) (y : Ln) (w : World) : Calls Try.prog 201 #[.agg (akC a).toArray, .agg (lnC y).toArray] w (RetBool w (lentB a y)) := by
  unfold akC lnC RetBool lentB
  have hb : Below w.heap.size w ((w.alloc (.cells #[.int .i64 a.sock, .string a.db, .int .i64 a.st, .int .i64 a.ticket, .int .i64 a.since, .string a.q, .int .i64 a.line, .int .i64 a.lease] 50)).alloc (.cells #[.int .i64 y.sock, .string y.db, .int .i64 y.gen, .int .i64 y.st, .int .i64 y.since, .int .i64 y.asker, .int .i64 y.lease] 52)) := Later.trans (Later.alloc w _) (Later.alloc _ _)
  have hV := (Below.heap_alloc (w.alloc (.cells #[.int .i64 a.sock, .string a.db, .int .i64 a.st, .int .i64 a.ticket, .int .i64 a.since, .string a.q, .int .i64 a.line, .int .i64 a.lease] 50)) (.cells #[.int .i64 y.sock, .string y.db, .int .i64 y.gen, .int .i64 y.st, .int .i64 y.since, .int .i64 y.asker, .int .i64 y.lease] 52) w.heap.size (by simp)).trans (heap_alloc_new w (.cells #[.int .i64 a.sock, .string a.db, .int .i64 a.st, .int .i64 a.ticket, .int .i64 a.since, .string a.q, .int .i64 a.line, .int .i64 a.lease] 50))
  have hU : ((w.alloc (.cells #[.int .i64 a.sock, .string a.db, .int .i64 a.st, .int .i64 a.ticket, .int .i64 a.since, .string a.q, .int .i64 a.line, .int .i64 a.lease] 50)).alloc (.cells #[.int .i64 y.sock, .string y.db, .int .i64 y.gen, .int .i64 y.st, .int .i64 y.since, .int .i64 y.asker, .int .i64 y.lease] 52)).heap[w.heap.size + 1]? = some (.cells #[.int .i64 y.sock, .string y.db, .int .i64 y.gen, .int .i64 y.st, .int .i64 y.since, .int .i64 y.asker, .int .i64 y.lease] 52 (0, 0)) := heap_alloc_new' _ _ (by simp)
  go_enter Try.func201, Try.ntmps201
  go_upto_region 1 with (fail)
  generalize (w.alloc (.cells #[.int .i64 a.sock, .string a.db, .int .i64 a.st, .int .i64 a.ticket, .int .i64 a.since, .string a.q, .int .i64 a.line, .int .i64 a.lease] 50)).alloc (.cells #[.int .i64 y.sock, .string y.db, .int .i64 y.gen, .int .i64 y.st, .int .i64 y.since, .int .i64 y.asker, .int .i64 y.lease] 52) = W1 at *
  have v0 := var_cell hV 0
  have v1 := var_cell hV 1
  have v2 := var_cell hV 2
  have v6 := var_cell hV 6
  have v7 := var_cell hV 7
  have u0 := var_cell hU 0
  have u1 := var_cell hU 1
  have u3 := var_cell hU 3
  have u5 := var_cell hU 5
  have u6 := var_cell hU 6
  rcases st34 a.st with hs | hs | ⟨hs3, hs4⟩
  · have s3 : (a.st == 3) = true := by simp [hs]
    have s4 : (a.st == 4) = false := by simp [hs]
    clear hs
    cases t5 : (y.st == 1)
    · skip
      go_wp2_with fail
      go_ret
      exact ⟨by (try simp only [s3, s4, t5, Bool.and_true, Bool.true_and, Bool.and_false, Bool.false_and, Bool.or_false, Bool.or_true, Bool.false_or]); exact rfl, hb⟩
    · skip
      cases t1 : (a.line == y.sock)
      · skip
        go_wp2_with fail
        go_ret
        exact ⟨by (try simp only [s3, s4, t5, t1, Bool.and_true, Bool.true_and, Bool.and_false, Bool.false_and, Bool.or_false, Bool.or_true, Bool.false_or]); exact rfl, hb⟩
      · skip
        cases t2 : (y.asker == a.sock)
        · skip
          go_wp2_with fail
          go_ret
          exact ⟨by (try simp only [s3, s4, t5, t1, t2, Bool.and_true, Bool.true_and, Bool.and_false, Bool.false_and, Bool.or_false, Bool.or_true, Bool.false_or]); exact rfl, hb⟩
        · skip
          cases t3 : (a.lease == y.lease)
          · skip
            go_wp2_with fail
            go_ret
            exact ⟨by (try simp only [s3, s4, t5, t1, t2, t3, Bool.and_true, Bool.true_and, Bool.and_false, Bool.false_and, Bool.or_false, Bool.or_true, Bool.false_or]); exact rfl, hb⟩
          · skip
            cases t4 : (a.db.toList == y.db.toList)
            · skip
              go_wp2_with fail
              go_ret
              exact ⟨by (try simp only [s3, s4, t5, t1, t2, t3, t4, Bool.and_true, Bool.true_and, Bool.and_false, Bool.false_and, Bool.or_false, Bool.or_true, Bool.false_or]); exact rfl, hb⟩
            · skip
              go_wp2_with fail
              go_ret
              exact ⟨by (try simp only [s3, s4, t5, t1, t2, t3, t4, Bool.and_true, Bool.true_and, Bool.and_false, Bool.false_and, Bool.or_false, Bool.or_true, Bool.false_or]); exact rfl, hb⟩
  · have s3 : (a.st == 3) = false := by simp [hs]
    have s4 : (a.st == 4) = true := by simp [hs]
    clear hs
    cases t6 : (y.st == 2)
    · skip
      go_wp2_with fail
      go_ret
      exact ⟨by (try simp only [s3, s4, t6, Bool.and_true, Bool.true_and, Bool.and_false, Bool.false_and, Bool.or_false, Bool.or_true, Bool.false_or]); exact rfl, hb⟩
    · skip
      cases t1 : (a.line == y.sock)
      · skip
        go_wp2_with fail
        go_ret
        exact ⟨by (try simp only [s3, s4, t6, t1, Bool.and_true, Bool.true_and, Bool.and_false, Bool.false_and, Bool.or_false, Bool.or_true, Bool.false_or]); exact rfl, hb⟩
      · skip
        cases t2 : (y.asker == a.sock)
        · skip
          go_wp2_with fail
          go_ret
          exact ⟨by (try simp only [s3, s4, t6, t1, t2, Bool.and_true, Bool.true_and, Bool.and_false, Bool.false_and, Bool.or_false, Bool.or_true, Bool.false_or]); exact rfl, hb⟩
        · skip
          cases t3 : (a.lease == y.lease)
          · skip
            go_wp2_with fail
            go_ret
            exact ⟨by (try simp only [s3, s4, t6, t1, t2, t3, Bool.and_true, Bool.true_and, Bool.and_false, Bool.false_and, Bool.or_false, Bool.or_true, Bool.false_or]); exact rfl, hb⟩
          · skip
            cases t4 : (a.db.toList == y.db.toList)
            · skip
              go_wp2_with fail
              go_ret
              exact ⟨by (try simp only [s3, s4, t6, t1, t2, t3, t4, Bool.and_true, Bool.true_and, Bool.and_false, Bool.false_and, Bool.or_false, Bool.or_true, Bool.false_or]); exact rfl, hb⟩
            · skip
              go_wp2_with fail
              go_ret
              exact ⟨by (try simp only [s3, s4, t6, t1, t2, t3, t4, Bool.and_true, Bool.true_and, Bool.and_false, Bool.false_and, Bool.or_false, Bool.or_true, Bool.false_or]); exact rfl, hb⟩
  · skip
    go_wp2_with fail
    go_ret
    exact ⟨by (try simp only [hs3, hs4, Bool.and_true, Bool.true_and, Bool.and_false, Bool.false_and, Bool.or_false, Bool.or_true, Bool.false_or]); exact rfl, hb⟩

theorem hasL_no {a : Ak} {ls : List Ln} (h : lnAtP ls a.line = -1) : pB (hasLP a ls) = false := pB_no (fun ⟨k, y, hk, _⟩ => by rw [h] at hk; omega)
theorem hasA_no {y : Ln} {as_ : List Ak} (h : akAtP as_ y.asker = -1) : pB (hasAP y as_) = false := pB_no (fun ⟨k, a, hk, _⟩ => by rw [h] at hk; omega)
theorem hasL_yes {a : Ak} {ls : List Ln} {i : Nat} {y : Ln} (h : lnAtP ls a.line = (i : Int)) (hy : ls[i]? = some y) : pB (hasLP a ls) = lentB a y := pB_of (by
  rw [lentB_iff]
  constructor
  · intro hl; exact ⟨i, y, h, hy, hl⟩
  · rintro ⟨k, z, hk, hz, hl⟩
    rw [h] at hk
    obtain rfl : i = k := by omega
    rw [hy] at hz
    injection hz with hz
    rw [hz]; exact hl)
theorem hasA_yes {y : Ln} {as_ : List Ak} {i : Nat} {a : Ak} (h : akAtP as_ y.asker = (i : Int)) (ha : as_[i]? = some a) : pB (hasAP y as_) = lentB a y := pB_of (by
  rw [lentB_iff]
  constructor
  · intro hl; exact ⟨i, a, h, ha, hl⟩
  · rintro ⟨k, z, hk, hz, hl⟩
    rw [h] at hk
    obtain rfl : i = k := by omega
    rw [ha] at hz
    injection hz with hz
    rw [hz]; exact hl)

set_option maxHeartbeats 8000000 in
theorem hasLine_any (a : Ak) (B : Option Addr) (d : Nat) (ls : List Ln) (w : World) (h : lnSR.at_ w w.heap.size [.slice B ls.length d] ls) (hn : ls.length ≤ 1048576) :
    Calls Try.prog 198 #[.agg (akC a).toArray, .slice B ls.length d] w (RetBool w (pB (hasLP a ls))) := by
  have S : All (fun w' => (Below w.heap.size w w' ∧ lnSR.at_ w' w'.heap.size [.slice B ls.length d] ls) ∧ w'.heap[w.heap.size]? = some (.cells #[.int .i64 a.sock, .string a.db, .int .i64 a.st, .int .i64 a.ticket, .int .i64 a.since, .string a.q, .int .i64 a.line, .int .i64 a.lease] 50 (0, 0))) (w.alloc (.cells #[.int .i64 a.sock, .string a.db, .int .i64 a.st, .int .i64 a.ticket, .int .i64 a.since, .string a.q, .int .i64 a.line, .int .i64 a.lease] 50)) := ⟨⟨Later.alloc w _, Rep.more lnSR (Rep.at_below h (Later.alloc w _)) (by simp)⟩, heap_alloc_new w _⟩
  clear h
  unfold RetBool akC
  have q6 := var_cell S.out.2 6
  go_enter Try.func198, Try.ntmps198
  go_wp2_with fail
  generalize w.alloc (.cells #[.int .i64 a.sock, .string a.db, .int .i64 a.st, .int .i64 a.ticket, .int .i64 a.since, .string a.q, .int .i64 a.line, .int .i64 a.lease] 50) = W1 at *
  refine (lnAt_any B d ls (a.line) W1 (lnS_rows S.out.1.2).2 (by omega)).mono ?_
  rintro e W2 ⟨he, hb⟩
  replace S := S.later hb
  clear hb q6
  rcases lnAt_cases ls (a.line) with hc | ⟨i, y, hy, hsid, hc⟩
  · have HE := Lib.hid (hasL_no hc)
    rw [show lnF (a.line) ls 0 = -1 from hc] at he
    subst he
    clear hc
    have T : All (fun w' => (Below w.heap.size w w' ∧ lnSR.at_ w' w'.heap.size [.slice B ls.length d] ls) ∧ w'.heap[w.heap.size]? = some (.cells #[.int .i64 a.sock, .string a.db, .int .i64 a.st, .int .i64 a.ticket, .int .i64 a.since, .string a.q, .int .i64 a.line, .int .i64 a.lease] 50 (0, 0))) W2 := S
    clear S
    go_upto_region 2 with (fail)
    refine wp_region_open 100 (fun w' => w'.heap[w.heap.size]? = some (.cells #[.int .i64 a.sock, .string a.db, .int .i64 a.st, .int .i64 a.ticket, .int .i64 a.since, .string a.q, .int .i64 a.line, .int .i64 a.lease] 50 (0, 0))) (by kernel_rfl) ?_
    replace T := T.drew
    refine wpAnyL_readsG [0, 1, 2, 3, 4, 5, 6, 7] (fuel := 3) (by kernel_rfl) T.out.2 ?_
    refine LexRG.yes rfl (by first | rfl | (simp [Region.wanted, yielded]; done)) ?_ (fun w' hw => ?_) ?_
    rotate_left
    focus (clear hw; go_simp; (try exact rfl))
    try go_frame
    refine LexRG.yes rfl (by first | rfl | (simp [Region.wanted, yielded]; done)) ?_ (fun w' hw => ?_) ?_
    rotate_left
    focus (clear hw; go_simp; (try exact rfl))
    try go_frame
    refine LexRG.yes rfl (by first | rfl | (simp [Region.wanted, yielded]; done)) ?_ (fun w' hw => ?_) ?_
    rotate_left
    focus (clear hw; go_simp; (try exact rfl))
    try go_frame
    refine LexRG.no rfl (by first | rfl | (simp [Region.wanted, yielded]; done)) ?_
    try go_frame
    refine LexRG.no rfl (by first | rfl | (simp [Region.wanted, yielded]; done)) ?_
    try go_frame
    refine LexRG.no rfl (by first | rfl | (simp [Region.wanted, yielded]; done)) ?_
    try go_frame
    refine LexRG.no rfl (by first | rfl | (simp [Region.wanted, yielded]; done)) ?_
    try go_frame
    refine LexRG.no rfl (by first | rfl | (simp [Region.wanted, yielded]; done)) ?_
    try go_frame
    refine LexRG.nil ?_
    refine wpAnyL_one (i := 8) (by kernel_rfl) ?_
    refine lexA_get rfl ?_
    try go_frame
    go_wp2_with fail
    refine ⟨fun _ => T.out.2, ?_⟩
    refine wpAnyL_readsG [9] (fuel := 1) (by kernel_rfl) T.out.2 ?_
    refine LexRG.yes rfl (by first | rfl | (simp [Region.wanted, yielded]; done)) ?_ (fun w' hw => ?_) ?_
    rotate_left
    focus (clear hw; go_simp; (try exact rfl))
    try go_frame
    refine LexRG.nil ?_
    refine wpAnyL_writes [10] (by kernel_rfl) (LexW.cons rfl ?_)
    try go_frame
    go_wp2_with fail
    refine ⟨fun _ => T.out.2, LexW.nil ?_⟩
    go_wp2_with fail
    go_ret
    exact ⟨by rw [HE.out]; exact rfl, T.out.1.1⟩
  · clear hsid
    have HE := Lib.hid (hasL_yes hc hy)
    rw [show lnF (a.line) ls 0 = (i : Int) from hc] at he
    subst he
    have hil : i < ls.length := (List.getElem?_eq_some_iff.1 hy).1
    obtain ⟨b, off, z, rfl, hbl, hz, e0, e1, e2, e3, e4, e5, e6⟩ := ln_elem (lnS_rows S.out.1.2).2 hil
    rw [hy] at hz
    injection hz with hz
    subst hz
    have i1 : (i : Int) < (ls.length : Int) := by omega
    have i2 : (0 : Int) ≤ (i : Int) := by omega
    have T : All (fun w' => (Below w.heap.size w w' ∧ lnSR.at_ w' w'.heap.size [.slice (some ⟨b, off, none⟩) ls.length d] ls) ∧ (w'.heap[w.heap.size]? = some (.cells #[.int .i64 a.sock, .string a.db, .int .i64 a.st, .int .i64 a.ticket, .int .i64 a.since, .string a.q, .int .i64 a.line, .int .i64 a.lease] 50 (0, 0)) ∧ (w'.cell? ⟨b, off + i * 7, none⟩ = some (.int .i64 y.sock) ∧ w'.cell? ⟨b, off + i * 7 + 1, none⟩ = some (.string y.db) ∧ w'.cell? ⟨b, off + i * 7 + 2, none⟩ = some (.int .i64 y.gen) ∧ w'.cell? ⟨b, off + i * 7 + 3, none⟩ = some (.int .i64 y.st) ∧ w'.cell? ⟨b, off + i * 7 + 4, none⟩ = some (.int .i64 y.since) ∧ w'.cell? ⟨b, off + i * 7 + 5, none⟩ = some (.int .i64 y.asker) ∧ w'.cell? ⟨b, off + i * 7 + 6, none⟩ = some (.int .i64 y.lease)))) W2 := ⟨S.out.1, S.out.2, e0, e1, e2, e3, e4, e5, e6⟩
    clear S hc hy hbl hil e0 e1 e2 e3 e4 e5 e6
    go_upto_region 2 with (fail)
    refine wp_region_open 100 (fun w' => w'.heap[w.heap.size]? = some (.cells #[.int .i64 a.sock, .string a.db, .int .i64 a.st, .int .i64 a.ticket, .int .i64 a.since, .string a.q, .int .i64 a.line, .int .i64 a.lease] 50 (0, 0)) ∧ (w'.cell? ⟨b, off + i * 7, none⟩ = some (.int .i64 y.sock) ∧ w'.cell? ⟨b, off + i * 7 + 1, none⟩ = some (.string y.db) ∧ w'.cell? ⟨b, off + i * 7 + 2, none⟩ = some (.int .i64 y.gen) ∧ w'.cell? ⟨b, off + i * 7 + 3, none⟩ = some (.int .i64 y.st) ∧ w'.cell? ⟨b, off + i * 7 + 4, none⟩ = some (.int .i64 y.since) ∧ w'.cell? ⟨b, off + i * 7 + 5, none⟩ = some (.int .i64 y.asker) ∧ w'.cell? ⟨b, off + i * 7 + 6, none⟩ = some (.int .i64 y.lease))) (by kernel_rfl) ?_
    replace T := T.drew
    refine wpAnyL_readsG [0, 1, 2, 3, 4, 5, 6, 7] (fuel := 3) (by kernel_rfl) T.out.2 ?_
    refine LexRG.yes rfl (by first | rfl | (simp [Region.wanted, yielded]; done)) ?_ (fun w' hw => ?_) ?_
    rotate_left
    focus (clear hw; go_simp; (try exact rfl))
    try go_frame
    refine LexRG.yes rfl (by first | rfl | (simp [Region.wanted, yielded]; done)) ?_ (fun w' hw => ?_) ?_
    rotate_left
    focus (clear hw; go_simp; (try exact rfl))
    try go_frame
    refine LexRG.yes rfl (by first | rfl | (simp [Region.wanted, yielded]; done)) ?_ (fun w' hw => ?_) ?_
    rotate_left
    focus (clear hw; go_simp; (try exact rfl))
    try go_frame
    refine LexRG.yes rfl (by first | rfl | (simp [Region.wanted, yielded]; done)) ?_ (fun w' hw => ?_) ?_
    rotate_left
    focus (have hw2 := hw.1; have q0 := var_cell hw2 0; have q1 := var_cell hw2 1; have q2 := var_cell hw2 2; have q3 := var_cell hw2 3; have q4 := var_cell hw2 4; have q5 := var_cell hw2 5; have q6 := var_cell hw2 6; have q7 := var_cell hw2 7; clear hw2; clear hw; go_simp; (try exact rfl))
    try go_frame
    refine LexRG.yes rfl (by first | rfl | (simp [Region.wanted, yielded]; done)) ?_ (fun w' hw => ?_) ?_
    rotate_left
    focus (clear hw; go_simp; (try exact rfl))
    try go_frame
    refine LexRG.yes rfl (by first | rfl | (simp [Region.wanted, yielded]; done)) ?_ (fun w' hw => ?_) ?_
    rotate_left
    focus (clear hw; go_simp; (try exact rfl))
    try go_frame
    refine LexRG.yes rfl (by first | rfl | (simp [Region.wanted, yielded]; done)) ?_ (fun w' hw => ?_) ?_
    rotate_left
    focus (clear hw; go_simp; (try exact rfl))
    try go_frame
    refine LexRG.yes rfl (by first | rfl | (simp [Region.wanted, yielded]; done)) ?_ (fun w' hw => ?_) ?_
    rotate_left
    focus (obtain ⟨e0, e1, e2, e3, e4, e5, e6⟩ := hw.2; clear hw; go_simp; (try exact rfl))
    try go_frame
    refine LexRG.nil ?_
    refine wpAnyL_one (i := 8) (by kernel_rfl) ?_
    refine lexA_get rfl ?_
    try go_frame
    go_wp2_with fail
    refine (paired_any a y W2.drew).mono ?_
    rintro e V1 ⟨rfl, hb⟩
    replace T := T.later hb
    clear hb
    go_wp2_with fail
    refine ⟨fun _ => T.out.2, ?_⟩
    refine wpAnyL_readsG [9] (fuel := 1) (by kernel_rfl) T.out.2 ?_
    refine LexRG.yes rfl (by first | rfl | (simp [Region.wanted, yielded]; done)) ?_ (fun w' hw => ?_) ?_
    rotate_left
    focus (clear hw; go_simp; (try exact rfl))
    try go_frame
    refine LexRG.nil ?_
    refine wpAnyL_writes [10] (by kernel_rfl) (LexW.cons rfl ?_)
    try go_frame
    go_wp2_with fail
    refine ⟨fun _ => T.out.2, LexW.nil ?_⟩
    go_wp2_with fail
    go_ret
    exact ⟨by rw [HE.out]; exact rfl, T.out.1.1⟩

set_option maxHeartbeats 8000000 in
theorem hasAsker_any (y : Ln) (B : Option Addr) (d : Nat) (as_ : List Ak) (w : World) (h : akSR.at_ w w.heap.size [.slice B as_.length d] as_) (hn : as_.length ≤ 1048576) :
    Calls Try.prog 199 #[.agg (lnC y).toArray, .slice B as_.length d] w (RetBool w (pB (hasAP y as_))) := by
  have S : All (fun w' => (Below w.heap.size w w' ∧ akSR.at_ w' w'.heap.size [.slice B as_.length d] as_) ∧ w'.heap[w.heap.size]? = some (.cells #[.int .i64 y.sock, .string y.db, .int .i64 y.gen, .int .i64 y.st, .int .i64 y.since, .int .i64 y.asker, .int .i64 y.lease] 52 (0, 0))) (w.alloc (.cells #[.int .i64 y.sock, .string y.db, .int .i64 y.gen, .int .i64 y.st, .int .i64 y.since, .int .i64 y.asker, .int .i64 y.lease] 52)) := ⟨⟨Later.alloc w _, Rep.more akSR (Rep.at_below h (Later.alloc w _)) (by simp)⟩, heap_alloc_new w _⟩
  clear h
  unfold RetBool lnC
  have q5 := var_cell S.out.2 5
  go_enter Try.func199, Try.ntmps199
  go_wp2_with fail
  generalize w.alloc (.cells #[.int .i64 y.sock, .string y.db, .int .i64 y.gen, .int .i64 y.st, .int .i64 y.since, .int .i64 y.asker, .int .i64 y.lease] 52) = W1 at *
  refine (akAt_any B d as_ (y.asker) W1 (akS_rows S.out.1.2).2 (by omega)).mono ?_
  rintro e W2 ⟨he, hb⟩
  replace S := S.later hb
  clear hb q5
  rcases akAt_cases as_ (y.asker) with hc | ⟨i, a, hy, hsid, hc⟩
  · have HE := Lib.hid (hasA_no hc)
    rw [show akF (y.asker) as_ 0 = -1 from hc] at he
    subst he
    clear hc
    have T : All (fun w' => (Below w.heap.size w w' ∧ akSR.at_ w' w'.heap.size [.slice B as_.length d] as_) ∧ w'.heap[w.heap.size]? = some (.cells #[.int .i64 y.sock, .string y.db, .int .i64 y.gen, .int .i64 y.st, .int .i64 y.since, .int .i64 y.asker, .int .i64 y.lease] 52 (0, 0))) W2 := S
    clear S
    go_upto_region 2 with (fail)
    refine wp_region_open 100 (fun w' => w'.heap[w.heap.size]? = some (.cells #[.int .i64 y.sock, .string y.db, .int .i64 y.gen, .int .i64 y.st, .int .i64 y.since, .int .i64 y.asker, .int .i64 y.lease] 52 (0, 0))) (by kernel_rfl) ?_
    replace T := T.drew
    refine wpAnyL_readsG [0, 1, 2, 3, 4, 5, 6, 7] (fuel := 3) (by kernel_rfl) T.out.2 ?_
    refine LexRG.yes rfl (by first | rfl | (simp [Region.wanted, yielded]; done)) ?_ (fun w' hw => ?_) ?_
    rotate_left
    focus (clear hw; go_simp; (try exact rfl))
    try go_frame
    refine LexRG.yes rfl (by first | rfl | (simp [Region.wanted, yielded]; done)) ?_ (fun w' hw => ?_) ?_
    rotate_left
    focus (clear hw; go_simp; (try exact rfl))
    try go_frame
    refine LexRG.yes rfl (by first | rfl | (simp [Region.wanted, yielded]; done)) ?_ (fun w' hw => ?_) ?_
    rotate_left
    focus (clear hw; go_simp; (try exact rfl))
    try go_frame
    refine LexRG.no rfl (by first | rfl | (simp [Region.wanted, yielded]; done)) ?_
    try go_frame
    refine LexRG.no rfl (by first | rfl | (simp [Region.wanted, yielded]; done)) ?_
    try go_frame
    refine LexRG.no rfl (by first | rfl | (simp [Region.wanted, yielded]; done)) ?_
    try go_frame
    refine LexRG.no rfl (by first | rfl | (simp [Region.wanted, yielded]; done)) ?_
    try go_frame
    refine LexRG.no rfl (by first | rfl | (simp [Region.wanted, yielded]; done)) ?_
    try go_frame
    refine LexRG.nil ?_
    refine wpAnyL_one (i := 8) (by kernel_rfl) ?_
    refine lexA_get rfl ?_
    try go_frame
    go_wp2_with fail
    refine ⟨fun _ => T.out.2, ?_⟩
    refine wpAnyL_readsG [9] (fuel := 1) (by kernel_rfl) T.out.2 ?_
    refine LexRG.yes rfl (by first | rfl | (simp [Region.wanted, yielded]; done)) ?_ (fun w' hw => ?_) ?_
    rotate_left
    focus (clear hw; go_simp; (try exact rfl))
    try go_frame
    refine LexRG.nil ?_
    refine wpAnyL_writes [10] (by kernel_rfl) (LexW.cons rfl ?_)
    try go_frame
    go_wp2_with fail
    refine ⟨fun _ => T.out.2, LexW.nil ?_⟩
    go_wp2_with fail
    go_ret
    exact ⟨by rw [HE.out]; exact rfl, T.out.1.1⟩
  · clear hsid
    have HE := Lib.hid (hasA_yes hc hy)
    rw [show akF (y.asker) as_ 0 = (i : Int) from hc] at he
    subst he
    have hil : i < as_.length := (List.getElem?_eq_some_iff.1 hy).1
    obtain ⟨b, off, z, rfl, hbl, hz, e0, e1, e2, e3, e4, e5, e6, e7⟩ := ak_elem (akS_rows S.out.1.2).2 hil
    rw [hy] at hz
    injection hz with hz
    subst hz
    have i1 : (i : Int) < (as_.length : Int) := by omega
    have i2 : (0 : Int) ≤ (i : Int) := by omega
    have T : All (fun w' => (Below w.heap.size w w' ∧ akSR.at_ w' w'.heap.size [.slice (some ⟨b, off, none⟩) as_.length d] as_) ∧ (w'.heap[w.heap.size]? = some (.cells #[.int .i64 y.sock, .string y.db, .int .i64 y.gen, .int .i64 y.st, .int .i64 y.since, .int .i64 y.asker, .int .i64 y.lease] 52 (0, 0)) ∧ (w'.cell? ⟨b, off + i * 8, none⟩ = some (.int .i64 a.sock) ∧ w'.cell? ⟨b, off + i * 8 + 1, none⟩ = some (.string a.db) ∧ w'.cell? ⟨b, off + i * 8 + 2, none⟩ = some (.int .i64 a.st) ∧ w'.cell? ⟨b, off + i * 8 + 3, none⟩ = some (.int .i64 a.ticket) ∧ w'.cell? ⟨b, off + i * 8 + 4, none⟩ = some (.int .i64 a.since) ∧ w'.cell? ⟨b, off + i * 8 + 5, none⟩ = some (.string a.q) ∧ w'.cell? ⟨b, off + i * 8 + 6, none⟩ = some (.int .i64 a.line) ∧ w'.cell? ⟨b, off + i * 8 + 7, none⟩ = some (.int .i64 a.lease)))) W2 := ⟨S.out.1, S.out.2, e0, e1, e2, e3, e4, e5, e6, e7⟩
    clear S hc hy hbl hil e0 e1 e2 e3 e4 e5 e6 e7
    go_upto_region 2 with (fail)
    refine wp_region_open 100 (fun w' => w'.heap[w.heap.size]? = some (.cells #[.int .i64 y.sock, .string y.db, .int .i64 y.gen, .int .i64 y.st, .int .i64 y.since, .int .i64 y.asker, .int .i64 y.lease] 52 (0, 0)) ∧ (w'.cell? ⟨b, off + i * 8, none⟩ = some (.int .i64 a.sock) ∧ w'.cell? ⟨b, off + i * 8 + 1, none⟩ = some (.string a.db) ∧ w'.cell? ⟨b, off + i * 8 + 2, none⟩ = some (.int .i64 a.st) ∧ w'.cell? ⟨b, off + i * 8 + 3, none⟩ = some (.int .i64 a.ticket) ∧ w'.cell? ⟨b, off + i * 8 + 4, none⟩ = some (.int .i64 a.since) ∧ w'.cell? ⟨b, off + i * 8 + 5, none⟩ = some (.string a.q) ∧ w'.cell? ⟨b, off + i * 8 + 6, none⟩ = some (.int .i64 a.line) ∧ w'.cell? ⟨b, off + i * 8 + 7, none⟩ = some (.int .i64 a.lease))) (by kernel_rfl) ?_
    replace T := T.drew
    refine wpAnyL_readsG [0, 1, 2, 3, 4, 5, 6, 7] (fuel := 3) (by kernel_rfl) T.out.2 ?_
    refine LexRG.yes rfl (by first | rfl | (simp [Region.wanted, yielded]; done)) ?_ (fun w' hw => ?_) ?_
    rotate_left
    focus (clear hw; go_simp; (try exact rfl))
    try go_frame
    refine LexRG.yes rfl (by first | rfl | (simp [Region.wanted, yielded]; done)) ?_ (fun w' hw => ?_) ?_
    rotate_left
    focus (clear hw; go_simp; (try exact rfl))
    try go_frame
    refine LexRG.yes rfl (by first | rfl | (simp [Region.wanted, yielded]; done)) ?_ (fun w' hw => ?_) ?_
    rotate_left
    focus (clear hw; go_simp; (try exact rfl))
    try go_frame
    refine LexRG.yes rfl (by first | rfl | (simp [Region.wanted, yielded]; done)) ?_ (fun w' hw => ?_) ?_
    rotate_left
    focus (clear hw; go_simp; (try exact rfl))
    try go_frame
    refine LexRG.yes rfl (by first | rfl | (simp [Region.wanted, yielded]; done)) ?_ (fun w' hw => ?_) ?_
    rotate_left
    focus (clear hw; go_simp; (try exact rfl))
    try go_frame
    refine LexRG.yes rfl (by first | rfl | (simp [Region.wanted, yielded]; done)) ?_ (fun w' hw => ?_) ?_
    rotate_left
    focus (clear hw; go_simp; (try exact rfl))
    try go_frame
    refine LexRG.yes rfl (by first | rfl | (simp [Region.wanted, yielded]; done)) ?_ (fun w' hw => ?_) ?_
    rotate_left
    focus (obtain ⟨e0, e1, e2, e3, e4, e5, e6, e7⟩ := hw.2; clear hw; go_simp; (try exact rfl))
    try go_frame
    refine LexRG.yes rfl (by first | rfl | (simp [Region.wanted, yielded]; done)) ?_ (fun w' hw => ?_) ?_
    rotate_left
    focus (have hw2 := hw.1; have q0 := var_cell hw2 0; have q1 := var_cell hw2 1; have q2 := var_cell hw2 2; have q3 := var_cell hw2 3; have q4 := var_cell hw2 4; have q5 := var_cell hw2 5; have q6 := var_cell hw2 6; clear hw2; clear hw; go_simp; (try exact rfl))
    try go_frame
    refine LexRG.nil ?_
    refine wpAnyL_one (i := 8) (by kernel_rfl) ?_
    refine lexA_get rfl ?_
    try go_frame
    go_wp2_with fail
    refine (paired_any a y W2.drew).mono ?_
    rintro e V1 ⟨rfl, hb⟩
    replace T := T.later hb
    clear hb
    go_wp2_with fail
    refine ⟨fun _ => T.out.2, ?_⟩
    refine wpAnyL_readsG [9] (fuel := 1) (by kernel_rfl) T.out.2 ?_
    refine LexRG.yes rfl (by first | rfl | (simp [Region.wanted, yielded]; done)) ?_ (fun w' hw => ?_) ?_
    rotate_left
    focus (clear hw; go_simp; (try exact rfl))
    try go_frame
    refine LexRG.nil ?_
    refine wpAnyL_writes [10] (by kernel_rfl) (LexW.cons rfl ?_)
    try go_frame
    go_wp2_with fail
    refine ⟨fun _ => T.out.2, LexW.nil ?_⟩
    go_wp2_with fail
    go_ret
    exact ⟨by rw [HE.out]; exact rfl, T.out.1.1⟩

end Go.Proofs.Ytgdhhhibkhfdlaa
