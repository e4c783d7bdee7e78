/- l10Lists of the model. (By gen_l10l.py.) -/
import Derived.Test.YtgdhhhibkhfdlaaHouseI1
import Derived.Test.YtgdhhhibkhfdlaaHeapI
import Derived.Test.YtgdhhhibkhfdlaaLexG
import Derived.Deep.Cut
import Derived.Deep.CutBlock
import Derived.BigQuiet
import Derived.Deep.QuietTactic
import Derived.IntWalk
namespace Go.Proofs.Ytgdhhhibkhfdlaa
open Go.RowKit
set_option linter.unusedVariables false
set_option linter.unusedSimpArgs false
set_option maxRecDepth 100000

theorem ak_elem_at {w : World} {B n k : Nat} {b off : Nat} {xs : List Ak} (h : Rep.RowsAt akR w B (some ⟨b, off, none⟩) n xs) (hk : k < n) : ∃ y, xs[k]? = some y ∧ w.cell? ⟨b, off + k * 8, none⟩ = some (.int .i64 y.sock) ∧ w.cell? ⟨b, off + k * 8 + 2, none⟩ = some (.int .i64 y.st) ∧ w.cell? ⟨b, off + k * 8 + 3, none⟩ = some (.int .i64 y.ticket) := by
  obtain ⟨b2, off2, y, he, hb, hy, e0, e1, e2, e3, _⟩ := ak_elem h hk
  simp only [Option.some.injEq, Addr.mk.injEq, and_true] at he
  obtain ⟨rfl, rfl⟩ := he
  exact ⟨y, hy, e0, e2, e3⟩
theorem ln_elem_at {w : World} {B n k : Nat} {b off : Nat} {xs : List Ln} (h : Rep.RowsAt lnR w B (some ⟨b, off, none⟩) n xs) (hk : k < n) : ∃ y, xs[k]? = some y ∧ w.cell? ⟨b, off + k * 7, none⟩ = some (.int .i64 y.sock) := by
  obtain ⟨b2, off2, y, he, hb, hy, e0, _⟩ := ln_elem h hk
  simp only [Option.some.injEq, Addr.mk.injEq, and_true] at he
  obtain ⟨rfl, rfl⟩ := he
  exact ⟨y, hy, e0⟩
/-- What the model asks of one client. -/
def AskC (x : Ho) (i : Nat) (y : Ak) : Prop := (akB y = true ∧ (∀ z, 0 < i → x.as_[i - 1]? = some z → z.sock < y.sock) ∧ lnAtP x.ls y.sock < 0)
def TikC (x : Ho) (i : Nat) (y : Ak) : Prop := y.st = 2 → y.ticket < x.ticket ∧ ∀ (j : Nat) z, j < i → x.as_[j]? = some z → ¬ (z.st = 2 ∧ z.ticket = y.ticket)
def LnC (x : Ho) (i : Nat) (y : Ln) : Prop := lnB y = true ∧ ∀ z, 0 < i → x.ls[i - 1]? = some z → z.sock < y.sock
theorem lists_iff (x : Ho) : ListsP x ↔ ((∀ i y, x.as_[i]? = some y → AskC x i y ∧ TikC x i y) ∧ (∀ i y, x.ls[i]? = some y → LnC x i y)) ∧ (x.as_.length ≤ 6 ∧ x.ls.length ≤ 9) ∧ (0 ≤ x.ticket ∧ x.ticket ≤ 65535) := by
  unfold ListsP AscA AscL ApartP TickP AskC TikC LnC
  constructor
  · rintro ⟨h1, h2, h3, h4, h5, h6, h7⟩
    exact ⟨⟨fun i y hy => ⟨⟨(h1 i y hy).1, (h1 i y hy).2, h3 i y hy⟩, h4 i y hy⟩, h2⟩, ⟨h5, h6⟩, h7⟩
  · rintro ⟨⟨h1, h2⟩, ⟨h5, h6⟩, h7⟩
    exact ⟨fun i y hy => ⟨(h1 i y hy).1.1, (h1 i y hy).1.2.1⟩, h2, fun i y hy => (h1 i y hy).1.2.2, fun i y hy => (h1 i y hy).2, h5, h6, h7⟩
theorem lists_badA {x : Ho} {k : Nat} {y : Ak} (hy : x.as_[k]? = some y) (h : ¬ AskC x k y) : pB (ListsP x) = false := pB_no (fun hp => h (((lists_iff x).1 hp).1.1 k y hy).1)
theorem lists_badT {x : Ho} {k : Nat} {y : Ak} (hy : x.as_[k]? = some y) (h : ¬ TikC x k y) : pB (ListsP x) = false := pB_no (fun hp => h (((lists_iff x).1 hp).1.1 k y hy).2)
theorem lists_badL {x : Ho} {k : Nat} {y : Ln} (hy : x.ls[k]? = some y) (h : ¬ LnC x k y) : pB (ListsP x) = false := pB_no (fun hp => h (((lists_iff x).1 hp).1.2 k y hy))

set_option maxHeartbeats 16000000 in
theorem lists_any (x : Ho) (A3 : Option Addr) (c3 : Nat) (A5 : Option Addr) (c5 : Nat) (A6 : Option Addr) (c6 : Nat) (w : World) (h5 : akSR.at_ w w.heap.size [.slice A5 x.as_.length c5] x.as_) (h6 : lnSR.at_ w w.heap.size [.slice A6 x.ls.length c6] x.ls) (hs : FitsHo x) :
    Calls Try.prog 126 #[.agg #[.int .i64 x.st, .int .i64 x.epoch, .int .i64 x.gen, .slice A3 x.conf.length c3, .bool x.paused, .slice A5 x.as_.length c5, .slice A6 x.ls.length c6, .int .i64 x.ticket, .int .i64 x.h.id, .int .i64 x.h.no, .int .i64 x.h.acked, .int .i64 x.h.since]] w (RetBool w (pB (ListsP x))) := by
  have HS := Lib.hid hs
  have hn5 : x.as_.length ≤ 1048576 := hs.2.1.1
  have hn6 : x.ls.length ≤ 1048576 := hs.2.2.1
  have hl6 : x.ls.length ≤ 9223372036854775807 := by omega
  have S : All (fun w' => ((Below w.heap.size w w' ∧ akSR.at_ w' w'.heap.size [.slice A5 x.as_.length c5] x.as_) ∧ lnSR.at_ w' w'.heap.size [.slice A6 x.ls.length c6] x.ls) ∧ w'.heap[w.heap.size]? = some (.cells #[.int .i64 x.st, .int .i64 x.epoch, .int .i64 x.gen, .slice A3 x.conf.length c3, .bool x.paused, .slice A5 x.as_.length c5, .slice A6 x.ls.length c6, .int .i64 x.ticket, .int .i64 x.h.id, .int .i64 x.h.no, .int .i64 x.h.acked, .int .i64 x.h.since] 70 (0, 0))) (w.alloc (.cells #[.int .i64 x.st, .int .i64 x.epoch, .int .i64 x.gen, .slice A3 x.conf.length c3, .bool x.paused, .slice A5 x.as_.length c5, .slice A6 x.ls.length c6, .int .i64 x.ticket, .int .i64 x.h.id, .int .i64 x.h.no, .int .i64 x.h.acked, .int .i64 x.h.since] 70)) :=
    ⟨⟨⟨Later.alloc w _, Rep.more akSR (Rep.at_below h5 (Later.alloc w _)) (by simp)⟩, Rep.more lnSR (Rep.at_below h6 (Later.alloc w _)) (by simp)⟩, heap_alloc_new w _⟩
  clear h5 h6 hs
  unfold RetBool
  go_enter Try.func126, Try.ntmps126
  go_wp2_with fail
  generalize w.alloc (.cells #[.int .i64 x.st, .int .i64 x.epoch, .int .i64 x.gen, .slice A3 x.conf.length c3, .bool x.paused, .slice A5 x.as_.length c5, .slice A6 x.ls.length c6, .int .i64 x.ticket, .int .i64 x.h.id, .int .i64 x.h.no, .int .i64 x.h.acked, .int .i64 x.h.since] 70) = W0 at *
  go_loopw [3] (fun i wr => ∃ k : Nat, k ≤ x.as_.length ∧ i = .int .i64 k ∧ Hid (∀ i y, i < k → x.as_[i]? = some y → AskC x i y ∧ TikC x i y) ∧ All (fun w' => ((Below w.heap.size w w' ∧ akSR.at_ w' w'.heap.size [.slice A5 x.as_.length c5] x.as_) ∧ lnSR.at_ w' w'.heap.size [.slice A6 x.ls.length c6] x.ls) ∧ w'.heap[w.heap.size]? = some (.cells #[.int .i64 x.st, .int .i64 x.epoch, .int .i64 x.gen, .slice A3 x.conf.length c3, .bool x.paused, .slice A5 x.as_.length c5, .slice A6 x.ls.length c6, .int .i64 x.ticket, .int .i64 x.h.id, .int .i64 x.h.no, .int .i64 x.h.acked, .int .i64 x.h.since] 70 (0, 0))) wr) (fun i _ => x.as_.length - (intOf i).toNat)
  case atStart => exact ⟨0, by omega, rfl, Lib.hid (fun i y hi => by omega), S⟩
  case round =>
    clear S
    obtain ⟨k, hk, rfl, HU, S⟩ := hrel
    have q5 := var_cell S.out.2 5
    by_cases hlt : k < x.as_.length
    · obtain ⟨b, off, y, rfl, hbl, hy, e0, e1, e2, e3, e4, e5, e6, e7⟩ := ak_elem (akS_rows S.out.1.1.2).2 hlt
      have HY := Lib.hid hy
      have HF := Lib.hid (HS.out.2.1.2 y (List.mem_of_getElem? hy))
      have S2 := S.alloc (.cells #[.int .i64 y.sock, .string y.db, .int .i64 y.st, .int .i64 y.ticket, .int .i64 y.since, .string y.q, .int .i64 y.line, .int .i64 y.lease] 50)
      have hv := heap_alloc_new wr (.cells #[.int .i64 y.sock, .string y.db, .int .i64 y.st, .int .i64 y.ticket, .int .i64 y.since, .string y.q, .int .i64 y.line, .int .i64 y.lease] 50)
      clear hy S
      go_upto_region 5 with (fail)
      clear e0 e1 e2 e3 e4 e5 e6 e7 q5
      generalize wr.alloc (.cells #[.int .i64 y.sock, .string y.db, .int .i64 y.st, .int .i64 y.ticket, .int .i64 y.since, .string y.q, .int .i64 y.line, .int .i64 y.lease] 50) = W1 at *
      generalize wr.heap.size = D at *
      obtain ⟨b9, hb9⟩ : ∃ b, akB y = b := ⟨_, rfl⟩
      have HB := Lib.hid hb9
      obtain ⟨n9, hn9⟩ : ∃ n, lnF y.sock x.ls 0 = n := ⟨_, rfl⟩
      have HN := Lib.hid hn9
      clear hb9 hn9
      obtain ⟨bad, hbad⟩ : ∃ b, pB (¬ AskC x k y) = b := ⟨_, rfl⟩
      have HBD := Lib.hid hbad
      clear hbad
      go_cut [45] from 19 to 45 (fun v W' => v = .bool bad ∧ ((Below w.heap.size w W' ∧ akSR.at_ W' W'.heap.size [.slice (some ⟨b, off, none⟩) x.as_.length c5] x.as_) ∧ lnSR.at_ W' W'.heap.size [.slice A6 x.ls.length c6] x.ls) ∧ W'.heap[w.heap.size]? = some (.cells #[.int .i64 x.st, .int .i64 x.epoch, .int .i64 x.gen, .slice A3 x.conf.length c3, .bool x.paused, .slice (some ⟨b, off, none⟩) x.as_.length c5, .slice A6 x.ls.length c6, .int .i64 x.ticket, .int .i64 x.h.id, .int .i64 x.h.no, .int .i64 x.h.acked, .int .i64 x.h.since] 70 (0, 0)) ∧ W'.heap[D]? = some (.cells #[.int .i64 y.sock, .string y.db, .int .i64 y.st, .int .i64 y.ticket, .int .i64 y.since, .string y.q, .int .i64 y.line, .int .i64 y.lease] 50 (0, 0)))
      case first =>
        rename_i J K1 hJ hK
        cases b9
        · skip
          obtain rfl : bad = true := by rw [← HBD.out]; exact pB_yes (fun h => by have := h.1; rw [HB.out] at this; cases this)
          have T : All (fun w' => ((Below w.heap.size w w' ∧ akSR.at_ w' w'.heap.size [.slice (some ⟨b, off, none⟩) x.as_.length c5] x.as_) ∧ lnSR.at_ w' w'.heap.size [.slice A6 x.ls.length c6] x.ls) ∧ (w'.heap[w.heap.size]? = some (.cells #[.int .i64 x.st, .int .i64 x.epoch, .int .i64 x.gen, .slice A3 x.conf.length c3, .bool x.paused, .slice (some ⟨b, off, none⟩) x.as_.length c5, .slice A6 x.ls.length c6, .int .i64 x.ticket, .int .i64 x.h.id, .int .i64 x.h.no, .int .i64 x.h.acked, .int .i64 x.h.since] 70 (0, 0)) ∧ w'.heap[D]? = some (.cells #[.int .i64 y.sock, .string y.db, .int .i64 y.st, .int .i64 y.ticket, .int .i64 y.since, .string y.q, .int .i64 y.line, .int .i64 y.lease] 50 (0, 0)))) W1 := ⟨S2.out.1, S2.out.2, hv⟩
          refine wp_region_open 100 (fun w' => w'.heap[w.heap.size]? = some (.cells #[.int .i64 x.st, .int .i64 x.epoch, .int .i64 x.gen, .slice A3 x.conf.length c3, .bool x.paused, .slice (some ⟨b, off, none⟩) x.as_.length c5, .slice A6 x.ls.length c6, .int .i64 x.ticket, .int .i64 x.h.id, .int .i64 x.h.no, .int .i64 x.h.acked, .int .i64 x.h.since] 70 (0, 0)) ∧ w'.heap[D]? = some (.cells #[.int .i64 y.sock, .string y.db, .int .i64 y.st, .int .i64 y.ticket, .int .i64 y.since, .string y.q, .int .i64 y.line, .int .i64 y.lease] 50 (0, 0))) (by kernel_rfl) ?_
          replace T := T.drew
          refine wpAnyL_readsG [0] (fuel := 26) (by kernel_rfl) T.out.2 ?_
          refine LexRG.yes rfl (by first | rfl | (simp [Region.wanted, yielded]; done)) ?_ (fun w' hw => ?_) ?_
          rotate_left
          focus (have hw3 := hw.2; have q0 := var_cell hw3 0; have q1 := var_cell hw3 1; have q2 := var_cell hw3 2; have q3 := var_cell hw3 3; have q4 := var_cell hw3 4; have q5 := var_cell hw3 5; have q6 := var_cell hw3 6; have q7 := var_cell hw3 7; clear hw3; clear hw; go_simp; (try exact rfl))
          try go_frame
          refine LexRG.nil ?_
          refine wpAnyL_one (i := 1) (by kernel_rfl) ?_
          refine lexA_get rfl ?_
          try go_frame
          go_wp2_with fail
          refine (askerOkS_rep (akC y) y W1.drew (ak_at _ _ _) HF.out).mono ?_
          rw [HB.out]
          rintro e V1 ⟨rfl, hb⟩
          replace T := T.later hb
          clear hb
          go_wp2_with fail
          refine ⟨fun _ => T.out.2, ?_⟩
          refine wpAnyL_readsG [2, 3, 4, 5, 6, 7, 8, 9, 10, 11, 12, 13, 14, 15, 16, 17, 18, 19, 20, 21, 22, 23] (fuel := 3) (by kernel_rfl) T.out.2 ?_
          refine LexRG.yes rfl (by first | rfl | (simp [Region.wanted, yielded]; done)) ?_ (fun w' hw => ?_) ?_
          rotate_left
          focus (clear hw; go_simp; (try exact rfl))
          try go_frame
          refine LexRG.yes rfl (by first | rfl | (simp [Region.wanted, yielded]; done)) ?_ (fun w' hw => ?_) ?_
          rotate_left
          focus (clear hw; go_simp; (try exact rfl))
          try go_frame
          refine LexRG.no rfl (by first | rfl | (simp [Region.wanted, yielded]; done)) ?_
          try go_frame
          refine LexRG.no rfl (by first | rfl | (simp [Region.wanted, yielded]; done)) ?_
          try go_frame
          refine LexRG.no rfl (by first | rfl | (simp [Region.wanted, yielded]; done)) ?_
          try go_frame
          refine LexRG.no rfl (by first | rfl | (simp [Region.wanted, yielded]; done)) ?_
          try go_frame
          refine LexRG.no rfl (by first | rfl | (simp [Region.wanted, yielded]; done)) ?_
          try go_frame
          refine LexRG.no rfl (by first | rfl | (simp [Region.wanted, yielded]; done)) ?_
          try go_frame
          refine LexRG.no rfl (by first | rfl | (simp [Region.wanted, yielded]; done)) ?_
          try go_frame
          refine LexRG.no rfl (by first | rfl | (simp [Region.wanted, yielded]; done)) ?_
          try go_frame
          refine LexRG.no rfl (by first | rfl | (simp [Region.wanted, yielded]; done)) ?_
          try go_frame
          refine LexRG.no rfl (by first | rfl | (simp [Region.wanted, yielded]; done)) ?_
          try go_frame
          refine LexRG.no rfl (by first | rfl | (simp [Region.wanted, yielded]; done)) ?_
          try go_frame
          refine LexRG.no rfl (by first | rfl | (simp [Region.wanted, yielded]; done)) ?_
          try go_frame
          refine LexRG.no rfl (by first | rfl | (simp [Region.wanted, yielded]; done)) ?_
          try go_frame
          refine LexRG.no rfl (by first | rfl | (simp [Region.wanted, yielded]; done)) ?_
          try go_frame
          refine LexRG.yes rfl (by first | rfl | (simp [Region.wanted, yielded]; done)) ?_ (fun w' hw => ?_) ?_
          rotate_left
          focus (clear hw; go_simp; (try exact rfl))
          try go_frame
          refine LexRG.yes rfl (by first | rfl | (simp [Region.wanted, yielded]; done)) ?_ (fun w' hw => ?_) ?_
          rotate_left
          focus (clear hw; go_simp; (try exact rfl))
          try go_frame
          refine LexRG.no rfl (by first | rfl | (simp [Region.wanted, yielded]; done)) ?_
          try go_frame
          refine LexRG.no rfl (by first | rfl | (simp [Region.wanted, yielded]; done)) ?_
          try go_frame
          refine LexRG.no rfl (by first | rfl | (simp [Region.wanted, yielded]; done)) ?_
          try go_frame
          refine LexRG.no rfl (by first | rfl | (simp [Region.wanted, yielded]; done)) ?_
          try go_frame
          refine LexRG.nil ?_
          refine wpAnyL_one (i := 24) (by kernel_rfl) ?_
          refine lexA_get rfl ?_
          try go_frame
          go_wp2_with fail
          refine ⟨fun _ => T.out.2, ?_⟩
          refine wpAnyL_readsG [25] (fuel := 1) (by kernel_rfl) T.out.2 ?_
          refine LexRG.no rfl (by first | rfl | (simp [Region.wanted, yielded]; done)) ?_
          try go_frame
          refine LexRG.nil ?_
          refine wpAnyL_writes [26] (by kernel_rfl) (LexW.cons rfl ?_)
          try go_frame
          go_wp2_with fail
          refine ⟨fun _ => T.out.2, LexW.nil ?_⟩
          refine hK _ _ (Met.intro (hJ _ _ ?_))
          (repeat apply Exists.intro)
          refine ⟨?_, rfl⟩
          exact ⟨rfl, T.out.1, T.out.2.1, T.out.2.2⟩
        · skip
          by_cases k0 : k = 0
          · subst k0
            have hbd : bad = decide (0 ≤ n9) := by
              rw [← HBD.out]; exact pB_of (by
                rw [decide_eq_true_eq]; unfold AskC lnAtP; rw [HB.out, HN.out]
                exact ⟨fun h h9 => by have := h9.2.2; omega, fun h => Int.not_lt.1 (fun h9 => h ⟨rfl, fun z h0 => by omega, h9⟩)⟩)
            have HBQ := Lib.hid hbd
            clear hbd
            have T : All (fun w' => ((Below w.heap.size w w' ∧ akSR.at_ w' w'.heap.size [.slice (some ⟨b, off, none⟩) x.as_.length c5] x.as_) ∧ lnSR.at_ w' w'.heap.size [.slice A6 x.ls.length c6] x.ls) ∧ (w'.heap[w.heap.size]? = some (.cells #[.int .i64 x.st, .int .i64 x.epoch, .int .i64 x.gen, .slice A3 x.conf.length c3, .bool x.paused, .slice (some ⟨b, off, none⟩) x.as_.length c5, .slice A6 x.ls.length c6, .int .i64 x.ticket, .int .i64 x.h.id, .int .i64 x.h.no, .int .i64 x.h.acked, .int .i64 x.h.since] 70 (0, 0)) ∧ w'.heap[D]? = some (.cells #[.int .i64 y.sock, .string y.db, .int .i64 y.st, .int .i64 y.ticket, .int .i64 y.since, .string y.q, .int .i64 y.line, .int .i64 y.lease] 50 (0, 0)))) W1 := ⟨S2.out.1, S2.out.2, hv⟩
            refine wp_region_open 100 (fun w' => w'.heap[w.heap.size]? = some (.cells #[.int .i64 x.st, .int .i64 x.epoch, .int .i64 x.gen, .slice A3 x.conf.length c3, .bool x.paused, .slice (some ⟨b, off, none⟩) x.as_.length c5, .slice A6 x.ls.length c6, .int .i64 x.ticket, .int .i64 x.h.id, .int .i64 x.h.no, .int .i64 x.h.acked, .int .i64 x.h.since] 70 (0, 0)) ∧ w'.heap[D]? = some (.cells #[.int .i64 y.sock, .string y.db, .int .i64 y.st, .int .i64 y.ticket, .int .i64 y.since, .string y.q, .int .i64 y.line, .int .i64 y.lease] 50 (0, 0))) (by kernel_rfl) ?_
            replace T := T.drew
            refine wpAnyL_readsG [0] (fuel := 26) (by kernel_rfl) T.out.2 ?_
            refine LexRG.yes rfl (by first | rfl | (simp [Region.wanted, yielded]; done)) ?_ (fun w' hw => ?_) ?_
            rotate_left
            focus (have hw3 := hw.2; have q0 := var_cell hw3 0; have q1 := var_cell hw3 1; have q2 := var_cell hw3 2; have q3 := var_cell hw3 3; have q4 := var_cell hw3 4; have q5 := var_cell hw3 5; have q6 := var_cell hw3 6; have q7 := var_cell hw3 7; clear hw3; clear hw; go_simp; (try exact rfl))
            try go_frame
            refine LexRG.nil ?_
            refine wpAnyL_one (i := 1) (by kernel_rfl) ?_
            refine lexA_get rfl ?_
            try go_frame
            go_wp2_with fail
            refine (askerOkS_rep (akC y) y W1.drew (ak_at _ _ _) HF.out).mono ?_
            rw [HB.out]
            rintro e V1 ⟨rfl, hb⟩
            replace T := T.later hb
            clear hb
            go_wp2_with fail
            refine ⟨fun _ => T.out.2, ?_⟩
            refine wpAnyL_readsG [2, 3, 4, 5, 6, 7, 8, 9, 10, 11, 12, 13, 14, 15, 16, 17, 18, 19, 20, 21, 22, 23] (fuel := 3) (by kernel_rfl) T.out.2 ?_
            refine LexRG.yes rfl (by first | rfl | (simp [Region.wanted, yielded]; done)) ?_ (fun w' hw => ?_) ?_
            rotate_left
            focus (clear hw; go_simp; (try exact rfl))
            try go_frame
            refine LexRG.yes rfl (by first | rfl | (simp [Region.wanted, yielded]; done)) ?_ (fun w' hw => ?_) ?_
            rotate_left
            focus (clear hw; go_simp; (try exact rfl))
            try go_frame
            refine LexRG.yes rfl (by first | rfl | (simp [Region.wanted, yielded]; done)) ?_ (fun w' hw => ?_) ?_
            rotate_left
            focus (clear hw; go_simp; (try exact rfl))
            try go_frame
            refine LexRG.yes rfl (by first | rfl | (simp [Region.wanted, yielded]; done)) ?_ (fun w' hw => ?_) ?_
            rotate_left
            focus (clear hw; go_simp; (try exact rfl))
            try go_frame
            refine LexRG.yes rfl (by first | rfl | (simp [Region.wanted, yielded]; done)) ?_ (fun w' hw => ?_) ?_
            rotate_left
            focus (clear hw; go_simp; (try exact rfl))
            try go_frame
            refine LexRG.no rfl (by first | rfl | (simp [Region.wanted, yielded]; done)) ?_
            try go_frame
            refine LexRG.no rfl (by first | rfl | (simp [Region.wanted, yielded]; done)) ?_
            try go_frame
            refine LexRG.no rfl (by first | rfl | (simp [Region.wanted, yielded]; done)) ?_
            try go_frame
            refine LexRG.no rfl (by first | rfl | (simp [Region.wanted, yielded]; done)) ?_
            try go_frame
            refine LexRG.no rfl (by first | rfl | (simp [Region.wanted, yielded]; done)) ?_
            try go_frame
            refine LexRG.no rfl (by first | rfl | (simp [Region.wanted, yielded]; done)) ?_
            try go_frame
            refine LexRG.no rfl (by first | rfl | (simp [Region.wanted, yielded]; done)) ?_
            try go_frame
            refine LexRG.no rfl (by first | rfl | (simp [Region.wanted, yielded]; done)) ?_
            try go_frame
            refine LexRG.no rfl (by first | rfl | (simp [Region.wanted, yielded]; done)) ?_
            try go_frame
            refine LexRG.no rfl (by first | rfl | (simp [Region.wanted, yielded]; done)) ?_
            try go_frame
            refine LexRG.yes rfl (by first | rfl | (simp [Region.wanted, yielded]; done)) ?_ (fun w' hw => ?_) ?_
            rotate_left
            focus (clear hw; go_simp; (try exact rfl))
            try go_frame
            refine LexRG.yes rfl (by first | rfl | (simp [Region.wanted, yielded]; done)) ?_ (fun w' hw => ?_) ?_
            rotate_left
            focus (clear hw; go_simp; (try exact rfl))
            try go_frame
            refine LexRG.yes rfl (by first | rfl | (simp [Region.wanted, yielded]; done)) ?_ (fun w' hw => ?_) ?_
            rotate_left
            focus (clear hw; go_simp; (try exact rfl))
            try go_frame
            refine LexRG.yes rfl (by first | rfl | (simp [Region.wanted, yielded]; done)) ?_ (fun w' hw => ?_) ?_
            rotate_left
            focus (clear hw; go_simp; (try exact rfl))
            try go_frame
            refine LexRG.yes rfl (by first | rfl | (simp [Region.wanted, yielded]; done)) ?_ (fun w' hw => ?_) ?_
            rotate_left
            focus (have hw2 := hw.1; have q6 := var_cell hw2 6; clear hw2; clear hw; go_simp; (try exact rfl))
            try go_frame
            refine LexRG.yes rfl (by first | rfl | (simp [Region.wanted, yielded]; done)) ?_ (fun w' hw => ?_) ?_
            rotate_left
            focus (clear hw; go_simp; (try exact rfl))
            try go_frame
            refine LexRG.yes rfl (by first | rfl | (simp [Region.wanted, yielded]; done)) ?_ (fun w' hw => ?_) ?_
            rotate_left
            focus (have hw3 := hw.2; have q0 := var_cell hw3 0; clear hw3; clear hw; go_simp; (try exact rfl))
            try go_frame
            refine LexRG.nil ?_
            refine wpAnyL_one (i := 24) (by kernel_rfl) ?_
            refine lexA_get rfl ?_
            try go_frame
            go_wp2_with fail
            refine (lnAtS_any A6 c6 x.ls y.sock V1 (lnS_rows T.out.1.2).2 hl6).mono ?_
            rw [HN.out]
            rintro e V2 ⟨rfl, hb⟩
            replace T := T.later hb
            clear hb
            go_wp2_with fail
            refine ⟨fun _ => T.out.2, ?_⟩
            refine wpAnyL_readsG [25] (fuel := 1) (by kernel_rfl) T.out.2 ?_
            refine LexRG.yes rfl (by first | rfl | (simp [Region.wanted, yielded]; done)) ?_ (fun w' hw => ?_) ?_
            rotate_left
            focus (clear hw; go_simp; (try exact rfl))
            try go_frame
            refine LexRG.nil ?_
            refine wpAnyL_writes [26] (by kernel_rfl) (LexW.cons rfl ?_)
            try go_frame
            go_wp2_with fail
            refine ⟨fun _ => T.out.2, LexW.nil ?_⟩
            refine hK _ _ (Met.intro (hJ _ _ ?_))
            (repeat apply Exists.intro)
            refine ⟨?_, rfl⟩
            exact ⟨by rw [HBQ.out], T.out.1, T.out.2.1, T.out.2.2⟩
          · obtain ⟨m, rfl⟩ : ∃ m, k = m + 1 := ⟨k - 1, by omega⟩
            obtain ⟨z, hz, hz0, _, _⟩ := ak_elem_at (akS_rows S2.out.1.1.2).2 (show m < x.as_.length by omega)
            have HZ := Lib.hid hz
            have wm : IntKind.i64.wrap (m : Int) = (m : Int) := IntWalk.i64_in _ (by omega)
            have wt : ((m : Nat) : Int).toNat = m := by simp
            have m1 : (m : Int) < (x.as_.length : Int) := by omega
            have m2 : decide ((0 : Int) < (m : Int) + 1) = true := by (simp; try omega)
            by_cases hzy : y.sock ≤ z.sock
            · have t1 : decide (y.sock ≤ z.sock) = true := by simp [hzy]
              obtain rfl : bad = true := by rw [← HBD.out]; exact pB_yes (fun h => by have := h.2.1 z (by omega) HZ.out; omega)
              clear hzy hz k0 hlt hk
              have T : All (fun w' => ((Below w.heap.size w w' ∧ akSR.at_ w' w'.heap.size [.slice (some ⟨b, off, none⟩) x.as_.length c5] x.as_) ∧ lnSR.at_ w' w'.heap.size [.slice A6 x.ls.length c6] x.ls) ∧ (w'.heap[w.heap.size]? = some (.cells #[.int .i64 x.st, .int .i64 x.epoch, .int .i64 x.gen, .slice A3 x.conf.length c3, .bool x.paused, .slice (some ⟨b, off, none⟩) x.as_.length c5, .slice A6 x.ls.length c6, .int .i64 x.ticket, .int .i64 x.h.id, .int .i64 x.h.no, .int .i64 x.h.acked, .int .i64 x.h.since] 70 (0, 0)) ∧ w'.heap[D]? = some (.cells #[.int .i64 y.sock, .string y.db, .int .i64 y.st, .int .i64 y.ticket, .int .i64 y.since, .string y.q, .int .i64 y.line, .int .i64 y.lease] 50 (0, 0)) ∧ w'.cell? ⟨b, off + m * 8, none⟩ = some (.int .i64 z.sock))) W1 := ⟨S2.out.1, S2.out.2, hv, hz0⟩
              refine wp_region_open 100 (fun w' => w'.heap[w.heap.size]? = some (.cells #[.int .i64 x.st, .int .i64 x.epoch, .int .i64 x.gen, .slice A3 x.conf.length c3, .bool x.paused, .slice (some ⟨b, off, none⟩) x.as_.length c5, .slice A6 x.ls.length c6, .int .i64 x.ticket, .int .i64 x.h.id, .int .i64 x.h.no, .int .i64 x.h.acked, .int .i64 x.h.since] 70 (0, 0)) ∧ w'.heap[D]? = some (.cells #[.int .i64 y.sock, .string y.db, .int .i64 y.st, .int .i64 y.ticket, .int .i64 y.since, .string y.q, .int .i64 y.line, .int .i64 y.lease] 50 (0, 0)) ∧ w'.cell? ⟨b, off + m * 8, none⟩ = some (.int .i64 z.sock)) (by kernel_rfl) ?_
              replace T := T.drew
              refine wpAnyL_readsG [0] (fuel := 26) (by kernel_rfl) T.out.2 ?_
              refine LexRG.yes rfl (by first | rfl | (simp [Region.wanted, yielded]; done)) ?_ (fun w' hw => ?_) ?_
              rotate_left
              focus (have hw3 := hw.2.1; have q0 := var_cell hw3 0; have q1 := var_cell hw3 1; have q2 := var_cell hw3 2; have q3 := var_cell hw3 3; have q4 := var_cell hw3 4; have q5 := var_cell hw3 5; have q6 := var_cell hw3 6; have q7 := var_cell hw3 7; clear hw3; clear hw; go_simp; (try exact rfl))
              try go_frame
              refine LexRG.nil ?_
              refine wpAnyL_one (i := 1) (by kernel_rfl) ?_
              refine lexA_get rfl ?_
              try go_frame
              go_wp2_with fail
              refine (askerOkS_rep (akC y) y W1.drew (ak_at _ _ _) HF.out).mono ?_
              rw [HB.out]
              rintro e V1 ⟨rfl, hb⟩
              replace T := T.later hb
              clear hb
              go_wp2_with fail
              refine ⟨fun _ => T.out.2, ?_⟩
              refine wpAnyL_readsG [2, 3, 4, 5, 6, 7, 8, 9, 10, 11, 12, 13, 14, 15, 16, 17, 18, 19, 20, 21, 22, 23] (fuel := 3) (by kernel_rfl) T.out.2 ?_
              refine LexRG.yes rfl (by first | rfl | (simp [Region.wanted, yielded]; done)) ?_ (fun w' hw => ?_) ?_
              rotate_left
              focus (clear hw; go_simp; (try exact rfl))
              try go_frame
              refine LexRG.yes rfl (by first | rfl | (simp [Region.wanted, yielded]; done)) ?_ (fun w' hw => ?_) ?_
              rotate_left
              focus (clear hw; go_simp; (try exact rfl))
              try go_frame
              refine LexRG.yes rfl (by first | rfl | (simp [Region.wanted, yielded]; done)) ?_ (fun w' hw => ?_) ?_
              rotate_left
              focus (clear hw; go_simp; (try exact rfl))
              try go_frame
              refine LexRG.yes rfl (by first | rfl | (simp [Region.wanted, yielded]; done)) ?_ (fun w' hw => ?_) ?_
              rotate_left
              focus (clear hw; go_simp; (try exact rfl))
              try go_frame
              refine LexRG.yes rfl (by first | rfl | (simp [Region.wanted, yielded]; done)) ?_ (fun w' hw => ?_) ?_
              rotate_left
              focus (clear hw; go_simp; (try exact rfl))
              try go_frame
              refine LexRG.yes rfl (by first | rfl | (simp [Region.wanted, yielded]; done)) ?_ (fun w' hw => ?_) ?_
              rotate_left
              focus (clear hw; go_simp; (try exact rfl))
              try go_frame
              refine LexRG.yes rfl (by first | rfl | (simp [Region.wanted, yielded]; done)) ?_ (fun w' hw => ?_) ?_
              rotate_left
              focus (have hw2 := hw.1; have q5 := var_cell hw2 5; clear hw2; clear hw; go_simp; (try exact rfl))
              try go_frame
              refine LexRG.yes rfl (by first | rfl | (simp [Region.wanted, yielded]; done)) ?_ (fun w' hw => ?_) ?_
              rotate_left
              focus (clear hw; go_simp; (try exact rfl))
              try go_frame
              refine LexRG.yes rfl (by first | rfl | (simp [Region.wanted, yielded]; done)) ?_ (fun w' hw => ?_) ?_
              rotate_left
              focus (clear hw; go_simp; (try exact rfl))
              try go_frame
              refine LexRG.yes rfl (by first | rfl | (simp [Region.wanted, yielded]; done)) ?_ (fun w' hw => ?_) ?_
              rotate_left
              focus (clear hw; go_simp; (try exact rfl))
              try go_frame
              refine LexRG.yes rfl (by first | rfl | (simp [Region.wanted, yielded]; done)) ?_ (fun w' hw => ?_) ?_
              rotate_left
              focus (clear hw; go_simp; (try exact rfl))
              try go_frame
              refine LexRG.yes rfl (by first | rfl | (simp [Region.wanted, yielded]; done)) ?_ (fun w' hw => ?_) ?_
              rotate_left
              focus (have q9 := hw.2.2; clear hw; go_simp; (try exact rfl))
              try go_frame
              refine LexRG.yes rfl (by first | rfl | (simp [Region.wanted, yielded]; done)) ?_ (fun w' hw => ?_) ?_
              rotate_left
              focus (clear hw; go_simp; (try exact rfl))
              try go_frame
              refine LexRG.yes rfl (by first | rfl | (simp [Region.wanted, yielded]; done)) ?_ (fun w' hw => ?_) ?_
              rotate_left
              focus (have hw3 := hw.2.1; have q0 := var_cell hw3 0; clear hw3; clear hw; go_simp; (try exact rfl))
              try go_frame
              refine LexRG.yes rfl (by first | rfl | (simp [Region.wanted, yielded]; done)) ?_ (fun w' hw => ?_) ?_
              rotate_left
              focus (clear hw; go_simp; (try exact rfl))
              try go_frame
              refine LexRG.yes rfl (by first | rfl | (simp [Region.wanted, yielded]; done)) ?_ (fun w' hw => ?_) ?_
              rotate_left
              focus (clear hw; go_simp; (try exact rfl))
              try go_frame
              refine LexRG.yes rfl (by first | rfl | (simp [Region.wanted, yielded]; done)) ?_ (fun w' hw => ?_) ?_
              rotate_left
              focus (clear hw; go_simp; (try exact rfl))
              try go_frame
              refine LexRG.yes rfl (by first | rfl | (simp [Region.wanted, yielded]; done)) ?_ (fun w' hw => ?_) ?_
              rotate_left
              focus (clear hw; go_simp; (try exact rfl))
              try go_frame
              refine LexRG.no rfl (by first | rfl | (simp [Region.wanted, yielded]; done)) ?_
              try go_frame
              refine LexRG.no rfl (by first | rfl | (simp [Region.wanted, yielded]; done)) ?_
              try go_frame
              refine LexRG.no rfl (by first | rfl | (simp [Region.wanted, yielded]; done)) ?_
              try go_frame
              refine LexRG.no rfl (by first | rfl | (simp [Region.wanted, yielded]; done)) ?_
              try go_frame
              refine LexRG.nil ?_
              refine wpAnyL_one (i := 24) (by kernel_rfl) ?_
              refine lexA_get rfl ?_
              try go_frame
              go_wp2_with fail
              refine ⟨fun _ => T.out.2, ?_⟩
              refine wpAnyL_readsG [25] (fuel := 1) (by kernel_rfl) T.out.2 ?_
              refine LexRG.no rfl (by first | rfl | (simp [Region.wanted, yielded]; done)) ?_
              try go_frame
              refine LexRG.nil ?_
              refine wpAnyL_writes [26] (by kernel_rfl) (LexW.cons rfl ?_)
              try go_frame
              go_wp2_with fail
              refine ⟨fun _ => T.out.2, LexW.nil ?_⟩
              refine hK _ _ (Met.intro (hJ _ _ ?_))
              (repeat apply Exists.intro)
              refine ⟨?_, rfl⟩
              exact ⟨rfl, T.out.1, T.out.2.1, T.out.2.2.1⟩
            · have t1 : decide (y.sock ≤ z.sock) = false := by (simp [hzy]; try omega)
              have hbd : bad = decide (0 ≤ n9) := by
                rw [← HBD.out]; exact pB_of (by
                  rw [decide_eq_true_eq]; unfold AskC lnAtP; rw [HB.out, HN.out]
                  exact ⟨fun h h9 => by have := h9.2.2; omega, fun h => Int.not_lt.1 (fun h9 => h ⟨rfl, fun z2 h0 hz2 => by simp only [Nat.add_sub_cancel] at hz2; rw [HZ.out] at hz2; injection hz2 with hz2; subst hz2; omega, h9⟩)⟩)
              have HBQ := Lib.hid hbd
              clear hbd hzy hz k0 hlt hk
              have T : All (fun w' => ((Below w.heap.size w w' ∧ akSR.at_ w' w'.heap.size [.slice (some ⟨b, off, none⟩) x.as_.length c5] x.as_) ∧ lnSR.at_ w' w'.heap.size [.slice A6 x.ls.length c6] x.ls) ∧ (w'.heap[w.heap.size]? = some (.cells #[.int .i64 x.st, .int .i64 x.epoch, .int .i64 x.gen, .slice A3 x.conf.length c3, .bool x.paused, .slice (some ⟨b, off, none⟩) x.as_.length c5, .slice A6 x.ls.length c6, .int .i64 x.ticket, .int .i64 x.h.id, .int .i64 x.h.no, .int .i64 x.h.acked, .int .i64 x.h.since] 70 (0, 0)) ∧ w'.heap[D]? = some (.cells #[.int .i64 y.sock, .string y.db, .int .i64 y.st, .int .i64 y.ticket, .int .i64 y.since, .string y.q, .int .i64 y.line, .int .i64 y.lease] 50 (0, 0)) ∧ w'.cell? ⟨b, off + m * 8, none⟩ = some (.int .i64 z.sock))) W1 := ⟨S2.out.1, S2.out.2, hv, hz0⟩
              refine wp_region_open 100 (fun w' => w'.heap[w.heap.size]? = some (.cells #[.int .i64 x.st, .int .i64 x.epoch, .int .i64 x.gen, .slice A3 x.conf.length c3, .bool x.paused, .slice (some ⟨b, off, none⟩) x.as_.length c5, .slice A6 x.ls.length c6, .int .i64 x.ticket, .int .i64 x.h.id, .int .i64 x.h.no, .int .i64 x.h.acked, .int .i64 x.h.since] 70 (0, 0)) ∧ w'.heap[D]? = some (.cells #[.int .i64 y.sock, .string y.db, .int .i64 y.st, .int .i64 y.ticket, .int .i64 y.since, .string y.q, .int .i64 y.line, .int .i64 y.lease] 50 (0, 0)) ∧ w'.cell? ⟨b, off + m * 8, none⟩ = some (.int .i64 z.sock)) (by kernel_rfl) ?_
              replace T := T.drew
              refine wpAnyL_readsG [0] (fuel := 26) (by kernel_rfl) T.out.2 ?_
              refine LexRG.yes rfl (by first | rfl | (simp [Region.wanted, yielded]; done)) ?_ (fun w' hw => ?_) ?_
              rotate_left
              focus (have hw3 := hw.2.1; have q0 := var_cell hw3 0; have q1 := var_cell hw3 1; have q2 := var_cell hw3 2; have q3 := var_cell hw3 3; have q4 := var_cell hw3 4; have q5 := var_cell hw3 5; have q6 := var_cell hw3 6; have q7 := var_cell hw3 7; clear hw3; clear hw; go_simp; (try exact rfl))
              try go_frame
              refine LexRG.nil ?_
              refine wpAnyL_one (i := 1) (by kernel_rfl) ?_
              refine lexA_get rfl ?_
              try go_frame
              go_wp2_with fail
              refine (askerOkS_rep (akC y) y W1.drew (ak_at _ _ _) HF.out).mono ?_
              rw [HB.out]
              rintro e V1 ⟨rfl, hb⟩
              replace T := T.later hb
              clear hb
              go_wp2_with fail
              refine ⟨fun _ => T.out.2, ?_⟩
              refine wpAnyL_readsG [2, 3, 4, 5, 6, 7, 8, 9, 10, 11, 12, 13, 14, 15, 16, 17, 18, 19, 20, 21, 22, 23] (fuel := 3) (by kernel_rfl) T.out.2 ?_
              refine LexRG.yes rfl (by first | rfl | (simp [Region.wanted, yielded]; done)) ?_ (fun w' hw => ?_) ?_
              rotate_left
              focus (clear hw; go_simp; (try exact rfl))
              try go_frame
              refine LexRG.yes rfl (by first | rfl | (simp [Region.wanted, yielded]; done)) ?_ (fun w' hw => ?_) ?_
              rotate_left
              focus (clear hw; go_simp; (try exact rfl))
              try go_frame
              refine LexRG.yes rfl (by first | rfl | (simp [Region.wanted, yielded]; done)) ?_ (fun w' hw => ?_) ?_
              rotate_left
              focus (clear hw; go_simp; (try exact rfl))
              try go_frame
              refine LexRG.yes rfl (by first | rfl | (simp [Region.wanted, yielded]; done)) ?_ (fun w' hw => ?_) ?_
              rotate_left
              focus (clear hw; go_simp; (try exact rfl))
              try go_frame
              refine LexRG.yes rfl (by first | rfl | (simp [Region.wanted, yielded]; done)) ?_ (fun w' hw => ?_) ?_
              rotate_left
              focus (clear hw; go_simp; (try exact rfl))
              try go_frame
              refine LexRG.yes rfl (by first | rfl | (simp [Region.wanted, yielded]; done)) ?_ (fun w' hw => ?_) ?_
              rotate_left
              focus (clear hw; go_simp; (try exact rfl))
              try go_frame
              refine LexRG.yes rfl (by first | rfl | (simp [Region.wanted, yielded]; done)) ?_ (fun w' hw => ?_) ?_
              rotate_left
              focus (have hw2 := hw.1; have q5 := var_cell hw2 5; clear hw2; clear hw; go_simp; (try exact rfl))
              try go_frame
              refine LexRG.yes rfl (by first | rfl | (simp [Region.wanted, yielded]; done)) ?_ (fun w' hw => ?_) ?_
              rotate_left
              focus (clear hw; go_simp; (try exact rfl))
              try go_frame
              refine LexRG.yes rfl (by first | rfl | (simp [Region.wanted, yielded]; done)) ?_ (fun w' hw => ?_) ?_
              rotate_left
              focus (clear hw; go_simp; (try exact rfl))
              try go_frame
              refine LexRG.yes rfl (by first | rfl | (simp [Region.wanted, yielded]; done)) ?_ (fun w' hw => ?_) ?_
              rotate_left
              focus (clear hw; go_simp; (try exact rfl))
              try go_frame
              refine LexRG.yes rfl (by first | rfl | (simp [Region.wanted, yielded]; done)) ?_ (fun w' hw => ?_) ?_
              rotate_left
              focus (clear hw; go_simp; (try exact rfl))
              try go_frame
              refine LexRG.yes rfl (by first | rfl | (simp [Region.wanted, yielded]; done)) ?_ (fun w' hw => ?_) ?_
              rotate_left
              focus (have q9 := hw.2.2; clear hw; go_simp; (try exact rfl))
              try go_frame
              refine LexRG.yes rfl (by first | rfl | (simp [Region.wanted, yielded]; done)) ?_ (fun w' hw => ?_) ?_
              rotate_left
              focus (clear hw; go_simp; (try exact rfl))
              try go_frame
              refine LexRG.yes rfl (by first | rfl | (simp [Region.wanted, yielded]; done)) ?_ (fun w' hw => ?_) ?_
              rotate_left
              focus (have hw3 := hw.2.1; have q0 := var_cell hw3 0; clear hw3; clear hw; go_simp; (try exact rfl))
              try go_frame
              refine LexRG.yes rfl (by first | rfl | (simp [Region.wanted, yielded]; done)) ?_ (fun w' hw => ?_) ?_
              rotate_left
              focus (clear hw; go_simp; (try exact rfl))
              try go_frame
              refine LexRG.yes rfl (by first | rfl | (simp [Region.wanted, yielded]; done)) ?_ (fun w' hw => ?_) ?_
              rotate_left
              focus (clear hw; go_simp; (try exact rfl))
              try go_frame
              refine LexRG.yes rfl (by first | rfl | (simp [Region.wanted, yielded]; done)) ?_ (fun w' hw => ?_) ?_
              rotate_left
              focus (clear hw; go_simp; (try exact rfl))
              try go_frame
              refine LexRG.yes rfl (by first | rfl | (simp [Region.wanted, yielded]; done)) ?_ (fun w' hw => ?_) ?_
              rotate_left
              focus (clear hw; go_simp; (try exact rfl))
              try go_frame
              refine LexRG.yes rfl (by first | rfl | (simp [Region.wanted, yielded]; done)) ?_ (fun w' hw => ?_) ?_
              rotate_left
              focus (clear hw; go_simp; (try exact rfl))
              try go_frame
              refine LexRG.yes rfl (by first | rfl | (simp [Region.wanted, yielded]; done)) ?_ (fun w' hw => ?_) ?_
              rotate_left
              focus (have hw2 := hw.1; have q6 := var_cell hw2 6; clear hw2; clear hw; go_simp; (try exact rfl))
              try go_frame
              refine LexRG.yes rfl (by first | rfl | (simp [Region.wanted, yielded]; done)) ?_ (fun w' hw => ?_) ?_
              rotate_left
              focus (clear hw; go_simp; (try exact rfl))
              try go_frame
              refine LexRG.yes rfl (by first | rfl | (simp [Region.wanted, yielded]; done)) ?_ (fun w' hw => ?_) ?_
              rotate_left
              focus (have hw3 := hw.2.1; have q0 := var_cell hw3 0; clear hw3; clear hw; go_simp; (try exact rfl))
              try go_frame
              refine LexRG.nil ?_
              refine wpAnyL_one (i := 24) (by kernel_rfl) ?_
              refine lexA_get rfl ?_
              try go_frame
              go_wp2_with fail
              refine (lnAtS_any A6 c6 x.ls y.sock V1 (lnS_rows T.out.1.2).2 hl6).mono ?_
              rw [HN.out]
              rintro e V2 ⟨rfl, hb⟩
              replace T := T.later hb
              clear hb
              go_wp2_with fail
              refine ⟨fun _ => T.out.2, ?_⟩
              refine wpAnyL_readsG [25] (fuel := 1) (by kernel_rfl) T.out.2 ?_
              refine LexRG.yes rfl (by first | rfl | (simp [Region.wanted, yielded]; done)) ?_ (fun w' hw => ?_) ?_
              rotate_left
              focus (clear hw; go_simp; (try exact rfl))
              try go_frame
              refine LexRG.nil ?_
              refine wpAnyL_writes [26] (by kernel_rfl) (LexW.cons rfl ?_)
              try go_frame
              go_wp2_with fail
              refine ⟨fun _ => T.out.2, LexW.nil ?_⟩
              refine hK _ _ (Met.intro (hJ _ _ ?_))
              (repeat apply Exists.intro)
              refine ⟨?_, rfl⟩
              exact ⟨by rw [HBQ.out], T.out.1, T.out.2.1, T.out.2.2.1⟩
      case rest =>
        obtain ⟨rfl, hfr, hbx, hv2⟩ := hcut
        obtain ⟨W2, rfl⟩ : ∃ wo : World, wo = wc := ⟨_, rfl⟩
        have S3 : All (fun w' => ((Below w.heap.size w w' ∧ akSR.at_ w' w'.heap.size [.slice (some ⟨b, off, none⟩) x.as_.length c5] x.as_) ∧ lnSR.at_ w' w'.heap.size [.slice A6 x.ls.length c6] x.ls) ∧ w'.heap[w.heap.size]? = some (.cells #[.int .i64 x.st, .int .i64 x.epoch, .int .i64 x.gen, .slice A3 x.conf.length c3, .bool x.paused, .slice (some ⟨b, off, none⟩) x.as_.length c5, .slice A6 x.ls.length c6, .int .i64 x.ticket, .int .i64 x.h.id, .int .i64 x.h.no, .int .i64 x.h.acked, .int .i64 x.h.since] 70 (0, 0))) W2 := ⟨hfr, hbx⟩
        clear hfr hbx S2 hv
        cases bad
        rotate_left
        · have HE := Lib.hid (lists_badA HY.out (pB_true HBD.out))
          go_wp2_with fail
          go_ret
          exact ⟨by rw [HE.out]; exact rfl, S3.out.1.1.1⟩
        have HOK : Hid (AskC x k y) := Lib.hid (Classical.byContradiction fun h => by have := HBD.out; rw [pB_yes h] at this; cases this)
        have d2 := var_cell hv2 2
        have d3 := var_cell hv2 3
        have q7 := var_cell S3.out.2 7
        have HNX : Hid (TikC x k y → ∀ i y, i < k + 1 → x.as_[i]? = some y → AskC x i y ∧ TikC x i y) := Lib.hid (fun ht i z hi hz => by
          by_cases e : i = k
          · subst e; rw [HY.out] at hz; injection hz with hz; subst hz; exact ⟨HOK.out, ht⟩
          · exact HU.out i z (by omega) hz)
        clear HU HOK HBD
        by_cases hst : y.st = 2
        · have s2 : (y.st == 2) = true := by simp [hst]
          have HST := Lib.hid hst
          clear hst
          by_cases hti : x.ticket ≤ y.ticket
          · have t1 : decide (x.ticket ≤ y.ticket) = true := by simp [hti]
            have HE := Lib.hid (lists_badT HY.out (fun h => by have := (h HST.out).1; omega))
            clear hti
            go_wp2_with fail
            go_ret
            exact ⟨by rw [HE.out]; exact rfl, S3.out.1.1.1⟩
          · have t1 : decide (x.ticket ≤ y.ticket) = false := by (simp [hti]; try omega)
            have htl : Hid (y.ticket < x.ticket) := Lib.hid (by omega)
            clear hti
            go_wp2_with fail
            clear d2 q7
            go_loopw [5] (fun t wq => ∃ j : Nat, t = .int .i64 j ∧ j ≤ k ∧ Hid (∀ (i : Nat) z, i < j → x.as_[i]? = some z → ¬ (z.st = 2 ∧ z.ticket = y.ticket)) ∧ ∃ n, wq = W2.drewN n) (fun t _ => k - (intOf t).toNat)
            case atStart => exact ⟨0, rfl, by omega, Lib.hid (fun i z hi => by omega), 0, rfl⟩
            case round =>
              obtain ⟨j, rfl, hj, HJ, n, rfl⟩ := hrel
              have q5 := var_cell S3.out.2 5
              by_cases hjk : j < k
              · obtain ⟨z, hz, _, z2, z3⟩ := ak_elem_at (akS_rows S3.out.1.1.2).2 (show j < x.as_.length by omega)
                have HZ := Lib.hid hz
                clear hz
                have j1 : (j : Int) < (x.as_.length : Int) := by omega
                have j2 : (0 : Int) ≤ (j : Int) := by omega
                cases c1 : (z.st == 2)
                · have HJ2 : Hid (∀ (i : Nat) z, i < j + 1 → x.as_[i]? = some z → ¬ (z.st = 2 ∧ z.ticket = y.ticket)) := Lib.hid (fun i u hi hu => by
                    by_cases e : i = j
                    · subst e; rw [HZ.out] at hu; injection hu with hu; subst hu; intro h9; rw [h9.1] at c1; cases c1
                    · exact HJ.out i u (by omega) hu)
                  clear HJ
                  go_wp2_with fail
                  go_quiet (fail)
                  go_wp2_with fail
                  go_roundw
                  case rel => exact ⟨j + 1, by go_num, by omega, HJ2, _, by first | rfl | exact drewN2 _ _ _⟩
                  case measure => simp [intOf]; omega
                · cases c2 : (z.ticket == y.ticket)
                  · have HJ2 : Hid (∀ (i : Nat) z, i < j + 1 → x.as_[i]? = some z → ¬ (z.st = 2 ∧ z.ticket = y.ticket)) := Lib.hid (fun i u hi hu => by
                      by_cases e : i = j
                      · subst e; rw [HZ.out] at hu; injection hu with hu; subst hu; intro h9; rw [h9.2] at c2; simp at c2
                      · exact HJ.out i u (by omega) hu)
                    clear HJ
                    go_wp2_with fail
                    go_quiet (fail)
                    go_wp2_with fail
                    go_roundw
                    case rel => exact ⟨j + 1, by go_num, by omega, HJ2, _, by first | rfl | exact drewN2 _ _ _⟩
                    case measure => simp [intOf]; omega
                  · have HE := Lib.hid (lists_badT HY.out (fun h => by have := (h HST.out).2 j z hjk HZ.out; exact this ⟨by simpa using c1, by simpa using c2⟩))
                    have HBL := fun n => belowD S3.out.1.1.1 n
                    go_wp2_with fail
                    go_quiet (fail)
                    go_wp2_with fail
                    go_ret
                    exact ⟨by rw [HE.out]; exact rfl, by first | exact HBL _ | (rw [drewN2]; exact HBL _)⟩
              · have he : j = k := by omega
                subst he
                have HQ := Lib.hid (HNX.out (fun _ => ⟨htl.out, HJ.out⟩))
                have S4 := S3.later (Later.drewN W2 n)
                clear HNX HJ
                go_wp2_with fail
                go_roundw
                case rel => exact ⟨j + 1, by omega, by go_num, HQ, S4⟩
                case measure => simp [intOf]; omega
        · have s2 : (y.st == 2) = false := by simp [hst]
          have HQ := Lib.hid (HNX.out (fun h => absurd h hst))
          clear hst HNX
          go_wp2_with fail
          go_roundw
          case rel => exact ⟨k + 1, by omega, by go_num, HQ, S3⟩
          case measure => simp [intOf]; omega
    · have he : k = x.as_.length := by omega
      subst he
      have HA := Lib.hid (show ∀ i y, x.as_[i]? = some y → AskC x i y ∧ TikC x i y from fun i y hy => HU.out i y (List.getElem?_eq_some_iff.1 hy).1 hy)
      clear HU hlt hk
      obtain ⟨Wm, rfl⟩ : ∃ wo : World, wo = wr := ⟨_, rfl⟩
      go_wp2_with fail
      clear q5
      go_loopw [6] (fun i wr => ∃ k : Nat, k ≤ x.ls.length ∧ i = .int .i64 k ∧ Hid (∀ i y, i < k → x.ls[i]? = some y → LnC x i y) ∧ All (fun w' => ((Below w.heap.size w w' ∧ akSR.at_ w' w'.heap.size [.slice A5 x.as_.length c5] x.as_) ∧ lnSR.at_ w' w'.heap.size [.slice A6 x.ls.length c6] x.ls) ∧ w'.heap[w.heap.size]? = some (.cells #[.int .i64 x.st, .int .i64 x.epoch, .int .i64 x.gen, .slice A3 x.conf.length c3, .bool x.paused, .slice A5 x.as_.length c5, .slice A6 x.ls.length c6, .int .i64 x.ticket, .int .i64 x.h.id, .int .i64 x.h.no, .int .i64 x.h.acked, .int .i64 x.h.since] 70 (0, 0))) wr) (fun i _ => x.ls.length - (intOf i).toNat)
      case atStart => exact ⟨0, by omega, rfl, Lib.hid (fun i y hi => by omega), S⟩
      case round =>
        clear S
        obtain ⟨k, hk, rfl, HU, S⟩ := hrel
        have q6 := var_cell S.out.2 6
        by_cases hlt : k < x.ls.length
        · obtain ⟨b, off, y, rfl, hbl, hy, e0, e1, e2, e3, e4, e5, e6⟩ := ln_elem (lnS_rows S.out.1.2).2 hlt
          have HY := Lib.hid hy
          have HF := Lib.hid (HS.out.2.2.2 y (List.mem_of_getElem? hy))
          have HNX : Hid (LnC x k y → ∀ i y, i < k + 1 → x.ls[i]? = some y → LnC x i y) := Lib.hid (fun ht i z hi hz => by
            by_cases e : i = k
            · subst e; rw [HY.out] at hz; injection hz with hz; subst hz; exact ht
            · exact HU.out i z (by omega) hz)
          clear hy HU
          go_upto_region 18 with (fail)
          clear q6
          have k1 : (k : Int) < (x.ls.length : Int) := by omega
          have k2 : (0 : Int) ≤ (k : Int) := by omega
          obtain ⟨b9, hb9⟩ : ∃ b, lnB y = b := ⟨_, rfl⟩
          have HB := Lib.hid hb9
          clear hb9
          cases b9
          · skip
            have HE := Lib.hid (lists_badL HY.out (fun h => by have := h.1; rw [HB.out] at this; cases this))
            have T : All (fun w' => ((Below w.heap.size w w' ∧ akSR.at_ w' w'.heap.size [.slice A5 x.as_.length c5] x.as_) ∧ lnSR.at_ w' w'.heap.size [.slice (some ⟨b, off, none⟩) x.ls.length c6] x.ls) ∧ (w'.heap[w.heap.size]? = some (.cells #[.int .i64 x.st, .int .i64 x.epoch, .int .i64 x.gen, .slice A3 x.conf.length c3, .bool x.paused, .slice A5 x.as_.length c5, .slice (some ⟨b, off, none⟩) x.ls.length c6, .int .i64 x.ticket, .int .i64 x.h.id, .int .i64 x.h.no, .int .i64 x.h.acked, .int .i64 x.h.since] 70 (0, 0)) ∧ (w'.cell? ⟨b, off + k * 7, none⟩ = some (.int .i64 y.sock) ∧ w'.cell? ⟨b, off + k * 7 + 1, none⟩ = some (.string y.db) ∧ w'.cell? ⟨b, off + k * 7 + 2, none⟩ = some (.int .i64 y.gen) ∧ w'.cell? ⟨b, off + k * 7 + 3, none⟩ = some (.int .i64 y.st) ∧ w'.cell? ⟨b, off + k * 7 + 4, none⟩ = some (.int .i64 y.since) ∧ w'.cell? ⟨b, off + k * 7 + 5, none⟩ = some (.int .i64 y.asker) ∧ w'.cell? ⟨b, off + k * 7 + 6, none⟩ = some (.int .i64 y.lease)))) wr := ⟨S.out.1, S.out.2, e0, e1, e2, e3, e4, e5, e6⟩
            clear S e0 e1 e2 e3 e4 e5 e6
            refine wp_region_open 100 (fun w' => w'.heap[w.heap.size]? = some (.cells #[.int .i64 x.st, .int .i64 x.epoch, .int .i64 x.gen, .slice A3 x.conf.length c3, .bool x.paused, .slice A5 x.as_.length c5, .slice (some ⟨b, off, none⟩) x.ls.length c6, .int .i64 x.ticket, .int .i64 x.h.id, .int .i64 x.h.no, .int .i64 x.h.acked, .int .i64 x.h.since] 70 (0, 0)) ∧ (w'.cell? ⟨b, off + k * 7, none⟩ = some (.int .i64 y.sock) ∧ w'.cell? ⟨b, off + k * 7 + 1, none⟩ = some (.string y.db) ∧ w'.cell? ⟨b, off + k * 7 + 2, none⟩ = some (.int .i64 y.gen) ∧ w'.cell? ⟨b, off + k * 7 + 3, none⟩ = some (.int .i64 y.st) ∧ w'.cell? ⟨b, off + k * 7 + 4, none⟩ = some (.int .i64 y.since) ∧ w'.cell? ⟨b, off + k * 7 + 5, none⟩ = some (.int .i64 y.asker) ∧ w'.cell? ⟨b, off + k * 7 + 6, none⟩ = some (.int .i64 y.lease))) (by kernel_rfl) ?_
            replace T := T.drew
            refine wpAnyL_readsG [0, 1, 2, 3, 4] (fuel := 22) (by kernel_rfl) T.out.2 ?_
            refine LexRG.yes rfl (by first | rfl | (simp [Region.wanted, yielded]; done)) ?_ (fun w' hw => ?_) ?_
            rotate_left
            focus (clear hw; go_simp; (try exact rfl))
            try go_frame
            refine LexRG.yes rfl (by first | rfl | (simp [Region.wanted, yielded]; done)) ?_ (fun w' hw => ?_) ?_
            rotate_left
            focus (have hw2 := hw.1; have q6 := var_cell hw2 6; clear hw2; clear hw; go_simp; (try exact rfl))
            try go_frame
            refine LexRG.yes rfl (by first | rfl | (simp [Region.wanted, yielded]; done)) ?_ (fun w' hw => ?_) ?_
            rotate_left
            focus (clear hw; go_simp; (try exact rfl))
            try go_frame
            refine LexRG.yes rfl (by first | rfl | (simp [Region.wanted, yielded]; done)) ?_ (fun w' hw => ?_) ?_
            rotate_left
            focus (clear hw; go_simp; (try exact rfl))
            try go_frame
            refine LexRG.yes rfl (by first | rfl | (simp [Region.wanted, yielded]; done)) ?_ (fun w' hw => ?_) ?_
            rotate_left
            focus (obtain ⟨g0, g1, g2, g3, g4, g5, g6⟩ := hw.2; clear hw; go_simp; (try exact rfl))
            try go_frame
            refine LexRG.nil ?_
            refine wpAnyL_one (i := 5) (by kernel_rfl) ?_
            refine lexA_get rfl ?_
            try go_frame
            go_wp2_with fail
            refine (lineOkS_rep (lnC y) y wr.drew (ln_at _ _ _) HF.out).mono ?_
            rw [HB.out]
            rintro e V1 ⟨rfl, hb⟩
            replace T := T.later hb
            clear hb
            go_wp2_with fail
            refine ⟨fun _ => T.out.2, ?_⟩
            refine wpAnyL_readsG [6, 7, 8, 9, 10, 11, 12, 13, 14, 15, 16, 17, 18, 19, 20, 21, 22, 23, 24, 25] (fuel := 1) (by kernel_rfl) T.out.2 ?_
            refine LexRG.yes rfl (by first | rfl | (simp [Region.wanted, yielded]; done)) ?_ (fun w' hw => ?_) ?_
            rotate_left
            focus (clear hw; go_simp; (try exact rfl))
            try go_frame
            refine LexRG.yes rfl (by first | rfl | (simp [Region.wanted, yielded]; done)) ?_ (fun w' hw => ?_) ?_
            rotate_left
            focus (clear hw; go_simp; (try exact rfl))
            try go_frame
            refine LexRG.no rfl (by first | rfl | (simp [Region.wanted, yielded]; done)) ?_
            try go_frame
            refine LexRG.no rfl (by first | rfl | (simp [Region.wanted, yielded]; done)) ?_
            try go_frame
            refine LexRG.no rfl (by first | rfl | (simp [Region.wanted, yielded]; done)) ?_
            try go_frame
            refine LexRG.no rfl (by first | rfl | (simp [Region.wanted, yielded]; done)) ?_
            try go_frame
            refine LexRG.no rfl (by first | rfl | (simp [Region.wanted, yielded]; done)) ?_
            try go_frame
            refine LexRG.no rfl (by first | rfl | (simp [Region.wanted, yielded]; done)) ?_
            try go_frame
            refine LexRG.no rfl (by first | rfl | (simp [Region.wanted, yielded]; done)) ?_
            try go_frame
            refine LexRG.no rfl (by first | rfl | (simp [Region.wanted, yielded]; done)) ?_
            try go_frame
            refine LexRG.no rfl (by first | rfl | (simp [Region.wanted, yielded]; done)) ?_
            try go_frame
            refine LexRG.no rfl (by first | rfl | (simp [Region.wanted, yielded]; done)) ?_
            try go_frame
            refine LexRG.no rfl (by first | rfl | (simp [Region.wanted, yielded]; done)) ?_
            try go_frame
            refine LexRG.no rfl (by first | rfl | (simp [Region.wanted, yielded]; done)) ?_
            try go_frame
            refine LexRG.no rfl (by first | rfl | (simp [Region.wanted, yielded]; done)) ?_
            try go_frame
            refine LexRG.no rfl (by first | rfl | (simp [Region.wanted, yielded]; done)) ?_
            try go_frame
            refine LexRG.no rfl (by first | rfl | (simp [Region.wanted, yielded]; done)) ?_
            try go_frame
            refine LexRG.no rfl (by first | rfl | (simp [Region.wanted, yielded]; done)) ?_
            try go_frame
            refine LexRG.no rfl (by first | rfl | (simp [Region.wanted, yielded]; done)) ?_
            try go_frame
            refine LexRG.no rfl (by first | rfl | (simp [Region.wanted, yielded]; done)) ?_
            try go_frame
            refine LexRG.nil ?_
            refine wpAnyL_writes [26] (by kernel_rfl) (LexW.cons rfl ?_)
            try go_frame
            go_wp2_with fail
            refine ⟨fun _ => T.out.2, LexW.nil ?_⟩
            go_wp2_with fail
            go_ret
            exact ⟨by rw [HE.out]; exact rfl, T.out.1.1.1⟩
          · skip
            by_cases k0 : k = 0
            · subst k0
              have HQ := Lib.hid (HNX.out ⟨HB.out, fun z h0 => by omega⟩)
              have T : All (fun w' => ((Below w.heap.size w w' ∧ akSR.at_ w' w'.heap.size [.slice A5 x.as_.length c5] x.as_) ∧ lnSR.at_ w' w'.heap.size [.slice (some ⟨b, off, none⟩) x.ls.length c6] x.ls) ∧ (w'.heap[w.heap.size]? = some (.cells #[.int .i64 x.st, .int .i64 x.epoch, .int .i64 x.gen, .slice A3 x.conf.length c3, .bool x.paused, .slice A5 x.as_.length c5, .slice (some ⟨b, off, none⟩) x.ls.length c6, .int .i64 x.ticket, .int .i64 x.h.id, .int .i64 x.h.no, .int .i64 x.h.acked, .int .i64 x.h.since] 70 (0, 0)) ∧ (w'.cell? ⟨b, off, none⟩ = some (.int .i64 y.sock) ∧ w'.cell? ⟨b, off + 1, none⟩ = some (.string y.db) ∧ w'.cell? ⟨b, off + 2, none⟩ = some (.int .i64 y.gen) ∧ w'.cell? ⟨b, off + 3, none⟩ = some (.int .i64 y.st) ∧ w'.cell? ⟨b, off + 4, none⟩ = some (.int .i64 y.since) ∧ w'.cell? ⟨b, off + 5, none⟩ = some (.int .i64 y.asker) ∧ w'.cell? ⟨b, off + 6, none⟩ = some (.int .i64 y.lease)))) wr := ⟨S.out.1, S.out.2, e0, e1, e2, e3, e4, e5, e6⟩
              clear S HNX e0 e1 e2 e3 e4 e5 e6
              refine wp_region_open 100 (fun w' => w'.heap[w.heap.size]? = some (.cells #[.int .i64 x.st, .int .i64 x.epoch, .int .i64 x.gen, .slice A3 x.conf.length c3, .bool x.paused, .slice A5 x.as_.length c5, .slice (some ⟨b, off, none⟩) x.ls.length c6, .int .i64 x.ticket, .int .i64 x.h.id, .int .i64 x.h.no, .int .i64 x.h.acked, .int .i64 x.h.since] 70 (0, 0)) ∧ (w'.cell? ⟨b, off, none⟩ = some (.int .i64 y.sock) ∧ w'.cell? ⟨b, off + 1, none⟩ = some (.string y.db) ∧ w'.cell? ⟨b, off + 2, none⟩ = some (.int .i64 y.gen) ∧ w'.cell? ⟨b, off + 3, none⟩ = some (.int .i64 y.st) ∧ w'.cell? ⟨b, off + 4, none⟩ = some (.int .i64 y.since) ∧ w'.cell? ⟨b, off + 5, none⟩ = some (.int .i64 y.asker) ∧ w'.cell? ⟨b, off + 6, none⟩ = some (.int .i64 y.lease))) (by kernel_rfl) ?_
              replace T := T.drew
              refine wpAnyL_readsG [0, 1, 2, 3, 4] (fuel := 22) (by kernel_rfl) T.out.2 ?_
              refine LexRG.yes rfl (by first | rfl | (simp [Region.wanted, yielded]; done)) ?_ (fun w' hw => ?_) ?_
              rotate_left
              focus (clear hw; go_simp; (try exact rfl))
              try go_frame
              refine LexRG.yes rfl (by first | rfl | (simp [Region.wanted, yielded]; done)) ?_ (fun w' hw => ?_) ?_
              rotate_left
              focus (have hw2 := hw.1; have q6 := var_cell hw2 6; clear hw2; clear hw; go_simp; (try exact rfl))
              try go_frame
              refine LexRG.yes rfl (by first | rfl | (simp [Region.wanted, yielded]; done)) ?_ (fun w' hw => ?_) ?_
              rotate_left
              focus (clear hw; go_simp; (try exact rfl))
              try go_frame
              refine LexRG.yes rfl (by first | rfl | (simp [Region.wanted, yielded]; done)) ?_ (fun w' hw => ?_) ?_
              rotate_left
              focus (clear hw; go_simp; (try exact rfl))
              try go_frame
              refine LexRG.yes rfl (by first | rfl | (simp [Region.wanted, yielded]; done)) ?_ (fun w' hw => ?_) ?_
              rotate_left
              focus (obtain ⟨g0, g1, g2, g3, g4, g5, g6⟩ := hw.2; clear hw; go_simp; (try exact rfl))
              try go_frame
              refine LexRG.nil ?_
              refine wpAnyL_one (i := 5) (by kernel_rfl) ?_
              refine lexA_get rfl ?_
              try go_frame
              go_wp2_with fail
              refine (lineOkS_rep (lnC y) y wr.drew (ln_at _ _ _) HF.out).mono ?_
              rw [HB.out]
              rintro e V1 ⟨rfl, hb⟩
              replace T := T.later hb
              clear hb
              go_wp2_with fail
              refine ⟨fun _ => T.out.2, ?_⟩
              refine wpAnyL_readsG [6, 7, 8, 9, 10, 11, 12, 13, 14, 15, 16, 17, 18, 19, 20, 21, 22, 23, 24, 25] (fuel := 1) (by kernel_rfl) T.out.2 ?_
              refine LexRG.yes rfl (by first | rfl | (simp [Region.wanted, yielded]; done)) ?_ (fun w' hw => ?_) ?_
              rotate_left
              focus (clear hw; go_simp; (try exact rfl))
              try go_frame
              refine LexRG.yes rfl (by first | rfl | (simp [Region.wanted, yielded]; done)) ?_ (fun w' hw => ?_) ?_
              rotate_left
              focus (clear hw; go_simp; (try exact rfl))
              try go_frame
              refine LexRG.yes rfl (by first | rfl | (simp [Region.wanted, yielded]; done)) ?_ (fun w' hw => ?_) ?_
              rotate_left
              focus (clear hw; go_simp; (try exact rfl))
              try go_frame
              refine LexRG.yes rfl (by first | rfl | (simp [Region.wanted, yielded]; done)) ?_ (fun w' hw => ?_) ?_
              rotate_left
              focus (clear hw; go_simp; (try exact rfl))
              try go_frame
              refine LexRG.yes rfl (by first | rfl | (simp [Region.wanted, yielded]; done)) ?_ (fun w' hw => ?_) ?_
              rotate_left
              focus (clear hw; go_simp; (try exact rfl))
              try go_frame
              refine LexRG.no rfl (by first | rfl | (simp [Region.wanted, yielded]; done)) ?_
              try go_frame
              refine LexRG.no rfl (by first | rfl | (simp [Region.wanted, yielded]; done)) ?_
              try go_frame
              refine LexRG.no rfl (by first | rfl | (simp [Region.wanted, yielded]; done)) ?_
              try go_frame
              refine LexRG.no rfl (by first | rfl | (simp [Region.wanted, yielded]; done)) ?_
              try go_frame
              refine LexRG.no rfl (by first | rfl | (simp [Region.wanted, yielded]; done)) ?_
              try go_frame
              refine LexRG.no rfl (by first | rfl | (simp [Region.wanted, yielded]; done)) ?_
              try go_frame
              refine LexRG.no rfl (by first | rfl | (simp [Region.wanted, yielded]; done)) ?_
              try go_frame
              refine LexRG.no rfl (by first | rfl | (simp [Region.wanted, yielded]; done)) ?_
              try go_frame
              refine LexRG.no rfl (by first | rfl | (simp [Region.wanted, yielded]; done)) ?_
              try go_frame
              refine LexRG.no rfl (by first | rfl | (simp [Region.wanted, yielded]; done)) ?_
              try go_frame
              refine LexRG.no rfl (by first | rfl | (simp [Region.wanted, yielded]; done)) ?_
              try go_frame
              refine LexRG.no rfl (by first | rfl | (simp [Region.wanted, yielded]; done)) ?_
              try go_frame
              refine LexRG.no rfl (by first | rfl | (simp [Region.wanted, yielded]; done)) ?_
              try go_frame
              refine LexRG.no rfl (by first | rfl | (simp [Region.wanted, yielded]; done)) ?_
              try go_frame
              refine LexRG.yes rfl (by first | rfl | (simp [Region.wanted, yielded]; done)) ?_ (fun w' hw => ?_) ?_
              rotate_left
              focus (clear hw; go_simp; (try exact rfl))
              try go_frame
              refine LexRG.nil ?_
              refine wpAnyL_writes [26] (by kernel_rfl) (LexW.cons rfl ?_)
              try go_frame
              go_wp2_with fail
              refine ⟨fun _ => T.out.2, LexW.nil ?_⟩
              have S4 : All (fun w' => ((Below w.heap.size w w' ∧ akSR.at_ w' w'.heap.size [.slice A5 x.as_.length c5] x.as_) ∧ lnSR.at_ w' w'.heap.size [.slice (some ⟨b, off, none⟩) x.ls.length c6] x.ls) ∧ w'.heap[w.heap.size]? = some (.cells #[.int .i64 x.st, .int .i64 x.epoch, .int .i64 x.gen, .slice A3 x.conf.length c3, .bool x.paused, .slice A5 x.as_.length c5, .slice (some ⟨b, off, none⟩) x.ls.length c6, .int .i64 x.ticket, .int .i64 x.h.id, .int .i64 x.h.no, .int .i64 x.h.acked, .int .i64 x.h.since] 70 (0, 0))) _ := ⟨T.out.1, T.out.2.1⟩
              go_wp2_with fail
              go_roundw
              case rel => exact ⟨0 + 1, by omega, by go_num, HQ, S4⟩
              case measure => simp [intOf]; omega
            · obtain ⟨m, rfl⟩ : ∃ m, k = m + 1 := ⟨k - 1, by omega⟩
              obtain ⟨z, hz, hz0⟩ := ln_elem_at (lnS_rows S.out.1.2).2 (show m < x.ls.length by omega)
              have HZ := Lib.hid hz
              have wm : IntKind.i64.wrap (m : Int) = (m : Int) := IntWalk.i64_in _ (by omega)
              have wt : ((m : Nat) : Int).toNat = m := by simp
              have m1 : (m : Int) < (x.ls.length : Int) := by omega
              have k1a : (m : Int) + 1 < (x.ls.length : Int) := by omega
              have k2a : (0 : Int) ≤ (m : Int) + 1 := by omega
              have kt : ((m : Int) + 1).toNat = m + 1 := by omega
              have m2 : decide ((0 : Int) < (m : Int) + 1) = true := by (simp; try omega)
              have T : All (fun w' => ((Below w.heap.size w w' ∧ akSR.at_ w' w'.heap.size [.slice A5 x.as_.length c5] x.as_) ∧ lnSR.at_ w' w'.heap.size [.slice (some ⟨b, off, none⟩) x.ls.length c6] x.ls) ∧ (w'.heap[w.heap.size]? = some (.cells #[.int .i64 x.st, .int .i64 x.epoch, .int .i64 x.gen, .slice A3 x.conf.length c3, .bool x.paused, .slice A5 x.as_.length c5, .slice (some ⟨b, off, none⟩) x.ls.length c6, .int .i64 x.ticket, .int .i64 x.h.id, .int .i64 x.h.no, .int .i64 x.h.acked, .int .i64 x.h.since] 70 (0, 0)) ∧ ((w'.cell? ⟨b, off + (m + 1) * 7, none⟩ = some (.int .i64 y.sock) ∧ w'.cell? ⟨b, off + (m + 1) * 7 + 1, none⟩ = some (.string y.db) ∧ w'.cell? ⟨b, off + (m + 1) * 7 + 2, none⟩ = some (.int .i64 y.gen) ∧ w'.cell? ⟨b, off + (m + 1) * 7 + 3, none⟩ = some (.int .i64 y.st) ∧ w'.cell? ⟨b, off + (m + 1) * 7 + 4, none⟩ = some (.int .i64 y.since) ∧ w'.cell? ⟨b, off + (m + 1) * 7 + 5, none⟩ = some (.int .i64 y.asker) ∧ w'.cell? ⟨b, off + (m + 1) * 7 + 6, none⟩ = some (.int .i64 y.lease)) ∧ w'.cell? ⟨b, off + m * 7, none⟩ = some (.int .i64 z.sock)))) wr := ⟨S.out.1, S.out.2, ⟨e0, e1, e2, e3, e4, e5, e6⟩, hz0⟩
              by_cases hzy : y.sock ≤ z.sock
              · have t1 : decide (y.sock ≤ z.sock) = true := by simp [hzy]
                have HE := Lib.hid (lists_badL HY.out (fun h => by have := h.2 z (by omega) HZ.out; omega))
                clear hzy hz k0 S HNX e0 e1 e2 e3 e4 e5 e6
                refine wp_region_open 100 (fun w' => w'.heap[w.heap.size]? = some (.cells #[.int .i64 x.st, .int .i64 x.epoch, .int .i64 x.gen, .slice A3 x.conf.length c3, .bool x.paused, .slice A5 x.as_.length c5, .slice (some ⟨b, off, none⟩) x.ls.length c6, .int .i64 x.ticket, .int .i64 x.h.id, .int .i64 x.h.no, .int .i64 x.h.acked, .int .i64 x.h.since] 70 (0, 0)) ∧ ((w'.cell? ⟨b, off + (m + 1) * 7, none⟩ = some (.int .i64 y.sock) ∧ w'.cell? ⟨b, off + (m + 1) * 7 + 1, none⟩ = some (.string y.db) ∧ w'.cell? ⟨b, off + (m + 1) * 7 + 2, none⟩ = some (.int .i64 y.gen) ∧ w'.cell? ⟨b, off + (m + 1) * 7 + 3, none⟩ = some (.int .i64 y.st) ∧ w'.cell? ⟨b, off + (m + 1) * 7 + 4, none⟩ = some (.int .i64 y.since) ∧ w'.cell? ⟨b, off + (m + 1) * 7 + 5, none⟩ = some (.int .i64 y.asker) ∧ w'.cell? ⟨b, off + (m + 1) * 7 + 6, none⟩ = some (.int .i64 y.lease)) ∧ w'.cell? ⟨b, off + m * 7, none⟩ = some (.int .i64 z.sock))) (by kernel_rfl) ?_
                replace T := T.drew
                refine wpAnyL_readsG [0, 1, 2, 3, 4] (fuel := 22) (by kernel_rfl) T.out.2 ?_
                refine LexRG.yes rfl (by first | rfl | (simp [Region.wanted, yielded]; done)) ?_ (fun w' hw => ?_) ?_
                rotate_left
                focus (clear hw; go_simp; (try exact rfl))
                try go_frame
                refine LexRG.yes rfl (by first | rfl | (simp [Region.wanted, yielded]; done)) ?_ (fun w' hw => ?_) ?_
                rotate_left
                focus (have hw2 := hw.1; have q6 := var_cell hw2 6; clear hw2; clear hw; go_simp; (try exact rfl))
                try go_frame
                refine LexRG.yes rfl (by first | rfl | (simp [Region.wanted, yielded]; done)) ?_ (fun w' hw => ?_) ?_
                rotate_left
                focus (clear hw; go_simp; (try exact rfl))
                try go_frame
                refine LexRG.yes rfl (by first | rfl | (simp [Region.wanted, yielded]; done)) ?_ (fun w' hw => ?_) ?_
                rotate_left
                focus (clear hw; go_simp; (try exact rfl))
                try go_frame
                refine LexRG.yes rfl (by first | rfl | (simp [Region.wanted, yielded]; done)) ?_ (fun w' hw => ?_) ?_
                rotate_left
                focus (obtain ⟨g0, g1, g2, g3, g4, g5, g6⟩ := hw.2.1; clear hw; go_simp; (try exact rfl))
                try go_frame
                refine LexRG.nil ?_
                refine wpAnyL_one (i := 5) (by kernel_rfl) ?_
                refine lexA_get rfl ?_
                try go_frame
                go_wp2_with fail
                refine (lineOkS_rep (lnC y) y wr.drew (ln_at _ _ _) HF.out).mono ?_
                rw [HB.out]
                rintro e V1 ⟨rfl, hb⟩
                replace T := T.later hb
                clear hb
                go_wp2_with fail
                refine ⟨fun _ => T.out.2, ?_⟩
                refine wpAnyL_readsG [6, 7, 8, 9, 10, 11, 12, 13, 14, 15, 16, 17, 18, 19, 20, 21, 22, 23, 24, 25] (fuel := 1) (by kernel_rfl) T.out.2 ?_
                refine LexRG.yes rfl (by first | rfl | (simp [Region.wanted, yielded]; done)) ?_ (fun w' hw => ?_) ?_
                rotate_left
                focus (clear hw; go_simp; (try exact rfl))
                try go_frame
                refine LexRG.yes rfl (by first | rfl | (simp [Region.wanted, yielded]; done)) ?_ (fun w' hw => ?_) ?_
                rotate_left
                focus (clear hw; go_simp; (try exact rfl))
                try go_frame
                refine LexRG.yes rfl (by first | rfl | (simp [Region.wanted, yielded]; done)) ?_ (fun w' hw => ?_) ?_
                rotate_left
                focus (clear hw; go_simp; (try exact rfl))
                try go_frame
                refine LexRG.yes rfl (by first | rfl | (simp [Region.wanted, yielded]; done)) ?_ (fun w' hw => ?_) ?_
                rotate_left
                focus (clear hw; go_simp; (try exact rfl))
                try go_frame
                refine LexRG.yes rfl (by first | rfl | (simp [Region.wanted, yielded]; done)) ?_ (fun w' hw => ?_) ?_
                rotate_left
                focus (clear hw; go_simp; (try exact rfl))
                try go_frame
                refine LexRG.yes rfl (by first | rfl | (simp [Region.wanted, yielded]; done)) ?_ (fun w' hw => ?_) ?_
                rotate_left
                focus (clear hw; go_simp; (try exact rfl))
                try go_frame
                refine LexRG.yes rfl (by first | rfl | (simp [Region.wanted, yielded]; done)) ?_ (fun w' hw => ?_) ?_
                rotate_left
                focus (have hw2 := hw.1; have q6 := var_cell hw2 6; clear hw2; clear hw; go_simp; (try exact rfl))
                try go_frame
                refine LexRG.yes rfl (by first | rfl | (simp [Region.wanted, yielded]; done)) ?_ (fun w' hw => ?_) ?_
                rotate_left
                focus (clear hw; go_simp; (try exact rfl))
                try go_frame
                refine LexRG.yes rfl (by first | rfl | (simp [Region.wanted, yielded]; done)) ?_ (fun w' hw => ?_) ?_
                rotate_left
                focus (clear hw; go_simp; (try exact rfl))
                try go_frame
                refine LexRG.yes rfl (by first | rfl | (simp [Region.wanted, yielded]; done)) ?_ (fun w' hw => ?_) ?_
                rotate_left
                focus (clear hw; go_simp; (try exact rfl))
                try go_frame
                refine LexRG.yes rfl (by first | rfl | (simp [Region.wanted, yielded]; done)) ?_ (fun w' hw => ?_) ?_
                rotate_left
                focus (clear hw; go_simp; (try exact rfl))
                try go_frame
                refine LexRG.yes rfl (by first | rfl | (simp [Region.wanted, yielded]; done)) ?_ (fun w' hw => ?_) ?_
                rotate_left
                focus (have g9 := hw.2.2; clear hw; go_simp; (try exact rfl))
                try go_frame
                refine LexRG.yes rfl (by first | rfl | (simp [Region.wanted, yielded]; done)) ?_ (fun w' hw => ?_) ?_
                rotate_left
                focus (clear hw; go_simp; (try exact rfl))
                try go_frame
                refine LexRG.yes rfl (by first | rfl | (simp [Region.wanted, yielded]; done)) ?_ (fun w' hw => ?_) ?_
                rotate_left
                focus (have hw2 := hw.1; have q6 := var_cell hw2 6; clear hw2; clear hw; go_simp; (try exact rfl))
                try go_frame
                refine LexRG.yes rfl (by first | rfl | (simp [Region.wanted, yielded]; done)) ?_ (fun w' hw => ?_) ?_
                rotate_left
                focus (clear hw; go_simp; (try exact rfl))
                try go_frame
                refine LexRG.yes rfl (by first | rfl | (simp [Region.wanted, yielded]; done)) ?_ (fun w' hw => ?_) ?_
                rotate_left
                focus (clear hw; go_simp; (try exact rfl))
                try go_frame
                refine LexRG.yes rfl (by first | rfl | (simp [Region.wanted, yielded]; done)) ?_ (fun w' hw => ?_) ?_
                rotate_left
                focus (clear hw; go_simp; (try exact rfl))
                try go_frame
                refine LexRG.yes rfl (by first | rfl | (simp [Region.wanted, yielded]; done)) ?_ (fun w' hw => ?_) ?_
                rotate_left
                focus (obtain ⟨g0, g1, g2, g3, g4, g5, g6⟩ := hw.2.1; clear hw; go_simp; (try exact rfl))
                try go_frame
                refine LexRG.yes rfl (by first | rfl | (simp [Region.wanted, yielded]; done)) ?_ (fun w' hw => ?_) ?_
                rotate_left
                focus (clear hw; go_simp; (try exact rfl))
                try go_frame
                refine LexRG.yes rfl (by first | rfl | (simp [Region.wanted, yielded]; done)) ?_ (fun w' hw => ?_) ?_
                rotate_left
                focus (clear hw; go_simp; (try exact rfl))
                try go_frame
                refine LexRG.nil ?_
                refine wpAnyL_writes [26] (by kernel_rfl) (LexW.cons rfl ?_)
                try go_frame
                go_wp2_with fail
                refine ⟨fun _ => T.out.2, LexW.nil ?_⟩
                go_wp2_with fail
                go_ret
                exact ⟨by rw [HE.out]; exact rfl, T.out.1.1.1⟩
              · have t1 : decide (y.sock ≤ z.sock) = false := by (simp [hzy]; try omega)
                have HQ := Lib.hid (HNX.out ⟨HB.out, fun z2 h0 hz2 => by simp only [Nat.add_sub_cancel] at hz2; rw [HZ.out] at hz2; injection hz2 with hz2; subst hz2; omega⟩)
                clear hzy hz k0 S HNX e0 e1 e2 e3 e4 e5 e6
                refine wp_region_open 100 (fun w' => w'.heap[w.heap.size]? = some (.cells #[.int .i64 x.st, .int .i64 x.epoch, .int .i64 x.gen, .slice A3 x.conf.length c3, .bool x.paused, .slice A5 x.as_.length c5, .slice (some ⟨b, off, none⟩) x.ls.length c6, .int .i64 x.ticket, .int .i64 x.h.id, .int .i64 x.h.no, .int .i64 x.h.acked, .int .i64 x.h.since] 70 (0, 0)) ∧ ((w'.cell? ⟨b, off + (m + 1) * 7, none⟩ = some (.int .i64 y.sock) ∧ w'.cell? ⟨b, off + (m + 1) * 7 + 1, none⟩ = some (.string y.db) ∧ w'.cell? ⟨b, off + (m + 1) * 7 + 2, none⟩ = some (.int .i64 y.gen) ∧ w'.cell? ⟨b, off + (m + 1) * 7 + 3, none⟩ = some (.int .i64 y.st) ∧ w'.cell? ⟨b, off + (m + 1) * 7 + 4, none⟩ = some (.int .i64 y.since) ∧ w'.cell? ⟨b, off + (m + 1) * 7 + 5, none⟩ = some (.int .i64 y.asker) ∧ w'.cell? ⟨b, off + (m + 1) * 7 + 6, none⟩ = some (.int .i64 y.lease)) ∧ w'.cell? ⟨b, off + m * 7, none⟩ = some (.int .i64 z.sock))) (by kernel_rfl) ?_
                replace T := T.drew
                refine wpAnyL_readsG [0, 1, 2, 3, 4] (fuel := 22) (by kernel_rfl) T.out.2 ?_
                refine LexRG.yes rfl (by first | rfl | (simp [Region.wanted, yielded]; done)) ?_ (fun w' hw => ?_) ?_
                rotate_left
                focus (clear hw; go_simp; (try exact rfl))
                try go_frame
                refine LexRG.yes rfl (by first | rfl | (simp [Region.wanted, yielded]; done)) ?_ (fun w' hw => ?_) ?_
                rotate_left
                focus (have hw2 := hw.1; have q6 := var_cell hw2 6; clear hw2; clear hw; go_simp; (try exact rfl))
                try go_frame
                refine LexRG.yes rfl (by first | rfl | (simp [Region.wanted, yielded]; done)) ?_ (fun w' hw => ?_) ?_
                rotate_left
                focus (clear hw; go_simp; (try exact rfl))
                try go_frame
                refine LexRG.yes rfl (by first | rfl | (simp [Region.wanted, yielded]; done)) ?_ (fun w' hw => ?_) ?_
                rotate_left
                focus (clear hw; go_simp; (try exact rfl))
                try go_frame
                refine LexRG.yes rfl (by first | rfl | (simp [Region.wanted, yielded]; done)) ?_ (fun w' hw => ?_) ?_
                rotate_left
                focus (obtain ⟨g0, g1, g2, g3, g4, g5, g6⟩ := hw.2.1; clear hw; go_simp; (try exact rfl))
                try go_frame
                refine LexRG.nil ?_
                refine wpAnyL_one (i := 5) (by kernel_rfl) ?_
                refine lexA_get rfl ?_
                try go_frame
                go_wp2_with fail
                refine (lineOkS_rep (lnC y) y wr.drew (ln_at _ _ _) HF.out).mono ?_
                rw [HB.out]
                rintro e V1 ⟨rfl, hb⟩
                replace T := T.later hb
                clear hb
                go_wp2_with fail
                refine ⟨fun _ => T.out.2, ?_⟩
                refine wpAnyL_readsG [6, 7, 8, 9, 10, 11, 12, 13, 14, 15, 16, 17, 18, 19, 20, 21, 22, 23, 24, 25] (fuel := 1) (by kernel_rfl) T.out.2 ?_
                refine LexRG.yes rfl (by first | rfl | (simp [Region.wanted, yielded]; done)) ?_ (fun w' hw => ?_) ?_
                rotate_left
                focus (clear hw; go_simp; (try exact rfl))
                try go_frame
                refine LexRG.yes rfl (by first | rfl | (simp [Region.wanted, yielded]; done)) ?_ (fun w' hw => ?_) ?_
                rotate_left
                focus (clear hw; go_simp; (try exact rfl))
                try go_frame
                refine LexRG.yes rfl (by first | rfl | (simp [Region.wanted, yielded]; done)) ?_ (fun w' hw => ?_) ?_
                rotate_left
                focus (clear hw; go_simp; (try exact rfl))
                try go_frame
                refine LexRG.yes rfl (by first | rfl | (simp [Region.wanted, yielded]; done)) ?_ (fun w' hw => ?_) ?_
                rotate_left
                focus (clear hw; go_simp; (try exact rfl))
                try go_frame
                refine LexRG.yes rfl (by first | rfl | (simp [Region.wanted, yielded]; done)) ?_ (fun w' hw => ?_) ?_
                rotate_left
                focus (clear hw; go_simp; (try exact rfl))
                try go_frame
                refine LexRG.yes rfl (by first | rfl | (simp [Region.wanted, yielded]; done)) ?_ (fun w' hw => ?_) ?_
                rotate_left
                focus (clear hw; go_simp; (try exact rfl))
                try go_frame
                refine LexRG.yes rfl (by first | rfl | (simp [Region.wanted, yielded]; done)) ?_ (fun w' hw => ?_) ?_
                rotate_left
                focus (have hw2 := hw.1; have q6 := var_cell hw2 6; clear hw2; clear hw; go_simp; (try exact rfl))
                try go_frame
                refine LexRG.yes rfl (by first | rfl | (simp [Region.wanted, yielded]; done)) ?_ (fun w' hw => ?_) ?_
                rotate_left
                focus (clear hw; go_simp; (try exact rfl))
                try go_frame
                refine LexRG.yes rfl (by first | rfl | (simp [Region.wanted, yielded]; done)) ?_ (fun w' hw => ?_) ?_
                rotate_left
                focus (clear hw; go_simp; (try exact rfl))
                try go_frame
                refine LexRG.yes rfl (by first | rfl | (simp [Region.wanted, yielded]; done)) ?_ (fun w' hw => ?_) ?_
                rotate_left
                focus (clear hw; go_simp; (try exact rfl))
                try go_frame
                refine LexRG.yes rfl (by first | rfl | (simp [Region.wanted, yielded]; done)) ?_ (fun w' hw => ?_) ?_
                rotate_left
                focus (clear hw; go_simp; (try exact rfl))
                try go_frame
                refine LexRG.yes rfl (by first | rfl | (simp [Region.wanted, yielded]; done)) ?_ (fun w' hw => ?_) ?_
                rotate_left
                focus (have g9 := hw.2.2; clear hw; go_simp; (try exact rfl))
                try go_frame
                refine LexRG.yes rfl (by first | rfl | (simp [Region.wanted, yielded]; done)) ?_ (fun w' hw => ?_) ?_
                rotate_left
                focus (clear hw; go_simp; (try exact rfl))
                try go_frame
                refine LexRG.yes rfl (by first | rfl | (simp [Region.wanted, yielded]; done)) ?_ (fun w' hw => ?_) ?_
                rotate_left
                focus (have hw2 := hw.1; have q6 := var_cell hw2 6; clear hw2; clear hw; go_simp; (try exact rfl))
                try go_frame
                refine LexRG.yes rfl (by first | rfl | (simp [Region.wanted, yielded]; done)) ?_ (fun w' hw => ?_) ?_
                rotate_left
                focus (clear hw; go_simp; (try exact rfl))
                try go_frame
                refine LexRG.yes rfl (by first | rfl | (simp [Region.wanted, yielded]; done)) ?_ (fun w' hw => ?_) ?_
                rotate_left
                focus (clear hw; go_simp; (try exact rfl))
                try go_frame
                refine LexRG.yes rfl (by first | rfl | (simp [Region.wanted, yielded]; done)) ?_ (fun w' hw => ?_) ?_
                rotate_left
                focus (clear hw; go_simp; (try exact rfl))
                try go_frame
                refine LexRG.yes rfl (by first | rfl | (simp [Region.wanted, yielded]; done)) ?_ (fun w' hw => ?_) ?_
                rotate_left
                focus (obtain ⟨g0, g1, g2, g3, g4, g5, g6⟩ := hw.2.1; clear hw; go_simp; (try exact rfl))
                try go_frame
                refine LexRG.yes rfl (by first | rfl | (simp [Region.wanted, yielded]; done)) ?_ (fun w' hw => ?_) ?_
                rotate_left
                focus (clear hw; go_simp; (try exact rfl))
                try go_frame
                refine LexRG.yes rfl (by first | rfl | (simp [Region.wanted, yielded]; done)) ?_ (fun w' hw => ?_) ?_
                rotate_left
                focus (clear hw; go_simp; (try exact rfl))
                try go_frame
                refine LexRG.nil ?_
                refine wpAnyL_writes [26] (by kernel_rfl) (LexW.cons rfl ?_)
                try go_frame
                go_wp2_with fail
                refine ⟨fun _ => T.out.2, LexW.nil ?_⟩
                clear wm wt kt
                have S4 : All (fun w' => ((Below w.heap.size w w' ∧ akSR.at_ w' w'.heap.size [.slice A5 x.as_.length c5] x.as_) ∧ lnSR.at_ w' w'.heap.size [.slice (some ⟨b, off, none⟩) x.ls.length c6] x.ls) ∧ w'.heap[w.heap.size]? = some (.cells #[.int .i64 x.st, .int .i64 x.epoch, .int .i64 x.gen, .slice A3 x.conf.length c3, .bool x.paused, .slice A5 x.as_.length c5, .slice (some ⟨b, off, none⟩) x.ls.length c6, .int .i64 x.ticket, .int .i64 x.h.id, .int .i64 x.h.no, .int .i64 x.h.acked, .int .i64 x.h.since] 70 (0, 0))) _ := ⟨T.out.1, T.out.2.1⟩
                go_wp2_with fail
                go_roundw
                case rel => exact ⟨m + 1 + 1, by omega, by go_num, HQ, S4⟩
                case measure => simp [intOf]; omega
        · have he : k = x.ls.length := by omega
          subst he
          have q5 := var_cell S.out.2 5
          have q7 := var_cell S.out.2 7
          have HX : Hid (pB (ListsP x) = pB ((x.as_.length ≤ 6 ∧ x.ls.length ≤ 9) ∧ (0 ≤ x.ticket ∧ x.ticket ≤ 65535))) := Lib.hid (pB_iff (by
            rw [lists_iff]
            exact ⟨fun h => h.2, fun h => ⟨⟨HA.out, fun i y hy => HU.out i y (List.getElem?_eq_some_iff.1 hy).1 hy⟩, h⟩⟩))
          clear HU HA hlt hk
          by_cases l5 : x.as_.length ≤ 6
          · have t5 : decide ((x.as_.length : Int) ≤ 6) = true := by (simp; try omega)
            by_cases l6 : x.ls.length ≤ 9
            · have t6 : decide ((x.ls.length : Int) ≤ 9) = true := by (simp; try omega)
              have HE : Hid (pB (ListsP x) = inI x.ticket 0 65535) := Lib.hid (HX.out.trans (pB_of (by unfold inI; rw [decide_eq_true_eq]; exact ⟨fun h => ⟨⟨l5, l6⟩, h⟩, fun h => h.2⟩)))
              clear HX l5 l6
              go_wp2_with fail
              refine (l1In_b (b := inI x.ticket 0 65535) rfl _).mono ?_
              rintro e w1 ⟨rfl, rfl⟩
              go_wp2_with fail
              go_ret
              exact ⟨by rw [HE.out]; exact rfl, S.out.1.1.1⟩
            · have t6 : decide ((x.ls.length : Int) ≤ 9) = false := by (simp; try omega)
              have HE : Hid (pB (ListsP x) = false) := Lib.hid (HX.out.trans (pB_no (fun h => l6 h.1.2)))
              clear HX l5 l6
              go_wp2_with fail
              go_ret
              exact ⟨by rw [HE.out]; exact rfl, S.out.1.1.1⟩
          · have t5 : decide ((x.as_.length : Int) ≤ 6) = false := by (simp; try omega)
            have HE : Hid (pB (ListsP x) = false) := Lib.hid (HX.out.trans (pB_no (fun h => l5 h.1.1)))
            clear HX l5
            go_wp2_with fail
            go_ret
            exact ⟨by rw [HE.out]; exact rfl, S.out.1.1.1⟩

end Go.Proofs.Ytgdhhhibkhfdlaa
