/- The walk of FnRecs. -/
import Derived.Test.YtannedjfmgflpaaGreatDoorDrawRec
import Derived.Test.YtannedjfmgflpaaGreatDoorBent
import Derived.Deep.RegionHeld3
namespace Go.Proofs.YtannedjfmgflpaaGreatDoor
open Go.RowKit Go.Maps
set_option maxRecDepth 100000
set_option linter.unusedVariables false

theorem RetGet.lit4 {w w' : World} {a b k n o : Int} {t : ByteArray} {y : Bool} {e : Ending} (h : RetGet w ((a, b, ⟨k, n, o, t⟩), y) e w') : e = .returned (.tuple #[.int .i64 a, .int .i64 b, .agg #[.int .i64 k, .int .i64 n, .int .i64 o, .string t], .bool y]) ∧ Below w.heap.size w w' := h
theorem samer_any (A B : Option Addr) (c c' M M' : Nat) (a b : List UInt8) (w : World) (h : Reads w M 1 A a.length (bys a)) (h' : Reads w M' 1 B b.length (bys b)) :
    Calls Tryz.prog 12 #[.slice A a.length c, .slice B b.length c'] w fun e w' => e = .returned (.bool (a == b)) ∧ w = w' := by
  have h1 := string_run (P := Tryz.prog) (c := c) Tryz.underlying22 Tryz.underlying5 Tryz.underlying9 h
  have h2 := string_run (P := Tryz.prog) (c := c') Tryz.underlying22 Tryz.underlying5 Tryz.underlying9 h'
  go_enter Tryz.func12, Tryz.ntmps12
  go_wp2
  go_ret
  simp
/-- What GetRec's answer says, if it is yes. -/
theorem getP_back {l : List UInt8} {x y : Int} {s : Rec} (h : getP l = ((x, y, s), true)) : putR x y s = l ∧ s.text.size ≤ 1048576 := by
  unfold getP at h
  split at h
  · rename_i hg
    injection h with h _
    injection h with h1 h
    injection h with h2 h3
    subst h1 h2 h3
    exact ⟨get_back hg, by have := gtS_size l 8; show (gtS l 8).size ≤ 1048576; omega⟩
  · injection h with _ h; cases h

theorem fr_cells {w' : World} {D E : Nat} {a b c : Int} {d : ByteArray} {a' b' c' : Int} {d' : ByteArray} (h : w'.heap[D]? = some (.cells #[.int .i64 a, .int .i64 b, .int .i64 c, .string d] 25 (0, 0))) (h' : w'.heap[E]? = some (.cells #[.int .i64 a', .int .i64 b', .int .i64 c', .string d'] 25 (0, 0))) :
    w'.cell? ⟨D, 0, none⟩ = some (.int .i64 a) ∧ w'.cell? ⟨D, 1, none⟩ = some (.int .i64 b) ∧ w'.cell? ⟨D, 2, none⟩ = some (.int .i64 c) ∧ w'.cell? ⟨D, 3, none⟩ = some (.string d) ∧ w'.cell? ⟨E, 0, none⟩ = some (.int .i64 a') ∧ w'.cell? ⟨E, 1, none⟩ = some (.int .i64 b') ∧ w'.cell? ⟨E, 2, none⟩ = some (.int .i64 c') ∧ w'.cell? ⟨E, 3, none⟩ = some (.string d') :=
  ⟨var_cell h 0, var_cell h 1, var_cell h 2, var_cell h 3, var_cell h' 0, var_cell h' 1, var_cell h' 2, var_cell h' 3⟩

set_option maxRecDepth 100000 in
set_option maxHeartbeats 16000000 in
theorem walk_FnRecs (a0 : Option Addr) (len0 cap0 : Nat) (z0 : List Int) (w : World) (w0 : IsRow .u8 w a0 len0 cap0 z0) (hg : Given w) :
    Calls Tryz.prog 3 #[.slice a0 len0 cap0] w fun e w' => e = .returned (.bool true) ∧ Below w.heap.size w w' := by
  obtain ⟨code, rfl, _, hr⟩ := w0.reads
  clear w0
  by_cases hbig : (1048576 : Int) < code.length
  · go_enter Tryz.func3, Tryz.ntmps3
    go_wp2_with (first | (go_at_call 4; go_in) | fail)
    go_ret
    exact ⟨rfl, Below.refl _ _⟩
  · have hn : code.length ≤ 1048576 := by omega
    have S : All (fun w' => (Below w.heap.size w w' ∧ Given w' ∧ Reads w' w'.heap.size 1 a0 code.length (bys code))) w := ⟨Below.refl _ _, hg, hr⟩
    clear hg hr
    go_enter Tryz.func3, Tryz.ntmps3
    go_wp2_with (first | (go_at_call 4; go_in) | fail)
    refine (drawPutRec_any a0 cap0 code w S.out.2.2 hn).mono ?_
    rintro e W1 ⟨ga, gb, ⟨rk, rn, ro, rt⟩, rfl, hts, hb⟩
    replace hts : rt.size ≤ 100 := hts
    replace S := S.later hb
    clear hb
    have HD := heap_alloc_new W1 (.cells #[.int .i64 rk, .int .i64 rn, .int .i64 ro, .string rt] 25)
    have S2 : All (fun w' => ((Below w.heap.size w w' ∧ Given w' ∧ Reads w' w'.heap.size 1 a0 code.length (bys code)) ∧ Hid (w'.heap[W1.heap.size]? = some (.cells #[.int .i64 rk, .int .i64 rn, .int .i64 ro, .string rt] 25 (0, 0))))) (W1.alloc (.cells #[.int .i64 rk, .int .i64 rn, .int .i64 ro, .string rt] 25)) := ⟨(S.alloc _).out, Lib.hid HD⟩
    clear S HD
    go_wp2_with fail
    generalize W1.alloc (.cells #[.int .i64 rk, .int .i64 rn, .int .i64 ro, .string rt] 25) = W2 at S2 ⊢
    generalize W1.heap.size = D5 at S2 ⊢
    refine (putRI_any ga gb ⟨rk, rn, ro, rt⟩ W2 S2.out.1.2.1 (by show rt.size ≤ 1048576; omega)).mono ?_
    have hLn := putR_len ga gb ⟨rk, rn, ro, rt⟩
    obtain ⟨L, hL⟩ : ∃ L, putR ga gb ⟨rk, rn, ro, rt⟩ = L := ⟨_, rfl⟩
    rw [hL] at hLn ⊢
    have HL := Lib.hid hL
    clear hL
    rintro e W3 ⟨v3, rfl, o3, hb⟩
    obtain ⟨A6, c6, rfl, hk6, _, r6, _⟩ := o3.shape
    have S3 : All (fun w' => (((Below w.heap.size w w' ∧ Given w' ∧ Reads w' w'.heap.size 1 a0 code.length (bys code)) ∧ Hid (w'.heap[D5]? = some (.cells #[.int .i64 rk, .int .i64 rn, .int .i64 ro, .string rt] 25 (0, 0)))) ∧ Reads w' w'.heap.size 1 A6 L.length (bys L))) W3 := ⟨(S2.later hb).out, r6⟩
    clear hb o3 r6 S2
    go_wp2_with fail
    refine (drawGetRec_any a0 cap0 code W3 S3.out.1.1.2.2 hn S3.out.1.1.2.1).mono ?_
    rintro e W4 ⟨A7, c7, l7, rfl, hl7, hk7, r7, hb⟩
    have S4 : All (fun w' => ((((Below w.heap.size w w' ∧ Given w' ∧ Reads w' w'.heap.size 1 a0 code.length (bys code)) ∧ Hid (w'.heap[D5]? = some (.cells #[.int .i64 rk, .int .i64 rn, .int .i64 ro, .string rt] 25 (0, 0)))) ∧ Reads w' w'.heap.size 1 A6 L.length (bys L)) ∧ Reads w' w'.heap.size 1 A7 l7.length (bys l7))) W4 := ⟨(S3.later hb).out, r7⟩
    clear hb r7 S3
    obtain ⟨⟨⟨x, y, sk, sn, so, st⟩, is⟩, hp⟩ : ∃ p, getP l7 = p := ⟨_, rfl⟩
    have HP := Lib.hid hp
    clear hp
    go_wp2_with fail
    refine (getRI_any A7 c7 l7 W4 S4.out.2 (by omega) hk7 S4.out.1.1.1.2.1).mono ?_
    rw [HP.out]
    rintro e W5 hret
    obtain ⟨rfl, hb⟩ := hret.lit4
    replace S4 := S4.later hb
    have HD := heap_alloc_new W5 (.cells #[.int .i64 sk, .int .i64 sn, .int .i64 so, .string st] 25)
    have S5 : All (fun w' => (((((Below w.heap.size w w' ∧ Given w' ∧ Reads w' w'.heap.size 1 a0 code.length (bys code)) ∧ Hid (w'.heap[D5]? = some (.cells #[.int .i64 rk, .int .i64 rn, .int .i64 ro, .string rt] 25 (0, 0)))) ∧ Reads w' w'.heap.size 1 A6 L.length (bys L)) ∧ Reads w' w'.heap.size 1 A7 l7.length (bys l7)) ∧ Hid (w'.heap[W5.heap.size]? = some (.cells #[.int .i64 sk, .int .i64 sn, .int .i64 so, .string st] 25 (0, 0))))) (W5.alloc (.cells #[.int .i64 sk, .int .i64 sn, .int .i64 so, .string st] 25)) := ⟨(S4.alloc _).out, Lib.hid HD⟩
    clear hb hret S4 HD
    go_wp2_with fail
    generalize W5.alloc (.cells #[.int .i64 sk, .int .i64 sn, .int .i64 so, .string st] 25) = W6 at S5 ⊢
    generalize W5.heap.size = D10 at S5 ⊢
    refine (getRS_any A7 c7 l7 W6 S5.out.1.2 (by omega) hk7 S5.out.1.1.1.1.2.1).mono ?_
    rw [HP.out]
    rintro e W7 hret
    obtain ⟨rfl, hb⟩ := hret.lit4
    replace S5 := S5.later hb
    clear hb hret
    obtain ⟨ok, hok⟩ : ∃ ok, recB ⟨rk, rn, ro, rt⟩ = ok := ⟨_, rfl⟩
    have HOK := Lib.hid hok
    clear hok
    have oo : (ok != ok) = false := by simp
    obtain ⟨e0, e1, e2, e3⟩ := rec_box (r := ⟨rk, rn, ro, rt⟩) S5.out.1.1.1.2.out
    have hD5 : D5 < W7.heap.size := (Array.getElem?_eq_some_iff.1 S5.out.1.1.1.2.out).1
    go_wp2_with fail
    replace S5 := S5.alloc (.cells #[.int .i64 sk, .int .i64 sn, .int .i64 so, .string st] 25)
    clear e0 e1 e2 e3 hD5
    generalize W7.alloc (.cells #[.int .i64 sk, .int .i64 sn, .int .i64 so, .string st] 25) = W8 at S5 ⊢
    have SD := S5.drew
    cases is
    · skip
      clear SD
      obtain ⟨e0, e1, e2, e3⟩ := rec_box (r := ⟨rk, rn, ro, rt⟩) S5.out.1.1.1.2.out
      refine wp_region_open 100 (fun w' => w'.cell? ⟨D5, 0, none⟩ = some (.int .i64 rk) ∧ w'.cell? ⟨D5, 1, none⟩ = some (.int .i64 rn) ∧ w'.cell? ⟨D5, 2, none⟩ = some (.int .i64 ro) ∧ w'.cell? ⟨D5, 3, none⟩ = some (.string rt)) (by kernel_rfl) ?_
      replace S5 := S5.drew
      refine wpAnyL_readsG [0, 2] (fuel := 20) (by kernel_rfl) ⟨e0, e1, e2, e3⟩ ?_
      iterate 2 (refine LexRG.yes rfl rfl ?_ (fun w' hw => ?_) ?_; rotate_left; focus (obtain ⟨e0, e1, e2, e3⟩ := hw; go_simp; (try exact rfl)); (try go_frame))
      refine LexRG.nil ?_
      clear e0 e1 e2 e3
      generalize W8.drew = W8 at S5 ⊢
      refine wpAnyL_one (i := 1) (by kernel_rfl) ?_
      refine lexA_get rfl ?_
      try go_frame
      go_wp2_with fail
      refine (recOkI_any ⟨rk, rn, ro, rt⟩ W8 S5.out.1.1.1.1.2.1 (by show rt.size ≤ 1048576; omega)).mono ?_
      rintro e W9 ⟨rfl, hb⟩
      rw [HOK.out]
      replace S5 := S5.later hb
      clear hb
      go_wp2_with fail
      refine ⟨fun _ => rec_box (r := ⟨rk, rn, ro, rt⟩) S5.out.1.1.1.2.out, ?_⟩
      refine wpAnyL_one (i := 3) (by kernel_rfl) ?_
      refine lexA_get rfl ?_
      try go_frame
      go_wp2_with fail
      refine (recOkS_any ⟨rk, rn, ro, rt⟩ W9).mono ?_
      rintro e W10 ⟨rfl, hb⟩
      rw [HOK.out]
      replace S5 := S5.later hb
      clear hb
      go_wp2_with fail
      refine ⟨fun _ => rec_box (r := ⟨rk, rn, ro, rt⟩) S5.out.1.1.1.2.out, ?_⟩
      have oo2 : (ok != ok) = false := by simp
      refine wpAnyL_readsG [4, 5, 6, 7, 8, 9, 10, 11, 12, 13, 14, 15, 16, 17, 18, 19, 20, 21] (fuel := 0) (by kernel_rfl) (rec_box (r := ⟨rk, rn, ro, rt⟩) S5.out.1.1.1.2.out) ?_
      refine LexRG.yes rfl (by first | rfl | (simp [Region.wanted, yielded]; done)) ?_ (fun w' hw => ?_) ?_
      rotate_left
      focus (clear hw; go_simp; (try exact rfl))
      try go_frame
      refine LexRG.yes rfl (by first | rfl | (simp [Region.wanted, yielded]; done)) ?_ (fun w' hw => ?_) ?_
      rotate_left
      focus (clear hw; go_simp; (try exact rfl))
      try go_frame
      refine LexRG.yes rfl (by first | rfl | (simp [Region.wanted, yielded]; done)) ?_ (fun w' hw => ?_) ?_
      rotate_left
      focus (clear hw; go_simp; (try exact rfl))
      try go_frame
      refine LexRG.yes rfl (by first | rfl | (simp [Region.wanted, yielded]; done)) ?_ (fun w' hw => ?_) ?_
      rotate_left
      focus (clear hw; go_simp; (try exact rfl))
      try go_frame
      refine LexRG.yes rfl (by first | rfl | (simp [Region.wanted, yielded]; done)) ?_ (fun w' hw => ?_) ?_
      rotate_left
      focus (clear hw; go_simp; (try exact rfl))
      try go_frame
      refine LexRG.yes rfl (by first | rfl | (simp [Region.wanted, yielded]; done)) ?_ (fun w' hw => ?_) ?_
      rotate_left
      focus (clear hw; go_simp; (try exact rfl))
      try go_frame
      refine LexRG.yes rfl (by first | rfl | (simp [Region.wanted, yielded]; done)) ?_ (fun w' hw => ?_) ?_
      rotate_left
      focus (clear hw; go_simp; (try exact rfl))
      try go_frame
      refine LexRG.yes rfl (by first | rfl | (simp [Region.wanted, yielded]; done)) ?_ (fun w' hw => ?_) ?_
      rotate_left
      focus (clear hw; go_simp; (try exact rfl))
      try go_frame
      refine LexRG.yes rfl (by first | rfl | (simp [Region.wanted, yielded]; done)) ?_ (fun w' hw => ?_) ?_
      rotate_left
      focus (clear hw; go_simp; (try exact rfl))
      try go_frame
      refine LexRG.no rfl (by first | rfl | (simp [Region.wanted, yielded]; done)) ?_
      try go_frame
      refine LexRG.no rfl (by first | rfl | (simp [Region.wanted, yielded]; done)) ?_
      try go_frame
      refine LexRG.no rfl (by first | rfl | (simp [Region.wanted, yielded]; done)) ?_
      try go_frame
      refine LexRG.no rfl (by first | rfl | (simp [Region.wanted, yielded]; done)) ?_
      try go_frame
      refine LexRG.no rfl (by first | rfl | (simp [Region.wanted, yielded]; done)) ?_
      try go_frame
      refine LexRG.no rfl (by first | rfl | (simp [Region.wanted, yielded]; done)) ?_
      try go_frame
      refine LexRG.no rfl (by first | rfl | (simp [Region.wanted, yielded]; done)) ?_
      try go_frame
      refine LexRG.yes rfl (by first | rfl | (simp [Region.wanted, yielded]; done)) ?_ (fun w' hw => ?_) ?_
      rotate_left
      focus (clear hw; go_simp; (try exact rfl))
      try go_frame
      refine LexRG.yes rfl (by first | rfl | (simp [Region.wanted, yielded]; done)) ?_ (fun w' hw => ?_) ?_
      rotate_left
      focus (clear hw; go_simp; (try exact rfl))
      try go_frame
      refine LexRG.nil ?_
      refine wpAnyL_writes [] (by kernel_rfl) (LexW.nil ?_)
      obtain ⟨e0, e1, e2, e3⟩ := rec_box (r := ⟨rk, rn, ro, rt⟩) S5.out.1.1.1.2.out
      go_wp2_with fail
      refine (recOkI_any ⟨rk, rn, ro, rt⟩ _ S5.out.1.1.1.1.2.1 (by show rt.size ≤ 1048576; omega)).mono ?_
      rintro e W13 ⟨rfl, hb⟩
      rw [HOK.out]
      replace S5 := S5.later hb
      clear hb e0 e1 e2 e3
      have split : ok = false ∨ (ok = true ∧ ga < 0) ∨ (ok = true ∧ 0 ≤ ga ∧ 65535 < ga) ∨ (ok = true ∧ (0 ≤ ga ∧ ga ≤ 65535) ∧ gb < 0) ∨ (ok = true ∧ (0 ≤ ga ∧ ga ≤ 65535) ∧ 0 ≤ gb ∧ 65535 < gb) ∨ (ok = true ∧ (0 ≤ ga ∧ ga ≤ 65535) ∧ 0 ≤ gb ∧ gb ≤ 65535) := by
        cases ok <;> simp
        omega
      rcases split with rfl | ⟨rfl, h1⟩ | ⟨rfl, h1, h2⟩ | ⟨rfl, h1, h2⟩ | ⟨rfl, h1, h2, h3⟩ | ⟨rfl, h1, h2⟩
      · obtain rfl : L = [] := by
          rw [← HL.out]
          refine putR_no fun hc => ?_
          obtain ⟨c1, c2, c3⟩ := hc
          first
            | omega
            | (rw [HOK.out] at c1; cases c1)
        have hfin := S5.out.1.1.1.1.1
        clear S5
        go_wp2_with fail
        go_ret
        exact ⟨rfl, hfin⟩
      · obtain rfl : L = [] := by
          rw [← HL.out]
          refine putR_no fun hc => ?_
          obtain ⟨c1, c2, c3⟩ := hc
          first
            | omega
            | (rw [HOK.out] at c1; cases c1)
        have hfin := S5.out.1.1.1.1.1
        clear S5
        go_wp2_with fail
        go_ret
        exact ⟨rfl, hfin⟩
      · obtain rfl : L = [] := by
          rw [← HL.out]
          refine putR_no fun hc => ?_
          obtain ⟨c1, c2, c3⟩ := hc
          first
            | omega
            | (rw [HOK.out] at c1; cases c1)
        have n1 : ¬ ga < 0 := by omega
        have hfin := S5.out.1.1.1.1.1
        clear S5
        go_wp2_with fail
        go_ret
        exact ⟨rfl, hfin⟩
      · obtain rfl : L = [] := by
          rw [← HL.out]
          refine putR_no fun hc => ?_
          obtain ⟨c1, c2, c3⟩ := hc
          first
            | omega
            | (rw [HOK.out] at c1; cases c1)
        obtain ⟨h1, h1'⟩ := h1
        have n1 : ¬ ga < 0 := by omega
        have n2 : ¬ 65535 < ga := by omega
        have hfin := S5.out.1.1.1.1.1
        clear S5
        go_wp2_with fail
        go_ret
        exact ⟨rfl, hfin⟩
      · obtain rfl : L = [] := by
          rw [← HL.out]
          refine putR_no fun hc => ?_
          obtain ⟨c1, c2, c3⟩ := hc
          first
            | omega
            | (rw [HOK.out] at c1; cases c1)
        obtain ⟨h1, h1'⟩ := h1
        have n1 : ¬ ga < 0 := by omega
        have n2 : ¬ 65535 < ga := by omega
        have n3 : ¬ gb < 0 := by omega
        have hfin := S5.out.1.1.1.1.1
        clear S5
        go_wp2_with fail
        go_ret
        exact ⟨rfl, hfin⟩
      · obtain ⟨g1, g2, g3, g4, g5⟩ := rec_round HOK.out h1 h2
        have HT := Lib.hid (fun (i : Nat) (b b' : UInt8) => rec_turned (i := i) (b := b) (b' := b') HOK.out h1 h2)
        have HGP := Lib.hid (show getP L = ((ga, gb, ⟨rk, rn, ro, rt⟩), true) by rw [HL.out] at g1 g2 g3 g4; rw [getP_yes g1, g2, g3, g4])
        rw [HL.out] at g5 HT
        clear g1 g2 g3 g4
        obtain ⟨h1, h1'⟩ := h1
        obtain ⟨h2, h2'⟩ := h2
        have n1 : ¬ ga < 0 := by omega
        have n2 : ¬ 65535 < ga := by omega
        have n3 : ¬ gb < 0 := by omega
        have n4 : ¬ 65535 < gb := by omega
        go_wp2_with fail
        refine (getRI_any A6 c6 L _ S5.out.1.1.2 (by omega) hk6 S5.out.1.1.1.1.2.1).mono ?_
        rw [HGP.out]
        rintro e W14 hret
        obtain ⟨rfl, hb⟩ := hret.lit4
        have HD := heap_alloc_new W14 (.cells #[.int .i64 rk, .int .i64 rn, .int .i64 ro, .string rt] 25)
        have S6 : All (fun w' => ((((Below w.heap.size w w' ∧ Given w' ∧ Reads w' w'.heap.size 1 a0 code.length (bys code)) ∧ Hid (w'.heap[D5]? = some (.cells #[.int .i64 rk, .int .i64 rn, .int .i64 ro, .string rt] 25 (0, 0)))) ∧ Reads w' w'.heap.size 1 A6 L.length (bys L)) ∧ Hid (w'.heap[W14.heap.size]? = some (.cells #[.int .i64 rk, .int .i64 rn, .int .i64 ro, .string rt] 25 (0, 0))))) (W14.alloc (.cells #[.int .i64 rk, .int .i64 rn, .int .i64 ro, .string rt] 25)) := ⟨⟨((S5.later hb).alloc _).out.1.1, Lib.hid HD⟩⟩
        clear hb hret S5 HD
        clear h1 h1' h2 h2' n1 n2 n3 n4
        go_wp2_with fail
        generalize W14.alloc (.cells #[.int .i64 rk, .int .i64 rn, .int .i64 ro, .string rt] 25) = W15 at S6 ⊢
        generalize W14.heap.size = D18 at S6 ⊢
        refine (bent_any a0 A6 cap0 c6 code L W15 S6.out.1.1.1.2.2 S6.out.1.2 hn (by omega) (by omega)).mono ?_
        rintro e W16 ⟨v16, L', rfl, ⟨ti, tb, tb', hti, hne, hL'⟩, oL, hb⟩
        have HNO := Lib.hid (show getP L' = ((0, 0, zeroRec), false) by rw [hL']; exact getP_no (HT.out ti tb tb' hti hne))
        have hlen' : L'.length ≤ 111 := by rw [hL']; simpa using hLn
        obtain ⟨A16, c16, rfl, hk16, _, r16, _⟩ := oL.shape
        replace S6 := S6.later hb
        clear hb oL hti hne hL' HT
        go_wp2_with fail
        refine (getRI_any A16 c16 L' W16 r16 (by omega) hk16 S6.out.1.1.1.2.1).mono ?_
        rw [HNO.out]
        rintro e W17 hret
        obtain ⟨rfl, hb⟩ := RetGet.lit4 (k := 0) (n := 0) (o := 0) (t := ⟨#[]⟩) hret
        replace S6 := S6.later hb
        clear hb hret r16
        have G1 := fun a b w => rec_guard .eql a b ⟨rk, rn, ro, rt⟩ ⟨rk, rn, ro, rt⟩ w
        have G2 := fun w => rec_equal ⟨rk, rn, ro, rt⟩ ⟨rk, rn, ro, rt⟩ w
        rw [recEqB_self] at G2
        unfold recC at G1 G2
        obtain ⟨e0, e1, e2, e3⟩ := rec_box (r := ⟨rk, rn, ro, rt⟩) S6.out.1.1.2.out
        obtain ⟨f0, f1, f2, f3⟩ := rec_box (r := ⟨rk, rn, ro, rt⟩) S6.out.2.out
        have hD5 : D5 < W17.heap.size := (Array.getElem?_eq_some_iff.1 S6.out.1.1.2.out).1
        have hD18 : D18 < W17.heap.size := (Array.getElem?_eq_some_iff.1 S6.out.2.out).1
        have aa : (ga == ga) = true := by simp
        have bb : (gb == gb) = true := by simp
        have ll : (L.length : Int) ≤ 160 := by omega
        have hfin := S6.out.1.1.1.1
        clear S6
        go_wp2_with fail
        go_ret
        exact ⟨rfl, belowD (hfin.alloc hfin.size _) 0⟩
    · obtain ⟨hpb, hsz⟩ := getP_back HP.out
      go_region_held3 (fun w' => w'.cell? ⟨D5, 0, none⟩ = some (.int .i64 rk) ∧ w'.cell? ⟨D5, 1, none⟩ = some (.int .i64 rn) ∧ w'.cell? ⟨D5, 2, none⟩ = some (.int .i64 ro) ∧ w'.cell? ⟨D5, 3, none⟩ = some (.string rt) ∧ w'.cell? ⟨D10, 0, none⟩ = some (.int .i64 sk) ∧ w'.cell? ⟨D10, 1, none⟩ = some (.int .i64 sn) ∧ w'.cell? ⟨D10, 2, none⟩ = some (.int .i64 so) ∧ w'.cell? ⟨D10, 3, none⟩ = some (.string st)) (exact (fr_cells S5.out.1.1.1.2.out S5.out.2.out)) (first
        | (go_at_call 10
           refine (recOkI_any ⟨rk, rn, ro, rt⟩ _ SD.out.1.1.1.1.2.1 (by show rt.size ≤ 1048576; omega)).mono ?_
           rintro e W9 ⟨rfl, hb⟩
           rw [HOK.out]
           replace S5 := SD.later hb
           clear SD hb)
        | (go_at_call 11
           refine (recOkS_any ⟨rk, rn, ro, rt⟩ _).mono ?_
           rintro e W10 ⟨rfl, hb⟩
           rw [HOK.out]
           replace S5 := S5.later hb
           clear hb)
        | (go_at_call 6
           refine (putRI_any x y ⟨sk, sn, so, st⟩ _ S5.out.1.1.1.1.2.1 hsz).mono ?_
           rw [hpb]
           rintro e W11 ⟨v11, rfl, o11, hb⟩
           obtain ⟨A11, c11, rfl, _, _, r11, _⟩ := o11.shape
           replace S5 := S5.later hb
           clear hb o11)
        | (go_at_call 12
           refine (samer_any _ _ _ _ _ _ l7 l7 _ r11 S5.out.1.2).mono ?_
           rw [show (l7 == l7) = true by simp]
           rintro e W12 ⟨rfl, rfl⟩
           clear r11))
      obtain ⟨e0, e1, e2, e3⟩ := rec_box (r := ⟨rk, rn, ro, rt⟩) S5.out.1.1.1.2.out
      go_wp2_with fail
      refine (recOkI_any ⟨rk, rn, ro, rt⟩ _ S5.out.1.1.1.1.2.1 (by show rt.size ≤ 1048576; omega)).mono ?_
      rintro e W13 ⟨rfl, hb⟩
      rw [HOK.out]
      replace S5 := S5.later hb
      clear hb e0 e1 e2 e3
      have split : ok = false ∨ (ok = true ∧ ga < 0) ∨ (ok = true ∧ 0 ≤ ga ∧ 65535 < ga) ∨ (ok = true ∧ (0 ≤ ga ∧ ga ≤ 65535) ∧ gb < 0) ∨ (ok = true ∧ (0 ≤ ga ∧ ga ≤ 65535) ∧ 0 ≤ gb ∧ 65535 < gb) ∨ (ok = true ∧ (0 ≤ ga ∧ ga ≤ 65535) ∧ 0 ≤ gb ∧ gb ≤ 65535) := by
        cases ok <;> simp
        omega
      rcases split with rfl | ⟨rfl, h1⟩ | ⟨rfl, h1, h2⟩ | ⟨rfl, h1, h2⟩ | ⟨rfl, h1, h2, h3⟩ | ⟨rfl, h1, h2⟩
      · obtain rfl : L = [] := by
          rw [← HL.out]
          refine putR_no fun hc => ?_
          obtain ⟨c1, c2, c3⟩ := hc
          first
            | omega
            | (rw [HOK.out] at c1; cases c1)
        have hfin := S5.out.1.1.1.1.1
        clear S5
        go_wp2_with fail
        go_ret
        exact ⟨rfl, hfin⟩
      · obtain rfl : L = [] := by
          rw [← HL.out]
          refine putR_no fun hc => ?_
          obtain ⟨c1, c2, c3⟩ := hc
          first
            | omega
            | (rw [HOK.out] at c1; cases c1)
        have hfin := S5.out.1.1.1.1.1
        clear S5
        go_wp2_with fail
        go_ret
        exact ⟨rfl, hfin⟩
      · obtain rfl : L = [] := by
          rw [← HL.out]
          refine putR_no fun hc => ?_
          obtain ⟨c1, c2, c3⟩ := hc
          first
            | omega
            | (rw [HOK.out] at c1; cases c1)
        have n1 : ¬ ga < 0 := by omega
        have hfin := S5.out.1.1.1.1.1
        clear S5
        go_wp2_with fail
        go_ret
        exact ⟨rfl, hfin⟩
      · obtain rfl : L = [] := by
          rw [← HL.out]
          refine putR_no fun hc => ?_
          obtain ⟨c1, c2, c3⟩ := hc
          first
            | omega
            | (rw [HOK.out] at c1; cases c1)
        obtain ⟨h1, h1'⟩ := h1
        have n1 : ¬ ga < 0 := by omega
        have n2 : ¬ 65535 < ga := by omega
        have hfin := S5.out.1.1.1.1.1
        clear S5
        go_wp2_with fail
        go_ret
        exact ⟨rfl, hfin⟩
      · obtain rfl : L = [] := by
          rw [← HL.out]
          refine putR_no fun hc => ?_
          obtain ⟨c1, c2, c3⟩ := hc
          first
            | omega
            | (rw [HOK.out] at c1; cases c1)
        obtain ⟨h1, h1'⟩ := h1
        have n1 : ¬ ga < 0 := by omega
        have n2 : ¬ 65535 < ga := by omega
        have n3 : ¬ gb < 0 := by omega
        have hfin := S5.out.1.1.1.1.1
        clear S5
        go_wp2_with fail
        go_ret
        exact ⟨rfl, hfin⟩
      · obtain ⟨g1, g2, g3, g4, g5⟩ := rec_round HOK.out h1 h2
        have HT := Lib.hid (fun (i : Nat) (b b' : UInt8) => rec_turned (i := i) (b := b) (b' := b') HOK.out h1 h2)
        have HGP := Lib.hid (show getP L = ((ga, gb, ⟨rk, rn, ro, rt⟩), true) by rw [HL.out] at g1 g2 g3 g4; rw [getP_yes g1, g2, g3, g4])
        rw [HL.out] at g5 HT
        clear g1 g2 g3 g4
        obtain ⟨h1, h1'⟩ := h1
        obtain ⟨h2, h2'⟩ := h2
        have n1 : ¬ ga < 0 := by omega
        have n2 : ¬ 65535 < ga := by omega
        have n3 : ¬ gb < 0 := by omega
        have n4 : ¬ 65535 < gb := by omega
        go_wp2_with fail
        refine (getRI_any A6 c6 L _ S5.out.1.1.2 (by omega) hk6 S5.out.1.1.1.1.2.1).mono ?_
        rw [HGP.out]
        rintro e W14 hret
        obtain ⟨rfl, hb⟩ := hret.lit4
        have HD := heap_alloc_new W14 (.cells #[.int .i64 rk, .int .i64 rn, .int .i64 ro, .string rt] 25)
        have S6 : All (fun w' => ((((Below w.heap.size w w' ∧ Given w' ∧ Reads w' w'.heap.size 1 a0 code.length (bys code)) ∧ Hid (w'.heap[D5]? = some (.cells #[.int .i64 rk, .int .i64 rn, .int .i64 ro, .string rt] 25 (0, 0)))) ∧ Reads w' w'.heap.size 1 A6 L.length (bys L)) ∧ Hid (w'.heap[W14.heap.size]? = some (.cells #[.int .i64 rk, .int .i64 rn, .int .i64 ro, .string rt] 25 (0, 0))))) (W14.alloc (.cells #[.int .i64 rk, .int .i64 rn, .int .i64 ro, .string rt] 25)) := ⟨⟨((S5.later hb).alloc _).out.1.1, Lib.hid HD⟩⟩
        clear hb hret S5 HD
        clear h1 h1' h2 h2' n1 n2 n3 n4
        go_wp2_with fail
        generalize W14.alloc (.cells #[.int .i64 rk, .int .i64 rn, .int .i64 ro, .string rt] 25) = W15 at S6 ⊢
        generalize W14.heap.size = D18 at S6 ⊢
        refine (bent_any a0 A6 cap0 c6 code L W15 S6.out.1.1.1.2.2 S6.out.1.2 hn (by omega) (by omega)).mono ?_
        rintro e W16 ⟨v16, L', rfl, ⟨ti, tb, tb', hti, hne, hL'⟩, oL, hb⟩
        have HNO := Lib.hid (show getP L' = ((0, 0, zeroRec), false) by rw [hL']; exact getP_no (HT.out ti tb tb' hti hne))
        have hlen' : L'.length ≤ 111 := by rw [hL']; simpa using hLn
        obtain ⟨A16, c16, rfl, hk16, _, r16, _⟩ := oL.shape
        replace S6 := S6.later hb
        clear hb oL hti hne hL' HT
        go_wp2_with fail
        refine (getRI_any A16 c16 L' W16 r16 (by omega) hk16 S6.out.1.1.1.2.1).mono ?_
        rw [HNO.out]
        rintro e W17 hret
        obtain ⟨rfl, hb⟩ := RetGet.lit4 (k := 0) (n := 0) (o := 0) (t := ⟨#[]⟩) hret
        replace S6 := S6.later hb
        clear hb hret r16
        have G1 := fun a b w => rec_guard .eql a b ⟨rk, rn, ro, rt⟩ ⟨rk, rn, ro, rt⟩ w
        have G2 := fun w => rec_equal ⟨rk, rn, ro, rt⟩ ⟨rk, rn, ro, rt⟩ w
        rw [recEqB_self] at G2
        unfold recC at G1 G2
        obtain ⟨e0, e1, e2, e3⟩ := rec_box (r := ⟨rk, rn, ro, rt⟩) S6.out.1.1.2.out
        obtain ⟨f0, f1, f2, f3⟩ := rec_box (r := ⟨rk, rn, ro, rt⟩) S6.out.2.out
        have hD5 : D5 < W17.heap.size := (Array.getElem?_eq_some_iff.1 S6.out.1.1.2.out).1
        have hD18 : D18 < W17.heap.size := (Array.getElem?_eq_some_iff.1 S6.out.2.out).1
        have aa : (ga == ga) = true := by simp
        have bb : (gb == gb) = true := by simp
        have ll : (L.length : Int) ≤ 160 := by omega
        have hfin := S6.out.1.1.1.1
        clear S6
        go_wp2_with fail
        go_ret
        exact ⟨rfl, belowD (hfin.alloc hfin.size _) 0⟩

end Go.Proofs.YtannedjfmgflpaaGreatDoor
