/- What the theorem needs, out of many texts. -/
import Derived.Test.YtaigdioimldknaaFar5
import Derived.Deep.CutBlock
import Derived.Lib.ConvBytes
namespace Go.Proofs.Ytaigdioimldknaa
open Go.RowKit
set_option maxRecDepth 100000
set_option linter.unusedVariables false
theorem skB_alt (x : Sk) : skB x = (inI x.id 1 9999 && (inI x.hold 1 3 && (decide ((x.inn.length : Int) ≤ 240) && (if (x.kind == 1) = true then (x.st == 0) && (x.done == 0) else if (x.kind == 2) = true then inI x.st 0 2 && inI x.done 0 (x.out.length : Int) else false)))) := by
  unfold skB
  by_cases h1 : x.kind = 1
  · have e1 : (x.kind == 1) = true := by simp [h1]
    have e2 : inI x.kind 1 2 = true := by unfold inI; simp [h1]
    rw [e1, e2]; simp
  · have e1 : (x.kind == 1) = false := by simp [h1]
    by_cases h2 : x.kind = 2
    · have e3 : (x.kind == 2) = true := by simp [h2]
      have e2 : inI x.kind 1 2 = true := by unfold inI; simp [h2]
      rw [e1, e2, e3]; simp
    · have e3 : (x.kind == 2) = false := by simp [h2]
      have e2 : inI x.kind 1 2 = false := by unfold inI; simp; omega
      rw [e1, e2, e3]; simp
set_option maxHeartbeats 4000000 in
theorem sockOk_any (cs : List Value) (x : Sk) (w : World) (h : skR.at_ w w.heap.size cs x) :
    Calls Try.prog 22 #[.agg cs.toArray] w fun e w' => e = .returned (.bool (skB x)) ∧ Below w.heap.size w w' := by
  obtain ⟨A4, c4, A5, c5, rfl, hc4, _, hc5, _⟩ := sk_cells h
  have hl4 : x.inn.length ≤ 9223372036854775807 := Nat.le_trans hc4.1 hc4.2
  have hl5 : x.out.length ≤ 9223372036854775807 := Nat.le_trans hc5.1 hc5.2
  clear h hc4 hc5
  obtain ⟨b0, h0⟩ : ∃ b, inI x.id 1 9999 = b := ⟨_, rfl⟩
  obtain ⟨b2, h2⟩ : ∃ b, inI x.hold 1 3 = b := ⟨_, rfl⟩
  obtain ⟨b3, h3⟩ : ∃ b, decide ((x.inn.length : Int) ≤ 240) = b := ⟨_, rfl⟩
  obtain ⟨k1, h4⟩ : ∃ b, (x.kind == 1) = b := ⟨_, rfl⟩
  obtain ⟨k2, h4'⟩ : ∃ b, (x.kind == 2) = b := ⟨_, rfl⟩
  obtain ⟨s0, h5⟩ : ∃ b, (x.st == 0) = b := ⟨_, rfl⟩
  obtain ⟨d0, h6⟩ : ∃ b, (x.done == 0) = b := ⟨_, rfl⟩
  obtain ⟨i4, h7⟩ : ∃ b, inI x.st 0 2 = b := ⟨_, rfl⟩
  obtain ⟨i5, h8⟩ : ∃ b, inI x.done 0 (x.out.length : Int) = b := ⟨_, rfl⟩
  have HC := Lib.hid (show skB x = (b0 && (b2 && (b3 && (if k1 = true then s0 && d0 else if k2 = true then i4 && i5 else false)))) by
    rw [skB_alt, h0, h2, h3, h4, h4', h5, h6, h7, h8])
  cases b0
  · skip
    go_enter Try.func22, Try.ntmps22
    go_wp2_with (go_at_call 84; refine (within_b (by assumption) _).mono ?_; rintro e w' ⟨rfl, rfl⟩)
    go_ret
    exact ⟨by rw [HC.out]; simp, Later.alloc w _⟩
  · skip
    cases b2
    · skip
      go_enter Try.func22, Try.ntmps22
      go_wp2_with (go_at_call 84; refine (within_b (by assumption) _).mono ?_; rintro e w' ⟨rfl, rfl⟩)
      go_ret
      exact ⟨by rw [HC.out]; simp, Later.alloc w _⟩
    · skip
      cases b3
      · skip
        have hl : 240 < (x.inn.length : Int) := by have := of_decide_eq_false h3; omega
        clear h3
        go_enter Try.func22, Try.ntmps22
        go_wp2_with (go_at_call 84; refine (within_b (by assumption) _).mono ?_; rintro e w' ⟨rfl, rfl⟩)
        go_ret
        exact ⟨by rw [HC.out]; simp, Later.alloc w _⟩
      · skip
        have hl : ¬ 240 < (x.inn.length : Int) := by have := of_decide_eq_true h3; omega
        clear h3
        cases k1
        · skip
          cases k2
          · skip
            go_enter Try.func22, Try.ntmps22
            go_wp2_with (go_at_call 84; refine (within_b (by assumption) _).mono ?_; rintro e w' ⟨rfl, rfl⟩)
            go_ret
            exact ⟨by rw [HC.out]; simp, Later.alloc w _⟩
          · skip
            cases i4
            · skip
              go_enter Try.func22, Try.ntmps22
              go_wp2_with (go_at_call 84; refine (within_b (by assumption) _).mono ?_; rintro e w' ⟨rfl, rfl⟩)
              go_ret
              exact ⟨by rw [HC.out]; simp, Later.alloc w _⟩
            · skip
              cases i5
              · skip
                go_enter Try.func22, Try.ntmps22
                go_wp2_with (go_at_call 84; refine (within_b (by assumption) _).mono ?_; rintro e w' ⟨rfl, rfl⟩)
                go_ret
                exact ⟨by rw [HC.out]; simp, Later.alloc w _⟩
              · skip
                go_enter Try.func22, Try.ntmps22
                go_wp2_with (go_at_call 84; refine (within_b (by assumption) _).mono ?_; rintro e w' ⟨rfl, rfl⟩)
                go_ret
                exact ⟨by rw [HC.out]; simp, Later.alloc w _⟩
        · skip
          cases s0
          · skip
            go_enter Try.func22, Try.ntmps22
            go_wp2_with (go_at_call 84; refine (within_b (by assumption) _).mono ?_; rintro e w' ⟨rfl, rfl⟩)
            go_ret
            exact ⟨by rw [HC.out]; simp, Later.alloc w _⟩
          · skip
            cases d0
            · skip
              go_enter Try.func22, Try.ntmps22
              go_wp2_with (go_at_call 84; refine (within_b (by assumption) _).mono ?_; rintro e w' ⟨rfl, rfl⟩)
              go_ret
              exact ⟨by rw [HC.out]; simp, Later.alloc w _⟩
            · skip
              go_enter Try.func22, Try.ntmps22
              go_wp2_with (go_at_call 84; refine (within_b (by assumption) _).mono ?_; rintro e w' ⟨rfl, rfl⟩)
              go_ret
              exact ⟨by rw [HC.out]; simp, Later.alloc w _⟩
/-- A socket of the call's own and a bool come back. -/
def RetSkB (w : World) (p : Sk × Bool) (e : Ending) (w' : World) : Prop := ∃ cs fp, e = .returned (.tuple #[.agg cs.toArray, .bool p.2]) ∧ skR.own w' w.heap.size cs p.1 fp ∧ Below w.heap.size w w'
theorem KB.own {w0 W : World} {S : Nat} {x : Sk} {v4 v5 o5 : Value} {d7 : Int} (h : KB w0 S x v4 v5 o5 d7 W) : skR.own W w0.heap.size [.int .i64 x.id, .int .i64 x.kind, .int .i64 x.hold, .bool x.shut, v4, v5, .int .i64 x.st, .int .i64 x.done] x (v4.ownBlock.toList ++ (v5.ownBlock.toList ++ [])) := sk_own h.inn h.out (sk_apart2 h.ap)
theorem getF_small (l : List UInt8) : (getF l).1.s.size ≤ 1048576 := by
  have ht := tx_size l
  have ht2 : (txF l).s.size ≤ 1048576 := Nat.le_trans ht (by decide)
  unfold getF
  (repeat' split) <;> first | exact ht2 | (simp [waitF, badF, zeroFr]; done) | exact (show (⟨#[]⟩ : ByteArray).size ≤ 1048576 by decide)
def ansF (x : Sk) : Fr × Int × Int := getF (x.out.drop x.done.toNat)
def ansB (x : Sk) : List UInt8 := allB (repL x.st (ansF x).1)
def ansC (x : Sk) : Sk × Bool := if (ansF x).2.2 = 0 ∧ x.inn.length + (ansB x).length ≤ 240 then ({ x with inn := x.inn ++ ansB x, st := repS x.st (ansF x).1, done := x.done + (ansF x).2.1 }, true) else (x, false)
def ansP (x : Sk) : Sk × Bool := if skB x = true ∧ x.kind = 2 ∧ x.shut = false then ansC x else (x, false)
theorem skB_line {x : Sk} (h : skB x = true) (hk : x.kind = 2) : inI x.st 0 2 = true ∧ ∃ d : Nat, x.done = (d : Int) ∧ d ≤ x.out.length ∧ x.done.toNat = d := by
  rw [skB_alt] at h
  have e1 : (x.kind == 1) = false := by simp [hk]
  have e2 : (x.kind == 2) = true := by simp [hk]
  rw [e1, e2] at h
  simp only [Bool.and_eq_true, if_true, Bool.false_eq_true, if_false] at h
  obtain ⟨_, _, _, h1, h2⟩ := h
  unfold inI at h2
  have h3 := of_decide_eq_true h2
  exact ⟨h1, x.done.toNat, by omega, by omega, rfl⟩
theorem allB_two (a b : Fr) : allB [a, b] = putF a ++ putF b := by simp [allB]
theorem allB_len (a b : Fr) : (allB [a, b]).length ≤ 204 := by
  rw [allB_two, List.length_append]
  have := putF_len a
  have := putF_len b
  omega
theorem allB_snoc {xs : List Fr} {k : Nat} {x : Fr} (h : xs[k]? = some x) : allB (xs.take (k + 1)) = allB (xs.take k) ++ putF x := by
  unfold allB
  rw [Rep.take_get h, List.flatMap_append]
  simp
set_option maxHeartbeats 16000000 in
theorem answer_box {w0 : World} {S : Nat} {x : Sk} {v4 v5 o5 : Value} {d7 : Int} (w : World) (h : KB w0 S x v4 v5 o5 d7 w) (hx : skB x = true) (hk : x.kind = 2) (hr : RoomSk x) :
    Calls Try.prog 94 #[.pointer (some ⟨S, 0, none⟩)] w fun e' w' => ∃ v4', e' = .returned (.bool (ansC x).2) ∧ KB w0 S (ansC x).1 v4' v5 o5 d7 w' := by
  obtain ⟨hst, d, hd, hdl, hdt⟩ := skB_line hx hk
  obtain ⟨i0, hi0, hz0, hz1, hz2⟩ := info_parts Try.info8
  obtain ⟨⟨⟨fk, fs, fst⟩, fn, fc⟩, hp⟩ : ∃ p, getF (x.out.drop d) = p := ⟨_, rfl⟩
  have HP := Lib.hid (show ansF x = (⟨fk, fs, fst⟩, fn, fc) by unfold ansF; rw [hdt, hp])
  have HGF := Lib.hid hp
  have hil := hr.1
  have HST := Lib.hid hst
  have hfs : fs.size ≤ 1048576 := by have h9 := getF_small (x.out.drop d); rw [hp] at h9; exact h9
  go_enter Try.func94, Try.ntmps94
  go_wp2_with fail
  refine (next_any d (⟨fk, fs, fst⟩, fn, fc) w h (by have := hr.2; omega) hd hdl hp).mono ?_
  rintro e1 W1 ⟨rfl, hb⟩
  have hK := h.later hb
  clear h hb hp hd hdt hst
  unfold frC
  go_upto_region 2 with (fail)
  replace hK := hK.later (Later.alloc W1 (.cells #[.int .i64 fk, .string fs, .int .i64 fst] 33))
  have hG := heap_alloc_new W1 (.cells #[.int .i64 fk, .string fs, .int .i64 fst] 33)
  generalize W1.alloc (.cells #[.int .i64 fk, .string fs, .int .i64 fst] 33) = W2 at hK hG ⊢
  generalize W1.heap.size = G at hG ⊢
  by_cases hc : fc = 0
  · subst hc
    obtain ⟨n, hn, hn1, hn2, _, hfr, _⟩ := getF_good (l := x.out.drop d) (by rw [HGF.out])
    rw [HGF.out] at hn hfr
    replace hn : fn = (n : Int) := hn
    replace hfr : frB ⟨fk, fs, fst⟩ = true := hfr
    subst hn
    obtain ⟨a, b, hab, ha, hb, _, _, _, _, _⟩ := repL_two HST.out hfr
    obtain ⟨st', hst'⟩ : ∃ s, repS x.st ⟨fk, fs, fst⟩ = s := ⟨_, rfl⟩
    have HAB := Lib.hid hab
    have HS := Lib.hid hst'
    have hdn : (x.done + (n : Int)) = x.done + (n : Int) := rfl
    have hol := hr.2
    have hdn2 : 0 ≤ x.done ∧ x.done ≤ 1048576 := by have := (skB_line hx hk).2; obtain ⟨d', h1, h2, _⟩ := this; omega
    have hnl : n ≤ 1048576 := by rw [List.length_drop] at hn2; omega
    obtain ⟨A4, c4, A5, c5, B5, m5, e5, rfl, rfl, rfl, hc4, hc5⟩ := hK.slices
    clear hab hst' hx hk hr hdl hn1 hn2 hdn hc4 hc5
    go_upto_region 4 with (fail)
    have T : All (fun w' => KB w0 S x (.slice A4 x.inn.length c4) (.slice A5 x.out.length c5) (.slice B5 m5 e5) d7 w' ∧ (w'.heap[S]? = some (.cells #[.slice A5 x.out.length c5, .int .i64 x.done, .int .i64 x.id, .int .i64 x.kind, .int .i64 x.hold, .bool x.shut, .slice A4 x.inn.length c4, .slice B5 m5 e5, .int .i64 x.st, .int .i64 d7] 113 (0, 0))) ∧ (w'.heap[G]? = some (.cells #[.int .i64 fk, .string fs, .int .i64 fst] 33 (0, 0)))) W2 := ⟨hK, hK.box, hG⟩
    refine wp_region_open 100 (fun w' => (w'.heap[S]? = some (.cells #[.slice A5 x.out.length c5, .int .i64 x.done, .int .i64 x.id, .int .i64 x.kind, .int .i64 x.hold, .bool x.shut, .slice A4 x.inn.length c4, .slice B5 m5 e5, .int .i64 x.st, .int .i64 d7] 113 (0, 0))) ∧ (w'.heap[G]? = some (.cells #[.int .i64 fk, .string fs, .int .i64 fst] 33 (0, 0)))) (by kernel_rfl) ?_
    replace T := T.drew
    clear hK hG
    generalize W2.drew = W2 at T ⊢
    refine wpAnyL_readsG [0, 1, 2, 3, 4, 5] (fuel := 6) (by kernel_rfl) T.out.2 ?_
    refine LexRG.yes rfl (by first | rfl | (simp [Region.wanted, yielded]; done)) ?_ (fun w' hw => ?_) ?_
    rotate_left
    focus (skip; clear hw; go_simp; (try exact rfl))
    try go_frame
    refine LexRG.yes rfl (by first | rfl | (simp [Region.wanted, yielded]; done)) ?_ (fun w' hw => ?_) ?_
    rotate_left
    focus (skip; clear hw; go_simp; (try exact rfl))
    try go_frame
    refine LexRG.yes rfl (by first | rfl | (simp [Region.wanted, yielded]; done)) ?_ (fun w' hw => ?_) ?_
    rotate_left
    focus (skip; clear hw; go_simp; (try exact rfl))
    try go_frame
    refine LexRG.yes rfl (by first | rfl | (simp [Region.wanted, yielded]; done)) ?_ (fun w' hw => ?_) ?_
    rotate_left
    focus (skip; clear hw; go_simp; (try exact rfl))
    try go_frame
    refine LexRG.yes rfl (by first | rfl | (simp [Region.wanted, yielded]; done)) ?_ (fun w' hw => ?_) ?_
    rotate_left
    focus (have hw2 := hw.1; have s8 := var_cell hw2 8; clear hw2; clear hw; go_simp; (try exact rfl))
    try go_frame
    refine LexRG.yes rfl (by first | rfl | (simp [Region.wanted, yielded]; done)) ?_ (fun w' hw => ?_) ?_
    rotate_left
    focus (have hw2 := hw.2; have f0 := var_cell hw2 0; have f1 := var_cell hw2 1; have f2 := var_cell hw2 2; clear hw2; clear hw; go_simp; (try exact rfl))
    try go_frame
    refine LexRG.nil ?_
    refine wpAnyL_one (i := 6) (by kernel_rfl) ?_
    refine lexA_get rfl ?_
    try go_frame
    go_wp2_with fail
    refine (reply_any x.st ⟨fk, fs, fst⟩ W2 hfs).mono ?_
    rw [HAB.out, HS.out]
    rintro e W3 ⟨A1, c1, rfl, o1, hb3⟩
    replace T := T.later hb3
    clear hb3
    go_wp2_with fail
    refine ⟨fun _ => T.out.2, ?_⟩
    refine wpAnyL_readsG [7, 8, 9] (fuel := 2) (by kernel_rfl) T.out.2 ?_
    refine LexRG.yes rfl (by first | rfl | (simp [Region.wanted, yielded]; done)) ?_ (fun w' hw => ?_) ?_
    rotate_left
    focus (skip; clear hw; go_simp; (try exact rfl))
    try go_frame
    refine LexRG.yes rfl (by first | rfl | (simp [Region.wanted, yielded]; done)) ?_ (fun w' hw => ?_) ?_
    rotate_left
    focus (skip; clear hw; go_simp; (try exact rfl))
    try go_frame
    refine LexRG.yes rfl (by first | rfl | (simp [Region.wanted, yielded]; done)) ?_ (fun w' hw => ?_) ?_
    rotate_left
    focus (skip; clear hw; go_simp; (try exact rfl))
    try go_frame
    refine LexRG.nil ?_
    refine wpAnyL_writes [10, 11] (by kernel_rfl) (LexW.cons rfl ?_)
    try go_frame
    go_wp2_with fail
    refine ⟨fun _ => T.out.2, LexW.cons rfl ?_⟩
    try go_frame
    go_wp2_with fail
    refine ⟨fun _ => T.out.2, LexW.nil ?_⟩
    try go_frame
    have hK := T.out.1
    have hAt : Reads W3 W3.heap.size 3 A1 2 (flatFr [a, b]) := Reads.of_own o1
    clear T o1
    have o0 := own_empty W3 W3.heap.size (Nat.le_refl _)
    have hB0 := Later.alloc W3 (.cells #[] 5)
    go_wp2
    go_loopw [8, 34] (fun q i wr => ∃ (k : Nat) (v : Value) (l : List UInt8), k ≤ 2 ∧ i = .int .i64 k ∧ v = q ∧ Hid (l = allB ([a, b].take k)) ∧ l.length ≤ 204 ∧ Below W3.heap.size W3 wr ∧ Owns wr W3.heap.size 5 v l) (fun _ i _ => 2 - (intOf i).toNat)
    case atStart => exact ⟨0, _, [], by omega, rfl, rfl, Lib.hid (by simp [allB]), by simp, hB0, o0⟩
    case round =>
      obtain ⟨k, v, l, hk, rfl, rfl, hl, hll, hbw, ho⟩ := hrel
      clear o0 hB0
      have FA := frS_elem (w := wr) (A := A1) (xs := [a, b]) (k := k) ((hAt.below hbw).more hbw.size)
      by_cases h2 : k < 2
      · obtain ⟨b9, off9, f, rfl, hbl, hf9, d0, d1, d2⟩ := FA h2
        have hfs9 : f.s.size ≤ 1048576 := by
          match k, h2 with
          | 0, _ => simp at hf9; subst hf9; exact ha
          | 1, _ => simp at hf9; subst hf9; exact hb
        have HF9 := Lib.hid hf9
        clear hf9 FA
        have hG9 := heap_alloc_new wr (.cells (frC f).toArray 33)
        have hbw2 := Later.trans hbw (Later.alloc wr (.cells (frC f).toArray 33))
        have ho2 := Owns.keep ho (Later.alloc wr (.cells (frC f).toArray 33))
        obtain ⟨P, hP⟩ : ∃ P, putF f = P := ⟨_, rfl⟩
        have HPF := Lib.hid hP
        have hPl : P.length ≤ 102 := by rw [← hP]; exact putF_len f
        clear hP ho hbw
        go_upto_region 9 with (fail)
        clear d0 d1 d2
        replace hG9 : (wr.alloc (.cells #[.int .i64 f.k, .string f.s, .int .i64 f.st] 33)).heap[wr.heap.size]? = some (.cells #[.int .i64 f.k, .string f.s, .int .i64 f.st] 33 (0, 0)) := hG9
        replace hbw2 : Below W3.heap.size W3 (wr.alloc (.cells #[.int .i64 f.k, .string f.s, .int .i64 f.st] 33)) := hbw2
        replace ho2 : Owns (wr.alloc (.cells #[.int .i64 f.k, .string f.s, .int .i64 f.st] 33)) W3.heap.size 5 v l := ho2
        generalize wr.alloc (.cells #[.int .i64 f.k, .string f.s, .int .i64 f.st] 33) = W5 at hG9 hbw2 ho2 ⊢
        have f0 := var_cell hG9 0
        have f1 := var_cell hG9 1
        have f2 := var_cell hG9 2
        go_wp2_with fail
        refine (putFrame_any f W5 hfs9).mono ?_
        rw [HPF.out]
        rintro e W6 ⟨vP, rfl, oP, hbP⟩
        obtain ⟨AP, cP, rfl, _, _, hrP, _⟩ := oP.shape
        replace hbw2 := Later.trans hbw2 hbP
        replace ho2 := Owns.keep ho2 hbP
        have hl9 : Hid (l ++ P = allB ([a, b].take (k + 1))) := Lib.hid (by rw [allB_snoc HF9.out, ← hl.out, HPF.out])
        have hll2 : (l ++ P).length ≤ 204 := by
          rw [hl9.out]
          have h1 := allB_len a b
          have h2' : (allB ([a, b].take (k + 1))).length ≤ (allB [a, b]).length := by
            match k, h2 with
            | 0, _ => simp [allB]
            | 1, _ => simp [allB]
          omega
        clear f0 f1 f2 hG9 oP hbP
        go_wp2_with (first
          | (at_builtin
             refine wpList_append_any _ rfl (.tmp 38) (.tmp 40) _ rfl W3.heap.size 5 i0 _ 1 1 Try.underlying22 hi0 hz0 hz1 hz2 rfl (by omega) v l.length (bys l) rfl ho2 W6.heap.size AP P.length cP (bys P) rfl hrP (bys_one P) (by simp only [maxLen]; omega) (by omega) hbw2.size ?_
             intro v3 w3 hown3 hg3 hat3
             refine Halt.go ?_)
          | fail)
        have hl3 : Owns w3 W3.heap.size 5 v3 (l ++ P) := by unfold Owns; rw [bys_append, List.length_append]; exact hown3
        have hbw3 : Below W3.heap.size W3 w3 := hbw2.grown hg3 hbw2.size (fun k hk => (ho2.lt k hk).1)
        clear hown3 hg3 hat3 hrP ho2 hbw2
        refine Halt.mk ?_
        go_wp2_with fail
        go_roundw
        case rel => exact ⟨k + 1, v3, l ++ P, by omega, by go_num, rfl, hl9, hll2, hbw3, hl3⟩
        case measure => simp [intOf]; omega
      · have he : k = 2 := by omega
        subst he
        clear FA
        have hl2 : Hid (l = ansB x) := Lib.hid (by rw [hl.out]; unfold ansB; rw [HP.out, HAB.out]; rfl)
        obtain ⟨Ab, cb, rfl, _, _, hrb, _⟩ := ho.shape
        have hK2 := hK.later hbw
        clear hl ho hbw
        go_wp2_with fail
        refine (receive_any wr hK2 Ab cb l hrb (by omega) (by omega)).mono ?_
        rintro e1 W6 (⟨h240, rfl, v4', hK3⟩ | ⟨h240, rfl, rfl⟩)
        · have HA : Hid (ansC x = ({ x with inn := x.inn ++ l, st := st', done := x.done + (n : Int) }, true)) := Lib.hid (by
            unfold ansC
            rw [HP.out, if_pos ⟨rfl, by rw [← hl2.out]; exact h240⟩, ← hl2.out]
            show ({ x with inn := x.inn ++ l, st := repS x.st ⟨fk, fs, fst⟩, done := x.done + (n : Int) }, true) = _
            rw [HS.out])
          obtain ⟨A7, c7, A8, c8, B7, m7, e7, rfl, e5', _, _, _⟩ := hK3.slices
          have k8 := var_cell hK3.box 8
          have kf8 := var_frozen hK3.box 8
          have hS3 := hK3.lt
          go_upto_region 14 with (fail)
          have hK4 : KB w0 S { x with inn := x.inn ++ l, st := st' } (.slice A7 (x.inn ++ l).length c7) (.slice A5 x.out.length c5) (.slice B5 m5 e5) d7 (W6.setCell ⟨S, 8, none⟩ (.int .i64 st')) := hK3.put 8 _ _ rfl rfl rfl
          clear k8 kf8 hK3 hS3
          generalize (W6.setCell ⟨S, 8, none⟩ (.int .i64 st')) = W7 at hK4 ⊢
          have k1 := var_cell hK4.box 1
          have kf1 := var_frozen hK4.box 1
          have hS4 := hK4.lt
          have hK5 : KB w0 S { x with inn := x.inn ++ l, st := st', done := x.done + (n : Int) } (.slice A7 (x.inn ++ l).length c7) (.slice A5 x.out.length c5) (.slice B5 m5 e5) d7 (W7.setCell ⟨S, 1, none⟩ (.int .i64 (x.done + (n : Int)))) := hK4.put 1 _ _ rfl rfl rfl
          clear hK4
          go_wp2_with fail
          go_ret
          rw [HA.out]
          first | exact ⟨_, rfl, hK5⟩ | exact ⟨rfl, _, hK5⟩
        · have HA : Hid (ansC x = (x, false)) := Lib.hid (by unfold ansC; rw [if_neg (fun h => h240 (by rw [hl2.out]; exact h.2))])
          go_wp2_with fail
          go_ret
          rw [HA.out]
          first | exact ⟨_, rfl, hK2⟩ | exact ⟨rfl, _, hK2⟩
  · have hce : (fc != 0) = true := by simp [hc]
    have HA : Hid (ansC x = (x, false)) := Lib.hid (by unfold ansC; rw [HP.out]; rw [if_neg (fun h => hc h.1)])
    go_wp2_with fail
    go_ret
    rw [HA.out]
    first | exact ⟨_, rfl, hK⟩ | exact ⟨rfl, _, hK⟩
theorem putF_pos {f : Fr} (h : frB f = true) : 1 ≤ (putF f).length := by
  have h1 := getF_put h []
  have h2 : (getF (putF f ++ [])).2.2 = 0 := by rw [h1]
  obtain ⟨n, e, h3, _⟩ := getF_good h2
  rw [h1] at e
  replace e : ((putF f).length : Int) = (n : Int) := e
  omega
theorem frs_cons {f : Fr} (h : frB f = true) (t : List UInt8) : frs (putF f ++ t) = (f :: (frs t).1, (frs t).2) := by
  have h1 := getF_put h t
  have hp := putF_pos h
  have h2 := frs_step (l := putF f ++ t) (n := (putF f).length) (by rw [List.length_append]; omega) (by rw [h1]) (by rw [h1])
  rw [h2, h1, List.drop_left]
theorem frs_two {a b : Fr} (ha : frB a = true) (hb : frB b = true) : frs (allB [a, b]) = ([a, b], 0) := by
  have h1 : frs (putF b) = ([b], 0) := by
    have h2 := frs_cons hb []
    rw [List.append_nil, frs_nil (l := []) rfl] at h2
    exact h2
  rw [allB_two, frs_cons ha, h1]
theorem ansP_no {x : Sk} (h : (ansP x).2 = false) : (ansP x).1 = x := by
  unfold ansP at h ⊢
  split
  · rename_i h1
    rw [if_pos h1] at h
    unfold ansC at h ⊢
    split
    · rename_i h2
      rw [if_pos h2] at h
      exact absurd h (by simp)
    · rfl
  · rfl
theorem ansP_yes {x : Sk} (h : (ansP x).2 = true) : ∃ (f a b : Fr) (n d : Nat), x.done = (d : Int) ∧ d ≤ x.out.length ∧ getF (x.out.drop d) = (f, (n : Int), 0) ∧ 1 ≤ n ∧ d + n ≤ x.out.length ∧ frB f = true ∧ frB a = true ∧ frB b = true ∧ b.k = 5 ∧
    (ansP x).1 = { x with inn := x.inn ++ allB [a, b], st := repS x.st f, done := ((d + n : Nat) : Int) } ∧ b.st = repS x.st f ∧ skB x = true ∧ skB (ansP x).1 = true ∧ x.inn.length + (allB [a, b]).length ≤ 240 := by
  unfold ansP at h ⊢
  split at h
  case isFalse => exact absurd h (by simp)
  rename_i h1
  rw [if_pos h1]
  obtain ⟨hx, hk, hsh⟩ := h1
  unfold ansC at h ⊢
  split at h
  case isFalse => exact absurd h (by simp)
  rename_i h2
  rw [if_pos h2]
  obtain ⟨hc, hl⟩ := h2
  obtain ⟨hst, d, hd, hdl, hdt⟩ := skB_line hx hk
  obtain ⟨n, hn, hn1, hn2, _, hf, _⟩ := getF_good (l := x.out.drop x.done.toNat) hc
  rw [hdt, List.length_drop] at hn2
  obtain ⟨a, b, hab, _, _, hb5, hbs, ha, hb, hs⟩ := repL_two (f := (ansF x).1) hst hf
  have eB : ansB x = allB [a, b] := by unfold ansB; rw [hab]
  rw [eB] at hl ⊢
  have eN : (ansF x).2.1 = (n : Int) := hn
  have eF : getF (x.out.drop d) = ((ansF x).1, (n : Int), 0) := by
    have e0 : getF (x.out.drop d) = ansF x := by unfold ansF; rw [hdt]
    rw [e0]
    exact Prod.ext rfl (Prod.ext hn hc)
  have eD : x.done + (ansF x).2.1 = ((d + n : Nat) : Int) := by rw [hd, eN]; omega
  rw [eD]
  refine ⟨(ansF x).1, a, b, n, d, hd, hdl, eF, hn1, by omega, hf, ha, hb, hb5, rfl, hbs, hx, ?_, hl⟩
  unfold skB at hx ⊢
  have e1 : (x.kind == 1) = false := by simp [hk]
  simp only [Bool.and_eq_true, e1, Bool.false_eq_true, if_false] at hx ⊢
  obtain ⟨g1, g2, g3, g4, g5, g6⟩ := hx
  refine ⟨g1, g2, g3, ?_, hs, ?_⟩
  · apply decide_eq_true
    rw [List.length_append]
    omega
  · unfold inI at g6 ⊢
    apply decide_eq_true
    have := of_decide_eq_true g6
    omega
set_option maxRecDepth 100000 in
theorem same_any (A B : Option Addr) (c c' M M' : Nat) (a b : List UInt8) (w : World) (h : Reads w M 1 A a.length (bys a)) (h' : Reads w M' 1 B b.length (bys b)) :
    Calls Try.prog 28 #[.slice A a.length c, .slice B b.length c'] w fun e w' => e = .returned (.bool (a == b)) ∧ w = w' := by
  have h1 := string_run (P := Try.prog) (c := c) Try.underlying22 Try.underlying5 Try.underlying9 h
  have h2 := string_run (P := Try.prog) (c := c') Try.underlying22 Try.underlying5 Try.underlying9 h'
  go_enter Try.func28, Try.ntmps28
  go_wp2
  go_ret
  simp
set_option maxRecDepth 100000 in
set_option maxHeartbeats 4000000 in
theorem sameSock_same (A B A' B' : Option Addr) (c d c' d' : Nat) (x : Sk) (w : World) (h4 : Reads w w.heap.size 1 A x.inn.length (bys x.inn)) (h5 : Reads w w.heap.size 1 B x.out.length (bys x.out)) (h4' : Reads w w.heap.size 1 A' x.inn.length (bys x.inn)) (h5' : Reads w w.heap.size 1 B' x.out.length (bys x.out)) :
    Calls Try.prog 29 #[.agg #[.int .i64 x.id, .int .i64 x.kind, .int .i64 x.hold, .bool x.shut, .slice A x.inn.length c, .slice B x.out.length d, .int .i64 x.st, .int .i64 x.done], .agg #[.int .i64 x.id, .int .i64 x.kind, .int .i64 x.hold, .bool x.shut, .slice A' x.inn.length c', .slice B' x.out.length d', .int .i64 x.st, .int .i64 x.done]] w fun e w' => e = .returned (.bool true) ∧ Below w.heap.size w w' := by
  have S : All (fun w' => Below w.heap.size w w' ∧ (Reads w' w.heap.size 1 A x.inn.length (bys x.inn) ∧ Reads w' w.heap.size 1 B x.out.length (bys x.out) ∧ Reads w' w.heap.size 1 A' x.inn.length (bys x.inn) ∧ Reads w' w.heap.size 1 B' x.out.length (bys x.out))) w := ⟨Below.refl _ _, h4, h5, h4', h5'⟩
  clear h4 h5 h4' h5'
  have e1 : (x.id == x.id) = true := by simp
  have e2 : (x.kind == x.kind) = true := by simp
  have e3 : (x.hold == x.hold) = true := by simp
  have e4 : (x.shut == x.shut) = true := by simp
  have e5 : (x.st == x.st) = true := by simp
  have e6 : (x.done == x.done) = true := by simp
  have e7 : (x.inn == x.inn) = true := by simp
  have e8 : (x.out == x.out) = true := by simp
  go_enter Try.func29, Try.ntmps29
  go_wp2_with fail
  have hb2 : Below w.heap.size w ((w.alloc (.cells #[.int .i64 x.id, .int .i64 x.kind, .int .i64 x.hold, .bool x.shut, .slice A x.inn.length c, .slice B x.out.length d, .int .i64 x.st, .int .i64 x.done] 25)).alloc (.cells #[.int .i64 x.id, .int .i64 x.kind, .int .i64 x.hold, .bool x.shut, .slice A' x.inn.length c', .slice B' x.out.length d', .int .i64 x.st, .int .i64 x.done] 25)) := Later.trans (Later.alloc w _) (Later.alloc _ _)
  refine (same_any A A' c c' _ _ x.inn x.inn ((w.alloc (.cells #[.int .i64 x.id, .int .i64 x.kind, .int .i64 x.hold, .bool x.shut, .slice A x.inn.length c, .slice B x.out.length d, .int .i64 x.st, .int .i64 x.done] 25)).alloc (.cells #[.int .i64 x.id, .int .i64 x.kind, .int .i64 x.hold, .bool x.shut, .slice A' x.inn.length c', .slice B' x.out.length d', .int .i64 x.st, .int .i64 x.done] 25)) (S.out.2.1.below hb2) (S.out.2.2.2.1.below hb2)).mono ?_
  rintro e w1 ⟨rfl, rfl⟩
  rw [e7]
  go_wp2_with fail
  refine (same_any B B' d d' _ _ x.out x.out ((w.alloc (.cells #[.int .i64 x.id, .int .i64 x.kind, .int .i64 x.hold, .bool x.shut, .slice A x.inn.length c, .slice B x.out.length d, .int .i64 x.st, .int .i64 x.done] 25)).alloc (.cells #[.int .i64 x.id, .int .i64 x.kind, .int .i64 x.hold, .bool x.shut, .slice A' x.inn.length c', .slice B' x.out.length d', .int .i64 x.st, .int .i64 x.done] 25)) (S.out.2.2.1.below hb2) (S.out.2.2.2.2.below hb2)).mono ?_
  rintro e w1 ⟨rfl, rfl⟩
  rw [e8]
  go_wp2_with fail
  go_ret
  exact ⟨rfl, hb2⟩
/-- The block g is a cursor over the slice '.slice A n c', at place i. -/
structure Cur (w : World) (lo g : Nat) (A : Option Addr) (n c : Nat) (code : List UInt8) : Prop where
  from_ : lo ≤ g
  rd : Reads w lo 1 A n (bys code)
  blk : ∃ (i : Nat) (h : Int), i ≤ n ∧ -9223372036854775808 ≤ h ∧ h ≤ 9223372036854775807 ∧ w.heap[g]? = some (.cells #[.slice A n c, .int .i64 i, .int .i64 h] 158 (0, 0))
theorem blk_cell {w : World} {g t : Nat} {cs : Array Value} (h : w.heap[g]? = some (.cells cs t (0, 0))) (i : Nat) : w.cell? ⟨g, i, none⟩ = cs[i]? := cell_of_row w g i cs t (0, 0) h
theorem blk_frozen {w : World} {g t : Nat} {cs : Array Value} (h : w.heap[g]? = some (.cells cs t (0, 0))) (i : Nat) : w.frozen? ⟨g, i, none⟩ = false := by simp [World.frozen?, h]
theorem blk_set {w : World} {g t : Nat} {cs : Array Value} (h : w.heap[g]? = some (.cells cs t (0, 0))) (i : Nat) (u : Value) : (w.setCell ⟨g, i, none⟩ u).heap[g]? = some (.cells (cs.setIfInBounds i u) t (0, 0)) := by
  simp [World.setCell, Array.getElem?_modify, h]
theorem grown_set (w : World) (g i : Nat) (u : Value) : w.grownBy (w.setCell ⟨g, i, none⟩ u) (some g) :=
  ⟨rfl, rfl, rfl, by simp, fun k _ hk => heap_setCell_other w ⟨g, i, none⟩ k u (fun e => hk (by simp [e]))⟩
theorem grown_drewN (w : World) (n : Nat) (row : Option Nat) : w.grownBy (w.drewN n) row := ⟨rfl, rfl, rfl, Nat.le_refl _, fun _ _ _ => rfl⟩
theorem Cur.keep {w w' : World} {lo g : Nat} {A : Option Addr} {n c : Nat} {code : List UInt8} (h : Cur w lo g A n c code) {row : Option Nat} (hg : w.grownBy w' row) (hne : some g ≠ row) (hr : ∀ k, row = some k → lo ≤ k) : Cur w' lo g A n c code := by
  obtain ⟨hlo, hrd, i, hh, hi, h1, h2, hb⟩ := h
  have hlt : g < w.heap.size := World.block_lt_of_cell? w ⟨g, 0, none⟩ (blk_cell hb 0)
  exact ⟨hlo, hrd.grown hg (by omega) hr, i, hh, hi, h1, h2, by rw [hg.block g hlt hne]; exact hb⟩
theorem Cur.lt {w : World} {lo g : Nat} {A : Option Addr} {n c : Nat} {code : List UInt8} (h : Cur w lo g A n c code) : g < w.heap.size := by
  obtain ⟨_, _, i, hh, _, _, _, hb⟩ := h
  exact World.block_lt_of_cell? w ⟨g, 0, none⟩ (blk_cell hb 0)
theorem grown_then {w wr w2 : World} {g : Nat} {row : Option Nat} (h : w.grownBy wr (some g)) (h2 : wr.grownBy w2 row) (hr : ∀ k, row = some k → w.heap.size ≤ k) : w.grownBy w2 (some g) :=
  ⟨h2.os.trans h.os, h2.tape.trans h.tape, h2.output.trans h.output, Nat.le_trans h.size h2.size, fun k hk hne =>
    (h2.block k (Nat.lt_of_lt_of_le hk h.size) (fun e => by have := hr k e.symm; omega)).trans (h.block k hk hne)⟩
theorem wrap64_bd (x : Int) : -9223372036854775808 ≤ wrap64 x ∧ wrap64 x ≤ 9223372036854775807 := by unfold wrap64; omega
set_option maxHeartbeats 1000000 in
theorem l1Byte_any (lo g : Nat) (A : Option Addr) (n c : Nat) (code : List UInt8) (w : World) (h : Cur w lo g A n c code) (hn : n ≤ 140737488351232) :
    Calls Try.prog 128 #[.pointer (some ⟨g, 0, none⟩)] w fun e w' => ∃ x : Int, 0 ≤ x ∧ x ≤ 255 ∧ e = .returned (.int .i64 x) ∧ Cur w' lo g A n c code ∧ w.grownBy w' (some g) := by
  obtain ⟨hlo, hrd, i, hh, hi, hb1, hb2, hblk⟩ := h
  have hc0 : w.cell? ⟨g, 0, none⟩ = some (.slice A n c) := blk_cell hblk 0
  have hc1 : w.cell? ⟨g, 1, none⟩ = some (.int .i64 i) := blk_cell hblk 1
  have hc2 : w.cell? ⟨g, 2, none⟩ = some (.int .i64 hh) := blk_cell hblk 2
  have hf0 := blk_frozen hblk 1
  have hf2 := blk_frozen hblk 2
  have hlt0 : g < w.heap.size := World.block_lt_of_cell? w ⟨g, 0, none⟩ hc0
  have HB := Lib.hid hblk
  clear hblk
  go_enter Try.func128, Try.ntmps128
  go_wp2
  generalize hH : wrap64 (wrap64 (hh * 6364136223846793005) + 1442695040888963407) = H
  have hH1 : -9223372036854775808 ≤ H ∧ H ≤ 9223372036854775807 := by rw [← hH]; exact wrap64_bd _
  obtain ⟨hH2, hH3⟩ := hH1
  clear hH
  have hset := blk_set HB.out 2 (.int .i64 H)
  have hgr := grown_set w g 2 (.int .i64 H)
  generalize hW : w.setCell ⟨g, 2, none⟩ (.int .i64 H) = W1
  rw [hW] at hset hgr
  clear hW
  have hset' : W1.heap[g]? = some (.cells #[.slice A n c, .int .i64 i, .int .i64 H] 158 (0, 0)) := hset
  have hrd1 := hrd.grown hgr (by omega) (fun k hk => by injection hk with hk; omega)
  clear hc0 hc1 hc2 hf0 hf2 hrd hset HB
  have hc0 : W1.cell? ⟨g, 0, none⟩ = some (.slice A n c) := blk_cell hset' 0
  have hc1 : W1.cell? ⟨g, 1, none⟩ = some (.int .i64 i) := blk_cell hset' 1
  have hc2 : W1.cell? ⟨g, 2, none⟩ = some (.int .i64 H) := blk_cell hset' 2
  have hf1 := blk_frozen hset' 1
  have HB := Lib.hid hset'
  have HG := Lib.hid hgr
  have hand := i64_and255
  clear hset' hgr
  by_cases hlt : i < n
  · obtain ⟨b, off, u, rfl, _, _, hcell⟩ := hrd1.byte hlt
    have hu := u.toNat_lt
    have hu' : u.toNat < 256 := hu
    clear hu
    have i1 : (0 : Int) ≤ (i : Int) := by omega
    have i2 : (i : Int) < (n : Int) := by omega
    go_quiet (fail)
    generalize hx : bits BinOp.xor IntKind.i64 (H / 8589934592) (H / 140737488355328) % 256 = x0
    have hx1 : 0 ≤ x0 ∧ x0 < 256 := by rw [← hx]; omega
    obtain ⟨hx2, hx3⟩ := hx1
    clear hx
    go_wp2
    go_quiet (fail)
    go_wp2
    go_quiet (fail)
    go_wp2
    go_ret
    refine ⟨(x0 + u.toNat) % 256, by omega, by omega, rfl, ⟨hlo, (hrd1.drewN _).setCell hlo _, i + 1, H, by omega, hH2, hH3, ?_⟩, HG.out.trans ((grown_drewN _ _ _).trans (grown_set _ _ _ _))⟩
    exact blk_set (w := W1.drewN _) HB.out 1 _
  · go_quiet (fail)
    generalize hx : bits BinOp.xor IntKind.i64 (H / 8589934592) (H / 140737488355328) % 256 = x0
    have hx1 : 0 ≤ x0 ∧ x0 < 256 := by rw [← hx]; omega
    obtain ⟨hx2, hx3⟩ := hx1
    clear hx
    go_wp2
    go_quiet (fail)
    go_wp2
    go_ret
    exact ⟨x0, by omega, by omega, rfl, ⟨hlo, hrd1, i, H, by omega, hH2, hH3, HB.out⟩, HG.out.trans ((grown_drewN _ _ _).trans (grown_drewN _ _ _))⟩
set_option maxHeartbeats 1000000 in
/-- A number below m (0 where m is none). -/
theorem l1Below_any (lo g : Nat) (A : Option Addr) (n c : Nat) (code : List UInt8) (m : Nat) (w : World) (h : Cur w lo g A n c code) (hn : n ≤ 140737488351232) (hm : m ≤ 1000000000) (hm0 : 0 < m) :
    Calls Try.prog 83 #[.pointer (some ⟨g, 0, none⟩), .int .i64 m] w fun e w' => ∃ x : Nat, x < m ∧ e = .returned (.int .i64 x) ∧ Cur w' lo g A n c code ∧ w.grownBy w' (some g) := by
  by_cases h256 : m ≤ 256
  · go_enter Try.func83, Try.ntmps83
    go_wp2_with fail
    refine (l1Byte_any lo g A n c code w h hn).mono ?_
    rintro e w1 ⟨x, hx0, hx1, rfl, hc, hg⟩
    go_wp2_with fail
    go_ret
    obtain ⟨xn, rfl⟩ := Int.eq_ofNat_of_zero_le hx0
    exact ⟨xn % m, Nat.mod_lt _ hm0, rfl, hc, hg⟩
  · go_enter Try.func83, Try.ntmps83
    go_wp2_with fail
    refine (l1Byte_any lo g A n c code w h hn).mono ?_
    rintro e w1 ⟨x, hx0, hx1, rfl, hc, hg⟩
    go_wp2_with fail
    refine (l1Byte_any lo g A n c code w1 hc hn).mono ?_
    rintro e w2 ⟨y, hy0, hy1, rfl, hc2, hg2⟩
    go_wp2_with fail
    refine (l1Byte_any lo g A n c code w2 hc2 hn).mono ?_
    rintro e w3 ⟨z, hz0, hz1, rfl, hc3, hg3⟩
    obtain ⟨xn, rfl⟩ := Int.eq_ofNat_of_zero_le hx0
    obtain ⟨yn, rfl⟩ := Int.eq_ofNat_of_zero_le hy0
    obtain ⟨zn, rfl⟩ := Int.eq_ofNat_of_zero_le hz0
    go_wp2_with fail
    go_ret
    exact ⟨(xn * 65536 + yn * 256 + zn) % m, Nat.mod_lt _ hm0, rfl, hc3, hg.trans (hg2.trans hg3)⟩
theorem Try.info8d : (Try.prog.info? 5).map (fun i => (i.zero, i.size, i.bytes)) = some (some (.int .u8 0), 1, 1) := by kernel_rfl
theorem byte_back {x : Int} (h0 : 0 ≤ x) (h1 : x ≤ 255) : Value.int .u8 x = .int .u8 (((UInt8.ofNat x.toNat).toNat : Nat) : Int) := by
  congr 1
  simp
  omega
set_option maxHeartbeats 1000000 in
/-- m bytes. -/
theorem l1Bytes_any (lo g : Nat) (A : Option Addr) (n c : Nat) (code : List UInt8) (m : Nat) (w : World) (h : Cur w lo g A n c code) (hn : n ≤ 140737488351232) (hm : m ≤ 1000000) :
    Calls Try.prog 75 #[.pointer (some ⟨g, 0, none⟩), .int .i64 m] w fun e w' => ∃ v l, l.length = m ∧ e = .returned v ∧ Owns w' w.heap.size 5 v l ∧ Cur w' lo g A n c code ∧ w.grownBy w' (some g) := by
  obtain ⟨i0, hi0, hz0, hz1, hz2⟩ := info_parts Try.info8d
  have hglt := h.lt
  have hlg := h.from_
  have hg0 : w.grownBy (w.alloc (.cells #[] 5)) (some g) := World.grownBy_alloc w _ _
  have hc0 := h.keep (World.grownBy_alloc w (.cells #[] 5) none) (by simp) (fun k hk => by cases hk)
  have hown0 : Owns (w.alloc (.cells #[] 5)) w.heap.size 5 (.slice (some ⟨w.heap.size, 0, none⟩) 0 0) [] := World.ownsRow_lit w #[] 0 (Nat.le_refl _) (by simp) rfl
  go_enter Try.func75, Try.ntmps75
  go_wp2
  go_loopw [5, 6] (fun v i wr => ∃ (k : Nat) (l : List UInt8), k ≤ m ∧ i = .int .i64 k ∧ l.length = k ∧ Owns wr w.heap.size 5 v l ∧ Cur wr lo g A n c code ∧ w.grownBy wr (some g)) (fun _ i _ => m - (intOf i).toNat)
  case atStart => exact ⟨0, [], by omega, rfl, rfl, hown0, hc0, hg0⟩
  case round =>
    obtain ⟨k, l, hk, rfl, hlk, hown, hc, hg⟩ := hrel
    clear hown0 hc0 hg0
    have hne : u5.ownBlock ≠ some g := fun e => by have := (hown.lt g e).1; omega
    have hcn : l.length = k := hlk
    clear hlk
    by_cases hlt : k < m
    · go_wp2_with fail
      refine (l1Byte_any lo g A n c code wr hc hn).mono ?_
      rintro e w1 ⟨x, hx0, hx1, rfl, hc1, hg1⟩
      have hown1 : Owns w1 w.heap.size 5 u5 l := World.ownsRow.kept hown hg1 (.inr hne)
      have hgw1 : w.grownBy w1 (some g) := hg.trans hg1
      have hx256 : x < 256 := by omega
      have HL := Lib.hid hcn
      have Hne := Lib.hid hne
      clear hg1 hown hc hg hcn hne
      go_wp2_with (first
        | (at_builtin
           have hnew := Reads.of_own (World.ownsRow_lit (base := 0) (e := 5) (size := 1) w1 #[.int .u8 x] 1 (Nat.zero_le _) (by simp [maxLen]) rfl)
           refine wpList_append_any _ rfl (.tmp 13) (.tmp 17) _ rfl w.heap.size 5 i0 _ 1 1 Try.underlying22 hi0 hz0 hz1 hz2 rfl (by omega) u5 l.length (bys l) rfl (hown1.alloc _) _ _ 1 _ _ rfl hnew (by simp; rfl) (by have := HL.out; simp only [maxLen]; omega) (by have := HL.out; omega) (Nat.le_trans hgw1.size (by simp)) ?_
           clear hnew
           intro v2 w2 hown2 hg2 hat2))
      have hg3 : w1.grownBy (w1.alloc (.cells #[.int .u8 x] 5)) none := World.grownBy_alloc _ _ _
      have hrow : ∀ j, u5.ownBlock = some j → w.heap.size ≤ j := fun j hj => (hown1.lt j hj).1
      have hc2 : Cur w2 lo g A n c code := (hc1.keep hg3 (by simp) (fun k hk => by cases hk)).keep hg2 (fun e => Hne.out e.symm) (fun j hj => by have := hrow j hj; omega)
      have hgw2 : w.grownBy w2 (some g) := grown_then (grown_then hgw1 hg3 (fun k hk => by cases hk)) hg2 hrow
      go_roundw
      case rel => exact ⟨k + 1, l ++ [UInt8.ofNat x.toNat], by omega, by go_num, by have := HL.out; simp; omega, by unfold Owns; rw [bys_append, List.length_append, show bys [UInt8.ofNat x.toNat] = [.int .u8 x] by simp only [bys, List.map_cons, List.map_nil]; rw [← byte_back hx0 hx1]]; exact hown2, hc2, hgw2⟩
      case measure => simp [intOf]; omega
    · have he : k = m := by omega
      subst he
      have HL := Lib.hid hcn
      clear hcn
      go_wp2
      go_ret
      exact ⟨u5, l, HL.out, rfl, hown, hc, hg⟩
set_option maxRecDepth 100000 in
set_option maxHeartbeats 1000000 in
/-- A new cursor at the code's beginning. -/
theorem l1New_any (A : Option Addr) (c : Nat) (code : List UInt8) (w : World) (h : Reads w w.heap.size 1 A code.length (bys code)) (hn : code.length ≤ 1048576) :
    Calls Try.prog 73 #[.slice A code.length c] w fun e w' => ∃ g, e = .returned (.pointer (some ⟨g, 0, none⟩)) ∧ Cur w' w.heap.size g A code.length c code ∧ Below w.heap.size w w' := by
  go_enter Try.func73, Try.ntmps73
  go_wp2
  go_loop [3, 4] (fun h i => ∃ (k : Nat) (q : Int), k ≤ code.length ∧ i = .int .i64 k ∧ h = .int .i64 q ∧ 0 ≤ q ∧ q < 1073741824) (fun _ i => code.length - (intOf i).toNat)
  case atStart => exact ⟨0, 128871 + (code.length : Int), by omega, rfl, rfl, by omega, by omega⟩
  case round =>
    obtain ⟨k, q, hk, rfl, rfl, hq0, hq1⟩ := hrel
    by_cases hlt : k < code.length
    · by_cases h4 : (k : Int) < 4000
      · obtain ⟨b, off, u, rfl, _, _, hcell⟩ := h.byte hlt
        have hu : u.toNat < 256 := u.toNat_lt
        have hmask := i64_and30
        go_wp2
        go_round
        case rel => exact ⟨k + 1, _, by omega, by go_num, rfl, by omega, by omega⟩
        case measure => simp [intOf]; omega
      · go_wp2
        go_ret
        exact ⟨w.heap.size, rfl, ⟨Nat.le_refl _, h.alloc (Nat.le_refl _) _, 0, q, by omega, by omega, by omega, heap_alloc_new w _⟩, (Below.refl _ _).alloc (Nat.le_refl _) _⟩
    · go_wp2
      go_ret
      exact ⟨w.heap.size, rfl, ⟨Nat.le_refl _, h.alloc (Nat.le_refl _) _, 0, q, by omega, by omega, by omega, heap_alloc_new w _⟩, (Below.refl _ _).alloc (Nat.le_refl _) _⟩
set_option maxHeartbeats 400000 in
theorem l1Once_any (lo g : Nat) (A : Option Addr) (n c : Nat) (code : List UInt8) (m : Nat) (w : World) (h : Cur w lo g A n c code) (hn : n ≤ 140737488351232) (hm : m ≤ 1000000000) (hm0 : 0 < m) :
    Calls Try.prog 91 #[.pointer (some ⟨g, 0, none⟩), .int .i64 m] w fun e w' => ∃ b : Bool, e = .returned (.bool b) ∧ Cur w' lo g A n c code ∧ w.grownBy w' (some g) := by
  go_enter Try.func91, Try.ntmps91
  go_wp2_with fail
  refine (l1Below_any lo g A n c code m w h hn hm hm0).mono ?_
  rintro e w1 ⟨x, hx, rfl, hc, hg⟩
  go_wp2_with fail
  go_ret
  exact ⟨_, rfl, hc, hg⟩
set_option maxHeartbeats 400000 in
/-- An element of a list of ints, which lies in block L. -/
theorem l1Int_any (lo g L : Nat) (A : Option Addr) (n c : Nat) (code : List UInt8) (zs : List Int) (w : World) (h : Cur w lo g A n c code) (hn : n ≤ 140737488351232) (hz0 : 0 < zs.length) (hz : zs.length ≤ 1000)
    (hL : w.heap[L]? = some (.cells (zs.map (Value.int .i64)).toArray 3 (0, 0))) (hne : L ≠ g) :
    Calls Try.prog 76 #[.pointer (some ⟨g, 0, none⟩), .slice (some ⟨L, 0, none⟩) zs.length zs.length] w fun e w' => ∃ z : Int, z ∈ zs ∧ e = .returned (.int .i64 z) ∧ Cur w' lo g A n c code ∧ w.grownBy w' (some g) := by
  have hLlt : L < w.heap.size := (Array.getElem?_eq_some_iff.1 hL).1
  have HL := Lib.hid hL
  clear hL
  go_enter Try.func76, Try.ntmps76
  go_wp2_with fail
  refine (l1Below_any lo g A n c code zs.length w h hn (by omega) hz0).mono ?_
  rintro e w1 ⟨x, hx, rfl, hc, hg⟩
  have hblk : w1.heap[L]? = some (.cells (zs.map (Value.int .i64)).toArray 3 (0, 0)) := (hg.block L hLlt (by simpa using hne)).trans HL.out
  have hcell : w1.cell? ⟨L, x, none⟩ = some (.int .i64 zs[x]) := by
    rw [blk_cell hblk x]
    simp [hx]
  have hmem : zs[x] ∈ zs := List.getElem_mem hx
  generalize zs[x] = z at hcell hmem
  have i1 : (0 : Int) ≤ (x : Int) := by omega
  have i2 : (x : Int) < (zs.length : Int) := by omega
  have HM := Lib.hid hmem
  clear hmem hblk
  go_wp2_with fail
  go_ret
  exact ⟨z, HM.out, rfl, hc, hg⟩
set_option maxHeartbeats 400000 in
/-- An element of a list of strings. -/
theorem l1Str_any (lo g L : Nat) (A : Option Addr) (n c : Nat) (code : List UInt8) (ss : List ByteArray) (w : World) (h : Cur w lo g A n c code) (hn : n ≤ 140737488351232) (hz0 : 0 < ss.length) (hz : ss.length ≤ 1000)
    (hL : w.heap[L]? = some (.cells (ss.map Value.string).toArray 9 (0, 0))) (hne : L ≠ g) :
    Calls Try.prog 134 #[.pointer (some ⟨g, 0, none⟩), .slice (some ⟨L, 0, none⟩) ss.length ss.length] w fun e w' => ∃ s : ByteArray, s ∈ ss ∧ e = .returned (.string s) ∧ Cur w' lo g A n c code ∧ w.grownBy w' (some g) := by
  have hLlt : L < w.heap.size := (Array.getElem?_eq_some_iff.1 hL).1
  have HL := Lib.hid hL
  clear hL
  go_enter Try.func134, Try.ntmps134
  go_wp2_with fail
  refine (l1Below_any lo g A n c code ss.length w h hn (by omega) hz0).mono ?_
  rintro e w1 ⟨x, hx, rfl, hc, hg⟩
  have hblk : w1.heap[L]? = some (.cells (ss.map Value.string).toArray 9 (0, 0)) := (hg.block L hLlt (by simpa using hne)).trans HL.out
  have hcell : w1.cell? ⟨L, x, none⟩ = some (.string ss[x]) := by
    rw [blk_cell hblk x]
    simp [hx]
  have hmem : ss[x] ∈ ss := List.getElem_mem hx
  generalize ss[x] = z at hcell hmem
  have i1 : (0 : Int) ≤ (x : Int) := by omega
  have i2 : (x : Int) < (ss.length : Int) := by omega
  have HM := Lib.hid hmem
  clear hmem hblk
  go_wp2_with fail
  go_ret
  exact ⟨z, HM.out, rfl, hc, hg⟩
/-- A cursor over a new block that lies beside it. -/
theorem Cur.alloc {w : World} {lo g : Nat} {A : Option Addr} {n c : Nat} {code : List UInt8} (h : Cur w lo g A n c code) (o : Obj) : Cur (w.alloc o) lo g A n c code :=
  h.keep (World.grownBy_alloc w o none) (by simp) (fun k hk => by cases hk)
theorem Cur.only {w w' : World} {lo g : Nat} {A : Option Addr} {n c : Nat} {code : List UInt8} (h : Cur w lo g A n c code) {fp : List Nat} (ho : Rep.Only w w' fp) (hg : g ∉ fp) (hf : ∀ a, a ∈ fp → lo ≤ a) : Cur w' lo g A n c code := by
  have hlt := h.lt
  obtain ⟨hlo, hrd, i, hh, hi, h1, h2, hb⟩ := h
  refine ⟨hlo, hrd.keep fun p hp => World.cell?_of_block (ho.block p.block (by omega) (fun e => by have := hf _ e; omega)), i, hh, hi, h1, h2, ?_⟩
  rw [ho.block g hlt hg]
  exact hb
theorem Cur.drew {w : World} {lo g : Nat} {A : Option Addr} {n c : Nat} {code : List UInt8} (h : Cur w lo g A n c code) : Cur w.drew lo g A n c code := h.only (Rep.only_drew w) (by simp) (fun a ha => by cases ha)
theorem only_g {w w' : World} {g : Nat} (h : w.grownBy w' (some g)) : Rep.Only w w' [g] := Rep.Only.of_grown h (fun a ha => by injection ha with ha; simp [ha])
/-- An int of a list that has just been made. -/
def RetInt (w : World) (lo g : Nat) (A : Option Addr) (n c : Nat) (code : List UInt8) (zs : List Int) (e : Ending) (w' : World) : Prop :=
  ∃ z, z ∈ zs ∧ e = .returned (.int .i64 z) ∧ Cur w' lo g A n c code ∧ Rep.Only w w' [g]
theorem draw_int (lo g : Nat) (A : Option Addr) (n c : Nat) (code : List UInt8) (zs : List Int) (w : World) (h : Cur w lo g A n c code) (hn : n ≤ 140737488351232) (hz0 : 0 < zs.length) (hz : zs.length ≤ 1000) :
    Calls Try.prog 76 #[.pointer (some ⟨g, 0, none⟩), .slice (some ⟨w.heap.size, 0, none⟩) zs.length zs.length] (w.alloc (.cells (zs.map (Value.int .i64)).toArray 3)) (RetInt w lo g A n c code zs) := by
  refine (l1Int_any lo g w.heap.size A n c code zs _ (h.only (Rep.only_alloc w _) (by simp) (fun a ha => by cases ha)) hn hz0 hz (heap_alloc_new w _) (by have := h.lt; omega)).mono ?_
  rintro e w' ⟨z, hm, rfl, hc, hg⟩
  exact ⟨z, hm, rfl, hc, ((Rep.only_alloc w _).mono (by simp) : Rep.Only w _ [g]).trans (only_g hg)⟩
/-- A string of a list that has just been made. -/
def RetStr (w : World) (lo g : Nat) (A : Option Addr) (n c : Nat) (code : List UInt8) (ss : List ByteArray) (e : Ending) (w' : World) : Prop :=
  ∃ z, z ∈ ss ∧ e = .returned (.string z) ∧ Cur w' lo g A n c code ∧ Rep.Only w w' [g]
theorem draw_str (lo g : Nat) (A : Option Addr) (n c : Nat) (code : List UInt8) (ss : List ByteArray) (w : World) (h : Cur w lo g A n c code) (hn : n ≤ 140737488351232) (hz0 : 0 < ss.length) (hz : ss.length ≤ 1000) :
    Calls Try.prog 134 #[.pointer (some ⟨g, 0, none⟩), .slice (some ⟨w.heap.size, 0, none⟩) ss.length ss.length] (w.alloc (.cells (ss.map Value.string).toArray 9)) (RetStr w lo g A n c code ss) := by
  refine (l1Str_any lo g w.heap.size A n c code ss _ (h.only (Rep.only_alloc w _) (by simp) (fun a ha => by cases ha)) hn hz0 hz (heap_alloc_new w _) (by have := h.lt; omega)).mono ?_
  rintro e w' ⟨z, hm, rfl, hc, hg⟩
  exact ⟨z, hm, rfl, hc, ((Rep.only_alloc w _).mono (by simp) : Rep.Only w _ [g]).trans (only_g hg)⟩
section
variable {w V V2 : World} {lo g : Nat} {A : Option Addr} {n c : Nat} {code : List UInt8}
end
/-- Bytes come back, hardly more than were given; they are the call's own. -/
def RetBendO (w : World) (lo g : Nat) (A : Option Addr) (n c : Nat) (code l : List UInt8) (e : Ending) (w' : World) : Prop :=
  ∃ A2 c2 l', e = .returned (.slice A2 l'.length c2) ∧ l'.length ≤ l.length + 1 ∧ l'.length ≤ c2 ∧ Owns w' w.heap.size 5 (.slice A2 l'.length c2) l' ∧ Cur w' lo g A n c code ∧ Rep.Only w w' [g]
theorem owns_take {w : World} {base : Nat} {e : TypeId} {A : Option Addr} {c : Nat} {l : List UInt8} (h : Owns w base e (.slice A l.length c) l) {k : Nat} (hk : k ≤ l.length) : Owns w base e (.slice A (l.take k).length c) (l.take k) := by
  obtain ⟨h1, h2⟩ := h
  have hl : (l.take k).length = k := by simp; omega
  refine ⟨by simp [bys], ?_⟩
  rcases h2 with ⟨hv, h0⟩ | ⟨g, cap, cur, hv, hb, hg, hnc, hcm, hcs, hx⟩
  · left
    rw [hl]
    have hk0 : k = 0 := by omega
    subst hk0
    rw [h0] at hv
    exact ⟨hv, rfl⟩
  · right
    injection hv with hv1 hv2 hv3
    subst hv1 hv3
    refine ⟨g, c, cur, by rw [hl], hb, hg, by omega, hcm, hcs, ?_⟩
    rw [hl, Nat.mul_one, show bys (l.take k) = (bys l).take k by simp [bys, List.map_take], ← hx, List.take_take]
    congr 1
    omega
set_option maxRecDepth 100000 in
set_option maxHeartbeats 4000000 in
theorem l1BendO_any (lo g : Nat) (A B : Option Addr) (n c d : Nat) (code l : List UInt8) (w : World) (h : Cur w lo g A n c code) (hn : n ≤ 140737488351232) (h' : Reads w w.heap.size 1 B l.length (bys l)) (hl : l.length ≤ 1000) :
    Calls Try.prog 111 #[.pointer (some ⟨g, 0, none⟩), .slice B l.length d] w (RetBendO w lo g A n c code l) := by
  obtain ⟨i0, hi0, hz0, hz1, hz2⟩ := info_parts Try.info8
  have hglt := h.lt
  have hlg := h.from_
  have hb0 : Below w.heap.size w (w.alloc (.cells #[] 5)) := (Below.refl _ _).alloc (Nat.le_refl _) _
  have hown0 : (w.alloc (.cells #[] 5)).ownsRow w.heap.size 5 1 (.slice (some ⟨w.heap.size, 0, none⟩) 0 0) 0 [] := World.ownsRow_lit w #[] 0 (Nat.le_refl _) (by simp) rfl
  go_enter Try.func111, Try.ntmps111
  go_wp2_with (first
     | (at_builtin
        refine wpList_append_any _ rfl (.tmp 7) (.tmp 8) _ rfl w.heap.size 5 i0 _ 1 1 Try.underlying22 hi0 hz0 hz1 hz2 rfl (by omega) _ 0 [] rfl hown0 w.heap.size B l.length d (bys l) rfl (h'.below hb0) (bys_one l) (by simp only [maxLen]; omega) (by omega) hb0.size ?_
        intro v2 w2 hown2 hg2 hat2
        have hb2 : Below w.heap.size w w2 := hb0.grown hg2 hb0.size (fun k hk => (hown0.lt k hk).1)
        clear hown0 hg2 hat2
        have hown3 : Owns w2 w.heap.size 5 v2 l := by simpa [Owns] using hown2
        clear hown2
        obtain ⟨A2, c2, rfl, hlc, hcm, _, hA2⟩ := hown3.shape)
     | fail)
  have ho2 : Rep.Only w w2 [g] := (Rep.only_of_below hb2).mono (by simp)
  have hc2 := h.only (Rep.only_of_below hb2) (by simp) (fun a ha => by cases ha)
  clear h h' hb0 hb2
  refine (l1Below_any lo g A n c code 8 w2 hc2 hn (by omega) (by omega)).mono ?_
  rintro e W3 ⟨k, hk, rfl, hc3, hg3⟩
  have hne : ∀ W W' : World, (hO : Owns W w.heap.size 5 (.slice A2 l.length c2) l) → (ho : W.grownBy W' (some g)) → Owns W' w.heap.size 5 (.slice A2 l.length c2) l := fun W W' hO ho => World.ownsRow.kept hO ho (.inr fun e => by have := (hO.lt g e).1; omega)
  have hown4 := hne _ _ hown3 hg3
  have ho3 := ho2.trans (only_g hg3)
  clear hc2 ho2 hg3 hown3
  have HN := Lib.hid hne
  clear hne
  have split : (k = 0 ∧ 0 < l.length) ∨ (k = 0 ∧ l.length = 0) ∨ (k = 1 ∧ 0 < l.length) ∨ (k = 1 ∧ l.length = 0) ∨ k = 2 ∨ 3 ≤ k := by omega
  rcases split with ⟨rfl, hl0⟩ | ⟨rfl, hl0⟩ | ⟨rfl, hl0⟩ | ⟨rfl, hl0⟩ | rfl | h3
  · have i0' : (0 : Int) < (l.length : Int) := by omega
    go_wp2_with fail
    refine (l1Below_any lo g A n c code l.length W3 hc3 hn (by omega) hl0).mono ?_
    rintro e W4 ⟨p, hp, rfl, hc4, hg4⟩
    have hown5 := HN.out _ _ hown4 hg4
    have ho4 := ho3.trans (only_g hg4)
    clear hc3 ho3 hg4 hown4
    obtain ⟨ad, hA, _⟩ := (hown5.reads).2 hl0
    obtain ⟨G, hG, hG1, hG2⟩ := hA2 ad hA
    obtain rfl : A2 = some ⟨G, 0, none⟩ := by rw [hA, hG]
    have hlp : l[p]? = some l[p] := List.getElem?_eq_getElem hp
    have hcell : W4.cell? ⟨G, p, none⟩ = some (.int .u8 ((l[p]).toNat : Int)) := (hown5.cellAt p (by omega)).trans (bys_get hlp)
    have hb256 : (l[p]).toNat < 256 := (l[p]).toNat_lt
    have j0 : (0 : Int) ≤ (p : Int) := by omega
    have j1 : (p : Int) < (l.length : Int) := by omega
    have HG := Lib.hid (show g ≠ G ∧ G < W4.heap.size ∧ w.heap.size ≤ G from ⟨by omega, by have := World.block_lt_of_cell? _ _ hcell; exact this, hG1⟩)
    have HLP := Lib.hid hlp
    clear hlp hA hG hG1 hG2 hA2
    have hGg : G ≠ g := fun e => HG.out.1 e.symm
    have hGl := HG.out.2.1
    go_wp2_with fail
    refine wp_region_lex' 12 [0, 1, 2, 3, 4, 5, 6] [7, 8, 9, 10, 11, 12] (fun w' => w'.cell? ⟨G, p, none⟩ = some (.int .u8 ((l[p]).toNat : Int))) (by kernel_rfl) (by kernel_rfl) hcell ?_
    iterate 7 (refine LexR.cons rfl ?_ (fun w' hw => ?_) ?_; rotate_left; focus (go_simp; (try exact rfl)); (try go_frame))
    refine LexR.nil (LexW.cons rfl ?_)
    try go_frame
    go_wp2_with fail
    refine (l1Below_any lo g A n c code 255 _ hc4.drew hn (by omega) (by omega)).mono ?_
    rintro e W5 ⟨z, hz, rfl, hc5, hg5⟩
    have hown6 := HN.out _ _ (hown5.drewN 1) hg5
    have hcell5 : W5.cell? ⟨G, p, none⟩ = some (.int .u8 ((l[p]).toNat : Int)) := ((only_g hg5).cell (b := G) (o := p) hGl (by simpa using hGg)).trans hcell
    have ho5 : Rep.Only w W5 [g] := (ho4.then (Rep.only_drew W4) (fun a ha => by cases ha)).trans (only_g hg5)
    have hfr := hown6.frozenAt p
    have hGl5 : G < W5.heap.size := Nat.lt_of_lt_of_le hGl hg5.size
    clear hc4 hg5 hown5 ho4
    go_wp2_with fail
    refine ⟨fun _ => hcell5, LexW.cons rfl ?_⟩
    try go_frame
    go_wp2_with fail
    refine ⟨fun _ => hcell5, LexW.cons rfl ?_⟩
    try go_frame
    go_wp2_with fail
    refine ⟨fun _ => hcell5, LexW.cons rfl ?_⟩
    try go_frame
    go_wp2_with fail
    refine ⟨fun _ => hcell5, LexW.cons rfl ?_⟩
    try go_frame
    go_wp2_with fail
    refine ⟨fun _ => hcell5, LexW.cons rfl ?_⟩
    try go_frame
    go_wp2_with fail
    refine ⟨fun h => absurd rfl h, LexW.nil ?_⟩
    go_wp2_with fail
    have hx : bits .xor .u8 ((l[p]).toNat : Int) (1 + (z : Int)) = (((UInt8.ofNat ((l[p]).toNat ^^^ (1 + z))).toNat : Nat) : Int) := by
      have e1 : (1 + (z : Int)) = ((1 + z : Nat) : Int) := by omega
      have e2 : (l[p]).toNat ^^^ (1 + z) < 2 ^ 8 := Nat.xor_lt_two_pow (by omega) (by omega)
      rw [e1, u8_xor_nat _ _ hb256 (by omega), UInt8.toNat_ofNat', Nat.mod_eq_of_lt (by omega)]
    rw [hx]
    generalize UInt8.ofNat ((l[p]).toNat ^^^ (1 + z)) = b'
    have hst := (hown6.stored p (.int .u8 (b'.toNat : Int))).1
    rw [show (bys l).set p (.int .u8 (b'.toNat : Int)) = bys (l.set p b') by simp [bys, List.map_set]] at hst
    have hO : Owns (W5.setCell ⟨G, p, none⟩ (.int .u8 (b'.toNat : Int))) w.heap.size 5 (.slice (some ⟨G, 0, none⟩) (l.set p b').length c2) (l.set p b') := by
      unfold Owns
      rw [List.length_set]
      exact hst
    have os := Rep.Only.setCell W5 (p := ⟨G, p, none⟩) (fp := [G]) (by simp) (.int .u8 (b'.toNat : Int))
    obtain ⟨hg1, hg2, hg3⟩ := HG.out
    go_ret
    exact ⟨some ⟨G, 0, none⟩, c2, l.set p b', by rw [List.length_set]; rfl, by simp, by simpa using hlc, hO, hc5.only os (by simpa using hg1) (fun a ha => by simp at ha; omega), ho5.then os (fun a ha => .inr (by simp at ha; omega))⟩
  · obtain rfl : l = [] := List.eq_nil_of_length_eq_zero hl0
    clear hl0
    go_wp2_with fail
    go_ret
    exact ⟨A2, c2, [], rfl, by simp, Nat.zero_le _, hown4, hc3, ho3⟩
  · have i0' : (0 : Int) < (l.length : Int) := by omega
    go_wp2_with fail
    refine (l1Below_any lo g A n c code l.length W3 hc3 hn (by omega) hl0).mono ?_
    rintro e W4 ⟨p, hp, rfl, hc4, hg4⟩
    have hown5 := HN.out _ _ hown4 hg4
    have ho4 := ho3.trans (only_g hg4)
    have j0 : (0 : Int) ≤ (p : Int) := by omega
    have j1 : (p : Int) ≤ (c2 : Int) := by omega
    have hr := owns_take hown5 (k := p) (by omega)
    have hlen : (l.take p).length = p := by simp; omega
    clear hc3 ho3 hg4 hown4
    go_wp2_with fail
    go_ret
    exact ⟨A2, c2, l.take p, by rw [hlen]; rfl, by omega, by omega, hr, hc4, ho4⟩
  · obtain rfl : l = [] := List.eq_nil_of_length_eq_zero hl0
    clear hl0
    go_wp2_with fail
    go_ret
    exact ⟨A2, c2, [], rfl, by simp, Nat.zero_le _, hown4, hc3, ho3⟩
  · go_wp2_with fail
    refine (l1Byte_any lo g A n c code W3 hc3 hn).mono ?_
    rintro e W4 ⟨x, hx0, hx1, rfl, hc4, hg4⟩
    have hown5 := HN.out _ _ hown4 hg4
    have ho4 := ho3.trans (only_g hg4)
    have hx256 : x < 256 := by omega
    clear hc3 ho3 hg4 hown4
    go_wp2_with (at_builtin
                 have hnew := Reads.of_own (World.ownsRow_lit (base := 0) (e := 5) (size := 1) W4 #[.int .u8 x] 1 (Nat.zero_le _) (by simp [maxLen]) rfl)
                 go_must (refine wpList_append_any _ rfl (.tmp 46) (.tmp 50) _ rfl w.heap.size 5 i0 _ 1 1 Try.underlying22 hi0 hz0 hz1 hz2 rfl (by omega) (.slice A2 l.length c2) l.length (bys l) rfl (hown5.alloc _) _ _ 1 _ _ rfl hnew (by simp; rfl) (by simp only [maxLen]; omega) (by omega) (Nat.le_trans ho4.size (by simp)) ?_)
                 clear hnew
                 intro v2 w5 hown6 hg6 hat6)
    have hown7 : Owns w5 w.heap.size 5 v2 (l ++ [UInt8.ofNat x.toNat]) := by
      unfold Owns
      rw [bys_append, List.length_append, show bys [UInt8.ofNat x.toNat] = [.int .u8 x] by simp only [bys, List.map_cons, List.map_nil]; rw [← byte_back hx0 hx1]]
      exact hown6
    obtain ⟨A7, c7, rfl, hlc7, _, _, _⟩ := hown7.shape
    have hoA := Rep.only_alloc W4 (.cells #[.int .u8 x] 5)
    have hrow : ∀ j, (Value.slice A2 l.length c2).ownBlock = some j → w.heap.size ≤ j := fun j hj => (hown5.lt j hj).1
    have hoB : Rep.Only (W4.alloc (.cells #[.int .u8 x] 5)) w5 ((Value.slice A2 l.length c2).ownBlock.toList) := Rep.Only.of_grown hg6 (fun k hk => by rw [hk]; simp)
    have hmem : ∀ a, a ∈ (Value.slice A2 l.length c2).ownBlock.toList → w.heap.size ≤ a := fun a ha => hrow a (by simpa using ha)
    have hcF := (hc4.only hoA (by simp) (fun a ha => by cases ha)).only hoB (fun hm => by have := hmem _ hm; omega) (fun a ha => by have := hmem _ ha; omega)
    have hoF : Rep.Only w w5 [g] := (ho4.then hoA (fun a ha => by cases ha)).then hoB (fun a ha => .inr (hmem a ha))
    clear hown6 hg6 hat6 hoA hoB hown5 hc4 ho4
    go_wp2_with fail
    go_ret
    exact ⟨A7, c7, _, rfl, by simp, hlc7, hown7, hcF, hoF⟩
  · have b0 : ((k : Int) == 0) = false := by simp; omega
    have b1 : ((k : Int) == 1) = false := by simp; omega
    have b2 : ((k : Int) == 2) = false := by simp; omega
    go_wp2_with fail
    go_ret
    exact ⟨A2, c2, l, rfl, by omega, hlc, hown4, hc3, ho3⟩
/-- A variable that holds a frame lies in block D, the result's box beside it, the cursor elsewhere. -/
structure VF (w : World) (lo g : Nat) (A : Option Addr) (n c : Nat) (code : List UInt8) (D : Nat) (r : Fr) (wr : World) : Prop where
  zero : wr.heap[w.heap.size]? = some (.cells (frC ⟨0, ⟨#[]⟩, 0⟩).toArray 33 (0, 0))
  var : wr.heap[D]? = some (.cells (frC r).toArray 33 (0, 0))
  cur : Cur wr lo g A n c code
  only : Rep.Only w wr [g]
  hD : w.heap.size < D
  lt : g < w.heap.size
  from_ : lo ≤ g
section
variable {w w1 w2 : World} {lo g : Nat} {A : Option Addr} {n c : Nat} {code : List UInt8} {D : Nat} {r : Fr}
theorem VF.step (h : VF w lo g A n c code D r w1) (hc : Cur w2 lo g A n c code) (ho : Rep.Only w1 w2 [g]) : VF w lo g A n c code D r w2 :=
  ⟨(ho.block _ (Array.getElem?_eq_some_iff.1 h.zero).1 (by have := h.lt; simp; omega)).trans h.zero, (ho.block _ (Array.getElem?_eq_some_iff.1 h.var).1 (by have := h.lt; have := h.hD; simp; omega)).trans h.var, hc, h.only.then ho (fun a ha => .inl ha), h.hD, h.lt, h.from_⟩
theorem VF.set (h : VF w lo g A n c code D r w1) (i : Nat) (u : Value) (r' : Fr) (hr : (frC r).toArray.setIfInBounds i u = (frC r').toArray) : VF w lo g A n c code D r' (w1.setCell ⟨D, i, none⟩ u) := by
  have ho := Rep.Only.setCell w1 (p := ⟨D, i, none⟩) (fp := [D]) (by simp) u
  have h1 := h.hD
  have h2 := h.lt
  have h3 := h.from_
  exact ⟨(ho.block _ (Array.getElem?_eq_some_iff.1 h.zero).1 (by simp; omega)).trans h.zero, by rw [← hr]; exact var_set h.var i u, h.cur.only ho (by simp; omega) (fun a ha => by simp at ha; omega), h.only.then ho (fun a ha => .inr (by simp at ha; omega)), h1, h2, h3⟩
end
/-- A frame comes back. -/
def RetDr (P : Fr → Prop) (w : World) (lo g : Nat) (A : Option Addr) (n c : Nat) (code : List UInt8) (e : Ending) (w' : World) : Prop :=
  ∃ r : Fr, e = .returned (.agg #[.int .i64 r.k, .string r.s, .int .i64 r.st]) ∧ P r ∧ Cur w' lo g A n c code ∧ Rep.Only w w' [g]
theorem put3_only (w : World) (D : Nat) (a b c : Value) : Rep.Only w (((w.setCell ⟨D, 0, none⟩ a).setCell ⟨D, 1, none⟩ b).setCell ⟨D, 2, none⟩ c) [D] :=
  ((Rep.Only.setCell w (by simp) _).trans (Rep.Only.setCell _ (by simp) _)).trans (Rep.Only.setCell _ (by simp) _)
theorem VF.ret {P : Fr → Prop} {w w1 : World} {lo g : Nat} {A : Option Addr} {n c : Nat} {code : List UInt8} {D : Nat} {k m : Int} {t : ByteArray} (h : VF w lo g A n c code D ⟨k, t, m⟩ w1) (ht : P ⟨k, t, m⟩) :
    RetDr P w lo g A n c code (.returned (.agg #[.int .i64 k, .string t, .int .i64 m])) (((w1.setCell ⟨w.heap.size, 0, none⟩ (.int .i64 k)).setCell ⟨w.heap.size, 1, none⟩ (.string t)).setCell ⟨w.heap.size, 2, none⟩ (.int .i64 m)) := by
  have ho := put3_only w1 w.heap.size (.int .i64 k) (.string t) (.int .i64 m)
  have h2 := h.lt
  have h3 := h.from_
  exact ⟨⟨k, t, m⟩, rfl, ht, h.cur.only ho (by simp; omega) (fun a ha => by simp at ha; omega), h.only.then ho (fun a ha => .inr (by simp at ha; omega))⟩
theorem VF.facts {w w1 : World} {lo g : Nat} {A : Option Addr} {n c : Nat} {code : List UInt8} {D : Nat} {k m : Int} {t : ByteArray} (h : VF w lo g A n c code D ⟨k, t, m⟩ w1) :
    (w1.cell? ⟨D, 0, none⟩ = some (.int .i64 k) ∧ w1.cell? ⟨D, 1, none⟩ = some (.string t) ∧ w1.cell? ⟨D, 2, none⟩ = some (.int .i64 m)) ∧ (∀ i, w1.frozen? ⟨D, i, none⟩ = false) ∧
    (w1.cell? ⟨w.heap.size, 0, none⟩ = some (.int .i64 0) ∧ w1.cell? ⟨w.heap.size, 1, none⟩ = some (.string ⟨#[]⟩) ∧ w1.cell? ⟨w.heap.size, 2, none⟩ = some (.int .i64 0)) ∧ (∀ i, w1.frozen? ⟨w.heap.size, i, none⟩ = false) :=
  ⟨fr_box h.var, var_frozen h.var, fr_box h.zero, var_frozen h.zero⟩
def FrGood (f : Fr) : Prop := frB f = true ∧ f.s.size ≤ 101
set_option maxHeartbeats 4000000 in
theorem l6Draw_any (lo g : Nat) (A : Option Addr) (n c : Nat) (code : List UInt8) (w : World) (h : Cur w lo g A n c code) (hn : n ≤ 140737488351232) :
    Calls Try.prog 132 #[.pointer (some ⟨g, 0, none⟩)] w (RetDr FrGood w lo g A n c code) := by
  have hglt := h.lt
  have hlg := h.from_
  go_enter Try.func132, Try.ntmps132
  go_wp2_with fail
  have ho1 := Rep.only_alloc w (.cells #[.int .i64 0, .string ⟨#[]⟩, .int .i64 0] 33)
  have hv1 := heap_alloc_new w (.cells #[.int .i64 0, .string ⟨#[]⟩, .int .i64 0] 33)
  have hs1 : (w.alloc (.cells #[.int .i64 0, .string ⟨#[]⟩, .int .i64 0] 33)).heap.size = w.heap.size + 1 := by simp
  generalize w.alloc (.cells #[.int .i64 0, .string ⟨#[]⟩, .int .i64 0] 33) = W1 at ho1 hv1 hs1 ⊢
  have hc1 := h.only ho1 (by simp) (fun a ha => by cases ha)
  have O1 : Rep.Only w W1 [g] := ho1.mono (by simp)
  have V1 := Lib.hid hv1
  clear ho1 hv1 h
  refine (l1Below_any lo g A n c code 6 W1 hc1 hn (by omega) (by omega)).mono ?_
  rintro e W2 ⟨x, hx, rfl, hc2, hg2⟩
  have ho := only_g hg2
  have V2 := Rep.var_only V1 ho (by omega) (by simp; omega)
  have O2 := O1.then ho (fun a ha => .inl ha)
  have s2 := ho.size
  clear hg2 ho hc1 V1 O1
  have V : ∀ kd : Int, VF w lo g A n c code W2.heap.size ⟨kd, ⟨#[]⟩, 0⟩ (W2.alloc (.cells #[.int .i64 kd, .string ⟨#[]⟩, .int .i64 0] 33)) := fun kd =>
    ⟨(Below.heap_alloc _ _ _ (by omega)).trans V2.out, heap_alloc_new _ _, hc2.alloc _, O2.then (Rep.only_alloc _ _) (fun a ha => by cases ha), by omega, hglt, hlg⟩
  clear hc2 O2
  have split : x = 0 ∨ x = 1 ∨ x = 2 ∨ x = 3 ∨ x = 4 ∨ x = 5 := by omega
  rcases split with rfl | rfl | rfl | rfl | rfl | rfl
  · replace V := V 1
    clear V2
    go_wp2_with fail
    have hs4 : (W2.alloc (.cells #[.int .i64 1, .string ⟨#[]⟩, .int .i64 0] 33)).heap.size = W2.heap.size + 1 := by simp
    generalize W2.alloc (.cells #[.int .i64 1, .string ⟨#[]⟩, .int .i64 0] 33) = W4 at V hs4 ⊢
    rw [← hs4]
    clear hs4
    generalize W2.heap.size = D at V ⊢
    refine (draw_str lo g A n c code [⟨#[109, 97, 105, 110]⟩, ⟨#[108, 111, 103, 115]⟩, ⟨#[120]⟩, ⟨#[97, 100, 109, 105, 110]⟩] W4 V.cur hn (by decide) (by decide)).mono ?_
    rintro e W5 ⟨s, hs, rfl, hc5, ho5⟩
    have HG : Hid (FrGood ⟨1, s, 0⟩) := Lib.hid (by
      simp only [List.mem_cons, List.not_mem_nil, or_false] at hs
      rcases hs with rfl | rfl | rfl | rfl <;> exact ⟨by kernel_rfl, by decide⟩)
    replace V := V.step hc5 ho5
    clear hc5 ho5 hs
    obtain ⟨⟨d0, d1, d2⟩, df, ⟨z0, z1, z2⟩, zf⟩ := V.facts
    have dfi := df 1
    have hDl : D < W5.heap.size := (Array.getElem?_eq_some_iff.1 V.var).1
    have hne : w.heap.size ≠ D := by have := V.hD; omega
    have zf0 := zf 0
    have zf1 := zf 1
    have zf2 := zf 2
    have hret := (V.set 1 (.string s) ⟨1, s, 0⟩ rfl).ret HG.out
    clear V df zf
    go_wp2_with fail
    exact bodyPost_ret (v := .agg #[.int .i64 1, .string s, .int .i64 0]) (by simp [results, Try.results132, go_sem, z0, z1, z2]) rfl hret
  · replace V := V 2
    clear V2
    go_wp2_with fail
    have hs4 : (W2.alloc (.cells #[.int .i64 2, .string ⟨#[]⟩, .int .i64 0] 33)).heap.size = W2.heap.size + 1 := by simp
    generalize W2.alloc (.cells #[.int .i64 2, .string ⟨#[]⟩, .int .i64 0] 33) = W4 at V hs4 ⊢
    rw [← hs4]
    clear hs4
    generalize W2.heap.size = D at V ⊢
    refine (draw_str lo g A n c code [⟨#[98, 101, 103, 105, 110]⟩, ⟨#[99, 111, 109, 109, 105, 116]⟩, ⟨#[114, 111, 108, 108, 98, 97, 99, 107]⟩, ⟨#[102, 97, 105, 108]⟩, ⟨#[111, 110, 101]⟩, ⟨#[116, 119, 111]⟩, ⟨#[]⟩] W4 V.cur hn (by decide) (by decide)).mono ?_
    rintro e W5 ⟨s, hs, rfl, hc5, ho5⟩
    have HG : Hid (FrGood ⟨2, s, 0⟩) := Lib.hid (by
      simp only [List.mem_cons, List.not_mem_nil, or_false] at hs
      rcases hs with rfl | rfl | rfl | rfl | rfl | rfl | rfl <;> exact ⟨by kernel_rfl, by decide⟩)
    replace V := V.step hc5 ho5
    clear hc5 ho5 hs
    obtain ⟨⟨d0, d1, d2⟩, df, ⟨z0, z1, z2⟩, zf⟩ := V.facts
    have dfi := df 1
    have hDl : D < W5.heap.size := (Array.getElem?_eq_some_iff.1 V.var).1
    have hne : w.heap.size ≠ D := by have := V.hD; omega
    have zf0 := zf 0
    have zf1 := zf 1
    have zf2 := zf 2
    have hret := (V.set 1 (.string s) ⟨2, s, 0⟩ rfl).ret HG.out
    clear V df zf
    go_wp2_with fail
    exact bodyPost_ret (v := .agg #[.int .i64 2, .string s, .int .i64 0]) (by simp [results, Try.results132, go_sem, z0, z1, z2]) rfl hret
  · replace V := V 3
    clear V2
    go_upto_region 12 with (fail)
    generalize W2.alloc (.cells #[.int .i64 3, .string ⟨#[]⟩, .int .i64 0] 33) = W5 at V ⊢
    generalize W2.heap.size = D at V ⊢
    obtain ⟨⟨d0, d1, d2⟩, df, ⟨z0, z1, z2⟩, zf⟩ := V.facts
    have hne : w.heap.size ≠ D := by have := V.hD; omega
    have zf0 := zf 0
    have zf1 := zf 1
    have zf2 := zf 2
    have hret := V.ret (P := FrGood) (by exact ⟨by kernel_rfl, by decide⟩)
    clear V df zf
    go_wp2_with fail
    exact bodyPost_ret (v := .agg #[.int .i64 3, .string ⟨#[]⟩, .int .i64 0]) (by simp [results, Try.results132, go_sem, z0, z1, z2]) rfl hret
  · replace V := V 4
    clear V2
    go_wp2_with fail
    have hs4 : (W2.alloc (.cells #[.int .i64 4, .string ⟨#[]⟩, .int .i64 0] 33)).heap.size = W2.heap.size + 1 := by simp
    generalize W2.alloc (.cells #[.int .i64 4, .string ⟨#[]⟩, .int .i64 0] 33) = W4 at V hs4 ⊢
    rw [← hs4]
    clear hs4
    generalize W2.heap.size = D at V ⊢
    refine (draw_str lo g A n c code [⟨#[]⟩, ⟨#[97]⟩, ⟨#[102, 117, 108, 108]⟩, ⟨#[111, 110, 101]⟩] W4 V.cur hn (by decide) (by decide)).mono ?_
    rintro e W5 ⟨s, hs, rfl, hc5, ho5⟩
    have HG : Hid (FrGood ⟨4, s, 0⟩) := Lib.hid (by
      simp only [List.mem_cons, List.not_mem_nil, or_false] at hs
      rcases hs with rfl | rfl | rfl | rfl <;> exact ⟨by kernel_rfl, by decide⟩)
    replace V := V.step hc5 ho5
    clear hc5 ho5 hs
    obtain ⟨⟨d0, d1, d2⟩, df, ⟨z0, z1, z2⟩, zf⟩ := V.facts
    have dfi := df 1
    have hDl : D < W5.heap.size := (Array.getElem?_eq_some_iff.1 V.var).1
    have hne : w.heap.size ≠ D := by have := V.hD; omega
    have zf0 := zf 0
    have zf1 := zf 1
    have zf2 := zf 2
    have hret := (V.set 1 (.string s) ⟨4, s, 0⟩ rfl).ret HG.out
    clear V df zf
    go_wp2_with fail
    exact bodyPost_ret (v := .agg #[.int .i64 4, .string s, .int .i64 0]) (by simp [results, Try.results132, go_sem, z0, z1, z2]) rfl hret
  · replace V := V 5
    clear V2
    go_wp2_with fail
    generalize W2.alloc (.cells #[.int .i64 5, .string ⟨#[]⟩, .int .i64 0] 33) = W4 at V ⊢
    generalize W2.heap.size = D at V ⊢
    refine (l1Below_any lo g A n c code 3 W4 V.cur hn (by omega) (by omega)).mono ?_
    rintro e W5 ⟨y, hy, rfl, hc5, hg5⟩
    replace V := V.step hc5 (only_g hg5)
    clear hc5 hg5
    obtain ⟨⟨d0, d1, d2⟩, df, ⟨z0, z1, z2⟩, zf⟩ := V.facts
    have dfi := df 2
    have hDl : D < W5.heap.size := (Array.getElem?_eq_some_iff.1 V.var).1
    have hne : w.heap.size ≠ D := by have := V.hD; omega
    have zf0 := zf 0
    have zf1 := zf 1
    have zf2 := zf 2
    have hret := (V.set 2 (.int .i64 (y : Int)) ⟨5, ⟨#[]⟩, (y : Int)⟩ rfl).ret (P := FrGood) ⟨by rw [frB_5]; simp [inI]; omega, by show 0 ≤ 101; omega⟩
    clear V df zf
    go_wp2_with fail
    exact bodyPost_ret (v := .agg #[.int .i64 5, .string ⟨#[]⟩, .int .i64 (y : Int)]) (by simp [results, Try.results132, go_sem, z0, z1, z2]) rfl hret
  · replace V := V 6
    clear V2
    go_wp2_with fail
    have hs4 : (W2.alloc (.cells #[.int .i64 6, .string ⟨#[]⟩, .int .i64 0] 33)).heap.size = W2.heap.size + 1 := by simp
    generalize W2.alloc (.cells #[.int .i64 6, .string ⟨#[]⟩, .int .i64 0] 33) = W4 at V hs4 ⊢
    rw [← hs4]
    clear hs4
    generalize W2.heap.size = D at V ⊢
    refine (draw_str lo g A n c code [⟨#[]⟩, ⟨#[97]⟩, ⟨#[102, 117, 108, 108]⟩, ⟨#[111, 110, 101]⟩] W4 V.cur hn (by decide) (by decide)).mono ?_
    rintro e W5 ⟨s, hs, rfl, hc5, ho5⟩
    have HG : Hid (FrGood ⟨6, s, 0⟩) := Lib.hid (by
      simp only [List.mem_cons, List.not_mem_nil, or_false] at hs
      rcases hs with rfl | rfl | rfl | rfl <;> exact ⟨by kernel_rfl, by decide⟩)
    replace V := V.step hc5 ho5
    clear hc5 ho5 hs
    obtain ⟨⟨d0, d1, d2⟩, df, ⟨z0, z1, z2⟩, zf⟩ := V.facts
    have dfi := df 1
    have hDl : D < W5.heap.size := (Array.getElem?_eq_some_iff.1 V.var).1
    have hne : w.heap.size ≠ D := by have := V.hD; omega
    have zf0 := zf 0
    have zf1 := zf 1
    have zf2 := zf 2
    have hret := (V.set 1 (.string s) ⟨6, s, 0⟩ rfl).ret HG.out
    clear V df zf
    go_wp2_with fail
    exact bodyPost_ret (v := .agg #[.int .i64 6, .string s, .int .i64 0]) (by simp [results, Try.results132, go_sem, z0, z1, z2]) rfl hret
theorem own_step {w w' : World} {base g : Nat} {e : TypeId} {v : Value} {l : List UInt8} (h : Owns w base e v l) (ho : Rep.Only w w' [g]) (hg : g < base) : Owns w' base e v l :=
  Rep.ownsRow_block h (fun k hk => ho.block k (h.lt k (by simpa using hk)).2 (by have := (h.lt k (by simpa using hk)).1; simp; omega))
/-- Bytes of the call's own come back. -/
def RetBy (N : Nat) (w : World) (lo g : Nat) (A : Option Addr) (n c : Nat) (code : List UInt8) (e : Ending) (w' : World) : Prop :=
  ∃ A2 c2 l', e = .returned (.slice A2 l'.length c2) ∧ l'.length ≤ N ∧ l'.length ≤ c2 ∧ Owns w' w.heap.size 5 (.slice A2 l'.length c2) l' ∧ Cur w' lo g A n c code ∧ Rep.Only w w' [g]
set_option maxHeartbeats 4000000 in
theorem l6Bytes_any (lo g : Nat) (A : Option Addr) (n c : Nat) (code : List UInt8) (w : World) (h : Cur w lo g A n c code) (hn : n ≤ 140737488351232) :
    Calls Try.prog 149 #[.pointer (some ⟨g, 0, none⟩)] w (RetBy 103 w lo g A n c code) := by
  have hglt := h.lt
  go_enter Try.func149, Try.ntmps149
  go_wp2_with fail
  refine (l6Draw_any lo g A n c code w h hn).mono ?_
  rintro e W1 ⟨⟨rk, rs, rt⟩, rfl, ⟨_, hts⟩, hc1, ho1⟩
  replace hts : rs.size ≤ 101 := hts
  clear h
  go_wp2_with fail
  refine (putFrameS_any ⟨rk, rs, rt⟩ W1 (by show rs.size ≤ 1048576; omega)).mono ?_
  have hln := putF_len ⟨rk, rs, rt⟩
  generalize putF ⟨rk, rs, rt⟩ = l at hln ⊢
  rintro e W2 ⟨v2, rfl, o2, hb⟩
  obtain ⟨A2, c2, rfl, hk2, _, _, _⟩ := o2.shape
  have hb' := Rep.only_of_below hb
  have hc2 := hc1.only hb' (by simp) (fun a ha => by cases ha)
  have ho2 := ho1.then hb' (fun a ha => by cases ha)
  have hg1 : g < W1.heap.size := hc1.lt
  clear hc1 ho1 hb'
  go_wp2_with fail
  refine (l1Once_any lo g A n c code 6 W2 hc2 hn (by omega) (by omega)).mono ?_
  rintro e W3 ⟨y, rfl, hc3, hg3⟩
  replace o2 := own_step o2 (only_g hg3) hg1
  have ho3 := ho2.trans (only_g hg3)
  clear hc2 ho2 hg3
  cases y
  · go_wp2_with fail
    refine (l1BendO_any lo g A A2 n c c2 code l W3 hc3 hn o2.reads (by omega)).mono ?_
    rintro e W4 ⟨A4, c4, l4, rfl, hl4, hk4, o4, hc4, ho4⟩
    have hle := ho3.size
    go_wp2_with fail
    go_ret
    exact ⟨A4, c4, l4, rfl, by omega, hk4, ownsRow_mono o4 hle, hc4, ho3.trans ho4⟩
  · go_wp2_with fail
    refine (l1Below_any lo g A n c code 4 W3 hc3 hn (by omega) (by omega)).mono ?_
    rintro e W4 ⟨x, hx, rfl, hc4, hg4⟩
    have ho4 := ho3.trans (only_g hg4)
    clear hc3 ho3 hg4 o2
    go_wp2_with fail
    refine (l1Bytes_any lo g A n c code x W4 hc4 hn (by omega)).mono ?_
    rintro e W5 ⟨v5, l5, hl5, rfl, o5, hc5, hg5⟩
    obtain ⟨A5, c5, rfl, hk5, _, _, _⟩ := o5.shape
    have hle := ho4.size
    go_wp2_with fail
    go_ret
    exact ⟨A5, c5, l5, by rw [hl5]; rfl, by omega, hk5, ownsRow_mono o5 hle, hc5, ho4.trans (only_g hg5)⟩
/-- The variable at block S holds x in rows of its own (from w0 on); beside it only the cursor's block g has turned. -/
structure DS (w0 : World) (lo g : Nat) (A : Option Addr) (n c : Nat) (code : List UInt8) (S : Nat) (x : Sk) (v4 v5 : Value) (W : World) : Prop where
  only : Rep.Only w0 W [g]
  cur : Cur W lo g A n c code
  gl : g < w0.heap.size
  box : W.heap[S]? = some (.cells #[.int .i64 x.id, .int .i64 x.kind, .int .i64 x.hold, .bool x.shut, v4, v5, .int .i64 x.st, .int .i64 x.done] 25 (0, 0))
  inn : Owns W w0.heap.size 5 v4 x.inn
  out : Owns W w0.heap.size 5 v5 x.out
  ap : ∀ k, v4.ownBlock = some k → v5.ownBlock ≠ some k
  lo' : w0.heap.size ≤ S
  n4 : v4.ownBlock ≠ some S
  n5 : v5.ownBlock ≠ some S
section
variable {w0 W W' : World} {lo g n c S : Nat} {A : Option Addr} {code : List UInt8} {x : Sk} {v4 v5 u : Value}
theorem DS.lt (h : DS w0 lo g A n c code S x v4 v5 W) : S < W.heap.size := (Array.getElem?_eq_some_iff.1 h.box).1
theorem DS.step (h : DS w0 lo g A n c code S x v4 v5 W) (hc : Cur W' lo g A n c code) (ho : Rep.Only W W' [g]) : DS w0 lo g A n c code S x v4 v5 W' := by
  have hg := h.gl
  have hl := h.lo'
  refine ⟨h.only.trans ho, hc, h.gl, (ho.block S h.lt (by simp; omega)).trans h.box, ?_, ?_, h.ap, h.lo', h.n4, h.n5⟩
  · exact Rep.ownsRow_block h.inn fun k hk => ho.block k (h.inn.lt k (by simpa using hk)).2 (by have := (h.inn.lt k (by simpa using hk)).1; simp; omega)
  · exact Rep.ownsRow_block h.out fun k hk => ho.block k (h.out.lt k (by simpa using hk)).2 (by have := (h.out.lt k (by simpa using hk)).1; simp; omega)
theorem DS.later (h : DS w0 lo g A n c code S x v4 v5 W) (hb : Below W.heap.size W W') : DS w0 lo g A n c code S x v4 v5 W' :=
  h.step (h.cur.only (Rep.only_of_below hb) (by simp) (fun a ha => by cases ha)) ((Rep.only_of_below hb).mono (by simp))
theorem DS.put (h : DS w0 lo g A n c code S x v4 v5 W) (i : Nat) (u : Value) (x' : Sk) (hi : x'.inn = x.inn) (ho : x'.out = x.out)
    (hb : (#[.int .i64 x.id, .int .i64 x.kind, .int .i64 x.hold, .bool x.shut, v4, v5, .int .i64 x.st, .int .i64 x.done] : Array Value).setIfInBounds i u = #[.int .i64 x'.id, .int .i64 x'.kind, .int .i64 x'.hold, .bool x'.shut, v4, v5, .int .i64 x'.st, .int .i64 x'.done]) : DS w0 lo g A n c code S x' v4 v5 (W.setCell ⟨S, i, none⟩ u) := by
  have ho' := Rep.Only.setCell W (p := ⟨S, i, none⟩) (fp := [S]) (by simp) u
  have hg := h.gl
  have hl := h.lo'
  have hf := h.cur.from_
  refine ⟨h.only.then ho' (fun a ha => by simp at ha; subst ha; exact .inr hl), h.cur.only ho' (by simp; omega) (fun a ha => by simp at ha; omega), h.gl, ?_, ?_, ?_, h.ap, h.lo', h.n4, h.n5⟩
  · rw [← hb]; exact var_set h.box i u
  · rw [hi]; exact Rep.ownsRow_block h.inn fun k hk => ho'.block k (h.inn.lt k (by simpa using hk)).2 (fun e => h.n4 (by simp at e; subst e; simpa using hk))
  · rw [ho]; exact Rep.ownsRow_block h.out fun k hk => ho'.block k (h.out.lt k (by simpa using hk)).2 (fun e => h.n5 (by simp at e; subst e; simpa using hk))
/-- The row's step: the row of what came in has grown, then it is stored. -/
theorem DS.grown4 (h : DS w0 lo g A n c code S x v4 v5 W) {l : List UInt8} {v : Value} (hg : W.grownBy W' v4.ownBlock) (hl : Owns W' w0.heap.size 5 v l) (hat : v.ownBlock = v4.ownBlock ∨ v.ownBlock = some W.heap.size ∨ v.ownBlock = none) :
    W'.heap[S]? = W.heap[S]? ∧ DS w0 lo g A n c code S { x with inn := l } v v5 (W'.setCell ⟨S, 4, none⟩ v) := by
  have hb : ∀ k, k < W.heap.size → v4.ownBlock ≠ some k → W'.heap[k]? = W.heap[k]? := fun k hk hn => hg.block k hk (fun e => hn e.symm)
  have hS := h.lt
  have hgl := h.gl
  have hlo := h.lo'
  have hf := h.cur.from_
  have hoR : Rep.Only W W' v4.ownBlock.toList := Rep.Only.of_grown hg (fun k hk => by rw [hk]; simp)
  have hn4 : v.ownBlock ≠ some S := by
    rcases hat with e | e | e
    · rw [e]; exact h.n4
    · rw [e]; intro e2; injection e2 with e2; omega
    · rw [e]; intro e2; cases e2
  have ho' := Rep.Only.setCell W' (p := ⟨S, 4, none⟩) (fp := [S]) (by simp) v
  have hm : ∀ a, a ∈ v4.ownBlock.toList → w0.heap.size ≤ a := fun a ha => (h.inn.lt a (by simpa using ha)).1
  refine ⟨hb S hS h.n4, ?_, ?_, h.gl, ?_, ?_, ?_, ?_, h.lo', hn4, h.n5⟩
  · exact (h.only.then hoR (fun a ha => .inr (hm a ha))).then ho' (fun a ha => by simp at ha; subst ha; exact .inr hlo)
  · exact (h.cur.only hoR (fun hx => by have := hm g hx; omega) (fun a ha => by have := hm a ha; omega)).only ho' (by simp; omega) (fun a ha => by simp at ha; omega)
  · exact var_set ((hb S hS h.n4).trans h.box) 4 v
  · exact Rep.ownsRow_block hl fun k hk => ho'.block k (hl.lt k (by simpa using hk)).2 (fun e => hn4 (by simp at e; subst e; simpa using hk))
  · have h5 : Owns W' w0.heap.size 5 v5 x.out := Rep.ownsRow_block h.out fun k hk => hb k (h.out.lt k (by simpa using hk)).2 (fun e => h.ap k e (by simpa using hk))
    exact Rep.ownsRow_block h5 fun k hk => ho'.block k (h5.lt k (by simpa using hk)).2 (fun e => h.n5 (by simp at e; subst e; simpa using hk))
  · intro k hk
    rcases hat with e | e | e
    · exact h.ap k (e ▸ hk)
    · intro e5; have := (h.out.lt k e5).2; rw [e] at hk; injection hk with hk; omega
    · rw [e] at hk; cases hk
theorem DS.grown5 (h : DS w0 lo g A n c code S x v4 v5 W) {l : List UInt8} {v : Value} (hg : W.grownBy W' v5.ownBlock) (hl : Owns W' w0.heap.size 5 v l) (hat : v.ownBlock = v5.ownBlock ∨ v.ownBlock = some W.heap.size ∨ v.ownBlock = none) :
    W'.heap[S]? = W.heap[S]? ∧ DS w0 lo g A n c code S { x with out := l } v4 v (W'.setCell ⟨S, 5, none⟩ v) := by
  have hb : ∀ k, k < W.heap.size → v5.ownBlock ≠ some k → W'.heap[k]? = W.heap[k]? := fun k hk hn => hg.block k hk (fun e => hn e.symm)
  have hS := h.lt
  have hgl := h.gl
  have hlo := h.lo'
  have hf := h.cur.from_
  have hoR : Rep.Only W W' v5.ownBlock.toList := Rep.Only.of_grown hg (fun k hk => by rw [hk]; simp)
  have hn5 : v.ownBlock ≠ some S := by
    rcases hat with e | e | e
    · rw [e]; exact h.n5
    · rw [e]; intro e2; injection e2 with e2; omega
    · rw [e]; intro e2; cases e2
  have ho' := Rep.Only.setCell W' (p := ⟨S, 5, none⟩) (fp := [S]) (by simp) v
  have hm : ∀ a, a ∈ v5.ownBlock.toList → w0.heap.size ≤ a := fun a ha => (h.out.lt a (by simpa using ha)).1
  refine ⟨hb S hS h.n5, ?_, ?_, h.gl, ?_, ?_, ?_, ?_, h.lo', h.n4, hn5⟩
  · exact (h.only.then hoR (fun a ha => .inr (hm a ha))).then ho' (fun a ha => by simp at ha; subst ha; exact .inr hlo)
  · exact (h.cur.only hoR (fun hx => by have := hm g hx; omega) (fun a ha => by have := hm a ha; omega)).only ho' (by simp; omega) (fun a ha => by simp at ha; omega)
  · exact var_set ((hb S hS h.n5).trans h.box) 5 v
  · have h4 : Owns W' w0.heap.size 5 v4 x.inn := Rep.ownsRow_block h.inn fun k hk => hb k (h.inn.lt k (by simpa using hk)).2 (fun e => h.ap k (by simpa using hk) e)
    exact Rep.ownsRow_block h4 fun k hk => ho'.block k (h4.lt k (by simpa using hk)).2 (fun e => h.n4 (by simp at e; subst e; simpa using hk))
  · exact Rep.ownsRow_block hl fun k hk => ho'.block k (hl.lt k (by simpa using hk)).2 (fun e => hn5 (by simp at e; subst e; simpa using hk))
  · intro k hk
    rcases hat with e | e | e
    · rw [e]; exact h.ap k hk
    · rw [e]; intro e5; injection e5 with e5; have := (h.inn.lt k hk).2; omega
    · rw [e]; intro e5; cases e5
theorem DS.slices (h : DS w0 lo g A n c code S x v4 v5 W) : ∃ A4 c4 A5 c5, v4 = .slice A4 x.inn.length c4 ∧ v5 = .slice A5 x.out.length c5 := by
  obtain ⟨A4, c4, rfl, _⟩ := h.inn.shape
  obtain ⟨A5, c5, rfl, _⟩ := h.out.shape
  exact ⟨A4, c4, A5, c5, rfl, rfl⟩
theorem DS.own (h : DS w0 lo g A n c code S x v4 v5 W) : skR.own W w0.heap.size [.int .i64 x.id, .int .i64 x.kind, .int .i64 x.hold, .bool x.shut, v4, v5, .int .i64 x.st, .int .i64 x.done] x (v4.ownBlock.toList ++ (v5.ownBlock.toList ++ [])) := sk_own h.inn h.out (sk_apart2 h.ap)
end
theorem put8_only {W : World} {E : Nat} (u0 u1 u2 u3 u4 u5 u6 u7 : Value) : Rep.Only W ((((((((W.setCell ⟨E, 0, none⟩ u0).setCell ⟨E, 1, none⟩ u1).setCell ⟨E, 2, none⟩ u2).setCell ⟨E, 3, none⟩ u3).setCell ⟨E, 4, none⟩ u4).setCell ⟨E, 5, none⟩ u5).setCell ⟨E, 6, none⟩ u6).setCell ⟨E, 7, none⟩ u7) [E] := by
  repeat (refine Rep.Only.trans ?_ (Rep.Only.setCell _ (by simp) _))
  exact Rep.Only.refl _ _
end Go.Proofs.Ytaigdioimldknaa
