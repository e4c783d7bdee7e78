/- The program's socket answers. (By gen_l8a.py.) -/
import Derived.Test.YtcelkmphdeaaeaaReply
import Derived.Test.YtcelkmphdeaaeaaSocketOf
import Derived.Test.YtcelkmphdeaaeaaSocketNx
import Derived.Test.YtcelkmphdeaaeaaHearI
namespace Go.Proofs.Ytcelkmphdeaaeaa
open Go.RowKit
set_option maxRecDepth 100000
set_option linter.unusedVariables false

theorem getF_small (l : List UInt8) : (getF l).1.s.size ≤ 1048576 := by
  have ht := tx_size l
  have ht2 : (txF l).s.size ≤ 1048576 := Nat.le_trans ht (by decide)
  unfold getF
  (repeat' split) <;> first | exact ht2 | (simp [waitF, badF, zeroFr]; done) | exact (show (⟨#[]⟩ : ByteArray).size ≤ 1048576 by decide)
def ansF (x : Sk) : Fr × Int × Int := getF (x.out.drop x.done.toNat)
def ansB (x : Sk) : List UInt8 := allB (repL x.st (ansF x).1)
def ansC (x : Sk) : Sk × Bool := if (ansF x).2.2 = 0 ∧ x.inn.length + (ansB x).length ≤ 240 then ({ x with inn := x.inn ++ ansB x, st := repS x.st (ansF x).1, done := x.done + (ansF x).2.1 }, true) else (x, false)
def ansP (x : Sk) : Sk × Bool := if skB x = true ∧ x.kind = 2 ∧ x.shut = false then ansC x else (x, false)
theorem skB_line {x : Sk} (h : skB x = true) (hk : x.kind = 2) : inI x.st 0 2 = true ∧ ∃ d : Nat, x.done = (d : Int) ∧ d ≤ x.out.length ∧ x.done.toNat = d := by
  rw [skB_alt] at h
  have e1 : (x.kind == 1) = false := by simp [hk]
  have e2 : (x.kind == 2) = true := by simp [hk]
  rw [e1, e2] at h
  simp only [Bool.and_eq_true, if_true, Bool.false_eq_true, if_false] at h
  obtain ⟨_, _, _, h1, h2⟩ := h
  unfold inI at h2
  have h3 := of_decide_eq_true h2
  exact ⟨h1, x.done.toNat, by omega, by omega, rfl⟩
theorem allB_two (a b : Fr) : allB [a, b] = putF a ++ putF b := by simp [allB]
theorem allB_len (a b : Fr) : (allB [a, b]).length ≤ 204 := by
  rw [allB_two, List.length_append]
  have := putF_len a
  have := putF_len b
  omega
theorem allB_snoc {xs : List Fr} {k : Nat} {x : Fr} (h : xs[k]? = some x) : allB (xs.take (k + 1)) = allB (xs.take k) ++ putF x := by
  unfold allB
  rw [Rep.take_get h, List.flatMap_append]
  simp

set_option maxHeartbeats 16000000 in
theorem answer_box {w0 : World} {S : Nat} {x : Sk} {v4 v5 o5 : Value} {d7 : Int} (w : World) (h : KB w0 S x v4 v5 o5 d7 w) (hx : skB x = true) (hk : x.kind = 2) (hr : RoomSk x) :
    Calls Try.prog 83 #[.pointer (some ⟨S, 0, none⟩)] w fun e' w' => ∃ v4', e' = .returned (.bool (ansC x).2) ∧ KB w0 S (ansC x).1 v4' v5 o5 d7 w' := by
  obtain ⟨hst, d, hd, hdl, hdt⟩ := skB_line hx hk
  obtain ⟨i0, hi0, hz0, hz1, hz2⟩ := info_parts Try.info8
  obtain ⟨⟨⟨fk, fs, fst⟩, fn, fc⟩, hp⟩ : ∃ p, getF (x.out.drop d) = p := ⟨_, rfl⟩
  have HP := Lib.hid (show ansF x = (⟨fk, fs, fst⟩, fn, fc) by unfold ansF; rw [hdt, hp])
  have HGF := Lib.hid hp
  have hil := hr.1
  have HST := Lib.hid hst
  have hfs : fs.size ≤ 1048576 := by have h9 := getF_small (x.out.drop d); rw [hp] at h9; exact h9
  go_enter Try.func83, Try.ntmps83
  go_wp2_with fail
  refine (next_any d (⟨fk, fs, fst⟩, fn, fc) w h (by have := hr.2; omega) hd hdl hp).mono ?_
  rintro e1 W1 ⟨rfl, hb⟩
  have hK := h.later hb
  clear h hb hp hd hdt hst
  unfold frC
  go_upto_region 2 with (fail)
  replace hK := hK.later (Later.alloc W1 (.cells #[.int .i64 fk, .string fs, .int .i64 fst] 33))
  have hG := heap_alloc_new W1 (.cells #[.int .i64 fk, .string fs, .int .i64 fst] 33)
  generalize W1.alloc (.cells #[.int .i64 fk, .string fs, .int .i64 fst] 33) = W2 at hK hG ⊢
  generalize W1.heap.size = G at hG ⊢
  by_cases hc : fc = 0
  · subst hc
    obtain ⟨n, hn, hn1, hn2, _, hfr, _⟩ := getF_good (l := x.out.drop d) (by rw [HGF.out])
    rw [HGF.out] at hn hfr
    replace hn : fn = (n : Int) := hn
    replace hfr : frB ⟨fk, fs, fst⟩ = true := hfr
    subst hn
    obtain ⟨a, b, hab, ha, hb, _, _, _, _, _⟩ := repL_two HST.out hfr
    obtain ⟨st', hst'⟩ : ∃ s, repS x.st ⟨fk, fs, fst⟩ = s := ⟨_, rfl⟩
    have HAB := Lib.hid hab
    have HS := Lib.hid hst'
    have hdn : (x.done + (n : Int)) = x.done + (n : Int) := rfl
    have hol := hr.2
    have hdn2 : 0 ≤ x.done ∧ x.done ≤ 1048576 := by have := (skB_line hx hk).2; obtain ⟨d', h1, h2, _⟩ := this; omega
    have hnl : n ≤ 1048576 := by rw [List.length_drop] at hn2; omega
    obtain ⟨A4, c4, A5, c5, B5, m5, e5, rfl, rfl, rfl, hc4, hc5⟩ := hK.slices
    clear hab hst' hx hk hr hdl hn1 hn2 hdn hc4 hc5
    go_upto_region 4 with (fail)
    have T : All (fun w' => KB w0 S x (.slice A4 x.inn.length c4) (.slice A5 x.out.length c5) (.slice B5 m5 e5) d7 w' ∧ (w'.heap[S]? = some (.cells #[.slice A5 x.out.length c5, .int .i64 x.done, .int .i64 x.id, .int .i64 x.kind, .int .i64 x.hold, .bool x.shut, .slice A4 x.inn.length c4, .slice B5 m5 e5, .int .i64 x.st, .int .i64 d7] 89 (0, 0))) ∧ (w'.heap[G]? = some (.cells #[.int .i64 fk, .string fs, .int .i64 fst] 33 (0, 0)))) W2 := ⟨hK, hK.box, hG⟩
    refine wp_region_open 100 (fun w' => (w'.heap[S]? = some (.cells #[.slice A5 x.out.length c5, .int .i64 x.done, .int .i64 x.id, .int .i64 x.kind, .int .i64 x.hold, .bool x.shut, .slice A4 x.inn.length c4, .slice B5 m5 e5, .int .i64 x.st, .int .i64 d7] 89 (0, 0))) ∧ (w'.heap[G]? = some (.cells #[.int .i64 fk, .string fs, .int .i64 fst] 33 (0, 0)))) (by kernel_rfl) ?_
    replace T := T.drew
    clear hK hG
    generalize W2.drew = W2 at T ⊢
    refine wpAnyL_readsG [0, 1, 2, 3, 4, 5] (fuel := 6) (by kernel_rfl) T.out.2 ?_
    refine LexRG.yes rfl (by first | rfl | (simp [Region.wanted, yielded]; done)) ?_ (fun w' hw => ?_) ?_
    rotate_left
    focus (skip; clear hw; go_simp; (try exact rfl))
    try go_frame
    refine LexRG.yes rfl (by first | rfl | (simp [Region.wanted, yielded]; done)) ?_ (fun w' hw => ?_) ?_
    rotate_left
    focus (skip; clear hw; go_simp; (try exact rfl))
    try go_frame
    refine LexRG.yes rfl (by first | rfl | (simp [Region.wanted, yielded]; done)) ?_ (fun w' hw => ?_) ?_
    rotate_left
    focus (skip; clear hw; go_simp; (try exact rfl))
    try go_frame
    refine LexRG.yes rfl (by first | rfl | (simp [Region.wanted, yielded]; done)) ?_ (fun w' hw => ?_) ?_
    rotate_left
    focus (skip; clear hw; go_simp; (try exact rfl))
    try go_frame
    refine LexRG.yes rfl (by first | rfl | (simp [Region.wanted, yielded]; done)) ?_ (fun w' hw => ?_) ?_
    rotate_left
    focus (have hw2 := hw.1; have s8 := var_cell hw2 8; clear hw2; clear hw; go_simp; (try exact rfl))
    try go_frame
    refine LexRG.yes rfl (by first | rfl | (simp [Region.wanted, yielded]; done)) ?_ (fun w' hw => ?_) ?_
    rotate_left
    focus (have hw2 := hw.2; have f0 := var_cell hw2 0; have f1 := var_cell hw2 1; have f2 := var_cell hw2 2; clear hw2; clear hw; go_simp; (try exact rfl))
    try go_frame
    refine LexRG.nil ?_
    refine wpAnyL_one (i := 6) (by kernel_rfl) ?_
    refine lexA_get rfl ?_
    try go_frame
    go_wp2_with fail
    refine (reply_any x.st ⟨fk, fs, fst⟩ W2 hfs).mono ?_
    rw [HAB.out, HS.out]
    rintro e W3 ⟨A1, c1, rfl, o1, hb3⟩
    replace T := T.later hb3
    clear hb3
    go_wp2_with fail
    refine ⟨fun _ => T.out.2, ?_⟩
    refine wpAnyL_readsG [7, 8, 9] (fuel := 2) (by kernel_rfl) T.out.2 ?_
    refine LexRG.yes rfl (by first | rfl | (simp [Region.wanted, yielded]; done)) ?_ (fun w' hw => ?_) ?_
    rotate_left
    focus (skip; clear hw; go_simp; (try exact rfl))
    try go_frame
    refine LexRG.yes rfl (by first | rfl | (simp [Region.wanted, yielded]; done)) ?_ (fun w' hw => ?_) ?_
    rotate_left
    focus (skip; clear hw; go_simp; (try exact rfl))
    try go_frame
    refine LexRG.yes rfl (by first | rfl | (simp [Region.wanted, yielded]; done)) ?_ (fun w' hw => ?_) ?_
    rotate_left
    focus (skip; clear hw; go_simp; (try exact rfl))
    try go_frame
    refine LexRG.nil ?_
    refine wpAnyL_writes [10, 11] (by kernel_rfl) (LexW.cons rfl ?_)
    try go_frame
    go_wp2_with fail
    refine ⟨fun _ => T.out.2, LexW.cons rfl ?_⟩
    try go_frame
    go_wp2_with fail
    refine ⟨fun _ => T.out.2, LexW.nil ?_⟩
    try go_frame
    have hK := T.out.1
    have hAt : Reads W3 W3.heap.size 3 A1 2 (flatFr [a, b]) := Reads.of_own o1
    clear T o1
    have o0 := own_empty W3 W3.heap.size (Nat.le_refl _)
    have hB0 := Later.alloc W3 (.cells #[] 5)
    go_wp2
    go_loopw [8, 34] (fun q i wr => ∃ (k : Nat) (v : Value) (l : List UInt8), k ≤ 2 ∧ i = .int .i64 k ∧ v = q ∧ Hid (l = allB ([a, b].take k)) ∧ l.length ≤ 204 ∧ Below W3.heap.size W3 wr ∧ Owns wr W3.heap.size 5 v l) (fun _ i _ => 2 - (intOf i).toNat)
    case atStart => exact ⟨0, _, [], by omega, rfl, rfl, Lib.hid (by simp [allB]), by simp, hB0, o0⟩
    case round =>
      obtain ⟨k, v, l, hk, rfl, rfl, hl, hll, hbw, ho⟩ := hrel
      clear o0 hB0
      have FA := frS_elem (w := wr) (A := A1) (xs := [a, b]) (k := k) ((hAt.below hbw).more hbw.size)
      by_cases h2 : k < 2
      · obtain ⟨b9, off9, f, rfl, hbl, hf9, d0, d1, d2⟩ := FA h2
        have hfs9 : f.s.size ≤ 1048576 := by
          match k, h2 with
          | 0, _ => simp at hf9; subst hf9; exact ha
          | 1, _ => simp at hf9; subst hf9; exact hb
        have HF9 := Lib.hid hf9
        clear hf9 FA
        have hG9 := heap_alloc_new wr (.cells (frC f).toArray 33)
        have hbw2 := Later.trans hbw (Later.alloc wr (.cells (frC f).toArray 33))
        have ho2 := Owns.keep ho (Later.alloc wr (.cells (frC f).toArray 33))
        obtain ⟨P, hP⟩ : ∃ P, putF f = P := ⟨_, rfl⟩
        have HPF := Lib.hid hP
        have hPl : P.length ≤ 102 := by rw [← hP]; exact putF_len f
        clear hP ho hbw
        go_upto_region 9 with (fail)
        clear d0 d1 d2
        replace hG9 : (wr.alloc (.cells #[.int .i64 f.k, .string f.s, .int .i64 f.st] 33)).heap[wr.heap.size]? = some (.cells #[.int .i64 f.k, .string f.s, .int .i64 f.st] 33 (0, 0)) := hG9
        replace hbw2 : Below W3.heap.size W3 (wr.alloc (.cells #[.int .i64 f.k, .string f.s, .int .i64 f.st] 33)) := hbw2
        replace ho2 : Owns (wr.alloc (.cells #[.int .i64 f.k, .string f.s, .int .i64 f.st] 33)) W3.heap.size 5 v l := ho2
        generalize wr.alloc (.cells #[.int .i64 f.k, .string f.s, .int .i64 f.st] 33) = W5 at hG9 hbw2 ho2 ⊢
        have f0 := var_cell hG9 0
        have f1 := var_cell hG9 1
        have f2 := var_cell hG9 2
        go_wp2_with fail
        refine (putFrame_any f W5 hfs9).mono ?_
        rw [HPF.out]
        rintro e W6 ⟨vP, rfl, oP, hbP⟩
        obtain ⟨AP, cP, rfl, _, _, hrP, _⟩ := oP.shape
        replace hbw2 := Later.trans hbw2 hbP
        replace ho2 := Owns.keep ho2 hbP
        have hl9 : Hid (l ++ P = allB ([a, b].take (k + 1))) := Lib.hid (by rw [allB_snoc HF9.out, ← hl.out, HPF.out])
        have hll2 : (l ++ P).length ≤ 204 := by
          rw [hl9.out]
          have h1 := allB_len a b
          have h2' : (allB ([a, b].take (k + 1))).length ≤ (allB [a, b]).length := by
            match k, h2 with
            | 0, _ => simp [allB]
            | 1, _ => simp [allB]
          omega
        clear f0 f1 f2 hG9 oP hbP
        go_wp2_with (first
          | (at_builtin
             refine wpList_append_any _ rfl (.tmp 38) (.tmp 40) _ rfl W3.heap.size 5 i0 _ 1 1 Try.underlying22 hi0 hz0 hz1 hz2 rfl (by omega) v l.length (bys l) rfl ho2 W6.heap.size AP P.length cP (bys P) rfl hrP (bys_one P) (by simp only [maxLen]; omega) (by omega) hbw2.size ?_
             intro v3 w3 hown3 hg3 hat3
             refine Halt.go ?_)
          | fail)
        have hl3 : Owns w3 W3.heap.size 5 v3 (l ++ P) := by unfold Owns; rw [bys_append, List.length_append]; exact hown3
        have hbw3 : Below W3.heap.size W3 w3 := hbw2.grown hg3 hbw2.size (fun k hk => (ho2.lt k hk).1)
        clear hown3 hg3 hat3 hrP ho2 hbw2
        refine Halt.mk ?_
        go_wp2_with fail
        go_roundw
        case rel => exact ⟨k + 1, v3, l ++ P, by omega, by go_num, rfl, hl9, hll2, hbw3, hl3⟩
        case measure => simp [intOf]; omega
      · have he : k = 2 := by omega
        subst he
        clear FA
        have hl2 : Hid (l = ansB x) := Lib.hid (by rw [hl.out]; unfold ansB; rw [HP.out, HAB.out]; rfl)
        obtain ⟨Ab, cb, rfl, _, _, hrb, _⟩ := ho.shape
        have hK2 := hK.later hbw
        clear hl ho hbw
        go_wp2_with fail
        refine (receive_any wr hK2 Ab cb l hrb (by omega) (by omega)).mono ?_
        rintro e1 W6 (⟨h240, rfl, v4', hK3⟩ | ⟨h240, rfl, rfl⟩)
        · have HA : Hid (ansC x = ({ x with inn := x.inn ++ l, st := st', done := x.done + (n : Int) }, true)) := Lib.hid (by
            unfold ansC
            rw [HP.out, if_pos ⟨rfl, by rw [← hl2.out]; exact h240⟩, ← hl2.out]
            show ({ x with inn := x.inn ++ l, st := repS x.st ⟨fk, fs, fst⟩, done := x.done + (n : Int) }, true) = _
            rw [HS.out])
          obtain ⟨A7, c7, A8, c8, B7, m7, e7, rfl, e5', _, _, _⟩ := hK3.slices
          have k8 := var_cell hK3.box 8
          have kf8 := var_frozen hK3.box 8
          have hS3 := hK3.lt
          go_upto_region 14 with (fail)
          have hK4 : KB w0 S { x with inn := x.inn ++ l, st := st' } (.slice A7 (x.inn ++ l).length c7) (.slice A5 x.out.length c5) (.slice B5 m5 e5) d7 (W6.setCell ⟨S, 8, none⟩ (.int .i64 st')) := hK3.put 8 _ _ rfl rfl rfl
          clear k8 kf8 hK3 hS3
          generalize (W6.setCell ⟨S, 8, none⟩ (.int .i64 st')) = W7 at hK4 ⊢
          have k1 := var_cell hK4.box 1
          have kf1 := var_frozen hK4.box 1
          have hS4 := hK4.lt
          have hK5 : KB w0 S { x with inn := x.inn ++ l, st := st', done := x.done + (n : Int) } (.slice A7 (x.inn ++ l).length c7) (.slice A5 x.out.length c5) (.slice B5 m5 e5) d7 (W7.setCell ⟨S, 1, none⟩ (.int .i64 (x.done + (n : Int)))) := hK4.put 1 _ _ rfl rfl rfl
          clear hK4
          go_wp2_with fail
          go_ret
          rw [HA.out]
          first | exact ⟨_, rfl, hK5⟩ | exact ⟨rfl, _, hK5⟩
        · have HA : Hid (ansC x = (x, false)) := Lib.hid (by unfold ansC; rw [if_neg (fun h => h240 (by rw [hl2.out]; exact h.2))])
          go_wp2_with fail
          go_ret
          rw [HA.out]
          first | exact ⟨_, rfl, hK2⟩ | exact ⟨rfl, _, hK2⟩
  · have hce : (fc != 0) = true := by simp [hc]
    have HA : Hid (ansC x = (x, false)) := Lib.hid (by unfold ansC; rw [HP.out]; rw [if_neg (fun h => hc h.1)])
    go_wp2_with fail
    go_ret
    rw [HA.out]
    first | exact ⟨_, rfl, hK⟩ | exact ⟨rfl, _, hK⟩

end Go.Proofs.Ytcelkmphdeaaeaa
