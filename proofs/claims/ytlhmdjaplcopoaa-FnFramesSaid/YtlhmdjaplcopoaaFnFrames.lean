/- The walk of FnFrames. (By gen_fnframes.py.) -/
import Derived.Test.YtlhmdjaplcopoaaFramePure
import Derived.Test.YtlhmdjaplcopoaaDrawFrame
import Derived.Test.YtlhmdjaplcopoaaLexG
import Derived.Test.YtlhmdjaplcopoaaBent
namespace Go.Proofs.Ytlhmdjaplcopoaa
open Go.RowKit
set_option linter.unusedVariables false

set_option maxRecDepth 100000 in
set_option maxHeartbeats 8000000 in
theorem walk_FnFrames (a0 : Option Addr) (len0 cap0 : Nat) (z0 : List Int) (w : World) (w0 : IsRow .u8 w a0 len0 cap0 z0) :
    Calls Try.prog 3 #[.slice a0 len0 cap0] w fun e w' => e = .returned (.bool true) ∧ Below w.heap.size w w' := by
  obtain ⟨i0, hi0, hz0, hz1, hz2⟩ := info_parts Try.info8
  obtain ⟨code, rfl, _, hr⟩ := w0.reads
  clear w0
  by_cases hbig : (1048576 : Int) < code.length
  · go_enter Try.func3, Try.ntmps3
    go_wp2_with (first | (go_at_call 10; go_in) | fail)
    go_ret
    exact ⟨rfl, Below.refl _ _⟩
  · have hn : code.length ≤ 1048576 := by omega
    have HR := Lib.hid hr
    clear hr
    go_enter Try.func3, Try.ntmps3
    go_wp2_with (first | (go_at_call 10; go_in) | fail)
    refine (drawPutFrame_any a0 cap0 code w HR.out hn).mono ?_
    rintro e W0 ⟨⟨fk, fs, fst⟩, rfl, hsm, hb⟩
    replace hsm : fs.size ≤ 101 := hsm
    have HSM := Lib.hid (show fs.size ≤ 1048576 by omega)
    have S : All (fun w' => Below w.heap.size w w' ∧ (w'.heap[W0.heap.size]? = some (.cells (frC ⟨fk, fs, fst⟩).toArray 25 (0, 0)))) (W0.alloc (.cells (frC ⟨fk, fs, fst⟩).toArray 25)) := ⟨Later.trans hb (Later.alloc W0 _), heap_alloc_new W0 _⟩
    clear hb hsm
    go_wp2_with fail
    replace S : All (fun w' => Below w.heap.size w w' ∧ (w'.heap[W0.heap.size]? = some (.cells (frC ⟨fk, fs, fst⟩).toArray 25 (0, 0)))) (W0.alloc (.cells #[.int .i64 fk, .string fs, .int .i64 fst] 25)) := S
    generalize W0.alloc (.cells #[.int .i64 fk, .string fs, .int .i64 fst] 25) = W1 at S ⊢
    generalize W0.heap.size = D1 at S ⊢
    refine (putFrame_any ⟨fk, fs, fst⟩ W1 HSM.out).mono ?_
    rintro e W2 ⟨v2, rfl, o2, hb⟩
    obtain ⟨L, hL⟩ : ∃ L, putF ⟨fk, fs, fst⟩ = L := ⟨_, rfl⟩
    have hLn : L.length ≤ 102 := by rw [← hL]; exact putF_len _
    rw [hL] at o2
    have HL := Lib.hid hL
    clear hL
    obtain ⟨A2, c2, rfl, hk2, _, r2, _⟩ := o2.shape
    have T : All (fun w' => (Below w.heap.size w w' ∧ Reads w' w'.heap.size 1 A2 L.length (bys L)) ∧ (w'.heap[D1]? = some (.cells (frC ⟨fk, fs, fst⟩).toArray 25 (0, 0)))) W2 := ⟨⟨(S.later hb).out.1, r2⟩, (S.later hb).out.2⟩
    clear hb o2 r2 S
    obtain ⟨b, hbq⟩ : ∃ b, frB ⟨fk, fs, fst⟩ = b := ⟨_, rfl⟩
    obtain ⟨t, htq⟩ : ∃ t, textF ⟨fk, fs, fst⟩ = t := ⟨_, rfl⟩
    have HB := Lib.hid hbq
    have HT := Lib.hid htq
    have bb : (b != b) = false := by simp
    have tt : (t.toList != t.toList) = false := by simp
    clear hbq htq
    go_upto_region 5 with (fail)
    refine wp_region_open 100 (fun w' => w'.heap[D1]? = some (.cells (frC ⟨fk, fs, fst⟩).toArray 25 (0, 0))) (by kernel_rfl) ?_
    replace T := T.drew
    refine wpAnyL_readsG [0, 2] (fuel := 10) (by kernel_rfl) T.out.2 ?_
    refine LexRG.yes rfl (by first | rfl | (simp [Region.wanted, yielded]; done)) ?_ (fun w' hw => ?_) ?_
    rotate_left
    focus (obtain ⟨d0, d1, d2⟩ := fr_box (r := ⟨fk, fs, fst⟩) hw; clear hw; go_simp; (try exact rfl))
    try go_frame
    refine LexRG.yes rfl (by first | rfl | (simp [Region.wanted, yielded]; done)) ?_ (fun w' hw => ?_) ?_
    rotate_left
    focus (obtain ⟨d0, d1, d2⟩ := fr_box (r := ⟨fk, fs, fst⟩) hw; clear hw; go_simp; (try exact rfl))
    try go_frame
    refine LexRG.nil ?_
    refine wpAnyL_one (i := 1) (by kernel_rfl) ?_
    refine lexA_get rfl ?_
    try go_frame
    go_wp2_with fail
    refine (frameOk_any ⟨fk, fs, fst⟩ W2.drew HSM.out).mono ?_
    rw [HB.out]
    rintro e V1 ⟨rfl, hb⟩
    replace T := T.later hb
    clear hb
    go_wp2_with fail
    refine ⟨fun _ => T.out.2, ?_⟩
    refine wpAnyL_one (i := 3) (by kernel_rfl) ?_
    refine lexA_get rfl ?_
    try go_frame
    go_wp2_with fail
    refine (frameOkS_any ⟨fk, fs, fst⟩ V1 HSM.out).mono ?_
    rw [HB.out]
    rintro e V2 ⟨rfl, hb⟩
    replace T := T.later hb
    clear hb
    go_wp2_with fail
    refine ⟨fun _ => T.out.2, ?_⟩
    refine wpAnyL_readsG [4, 5, 6, 8] (fuel := 4) (by kernel_rfl) T.out.2 ?_
    refine LexRG.yes rfl (by first | rfl | (simp [Region.wanted, yielded]; done)) ?_ (fun w' hw => ?_) ?_
    rotate_left
    focus (clear hw; go_simp; (try exact rfl))
    try go_frame
    refine LexRG.yes rfl (by first | rfl | (simp [Region.wanted, yielded]; done)) ?_ (fun w' hw => ?_) ?_
    rotate_left
    focus (clear hw; go_simp; (try exact rfl))
    try go_frame
    refine LexRG.yes rfl (by first | rfl | (simp [Region.wanted, yielded]; done)) ?_ (fun w' hw => ?_) ?_
    rotate_left
    focus (obtain ⟨d0, d1, d2⟩ := fr_box (r := ⟨fk, fs, fst⟩) hw; clear hw; go_simp; (try exact rfl))
    try go_frame
    refine LexRG.yes rfl (by first | rfl | (simp [Region.wanted, yielded]; done)) ?_ (fun w' hw => ?_) ?_
    rotate_left
    focus (obtain ⟨d0, d1, d2⟩ := fr_box (r := ⟨fk, fs, fst⟩) hw; clear hw; go_simp; (try exact rfl))
    try go_frame
    refine LexRG.nil ?_
    refine wpAnyL_one (i := 7) (by kernel_rfl) ?_
    refine lexA_get rfl ?_
    try go_frame
    go_wp2_with fail
    refine (frameText_any ⟨fk, fs, fst⟩ V2 HSM.out).mono ?_
    rw [HT.out]
    rintro e V3 ⟨rfl, hb⟩
    replace T := T.later hb
    clear hb
    go_wp2_with fail
    refine ⟨fun _ => T.out.2, ?_⟩
    refine wpAnyL_one (i := 9) (by kernel_rfl) ?_
    refine lexA_get rfl ?_
    try go_frame
    go_wp2_with fail
    refine (frameTextS_any ⟨fk, fs, fst⟩ V3 HSM.out).mono ?_
    rw [HT.out]
    rintro e V4 ⟨rfl, hb⟩
    replace T := T.later hb
    clear hb
    go_wp2_with fail
    refine ⟨fun _ => T.out.2, ?_⟩
    refine wpAnyL_readsG [10] (fuel := 1) (by kernel_rfl) T.out.2 ?_
    refine LexRG.yes rfl (by first | rfl | (simp [Region.wanted, yielded]; done)) ?_ (fun w' hw => ?_) ?_
    rotate_left
    focus (clear hw; go_simp; (try exact rfl))
    try go_frame
    refine LexRG.nil ?_
    refine wpAnyL_writes [11] (by kernel_rfl) (LexW.cons rfl ?_)
    try go_frame
    go_wp2_with fail
    refine ⟨fun _ => T.out.2, LexW.nil ?_⟩
    generalize V4 = W5 at T ⊢
    clear bb tt HT
    obtain ⟨d0, d1, d2⟩ := fr_box (r := ⟨fk, fs, fst⟩) T.out.2
    go_wp2_with fail
    refine (frameOk_any ⟨fk, fs, fst⟩ W5 HSM.out).mono ?_
    rw [HB.out]
    rintro e W6 ⟨rfl, hb⟩
    replace T := T.later hb
    clear hb d0 d1 d2
    cases b
    · have e0 : L = [] := by rw [← HL.out]; exact putF_no HB.out
      subst e0
      have hfin := T.out.1.1
      clear T HL
      go_wp2_with fail
      go_ret
      exact ⟨rfl, hfin⟩
    · have HP := Lib.hid (fun t => getF_put HB.out t)
      have HQ := Lib.hid (fun j (hj : j < (putF ⟨fk, fs, fst⟩).length) => getF_part HB.out hj)
      rw [HL.out] at HP HQ
      have hL0 : 0 < L.length := by
        rcases Nat.eq_zero_or_pos L.length with h0 | h0
        · have h1 := HP.out []
          have h2 : L = [] := List.eq_nil_of_length_eq_zero h0
          rw [h2] at h1
          have h3 : getF [] = waitF := rfl
          rw [show ([] : List UInt8) ++ [] = [] from rfl, h3] at h1
          injection h1 with _ h1
          injection h1 with _ h1
          cases h1
        · exact h0
      go_wp2_with fail
      refine (drawGetFrame_any a0 cap0 code W6 ((HR.out.below T.out.1.1).more T.out.1.1.size) hn).mono ?_
      rintro e W7 ⟨A7, c7, m, rfl, hm, hk7, r7, hb⟩
      have T2 : All (fun w' => ((Below w.heap.size w w' ∧ Reads w' w'.heap.size 1 A2 L.length (bys L)) ∧ (w'.heap[D1]? = some (.cells (frC ⟨fk, fs, fst⟩).toArray 25 (0, 0)))) ∧ Reads w' w'.heap.size 1 A7 m.length (bys m)) W7 := ⟨(T.later hb).out, r7⟩
      clear hb r7 T
      have o8 := own_empty W7 W7.heap.size (Nat.le_refl _)
      have B8 := Later.alloc W7 (.cells #[] 5)
      have hs8 : W7.heap.size ≤ (W7.alloc (.cells #[] 5)).heap.size := by simp
      have r8 := (T2.later B8).out.1.1.2
      have hown8 : (W7.alloc (.cells #[] 5)).ownsRow W7.heap.size 5 1 (.slice (some ⟨W7.heap.size, 0, none⟩) 0 0) 0 [] := o8
      go_wp2_with (first
        | (at_builtin
           refine wpList_append_any _ rfl (.tmp 39) (.tmp 40) _ rfl W7.heap.size 5 i0 _ 1 1 Try.underlying22 hi0 hz0 hz1 hz2 rfl (by omega) (.slice (some ⟨W7.heap.size, 0, none⟩) 0 0) 0 [] rfl hown8 _ A2 L.length c2 (bys L) rfl r8 (bys_one L) (by simp only [maxLen]; omega) (by omega) hs8 ?_
           intro v9 W9 own9 hg9 _
           have B9 := B8.grown hg9 B8.size (fun k hk => (hown8.lt k hk).1)
           have r9 := (T2.later B9).out.2
           have hown9 : W9.ownsRow W7.heap.size 5 1 v9 (0 + L.length) ([] ++ bys L) := own9
           clear own9 hg9 hown8 r8 o8)
        | (at_builtin
           refine wpList_append_any _ rfl (.tmp 41) (.tmp 42) _ rfl W7.heap.size 5 i0 _ 1 1 Try.underlying22 hi0 hz0 hz1 hz2 rfl (by omega) v9 (0 + L.length) ([] ++ bys L) rfl hown9 _ A7 m.length c7 (bys m) rfl r9 (bys_one m) (by simp only [maxLen]; omega) (by omega) B9.size ?_
           intro v10 W10 own10 hg10 _
           have B10 := B9.grown hg10 B9.size (fun k hk => (hown9.lt k hk).1)
           have o10 : Owns W10 W7.heap.size 5 v10 (L ++ m) := by unfold Owns; rw [bys_append, List.length_append]; simpa using own10
           clear own10 hg10 hown9 r9 B9 B8 hs8
           obtain ⟨M, hM⟩ : ∃ M, L ++ m = M := ⟨_, rfl⟩
           have hMl : M.length ≤ 2000 := by rw [← hM, List.length_append]; omega
           rw [hM] at o10
           have HM := Lib.hid hM
           clear hM
           obtain ⟨A10, c10, rfl, hk10, _, r10, _⟩ := o10.shape)
        | fail)
      have T3 := T2.later B10
      clear T2 B10 o10
      have HPM := Lib.hid (HP.out m)
      rw [HM.out] at HPM
      refine (getFrame_any A10 c10 M W10 r10 (by omega) hk10).mono ?_
      rw [HPM.out]
      rintro e W11 ⟨h9, hb⟩
      replace h9 : e = .returned (.tuple #[.agg #[.int .i64 fk, .string fs, .int .i64 fst], .int .i64 (L.length : Int), .int .i64 0]) := h9
      subst h9
      replace T3 := T3.later hb
      clear hb r10
      have T4 : All (fun w' => (((Below w.heap.size w w' ∧ Reads w' w'.heap.size 1 A2 L.length (bys L)) ∧ (w'.heap[D1]? = some (.cells (frC ⟨fk, fs, fst⟩).toArray 25 (0, 0)))) ∧ Reads w' w'.heap.size 1 A7 m.length (bys m)) ∧ w'.heap[W11.heap.size]? = some (.cells (frC ⟨fk, fs, fst⟩).toArray 25 (0, 0))) (W11.alloc (.cells (frC ⟨fk, fs, fst⟩).toArray 25)) := ⟨(T3.alloc _).out, heap_alloc_new W11 _⟩
      clear T3
      go_wp2_with fail
      replace T4 : All (fun w' => (((Below w.heap.size w w' ∧ Reads w' w'.heap.size 1 A2 L.length (bys L)) ∧ (w'.heap[D1]? = some (.cells (frC ⟨fk, fs, fst⟩).toArray 25 (0, 0)))) ∧ Reads w' w'.heap.size 1 A7 m.length (bys m)) ∧ w'.heap[W11.heap.size]? = some (.cells (frC ⟨fk, fs, fst⟩).toArray 25 (0, 0))) (W11.alloc (.cells #[.int .i64 fk, .string fs, .int .i64 fst] 25)) := T4
      generalize W11.alloc (.cells #[.int .i64 fk, .string fs, .int .i64 fst] 25) = W12 at T4 ⊢
      generalize W11.heap.size = D11 at T4 ⊢
      refine (at_any a0 cap0 3 code W12 ((HR.out.below T4.out.1.1.1.1).more T4.out.1.1.1.1.size) hn (by omega)).mono ?_
      rintro e W13 ⟨x, hx, rfl, rfl⟩
      obtain ⟨p, hp⟩ : ∃ p, x % L.length = p := ⟨_, rfl⟩
      have hpl : p < L.length := by rw [← hp]; exact Nat.mod_lt _ hL0
      have hpx : (x : Int) % (L.length : Int) = (p : Int) := by rw [← hp]; rfl
      have hpt : (x : Int).tmod (L.length : Int) = (p : Int) := by rw [Int.tmod_eq_emod_of_nonneg (by omega), hpx]
      have l0 : (0 : Int) < (L.length : Int) := by omega
      have hne : ((L.length : Int) == 0) = false := beq_eq_false_iff_ne.2 (by omega)
      obtain ⟨A', hrun, hrd⟩ := slice_reads0 Try.underlying22 hi0 hz1 (A := A2) (n := L.length) (c := c2) (hi' := p) .i64 (by omega) hk2
      have r13 := hrd T4.out.1.1.1.2
      have htl : (L.take p).length = p := by rw [List.length_take]; omega
      have HQP := Lib.hid (HQ.out p hpl)
      obtain ⟨m2, hm2⟩ : ∃ m2, L.take p = m2 := ⟨_, rfl⟩
      rw [hm2] at HQP r13 htl
      have J := getFrame_any A' c2 m2 W12 (by rw [htl]; exact r13) (by omega) (by omega)
      rw [htl, HQP.out] at J
      have HJ := Lib.hid J
      clear J htl hm2 r13 hrd hp
      go_wp2_with fail
      refine HJ.out.mono ?_
      rintro e W14 ⟨h9, hb⟩
      replace h9 : e = .returned (.tuple #[.agg #[.int .i64 0, .string ⟨#[]⟩, .int .i64 0], .int .i64 0, .int .i64 1]) := h9
      subst h9
      have T5 := (T4.later hb).later (Later.alloc W14 (.cells #[.int .i64 0, .string ⟨#[]⟩, .int .i64 0] 25))
      have hd1 : D1 < W14.heap.size := (Array.getElem?_eq_some_iff.1 (T4.later hb).out.1.1.2).1
      have hd2 : D11 < W14.heap.size := (Array.getElem?_eq_some_iff.1 (T4.later hb).out.2).1
      clear hb T4 HJ hpx hpt hpl hrun hne
      go_upto_region 12 with (fail)
      generalize W14.alloc (.cells #[.int .i64 0, .string ⟨#[]⟩, .int .i64 0] 25) = W15 at T5 ⊢
      generalize W14.heap.size = D14 at hd1 hd2 ⊢
      obtain ⟨d0, d1, d2⟩ := fr_box (r := ⟨fk, fs, fst⟩) T5.out.1.1.2
      obtain ⟨e0, e1, e2⟩ := fr_box (r := ⟨fk, fs, fst⟩) T5.out.2
      have G1 := fun a b w => fr_guard .eql a b ⟨fk, fs, fst⟩ ⟨fk, fs, fst⟩ w
      have G2 := fun w => fr_equal ⟨fk, fs, fst⟩ ⟨fk, fs, fst⟩ w
      rw [frEqB_self] at G2
      unfold frC at G1 G2
      have ll : ((L.length : Int) == (L.length : Int)) = true := by simp
      have hfin := T5.out.1.1.1.1
      clear T5
      go_wp2_with fail
      go_ret
      exact ⟨rfl, hfin⟩

end Go.Proofs.Ytlhmdjaplcopoaa
