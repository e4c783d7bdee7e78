/- The walk of FnFramesRead. (By gen_framesread.py.) -/
import Derived.Test.YtlhmdjaplcopoaaFramePure
import Derived.Test.YtlhmdjaplcopoaaDrawFrame
import Derived.Test.YtlhmdjaplcopoaaLexG
import Derived.Test.YtlhmdjaplcopoaaBent
namespace Go.Proofs.Ytlhmdjaplcopoaa
open Go.RowKit
set_option linter.unusedVariables false

theorem sameR_any (A B : Option Addr) (c c' M M' : Nat) (a b : List UInt8) (w : World) (h : Reads w M 1 A a.length (bys a)) (h' : Reads w M' 1 B b.length (bys b)) :
    Calls Try.prog 25 #[.slice A a.length c, .slice B b.length c'] w fun e w' => e = .returned (.bool (a == b)) ∧ w = w' := by
  have h1 := string_run (P := Try.prog) (c := c) Try.underlying22 Try.underlying5 Try.underlying9 h
  have h2 := string_run (P := Try.prog) (c := c') Try.underlying22 Try.underlying5 Try.underlying9 h'
  go_enter Try.func25, Try.ntmps25
  go_wp2
  go_ret
  simp

theorem sameN_any (A B : Option Addr) (c c' M M' n : Nat) (a : List UInt8) (hl : a.length = n) (w : World) (h : Reads w M 1 A n (bys a)) (h' : Reads w M' 1 B n (bys a)) :
    Calls Try.prog 25 #[.slice A n c, .slice B n c'] w fun e w' => e = .returned (.bool true) ∧ w = w' := by
  subst hl
  refine (sameR_any A B c c' M M' a a w h h').mono ?_
  rintro e w' ⟨rfl, rfl⟩
  exact ⟨by simp, rfl⟩

set_option maxRecDepth 100000 in
set_option maxHeartbeats 4000000 in
theorem sameFrames_same (A B : Option Addr) (c d : Nat) (xs : List Fr) (w : World) (h : FrAt w A xs) (h' : FrAt w B xs) (hn : xs.length ≤ 1048576) :
    Calls Try.prog 24 #[.slice A xs.length c, .slice B xs.length d] w fun e w' => e = .returned (.bool true) ∧ Below w.heap.size w w' := by
  have hnn : ((xs.length : Int) != (xs.length : Int)) = false := by simp
  have S : All (fun w' => Below w.heap.size w w' ∧ FrAt w' A xs ∧ FrAt w' B xs) w := ⟨Below.refl _ _, h, h'⟩
  clear h h'
  go_enter Try.func24, Try.ntmps24
  go_wp2
  go_loopw [5] (fun i wr => ∃ k : Nat, k ≤ xs.length ∧ i = .int .i64 k ∧ All (fun w' => Below w.heap.size w w' ∧ FrAt w' A xs ∧ FrAt w' B xs) wr) (fun i _ => xs.length - (intOf i).toNat)
  case atStart => exact ⟨0, by omega, rfl, S⟩
  case round =>
    obtain ⟨k, hk, rfl, S2⟩ := hrel
    clear S
    by_cases hlt : k < xs.length
    · obtain ⟨b, off, x, rfl, hbl, hx, c0, c1, c2⟩ := frS_elem S2.out.2.1 hlt
      obtain ⟨b', off', x', rfl, hbl', hx', c0', c1', c2'⟩ := frS_elem S2.out.2.2 hlt
      obtain rfl : x = x' := by rw [hx] at hx'; injection hx'
      clear hx hx'
      have i1 : (0 : Int) ≤ (k : Int) := by omega
      have i2 : (k : Int) < (xs.length : Int) := by omega
      have G1 := fun a b w => fr_guard .neq a b x x w
      have G2 := fun w => fr_equal x x w
      rw [frEqB_self] at G2
      unfold frC at G1 G2
      have T : All (fun w' => (Below w.heap.size w w' ∧ FrAt w' (some ⟨b, off, none⟩) xs ∧ FrAt w' (some ⟨b', off', none⟩) xs) ∧ ((w'.cell? ⟨b, off + k * 3, none⟩ = some (.int .i64 x.k) ∧ w'.cell? ⟨b, off + k * 3 + 1, none⟩ = some (.string x.s) ∧ w'.cell? ⟨b, off + k * 3 + 2, none⟩ = some (.int .i64 x.st)) ∧ (w'.cell? ⟨b', off' + k * 3, none⟩ = some (.int .i64 x.k) ∧ w'.cell? ⟨b', off' + k * 3 + 1, none⟩ = some (.string x.s) ∧ w'.cell? ⟨b', off' + k * 3 + 2, none⟩ = some (.int .i64 x.st)))) wr := ⟨S2.out, ⟨c0, c1, c2⟩, c0', c1', c2'⟩
      clear S2 c0 c1 c2 c0' c1' c2'
      go_upto_region 6 with (fail)
      refine wp_region_open 100 (fun w' => (w'.cell? ⟨b, off + k * 3, none⟩ = some (.int .i64 x.k) ∧ w'.cell? ⟨b, off + k * 3 + 1, none⟩ = some (.string x.s) ∧ w'.cell? ⟨b, off + k * 3 + 2, none⟩ = some (.int .i64 x.st)) ∧ (w'.cell? ⟨b', off' + k * 3, none⟩ = some (.int .i64 x.k) ∧ w'.cell? ⟨b', off' + k * 3 + 1, none⟩ = some (.string x.s) ∧ w'.cell? ⟨b', off' + k * 3 + 2, none⟩ = some (.int .i64 x.st))) (by kernel_rfl) ?_
      replace T := T.drew
      refine wpAnyL_readsG [0, 1, 2, 3, 4, 5, 6, 7] (fuel := 1) (by kernel_rfl) T.out.2 ?_
      refine LexRG.yes rfl (by first | rfl | (simp [Region.wanted, yielded]; done)) ?_ (fun w' hw => ?_) ?_
      rotate_left
      focus (clear hw; go_simp; (try exact rfl))
      try go_frame
      refine LexRG.yes rfl (by first | rfl | (simp [Region.wanted, yielded]; done)) ?_ (fun w' hw => ?_) ?_
      rotate_left
      focus (clear hw; go_simp; (try exact rfl))
      try go_frame
      refine LexRG.yes rfl (by first | rfl | (simp [Region.wanted, yielded]; done)) ?_ (fun w' hw => ?_) ?_
      rotate_left
      focus (clear hw; go_simp; (try exact rfl))
      try go_frame
      refine LexRG.yes rfl (by first | rfl | (simp [Region.wanted, yielded]; done)) ?_ (fun w' hw => ?_) ?_
      rotate_left
      focus (have hw2 := hw; obtain ⟨⟨c0, c1, c2⟩, c0', c1', c2'⟩ := hw2; clear hw; go_simp; (try exact rfl))
      try go_frame
      refine LexRG.yes rfl (by first | rfl | (simp [Region.wanted, yielded]; done)) ?_ (fun w' hw => ?_) ?_
      rotate_left
      focus (clear hw; go_simp; (try exact rfl))
      try go_frame
      refine LexRG.yes rfl (by first | rfl | (simp [Region.wanted, yielded]; done)) ?_ (fun w' hw => ?_) ?_
      rotate_left
      focus (clear hw; go_simp; (try exact rfl))
      try go_frame
      refine LexRG.yes rfl (by first | rfl | (simp [Region.wanted, yielded]; done)) ?_ (fun w' hw => ?_) ?_
      rotate_left
      focus (clear hw; go_simp; (try exact rfl))
      try go_frame
      refine LexRG.yes rfl (by first | rfl | (simp [Region.wanted, yielded]; done)) ?_ (fun w' hw => ?_) ?_
      rotate_left
      focus (have hw2 := hw; obtain ⟨⟨c0, c1, c2⟩, c0', c1', c2'⟩ := hw2; clear hw; go_simp; (try exact rfl))
      try go_frame
      refine LexRG.nil ?_
      refine wpAnyL_writes [8] (by kernel_rfl) (LexW.cons rfl ?_)
      try go_frame
      go_wp2_with fail
      refine ⟨fun _ => T.out.2, LexW.nil ?_⟩
      have S3 := T.out.1
      clear T
      go_wp2_with fail
      go_roundw
      case rel => exact ⟨k + 1, by omega, by go_num, ⟨S3⟩⟩
      case measure => simp [intOf]; omega
    · have he : k = xs.length := by omega
      subst he
      go_wp2
      go_ret
      exact ⟨rfl, S2.out.1⟩

theorem frs_len2 (l : List UInt8) : (frs l).1.length ≤ l.length := by
  have : ∀ (k : Nat) (l : List UInt8), l.length ≤ k → (frs l).1.length ≤ l.length := by
    intro k
    induction k with
    | zero => intro l h; rw [frs_nil (by omega)]; simp
    | succ k ih =>
      intro l h
      by_cases h0 : l.length = 0
      · rw [frs_nil h0]; simp
      · by_cases hc : (getF l).2.2 = 0
        · obtain ⟨n, hn, hn1, hn2, _⟩ := getF_good hc
          rw [frs_step h0 hc hn]
          have hd : (l.drop n).length = l.length - n := List.length_drop
          have := ih (l.drop n) (by omega)
          show ((frs (l.drop n)).1.length + 1 ≤ l.length)
          omega
        · rw [frs_stop h0 hc]; simp
  exact this l.length l (Nat.le_refl _)

theorem allF_append (xs ys : List Fr) : allF (xs ++ ys) = allF xs ++ allF ys := by simp [allF]
theorem allF_part (xs : List Fr) (k : Nat) : (allF (xs.take k)).length ≤ (allF xs).length := by
  conv => rhs; rw [← List.take_append_drop k xs]
  rw [allF_append, List.length_append]
  omega

set_option maxRecDepth 100000 in
set_option maxHeartbeats 16000000 in
theorem walk_FnFramesRead (a0 : Option Addr) (len0 cap0 : Nat) (z0 : List Int) (w : World) (w0 : IsRow .u8 w a0 len0 cap0 z0) :
    Calls Try.prog 4 #[.slice a0 len0 cap0] w fun e w' => e = .returned (.bool true) ∧ Below w.heap.size w w' := by
  obtain ⟨i0, hi0, hz0, hz1, hz2⟩ := info_parts Try.info8
  obtain ⟨code, rfl, _, hr⟩ := w0.reads
  clear w0
  by_cases hbig : (1048576 : Int) < code.length
  · go_enter Try.func4, Try.ntmps4
    go_wp2_with (first | (go_at_call 10; go_in) | fail)
    go_ret
    exact ⟨rfl, Below.refl _ _⟩
  · have hn : code.length ≤ 1048576 := by omega
    have HR := Lib.hid hr
    clear hr
    go_enter Try.func4, Try.ntmps4
    go_wp2_with (first | (go_at_call 10; go_in) | fail)
    refine (drawGetFrame_any a0 cap0 code w HR.out hn).mono ?_
    rintro e W1 ⟨A3, c3, bl, rfl, hbn, hk3, r3, hb⟩
    have S : All (fun w' => Below w.heap.size w w' ∧ Reads w' w'.heap.size 1 A3 bl.length (bys bl)) W1 := ⟨hb, r3⟩
    clear hb r3
    obtain ⟨⟨⟨fk, fs, fst⟩, n, co⟩, hp⟩ : ∃ p, getF bl = p := ⟨_, rfl⟩
    have HP := Lib.hid hp
    clear hp
    go_wp2_with fail
    refine (getFrame_any A3 c3 bl W1 S.out.2 (by omega) hk3).mono ?_
    rw [HP.out]
    rintro e W2 ⟨h9, hb⟩
    replace h9 : e = .returned (.tuple #[.agg #[.int .i64 fk, .string fs, .int .i64 fst], .int .i64 n, .int .i64 co]) := h9
    subst h9
    have S2 : All (fun w' => (Below w.heap.size w w' ∧ Reads w' w'.heap.size 1 A3 bl.length (bys bl)) ∧ Hid (w'.heap[W2.heap.size]? = some (.cells (frC ⟨fk, fs, fst⟩).toArray 25 (0, 0)))) (W2.alloc (.cells (frC ⟨fk, fs, fst⟩).toArray 25)) := ⟨((S.later hb).alloc _).out, Lib.hid (heap_alloc_new W2 _)⟩
    clear hb S
    go_wp2_with fail
    replace S2 : All (fun w' => (Below w.heap.size w w' ∧ Reads w' w'.heap.size 1 A3 bl.length (bys bl)) ∧ Hid (w'.heap[W2.heap.size]? = some (.cells (frC ⟨fk, fs, fst⟩).toArray 25 (0, 0)))) (W2.alloc (.cells #[.int .i64 fk, .string fs, .int .i64 fst] 25)) := S2
    generalize W2.alloc (.cells #[.int .i64 fk, .string fs, .int .i64 fst] 25) = W3 at S2 ⊢
    generalize W2.heap.size = D4 at S2 ⊢
    refine (getFrameS_any A3 c3 bl W3 S2.out.1.2 (by omega) hk3).mono ?_
    rw [HP.out]
    rintro e W4 ⟨h9, hb⟩
    replace h9 : e = .returned (.tuple #[.agg #[.int .i64 fk, .string fs, .int .i64 fst], .int .i64 n, .int .i64 co]) := h9
    subst h9
    have S4 : All (fun w' => ((Below w.heap.size w w' ∧ Reads w' w'.heap.size 1 A3 bl.length (bys bl)) ∧ Hid (w'.heap[D4]? = some (.cells (frC ⟨fk, fs, fst⟩).toArray 25 (0, 0)))) ∧ Hid (w'.heap[W4.heap.size]? = some (.cells (frC ⟨fk, fs, fst⟩).toArray 25 (0, 0)))) (W4.alloc (.cells (frC ⟨fk, fs, fst⟩).toArray 25)) := ⟨((S2.later hb).alloc _).out, Lib.hid (heap_alloc_new W4 _)⟩
    clear hb S2
    go_wp2_with fail
    replace S4 : All (fun w' => ((Below w.heap.size w w' ∧ Reads w' w'.heap.size 1 A3 bl.length (bys bl)) ∧ Hid (w'.heap[D4]? = some (.cells (frC ⟨fk, fs, fst⟩).toArray 25 (0, 0)))) ∧ Hid (w'.heap[W4.heap.size]? = some (.cells (frC ⟨fk, fs, fst⟩).toArray 25 (0, 0)))) (W4.alloc (.cells #[.int .i64 fk, .string fs, .int .i64 fst] 25)) := S4
    generalize W4.alloc (.cells #[.int .i64 fk, .string fs, .int .i64 fst] 25) = W5 at S4 ⊢
    generalize W4.heap.size = D7 at S4 ⊢
    refine (drawFrames_any a0 cap0 code W5 ((HR.out.below S4.out.1.1.1).more S4.out.1.1.1.size) hn).mono ?_
    rintro e W6 ⟨A6, c6, cl, rfl, hcn, hk6, r6, hb⟩
    have S6 : All (fun w' => (((Below w.heap.size w w' ∧ Reads w' w'.heap.size 1 A3 bl.length (bys bl)) ∧ Hid (w'.heap[D4]? = some (.cells (frC ⟨fk, fs, fst⟩).toArray 25 (0, 0)))) ∧ Hid (w'.heap[D7]? = some (.cells (frC ⟨fk, fs, fst⟩).toArray 25 (0, 0)))) ∧ Reads w' w'.heap.size 1 A6 cl.length (bys cl)) W6 := ⟨(S4.later hb).out, r6⟩
    clear hb r6 S4
    obtain ⟨⟨Lf, en⟩, hq⟩ : ∃ p, frs cl = p := ⟨_, rfl⟩
    have hall := all_frs cl.length cl (Nat.le_refl _)
    have hLf : Lf.length ≤ 1000 := by have := frs_len2 cl; rw [hq] at this; exact Nat.le_trans this hcn
    rw [hq] at hall
    replace hall : allF Lf = cl.take (allF Lf).length ∧ (allF Lf).length ≤ cl.length ∧ (en = 0 → (allF Lf).length = cl.length) ∧ (∀ x, x ∈ Lf → frB x = true) := hall
    have HF := Lib.hid hq
    have HA := Lib.hid hall
    clear hq hall
    go_wp2_with fail
    refine (frames_any A6 c6 cl W6 S6.out.2 (by omega) hk6).mono ?_
    rw [HF.out]
    rintro e W7 ⟨A7, c7, h9, o7, hb⟩
    replace h9 : e = .returned (.tuple #[.slice A7 Lf.length c7, .int .i64 en]) := h9
    subst h9
    have S7 : All (fun w' => ((((Below w.heap.size w w' ∧ Reads w' w'.heap.size 1 A3 bl.length (bys bl)) ∧ Hid (w'.heap[D4]? = some (.cells (frC ⟨fk, fs, fst⟩).toArray 25 (0, 0)))) ∧ Hid (w'.heap[D7]? = some (.cells (frC ⟨fk, fs, fst⟩).toArray 25 (0, 0)))) ∧ Reads w' w'.heap.size 1 A6 cl.length (bys cl)) ∧ FrAt w' A7 Lf) W7 := ⟨(S6.later hb).out, frS_own_at o7⟩
    clear hb o7 S6
    go_wp2_with fail
    refine (framesS_any A6 c6 cl W7 S7.out.1.2 (by omega) hk6).mono ?_
    rw [HF.out]
    rintro e W8 ⟨A8, c8, h9, o8, hb⟩
    replace h9 : e = .returned (.tuple #[.slice A8 Lf.length c8, .int .i64 en]) := h9
    subst h9
    replace S7 := S7.later hb
    have f8 := frS_own_at o8
    clear hb o8
    obtain ⟨d0, d1, d2⟩ := fr_box (r := ⟨fk, fs, fst⟩) S7.out.1.1.1.2.out
    obtain ⟨e0, e1, e2⟩ := fr_box (r := ⟨fk, fs, fst⟩) S7.out.1.1.2.out
    have G1 := fun a b w => fr_guard .neq a b ⟨fk, fs, fst⟩ ⟨fk, fs, fst⟩ w
    have G2 := fun w => fr_equal ⟨fk, fs, fst⟩ ⟨fk, fs, fst⟩ w
    rw [frEqB_self] at G2
    unfold frC at G1 G2
    have nn : (n != n) = false := by simp
    have cc : (co != co) = false := by simp
    have ee : (en != en) = false := by simp
    go_wp2_with fail
    clear d0 d1 d2 e0 e1 e2 G1 G2 nn cc
    refine (sameFrames_same A7 A8 c7 c8 Lf W8 S7.out.2 f8 (by omega)).mono ?_
    rintro e W9 ⟨rfl, hb⟩
    have T : All (fun w' => (((Below w.heap.size w w' ∧ Reads w' w'.heap.size 1 A3 bl.length (bys bl)) ∧ Reads w' w'.heap.size 1 A6 cl.length (bys cl)) ∧ FrAt w' A7 Lf) ∧ (w'.heap[D4]? = some (.cells (frC ⟨fk, fs, fst⟩).toArray 25 (0, 0)))) W9 := by
      have q := (S7.later hb).out
      exact ⟨⟨⟨q.1.1.1.1, q.1.2⟩, q.2⟩, q.1.1.1.2.out⟩
    clear hb f8 S7
    have o9 := own_empty W9 W9.heap.size (Nat.le_refl _)
    have B9 := Later.alloc W9 (.cells #[] 5)
    have hs9 : W9.heap.size ≤ (W9.alloc (.cells #[] 5)).heap.size := by simp
    have r9 := (T.later B9).out.1.1.1.2
    have hown9 : (W9.alloc (.cells #[] 5)).ownsRow W9.heap.size 5 1 (.slice (some ⟨W9.heap.size, 0, none⟩) 0 0) 0 [] := o9
    clear o9
    go_wp2_with (first
      | (at_builtin
         refine wpList_append_any _ rfl (.tmp 73) (.tmp 74) _ rfl W9.heap.size 5 i0 _ 1 1 Try.underlying22 hi0 hz0 hz1 hz2 rfl (by omega) (.slice (some ⟨W9.heap.size, 0, none⟩) 0 0) 0 [] rfl hown9 _ A3 bl.length c3 (bys bl) rfl r9 (bys_one bl) (by simp only [maxLen]; omega) (by omega) hs9 ?_
         intro v10 W10 own10 hg10 _
         have B10 := B9.grown hg10 B9.size (fun k hk => (hown9.lt k hk).1)
         have hown10 : W10.ownsRow W9.heap.size 5 1 v10 (0 + bl.length) ([] ++ bys bl) := own10
         clear own10 hg10 hown9 r9 B9 hs9 ee)
      | fail)
    refine (at_any a0 cap0 2 code W10 ((HR.out.below (T.later B10).out.1.1.1.1).more (T.later B10).out.1.1.1.1.size) hn (by omega)).mono ?_
    rintro e W11 ⟨x, hx, rfl, rfl⟩
    have hnew := one_lit W10 (x : Int) (by omega) (by omega)
    have hs11 : W9.heap.size ≤ (W10.alloc (.cells #[.int .u8 (x : Int)] 5)).heap.size := Nat.le_trans B10.size (by simp)
    go_wp2_with (first
      | (at_builtin
         refine wpList_append_any _ rfl (.tmp 75) (.tmp 79) _ rfl W9.heap.size 5 i0 _ 1 1 Try.underlying22 hi0 hz0 hz1 hz2 rfl (by omega) v10 (0 + bl.length) ([] ++ bys bl) rfl (hown10.alloc _) _ _ 1 _ (bys [u8 (x : Int)]) rfl hnew (bys_one _) (by simp only [maxLen]; omega) (by omega) hs11 ?_
         intro v12 W12 own12 hg12 _
         have B12 := (B10.alloc B10.size (.cells #[.int .u8 (x : Int)] 5)).grown hg12 hs11 (fun k hk => (hown10.lt k hk).1)
         have o12 : Owns W12 W9.heap.size 5 v12 (bl ++ [u8 (x : Int)]) := by unfold Owns; rw [bys_append, List.length_append]; simpa using own12
         clear own12 hg12 hown10 hnew B10 hs11
         obtain ⟨M, hM⟩ : ∃ M, bl ++ [u8 (x : Int)] = M := ⟨_, rfl⟩
         have hMl : M.length ≤ 2000 := by rw [← hM, List.length_append]; simp; omega
         rw [hM] at o12
         have HM := Lib.hid hM
         clear hM
         obtain ⟨A12, c12, rfl, hk12, _, r12, _⟩ := o12.shape)
      | fail)
    replace T := T.later B12
    clear B12 o12
    obtain ⟨⟨⟨gk, gs, gst⟩, n3, co3⟩, hp3⟩ : ∃ p, getF M = p := ⟨_, rfl⟩
    have HP3 := Lib.hid hp3
    have HSN : Hid (co ≠ 1 → n3 = n ∧ co3 = co) := Lib.hid (fun h => by
      have h2 := getF_snoc (b := bl) (u8 (x : Int)) (by rw [HP.out]; exact h)
      rw [HM.out, hp3, HP.out] at h2
      exact h2)
    clear hp3
    refine (getFrame_any A12 c12 M W12 r12 (by omega) hk12).mono ?_
    rw [HP3.out]
    rintro e W13 ⟨h9, hb⟩
    replace h9 : e = .returned (.tuple #[.agg #[.int .i64 gk, .string gs, .int .i64 gst], .int .i64 n3, .int .i64 co3]) := h9
    subst h9
    replace T := (T.later hb).alloc (.cells #[.int .i64 gk, .string gs, .int .i64 gst] 25)
    clear hb r12
    go_upto_region 12 with (fail)
    generalize W13.alloc (.cells #[.int .i64 gk, .string gs, .int .i64 gst] 25) = WB at T ⊢
    have ob := own_empty WB WB.heap.size (Nat.le_refl _)
    have hbb := Later.alloc WB (.cells #[] 5)
    go_wp2_with fail
    go_loopw [18, 19] (fun q i wr => ∃ (v : Value) (k : Nat), k ≤ Lf.length ∧ i = .int .i64 k ∧ q = v ∧ Owns wr WB.heap.size 5 v (allF (Lf.take k)) ∧ Below WB.heap.size WB wr) (fun _ i _ => Lf.length - (intOf i).toNat)
    case atStart => exact ⟨_, 0, Nat.zero_le _, rfl, rfl, ob, hbb⟩
    case round =>
      obtain ⟨v, k, hk, rfl, rfl, o, hB⟩ := hrel
      clear ob hbb
      obtain ⟨Av, cv, rfl, hkv, _, rv, _⟩ := o.shape
      by_cases hlt : k < Lf.length
      · have hap : (allF (Lf.take k)).length ≤ 1000 := Nat.le_trans (allF_part Lf k) (Nat.le_trans HA.out.2.1 hcn)
        obtain ⟨b, off, y, hA7, hbl, hy, c0, c1, c2⟩ := frS_elem (T.later hB).out.1.2 hlt
        have hym : y ∈ Lf := List.mem_of_getElem? hy
        have hyb := HA.out.2.2.2 y hym
        have hys : y.s.size ≤ 1048576 := by have := okB_len (frB_text hyb); simp at this; omega
        have HAS := Lib.hid (allF_snoc hy)
        have i1 : (0 : Int) ≤ (k : Int) := by omega
        have i2 : (k : Int) < (Lf.length : Int) := by omega
        have hown : wr.ownsRow WB.heap.size 5 1 (.slice Av (allF (Lf.take k)).length cv) (allF (Lf.take k)).length (bys (allF (Lf.take k))) := o
        obtain ⟨P, hP⟩ : ∃ P, allF (Lf.take k) = P := ⟨_, rfl⟩
        rw [hP] at hown hap HAS rv hkv ⊢
        have hHA7 := Lib.hid hA7
        clear o hy hym hyb hA7 hP
        obtain rfl : A7 = some ⟨b, off, none⟩ := hHA7.out
        go_wp2_with fail
        clear c0 c1 c2
        refine (putFrame_any y wr hys).mono ?_
        have hQl := putF_len y
        obtain ⟨Q, hQ⟩ : ∃ Q, putF y = Q := ⟨_, rfl⟩
        rw [hQ] at HAS hQl ⊢
        clear hQ
        rintro e W14 ⟨vq, rfl, oq, hb⟩
        obtain ⟨Aq, cq, rfl, hkq, _, rq, _⟩ := oq.shape
        replace hown := ownsRow_below hown hb (Nat.le_refl _)
        have hB14 := hB.trans (hb.mono hB.size)
        clear hb oq hB
        go_wp2_with (first
          | (at_builtin
             refine wpList_append_any _ rfl (.tmp 92) (.tmp 97) _ rfl WB.heap.size 5 i0 _ 1 1 Try.underlying22 hi0 hz0 hz1 hz2 rfl (by omega) (.slice Av P.length cv) P.length (bys P) rfl hown _ Aq Q.length cq (bys Q) rfl rq (bys_one _) (by simp only [maxLen]; omega) (by omega) hB14.size ?_
             intro v15 W15 own15 hg15 _
             have hB15 := hB14.grown hg15 hB14.size (fun k hk => (hown.lt k hk).1)
             have o15 : Owns W15 WB.heap.size 5 v15 (allF (Lf.take (k + 1))) := by rw [HAS.out]; unfold Owns; rw [bys_append, List.length_append]; exact own15
             clear own15 hg15 hown rq hB14)
          | fail)
        go_roundw
        case rel => exact ⟨_, k + 1, by omega, by go_num, rfl, o15, hB15⟩
        case measure => simp [intOf]; omega
      · have he : k = Lf.length := by omega
        subst he
        rw [List.take_length] at o rv hkv ⊢
        replace T := T.later hB
        obtain ⟨P, hP⟩ : ∃ P, allF Lf = P := ⟨_, rfl⟩
        rw [hP] at o rv hkv HA ⊢
        clear hP hB o hlt hk
        have hPc := HA.out.2.1
        obtain ⟨A16, hrun, hrd⟩ := slice_reads0 Try.underlying22 hi0 hz1 (A := A6) (n := cl.length) (c := c6) (hi' := P.length) .i64 hPc hk6
        have r16 := hrd T.out.1.1.2
        rw [← HA.out.1] at r16
        have HPN := Lib.hid HA.out.2.2.1
        clear hrd HA
        have pq : (P == P) = true := by simp
        have i1 : ¬ (cl.length : Int) < (P.length : Int) := by omega
        go_wp2_with fail
        refine (sameR_any Av A16 cv c6 _ _ P P wr rv r16).mono ?_
        rw [pq]
        rintro e W17 ⟨rfl, rfl⟩
        clear pq i1 r16
        have hen : ((en == 0) = true ∧ ((P.length : Int) != (cl.length : Int)) = false) ∨ (en == 0) = false := by
          by_cases h : en = 0
          · exact .inl ⟨beq_iff_eq.2 h, by simp; have := HPN.out h; omega⟩
          · exact .inr (beq_eq_false_iff_ne.2 h)
        clear HPN
        have hco : co = 0 ∨ co = 1 ∨ co = 2 := by
          by_cases h : co = 0
          · exact .inl h
          · have h2 := (getF_bad (l := bl) (by rw [HP.out]; exact h)).2.2
            rw [HP.out] at h2
            exact .inr h2
        clear rv hPc hrun
        generalize P.length = pl at *
        clear hkv
        rcases hen with ⟨e1, e2⟩ | e1
        · skip
          rcases hco with rfl | rfl | rfl
          · obtain ⟨n2, hn2, hn21, hn22, hn23, hfb, hpf⟩ := getF_good (l := bl) (by rw [HP.out])
            rw [HP.out] at hn2 hfb hpf
            obtain rfl : n = (n2 : Int) := hn2
            obtain ⟨rfl, rfl⟩ := HSN.out (by decide)
            have HSM := Lib.hid (show fs.size ≤ 1048576 by have h1 := okB_len (frB_text hfb); simp at h1; have h2 : fs.size ≤ 100 := h1; omega)
            obtain ⟨m2, hm2⟩ : ∃ m2, bl.take n2 = m2 := ⟨_, rfl⟩
            have htl : m2.length = n2 := by rw [← hm2, List.length_take]; omega
            obtain ⟨A9, hrun, hrd⟩ := slice_reads0 Try.underlying22 hi0 hz1 (A := A3) (n := bl.length) (c := c3) (hi' := n2) .i64 hn22 hk3
            have HRD := Lib.hid (fun (V : World) (B : Nat) (h : Reads V B 1 A3 bl.length (bys bl)) => hrd h)
            rw [hm2] at hpf HRD
            have HPF := Lib.hid (show putF ⟨fk, fs, fst⟩ = m2 from hpf)
            have HTL := Lib.hid htl
            have nn : ((n2 : Int) == (n2 : Int)) = true := by simp
            clear hpf htl hm2 hrd hfb
            go_upto_region 19 with (fail)
            refine wp_region_open 100 (fun w' => w'.heap[D4]? = some (.cells (frC ⟨fk, fs, fst⟩).toArray 25 (0, 0))) (by kernel_rfl) ?_
            replace T := T.drew
            refine wpAnyL_readsG [0, 1, 2, 3, 4, 5, 6, 7, 8, 9, 10, 11, 12, 13, 14, 15, 17, 18, 19] (fuel := 6) (by kernel_rfl) T.out.2 ?_
            refine LexRG.yes rfl (by first | rfl | (simp [Region.wanted, yielded]; done)) ?_ (fun w' hw => ?_) ?_
            rotate_left
            focus (clear hw; go_simp; (try exact rfl))
            try go_frame
            refine LexRG.yes rfl (by first | rfl | (simp [Region.wanted, yielded]; done)) ?_ (fun w' hw => ?_) ?_
            rotate_left
            focus (clear hw; go_simp; (try exact rfl))
            try go_frame
            refine LexRG.yes rfl (by first | rfl | (simp [Region.wanted, yielded]; done)) ?_ (fun w' hw => ?_) ?_
            rotate_left
            focus (clear hw; go_simp; (try exact rfl))
            try go_frame
            refine LexRG.yes rfl (by first | rfl | (simp [Region.wanted, yielded]; done)) ?_ (fun w' hw => ?_) ?_
            rotate_left
            focus (clear hw; go_simp; (try exact rfl))
            try go_frame
            refine LexRG.yes rfl (by first | rfl | (simp [Region.wanted, yielded]; done)) ?_ (fun w' hw => ?_) ?_
            rotate_left
            focus (clear hw; go_simp; (try exact rfl))
            try go_frame
            refine LexRG.yes rfl (by first | rfl | (simp [Region.wanted, yielded]; done)) ?_ (fun w' hw => ?_) ?_
            rotate_left
            focus (clear hw; go_simp; (try exact rfl))
            try go_frame
            refine LexRG.yes rfl (by first | rfl | (simp [Region.wanted, yielded]; done)) ?_ (fun w' hw => ?_) ?_
            rotate_left
            focus (clear hw; go_simp; (try exact rfl))
            try go_frame
            refine LexRG.yes rfl (by first | rfl | (simp [Region.wanted, yielded]; done)) ?_ (fun w' hw => ?_) ?_
            rotate_left
            focus (clear hw; go_simp; (try exact rfl))
            try go_frame
            refine LexRG.yes rfl (by first | rfl | (simp [Region.wanted, yielded]; done)) ?_ (fun w' hw => ?_) ?_
            rotate_left
            focus (clear hw; go_simp; (try exact rfl))
            try go_frame
            refine LexRG.yes rfl (by first | rfl | (simp [Region.wanted, yielded]; done)) ?_ (fun w' hw => ?_) ?_
            rotate_left
            focus (clear hw; go_simp; (try exact rfl))
            try go_frame
            refine LexRG.yes rfl (by first | rfl | (simp [Region.wanted, yielded]; done)) ?_ (fun w' hw => ?_) ?_
            rotate_left
            focus (clear hw; go_simp; (try exact rfl))
            try go_frame
            refine LexRG.yes rfl (by first | rfl | (simp [Region.wanted, yielded]; done)) ?_ (fun w' hw => ?_) ?_
            rotate_left
            focus (clear hw; go_simp; (try exact rfl))
            try go_frame
            refine LexRG.yes rfl (by first | rfl | (simp [Region.wanted, yielded]; done)) ?_ (fun w' hw => ?_) ?_
            rotate_left
            focus (clear hw; go_simp; (try exact rfl))
            try go_frame
            refine LexRG.yes rfl (by first | rfl | (simp [Region.wanted, yielded]; done)) ?_ (fun w' hw => ?_) ?_
            rotate_left
            focus (clear hw; go_simp; (try exact rfl))
            try go_frame
            refine LexRG.yes rfl (by first | rfl | (simp [Region.wanted, yielded]; done)) ?_ (fun w' hw => ?_) ?_
            rotate_left
            focus (clear hw; go_simp; (try exact rfl))
            try go_frame
            refine LexRG.yes rfl (by first | rfl | (simp [Region.wanted, yielded]; done)) ?_ (fun w' hw => ?_) ?_
            rotate_left
            focus (obtain ⟨d0, d1, d2⟩ := fr_box (r := ⟨fk, fs, fst⟩) hw; clear hw; go_simp; (try exact rfl))
            try go_frame
            refine LexRG.yes rfl (by first | rfl | (simp [Region.wanted, yielded]; done)) ?_ (fun w' hw => ?_) ?_
            rotate_left
            focus (clear hw; go_simp; (try exact rfl))
            try go_frame
            refine LexRG.yes rfl (by first | rfl | (simp [Region.wanted, yielded]; done)) ?_ (fun w' hw => ?_) ?_
            rotate_left
            focus (clear hw; go_simp; (try exact rfl))
            try go_frame
            refine LexRG.yes rfl (by first | rfl | (simp [Region.wanted, yielded]; done)) ?_ (fun w' hw => ?_) ?_
            rotate_left
            focus (clear hw; go_simp; (try exact rfl))
            try go_frame
            refine LexRG.nil ?_
            refine wpAnyL_one (i := 16) (by kernel_rfl) ?_
            refine lexA_get rfl ?_
            try go_frame
            go_wp2_with fail
            refine (putFrame_any ⟨fk, fs, fst⟩ wr.drew HSM.out).mono ?_
            rintro e V1 ⟨vp, rfl, op, hb⟩
            rw [HPF.out] at op
            obtain ⟨AP, cp, h8, hkp, _, rp, _⟩ := op.shape
            rw [HTL.out] at h8 rp
            subst h8
            clear op
            replace T := T.later hb
            clear hb
            go_wp2_with fail
            refine ⟨fun _ => T.out.2, ?_⟩
            refine wpAnyL_one (i := 20) (by kernel_rfl) ?_
            refine lexA_get rfl ?_
            try go_frame
            go_wp2_with fail
            refine (sameN_any AP A9 cp c3 _ _ n2 m2 HTL.out V1 rp (HRD.out _ _ T.out.1.1.1.2)).mono ?_
            rintro e V2 ⟨rfl, rfl⟩
            go_wp2_with fail
            refine ⟨fun _ => T.out.2, ?_⟩
            refine wpAnyL_readsG [21, 22, 23] (fuel := 1) (by kernel_rfl) T.out.2 ?_
            refine LexRG.yes rfl (by first | rfl | (simp [Region.wanted, yielded]; done)) ?_ (fun w' hw => ?_) ?_
            rotate_left
            focus (clear hw; go_simp; (try exact rfl))
            try go_frame
            refine LexRG.yes rfl (by first | rfl | (simp [Region.wanted, yielded]; done)) ?_ (fun w' hw => ?_) ?_
            rotate_left
            focus (clear hw; go_simp; (try exact rfl))
            try go_frame
            refine LexRG.yes rfl (by first | rfl | (simp [Region.wanted, yielded]; done)) ?_ (fun w' hw => ?_) ?_
            rotate_left
            focus (clear hw; go_simp; (try exact rfl))
            try go_frame
            refine LexRG.nil ?_
            refine wpAnyL_writes [24] (by kernel_rfl) (LexW.cons rfl ?_)
            try go_frame
            go_wp2_with fail
            refine ⟨fun _ => T.out.2, LexW.nil ?_⟩
            have hfin := T.out.1.1.1.1
            go_wp2_with fail
            go_ret
            exact ⟨rfl, hfin⟩
          · go_upto_region 19 with (fail)
            refine wp_region_open 100 (fun w' => w'.heap[D4]? = some (.cells (frC ⟨fk, fs, fst⟩).toArray 25 (0, 0))) (by kernel_rfl) ?_
            replace T := T.drew
            refine wpAnyL_readsG [0, 1, 2, 3, 4, 5, 6, 7, 8, 9, 10, 11, 12, 13, 14, 15, 17, 18, 19] (fuel := 6) (by kernel_rfl) T.out.2 ?_
            refine LexRG.yes rfl (by first | rfl | (simp [Region.wanted, yielded]; done)) ?_ (fun w' hw => ?_) ?_
            rotate_left
            focus (clear hw; go_simp; (try exact rfl))
            try go_frame
            refine LexRG.yes rfl (by first | rfl | (simp [Region.wanted, yielded]; done)) ?_ (fun w' hw => ?_) ?_
            rotate_left
            focus (clear hw; go_simp; (try exact rfl))
            try go_frame
            refine LexRG.yes rfl (by first | rfl | (simp [Region.wanted, yielded]; done)) ?_ (fun w' hw => ?_) ?_
            rotate_left
            focus (clear hw; go_simp; (try exact rfl))
            try go_frame
            refine LexRG.no rfl (by first | rfl | (simp [Region.wanted, yielded]; done)) ?_
            try go_frame
            refine LexRG.no rfl (by first | rfl | (simp [Region.wanted, yielded]; done)) ?_
            try go_frame
            refine LexRG.no rfl (by first | rfl | (simp [Region.wanted, yielded]; done)) ?_
            try go_frame
            refine LexRG.no rfl (by first | rfl | (simp [Region.wanted, yielded]; done)) ?_
            try go_frame
            refine LexRG.no rfl (by first | rfl | (simp [Region.wanted, yielded]; done)) ?_
            try go_frame
            refine LexRG.no rfl (by first | rfl | (simp [Region.wanted, yielded]; done)) ?_
            try go_frame
            refine LexRG.no rfl (by first | rfl | (simp [Region.wanted, yielded]; done)) ?_
            try go_frame
            refine LexRG.no rfl (by first | rfl | (simp [Region.wanted, yielded]; done)) ?_
            try go_frame
            refine LexRG.no rfl (by first | rfl | (simp [Region.wanted, yielded]; done)) ?_
            try go_frame
            refine LexRG.no rfl (by first | rfl | (simp [Region.wanted, yielded]; done)) ?_
            try go_frame
            refine LexRG.no rfl (by first | rfl | (simp [Region.wanted, yielded]; done)) ?_
            try go_frame
            refine LexRG.no rfl (by first | rfl | (simp [Region.wanted, yielded]; done)) ?_
            try go_frame
            refine LexRG.no rfl (by first | rfl | (simp [Region.wanted, yielded]; done)) ?_
            try go_frame
            refine LexRG.no rfl (by first | rfl | (simp [Region.wanted, yielded]; done)) ?_
            try go_frame
            refine LexRG.no rfl (by first | rfl | (simp [Region.wanted, yielded]; done)) ?_
            try go_frame
            refine LexRG.no rfl (by first | rfl | (simp [Region.wanted, yielded]; done)) ?_
            try go_frame
            refine LexRG.nil ?_
            refine wpAnyL_one (i := 16) (by kernel_rfl) ?_
            refine lexA_get rfl ?_
            try go_frame
            go_wp2_with fail
            refine ⟨fun _ => T.out.2, ?_⟩
            refine wpAnyL_one (i := 20) (by kernel_rfl) ?_
            refine lexA_get rfl ?_
            try go_frame
            go_wp2_with fail
            refine ⟨fun _ => T.out.2, ?_⟩
            refine wpAnyL_readsG [21, 22, 23] (fuel := 1) (by kernel_rfl) T.out.2 ?_
            refine LexRG.no rfl (by first | rfl | (simp [Region.wanted, yielded]; done)) ?_
            try go_frame
            refine LexRG.no rfl (by first | rfl | (simp [Region.wanted, yielded]; done)) ?_
            try go_frame
            refine LexRG.yes rfl (by first | rfl | (simp [Region.wanted, yielded]; done)) ?_ (fun w' hw => ?_) ?_
            rotate_left
            focus (clear hw; go_simp; (try exact rfl))
            try go_frame
            refine LexRG.nil ?_
            refine wpAnyL_writes [24] (by kernel_rfl) (LexW.cons rfl ?_)
            try go_frame
            go_wp2_with fail
            refine ⟨fun _ => T.out.2, LexW.nil ?_⟩
            have hfin := T.out.1.1.1.1
            go_wp2_with fail
            go_ret
            exact ⟨rfl, hfin⟩
          · obtain ⟨rfl, rfl⟩ := HSN.out (by decide)
            have nn : (n3 == n3) = true := by simp
            go_upto_region 19 with (fail)
            refine wp_region_open 100 (fun w' => w'.heap[D4]? = some (.cells (frC ⟨fk, fs, fst⟩).toArray 25 (0, 0))) (by kernel_rfl) ?_
            replace T := T.drew
            refine wpAnyL_readsG [0, 1, 2, 3, 4, 5, 6, 7, 8, 9, 10, 11, 12, 13, 14, 15, 17, 18, 19] (fuel := 6) (by kernel_rfl) T.out.2 ?_
            refine LexRG.yes rfl (by first | rfl | (simp [Region.wanted, yielded]; done)) ?_ (fun w' hw => ?_) ?_
            rotate_left
            focus (clear hw; go_simp; (try exact rfl))
            try go_frame
            refine LexRG.yes rfl (by first | rfl | (simp [Region.wanted, yielded]; done)) ?_ (fun w' hw => ?_) ?_
            rotate_left
            focus (clear hw; go_simp; (try exact rfl))
            try go_frame
            refine LexRG.yes rfl (by first | rfl | (simp [Region.wanted, yielded]; done)) ?_ (fun w' hw => ?_) ?_
            rotate_left
            focus (clear hw; go_simp; (try exact rfl))
            try go_frame
            refine LexRG.yes rfl (by first | rfl | (simp [Region.wanted, yielded]; done)) ?_ (fun w' hw => ?_) ?_
            rotate_left
            focus (clear hw; go_simp; (try exact rfl))
            try go_frame
            refine LexRG.yes rfl (by first | rfl | (simp [Region.wanted, yielded]; done)) ?_ (fun w' hw => ?_) ?_
            rotate_left
            focus (clear hw; go_simp; (try exact rfl))
            try go_frame
            refine LexRG.yes rfl (by first | rfl | (simp [Region.wanted, yielded]; done)) ?_ (fun w' hw => ?_) ?_
            rotate_left
            focus (clear hw; go_simp; (try exact rfl))
            try go_frame
            refine LexRG.yes rfl (by first | rfl | (simp [Region.wanted, yielded]; done)) ?_ (fun w' hw => ?_) ?_
            rotate_left
            focus (clear hw; go_simp; (try exact rfl))
            try go_frame
            refine LexRG.yes rfl (by first | rfl | (simp [Region.wanted, yielded]; done)) ?_ (fun w' hw => ?_) ?_
            rotate_left
            focus (clear hw; go_simp; (try exact rfl))
            try go_frame
            refine LexRG.yes rfl (by first | rfl | (simp [Region.wanted, yielded]; done)) ?_ (fun w' hw => ?_) ?_
            rotate_left
            focus (clear hw; go_simp; (try exact rfl))
            try go_frame
            refine LexRG.yes rfl (by first | rfl | (simp [Region.wanted, yielded]; done)) ?_ (fun w' hw => ?_) ?_
            rotate_left
            focus (clear hw; go_simp; (try exact rfl))
            try go_frame
            refine LexRG.yes rfl (by first | rfl | (simp [Region.wanted, yielded]; done)) ?_ (fun w' hw => ?_) ?_
            rotate_left
            focus (clear hw; go_simp; (try exact rfl))
            try go_frame
            refine LexRG.yes rfl (by first | rfl | (simp [Region.wanted, yielded]; done)) ?_ (fun w' hw => ?_) ?_
            rotate_left
            focus (clear hw; go_simp; (try exact rfl))
            try go_frame
            refine LexRG.yes rfl (by first | rfl | (simp [Region.wanted, yielded]; done)) ?_ (fun w' hw => ?_) ?_
            rotate_left
            focus (clear hw; go_simp; (try exact rfl))
            try go_frame
            refine LexRG.yes rfl (by first | rfl | (simp [Region.wanted, yielded]; done)) ?_ (fun w' hw => ?_) ?_
            rotate_left
            focus (clear hw; go_simp; (try exact rfl))
            try go_frame
            refine LexRG.yes rfl (by first | rfl | (simp [Region.wanted, yielded]; done)) ?_ (fun w' hw => ?_) ?_
            rotate_left
            focus (clear hw; go_simp; (try exact rfl))
            try go_frame
            refine LexRG.no rfl (by first | rfl | (simp [Region.wanted, yielded]; done)) ?_
            try go_frame
            refine LexRG.no rfl (by first | rfl | (simp [Region.wanted, yielded]; done)) ?_
            try go_frame
            refine LexRG.no rfl (by first | rfl | (simp [Region.wanted, yielded]; done)) ?_
            try go_frame
            refine LexRG.no rfl (by first | rfl | (simp [Region.wanted, yielded]; done)) ?_
            try go_frame
            refine LexRG.nil ?_
            refine wpAnyL_one (i := 16) (by kernel_rfl) ?_
            refine lexA_get rfl ?_
            try go_frame
            go_wp2_with fail
            refine ⟨fun _ => T.out.2, ?_⟩
            refine wpAnyL_one (i := 20) (by kernel_rfl) ?_
            refine lexA_get rfl ?_
            try go_frame
            go_wp2_with fail
            refine ⟨fun _ => T.out.2, ?_⟩
            refine wpAnyL_readsG [21, 22, 23] (fuel := 1) (by kernel_rfl) T.out.2 ?_
            refine LexRG.yes rfl (by first | rfl | (simp [Region.wanted, yielded]; done)) ?_ (fun w' hw => ?_) ?_
            rotate_left
            focus (clear hw; go_simp; (try exact rfl))
            try go_frame
            refine LexRG.yes rfl (by first | rfl | (simp [Region.wanted, yielded]; done)) ?_ (fun w' hw => ?_) ?_
            rotate_left
            focus (clear hw; go_simp; (try exact rfl))
            try go_frame
            refine LexRG.yes rfl (by first | rfl | (simp [Region.wanted, yielded]; done)) ?_ (fun w' hw => ?_) ?_
            rotate_left
            focus (clear hw; go_simp; (try exact rfl))
            try go_frame
            refine LexRG.nil ?_
            refine wpAnyL_writes [24] (by kernel_rfl) (LexW.cons rfl ?_)
            try go_frame
            go_wp2_with fail
            refine ⟨fun _ => T.out.2, LexW.nil ?_⟩
            have hfin := T.out.1.1.1.1
            go_wp2_with fail
            go_ret
            exact ⟨rfl, hfin⟩
        · skip
          rcases hco with rfl | rfl | rfl
          · obtain ⟨n2, hn2, hn21, hn22, hn23, hfb, hpf⟩ := getF_good (l := bl) (by rw [HP.out])
            rw [HP.out] at hn2 hfb hpf
            obtain rfl : n = (n2 : Int) := hn2
            obtain ⟨rfl, rfl⟩ := HSN.out (by decide)
            have HSM := Lib.hid (show fs.size ≤ 1048576 by have h1 := okB_len (frB_text hfb); simp at h1; have h2 : fs.size ≤ 100 := h1; omega)
            obtain ⟨m2, hm2⟩ : ∃ m2, bl.take n2 = m2 := ⟨_, rfl⟩
            have htl : m2.length = n2 := by rw [← hm2, List.length_take]; omega
            obtain ⟨A9, hrun, hrd⟩ := slice_reads0 Try.underlying22 hi0 hz1 (A := A3) (n := bl.length) (c := c3) (hi' := n2) .i64 hn22 hk3
            have HRD := Lib.hid (fun (V : World) (B : Nat) (h : Reads V B 1 A3 bl.length (bys bl)) => hrd h)
            rw [hm2] at hpf HRD
            have HPF := Lib.hid (show putF ⟨fk, fs, fst⟩ = m2 from hpf)
            have HTL := Lib.hid htl
            have nn : ((n2 : Int) == (n2 : Int)) = true := by simp
            clear hpf htl hm2 hrd hfb
            go_upto_region 19 with (fail)
            refine wp_region_open 100 (fun w' => w'.heap[D4]? = some (.cells (frC ⟨fk, fs, fst⟩).toArray 25 (0, 0))) (by kernel_rfl) ?_
            replace T := T.drew
            refine wpAnyL_readsG [0, 1, 2, 3, 4, 5, 6, 7, 8, 9, 10, 11, 12, 13, 14, 15, 17, 18, 19] (fuel := 6) (by kernel_rfl) T.out.2 ?_
            refine LexRG.yes rfl (by first | rfl | (simp [Region.wanted, yielded]; done)) ?_ (fun w' hw => ?_) ?_
            rotate_left
            focus (clear hw; go_simp; (try exact rfl))
            try go_frame
            refine LexRG.yes rfl (by first | rfl | (simp [Region.wanted, yielded]; done)) ?_ (fun w' hw => ?_) ?_
            rotate_left
            focus (clear hw; go_simp; (try exact rfl))
            try go_frame
            refine LexRG.yes rfl (by first | rfl | (simp [Region.wanted, yielded]; done)) ?_ (fun w' hw => ?_) ?_
            rotate_left
            focus (clear hw; go_simp; (try exact rfl))
            try go_frame
            refine LexRG.yes rfl (by first | rfl | (simp [Region.wanted, yielded]; done)) ?_ (fun w' hw => ?_) ?_
            rotate_left
            focus (clear hw; go_simp; (try exact rfl))
            try go_frame
            refine LexRG.yes rfl (by first | rfl | (simp [Region.wanted, yielded]; done)) ?_ (fun w' hw => ?_) ?_
            rotate_left
            focus (clear hw; go_simp; (try exact rfl))
            try go_frame
            refine LexRG.yes rfl (by first | rfl | (simp [Region.wanted, yielded]; done)) ?_ (fun w' hw => ?_) ?_
            rotate_left
            focus (clear hw; go_simp; (try exact rfl))
            try go_frame
            refine LexRG.yes rfl (by first | rfl | (simp [Region.wanted, yielded]; done)) ?_ (fun w' hw => ?_) ?_
            rotate_left
            focus (clear hw; go_simp; (try exact rfl))
            try go_frame
            refine LexRG.yes rfl (by first | rfl | (simp [Region.wanted, yielded]; done)) ?_ (fun w' hw => ?_) ?_
            rotate_left
            focus (clear hw; go_simp; (try exact rfl))
            try go_frame
            refine LexRG.yes rfl (by first | rfl | (simp [Region.wanted, yielded]; done)) ?_ (fun w' hw => ?_) ?_
            rotate_left
            focus (clear hw; go_simp; (try exact rfl))
            try go_frame
            refine LexRG.yes rfl (by first | rfl | (simp [Region.wanted, yielded]; done)) ?_ (fun w' hw => ?_) ?_
            rotate_left
            focus (clear hw; go_simp; (try exact rfl))
            try go_frame
            refine LexRG.yes rfl (by first | rfl | (simp [Region.wanted, yielded]; done)) ?_ (fun w' hw => ?_) ?_
            rotate_left
            focus (clear hw; go_simp; (try exact rfl))
            try go_frame
            refine LexRG.yes rfl (by first | rfl | (simp [Region.wanted, yielded]; done)) ?_ (fun w' hw => ?_) ?_
            rotate_left
            focus (clear hw; go_simp; (try exact rfl))
            try go_frame
            refine LexRG.yes rfl (by first | rfl | (simp [Region.wanted, yielded]; done)) ?_ (fun w' hw => ?_) ?_
            rotate_left
            focus (clear hw; go_simp; (try exact rfl))
            try go_frame
            refine LexRG.yes rfl (by first | rfl | (simp [Region.wanted, yielded]; done)) ?_ (fun w' hw => ?_) ?_
            rotate_left
            focus (clear hw; go_simp; (try exact rfl))
            try go_frame
            refine LexRG.yes rfl (by first | rfl | (simp [Region.wanted, yielded]; done)) ?_ (fun w' hw => ?_) ?_
            rotate_left
            focus (clear hw; go_simp; (try exact rfl))
            try go_frame
            refine LexRG.yes rfl (by first | rfl | (simp [Region.wanted, yielded]; done)) ?_ (fun w' hw => ?_) ?_
            rotate_left
            focus (obtain ⟨d0, d1, d2⟩ := fr_box (r := ⟨fk, fs, fst⟩) hw; clear hw; go_simp; (try exact rfl))
            try go_frame
            refine LexRG.yes rfl (by first | rfl | (simp [Region.wanted, yielded]; done)) ?_ (fun w' hw => ?_) ?_
            rotate_left
            focus (clear hw; go_simp; (try exact rfl))
            try go_frame
            refine LexRG.yes rfl (by first | rfl | (simp [Region.wanted, yielded]; done)) ?_ (fun w' hw => ?_) ?_
            rotate_left
            focus (clear hw; go_simp; (try exact rfl))
            try go_frame
            refine LexRG.yes rfl (by first | rfl | (simp [Region.wanted, yielded]; done)) ?_ (fun w' hw => ?_) ?_
            rotate_left
            focus (clear hw; go_simp; (try exact rfl))
            try go_frame
            refine LexRG.nil ?_
            refine wpAnyL_one (i := 16) (by kernel_rfl) ?_
            refine lexA_get rfl ?_
            try go_frame
            go_wp2_with fail
            refine (putFrame_any ⟨fk, fs, fst⟩ wr.drew HSM.out).mono ?_
            rintro e V1 ⟨vp, rfl, op, hb⟩
            rw [HPF.out] at op
            obtain ⟨AP, cp, h8, hkp, _, rp, _⟩ := op.shape
            rw [HTL.out] at h8 rp
            subst h8
            clear op
            replace T := T.later hb
            clear hb
            go_wp2_with fail
            refine ⟨fun _ => T.out.2, ?_⟩
            refine wpAnyL_one (i := 20) (by kernel_rfl) ?_
            refine lexA_get rfl ?_
            try go_frame
            go_wp2_with fail
            refine (sameN_any AP A9 cp c3 _ _ n2 m2 HTL.out V1 rp (HRD.out _ _ T.out.1.1.1.2)).mono ?_
            rintro e V2 ⟨rfl, rfl⟩
            go_wp2_with fail
            refine ⟨fun _ => T.out.2, ?_⟩
            refine wpAnyL_readsG [21, 22, 23] (fuel := 1) (by kernel_rfl) T.out.2 ?_
            refine LexRG.yes rfl (by first | rfl | (simp [Region.wanted, yielded]; done)) ?_ (fun w' hw => ?_) ?_
            rotate_left
            focus (clear hw; go_simp; (try exact rfl))
            try go_frame
            refine LexRG.yes rfl (by first | rfl | (simp [Region.wanted, yielded]; done)) ?_ (fun w' hw => ?_) ?_
            rotate_left
            focus (clear hw; go_simp; (try exact rfl))
            try go_frame
            refine LexRG.yes rfl (by first | rfl | (simp [Region.wanted, yielded]; done)) ?_ (fun w' hw => ?_) ?_
            rotate_left
            focus (clear hw; go_simp; (try exact rfl))
            try go_frame
            refine LexRG.nil ?_
            refine wpAnyL_writes [24] (by kernel_rfl) (LexW.cons rfl ?_)
            try go_frame
            go_wp2_with fail
            refine ⟨fun _ => T.out.2, LexW.nil ?_⟩
            have hfin := T.out.1.1.1.1
            go_wp2_with fail
            go_ret
            exact ⟨rfl, hfin⟩
          · go_upto_region 19 with (fail)
            refine wp_region_open 100 (fun w' => w'.heap[D4]? = some (.cells (frC ⟨fk, fs, fst⟩).toArray 25 (0, 0))) (by kernel_rfl) ?_
            replace T := T.drew
            refine wpAnyL_readsG [0, 1, 2, 3, 4, 5, 6, 7, 8, 9, 10, 11, 12, 13, 14, 15, 17, 18, 19] (fuel := 6) (by kernel_rfl) T.out.2 ?_
            refine LexRG.yes rfl (by first | rfl | (simp [Region.wanted, yielded]; done)) ?_ (fun w' hw => ?_) ?_
            rotate_left
            focus (clear hw; go_simp; (try exact rfl))
            try go_frame
            refine LexRG.yes rfl (by first | rfl | (simp [Region.wanted, yielded]; done)) ?_ (fun w' hw => ?_) ?_
            rotate_left
            focus (clear hw; go_simp; (try exact rfl))
            try go_frame
            refine LexRG.yes rfl (by first | rfl | (simp [Region.wanted, yielded]; done)) ?_ (fun w' hw => ?_) ?_
            rotate_left
            focus (clear hw; go_simp; (try exact rfl))
            try go_frame
            refine LexRG.no rfl (by first | rfl | (simp [Region.wanted, yielded]; done)) ?_
            try go_frame
            refine LexRG.no rfl (by first | rfl | (simp [Region.wanted, yielded]; done)) ?_
            try go_frame
            refine LexRG.no rfl (by first | rfl | (simp [Region.wanted, yielded]; done)) ?_
            try go_frame
            refine LexRG.no rfl (by first | rfl | (simp [Region.wanted, yielded]; done)) ?_
            try go_frame
            refine LexRG.no rfl (by first | rfl | (simp [Region.wanted, yielded]; done)) ?_
            try go_frame
            refine LexRG.no rfl (by first | rfl | (simp [Region.wanted, yielded]; done)) ?_
            try go_frame
            refine LexRG.no rfl (by first | rfl | (simp [Region.wanted, yielded]; done)) ?_
            try go_frame
            refine LexRG.no rfl (by first | rfl | (simp [Region.wanted, yielded]; done)) ?_
            try go_frame
            refine LexRG.no rfl (by first | rfl | (simp [Region.wanted, yielded]; done)) ?_
            try go_frame
            refine LexRG.no rfl (by first | rfl | (simp [Region.wanted, yielded]; done)) ?_
            try go_frame
            refine LexRG.no rfl (by first | rfl | (simp [Region.wanted, yielded]; done)) ?_
            try go_frame
            refine LexRG.no rfl (by first | rfl | (simp [Region.wanted, yielded]; done)) ?_
            try go_frame
            refine LexRG.no rfl (by first | rfl | (simp [Region.wanted, yielded]; done)) ?_
            try go_frame
            refine LexRG.no rfl (by first | rfl | (simp [Region.wanted, yielded]; done)) ?_
            try go_frame
            refine LexRG.no rfl (by first | rfl | (simp [Region.wanted, yielded]; done)) ?_
            try go_frame
            refine LexRG.no rfl (by first | rfl | (simp [Region.wanted, yielded]; done)) ?_
            try go_frame
            refine LexRG.nil ?_
            refine wpAnyL_one (i := 16) (by kernel_rfl) ?_
            refine lexA_get rfl ?_
            try go_frame
            go_wp2_with fail
            refine ⟨fun _ => T.out.2, ?_⟩
            refine wpAnyL_one (i := 20) (by kernel_rfl) ?_
            refine lexA_get rfl ?_
            try go_frame
            go_wp2_with fail
            refine ⟨fun _ => T.out.2, ?_⟩
            refine wpAnyL_readsG [21, 22, 23] (fuel := 1) (by kernel_rfl) T.out.2 ?_
            refine LexRG.no rfl (by first | rfl | (simp [Region.wanted, yielded]; done)) ?_
            try go_frame
            refine LexRG.no rfl (by first | rfl | (simp [Region.wanted, yielded]; done)) ?_
            try go_frame
            refine LexRG.yes rfl (by first | rfl | (simp [Region.wanted, yielded]; done)) ?_ (fun w' hw => ?_) ?_
            rotate_left
            focus (clear hw; go_simp; (try exact rfl))
            try go_frame
            refine LexRG.nil ?_
            refine wpAnyL_writes [24] (by kernel_rfl) (LexW.cons rfl ?_)
            try go_frame
            go_wp2_with fail
            refine ⟨fun _ => T.out.2, LexW.nil ?_⟩
            have hfin := T.out.1.1.1.1
            go_wp2_with fail
            go_ret
            exact ⟨rfl, hfin⟩
          · obtain ⟨rfl, rfl⟩ := HSN.out (by decide)
            have nn : (n3 == n3) = true := by simp
            go_upto_region 19 with (fail)
            refine wp_region_open 100 (fun w' => w'.heap[D4]? = some (.cells (frC ⟨fk, fs, fst⟩).toArray 25 (0, 0))) (by kernel_rfl) ?_
            replace T := T.drew
            refine wpAnyL_readsG [0, 1, 2, 3, 4, 5, 6, 7, 8, 9, 10, 11, 12, 13, 14, 15, 17, 18, 19] (fuel := 6) (by kernel_rfl) T.out.2 ?_
            refine LexRG.yes rfl (by first | rfl | (simp [Region.wanted, yielded]; done)) ?_ (fun w' hw => ?_) ?_
            rotate_left
            focus (clear hw; go_simp; (try exact rfl))
            try go_frame
            refine LexRG.yes rfl (by first | rfl | (simp [Region.wanted, yielded]; done)) ?_ (fun w' hw => ?_) ?_
            rotate_left
            focus (clear hw; go_simp; (try exact rfl))
            try go_frame
            refine LexRG.yes rfl (by first | rfl | (simp [Region.wanted, yielded]; done)) ?_ (fun w' hw => ?_) ?_
            rotate_left
            focus (clear hw; go_simp; (try exact rfl))
            try go_frame
            refine LexRG.yes rfl (by first | rfl | (simp [Region.wanted, yielded]; done)) ?_ (fun w' hw => ?_) ?_
            rotate_left
            focus (clear hw; go_simp; (try exact rfl))
            try go_frame
            refine LexRG.yes rfl (by first | rfl | (simp [Region.wanted, yielded]; done)) ?_ (fun w' hw => ?_) ?_
            rotate_left
            focus (clear hw; go_simp; (try exact rfl))
            try go_frame
            refine LexRG.yes rfl (by first | rfl | (simp [Region.wanted, yielded]; done)) ?_ (fun w' hw => ?_) ?_
            rotate_left
            focus (clear hw; go_simp; (try exact rfl))
            try go_frame
            refine LexRG.yes rfl (by first | rfl | (simp [Region.wanted, yielded]; done)) ?_ (fun w' hw => ?_) ?_
            rotate_left
            focus (clear hw; go_simp; (try exact rfl))
            try go_frame
            refine LexRG.yes rfl (by first | rfl | (simp [Region.wanted, yielded]; done)) ?_ (fun w' hw => ?_) ?_
            rotate_left
            focus (clear hw; go_simp; (try exact rfl))
            try go_frame
            refine LexRG.yes rfl (by first | rfl | (simp [Region.wanted, yielded]; done)) ?_ (fun w' hw => ?_) ?_
            rotate_left
            focus (clear hw; go_simp; (try exact rfl))
            try go_frame
            refine LexRG.yes rfl (by first | rfl | (simp [Region.wanted, yielded]; done)) ?_ (fun w' hw => ?_) ?_
            rotate_left
            focus (clear hw; go_simp; (try exact rfl))
            try go_frame
            refine LexRG.yes rfl (by first | rfl | (simp [Region.wanted, yielded]; done)) ?_ (fun w' hw => ?_) ?_
            rotate_left
            focus (clear hw; go_simp; (try exact rfl))
            try go_frame
            refine LexRG.yes rfl (by first | rfl | (simp [Region.wanted, yielded]; done)) ?_ (fun w' hw => ?_) ?_
            rotate_left
            focus (clear hw; go_simp; (try exact rfl))
            try go_frame
            refine LexRG.yes rfl (by first | rfl | (simp [Region.wanted, yielded]; done)) ?_ (fun w' hw => ?_) ?_
            rotate_left
            focus (clear hw; go_simp; (try exact rfl))
            try go_frame
            refine LexRG.yes rfl (by first | rfl | (simp [Region.wanted, yielded]; done)) ?_ (fun w' hw => ?_) ?_
            rotate_left
            focus (clear hw; go_simp; (try exact rfl))
            try go_frame
            refine LexRG.yes rfl (by first | rfl | (simp [Region.wanted, yielded]; done)) ?_ (fun w' hw => ?_) ?_
            rotate_left
            focus (clear hw; go_simp; (try exact rfl))
            try go_frame
            refine LexRG.no rfl (by first | rfl | (simp [Region.wanted, yielded]; done)) ?_
            try go_frame
            refine LexRG.no rfl (by first | rfl | (simp [Region.wanted, yielded]; done)) ?_
            try go_frame
            refine LexRG.no rfl (by first | rfl | (simp [Region.wanted, yielded]; done)) ?_
            try go_frame
            refine LexRG.no rfl (by first | rfl | (simp [Region.wanted, yielded]; done)) ?_
            try go_frame
            refine LexRG.nil ?_
            refine wpAnyL_one (i := 16) (by kernel_rfl) ?_
            refine lexA_get rfl ?_
            try go_frame
            go_wp2_with fail
            refine ⟨fun _ => T.out.2, ?_⟩
            refine wpAnyL_one (i := 20) (by kernel_rfl) ?_
            refine lexA_get rfl ?_
            try go_frame
            go_wp2_with fail
            refine ⟨fun _ => T.out.2, ?_⟩
            refine wpAnyL_readsG [21, 22, 23] (fuel := 1) (by kernel_rfl) T.out.2 ?_
            refine LexRG.yes rfl (by first | rfl | (simp [Region.wanted, yielded]; done)) ?_ (fun w' hw => ?_) ?_
            rotate_left
            focus (clear hw; go_simp; (try exact rfl))
            try go_frame
            refine LexRG.yes rfl (by first | rfl | (simp [Region.wanted, yielded]; done)) ?_ (fun w' hw => ?_) ?_
            rotate_left
            focus (clear hw; go_simp; (try exact rfl))
            try go_frame
            refine LexRG.yes rfl (by first | rfl | (simp [Region.wanted, yielded]; done)) ?_ (fun w' hw => ?_) ?_
            rotate_left
            focus (clear hw; go_simp; (try exact rfl))
            try go_frame
            refine LexRG.nil ?_
            refine wpAnyL_writes [24] (by kernel_rfl) (LexW.cons rfl ?_)
            try go_frame
            go_wp2_with fail
            refine ⟨fun _ => T.out.2, LexW.nil ?_⟩
            have hfin := T.out.1.1.1.1
            go_wp2_with fail
            go_ret
            exact ⟨rfl, hfin⟩

end Go.Proofs.Ytlhmdjaplcopoaa
