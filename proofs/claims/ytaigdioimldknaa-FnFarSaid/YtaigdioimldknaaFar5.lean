/- What the theorem needs, out of many texts. -/
import Derived.Test.YtaigdioimldknaaFar4
namespace Go.Proofs.Ytaigdioimldknaa
open Go.RowKit
set_option linter.unusedVariables false
def sAborted : ByteArray := ⟨#[97, 98, 111, 114, 116, 101, 100]⟩
def sFailed : ByteArray := ⟨#[102, 97, 105, 108, 101, 100]⟩
def firstA (st : Int) (q : ByteArray) : Fr :=
  if st = 2 ∧ ¬ (wordQ q = 2 ∨ wordQ q = 3) then ⟨6, sAborted, 0⟩
  else if wordQ q = 4 then ⟨6, sFailed, 0⟩
  else if st = 2 ∧ wordQ q = 2 then ⟨4, qBack, 0⟩
  else ⟨4, q, 0⟩
def answerA (st : Int) (q : ByteArray) : List Fr :=
  if (inI st 0 2 && okB q.data.toList) = true then [firstA st q, ⟨5, ⟨#[]⟩, nextS st (wordQ q)⟩] else []
theorem answerA_yes {st : Int} {q : ByteArray} (h1 : inI st 0 2 = true) (h2 : okB q.data.toList = true) : answerA st q = [firstA st q, ⟨5, ⟨#[]⟩, nextS st (wordQ q)⟩] := by
  unfold answerA; rw [h1, h2]; rfl
theorem answerA_no1 {st : Int} {q : ByteArray} (h1 : inI st 0 2 = false) : answerA st q = [] := by
  unfold answerA; rw [h1]; rfl
theorem answerA_no2 {st : Int} {q : ByteArray} (h2 : okB q.data.toList = false) : answerA st q = [] := by
  unfold answerA; rw [h2, Bool.and_false]; rfl
theorem ends_b {v : Int} {b : Bool} (h : decide (v = 2 ∨ v = 3) = b) (w : World) : Calls Try.prog 101 #[.int .i64 v] w fun e w' => e = .returned (.bool b) ∧ w = w' := by
  subst h; exact ends_any v w
theorem word_cases (q : ByteArray) : wordQ q = 0 ∨ wordQ q = 1 ∨ wordQ q = 2 ∨ wordQ q = 3 ∨ wordQ q = 4 := by
  have := wordQ_in q
  omega
set_option maxRecDepth 100000 in
set_option maxHeartbeats 4000000 in
theorem first_any (st : Int) (q : ByteArray) (w : World) : Calls Try.prog 153 #[.int .i64 st, .string q] w fun e w' => e = .returned (.agg (frC (firstA st q)).toArray) ∧ Below w.heap.size w w' := by
  unfold firstA
  by_cases hs : st = 2
  · subst hs
    rcases word_cases q with hv | hv | hv | hv | hv
    all_goals
      rw [hv]
      have HV := Lib.hid hv
      clear hv
      repeat (first | rw [if_pos (by decide)] | rw [if_neg (by decide)])
      go_enter Try.func153, Try.ntmps153
      go_wp2_with fail
      refine (wordOf_any q _).mono ?_
      rw [HV.out]
      rintro e w1 ⟨rfl, rfl⟩
      go_wp2_with (first | (go_at_call 101; (first | (refine (ends_b (b := true) (by decide) _).mono ?_) | (refine (ends_b (b := false) (by decide) _).mono ?_)); rintro e w' ⟨rfl, rfl⟩) | fail)
      go_returns
      exact ⟨rfl, by go_grown⟩
  · have hb := beq_no hs
    rw [if_neg (fun h => hs h.1)]
    rcases word_cases q with hv | hv | hv | hv | hv
    all_goals
      rw [hv]
      have HV := Lib.hid hv
      have hif : ∀ (p : Prop) [Decidable p] (a b : Fr), (if st = 2 ∧ p then a else b) = b := fun p _ a b => if_neg (fun h => hs h.1)
      rw [hif]
      clear hv hif hs
      repeat (first | rw [if_pos (by decide)] | rw [if_neg (by decide)])
      go_enter Try.func153, Try.ntmps153
      go_wp2_with fail
      refine (wordOf_any q _).mono ?_
      rw [HV.out]
      rintro e w1 ⟨rfl, rfl⟩
      go_wp2_with fail
      go_returns
      exact ⟨rfl, by go_grown⟩
theorem frS_lit (w : World) (base : Nat) (hb : base ≤ w.heap.size) (x y : Fr) : (w.alloc (.cells ((frC x).toArray ++ (frC y).toArray) 33)).ownsRow base 33 3 (.slice (some ⟨w.heap.size, 0, none⟩) 2 2) 2 (flatFr [x, y]) := by
  have h := World.ownsRow_lit (base := base) (e := 33) (size := 3) w ((frC x).toArray ++ (frC y).toArray) 2 hb (by simp [maxLen]) rfl
  exact h
set_option maxRecDepth 100000 in
set_option maxHeartbeats 4000000 in
theorem answerTo_any (st : Int) (q : ByteArray) (w : World) (hq : q.size ≤ 1048576) : Calls Try.prog 150 #[.int .i64 st, .string q] w (RetFrS w (answerA st q)) := by
  obtain ⟨b1, h1⟩ : ∃ b, inI st 0 2 = b := ⟨_, rfl⟩
  have H1 := Lib.hid h1
  obtain ⟨b2, h2⟩ : ∃ b, okB q.data.toList = b := ⟨_, rfl⟩
  have H2 := Lib.hid h2
  cases b1
  · rw [answerA_no1 h1]
    clear h1 h2
    go_enter Try.func150, Try.ntmps150
    go_wp2_with fail
    refine (within_b H1.out _).mono ?_
    rintro e w1 ⟨rfl, rfl⟩
    go_wp2_with fail
    go_ret
    exact ⟨_, _, rfl, World.ownsRow_lit w #[] 0 (Nat.le_refl _) (by simp [maxLen]) rfl, Later.alloc w _⟩
  · cases b2
    · rw [answerA_no2 h2]
      clear h1 h2
      go_enter Try.func150, Try.ntmps150
      go_wp2_with fail
      refine (within_b H1.out _).mono ?_
      rintro e w1 ⟨rfl, rfl⟩
      go_wp2_with fail
      refine (textOk_any q _ (by omega)).mono ?_
      rw [H2.out]
      rintro e w1 ⟨rfl, rfl⟩
      go_wp2_with fail
      go_ret
      exact ⟨_, _, rfl, World.ownsRow_lit w #[] 0 (Nat.le_refl _) (by simp [maxLen]) rfl, Later.alloc w _⟩
    · rw [answerA_yes h1 h2]
      clear h1 h2
      obtain ⟨⟨fk, fs, fst⟩, hf⟩ : ∃ f, firstA st q = f := ⟨_, rfl⟩
      obtain ⟨v, hv⟩ : ∃ v, wordQ q = v := ⟨_, rfl⟩
      obtain ⟨n, hn⟩ : ∃ n, nextS st v = n := ⟨_, rfl⟩
      rw [hf, hv, hn]
      have HF := Lib.hid hf
      have HV := Lib.hid hv
      have HN := Lib.hid hn
      clear hf hv hn
      go_enter Try.func150, Try.ntmps150
      go_wp2_with fail
      refine (within_b H1.out _).mono ?_
      rintro e w1 ⟨rfl, rfl⟩
      go_wp2_with fail
      refine (textOk_any q _ (by omega)).mono ?_
      rw [H2.out]
      rintro e w1 ⟨rfl, rfl⟩
      go_wp2_with fail
      refine (first_any st q _).mono ?_
      rw [HF.out]
      rintro e w1 ⟨h9, hb⟩
      replace h9 : e = .returned (.agg #[.int .i64 fk, .string fs, .int .i64 fst]) := h9
      subst h9
      have HB := Lib.hid hb
      clear hb
      go_wp2_with fail
      refine (wordOf_any q _).mono ?_
      rw [HV.out]
      rintro e w2 ⟨rfl, rfl⟩
      go_wp2_with fail
      refine (nextSt_any st v _).mono ?_
      rw [HN.out]
      rintro e w2 ⟨rfl, rfl⟩
      go_wp2_with fail
      go_ret
      exact ⟨_, _, rfl, frS_lit w1 w.heap.size HB.out.size ⟨fk, fs, fst⟩ ⟨5, ⟨#[]⟩, n⟩, HB.out.alloc HB.out.size _⟩
-- (by gen_toga.py)
set_option maxRecDepth 100000 in
set_option maxHeartbeats 8000000 in
theorem answerToS_any (st : Int) (q : ByteArray) (w : World) (hq : q.size ≤ 1048576) : Calls Try.prog 95 #[.int .i64 st, .string q] w (RetFrS w (answerA st q)) := by
  obtain ⟨b1, h1⟩ : ∃ b, inI st 0 2 = b := ⟨_, rfl⟩
  obtain ⟨b2, h2⟩ : ∃ b, okB q.data.toList = b := ⟨_, rfl⟩
  have H2 := Lib.hid h2
  cases b1
  · rw [answerA_no1 h1]
    have H1 : Hid (¬ (0 ≤ st ∧ st ≤ 2)) := Lib.hid (by unfold inI at h1; simp at h1; omega)
    clear h1 h2
    go_enter Try.func95, Try.ntmps95
    go_wp2_with fail
    refine (l1In_no _ H1.out).mono ?_
    rintro e w1 ⟨rfl, rfl⟩
    go_wp2_with fail
    go_ret
    exact ⟨_, _, rfl, World.ownsRow_lit w #[] 0 (Nat.le_refl _) (by simp [maxLen]) rfl, Later.alloc w _⟩
  · have H0 : Hid (0 ≤ st ∧ st ≤ 2) := Lib.hid (by unfold inI at h1; simp at h1; omega)
    cases b2
    · rw [answerA_no2 h2]
      clear h1 h2
      go_enter Try.func95, Try.ntmps95
      go_wp2_with fail
      refine (l1In_yes _ H0.out.1 H0.out.2).mono ?_
      rintro e w1 ⟨rfl, rfl⟩
      go_wp2_with fail
      refine (textOkS_any q _ (by omega)).mono ?_
      rw [H2.out]
      rintro e w1 ⟨rfl, rfl⟩
      go_wp2_with fail
      go_ret
      exact ⟨_, _, rfl, World.ownsRow_lit w #[] 0 (Nat.le_refl _) (by simp [maxLen]) rfl, Later.alloc w _⟩
    · rw [answerA_yes h1 h2]
      clear h1 h2
      unfold firstA
      obtain ⟨n, hn⟩ : ∃ n, nextS st (wordQ q) = n := ⟨_, rfl⟩
      rw [hn]
      have HN := Lib.hid hn
      clear hn
      by_cases hs : st = 2
      · subst hs
        rcases word_cases q with hv | hv | hv | hv | hv
        · rw [hv] at HN ⊢
          have HV := Lib.hid hv
          clear hv
          repeat (first | rw [if_pos (by decide)] | rw [if_neg (by decide)])
          go_enter Try.func95, Try.ntmps95
          go_wp2_with fail
          refine (l1In_yes _ H0.out.1 H0.out.2).mono ?_
          rintro e w1 ⟨rfl, rfl⟩
          go_wp2_with fail
          refine (textOkS_any q _ (by omega)).mono ?_
          rw [H2.out]
          rintro e w1 ⟨rfl, rfl⟩
          go_wp2_with fail
          refine (wordOfS_any q _).mono ?_
          rw [HV.out]
          rintro e w1 ⟨rfl, rfl⟩
          have S : All (fun w' => (Below w.heap.size w w') ∧ (w'.cell? ⟨w.heap.size, 0, none⟩ = some (.int .i64 6) ∧ w'.cell? ⟨w.heap.size, 1, none⟩ = some (.string ⟨#[97, 98, 111, 114, 116, 101, 100]⟩) ∧ w'.cell? ⟨w.heap.size, 2, none⟩ = some (.int .i64 0))) (w.alloc (.cells #[.int .i64 6, .string ⟨#[97, 98, 111, 114, 116, 101, 100]⟩, .int .i64 0] 33)) := ⟨Later.alloc w _, var_cell (heap_alloc_new w _) 0, var_cell (heap_alloc_new w _) 1, var_cell (heap_alloc_new w _) 2⟩
          go_upto_region 12 with (fail)
          generalize w.alloc (.cells #[.int .i64 6, .string ⟨#[97, 98, 111, 114, 116, 101, 100]⟩, .int .i64 0] 33) = W1 at S ⊢
          refine wp_region_lex' 100 [0, 1, 2] [3, 4, 5, 6] (fun w' => w'.cell? ⟨w.heap.size, 0, none⟩ = some (.int .i64 6) ∧ w'.cell? ⟨w.heap.size, 1, none⟩ = some (.string ⟨#[97, 98, 111, 114, 116, 101, 100]⟩) ∧ w'.cell? ⟨w.heap.size, 2, none⟩ = some (.int .i64 0)) (by kernel_rfl) (by kernel_rfl) S.drew.out.2 ?_
          replace S := S.drew
          iterate 3 (refine LexR.cons rfl ?_ (fun w' hw => ?_) ?_; rotate_left; focus (obtain ⟨hw0, hw1, hw2⟩ := hw; go_simp; (try exact rfl)); (try go_frame))
          refine LexR.nil (LexW.cons rfl ?_)
          go_wp2_with fail
          refine (nextStS_any 2 0 _).mono ?_
          rw [HN.out]
          rintro e w1 ⟨rfl, rfl⟩
          go_wp2_with fail
          refine ⟨fun _ => S.out.2, LexW.cons rfl ?_⟩
          try go_frame
          go_wp2_with fail
          refine ⟨fun _ => S.out.2, LexW.cons rfl ?_⟩
          try go_frame
          go_wp2_with fail
          refine ⟨fun _ => (S.alloc _).out.2, LexW.cons rfl ?_⟩
          try go_frame
          go_wp2_with fail
          refine ⟨fun _ => (S.alloc _).out.2, LexW.nil ?_⟩
          have HB := S.out.1
          clear S
          go_wp2_with fail
          go_ret
          exact ⟨_, _, rfl, frS_lit W1.drew w.heap.size HB.size ⟨6, ⟨#[97, 98, 111, 114, 116, 101, 100]⟩, 0⟩ ⟨5, ⟨#[]⟩, n⟩, HB.alloc HB.size _⟩
        · rw [hv] at HN ⊢
          have HV := Lib.hid hv
          clear hv
          repeat (first | rw [if_pos (by decide)] | rw [if_neg (by decide)])
          go_enter Try.func95, Try.ntmps95
          go_wp2_with fail
          refine (l1In_yes _ H0.out.1 H0.out.2).mono ?_
          rintro e w1 ⟨rfl, rfl⟩
          go_wp2_with fail
          refine (textOkS_any q _ (by omega)).mono ?_
          rw [H2.out]
          rintro e w1 ⟨rfl, rfl⟩
          go_wp2_with fail
          refine (wordOfS_any q _).mono ?_
          rw [HV.out]
          rintro e w1 ⟨rfl, rfl⟩
          have S : All (fun w' => (Below w.heap.size w w') ∧ (w'.cell? ⟨w.heap.size, 0, none⟩ = some (.int .i64 6) ∧ w'.cell? ⟨w.heap.size, 1, none⟩ = some (.string ⟨#[97, 98, 111, 114, 116, 101, 100]⟩) ∧ w'.cell? ⟨w.heap.size, 2, none⟩ = some (.int .i64 0))) (w.alloc (.cells #[.int .i64 6, .string ⟨#[97, 98, 111, 114, 116, 101, 100]⟩, .int .i64 0] 33)) := ⟨Later.alloc w _, var_cell (heap_alloc_new w _) 0, var_cell (heap_alloc_new w _) 1, var_cell (heap_alloc_new w _) 2⟩
          go_upto_region 12 with (fail)
          generalize w.alloc (.cells #[.int .i64 6, .string ⟨#[97, 98, 111, 114, 116, 101, 100]⟩, .int .i64 0] 33) = W1 at S ⊢
          refine wp_region_lex' 100 [0, 1, 2] [3, 4, 5, 6] (fun w' => w'.cell? ⟨w.heap.size, 0, none⟩ = some (.int .i64 6) ∧ w'.cell? ⟨w.heap.size, 1, none⟩ = some (.string ⟨#[97, 98, 111, 114, 116, 101, 100]⟩) ∧ w'.cell? ⟨w.heap.size, 2, none⟩ = some (.int .i64 0)) (by kernel_rfl) (by kernel_rfl) S.drew.out.2 ?_
          replace S := S.drew
          iterate 3 (refine LexR.cons rfl ?_ (fun w' hw => ?_) ?_; rotate_left; focus (obtain ⟨hw0, hw1, hw2⟩ := hw; go_simp; (try exact rfl)); (try go_frame))
          refine LexR.nil (LexW.cons rfl ?_)
          go_wp2_with fail
          refine (nextStS_any 2 1 _).mono ?_
          rw [HN.out]
          rintro e w1 ⟨rfl, rfl⟩
          go_wp2_with fail
          refine ⟨fun _ => S.out.2, LexW.cons rfl ?_⟩
          try go_frame
          go_wp2_with fail
          refine ⟨fun _ => S.out.2, LexW.cons rfl ?_⟩
          try go_frame
          go_wp2_with fail
          refine ⟨fun _ => (S.alloc _).out.2, LexW.cons rfl ?_⟩
          try go_frame
          go_wp2_with fail
          refine ⟨fun _ => (S.alloc _).out.2, LexW.nil ?_⟩
          have HB := S.out.1
          clear S
          go_wp2_with fail
          go_ret
          exact ⟨_, _, rfl, frS_lit W1.drew w.heap.size HB.size ⟨6, ⟨#[97, 98, 111, 114, 116, 101, 100]⟩, 0⟩ ⟨5, ⟨#[]⟩, n⟩, HB.alloc HB.size _⟩
        · rw [hv] at HN ⊢
          have HV := Lib.hid hv
          clear hv
          repeat (first | rw [if_pos (by decide)] | rw [if_neg (by decide)])
          go_enter Try.func95, Try.ntmps95
          go_wp2_with fail
          refine (l1In_yes _ H0.out.1 H0.out.2).mono ?_
          rintro e w1 ⟨rfl, rfl⟩
          go_wp2_with fail
          refine (textOkS_any q _ (by omega)).mono ?_
          rw [H2.out]
          rintro e w1 ⟨rfl, rfl⟩
          go_wp2_with fail
          refine (wordOfS_any q _).mono ?_
          rw [HV.out]
          rintro e w1 ⟨rfl, rfl⟩
          have S : All (fun w' => (Below w.heap.size w w') ∧ (w'.cell? ⟨w.heap.size, 0, none⟩ = some (.int .i64 4) ∧ w'.cell? ⟨w.heap.size, 1, none⟩ = some (.string ⟨#[114, 111, 108, 108, 98, 97, 99, 107]⟩) ∧ w'.cell? ⟨w.heap.size, 2, none⟩ = some (.int .i64 0))) (w.alloc (.cells #[.int .i64 4, .string ⟨#[114, 111, 108, 108, 98, 97, 99, 107]⟩, .int .i64 0] 33)) := ⟨Later.alloc w _, var_cell (heap_alloc_new w _) 0, var_cell (heap_alloc_new w _) 1, var_cell (heap_alloc_new w _) 2⟩
          go_upto_region 12 with (fail)
          generalize w.alloc (.cells #[.int .i64 4, .string ⟨#[114, 111, 108, 108, 98, 97, 99, 107]⟩, .int .i64 0] 33) = W1 at S ⊢
          refine wp_region_lex' 100 [0, 1, 2] [3, 4, 5, 6] (fun w' => w'.cell? ⟨w.heap.size, 0, none⟩ = some (.int .i64 4) ∧ w'.cell? ⟨w.heap.size, 1, none⟩ = some (.string ⟨#[114, 111, 108, 108, 98, 97, 99, 107]⟩) ∧ w'.cell? ⟨w.heap.size, 2, none⟩ = some (.int .i64 0)) (by kernel_rfl) (by kernel_rfl) S.drew.out.2 ?_
          replace S := S.drew
          iterate 3 (refine LexR.cons rfl ?_ (fun w' hw => ?_) ?_; rotate_left; focus (obtain ⟨hw0, hw1, hw2⟩ := hw; go_simp; (try exact rfl)); (try go_frame))
          refine LexR.nil (LexW.cons rfl ?_)
          go_wp2_with fail
          refine (nextStS_any 2 2 _).mono ?_
          rw [HN.out]
          rintro e w1 ⟨rfl, rfl⟩
          go_wp2_with fail
          refine ⟨fun _ => S.out.2, LexW.cons rfl ?_⟩
          try go_frame
          go_wp2_with fail
          refine ⟨fun _ => S.out.2, LexW.cons rfl ?_⟩
          try go_frame
          go_wp2_with fail
          refine ⟨fun _ => (S.alloc _).out.2, LexW.cons rfl ?_⟩
          try go_frame
          go_wp2_with fail
          refine ⟨fun _ => (S.alloc _).out.2, LexW.nil ?_⟩
          have HB := S.out.1
          clear S
          go_wp2_with fail
          go_ret
          exact ⟨_, _, rfl, frS_lit W1.drew w.heap.size HB.size ⟨4, ⟨#[114, 111, 108, 108, 98, 97, 99, 107]⟩, 0⟩ ⟨5, ⟨#[]⟩, n⟩, HB.alloc HB.size _⟩
        · rw [hv] at HN ⊢
          have HV := Lib.hid hv
          clear hv
          repeat (first | rw [if_pos (by decide)] | rw [if_neg (by decide)])
          go_enter Try.func95, Try.ntmps95
          go_wp2_with fail
          refine (l1In_yes _ H0.out.1 H0.out.2).mono ?_
          rintro e w1 ⟨rfl, rfl⟩
          go_wp2_with fail
          refine (textOkS_any q _ (by omega)).mono ?_
          rw [H2.out]
          rintro e w1 ⟨rfl, rfl⟩
          go_wp2_with fail
          refine (wordOfS_any q _).mono ?_
          rw [HV.out]
          rintro e w1 ⟨rfl, rfl⟩
          have S : All (fun w' => (Below w.heap.size w w') ∧ (w'.cell? ⟨w.heap.size, 0, none⟩ = some (.int .i64 4) ∧ w'.cell? ⟨w.heap.size, 1, none⟩ = some (.string q) ∧ w'.cell? ⟨w.heap.size, 2, none⟩ = some (.int .i64 0))) (w.alloc (.cells #[.int .i64 4, .string q, .int .i64 0] 33)) := ⟨Later.alloc w _, var_cell (heap_alloc_new w _) 0, var_cell (heap_alloc_new w _) 1, var_cell (heap_alloc_new w _) 2⟩
          go_upto_region 12 with (fail)
          generalize w.alloc (.cells #[.int .i64 4, .string q, .int .i64 0] 33) = W1 at S ⊢
          refine wp_region_lex' 100 [0, 1, 2] [3, 4, 5, 6] (fun w' => w'.cell? ⟨w.heap.size, 0, none⟩ = some (.int .i64 4) ∧ w'.cell? ⟨w.heap.size, 1, none⟩ = some (.string q) ∧ w'.cell? ⟨w.heap.size, 2, none⟩ = some (.int .i64 0)) (by kernel_rfl) (by kernel_rfl) S.drew.out.2 ?_
          replace S := S.drew
          iterate 3 (refine LexR.cons rfl ?_ (fun w' hw => ?_) ?_; rotate_left; focus (obtain ⟨hw0, hw1, hw2⟩ := hw; go_simp; (try exact rfl)); (try go_frame))
          refine LexR.nil (LexW.cons rfl ?_)
          go_wp2_with fail
          refine (nextStS_any 2 3 _).mono ?_
          rw [HN.out]
          rintro e w1 ⟨rfl, rfl⟩
          go_wp2_with fail
          refine ⟨fun _ => S.out.2, LexW.cons rfl ?_⟩
          try go_frame
          go_wp2_with fail
          refine ⟨fun _ => S.out.2, LexW.cons rfl ?_⟩
          try go_frame
          go_wp2_with fail
          refine ⟨fun _ => (S.alloc _).out.2, LexW.cons rfl ?_⟩
          try go_frame
          go_wp2_with fail
          refine ⟨fun _ => (S.alloc _).out.2, LexW.nil ?_⟩
          have HB := S.out.1
          clear S
          go_wp2_with fail
          go_ret
          exact ⟨_, _, rfl, frS_lit W1.drew w.heap.size HB.size ⟨4, q, 0⟩ ⟨5, ⟨#[]⟩, n⟩, HB.alloc HB.size _⟩
        · rw [hv] at HN ⊢
          have HV := Lib.hid hv
          clear hv
          repeat (first | rw [if_pos (by decide)] | rw [if_neg (by decide)])
          go_enter Try.func95, Try.ntmps95
          go_wp2_with fail
          refine (l1In_yes _ H0.out.1 H0.out.2).mono ?_
          rintro e w1 ⟨rfl, rfl⟩
          go_wp2_with fail
          refine (textOkS_any q _ (by omega)).mono ?_
          rw [H2.out]
          rintro e w1 ⟨rfl, rfl⟩
          go_wp2_with fail
          refine (wordOfS_any q _).mono ?_
          rw [HV.out]
          rintro e w1 ⟨rfl, rfl⟩
          have S : All (fun w' => (Below w.heap.size w w') ∧ (w'.cell? ⟨w.heap.size, 0, none⟩ = some (.int .i64 6) ∧ w'.cell? ⟨w.heap.size, 1, none⟩ = some (.string ⟨#[97, 98, 111, 114, 116, 101, 100]⟩) ∧ w'.cell? ⟨w.heap.size, 2, none⟩ = some (.int .i64 0))) (w.alloc (.cells #[.int .i64 6, .string ⟨#[97, 98, 111, 114, 116, 101, 100]⟩, .int .i64 0] 33)) := ⟨Later.alloc w _, var_cell (heap_alloc_new w _) 0, var_cell (heap_alloc_new w _) 1, var_cell (heap_alloc_new w _) 2⟩
          go_upto_region 12 with (fail)
          generalize w.alloc (.cells #[.int .i64 6, .string ⟨#[97, 98, 111, 114, 116, 101, 100]⟩, .int .i64 0] 33) = W1 at S ⊢
          refine wp_region_lex' 100 [0, 1, 2] [3, 4, 5, 6] (fun w' => w'.cell? ⟨w.heap.size, 0, none⟩ = some (.int .i64 6) ∧ w'.cell? ⟨w.heap.size, 1, none⟩ = some (.string ⟨#[97, 98, 111, 114, 116, 101, 100]⟩) ∧ w'.cell? ⟨w.heap.size, 2, none⟩ = some (.int .i64 0)) (by kernel_rfl) (by kernel_rfl) S.drew.out.2 ?_
          replace S := S.drew
          iterate 3 (refine LexR.cons rfl ?_ (fun w' hw => ?_) ?_; rotate_left; focus (obtain ⟨hw0, hw1, hw2⟩ := hw; go_simp; (try exact rfl)); (try go_frame))
          refine LexR.nil (LexW.cons rfl ?_)
          go_wp2_with fail
          refine (nextStS_any 2 4 _).mono ?_
          rw [HN.out]
          rintro e w1 ⟨rfl, rfl⟩
          go_wp2_with fail
          refine ⟨fun _ => S.out.2, LexW.cons rfl ?_⟩
          try go_frame
          go_wp2_with fail
          refine ⟨fun _ => S.out.2, LexW.cons rfl ?_⟩
          try go_frame
          go_wp2_with fail
          refine ⟨fun _ => (S.alloc _).out.2, LexW.cons rfl ?_⟩
          try go_frame
          go_wp2_with fail
          refine ⟨fun _ => (S.alloc _).out.2, LexW.nil ?_⟩
          have HB := S.out.1
          clear S
          go_wp2_with fail
          go_ret
          exact ⟨_, _, rfl, frS_lit W1.drew w.heap.size HB.size ⟨6, ⟨#[97, 98, 111, 114, 116, 101, 100]⟩, 0⟩ ⟨5, ⟨#[]⟩, n⟩, HB.alloc HB.size _⟩
      · have hb := beq_no hs
        have hif : ∀ (p : Prop) [Decidable p] (a b : Fr), (if st = 2 ∧ p then a else b) = b := fun p _ a b => if_neg (fun h => hs h.1)
        rw [hif, hif]
        clear hif hs
        rcases word_cases q with hv | hv | hv | hv | hv
        · rw [hv] at HN ⊢
          have HV := Lib.hid hv
          clear hv
          repeat (first | rw [if_pos (by decide)] | rw [if_neg (by decide)])
          go_enter Try.func95, Try.ntmps95
          go_wp2_with fail
          refine (l1In_yes _ H0.out.1 H0.out.2).mono ?_
          rintro e w1 ⟨rfl, rfl⟩
          go_wp2_with fail
          refine (textOkS_any q _ (by omega)).mono ?_
          rw [H2.out]
          rintro e w1 ⟨rfl, rfl⟩
          go_wp2_with fail
          refine (wordOfS_any q _).mono ?_
          rw [HV.out]
          rintro e w1 ⟨rfl, rfl⟩
          have S : All (fun w' => (Below w.heap.size w w') ∧ (w'.cell? ⟨w.heap.size, 0, none⟩ = some (.int .i64 4) ∧ w'.cell? ⟨w.heap.size, 1, none⟩ = some (.string q) ∧ w'.cell? ⟨w.heap.size, 2, none⟩ = some (.int .i64 0))) (w.alloc (.cells #[.int .i64 4, .string q, .int .i64 0] 33)) := ⟨Later.alloc w _, var_cell (heap_alloc_new w _) 0, var_cell (heap_alloc_new w _) 1, var_cell (heap_alloc_new w _) 2⟩
          go_upto_region 12 with (fail)
          generalize w.alloc (.cells #[.int .i64 4, .string q, .int .i64 0] 33) = W1 at S ⊢
          refine wp_region_lex' 100 [0, 1, 2] [3, 4, 5, 6] (fun w' => w'.cell? ⟨w.heap.size, 0, none⟩ = some (.int .i64 4) ∧ w'.cell? ⟨w.heap.size, 1, none⟩ = some (.string q) ∧ w'.cell? ⟨w.heap.size, 2, none⟩ = some (.int .i64 0)) (by kernel_rfl) (by kernel_rfl) S.drew.out.2 ?_
          replace S := S.drew
          iterate 3 (refine LexR.cons rfl ?_ (fun w' hw => ?_) ?_; rotate_left; focus (obtain ⟨hw0, hw1, hw2⟩ := hw; go_simp; (try exact rfl)); (try go_frame))
          refine LexR.nil (LexW.cons rfl ?_)
          go_wp2_with fail
          refine (nextStS_any st 0 _).mono ?_
          rw [HN.out]
          rintro e w1 ⟨rfl, rfl⟩
          go_wp2_with fail
          refine ⟨fun _ => S.out.2, LexW.cons rfl ?_⟩
          try go_frame
          go_wp2_with fail
          refine ⟨fun _ => S.out.2, LexW.cons rfl ?_⟩
          try go_frame
          go_wp2_with fail
          refine ⟨fun _ => (S.alloc _).out.2, LexW.cons rfl ?_⟩
          try go_frame
          go_wp2_with fail
          refine ⟨fun _ => (S.alloc _).out.2, LexW.nil ?_⟩
          have HB := S.out.1
          clear S
          go_wp2_with fail
          go_ret
          exact ⟨_, _, rfl, frS_lit W1.drew w.heap.size HB.size ⟨4, q, 0⟩ ⟨5, ⟨#[]⟩, n⟩, HB.alloc HB.size _⟩
        · rw [hv] at HN ⊢
          have HV := Lib.hid hv
          clear hv
          repeat (first | rw [if_pos (by decide)] | rw [if_neg (by decide)])
          go_enter Try.func95, Try.ntmps95
          go_wp2_with fail
          refine (l1In_yes _ H0.out.1 H0.out.2).mono ?_
          rintro e w1 ⟨rfl, rfl⟩
          go_wp2_with fail
          refine (textOkS_any q _ (by omega)).mono ?_
          rw [H2.out]
          rintro e w1 ⟨rfl, rfl⟩
          go_wp2_with fail
          refine (wordOfS_any q _).mono ?_
          rw [HV.out]
          rintro e w1 ⟨rfl, rfl⟩
          have S : All (fun w' => (Below w.heap.size w w') ∧ (w'.cell? ⟨w.heap.size, 0, none⟩ = some (.int .i64 4) ∧ w'.cell? ⟨w.heap.size, 1, none⟩ = some (.string q) ∧ w'.cell? ⟨w.heap.size, 2, none⟩ = some (.int .i64 0))) (w.alloc (.cells #[.int .i64 4, .string q, .int .i64 0] 33)) := ⟨Later.alloc w _, var_cell (heap_alloc_new w _) 0, var_cell (heap_alloc_new w _) 1, var_cell (heap_alloc_new w _) 2⟩
          go_upto_region 12 with (fail)
          generalize w.alloc (.cells #[.int .i64 4, .string q, .int .i64 0] 33) = W1 at S ⊢
          refine wp_region_lex' 100 [0, 1, 2] [3, 4, 5, 6] (fun w' => w'.cell? ⟨w.heap.size, 0, none⟩ = some (.int .i64 4) ∧ w'.cell? ⟨w.heap.size, 1, none⟩ = some (.string q) ∧ w'.cell? ⟨w.heap.size, 2, none⟩ = some (.int .i64 0)) (by kernel_rfl) (by kernel_rfl) S.drew.out.2 ?_
          replace S := S.drew
          iterate 3 (refine LexR.cons rfl ?_ (fun w' hw => ?_) ?_; rotate_left; focus (obtain ⟨hw0, hw1, hw2⟩ := hw; go_simp; (try exact rfl)); (try go_frame))
          refine LexR.nil (LexW.cons rfl ?_)
          go_wp2_with fail
          refine (nextStS_any st 1 _).mono ?_
          rw [HN.out]
          rintro e w1 ⟨rfl, rfl⟩
          go_wp2_with fail
          refine ⟨fun _ => S.out.2, LexW.cons rfl ?_⟩
          try go_frame
          go_wp2_with fail
          refine ⟨fun _ => S.out.2, LexW.cons rfl ?_⟩
          try go_frame
          go_wp2_with fail
          refine ⟨fun _ => (S.alloc _).out.2, LexW.cons rfl ?_⟩
          try go_frame
          go_wp2_with fail
          refine ⟨fun _ => (S.alloc _).out.2, LexW.nil ?_⟩
          have HB := S.out.1
          clear S
          go_wp2_with fail
          go_ret
          exact ⟨_, _, rfl, frS_lit W1.drew w.heap.size HB.size ⟨4, q, 0⟩ ⟨5, ⟨#[]⟩, n⟩, HB.alloc HB.size _⟩
        · rw [hv] at HN ⊢
          have HV := Lib.hid hv
          clear hv
          repeat (first | rw [if_pos (by decide)] | rw [if_neg (by decide)])
          go_enter Try.func95, Try.ntmps95
          go_wp2_with fail
          refine (l1In_yes _ H0.out.1 H0.out.2).mono ?_
          rintro e w1 ⟨rfl, rfl⟩
          go_wp2_with fail
          refine (textOkS_any q _ (by omega)).mono ?_
          rw [H2.out]
          rintro e w1 ⟨rfl, rfl⟩
          go_wp2_with fail
          refine (wordOfS_any q _).mono ?_
          rw [HV.out]
          rintro e w1 ⟨rfl, rfl⟩
          have S : All (fun w' => (Below w.heap.size w w') ∧ (w'.cell? ⟨w.heap.size, 0, none⟩ = some (.int .i64 4) ∧ w'.cell? ⟨w.heap.size, 1, none⟩ = some (.string q) ∧ w'.cell? ⟨w.heap.size, 2, none⟩ = some (.int .i64 0))) (w.alloc (.cells #[.int .i64 4, .string q, .int .i64 0] 33)) := ⟨Later.alloc w _, var_cell (heap_alloc_new w _) 0, var_cell (heap_alloc_new w _) 1, var_cell (heap_alloc_new w _) 2⟩
          go_upto_region 12 with (fail)
          generalize w.alloc (.cells #[.int .i64 4, .string q, .int .i64 0] 33) = W1 at S ⊢
          refine wp_region_lex' 100 [0, 1, 2] [3, 4, 5, 6] (fun w' => w'.cell? ⟨w.heap.size, 0, none⟩ = some (.int .i64 4) ∧ w'.cell? ⟨w.heap.size, 1, none⟩ = some (.string q) ∧ w'.cell? ⟨w.heap.size, 2, none⟩ = some (.int .i64 0)) (by kernel_rfl) (by kernel_rfl) S.drew.out.2 ?_
          replace S := S.drew
          iterate 3 (refine LexR.cons rfl ?_ (fun w' hw => ?_) ?_; rotate_left; focus (obtain ⟨hw0, hw1, hw2⟩ := hw; go_simp; (try exact rfl)); (try go_frame))
          refine LexR.nil (LexW.cons rfl ?_)
          go_wp2_with fail
          refine (nextStS_any st 2 _).mono ?_
          rw [HN.out]
          rintro e w1 ⟨rfl, rfl⟩
          go_wp2_with fail
          refine ⟨fun _ => S.out.2, LexW.cons rfl ?_⟩
          try go_frame
          go_wp2_with fail
          refine ⟨fun _ => S.out.2, LexW.cons rfl ?_⟩
          try go_frame
          go_wp2_with fail
          refine ⟨fun _ => (S.alloc _).out.2, LexW.cons rfl ?_⟩
          try go_frame
          go_wp2_with fail
          refine ⟨fun _ => (S.alloc _).out.2, LexW.nil ?_⟩
          have HB := S.out.1
          clear S
          go_wp2_with fail
          go_ret
          exact ⟨_, _, rfl, frS_lit W1.drew w.heap.size HB.size ⟨4, q, 0⟩ ⟨5, ⟨#[]⟩, n⟩, HB.alloc HB.size _⟩
        · rw [hv] at HN ⊢
          have HV := Lib.hid hv
          clear hv
          repeat (first | rw [if_pos (by decide)] | rw [if_neg (by decide)])
          go_enter Try.func95, Try.ntmps95
          go_wp2_with fail
          refine (l1In_yes _ H0.out.1 H0.out.2).mono ?_
          rintro e w1 ⟨rfl, rfl⟩
          go_wp2_with fail
          refine (textOkS_any q _ (by omega)).mono ?_
          rw [H2.out]
          rintro e w1 ⟨rfl, rfl⟩
          go_wp2_with fail
          refine (wordOfS_any q _).mono ?_
          rw [HV.out]
          rintro e w1 ⟨rfl, rfl⟩
          have S : All (fun w' => (Below w.heap.size w w') ∧ (w'.cell? ⟨w.heap.size, 0, none⟩ = some (.int .i64 4) ∧ w'.cell? ⟨w.heap.size, 1, none⟩ = some (.string q) ∧ w'.cell? ⟨w.heap.size, 2, none⟩ = some (.int .i64 0))) (w.alloc (.cells #[.int .i64 4, .string q, .int .i64 0] 33)) := ⟨Later.alloc w _, var_cell (heap_alloc_new w _) 0, var_cell (heap_alloc_new w _) 1, var_cell (heap_alloc_new w _) 2⟩
          go_upto_region 12 with (fail)
          generalize w.alloc (.cells #[.int .i64 4, .string q, .int .i64 0] 33) = W1 at S ⊢
          refine wp_region_lex' 100 [0, 1, 2] [3, 4, 5, 6] (fun w' => w'.cell? ⟨w.heap.size, 0, none⟩ = some (.int .i64 4) ∧ w'.cell? ⟨w.heap.size, 1, none⟩ = some (.string q) ∧ w'.cell? ⟨w.heap.size, 2, none⟩ = some (.int .i64 0)) (by kernel_rfl) (by kernel_rfl) S.drew.out.2 ?_
          replace S := S.drew
          iterate 3 (refine LexR.cons rfl ?_ (fun w' hw => ?_) ?_; rotate_left; focus (obtain ⟨hw0, hw1, hw2⟩ := hw; go_simp; (try exact rfl)); (try go_frame))
          refine LexR.nil (LexW.cons rfl ?_)
          go_wp2_with fail
          refine (nextStS_any st 3 _).mono ?_
          rw [HN.out]
          rintro e w1 ⟨rfl, rfl⟩
          go_wp2_with fail
          refine ⟨fun _ => S.out.2, LexW.cons rfl ?_⟩
          try go_frame
          go_wp2_with fail
          refine ⟨fun _ => S.out.2, LexW.cons rfl ?_⟩
          try go_frame
          go_wp2_with fail
          refine ⟨fun _ => (S.alloc _).out.2, LexW.cons rfl ?_⟩
          try go_frame
          go_wp2_with fail
          refine ⟨fun _ => (S.alloc _).out.2, LexW.nil ?_⟩
          have HB := S.out.1
          clear S
          go_wp2_with fail
          go_ret
          exact ⟨_, _, rfl, frS_lit W1.drew w.heap.size HB.size ⟨4, q, 0⟩ ⟨5, ⟨#[]⟩, n⟩, HB.alloc HB.size _⟩
        · rw [hv] at HN ⊢
          have HV := Lib.hid hv
          clear hv
          repeat (first | rw [if_pos (by decide)] | rw [if_neg (by decide)])
          go_enter Try.func95, Try.ntmps95
          go_wp2_with fail
          refine (l1In_yes _ H0.out.1 H0.out.2).mono ?_
          rintro e w1 ⟨rfl, rfl⟩
          go_wp2_with fail
          refine (textOkS_any q _ (by omega)).mono ?_
          rw [H2.out]
          rintro e w1 ⟨rfl, rfl⟩
          go_wp2_with fail
          refine (wordOfS_any q _).mono ?_
          rw [HV.out]
          rintro e w1 ⟨rfl, rfl⟩
          have S : All (fun w' => (Below w.heap.size w w') ∧ (w'.cell? ⟨w.heap.size, 0, none⟩ = some (.int .i64 6) ∧ w'.cell? ⟨w.heap.size, 1, none⟩ = some (.string ⟨#[102, 97, 105, 108, 101, 100]⟩) ∧ w'.cell? ⟨w.heap.size, 2, none⟩ = some (.int .i64 0))) (w.alloc (.cells #[.int .i64 6, .string ⟨#[102, 97, 105, 108, 101, 100]⟩, .int .i64 0] 33)) := ⟨Later.alloc w _, var_cell (heap_alloc_new w _) 0, var_cell (heap_alloc_new w _) 1, var_cell (heap_alloc_new w _) 2⟩
          go_upto_region 12 with (fail)
          generalize w.alloc (.cells #[.int .i64 6, .string ⟨#[102, 97, 105, 108, 101, 100]⟩, .int .i64 0] 33) = W1 at S ⊢
          refine wp_region_lex' 100 [0, 1, 2] [3, 4, 5, 6] (fun w' => w'.cell? ⟨w.heap.size, 0, none⟩ = some (.int .i64 6) ∧ w'.cell? ⟨w.heap.size, 1, none⟩ = some (.string ⟨#[102, 97, 105, 108, 101, 100]⟩) ∧ w'.cell? ⟨w.heap.size, 2, none⟩ = some (.int .i64 0)) (by kernel_rfl) (by kernel_rfl) S.drew.out.2 ?_
          replace S := S.drew
          iterate 3 (refine LexR.cons rfl ?_ (fun w' hw => ?_) ?_; rotate_left; focus (obtain ⟨hw0, hw1, hw2⟩ := hw; go_simp; (try exact rfl)); (try go_frame))
          refine LexR.nil (LexW.cons rfl ?_)
          go_wp2_with fail
          refine (nextStS_any st 4 _).mono ?_
          rw [HN.out]
          rintro e w1 ⟨rfl, rfl⟩
          go_wp2_with fail
          refine ⟨fun _ => S.out.2, LexW.cons rfl ?_⟩
          try go_frame
          go_wp2_with fail
          refine ⟨fun _ => S.out.2, LexW.cons rfl ?_⟩
          try go_frame
          go_wp2_with fail
          refine ⟨fun _ => (S.alloc _).out.2, LexW.cons rfl ?_⟩
          try go_frame
          go_wp2_with fail
          refine ⟨fun _ => (S.alloc _).out.2, LexW.nil ?_⟩
          have HB := S.out.1
          clear S
          go_wp2_with fail
          go_ret
          exact ⟨_, _, rfl, frS_lit W1.drew w.heap.size HB.size ⟨6, ⟨#[102, 97, 105, 108, 101, 100]⟩, 0⟩ ⟨5, ⟨#[]⟩, n⟩, HB.alloc HB.size _⟩
/-- v holds l: it shows a part of a row of the call's own, from base on. -/
def Win (w : World) (base : Nat) (e : TypeId) (v : Value) (l : List UInt8) : Prop :=
  ∃ A c, v = .slice A l.length c ∧ l.length ≤ c ∧ c ≤ maxLen ∧ ((A = none ∧ l = []) ∨ ∃ g off cap n cells, A = some ⟨g, off, none⟩ ∧ w.ownsRow base e 1 (.slice (some ⟨g, 0, none⟩) n cap) n cells ∧ off + l.length ≤ n ∧ ∀ j u, (bys l)[j]? = some u → cells[off + j]? = some u)
section
variable {w w' : World} {base base' : Nat} {e : TypeId} {v : Value} {l : List UInt8}
theorem Owns.win (h : Owns w base e v l) : Win w base e v l := by
  obtain ⟨A, c, rfl, hc, hm, _, _⟩ := h.shape
  rcases id h.2 with ⟨hv, h0⟩ | ⟨g, cap, cur, hv, _⟩
  · injection hv with hv
    exact ⟨A, c, rfl, hc, hm, .inl ⟨hv, List.eq_nil_of_length_eq_zero h0⟩⟩
  · injection hv with hv hn hcc
    subst hv hcc
    exact ⟨_, _, rfl, hc, hm, .inr ⟨g, 0, _, l.length, bys l, rfl, h, by omega, fun j u hu => by simpa using hu⟩⟩
theorem Win.shape (h : Win w base e v l) : ∃ A c, v = .slice A l.length c ∧ l.length ≤ c ∧ c ≤ maxLen ∧ Reads w w.heap.size 1 A l.length (bys l) ∧ True := by
  obtain ⟨A, c, rfl, hc, hm, h⟩ := h
  refine ⟨A, c, rfl, hc, hm, ?_, trivial⟩
  rcases h with ⟨rfl, rfl⟩ | ⟨g, off, cap, n, cells, rfl, ho, hn, hj⟩
  · exact ⟨by simp [bys], fun h => by simp at h⟩
  · refine ⟨by simp [bys_length], fun h0 => ⟨⟨g, off, none⟩, rfl, (ho.lt g rfl).2, fun j u hu => ?_⟩⟩
    have hju := (List.getElem?_eq_some_iff.1 hu).1
    rw [bys_length] at hju
    have ha : (Addr.add ⟨g, off, none⟩ j) = ⟨g, off + j, none⟩ := by simp [Addr.add]
    rw [ha]
    rw [ho.cellAt (off + j) (by omega)]
    exact hj j u hu
theorem Win.lt (h : Win w base e v l) (k : Nat) (hk : v.ownBlock = some k) : base ≤ k ∧ k < w.heap.size := by
  obtain ⟨A, c, rfl, hc, hm, h⟩ := h
  rcases h with ⟨rfl, h0⟩ | ⟨g, off, cap, n, cells, rfl, ho, hn, hj⟩
  · cases hk
  · injection hk with hk
    subst hk
    exact ho.lt _ rfl
theorem Win.block (h : Win w base e v l) (hb : ∀ g, g ∈ v.ownBlock.toList → w'.heap[g]? = w.heap[g]?) : Win w' base e v l := by
  obtain ⟨A, c, rfl, hc, hm, h⟩ := h
  refine ⟨A, c, rfl, hc, hm, ?_⟩
  rcases h with ⟨rfl, h0⟩ | ⟨g, off, cap, n, cells, rfl, ho, hn, hj⟩
  · exact .inl ⟨rfl, h0⟩
  · exact .inr ⟨g, off, cap, n, cells, rfl, Rep.ownsRow_block ho (fun a ha => hb a (by simpa [Value.ownBlock] using ha)), hn, hj⟩
theorem Win.mono (h : Win w base e v l) (hb : base' ≤ base) : Win w base' e v l := by
  obtain ⟨A, c, rfl, hc, hm, h⟩ := h
  refine ⟨A, c, rfl, hc, hm, ?_⟩
  rcases h with ⟨rfl, h0⟩ | ⟨g, off, cap, n, cells, rfl, ho, hn, hj⟩
  · exact .inl ⟨rfl, h0⟩
  · exact .inr ⟨g, off, cap, n, cells, rfl, ownsRow_mono ho hb, hn, hj⟩
theorem Win.keep (h : Win w base e v l) (hb : Below w.heap.size w w') : Win w' base e v l :=
  h.block fun g hg => hb.block g (h.lt g (by simpa using hg)).2
theorem Win.setLow (h : Win w base e v l) {p : Addr} (hp : p.block < base) (u : Value) : Win (w.setCell p u) base e v l :=
  h.block fun g hg => heap_setCell_other _ _ _ _ (by have := (h.lt g (by simpa using hg)).1; omega)
end
def winR : Rep (List UInt8) where
  size := 1
  at_ := fun w B cs l => ∃ A c, cs = [.slice A l.length c] ∧ (l.length ≤ c ∧ c ≤ maxLen) ∧ Reads w B 1 A l.length (bys l)
  own := fun w base cs l fp => ∃ v, cs = [v] ∧ Win w base 5 v l ∧ fp = v.ownBlock.toList
  mark := fun k l => marks k l.length
  cnt := fun l => l.length
  len := fun ⟨_, _, h, _⟩ => by rw [h]; rfl
  keep := fun ⟨A, c, h, hc, hr⟩ hk => ⟨A, c, h, hc, hr.keep hk⟩
  more := fun ⟨A, c, h, hc, hr⟩ hB => ⟨A, c, h, hc, hr.more hB⟩
  reads := fun ⟨v, h, ho, _⟩ => by
    obtain ⟨A, c, rfl, hc, hm, hr, _⟩ := ho.shape
    exact ⟨A, c, h, ⟨hc, hm⟩, hr⟩
  kept := fun ⟨v, h, ho, hf⟩ hb => ⟨v, h, ho.block (fun g hg => hb g (by rw [hf]; exact hg)), hf⟩
  low := fun ⟨v, h, ho, hf⟩ hb => ⟨v, h, ho.mono hb, hf⟩
  lt := fun ⟨v, h, ho, hf⟩ g hg => by
    rw [hf] at hg
    exact ho.lt g (by simpa using hg)
  nodup := fun ⟨v, h, ho, hf⟩ => by rw [hf]; exact Rep.nodup_toList _
end Go.Proofs.Ytaigdioimldknaa
namespace Go.Proofs.Ytaigdioimldknaa
open Go.RowKit
set_option maxRecDepth 100000
set_option linter.unusedVariables false
structure Sk where
  id : Int
  kind : Int
  hold : Int
  shut : Bool
  inn : List UInt8
  out : List UInt8
  st : Int
  done : Int
def skR : Rep Sk := (Rep.int.pair (Rep.int.pair (Rep.int.pair (Rep.bool.pair (winR.pair (winR.pair (Rep.int.pair Rep.int))))))).iso (fun x => (x.id, x.kind, x.hold, x.shut, x.inn, x.out, x.st, x.done)) (fun p => ⟨p.1, p.2.1, p.2.2.1, p.2.2.2.1, p.2.2.2.2.1, p.2.2.2.2.2.1, p.2.2.2.2.2.2.1, p.2.2.2.2.2.2.2⟩)
theorem sk_cells {w : World} {B : Nat} {x : Sk} {cs : List Value} (h : skR.at_ w B cs x) : ∃ A4 c4 A5 c5, cs = [.int .i64 x.id, .int .i64 x.kind, .int .i64 x.hold, .bool x.shut, .slice A4 x.inn.length c4, .slice A5 x.out.length c5, .int .i64 x.st, .int .i64 x.done] ∧ (x.inn.length ≤ c4 ∧ c4 ≤ maxLen) ∧ Reads w B 1 A4 x.inn.length (bys x.inn) ∧ (x.out.length ≤ c5 ∧ c5 ≤ maxLen) ∧ Reads w B 1 A5 x.out.length (bys x.out) := by
  have hl : cs.length = 8 := Rep.len skR h
  obtain ⟨h0, h1, h2, h3, ⟨A4, c4, h4, hc4, hr4⟩, ⟨A5, c5, h5, hc5, hr5⟩, h6, h7⟩ := h
  match cs, hl with
  | [u0, u1, u2, u3, u4, u5, u6, u7], _ =>
    replace h0 : [u0] = [.int .i64 x.id] := h0
    injection h0 with h0
    replace h1 : [u1] = [.int .i64 x.kind] := h1
    injection h1 with h1
    replace h2 : [u2] = [.int .i64 x.hold] := h2
    injection h2 with h2
    replace h3 : [u3] = [.bool x.shut] := h3
    injection h3 with h3
    replace h4 : [u4] = [.slice A4 x.inn.length c4] := h4
    injection h4 with h4
    replace h5 : [u5] = [.slice A5 x.out.length c5] := h5
    injection h5 with h5
    replace h6 : [u6] = [.int .i64 x.st] := h6
    injection h6 with h6
    replace h7 : [u7] = [.int .i64 x.done] := h7
    injection h7 with h7
    subst h0 h1 h2 h3 h4 h5 h6 h7
    exact ⟨A4, c4, A5, c5, rfl, hc4, hr4, hc5, hr5⟩
theorem sk_at {w : World} {B : Nat} {x : Sk} {A4 : Option Addr} {c4 : Nat} {A5 : Option Addr} {c5 : Nat} (hc4 : x.inn.length ≤ c4 ∧ c4 ≤ maxLen) (hr4 : Reads w B 1 A4 x.inn.length (bys x.inn)) (hc5 : x.out.length ≤ c5 ∧ c5 ≤ maxLen) (hr5 : Reads w B 1 A5 x.out.length (bys x.out)) : skR.at_ w B [.int .i64 x.id, .int .i64 x.kind, .int .i64 x.hold, .bool x.shut, .slice A4 x.inn.length c4, .slice A5 x.out.length c5, .int .i64 x.st, .int .i64 x.done] x :=
  ⟨rfl, rfl, rfl, rfl, ⟨A4, c4, rfl, hc4, hr4⟩, ⟨A5, c5, rfl, hc5, hr5⟩, rfl, rfl⟩
theorem sk_ownW {w : World} {base : Nat} {x : Sk} {v4 v5 : Value} (h4 : Win w base 5 v4 x.inn) (h5 : Win w base 5 v5 x.out) (hn : (v4.ownBlock.toList ++ (v5.ownBlock.toList ++ [])).Nodup) : skR.own w base [.int .i64 x.id, .int .i64 x.kind, .int .i64 x.hold, .bool x.shut, v4, v5, .int .i64 x.st, .int .i64 x.done] x (v4.ownBlock.toList ++ (v5.ownBlock.toList ++ [])) :=
  ⟨[], v4.ownBlock.toList ++ (v5.ownBlock.toList ++ ([])), ⟨rfl, rfl⟩, ⟨[], v4.ownBlock.toList ++ (v5.ownBlock.toList ++ ([])), ⟨rfl, rfl⟩, ⟨[], v4.ownBlock.toList ++ (v5.ownBlock.toList ++ ([])), ⟨rfl, rfl⟩, ⟨[], v4.ownBlock.toList ++ (v5.ownBlock.toList ++ ([])), ⟨rfl, rfl⟩, ⟨v4.ownBlock.toList, v5.ownBlock.toList ++ ([]), ⟨v4, rfl, h4, rfl⟩, ⟨v5.ownBlock.toList, [], ⟨v5, rfl, h5, rfl⟩, ⟨[], [], ⟨rfl, rfl⟩, ⟨rfl, rfl⟩, rfl, (List.nodup_append.1 (List.nodup_append.1 hn).2.1).2.1⟩, rfl, (List.nodup_append.1 hn).2.1⟩, rfl, hn⟩, rfl, hn⟩, rfl, hn⟩, rfl, hn⟩, rfl, hn⟩
theorem sk_own {w : World} {base : Nat} {x : Sk} {v4 v5 : Value} (h4 : Owns w base 5 v4 x.inn) (h5 : Owns w base 5 v5 x.out) (hn : (v4.ownBlock.toList ++ (v5.ownBlock.toList ++ [])).Nodup) : skR.own w base [.int .i64 x.id, .int .i64 x.kind, .int .i64 x.hold, .bool x.shut, v4, v5, .int .i64 x.st, .int .i64 x.done] x (v4.ownBlock.toList ++ (v5.ownBlock.toList ++ [])) :=
  sk_ownW (Owns.win h4) (Owns.win h5) hn
theorem sk_apart2 {a b : Option Nat} (h : ∀ k, a = some k → b ≠ some k) : (a.toList ++ (b.toList ++ [])).Nodup := by
  rw [List.append_nil, List.nodup_append]
  refine ⟨by cases a <;> simp, by cases b <;> simp, fun x hx y hy e => ?_⟩
  subst e
  exact h x (by simpa using hx) (by simpa using hy)
def RoomSk (x : Sk) : Prop := x.inn.length ≤ 1048576 ∧ x.out.length ≤ 1048576
theorem sk_at_shape {w : World} {B : Nat} {x : Sk} {cs : List Value} (h : skR.at_ w B cs x) : ∃ A4 c4 A5 c5, cs = [.int .i64 x.id, .int .i64 x.kind, .int .i64 x.hold, .bool x.shut, .slice A4 x.inn.length c4, .slice A5 x.out.length c5, .int .i64 x.st, .int .i64 x.done] := by
  obtain ⟨A4, c4, A5, c5, rfl, _⟩ := sk_cells h
  exact ⟨A4, c4, A5, c5, rfl⟩
theorem sk_own_shape {w : World} {base : Nat} {x : Sk} {cs : List Value} {fp : List Nat} (h : skR.own w base cs x fp) : ∃ A4 c4 A5 c5, cs = [.int .i64 x.id, .int .i64 x.kind, .int .i64 x.hold, .bool x.shut, .slice A4 x.inn.length c4, .slice A5 x.out.length c5, .int .i64 x.st, .int .i64 x.done] := sk_at_shape (Rep.reads skR h)
/-- Whether a socket is right. -/
def skB (x : Sk) : Bool := inI x.id 1 9999 && (inI x.kind 1 2 && (inI x.hold 1 3 && (decide ((x.inn.length : Int) ≤ 240) && (if (x.kind == 1) = true then (x.st == 0) && (x.done == 0) else inI x.st 0 2 && inI x.done 0 (x.out.length : Int)))))
set_option maxHeartbeats 4000000 in
theorem sockOkS_any (cs : List Value) (x : Sk) (w : World) (h : skR.at_ w w.heap.size cs x) :
    Calls Try.prog 23 #[.agg cs.toArray] w fun e w' => e = .returned (.bool (skB x)) ∧ Below w.heap.size w w' := by
  obtain ⟨A4, c4, A5, c5, rfl, hc4, _, hc5, _⟩ := sk_cells h
  have hl4 : x.inn.length ≤ 9223372036854775807 := Nat.le_trans hc4.1 hc4.2
  have hl5 : x.out.length ≤ 9223372036854775807 := Nat.le_trans hc5.1 hc5.2
  clear h hc4 hc5
  obtain ⟨b0, h0⟩ : ∃ b, inI x.id 1 9999 = b := ⟨_, rfl⟩
  obtain ⟨b1, h1⟩ : ∃ b, inI x.kind 1 2 = b := ⟨_, rfl⟩
  obtain ⟨b2, h2⟩ : ∃ b, inI x.hold 1 3 = b := ⟨_, rfl⟩
  obtain ⟨b3, h3⟩ : ∃ b, decide ((x.inn.length : Int) ≤ 240) = b := ⟨_, rfl⟩
  obtain ⟨kk, h4⟩ : ∃ b, (x.kind == 1) = b := ⟨_, rfl⟩
  obtain ⟨s0, h5⟩ : ∃ b, (x.st == 0) = b := ⟨_, rfl⟩
  obtain ⟨d0, h6⟩ : ∃ b, (x.done == 0) = b := ⟨_, rfl⟩
  obtain ⟨i4, h7⟩ : ∃ b, inI x.st 0 2 = b := ⟨_, rfl⟩
  obtain ⟨i5, h8⟩ : ∃ b, inI x.done 0 (x.out.length : Int) = b := ⟨_, rfl⟩
  have HC := Lib.hid (show skB x = (b0 && (b1 && (b2 && (b3 && (if kk = true then s0 && d0 else i4 && i5))))) by
    unfold skB; rw [h0, h1, h2, h3, h4, h5, h6, h7, h8])
  cases b0
  · go_enter Try.func23, Try.ntmps23
    go_wp2_with (go_at_call 85; refine (l1In_b (by assumption) _).mono ?_; rintro e w' ⟨rfl, rfl⟩)
    go_ret
    exact ⟨by rw [HC.out]; simp, Later.alloc w _⟩
  · cases b1
    · go_enter Try.func23, Try.ntmps23
      go_wp2_with (go_at_call 85; refine (l1In_b (by assumption) _).mono ?_; rintro e w' ⟨rfl, rfl⟩)
      go_ret
      exact ⟨by rw [HC.out]; simp, Later.alloc w _⟩
    · cases b2
      · go_enter Try.func23, Try.ntmps23
        go_wp2_with (go_at_call 85; refine (l1In_b (by assumption) _).mono ?_; rintro e w' ⟨rfl, rfl⟩)
        go_ret
        exact ⟨by rw [HC.out]; simp, Later.alloc w _⟩
      · cases b3
        · have hl : 240 < (x.inn.length : Int) := by have := of_decide_eq_false h3; omega
          clear h3
          go_enter Try.func23, Try.ntmps23
          go_wp2_with (go_at_call 85; refine (l1In_b (by assumption) _).mono ?_; rintro e w' ⟨rfl, rfl⟩)
          go_ret
          exact ⟨by rw [HC.out]; simp, Later.alloc w _⟩
        · have hl : ¬ 240 < (x.inn.length : Int) := by have := of_decide_eq_true h3; omega
          clear h3
          cases kk
          · cases i4
            · go_enter Try.func23, Try.ntmps23
              go_wp2_with (go_at_call 85; refine (l1In_b (by assumption) _).mono ?_; rintro e w' ⟨rfl, rfl⟩)
              go_ret
              exact ⟨by rw [HC.out]; simp, Later.alloc w _⟩
            · cases i5
              · go_enter Try.func23, Try.ntmps23
                go_wp2_with (go_at_call 85; refine (l1In_b (by assumption) _).mono ?_; rintro e w' ⟨rfl, rfl⟩)
                go_ret
                exact ⟨by rw [HC.out]; simp, Later.alloc w _⟩
              · go_enter Try.func23, Try.ntmps23
                go_wp2_with (go_at_call 85; refine (l1In_b (by assumption) _).mono ?_; rintro e w' ⟨rfl, rfl⟩)
                go_ret
                exact ⟨by rw [HC.out]; simp, Later.alloc w _⟩
          · cases s0
            · go_enter Try.func23, Try.ntmps23
              go_wp2_with (go_at_call 85; refine (l1In_b (by assumption) _).mono ?_; rintro e w' ⟨rfl, rfl⟩)
              go_ret
              exact ⟨by rw [HC.out]; simp, Later.alloc w _⟩
            · cases d0
              · go_enter Try.func23, Try.ntmps23
                go_wp2_with (go_at_call 85; refine (l1In_b (by assumption) _).mono ?_; rintro e w' ⟨rfl, rfl⟩)
                go_ret
                exact ⟨by rw [HC.out]; simp, Later.alloc w _⟩
              · go_enter Try.func23, Try.ntmps23
                go_wp2_with (go_at_call 85; refine (l1In_b (by assumption) _).mono ?_; rintro e w' ⟨rfl, rfl⟩)
                go_ret
                exact ⟨by rw [HC.out]; simp, Later.alloc w _⟩
def sForm : ByteArray := ⟨#[102, 111, 114, 109]⟩
def repL (st : Int) (f : Fr) : List Fr := if f.k = 2 then answerA st f.s else [⟨6, sForm, 0⟩, ⟨5, ⟨#[]⟩, st⟩]
def repS (st : Int) (f : Fr) : Int := if f.k = 2 then nextS st (wordQ f.s) else st
def allB (l : List Fr) : List UInt8 := l.flatMap putF
theorem repL_two {st : Int} {f : Fr} (h1 : inI st 0 2 = true) (h2 : frB f = true) : ∃ a b, repL st f = [a, b] ∧ a.s.size ≤ 1048576 ∧ b.s.size ≤ 1048576 ∧ b.k = 5 ∧ b.st = repS st f ∧ frB a = true ∧ frB b = true ∧ inI (repS st f) 0 2 = true := by
  unfold repL repS
  by_cases hk : f.k = 2
  · rw [if_pos hk, if_pos hk]
    obtain ⟨k, s, fst⟩ := f
    replace hk : k = 2 := hk
    subst hk
    rw [frB_2] at h2
    have hok : okB s.data.toList = true := by simp at h2; exact h2.1
    have hns := nextS_in st (wordQ s)
    have hin : inI (nextS st (wordQ s)) 0 2 = true := by unfold inI; simp; omega
    refine ⟨_, _, answerA_yes h1 hok, ?_, (show (⟨#[]⟩ : ByteArray).size ≤ 1048576 by decide), rfl, rfl, ?_, ?_, hin⟩
    · unfold firstA
      (repeat' split) <;> first | decide | skip
      all_goals (have h9 := okB_len hok; have e9 : s.size = s.data.toList.length := Array.length_toList.symm
                 show s.size ≤ 1048576; omega)
    · unfold firstA
      (repeat' split) <;> first | decide | skip
      all_goals (rw [frB_4, hok]; rfl)
    · rw [frB_5, hin]; rfl
  · rw [if_neg hk, if_neg hk]
    exact ⟨_, _, rfl, (show sForm.size ≤ 1048576 by decide), (show (⟨#[]⟩ : ByteArray).size ≤ 1048576 by decide), rfl, rfl, by decide, by rw [frB_5, h1]; rfl, h1⟩
def RetRep (w : World) (l : List Fr) (st : Int) (e : Ending) (w' : World) : Prop := ∃ A c, e = .returned (.tuple #[.slice A l.length c, .int .i64 st]) ∧ w'.ownsRow w.heap.size 33 3 (.slice A l.length c) l.length (flatFr l) ∧ Below w.heap.size w w'
set_option maxHeartbeats 8000000 in
theorem reply_any (st : Int) (f : Fr) (w : World) (hs : f.s.size ≤ 1048576) : Calls Try.prog 136 #[.int .i64 st, .agg (frC f).toArray] w (RetRep w (repL st f) (repS st f)) := by
  obtain ⟨fk, fs, fst⟩ := f
  have F : All (fun w' => Below w.heap.size w w' ∧ (w'.heap[w.heap.size]? = some (.cells #[.int .i64 fk, .string fs, .int .i64 fst] 33 (0, 0)))) (w.alloc (.cells #[.int .i64 fk, .string fs, .int .i64 fst] 33)) := ⟨Later.alloc w _, heap_alloc_new w _⟩
  by_cases hk : fk = 2
  · obtain ⟨L, hL⟩ : ∃ L, repL st ⟨fk, fs, fst⟩ = L := ⟨_, rfl⟩
    obtain ⟨n, hn⟩ : ∃ n, repS st ⟨fk, fs, fst⟩ = n := ⟨_, rfl⟩
    obtain ⟨q, hq⟩ : ∃ q, wordQ fs = q := ⟨_, rfl⟩
    have HL := Lib.hid (show answerA st fs = L by rw [← hL]; unfold repL; rw [if_pos hk])
    have HN := Lib.hid (show nextS st q = n by rw [← hn, ← hq]; unfold repS; rw [if_pos hk])
    have HQ := Lib.hid hq
    rw [hL, hn]
    clear hL hn hq
    have hke : (fk == 2) = true := by simp [hk]
    subst hk
    unfold frC
    go_enter Try.func136, Try.ntmps136
    go_upto_region 2 with (fail)
    generalize w.alloc (.cells #[.int .i64 2, .string fs, .int .i64 fst] 33) = W at F ⊢
    refine wp_region_open 100 (fun w' => w'.heap[w.heap.size]? = some (.cells #[.int .i64 2, .string fs, .int .i64 fst] 33 (0, 0))) (by kernel_rfl) ?_
    replace F := F.drew
    generalize W.drew = W at F ⊢
    refine wpAnyL_readsG [0, 1, 2, 4, 5, 6] (fuel := 5) (by kernel_rfl) F.out.2 ?_
    refine LexRG.yes rfl (by first | rfl | (simp [Region.wanted, yielded]; done)) ?_ (fun w' hw => ?_) ?_
    rotate_left
    focus (skip; clear hw; go_simp; (try exact rfl))
    try go_frame
    refine LexRG.yes rfl (by first | rfl | (simp [Region.wanted, yielded]; done)) ?_ (fun w' hw => ?_) ?_
    rotate_left
    focus (skip; clear hw; go_simp; (try exact rfl))
    try go_frame
    refine LexRG.yes rfl (by first | rfl | (simp [Region.wanted, yielded]; done)) ?_ (fun w' hw => ?_) ?_
    rotate_left
    focus (have f1 := var_cell hw 1; clear hw; go_simp; (try exact rfl))
    try go_frame
    refine LexRG.yes rfl (by first | rfl | (simp [Region.wanted, yielded]; done)) ?_ (fun w' hw => ?_) ?_
    rotate_left
    focus (skip; clear hw; go_simp; (try exact rfl))
    try go_frame
    refine LexRG.yes rfl (by first | rfl | (simp [Region.wanted, yielded]; done)) ?_ (fun w' hw => ?_) ?_
    rotate_left
    focus (skip; clear hw; go_simp; (try exact rfl))
    try go_frame
    refine LexRG.yes rfl (by first | rfl | (simp [Region.wanted, yielded]; done)) ?_ (fun w' hw => ?_) ?_
    rotate_left
    focus (have f1 := var_cell hw 1; clear hw; go_simp; (try exact rfl))
    try go_frame
    refine LexRG.nil ?_
    refine wpAnyL_one (i := 3) (by kernel_rfl) ?_
    refine lexA_get rfl ?_
    try go_frame
    go_wp2_with fail
    refine (answerTo_any st fs W hs).mono ?_
    rw [HL.out]
    rintro e W1 ⟨A1, c1, rfl, o1, hb⟩
    have hlo := F.out.1.size
    replace F := F.later hb
    clear hb
    go_wp2_with fail
    refine ⟨fun _ => F.out.2, ?_⟩
    refine wpAnyL_one (i := 7) (by kernel_rfl) ?_
    refine lexA_get rfl ?_
    try go_frame
    go_wp2_with fail
    refine (wordOf_any fs W1).mono ?_
    rw [HQ.out]
    rintro e w9 ⟨rfl, rfl⟩
    go_wp2_with fail
    refine ⟨fun _ => F.out.2, ?_⟩
    refine wpAnyL_one (i := 8) (by kernel_rfl) ?_
    refine lexA_get rfl ?_
    try go_frame
    go_wp2_with fail
    refine (nextSt_any st q W1).mono ?_
    rw [HN.out]
    rintro e w9 ⟨rfl, rfl⟩
    go_wp2_with fail
    refine ⟨fun _ => F.out.2, ?_⟩
    refine wpAnyL_writes [9, 10] (by kernel_rfl) (LexW.cons rfl ?_)
    try go_frame
    go_wp2_with fail
    refine ⟨fun _ => F.out.2, LexW.cons rfl ?_⟩
    try go_frame
    go_wp2_with fail
    refine ⟨fun _ => F.out.2, LexW.nil ?_⟩
    have hfin := F.out.1
    go_wp2_with fail
    go_ret2
    exact ⟨A1, c1, rfl, ownsRow_mono o1 hlo, hfin⟩
  · have hke : (fk == 2) = false := by simp [hk]
    have hL : repL st ⟨fk, fs, fst⟩ = [⟨6, sForm, 0⟩, ⟨5, ⟨#[]⟩, st⟩] := if_neg hk
    have hn : repS st ⟨fk, fs, fst⟩ = st := if_neg hk
    rw [hL, hn]
    clear hL hn
    have HF := Lib.hid F
    unfold frC
    go_enter Try.func136, Try.ntmps136
    go_wp2_with fail
    go_ret2
    have h9 := frS_lit (w.alloc (.cells #[.int .i64 fk, .string fs, .int .i64 fst] 33)) w.heap.size HF.out.out.1.size ⟨6, sForm, 0⟩ ⟨5, ⟨#[]⟩, st⟩
    have e9 : (w.alloc (.cells #[.int .i64 fk, .string fs, .int .i64 fst] 33)).heap.size = w.heap.size + 1 := by simp
    rw [e9] at h9
    refine ⟨_, _, rfl, h9, ?_⟩
    exact Later.trans HF.out.out.1 (Later.alloc _ _)
def Halt (p : Prop) : Prop := p
theorem Halt.go {p : Prop} (h : Halt p) : p := h
theorem Halt.mk {p : Prop} (h : p) : Halt p := h
/-- A box at block S: it holds x, its byte slices are v4 and v5; the world's variables that were there at w0 are as they were. -/
structure KB (w0 : World) (S : Nat) (x : Sk) (v4 v5 o5 : Value) (d7 : Int) (W : World) : Prop where
  below : Below w0.heap.size w0 W
  box : W.heap[S]? = some (.cells #[v5, .int .i64 x.done, .int .i64 x.id, .int .i64 x.kind, .int .i64 x.hold, .bool x.shut, v4, o5, .int .i64 x.st, .int .i64 d7] 113 (0, 0))
  inn : Owns W w0.heap.size 5 v4 x.inn
  out : Owns W w0.heap.size 5 v5 x.out
  ap : ∀ k, v4.ownBlock = some k → v5.ownBlock ≠ some k
  lo : w0.heap.size ≤ S
  n4 : v4.ownBlock ≠ some S
  n5 : v5.ownBlock ≠ some S
  sl : ∃ B n c, o5 = .slice B n c
section
variable {w0 W W' : World} {S : Nat} {x : Sk} {v4 v5 o5 u : Value} {d7 : Int}
theorem KB.lt (h : KB w0 S x v4 v5 o5 d7 W) : S < W.heap.size := (Array.getElem?_eq_some_iff.1 h.box).1
theorem KB.later (h : KB w0 S x v4 v5 o5 d7 W) (hb : Below W.heap.size W W') : KB w0 S x v4 v5 o5 d7 W' :=
  ⟨Rep.Only.below h.below (Rep.only_of_below hb) h.below.size (fun g hg => by cases hg), (hb.block _ h.lt).trans h.box, Owns.keep h.inn hb, Owns.keep h.out hb, h.ap, h.lo, h.n4, h.n5, h.sl⟩
instance : Keeps (KB w0 S x v4 v5 o5 d7) := ⟨fun hb h => h.later hb⟩
theorem KB.slices (h : KB w0 S x v4 v5 o5 d7 W) : ∃ A4 c4 A5 c5 B5 m5 e5, v4 = .slice A4 x.inn.length c4 ∧ v5 = .slice A5 x.out.length c5 ∧ o5 = .slice B5 m5 e5 ∧ (x.inn.length ≤ c4 ∧ c4 ≤ maxLen) ∧ (x.out.length ≤ c5 ∧ c5 ≤ maxLen) := by
  obtain ⟨A4, c4, rfl, h1, h2, _, _⟩ := h.inn.shape
  obtain ⟨A5, c5, rfl, h3, h4, _, _⟩ := h.out.shape
  obtain ⟨B, n, c, rfl⟩ := h.sl
  exact ⟨A4, c4, A5, c5, B, n, c, rfl, rfl, rfl, ⟨h1, h2⟩, h3, h4⟩
/-- A store into a number of the box. -/
theorem KB.put (h : KB w0 S x v4 v5 o5 d7 W) (i : Nat) (u : Value) (x' : Sk) (hi : x'.inn = x.inn) (ho : x'.out = x.out)
    (hb : (#[v5, .int .i64 x.done, .int .i64 x.id, .int .i64 x.kind, .int .i64 x.hold, .bool x.shut, v4, o5, .int .i64 x.st, .int .i64 d7] : Array Value).setIfInBounds i u = #[v5, .int .i64 x'.done, .int .i64 x'.id, .int .i64 x'.kind, .int .i64 x'.hold, .bool x'.shut, v4, o5, .int .i64 x'.st, .int .i64 d7]) : KB w0 S x' v4 v5 o5 d7 (W.setCell ⟨S, i, none⟩ u) := by
  have ho' := Rep.Only.setCell W (p := ⟨S, i, none⟩) (fp := [S]) (by simp) u
  refine ⟨Rep.Only.below h.below ho' h.below.size (fun g hg => by simp at hg; subst hg; exact h.lo), ?_, ?_, ?_, h.ap, h.lo, h.n4, h.n5, h.sl⟩
  · rw [← hb]; exact var_set h.box i u
  · rw [hi]; exact Rep.ownsRow_block h.inn fun g hg => ho'.block g (h.inn.lt g (by simpa using hg)).2 (fun e => h.n4 (by simp at e; subst e; simpa using hg))
  · rw [ho]; exact Rep.ownsRow_block h.out fun g hg => ho'.block g (h.out.lt g (by simpa using hg)).2 (fun e => h.n5 (by simp at e; subst e; simpa using hg))
/-- The slice of what came in has grown. -/
theorem KB.grown4 (h : KB w0 S x v4 v5 o5 d7 W) {l : List UInt8} {v : Value} (hg : W.grownBy W' v4.ownBlock) (hl : Owns W' w0.heap.size 5 v l) (hat : v.ownBlock = v4.ownBlock ∨ v.ownBlock = some W.heap.size ∨ v.ownBlock = none) :
    KB w0 S { x with inn := l } v v5 o5 d7 (W'.setCell ⟨S, 6, none⟩ v) := by
  have hb : ∀ k, k < W.heap.size → v4.ownBlock ≠ some k → W'.heap[k]? = W.heap[k]? := fun k hk hn => hg.block k hk (fun e => hn e.symm)
  have hS := h.lt
  have hn4 : v.ownBlock ≠ some S := by
    rcases hat with e | e | e
    · rw [e]; exact h.n4
    · rw [e]; intro e2; injection e2 with e2; omega
    · rw [e]; intro e2; cases e2
  have ho' := Rep.Only.setCell W' (p := ⟨S, 6, none⟩) (fp := [S]) (by simp) v
  have hS' : S < W'.heap.size := Nat.lt_of_lt_of_le hS hg.size
  refine ⟨?_, ?_, ?_, ?_, ?_, h.lo, hn4, h.n5, h.sl⟩
  · refine Rep.Only.below (h.below.grown hg h.below.size (fun k hk => (h.inn.lt k hk).1)) ho' (Nat.le_trans h.below.size hg.size) (fun g hg => by simp at hg; subst hg; exact h.lo)
  · exact var_set ((hb S hS h.n4).trans h.box) 6 v
  · exact Rep.ownsRow_block hl fun g hg2 => ho'.block g (hl.lt g (by simpa using hg2)).2 (fun e => hn4 (by simp at e; subst e; simpa using hg2))
  · have h5 : Owns W' w0.heap.size 5 v5 x.out := Rep.ownsRow_block h.out fun g hg2 => hb g (h.out.lt g (by simpa using hg2)).2 (fun e => h.ap g e (by simpa using hg2))
    exact Rep.ownsRow_block h5 fun g hg2 => ho'.block g (h5.lt g (by simpa using hg2)).2 (fun e => h.n5 (by simp at e; subst e; simpa using hg2))
  · intro k hk
    rcases hat with e | e | e
    · exact h.ap k (e ▸ hk)
    · intro e5; have := (h.out.lt k e5).2; rw [e] at hk; injection hk with hk; omega
    · rw [e] at hk; cases hk
/-- The slice of what was sent has grown. -/
theorem KB.grown5 (h : KB w0 S x v4 v5 o5 d7 W) {l : List UInt8} {v : Value} (hg : W.grownBy W' v5.ownBlock) (hl : Owns W' w0.heap.size 5 v l) (hat : v.ownBlock = v5.ownBlock ∨ v.ownBlock = some W.heap.size ∨ v.ownBlock = none) :
    KB w0 S { x with out := l } v4 v o5 d7 (W'.setCell ⟨S, 0, none⟩ v) := by
  have hb : ∀ k, k < W.heap.size → v5.ownBlock ≠ some k → W'.heap[k]? = W.heap[k]? := fun k hk hn => hg.block k hk (fun e => hn e.symm)
  have hS := h.lt
  have hn5 : v.ownBlock ≠ some S := by
    rcases hat with e | e | e
    · rw [e]; exact h.n5
    · rw [e]; intro e2; injection e2 with e2; omega
    · rw [e]; intro e2; cases e2
  have ho' := Rep.Only.setCell W' (p := ⟨S, 0, none⟩) (fp := [S]) (by simp) v
  have hS' : S < W'.heap.size := Nat.lt_of_lt_of_le hS hg.size
  refine ⟨?_, ?_, ?_, ?_, ?_, h.lo, h.n4, hn5, h.sl⟩
  · refine Rep.Only.below (h.below.grown hg h.below.size (fun k hk => (h.out.lt k hk).1)) ho' (Nat.le_trans h.below.size hg.size) (fun g hg => by simp at hg; subst hg; exact h.lo)
  · exact var_set ((hb S hS h.n5).trans h.box) 0 v
  · have h4 : Owns W' w0.heap.size 5 v4 x.inn := Rep.ownsRow_block h.inn fun g hg2 => hb g (h.inn.lt g (by simpa using hg2)).2 (fun e => h.ap g (by simpa using hg2) e)
    exact Rep.ownsRow_block h4 fun g hg2 => ho'.block g (h4.lt g (by simpa using hg2)).2 (fun e => h.n4 (by simp at e; subst e; simpa using hg2))
  · exact Rep.ownsRow_block hl fun g hg2 => ho'.block g (hl.lt g (by simpa using hg2)).2 (fun e => hn5 (by simp at e; subst e; simpa using hg2))
  · intro k hk
    rcases hat with e | e | e
    · rw [e]; exact h.ap k hk
    · rw [e]; intro e5; injection e5 with e5; have := (h.inn.lt k hk).2; omega
    · rw [e]; intro e5; cases e5
end
theorem kset {W : World} {g k i j : Nat} {v u : Value} (h : W.cell? ⟨k, i, none⟩ = some v) (hn : k ≠ g) : (W.setCell ⟨g, j, none⟩ u).cell? ⟨k, i, none⟩ = some v := (World.cell?_setCell_other _ _ _ _ (fun e => by cases e; exact hn rfl)).trans h
set_option maxHeartbeats 4000000 in
/-- What the box holds, as a socket. -/
theorem sock_any (S : Nat) (x : Sk) (A4 A5 B5 : Option Addr) (n4 c4 n5 c5 m5 e5 : Nat) (d7 : Int) (w : World) (h : w.heap[S]? = some (.cells #[.slice A5 n5 c5, .int .i64 x.done, .int .i64 x.id, .int .i64 x.kind, .int .i64 x.hold, .bool x.shut, .slice A4 n4 c4, .slice B5 m5 e5, .int .i64 x.st, .int .i64 d7] 113 (0, 0))) :
    Calls Try.prog 79 #[.pointer (some ⟨S, 0, none⟩)] w fun e w' => e = .returned (.agg #[.int .i64 x.id, .int .i64 x.kind, .int .i64 x.hold, .bool x.shut, .slice A4 n4 c4, .slice A5 n5 c5, .int .i64 x.st, .int .i64 x.done]) ∧ Below w.heap.size w w' := by
  have hS : S < w.heap.size := (Array.getElem?_eq_some_iff.1 h).1
  have HW : Below w.heap.size w ((w.alloc (.cells #[.int .i64 0, .int .i64 0, .int .i64 0, .bool false, .slice none 0 0, .slice none 0 0, .int .i64 0, .int .i64 0] 25)).alloc (.cells #[.int .i64 x.id, .int .i64 x.kind, .int .i64 x.hold, .bool x.shut, .slice A4 n4 c4, .slice B5 m5 e5, .int .i64 x.st, .int .i64 d7] 25)) := Later.trans (Later.alloc w _) (Later.alloc _ _)
  have V : ((w.alloc (.cells #[.int .i64 0, .int .i64 0, .int .i64 0, .bool false, .slice none 0 0, .slice none 0 0, .int .i64 0, .int .i64 0] 25)).alloc (.cells #[.int .i64 x.id, .int .i64 x.kind, .int .i64 x.hold, .bool x.shut, .slice A4 n4 c4, .slice B5 m5 e5, .int .i64 x.st, .int .i64 d7] 25)).heap[w.heap.size + 1]? = some (.cells #[.int .i64 x.id, .int .i64 x.kind, .int .i64 x.hold, .bool x.shut, .slice A4 n4 c4, .slice B5 m5 e5, .int .i64 x.st, .int .i64 d7] 25 (0, 0)) := heap_alloc_new' _ _ (by simp)
  have ZZ : ((w.alloc (.cells #[.int .i64 0, .int .i64 0, .int .i64 0, .bool false, .slice none 0 0, .slice none 0 0, .int .i64 0, .int .i64 0] 25)).alloc (.cells #[.int .i64 x.id, .int .i64 x.kind, .int .i64 x.hold, .bool x.shut, .slice A4 n4 c4, .slice B5 m5 e5, .int .i64 x.st, .int .i64 d7] 25)).heap[w.heap.size]? = some (.cells #[.int .i64 0, .int .i64 0, .int .i64 0, .bool false, .slice none 0 0, .slice none 0 0, .int .i64 0, .int .i64 0] 25 (0, 0)) := (Below.heap_alloc _ _ _ (by simp)).trans (heap_alloc_new w _)
  have hB : ((w.alloc (.cells #[.int .i64 0, .int .i64 0, .int .i64 0, .bool false, .slice none 0 0, .slice none 0 0, .int .i64 0, .int .i64 0] 25)).alloc (.cells #[.int .i64 x.id, .int .i64 x.kind, .int .i64 x.hold, .bool x.shut, .slice A4 n4 c4, .slice B5 m5 e5, .int .i64 x.st, .int .i64 d7] 25)).heap[S]? = some (.cells #[.slice A5 n5 c5, .int .i64 x.done, .int .i64 x.id, .int .i64 x.kind, .int .i64 x.hold, .bool x.shut, .slice A4 n4 c4, .slice B5 m5 e5, .int .i64 x.st, .int .i64 d7] 113 (0, 0)) := (HW.block S hS).trans h
  have q0 := var_cell h 0
  have q1 := var_cell h 1
  have q2 := var_cell h 2
  have q3 := var_cell h 3
  have q4 := var_cell h 4
  have q5 := var_cell h 5
  have q6 := var_cell h 6
  have q7 := var_cell h 7
  have q8 := var_cell h 8
  have q9 := var_cell h 9
  go_enter Try.func79, Try.ntmps79
  go_upto_region 2 with (fail)
  clear q0 q1 q2 q3 q4 q5 q6 q7 q8 q9
  generalize ((w.alloc (.cells #[.int .i64 0, .int .i64 0, .int .i64 0, .bool false, .slice none 0 0, .slice none 0 0, .int .i64 0, .int .i64 0] 25)).alloc (.cells #[.int .i64 x.id, .int .i64 x.kind, .int .i64 x.hold, .bool x.shut, .slice A4 n4 c4, .slice B5 m5 e5, .int .i64 x.st, .int .i64 d7] 25)) = W at HW V ZZ hB ⊢
  have hne : S ≠ w.heap.size + 1 := by omega
  have hl1 : w.heap.size + 1 < W.heap.size := (Array.getElem?_eq_some_iff.1 V).1
  have s0 := var_cell hB 0
  have s1 := var_cell hB 1
  have y5 := var_cell V 5
  have y7 := var_cell V 7
  have t5 := var_frozen V 5
  have t7 := var_frozen V 7
  refine wp_region_lex' 100 [0, 1, 2, 3, 4, 5, 6, 7, 8, 9] [10, 11, 12, 13] (fun w' => w'.cell? ⟨S, 0, none⟩ = some (.slice A5 n5 c5) ∧ w'.cell? ⟨S, 1, none⟩ = some (.int .i64 x.done)) (by kernel_rfl) (by kernel_rfl) ⟨s0, s1⟩ ?_
  iterate 10 (refine LexR.cons rfl ?_ (fun w' hw => ?_) ?_; rotate_left; focus (obtain ⟨e0, e1⟩ := hw; go_simp; (try exact rfl)); (try go_frame))
  refine LexR.nil ?_
  replace HW : Below w.heap.size w W.drew := belowD HW 1
  replace V : W.drew.heap[w.heap.size + 1]? = _ := V
  replace ZZ : W.drew.heap[w.heap.size]? = _ := ZZ
  replace s0 : W.drew.cell? ⟨S, 0, none⟩ = _ := s0
  replace s1 : W.drew.cell? ⟨S, 1, none⟩ = _ := s1
  replace y5 := var_cell V 5
  replace y7 := var_cell V 7
  replace t5 := var_frozen V 5
  replace t7 := var_frozen V 7
  replace hl1 : w.heap.size + 1 < W.drew.heap.size := hl1
  clear hB
  generalize W.drew = W at HW V ZZ s0 s1 y5 y7 t5 t7 hl1 ⊢
  refine LexW.cons rfl ?_
  go_wp2_with fail
  refine ⟨fun _ => ⟨s0, s1⟩, LexW.cons rfl ?_⟩
  try go_frame
  go_wp2_with fail
  refine ⟨fun _ => ⟨kset s0 hne, kset s1 hne⟩, LexW.cons rfl ?_⟩
  try go_frame
  go_wp2_with fail
  refine ⟨fun _ => ⟨kset s0 hne, kset s1 hne⟩, LexW.cons rfl ?_⟩
  try go_frame
  go_wp2_with fail
  refine ⟨fun _ => ⟨?_, ?_⟩, LexW.nil ?_⟩
  · exact kset (kset s0 hne) hne
  · exact kset (kset s1 hne) hne
  try go_frame
  have v0 := var_cell V 0
  have z0 := var_cell ZZ 0
  have f0_ := var_frozen ZZ 0
  have v1 := var_cell V 1
  have z1 := var_cell ZZ 1
  have f1_ := var_frozen ZZ 1
  have v2 := var_cell V 2
  have z2 := var_cell ZZ 2
  have f2_ := var_frozen ZZ 2
  have v3 := var_cell V 3
  have z3 := var_cell ZZ 3
  have f3_ := var_frozen ZZ 3
  have v4 := var_cell V 4
  have z4 := var_cell ZZ 4
  have f4_ := var_frozen ZZ 4
  have v5 := var_cell V 5
  have z5 := var_cell ZZ 5
  have f5_ := var_frozen ZZ 5
  have v6 := var_cell V 6
  have z6 := var_cell ZZ 6
  have f6_ := var_frozen ZZ 6
  have v7 := var_cell V 7
  have z7 := var_cell ZZ 7
  have f7_ := var_frozen ZZ 7
  have hl0 : w.heap.size < W.heap.size := by omega
  go_wp2_with fail
  refine bodyPost_ret (v := .agg #[.int .i64 x.id, .int .i64 x.kind, .int .i64 x.hold, .bool x.shut, .slice A4 n4 c4, .slice A5 n5 c5, .int .i64 x.st, .int .i64 x.done]) (by simp [results, Try.results79, go_sem, z0, z1, z2, z3, z4, z5, z6, z7]) rfl ?_
  refine ⟨rfl, ?_⟩
  repeat (refine Below.setCell ?_ (by first | (simp; done) | (simp; omega)) _)
  exact HW
def RetKB (w : World) (x : Sk) (e : Ending) (w' : World) : Prop := ∃ S v4 v5 o5 d7, e = .returned (.pointer (some ⟨S, 0, none⟩)) ∧ KB w S x v4 v5 o5 d7 w'
set_option maxHeartbeats 4000000 in
theorem socketOf_any (cs : List Value) (x : Sk) (w : World) (h : skR.at_ w w.heap.size cs x) (hs : RoomSk x) :
    Calls Try.prog 77 #[.agg cs.toArray] w (RetKB w x) := by
  obtain ⟨B4, e4, B5, e5, rfl, _, hr4, _, hr5⟩ := sk_cells h
  obtain ⟨f4, f5⟩ := hs
  have hn0 : ∀ w, Reads w w.heap.size 1 none ([] : List UInt8).length (bys []) := fun w => ⟨by simp [bys], fun h => by simp at h⟩
  have S0 : All (fun w' => (Below w.heap.size w w' ∧ Reads w' w'.heap.size 1 B4 x.inn.length (bys x.inn)) ∧ Reads w' w'.heap.size 1 B5 x.out.length (bys x.out)) w := ⟨⟨Below.refl _ _, hr4⟩, hr5⟩
  have T : All (fun w' => ((Below w.heap.size w w' ∧ Reads w' w'.heap.size 1 B4 x.inn.length (bys x.inn)) ∧ Reads w' w'.heap.size 1 B5 x.out.length (bys x.out)) ∧ w'.heap[w.heap.size]? = some (.cells #[.int .i64 x.id, .int .i64 x.kind, .int .i64 x.hold, .bool x.shut, .slice B4 x.inn.length e4, .slice B5 x.out.length e5, .int .i64 x.st, .int .i64 x.done] 25 (0, 0))) (w.alloc (.cells #[.int .i64 x.id, .int .i64 x.kind, .int .i64 x.hold, .bool x.shut, .slice B4 x.inn.length e4, .slice B5 x.out.length e5, .int .i64 x.st, .int .i64 x.done] 25)) := ⟨(S0.alloc _).out, heap_alloc_new w _⟩
  clear h hr4 hr5 S0
  go_enter Try.func77, Try.ntmps77
  go_wp2_with fail
  generalize w.alloc (.cells #[.int .i64 x.id, .int .i64 x.kind, .int .i64 x.hold, .bool x.shut, .slice B4 x.inn.length e4, .slice B5 x.out.length e5, .int .i64 x.st, .int .i64 x.done] 25) = W at T ⊢
  refine wp_region_open 100 (fun w' => w'.heap[w.heap.size]? = some (.cells #[.int .i64 x.id, .int .i64 x.kind, .int .i64 x.hold, .bool x.shut, .slice B4 x.inn.length e4, .slice B5 x.out.length e5, .int .i64 x.st, .int .i64 x.done] 25 (0, 0))) (by kernel_rfl) ?_
  replace T := T.drew
  refine wpAnyL_readsG [0, 1, 3, 4, 6] (fuel := 5) (by kernel_rfl) T.out.2 ?_
  refine LexRG.yes rfl (by first | rfl | (simp [Region.wanted, yielded]; done)) ?_ (fun w' hw => ?_) ?_
  rotate_left
  focus (clear hw; go_simp; (try exact rfl))
  try go_frame
  refine LexRG.yes rfl (by first | rfl | (simp [Region.wanted, yielded]; done)) ?_ (fun w' hw => ?_) ?_
  rotate_left
  focus (have hw2 := hw; have q0 := var_cell hw2 0; have q1 := var_cell hw2 1; have q2 := var_cell hw2 2; have q3 := var_cell hw2 3; have q4 := var_cell hw2 4; have q5 := var_cell hw2 5; have q6 := var_cell hw2 6; have q7 := var_cell hw2 7; clear hw; go_simp; (try exact rfl))
  try go_frame
  refine LexRG.yes rfl (by first | rfl | (simp [Region.wanted, yielded]; done)) ?_ (fun w' hw => ?_) ?_
  rotate_left
  focus (clear hw; go_simp; (try exact rfl))
  try go_frame
  refine LexRG.yes rfl (by first | rfl | (simp [Region.wanted, yielded]; done)) ?_ (fun w' hw => ?_) ?_
  rotate_left
  focus (have hw2 := hw; have q0 := var_cell hw2 0; have q1 := var_cell hw2 1; have q2 := var_cell hw2 2; have q3 := var_cell hw2 3; have q4 := var_cell hw2 4; have q5 := var_cell hw2 5; have q6 := var_cell hw2 6; have q7 := var_cell hw2 7; clear hw; go_simp; (try exact rfl))
  try go_frame
  refine LexRG.yes rfl (by first | rfl | (simp [Region.wanted, yielded]; done)) ?_ (fun w' hw => ?_) ?_
  rotate_left
  focus (have hw2 := hw; have q0 := var_cell hw2 0; have q1 := var_cell hw2 1; have q2 := var_cell hw2 2; have q3 := var_cell hw2 3; have q4 := var_cell hw2 4; have q5 := var_cell hw2 5; have q6 := var_cell hw2 6; have q7 := var_cell hw2 7; clear hw; go_simp; (try exact rfl))
  try go_frame
  refine LexRG.nil ?_
  refine wpAnyL_one (i := 2) (by kernel_rfl) ?_
  refine lexA_get rfl ?_
  try go_frame
  go_wp2_with fail
  refine (joined_any B5 none e5 0 x.out [] W.drew T.out.1.2 (hn0 _) (by omega) (by simp)).mono ?_
  rintro e V1 ⟨v5, rfl, o5, hb⟩
  rw [List.append_nil] at o5
  obtain ⟨A5, c5, rfl, _⟩ := o5.shape
  have h0 : w.heap.size ≤ W.drew.heap.size := T.out.1.1.1.size
  have h1 : Below w.heap.size w V1 := Later.trans T.out.1.1.1 hb
  replace T := T.later hb
  clear hb
  go_wp2_with fail
  refine ⟨fun _ => T.out.2, ?_⟩
  refine wpAnyL_readsG [5, 7] (fuel := 2) (by kernel_rfl) T.out.2 ?_
  refine LexRG.yes rfl (by first | rfl | (simp [Region.wanted, yielded]; done)) ?_ (fun w' hw => ?_) ?_
  rotate_left
  focus (clear hw; go_simp; (try exact rfl))
  try go_frame
  refine LexRG.yes rfl (by first | rfl | (simp [Region.wanted, yielded]; done)) ?_ (fun w' hw => ?_) ?_
  rotate_left
  focus (clear hw; go_simp; (try exact rfl))
  try go_frame
  refine LexRG.nil ?_
  refine wpAnyL_one (i := 8) (by kernel_rfl) ?_
  refine lexA_get rfl ?_
  try go_frame
  go_wp2_with fail
  replace T := T.alloc (.cells #[.slice A5 x.out.length c5, .int .i64 x.done, .int .i64 x.id, .int .i64 x.kind, .int .i64 x.hold, .bool x.shut, .slice B4 x.inn.length e4, .slice B5 x.out.length e5, .int .i64 x.st, .int .i64 x.done] 113)
  refine ⟨fun _ => T.out.2, ?_⟩
  refine wpAnyL_writes [9] (by kernel_rfl) (LexW.cons rfl ?_)
  try go_frame
  go_wp2_with fail
  refine ⟨fun _ => T.out.2, LexW.nil ?_⟩
  have hbx := heap_alloc_new V1 (.cells #[.slice A5 x.out.length c5, .int .i64 x.done, .int .i64 x.id, .int .i64 x.kind, .int .i64 x.hold, .bool x.shut, .slice B4 x.inn.length e4, .slice B5 x.out.length e5, .int .i64 x.st, .int .i64 x.done] 113)
  have HA := Later.alloc V1 (.cells #[.slice A5 x.out.length c5, .int .i64 x.done, .int .i64 x.id, .int .i64 x.kind, .int .i64 x.hold, .bool x.shut, .slice B4 x.inn.length e4, .slice B5 x.out.length e5, .int .i64 x.st, .int .i64 x.done] 113)
  have hS2 : V1.heap.size < (V1.alloc (.cells #[.slice A5 x.out.length c5, .int .i64 x.done, .int .i64 x.id, .int .i64 x.kind, .int .i64 x.hold, .bool x.shut, .slice B4 x.inn.length e4, .slice B5 x.out.length e5, .int .i64 x.st, .int .i64 x.done] 113)).heap.size := by simp
  have u5 : ∀ k, (Value.slice A5 x.out.length c5).ownBlock = some k → k < V1.heap.size := fun k hk => (o5.lt k hk).2
  replace o5 := Owns.keep o5 HA
  have hlo : w.heap.size ≤ V1.heap.size := h1.size
  clear HA h1
  generalize V1.alloc (.cells #[.slice A5 x.out.length c5, .int .i64 x.done, .int .i64 x.id, .int .i64 x.kind, .int .i64 x.hold, .bool x.shut, .slice B4 x.inn.length e4, .slice B5 x.out.length e5, .int .i64 x.st, .int .i64 x.done] 113) = W2 at T hbx hS2 o5 ⊢
  generalize V1.heap.size = S at hbx hS2 u5 hlo ⊢
  have q4 := var_cell T.out.2 4
  go_wp2_with fail
  refine (joined_any B4 none e4 0 x.inn [] W2 T.out.1.1.2 (hn0 _) (by omega) (by simp)).mono ?_
  rintro e W3 ⟨v4, rfl, o4, hb⟩
  rw [List.append_nil] at o4
  obtain ⟨A4, c4, rfl, _⟩ := o4.shape
  replace hbx := (hb.block _ hS2).trans hbx
  replace o5 := Owns.keep o5 hb
  have hlow : Below w.heap.size w W3 := Later.trans T.out.1.1.1 hb
  have hsz : w.heap.size ≤ W2.heap.size := T.out.1.1.1.size
  have hS3 : S < W3.heap.size := Nat.lt_of_lt_of_le hS2 hb.size
  clear hb q4 T
  have y6 := var_cell hbx 6
  have t6 := var_frozen hbx 6
  go_wp2_with fail
  go_ret
  refine ⟨S, .slice A4 x.inn.length c4, .slice A5 x.out.length c5, .slice B5 x.out.length e5, x.done, rfl, ?_⟩
  refine ⟨hlow.setCell (p := ⟨S, 6, none⟩) hlo _, var_set hbx 6 _, ?_, ?_, ?_, hlo, ?_, ?_, ⟨_, _, _, rfl⟩⟩
  · exact ownsRow_mono (Owns.setLow o4 (p := ⟨S, 6, none⟩) hS2 _) hsz
  · exact Rep.ownsRow_block (ownsRow_mono o5 h0) fun g hg => heap_setCell_other _ _ _ _ (fun e => by have := u5 g (by simpa using hg); have e2 : g = S := e; omega)
  · intro k h4 h5
    have := (o4.lt k h4).1
    have := u5 k h5
    omega
  · intro h4
    have := (o4.lt S h4).1
    omega
  · intro h5
    have := u5 S h5
    omega
set_option maxHeartbeats 4000000 in
theorem receive_any {w0 : World} {S : Nat} {x : Sk} {v4 v5 o5 : Value} {d7 : Int} (w : World) (h : KB w0 S x v4 v5 o5 d7 w) (B : Option Addr) (e : Nat) (b : List UInt8) (hr : Reads w w.heap.size 1 B b.length (bys b)) (hl : x.inn.length ≤ 2097152) (hbl : b.length ≤ 1048576) :
    Calls Try.prog 78 #[.pointer (some ⟨S, 0, none⟩), .slice B b.length e] w fun e' w' => (x.inn.length + b.length ≤ 240 ∧ e' = .returned (.bool true) ∧ ∃ v4', KB w0 S { x with inn := x.inn ++ b } v4' v5 o5 d7 w') ∨ (¬ x.inn.length + b.length ≤ 240 ∧ e' = .returned (.bool false) ∧ w = w') := by
  obtain ⟨A4, c4, A5, c5, B5, m5, e5, rfl, rfl, rfl, hc4, hc5⟩ := h.slices
  obtain ⟨i0, hi0, hz0, hz1, hz2⟩ := info_parts Try.info8
  have q6 := var_cell h.box 6
  have hS := h.lt
  by_cases h240 : x.inn.length + b.length ≤ 240
  · have g240 : ¬ (240 : Int) < (x.inn.length : Int) + (b.length : Int) := by omega
    go_enter Try.func78, Try.ntmps78
    go_wp2_with (first
      | (at_builtin
         refine wpList_append_any _ rfl (.tmp 20) (.tmp 21) _ rfl w0.heap.size 5 i0 _ 1 1 Try.underlying22 hi0 hz0 hz1 hz2 rfl (by omega) (.slice A4 x.inn.length c4) x.inn.length (bys x.inn) rfl h.inn w.heap.size B b.length e (bys b) rfl hr (bys_one b) (by simp only [maxLen]; omega) (by omega) h.below.size ?_
         intro v3 w3 hown3 hg3 hat3
         refine Halt.go ?_)
      | fail)
    have hl3 : Owns w3 w0.heap.size 5 v3 (x.inn ++ b) := by unfold Owns; rw [bys_append, List.length_append]; exact hown3
    have hbx := ((hg3.block S hS (fun e => h.n4 e.symm))).trans h.box
    have hK := h.grown4 hg3 hl3 (by rcases hat3 with e | e; exact .inl e; exact .inr (.inl e))
    obtain ⟨A3, c3, rfl, _⟩ := hl3.shape
    have hS3 : S < w3.heap.size := Nat.lt_of_lt_of_le hS hg3.size
    clear q6 hown3 hg3 hat3 hl3 hr
    refine Halt.mk ?_
    have y6 := var_cell hbx 6
    have t6 := var_frozen hbx 6
    go_wp2_with fail
    go_ret
    have hK2 := hK
    rw [List.length_append] at hK2
    exact .inl ⟨h240, rfl, _, hK2⟩
  · have g240 : (240 : Int) < (x.inn.length : Int) + (b.length : Int) := by omega
    go_enter Try.func78, Try.ntmps78
    go_wp2_with fail
    go_ret
    exact .inr ⟨h240, rfl, rfl⟩
theorem gz_store {w W : World} (hb : Below w.heap.size w W) (a b c : Value) : Below w.heap.size w (((W.setCell ⟨w.heap.size, 0, none⟩ a).setCell ⟨w.heap.size, 1, none⟩ b).setCell ⟨w.heap.size, 2, none⟩ c) :=
  ((hb.setCell (p := ⟨w.heap.size, 0, none⟩) (Nat.le_refl _) a).setCell (p := ⟨w.heap.size, 1, none⟩) (Nat.le_refl _) b).setCell (p := ⟨w.heap.size, 2, none⟩) (Nat.le_refl _) c
set_option maxHeartbeats 8000000 in
theorem next_any {w0 : World} {S : Nat} {x : Sk} {v4 v5 o5 : Value} {d7 : Int} (d : Nat) (p : Fr × Int × Int) (w : World) (h : KB w0 S x v4 v5 o5 d7 w) (hl : x.out.length ≤ 2097152) (hd : x.done = (d : Int)) (hdl : d ≤ x.out.length) (hp : getF (x.out.drop d) = p) :
    Calls Try.prog 135 #[.pointer (some ⟨S, 0, none⟩)] w fun e' w' => e' = .returned (.tuple #[.agg (frC p.1).toArray, .int .i64 p.2.1, .int .i64 p.2.2]) ∧ Below w.heap.size w w' := by
  obtain ⟨A4, c4, A5, c5, B5, m5, e5, rfl, rfl, rfl, hc4, hc5⟩ := h.slices
  obtain ⟨i0, hi0, hz0, hz1, hz2⟩ := info_parts Try.info8
  obtain ⟨A', rs, qs⟩ := slice_readsF Try.underlying22 hi0 hz1 (A := A5) (n := x.out.length) (c := c5) (lo := d) .i64 hdl hc5.1
  have hK := h.later (Later.alloc w (.cells #[.int .i64 0, .string ⟨#[]⟩, .int .i64 0] 33))
  have T : All (fun w' => (KB w0 S x (.slice A4 x.inn.length c4) (.slice A5 x.out.length c5) (.slice B5 m5 e5) d7 w' ∧ Below w.heap.size w w' ∧ (w'.heap[w.heap.size]? = some (.cells #[.int .i64 0, .string ⟨#[]⟩, .int .i64 0] 33 (0, 0)))) ∧ (w'.heap[S]? = some (.cells #[.slice A5 x.out.length c5, .int .i64 x.done, .int .i64 x.id, .int .i64 x.kind, .int .i64 x.hold, .bool x.shut, .slice A4 x.inn.length c4, .slice B5 m5 e5, .int .i64 x.st, .int .i64 d7] 113 (0, 0)))) (w.alloc (.cells #[.int .i64 0, .string ⟨#[]⟩, .int .i64 0] 33)) := ⟨⟨hK, Later.alloc w _, heap_alloc_new w _⟩, hK.box⟩
  rw [hd] at T
  obtain ⟨⟨fk, fs, fst⟩, fn, fc⟩ := p
  have HP := Lib.hid hp
  have e1 : x.out.length - d = (x.out.drop d).length := List.length_drop.symm
  rw [e1] at rs qs
  obtain ⟨k, hk⟩ : ∃ k, c5 - d = k := ⟨_, rfl⟩
  have HC : Hid ((x.out.drop d).length ≤ k) := Lib.hid (by rw [← e1, ← hk]; have := hc5.1; omega)
  have HL : Hid ((x.out.drop d).length ≤ 100000000) := Lib.hid (by rw [← e1]; omega)
  replace qs : ∀ {w : World} {B : Nat}, Reads w B 1 A5 x.out.length (bys x.out) → Reads w B 1 A' (x.out.drop d).length (bys (x.out.drop d)) := fun h => qs h
  rw [hk] at rs
  obtain ⟨m, hm⟩ : ∃ m, x.out.drop d = m := ⟨_, rfl⟩
  rw [hm] at rs qs HC HL HP
  have QS : Hid (∀ (w : World) (u : Unit), Reads w w.heap.size 1 A5 x.out.length (bys x.out) → Reads w w.heap.size 1 A' m.length (bys m)) := Lib.hid fun w _ h => qs h
  clear hk hm qs
  have hSw : S ≠ w.heap.size := by have := h.lt; omega
  clear h hK hp e1 hd
  go_enter Try.func135, Try.ntmps135
  go_upto_region 1 with (fail)
  generalize w.alloc (.cells #[.int .i64 0, .string ⟨#[]⟩, .int .i64 0] 33) = W at T ⊢
  refine wp_region_open 100 (fun w' => w'.heap[S]? = some (.cells #[.slice A5 x.out.length c5, .int .i64 (d : Int), .int .i64 x.id, .int .i64 x.kind, .int .i64 x.hold, .bool x.shut, .slice A4 x.inn.length c4, .slice B5 m5 e5, .int .i64 x.st, .int .i64 d7] 113 (0, 0))) (by kernel_rfl) ?_
  replace T := T.drew
  generalize W.drew = W at T ⊢
  refine wpAnyL_readsG [0, 1, 2, 3, 4, 5, 6, 7, 8] (fuel := 7) (by kernel_rfl) T.out.2 ?_
  refine LexRG.yes rfl (by first | rfl | (simp [Region.wanted, yielded]; done)) ?_ (fun w' hw => ?_) ?_
  rotate_left
  focus (skip; clear hw; go_simp; (try exact rfl))
  try go_frame
  refine LexRG.yes rfl (by first | rfl | (simp [Region.wanted, yielded]; done)) ?_ (fun w' hw => ?_) ?_
  rotate_left
  focus (skip; clear hw; go_simp; (try exact rfl))
  try go_frame
  refine LexRG.yes rfl (by first | rfl | (simp [Region.wanted, yielded]; done)) ?_ (fun w' hw => ?_) ?_
  rotate_left
  focus (skip; clear hw; go_simp; (try exact rfl))
  try go_frame
  refine LexRG.yes rfl (by first | rfl | (simp [Region.wanted, yielded]; done)) ?_ (fun w' hw => ?_) ?_
  rotate_left
  focus (have hw2 := hw; have s0 := var_cell hw2 0; have s1 := var_cell hw2 1; clear hw; go_simp; (try exact rfl))
  try go_frame
  refine LexRG.yes rfl (by first | rfl | (simp [Region.wanted, yielded]; done)) ?_ (fun w' hw => ?_) ?_
  rotate_left
  focus (skip; clear hw; go_simp; (try exact rfl))
  try go_frame
  refine LexRG.yes rfl (by first | rfl | (simp [Region.wanted, yielded]; done)) ?_ (fun w' hw => ?_) ?_
  rotate_left
  focus (skip; clear hw; go_simp; (try exact rfl))
  try go_frame
  refine LexRG.yes rfl (by first | rfl | (simp [Region.wanted, yielded]; done)) ?_ (fun w' hw => ?_) ?_
  rotate_left
  focus (skip; clear hw; go_simp; (try exact rfl))
  try go_frame
  refine LexRG.yes rfl (by first | rfl | (simp [Region.wanted, yielded]; done)) ?_ (fun w' hw => ?_) ?_
  rotate_left
  focus (have hw2 := hw; have s0 := var_cell hw2 0; have s1 := var_cell hw2 1; clear hw; go_simp; (try exact rfl))
  try go_frame
  refine LexRG.yes rfl (by first | rfl | (simp [Region.wanted, yielded]; done)) ?_ (fun w' hw => ?_) ?_
  rotate_left
  focus (have r9 := rs; clear hw; go_simp; (try exact rfl))
  try go_frame
  refine LexRG.nil ?_
  refine wpAnyL_one (i := 9) (by kernel_rfl) ?_
  refine lexA_get rfl ?_
  try go_frame
  go_wp2_with fail
  refine (getFrame_any A' k m W (QS.out _ () T.out.1.1.out.reads) HL.out HC.out).mono ?_
  rw [HP.out]
  rintro e W1 ⟨rfl, hb⟩
  replace T := T.later hb
  clear hb
  unfold frC
  go_wp2_with fail
  refine ⟨fun _ => T.out.2, ?_⟩
  refine wpAnyL_readsG [10, 11, 12] (fuel := 3) (by kernel_rfl) T.out.2 ?_
  refine LexRG.yes rfl (by first | rfl | (simp [Region.wanted, yielded]; done)) ?_ (fun w' hw => ?_) ?_
  rotate_left
  focus (skip; clear hw; go_simp; (try exact rfl))
  try go_frame
  refine LexRG.yes rfl (by first | rfl | (simp [Region.wanted, yielded]; done)) ?_ (fun w' hw => ?_) ?_
  rotate_left
  focus (skip; clear hw; go_simp; (try exact rfl))
  try go_frame
  refine LexRG.yes rfl (by first | rfl | (simp [Region.wanted, yielded]; done)) ?_ (fun w' hw => ?_) ?_
  rotate_left
  focus (skip; clear hw; go_simp; (try exact rfl))
  try go_frame
  refine LexRG.nil ?_
  have hlow := T.out.1.2.1
  have hbx := T.out.2
  have hgx := T.out.1.2.2
  have hS : S ≠ w.heap.size := hSw
  have g0 := var_cell hgx 0
  have g1 := var_cell hgx 1
  have g2 := var_cell hgx 2
  have f0 := var_frozen hgx 0
  have f1 := var_frozen hgx 1
  have f2 := var_frozen hgx 2
  have hlw : w.heap.size < W1.heap.size := (Array.getElem?_eq_some_iff.1 hgx).1
  clear T rs
  have hbx2 : ∀ a b c, (((W1.setCell ⟨w.heap.size, 0, none⟩ a).setCell ⟨w.heap.size, 1, none⟩ b).setCell ⟨w.heap.size, 2, none⟩ c).heap[S]? = W1.heap[S]? := fun a b c => by
    rw [heap_setCell_other _ _ _ _ (fun e => hS e), heap_setCell_other _ _ _ _ (fun e => hS e), heap_setCell_other _ _ _ _ (fun e => hS e)]
  have HX := Lib.hid hbx2
  clear hbx2
  refine wpAnyL_writes [13, 14, 15] (by kernel_rfl) (LexW.cons rfl ?_)
  try go_frame
  go_wp2_with fail
  refine ⟨fun _ => (HX.out _ _ _).trans hbx, LexW.cons rfl ?_⟩
  try go_frame
  go_wp2_with fail
  refine ⟨fun _ => (HX.out _ _ _).trans hbx, LexW.cons rfl ?_⟩
  try go_frame
  go_wp2_with fail
  refine ⟨fun _ => (HX.out _ _ _).trans hbx, LexW.nil ?_⟩
  try go_frame
  go_wp2_with fail
  refine bodyPost_ret (v := .tuple #[.agg #[.int .i64 fk, .string fs, .int .i64 fst], .int .i64 fn, .int .i64 fc]) (by simp [results, Try.results135, go_sem, g0, g1, g2]) rfl ?_
  exact ⟨rfl, gz_store hlow _ _ _⟩
end Go.Proofs.Ytaigdioimldknaa
