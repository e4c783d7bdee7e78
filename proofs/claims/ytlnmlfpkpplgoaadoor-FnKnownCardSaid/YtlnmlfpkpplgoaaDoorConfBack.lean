/- A configuration's text, read, is the configuration; a text that is read is the configuration's text. In plain lists. -/
import Derived.Test.YtlnmlfpkpplgoaaDoorParsePure
import Derived.Test.YtlnmlfpkpplgoaaDoorNumPlain
import Derived.Test.YtlnmlfpkpplgoaaDoorConfTextS
namespace Go.Proofs.YtlnmlfpkpplgoaaDoor
open Go.RowKit
set_option maxRecDepth 100000
set_option linter.unusedVariables false

theorem db_back {p : List UInt8} {x : Db} (h : dbOf p = some x) : dbL x = p := by
  unfold dbOf at h
  split at h
  · rename_i n r h58
    split at h
    · rename_i a b c d h47
      obtain ⟨⟨oa, ob, oc, od⟩, rfl⟩ := mk5_some h
      have en : p = n ++ 58 :: r := by
        rcases split_cons h58 with ⟨h0, _⟩ | ⟨r', e, _, h2⟩
        · cases h0
        · rcases split_cons h2 with ⟨_, e2, _⟩ | ⟨r2, _, _, h3⟩
          · rw [e, e2]
          · exact absurd h3 (split_ne _ _)
      have er : r = a ++ 47 :: (b ++ 47 :: (c ++ 47 :: d)) := by
        rcases split_cons h47 with ⟨h0, _⟩ | ⟨r1, e1, _, h1⟩
        · cases h0
        rcases split_cons h1 with ⟨h0, _⟩ | ⟨r2, e2, _, h2⟩
        · cases h0
        rcases split_cons h2 with ⟨h0, _⟩ | ⟨r3, e3, _, h3⟩
        · cases h0
        rcases split_cons h3 with ⟨_, e4, _⟩ | ⟨r4, _, _, h4⟩
        · rw [e1, e2, e3, e4]
        · exact absurd h4 (split_ne _ _)
      subst en er
      unfold dbL
      simp only [(pn_back oa).1, (pn_back ob).1, (pn_back oc).1, (pn_back od).1]
      simp
    · cases h
  · cases h

theorem itoa_99 {n : Int} (h0 : 0 ≤ n) (h1 : n ≤ 20) : pnOk (Lib.itoa n) 99 = true ∧ pnVal (Lib.itoa n) 99 = n := by
  obtain ⟨e1, e2⟩ := pn_itoa n
  have k1 : pnOk (Lib.itoa n) 65535 = true := by rw [e1]; exact decide_eq_true ⟨h0, by omega⟩
  have k2 := e2 h0 (by omega)
  obtain ⟨k3, k4⟩ := pn_down k1 (by omega)
  exact ⟨k3, k4.trans k2⟩

theorem dbOf_text {x : Db} (hx : dbB x = true) : dbOf (dbL x) = some x ∧ 59 ∉ dbL x ∧ (dbL x).length ≤ 32 := by
  obtain ⟨hn, _⟩ := dbB_parts hx
  obtain ⟨_, ⟨s1, s1'⟩, ⟨s2, s2'⟩, ⟨s3, s3'⟩, ⟨s4, s4'⟩⟩ := small_of hx
  obtain ⟨a1, a2⟩ := itoa_99 s1 s1'
  obtain ⟨b1, b2⟩ := itoa_99 s2 s2'
  obtain ⟨c1, c2⟩ := itoa_99 s3 s3'
  obtain ⟨d1, d2⟩ := itoa_99 s4 s4'
  obtain ⟨fn, ln⟩ := name_free hn
  have fa := pn_free a1
  have fb := pn_free b1
  have fc := pn_free c1
  have fd := pn_free d1
  have la := pn_len a1
  have lb := pn_len b1
  have lc := pn_len c1
  have ld := pn_len d1
  have e0 : dbL x = x.name.data.toList ++ 58 :: (Lib.itoa x.size ++ 47 :: (Lib.itoa x.queue ++ 47 :: (Lib.itoa x.wait ++ 47 :: Lib.itoa x.idle))) := by simp [dbL]
  have m1 : (58 : UInt8) ∉ Lib.itoa x.size ++ 47 :: (Lib.itoa x.queue ++ 47 :: (Lib.itoa x.wait ++ 47 :: Lib.itoa x.idle)) := by
    simp only [List.mem_append, List.mem_cons, not_or]
    exact ⟨fa.not (by decide), by decide, fb.not (by decide), by decide, fc.not (by decide), by decide, fd.not (by decide)⟩
  have e1 : splitB 58 [] (dbL x) = [x.name.data.toList, Lib.itoa x.size ++ 47 :: (Lib.itoa x.queue ++ 47 :: (Lib.itoa x.wait ++ 47 :: Lib.itoa x.idle))] := by
    rw [e0, split_some (fn.not (by decide)), split_none m1]
    simp
  have e2 : splitB 47 [] (Lib.itoa x.size ++ 47 :: (Lib.itoa x.queue ++ 47 :: (Lib.itoa x.wait ++ 47 :: Lib.itoa x.idle))) = [Lib.itoa x.size, Lib.itoa x.queue, Lib.itoa x.wait, Lib.itoa x.idle] := by
    rw [split_some (fa.not (by decide)), split_some (fb.not (by decide)), split_some (fc.not (by decide)), split_none (fd.not (by decide))]
    simp
  refine ⟨?_, ?_, ?_⟩
  · unfold dbOf
    rw [e1]
    simp only []
    rw [e2]
    simp only []
    rw [mk5_of a1 b1 c1 d1, a2, b2, c2, d2]
  · rw [e0]
    simp only [List.mem_append, List.mem_cons, not_or]
    exact ⟨fn.not (by decide), by decide, fa.not (by decide), by decide, fb.not (by decide), by decide, fc.not (by decide), by decide, fd.not (by decide)⟩
  · rw [e0]
    simp at ln ⊢
    omega

theorem all_back : ∀ (l : List (List UInt8)) (xs : List Db), allOf dbOf l = some xs → xs.map dbL = l := by
  intro l
  induction l with
  | nil => intro xs h; cases h; rfl
  | cons p r ih =>
    intro xs h
    obtain ⟨d, ys, hd, hy, rfl⟩ := all_cons h
    rw [List.map_cons, db_back hd, ih ys hy]
theorem all_text : ∀ (xs : List Db), (∀ d, d ∈ xs → dbB d = true) → allOf dbOf (xs.map dbL) = some xs := by
  intro xs
  induction xs with
  | nil => intro _; rfl
  | cons d r ih =>
    intro h
    rw [List.map_cons]
    exact all_mk (dbOf_text (h d (by simp))).1 (ih fun z hz => h z (by simp [hz]))

theorem join_two (x y : List UInt8) (r : List (List UInt8)) (c : UInt8) : Lib.join (x :: y :: r) [c] = x ++ c :: Lib.join (y :: r) [c] := by
  rw [Lib.join_cons, Lib.join_cons]
  simp [Lib.joinTail]
theorem split_join (c : UInt8) : ∀ (l : List (List UInt8)), l ≠ [] → (∀ p, p ∈ l → c ∉ p) → splitB c [] (Lib.join l [c]) = l := by
  intro l
  induction l with
  | nil => intro h; exact absurd rfl h
  | cons x r ih =>
    intro _ h
    cases r with
    | nil => rw [Lib.join_one, split_none (h x (by simp))]; simp
    | cons y r =>
      rw [join_two, split_some (h x (by simp)), ih (by simp) (fun p hp => h p (by simp only [List.mem_cons] at hp ⊢; exact .inr hp))]
      simp
theorem join_split (c : UInt8) : ∀ (n : Nat) (s : List UInt8), s.length ≤ n → Lib.join (splitB c [] s) [c] = s := by
  intro n
  induction n with
  | zero =>
    intro s h
    obtain rfl : s = [] := List.eq_nil_of_length_eq_zero (by omega)
    rfl
  | succ n ih =>
    intro s hl
    rcases cut_at c s with h0 | ⟨x, r, rfl, h0⟩
    · rw [split_none h0, Lib.join_one]; simp
    · rw [split_some h0, List.nil_append]
      have hr := ih r (by simp at hl; omega)
      cases hs : splitB c [] r with
      | nil => exact absurd hs (split_ne _ _)
      | cons y l => rw [join_two, ← hs, hr]

theorem parse_back {s : List UInt8} {xs : List Db} (h : parseS s = (xs, true)) : confB xs = true ∧ Lib.join (xs.map dbL) [59] = s := by
  unfold parseS at h
  split at h
  · injection h with _ h; cases h
  · cases ha : allOf dbOf (splitB 59 [] s) with
    | none => rw [ha] at h; unfold okOf at h; injection h with _ h; cases h
    | some ys =>
      rw [ha] at h
      unfold okOf at h
      simp only [] at h
      split at h
      · rename_i hc
        injection h with h _
        subst h
        exact ⟨hc, by rw [all_back _ _ ha]; exact join_split 59 _ s (Nat.le_refl _)⟩
      · injection h with _ h; cases h

theorem join_le3 {l : List (List UInt8)} (h : ∀ p, p ∈ l → p.length ≤ 32) (h3 : l.length ≤ 3) : (Lib.join l [59]).length ≤ 100 := by
  rcases l with _ | ⟨a, _ | ⟨b, _ | ⟨c, _ | ⟨d, l⟩⟩⟩⟩
  · simp [Lib.join_nil]
  · rw [Lib.join_one]; have := h a (by simp); omega
  · rw [join_two, Lib.join_one]; have := h a (by simp); have := h b (by simp); simp; omega
  · rw [join_two, join_two, Lib.join_one]; have := h a (by simp); have := h b (by simp); have := h c (by simp); simp; omega
  · simp at h3

theorem parse_text {xs : List Db} (h : confB xs = true) : parseS (Lib.join (xs.map dbL) [59]) = (xs, true) := by
  obtain ⟨hd, hl⟩ := conf_dbs h
  have h1 : 1 ≤ xs.length := (confB_good h).1.1
  have hp : ∀ p, p ∈ xs.map dbL → ∃ d, d ∈ xs ∧ dbL d = p := fun p hp => by simpa using hp
  have hlen := join_le3 (l := xs.map dbL) (fun p hp' => by obtain ⟨d, hm, rfl⟩ := hp p hp'; exact (dbOf_text (hd d hm)).2.2) (by simpa using hl)
  unfold parseS
  rw [if_neg (by omega), split_join 59 _ (by intro e; have := congrArg List.length e; simp at this; simp [this] at h1) (fun p hp' => by obtain ⟨d, hm, rfl⟩ := hp p hp'; exact (dbOf_text (hd d hm)).2.1)]
  exact okOf_yes (all_text xs hd) h

/-- What may stand in a configuration's text may stand in a text. -/
theorem low_in {b : UInt8} (h : lowB b = true) : inB b = true := by
  unfold lowB at h
  have := of_decide_eq_true h
  unfold inB
  simp; omega
theorem dig_in {b : UInt8} (h : isDg b = true) : inB b = true := by
  have := isDg_bd h
  unfold inB
  simp; omega
theorem itoa_in {n : Int} (h0 : 0 ≤ n) (h1 : n ≤ 20) : ∀ b, b ∈ Lib.itoa n → inB b = true := by
  have h := (itoa_99 h0 h1).1
  unfold pnOk at h
  have h5 := (of_decide_eq_true h).2.2.2.2.1
  exact fun b hb => dig_in (List.all_eq_true.1 h5 b hb)
theorem dbL_in {x : Db} (hx : dbB x = true) : ∀ b, b ∈ dbL x → inB b = true := by
  obtain ⟨hn, _⟩ := dbB_parts hx
  obtain ⟨_, ⟨s1, s1'⟩, ⟨s2, s2'⟩, ⟨s3, s3'⟩, ⟨s4, s4'⟩⟩ := small_of hx
  unfold nameB at hn
  rw [Bool.and_eq_true] at hn
  intro b hb
  simp only [dbL, List.mem_append, List.mem_singleton] at hb
  rcases hb with (((((((hb | rfl) | hb) | rfl) | hb) | rfl) | hb) | rfl) | hb
  · exact low_in (List.all_eq_true.1 hn.2 b hb)
  · decide
  · exact itoa_in s1 s1' b hb
  · decide
  · exact itoa_in s2 s2' b hb
  · decide
  · exact itoa_in s3 s3' b hb
  · decide
  · exact itoa_in s4 s4' b hb
theorem join_in (c : UInt8) (hc : inB c = true) : ∀ (l : List (List UInt8)), (∀ p, p ∈ l → ∀ b, b ∈ p → inB b = true) → ∀ b, b ∈ Lib.join l [c] → inB b = true := by
  intro l
  induction l with
  | nil => intro _ b hb; simp [Lib.join_nil] at hb
  | cons x r ih =>
    intro h b hb
    cases r with
    | nil => rw [Lib.join_one] at hb; exact h x (by simp) b hb
    | cons y r =>
      rw [join_two, List.mem_append, List.mem_cons] at hb
      rcases hb with hb | rfl | hb
      · exact h x (by simp) b hb
      · exact hc
      · exact ih (fun p hp => h p (by simp only [List.mem_cons] at hp ⊢; exact .inr hp)) b hb
theorem parse_ok {s : List UInt8} {xs : List Db} (h : parseS s = (xs, true)) : okB s = true := by
  have hl : s.length ≤ 100 := by
    unfold parseS at h
    split at h
    · injection h with _ h; cases h
    · omega
  obtain ⟨hc, rfl⟩ := parse_back h
  obtain ⟨hd, _⟩ := conf_dbs hc
  unfold okB
  rw [Bool.and_eq_true]
  refine ⟨decide_eq_true hl, List.all_eq_true.2 (join_in 59 (by decide) _ fun p hp b hb => ?_)⟩
  obtain ⟨d, hm, rfl⟩ := List.mem_map.1 hp
  exact dbL_in (hd d hm) b hb

end Go.Proofs.YtlnmlfpkpplgoaaDoor
