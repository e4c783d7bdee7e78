/- A heap of numbers in a list, in plain facts: what up and down keep; the clients' places in the order of their arrival. -/
import Derived.Test.YtgdhhhibkhfdlaaAskRep
namespace Go.Proofs.Ytgdhhhibkhfdlaa
set_option linter.unusedVariables false

namespace HeapP
def nth (P : List Nat) (k : Nat) : Nat := P.getD k 0
def swp (P : List Nat) (i j : Nat) : List Nat := (P.set i (nth P j)).set j (nth P i)
theorem swp_length (P : List Nat) (i j : Nat) : (swp P i j).length = P.length := by simp [swp]
theorem nth_swp {P : List Nat} {i j : Nat} (hi : i < P.length) (hj : j < P.length) (k : Nat) : nth (swp P i j) k = if k = j then nth P i else if k = i then nth P j else nth P k := by
  unfold swp nth
  simp only [List.getD_eq_getElem?_getD, List.getElem?_set, List.length_set]
  by_cases h1 : k = j
  · subst h1; simp [hj]
  · rw [if_neg (fun e => h1 e.symm), if_neg h1]
    by_cases h2 : k = i
    · subst h2; simp [hi]
    · rw [if_neg (fun e => h2 e.symm), if_neg h2]
theorem nth_get {P : List Nat} {k : Nat} (h : k < P.length) : P[k]? = some (nth P k) := by
  unfold nth; simp [List.getD_eq_getElem?_getD, h]
theorem mem_nth {P : List Nat} {x : Nat} : x ∈ P ↔ ∃ k, k < P.length ∧ nth P k = x := by
  constructor
  · intro h
    obtain ⟨k, hk, he⟩ := List.getElem_of_mem h
    exact ⟨k, hk, by unfold nth; simp [List.getD_eq_getElem?_getD, hk, he]⟩
  · rintro ⟨k, hk, he⟩
    have := nth_get hk
    rw [he] at this
    exact List.mem_of_getElem? this
theorem mem_swp {P : List Nat} {i j : Nat} (hi : i < P.length) (hj : j < P.length) (x : Nat) : x ∈ swp P i j ↔ x ∈ P := by
  rw [mem_nth, mem_nth, swp_length]
  constructor
  · rintro ⟨k, hk, he⟩
    rw [nth_swp hi hj] at he
    by_cases h1 : k = j
    · rw [if_pos h1] at he; exact ⟨i, hi, he⟩
    · rw [if_neg h1] at he
      by_cases h2 : k = i
      · rw [if_pos h2] at he; exact ⟨j, hj, he⟩
      · rw [if_neg h2] at he; exact ⟨k, hk, he⟩
  · rintro ⟨k, hk, he⟩
    by_cases h1 : k = j
    · refine ⟨i, hi, ?_⟩
      rw [nth_swp hi hj]
      by_cases h2 : i = j
      · rw [if_pos h2, h2, ← h1]; exact he
      · rw [if_neg h2, if_pos rfl, ← h1]; exact he
    · by_cases h2 : k = i
      · refine ⟨j, hj, ?_⟩
        rw [nth_swp hi hj, if_pos rfl, ← h2]; exact he
      · refine ⟨k, hk, ?_⟩
        rw [nth_swp hi hj, if_neg h1, if_neg h2]; exact he
def Inj (P : List Nat) : Prop := ∀ a b, a < P.length → b < P.length → nth P a = nth P b → a = b
theorem inj_swp {P : List Nat} {i j : Nat} (h : Inj P) (hi : i < P.length) (hj : j < P.length) : Inj (swp P i j) := by
  have hs : ∀ k, nth (swp P i j) k = nth P (if k = j then i else if k = i then j else k) := by
    intro k
    rw [nth_swp hi hj]
    by_cases h1 : k = j
    · rw [if_pos h1, if_pos h1]
    · rw [if_neg h1, if_neg h1]
      by_cases h2 : k = i
      · rw [if_pos h2, if_pos h2]
      · rw [if_neg h2, if_neg h2]
  intro a b ha hb he
  rw [swp_length] at ha hb
  rw [hs, hs] at he
  have := h _ _ (by split <;> (try split) <;> omega) (by split <;> (try split) <;> omega) he
  (split at this <;> split at this <;> (try split at this) <;> (try split at this) <;> omega)

structure Ord (lt : Nat → Nat → Bool) : Prop where
  irr : ∀ a, lt a a = false
  tr : ∀ a b c, lt a b = true → lt b c = true → lt a c = true
  tot : ∀ a b, a ≠ b → lt a b = true ∨ lt b a = true
variable {lt : Nat → Nat → Bool}
theorem Ord.asym (O : Ord lt) {a b : Nat} (h : lt a b = true) : lt b a = false := by
  cases e : lt b a
  · rfl
  · have := O.tr _ _ _ h e; rw [O.irr] at this; cases this
/-- 'not less' goes through. -/
theorem Ord.nl (O : Ord lt) {a b c : Nat} (h1 : lt b a = false) (h2 : lt c b = false) : lt c a = false := by
  cases e : lt c a
  · rfl
  · by_cases hab : a = b
    · subst hab; rw [e] at h2; cases h2
    · rcases O.tot a b hab with h | h
      · have := O.tr _ _ _ e h; rw [this] at h2; cases h2
      · rw [h] at h1; cases h1
def Hp (lt : Nat → Nat → Bool) (P : List Nat) (n : Nat) : Prop := ∀ k, 0 < k → k < n → lt (nth P k) (nth P ((k - 1) / 2)) = false
def Up (lt : Nat → Nat → Bool) (P : List Nat) (j n : Nat) : Prop :=
  (∀ k, 0 < k → k < n → k ≠ j → lt (nth P k) (nth P ((k - 1) / 2)) = false) ∧ (0 < j → ∀ k, 0 < k → k < n → (k - 1) / 2 = j → lt (nth P k) (nth P ((j - 1) / 2)) = false)
def Dn (lt : Nat → Nat → Bool) (P : List Nat) (i n : Nat) : Prop :=
  (∀ k, 0 < k → k < n → (k - 1) / 2 ≠ i → lt (nth P k) (nth P ((k - 1) / 2)) = false) ∧ (0 < i → ∀ k, 0 < k → k < n → (k - 1) / 2 = i → lt (nth P k) (nth P ((i - 1) / 2)) = false)

theorem up_step (O : Ord lt) {P : List Nat} {j n : Nat} (h : Up lt P j n) (hj : j < n) (hn : n ≤ P.length) (h0 : 0 < j) (hl : lt (nth P j) (nth P ((j - 1) / 2)) = true) : Up lt (swp P ((j - 1) / 2) j) ((j - 1) / 2) n := by
  obtain ⟨i, hi⟩ : ∃ i, (j - 1) / 2 = i := ⟨_, rfl⟩
  rw [hi] at hl ⊢
  have hij : i < j := by omega
  have hiP : i < P.length := by omega
  have hjP : j < P.length := by omega
  refine ⟨fun k k0 kn ki => ?_, fun i0 k k0 kn kp => ?_⟩
  · rw [nth_swp hiP hjP, nth_swp hiP hjP]
    by_cases kj : k = j
    · subst kj
      rw [if_pos rfl, hi, if_neg (by omega), if_pos rfl]
      exact O.asym hl
    · rw [if_neg kj, if_neg ki]
      by_cases p1 : (k - 1) / 2 = j
      · rw [if_pos p1]
        have := h.2 h0 k k0 kn p1
        rw [hi] at this; exact this
      · rw [if_neg p1]
        have h1 := h.1 k k0 kn kj
        by_cases p2 : (k - 1) / 2 = i
        · rw [if_pos p2]
          rw [p2] at h1
          exact O.nl (O.asym hl) h1
        · rw [if_neg p2]; exact h1
  · have hg : lt (nth P i) (nth P ((i - 1) / 2)) = false := h.1 i i0 (by omega) (by omega)
    rw [nth_swp hiP hjP, nth_swp hiP hjP, if_neg (show ¬ (i - 1) / 2 = j by omega), if_neg (show ¬ (i - 1) / 2 = i by omega)]
    by_cases kj : k = j
    · rw [if_pos kj]; exact hg
    · rw [if_neg kj, if_neg (by omega)]
      have h1 := h.1 k k0 kn kj
      rw [kp] at h1
      exact O.nl hg h1
theorem up_end {P : List Nat} {j n : Nat} (h : Up lt P j n) (he : j = 0 ∨ lt (nth P j) (nth P ((j - 1) / 2)) = false) : Hp lt P n := by
  intro k k0 kn
  by_cases kj : k = j
  · subst kj
    rcases he with he | he
    · omega
    · exact he
  · exact h.1 k k0 kn kj
theorem nth_app {P : List Nat} {x k : Nat} (h : k < P.length) : nth (P ++ [x]) k = nth P k := by
  unfold nth; simp [List.getD_eq_getElem?_getD, List.getElem?_append_left h]
theorem nth_last (P : List Nat) (x : Nat) : nth (P ++ [x]) P.length = x := by
  unfold nth; simp [List.getD_eq_getElem?_getD]
theorem up_start {P : List Nat} (h : Hp lt P P.length) (x : Nat) : Up lt (P ++ [x]) P.length (P.length + 1) := by
  refine ⟨fun k k0 kn kj => ?_, fun _ k k0 kn kp => ?_⟩
  · rw [nth_app (by omega), nth_app (by omega)]
    exact h k k0 (by omega)
  · omega
theorem dn_start {P : List Nat} {n : Nat} (h : Hp lt P (n + 1)) (hn : n < P.length) : Dn lt (swp P 0 n) 0 n := by
  refine ⟨fun k k0 kn kp => ?_, fun h => absurd h (by omega)⟩
  rw [nth_swp (by omega) hn, nth_swp (by omega) hn, if_neg (by omega), if_neg (by omega), if_neg (by omega), if_neg kp]
  exact h k k0 (by omega)
theorem dn_step (O : Ord lt) {P : List Nat} {i j n : Nat} (h : Dn lt P i n) (hn : n ≤ P.length) (j0 : 0 < j) (hj : j < n) (hp : (j - 1) / 2 = i)
    (hm : ∀ k, 0 < k → k < n → (k - 1) / 2 = i → lt (nth P k) (nth P j) = false) (hl : lt (nth P j) (nth P i) = true) : Dn lt (swp P i j) j n := by
  have hiP : i < P.length := by omega
  have hjP : j < P.length := by omega
  refine ⟨fun k k0 kn kp => ?_, fun _ k k0 kn kp => ?_⟩
  · rw [nth_swp hiP hjP, nth_swp hiP hjP, if_neg kp]
    by_cases kj : k = j
    · subst kj
      rw [if_pos rfl, if_pos hp]
      exact O.asym hl
    · rw [if_neg kj]
      by_cases p2 : (k - 1) / 2 = i
      · rw [if_pos p2, if_neg (by omega)]
        exact hm k k0 kn p2
      · rw [if_neg p2]
        by_cases ki : k = i
        · subst ki
          rw [if_pos rfl]
          exact h.2 k0 j j0 hj hp
        · rw [if_neg ki]
          exact h.1 k k0 kn p2
  · rw [nth_swp hiP hjP, nth_swp hiP hjP, hp, if_neg (by omega), if_neg (by omega), if_neg (by omega), if_pos rfl]
    have := h.1 k k0 kn (by omega)
    rw [kp] at this
    exact this
theorem dn_end {P : List Nat} {i n : Nat} (h : Dn lt P i n) (he : ∀ k, 0 < k → k < n → (k - 1) / 2 = i → lt (nth P k) (nth P i) = false) : Hp lt P n := by
  intro k k0 kn
  by_cases kp : (k - 1) / 2 = i
  · rw [kp]; exact he k k0 kn kp
  · exact h.1 k k0 kn kp
theorem hp_min (O : Ord lt) {P : List Nat} {n : Nat} (h : Hp lt P n) : ∀ k, k < n → lt (nth P k) (nth P 0) = false := by
  intro k
  induction k using Nat.strongRecOn with
  | _ k ih =>
    intro hk
    by_cases k0 : k = 0
    · subst k0; exact O.irr _
    · exact O.nl (ih ((k - 1) / 2) (by omega) (by omega)) (h k (by omega) hk)
theorem hp_mono {P : List Nat} {m n : Nat} (h : Hp lt P n) (hm : m ≤ n) : Hp lt P m := fun k k0 kn => h k k0 (by omega)
theorem hp_congr {P Q : List Nat} {n : Nat} (h : Hp lt P n) (he : ∀ k, k < n → nth Q k = nth P k) : Hp lt Q n := by
  intro k k0 kn
  rw [he k kn, he _ (by omega)]; exact h k k0 kn

/-! ### the places still to come, in their order -/
def Srt (lt : Nat → Nat → Bool) (R : List Nat) : Prop := R.Pairwise (fun a b => lt a b = true)
structure Hs (lt : Nat → Nat → Bool) (P R : List Nat) : Prop where
  hp : Hp lt P P.length
  inj : Inj P
  mem : ∀ x, x ∈ P ↔ x ∈ R
  srt : Srt lt R
def ins (lt : Nat → Nat → Bool) (x : Nat) : List Nat → List Nat
  | [] => [x]
  | r :: R => if lt x r then x :: r :: R else r :: ins lt x R
theorem mem_ins (x y : Nat) : ∀ R, y ∈ ins lt x R ↔ y = x ∨ y ∈ R := by
  intro R
  induction R with
  | nil => simp [ins]
  | cons r R ih =>
    unfold ins
    split
    · simp
    · simp only [List.mem_cons, ih]; constructor <;> (rintro (h | h | h) <;> simp [h])
theorem srt_ins (O : Ord lt) (x : Nat) : ∀ R, Srt lt R → x ∉ R → Srt lt (ins lt x R) := by
  intro R
  induction R with
  | nil => intro _ _; simp [ins, Srt]
  | cons r R ih =>
    intro h hx
    obtain ⟨h1, h2⟩ := List.pairwise_cons.1 h
    have hxr : x ≠ r := fun e => hx (by simp [e])
    have hxR : x ∉ R := fun e => hx (by simp [e])
    unfold ins
    split
    · rename_i hl
      refine List.pairwise_cons.2 ⟨fun a ha => ?_, h⟩
      rcases List.mem_cons.1 ha with rfl | ha
      · exact hl
      · exact O.tr _ _ _ hl (h1 a ha)
    · rename_i hl
      refine List.pairwise_cons.2 ⟨fun a ha => ?_, ih h2 hxR⟩
      rcases (mem_ins x a R).1 ha with rfl | ha
      · rcases O.tot a r hxr with h | h
        · exact absurd h hl
        · exact h
      · exact h1 a ha
theorem inj_app {P : List Nat} {x : Nat} (h : Inj P) (hx : x ∉ P) : Inj (P ++ [x]) := by
  intro a b ha hb he
  simp at ha hb
  by_cases a1 : a = P.length <;> by_cases b1 : b = P.length
  · omega
  · rw [a1, nth_last, nth_app (by omega)] at he
    exact absurd (mem_nth.2 ⟨b, by omega, he.symm⟩) hx
  · rw [b1, nth_last, nth_app (by omega)] at he
    exact absurd (mem_nth.2 ⟨a, by omega, he⟩) hx
  · rw [nth_app (by omega), nth_app (by omega)] at he
    exact h a b (by omega) (by omega) he
/-- What push keeps: the row's content is a heap but for one place. -/
structure Us (lt : Nat → Nat → Bool) (P R : List Nat) (j : Nat) : Prop where
  up : Up lt P j P.length
  inj : Inj P
  mem : ∀ x, x ∈ P ↔ x ∈ R
  srt : Srt lt R
theorem Hs.push (O : Ord lt) {P R : List Nat} (h : Hs lt P R) {x : Nat} (hx : x ∉ R) : Us lt (P ++ [x]) (ins lt x R) P.length := by
  refine ⟨by rw [List.length_append]; exact up_start h.hp x, inj_app h.inj (fun e => hx ((h.mem x).1 e)), fun y => ?_, srt_ins O x R h.srt hx⟩
  rw [mem_ins, List.mem_append, h.mem]; simp [or_comm]
theorem Us.step (O : Ord lt) {P R : List Nat} {j : Nat} (h : Us lt P R j) (hj : j < P.length) (h0 : 0 < j) (hl : lt (nth P j) (nth P ((j - 1) / 2)) = true) : Us lt (swp P ((j - 1) / 2) j) R ((j - 1) / 2) :=
  ⟨by rw [swp_length]; exact up_step O h.up hj (Nat.le_refl _) h0 hl, inj_swp h.inj (by omega) hj, fun x => (mem_swp (by omega) hj x).trans (h.mem x), h.srt⟩
theorem Us.done {P R : List Nat} {j : Nat} (h : Us lt P R j) (he : j = 0 ∨ lt (nth P j) (nth P ((j - 1) / 2)) = false) : Hs lt P R := ⟨up_end h.up he, h.inj, h.mem, h.srt⟩
/-- What pop keeps: the first n are a heap but for one place, and x stands behind them. -/
structure Ds (lt : Nat → Nat → Bool) (P R : List Nat) (i n x : Nat) : Prop where
  dn : Dn lt P i n
  len : P.length = n + 1
  last : nth P n = x
  inj : Inj P
  mem : ∀ y, y ∈ P ↔ y = x ∨ y ∈ R
  srt : Srt lt R
  out : x ∉ R
theorem Hs.nil {P : List Nat} (h : Hs lt P []) : P = [] := by
  cases P with
  | nil => rfl
  | cons p P => exact absurd ((h.mem p).1 (by simp)) (by simp)
theorem Hs.pos {P R : List Nat} {r : Nat} (h : Hs lt P (r :: R)) : 0 < P.length := by
  cases P with
  | nil => exact absurd ((h.mem r).2 (by simp)) (by simp)
  | cons p P => simp
theorem Hs.first (O : Ord lt) {P R : List Nat} {r : Nat} (h : Hs lt P (r :: R)) : nth P 0 = r := by
  have hp := h.pos
  obtain ⟨k, hk, he⟩ := mem_nth.1 ((h.mem r).2 (by simp))
  have h1 := hp_min O h.hp k hk
  rw [he] at h1
  have h2 : nth P 0 ∈ r :: R := (h.mem _).1 (mem_nth.2 ⟨0, hp, rfl⟩)
  rcases List.mem_cons.1 h2 with h3 | h3
  · exact h3
  · have := (List.pairwise_cons.1 h.srt).1 _ h3
    rw [h1] at this; cases this
theorem Hs.pop (O : Ord lt) {P R : List Nat} {r n : Nat} (h : Hs lt P (r :: R)) (hn : P.length = n + 1) : Ds lt (swp P 0 n) R 0 n r := by
  have hr : r ∉ R := fun e => by
    have := (List.pairwise_cons.1 h.srt).1 _ e
    rw [O.irr] at this; cases this
  refine ⟨dn_start (by rw [← hn]; exact h.hp) (by omega), by rw [swp_length, hn], ?_, inj_swp h.inj (by omega) (by omega), fun y => ?_, (List.pairwise_cons.1 h.srt).2, hr⟩
  · rw [nth_swp (by omega) (by omega), if_pos rfl]; exact h.first O
  · rw [mem_swp (by omega) (by omega), h.mem]; simp
theorem Ds.step (O : Ord lt) {P R : List Nat} {i j n x : Nat} (h : Ds lt P R i n x) (j0 : 0 < j) (hj : j < n) (hp : (j - 1) / 2 = i)
    (hm : ∀ k, 0 < k → k < n → (k - 1) / 2 = i → lt (nth P k) (nth P j) = false) (hl : lt (nth P j) (nth P i) = true) : Ds lt (swp P i j) R j n x := by
  have := h.len
  refine ⟨dn_step O h.dn (by omega) j0 hj hp hm hl, by rw [swp_length]; exact h.len, ?_, inj_swp h.inj (by omega) (by omega), fun y => (mem_swp (by omega) (by omega) y).trans (h.mem y), h.srt, h.out⟩
  rw [nth_swp (by omega) (by omega), if_neg (by omega), if_neg (by omega)]; exact h.last
theorem Ds.done {P R : List Nat} {i n x : Nat} (h : Ds lt P R i n x) (he : ∀ k, 0 < k → k < n → (k - 1) / 2 = i → lt (nth P k) (nth P i) = false) : Hs lt (P.take n) R := by
  have hl := h.len
  have hlen : (P.take n).length = n := by simp; omega
  have hn : ∀ k, k < n → nth (P.take n) k = nth P k := by
    intro k hk; unfold nth; simp [List.getD_eq_getElem?_getD, hk]
  refine ⟨by rw [hlen]; exact hp_congr (dn_end h.dn he) hn, ?_, fun y => ?_, h.srt⟩
  · intro a b ha hb e
    rw [hlen] at ha hb
    rw [hn a ha, hn b hb] at e
    exact h.inj a b (by omega) (by omega) e
  · constructor
    · intro hy
      obtain ⟨k, hk, e⟩ := mem_nth.1 hy
      rw [hlen] at hk
      rw [hn k hk] at e
      rcases (h.mem y).1 (mem_nth.2 ⟨k, by omega, e⟩) with e2 | e2
      · have := h.inj k n (by omega) (by omega) (by rw [e, e2, h.last])
        omega
      · exact e2
    · intro hy
      obtain ⟨k, hk, e⟩ := mem_nth.1 ((h.mem y).2 (.inr hy))
      have hkn : k ≠ n := fun e2 => h.out (by rw [← h.last, ← e2, e]; exact hy)
      exact mem_nth.2 ⟨k, by omega, by rw [hn k (by omega)]; exact e⟩
theorem hs_nil : Hs lt [] [] := ⟨fun k k0 kn => by simp at kn, fun a b ha => by simp at ha, fun x => by simp, by simp [Srt]⟩
end HeapP

open HeapP

def tickA (xs : List Ak) (k : Nat) : Int := ((xs[k]?).map (·.ticket)).getD 0
def sockA (xs : List Ak) (k : Nat) : Int := ((xs[k]?).map (·.sock)).getD 0
def dbA (xs : List Ak) (k : Nat) : ByteArray := ((xs[k]?).map (·.db)).getD ⟨#[]⟩
theorem tickA_of {xs : List Ak} {k : Nat} {x : Ak} (h : xs[k]? = some x) : tickA xs k = x.ticket := by unfold tickA; rw [h]; rfl
theorem sockA_of {xs : List Ak} {k : Nat} {x : Ak} (h : xs[k]? = some x) : sockA xs k = x.sock := by unfold sockA; rw [h]; rfl
theorem dbA_of {xs : List Ak} {k : Nat} {x : Ak} (h : xs[k]? = some x) : dbA xs k = x.db := by unfold dbA; rw [h]; rfl
/-- Which of two places comes first: the lesser ticket, of equal ones the lesser place. -/
def ltA (xs : List Ak) (a b : Nat) : Bool := if tickA xs a = tickA xs b then decide (a < b) else decide (tickA xs a < tickA xs b)
theorem ltA_iff (xs : List Ak) (a b : Nat) : ltA xs a b = true ↔ tickA xs a < tickA xs b ∨ (tickA xs a = tickA xs b ∧ a < b) := by
  unfold ltA
  by_cases h : tickA xs a = tickA xs b
  · rw [if_pos h]; simp [h]
  · rw [if_neg h]; simp [h]
theorem ordA (xs : List Ak) : Ord (ltA xs) where
  irr := fun a => by
    cases e : ltA xs a a
    · rfl
    · have := (ltA_iff xs a a).1 e; omega
  tr := fun a b c h1 h2 => by rw [ltA_iff] at *; omega
  tot := fun a b h => by rw [ltA_iff, ltA_iff]; omega
/-- The places of the waiting ones among the first, in their order. -/
def srtA (xs : List Ak) : Nat → List Nat
  | 0 => []
  | i + 1 => match xs[i]? with
    | some a => if a.st = 2 then ins (ltA xs) i (srtA xs i) else srtA xs i
    | none => srtA xs i
theorem srtA_yes {xs : List Ak} {i : Nat} {a : Ak} (h : xs[i]? = some a) (hs : a.st = 2) : srtA xs (i + 1) = ins (ltA xs) i (srtA xs i) := by
  show (match xs[i]? with | some a => _ | none => _) = _
  rw [h]; simp [hs]
theorem srtA_no {xs : List Ak} {i : Nat} {a : Ak} (h : xs[i]? = some a) (hs : ¬ a.st = 2) : srtA xs (i + 1) = srtA xs i := by
  show (match xs[i]? with | some a => _ | none => _) = _
  rw [h]; simp [hs]
theorem srtA_mem (xs : List Ak) : ∀ i x, x ∈ srtA xs i ↔ x < i ∧ ∃ a, xs[x]? = some a ∧ a.st = 2 := by
  intro i
  induction i with
  | zero => intro x; simp [srtA]
  | succ i ih =>
    intro x
    cases h : xs[i]? with
    | none =>
      have e : srtA xs (i + 1) = srtA xs i := by
        show (match xs[i]? with | some a => _ | none => _) = _
        rw [h]
      rw [e, ih]
      constructor
      · rintro ⟨h1, h2⟩; exact ⟨by omega, h2⟩
      · rintro ⟨h1, a, h2, h3⟩
        refine ⟨?_, a, h2, h3⟩
        by_cases e : x = i
        · subst e; rw [h] at h2; cases h2
        · omega
    | some b =>
      by_cases hb : b.st = 2
      · rw [srtA_yes h hb, mem_ins, ih]
        constructor
        · rintro (rfl | ⟨h1, h2⟩)
          · exact ⟨by omega, b, h, hb⟩
          · exact ⟨by omega, h2⟩
        · rintro ⟨h1, h2⟩
          by_cases e : x = i
          · exact .inl e
          · exact .inr ⟨by omega, h2⟩
      · rw [srtA_no h hb, ih]
        constructor
        · rintro ⟨h1, h2⟩; exact ⟨by omega, h2⟩
        · rintro ⟨h1, a, h2, h3⟩
          refine ⟨?_, a, h2, h3⟩
          by_cases e : x = i
          · subst e; rw [h] at h2; cases h2; exact absurd h3 hb
          · omega
theorem srtA_new (xs : List Ak) (i : Nat) : i ∉ srtA xs i := fun h => by have := ((srtA_mem xs i i).1 h).1; omega
theorem srtA_srt (xs : List Ak) : ∀ i, Srt (ltA xs) (srtA xs i) := by
  intro i
  induction i with
  | zero => simp [srtA, Srt]
  | succ i ih =>
    cases h : xs[i]? with
    | none =>
      have e : srtA xs (i + 1) = srtA xs i := by
        show (match xs[i]? with | some a => _ | none => _) = _
        rw [h]
      rw [e]; exact ih
    | some b =>
      by_cases hb : b.st = 2
      · rw [srtA_yes h hb]; exact srt_ins (ordA xs) i _ ih (srtA_new xs i)
      · rw [srtA_no h hb]; exact ih
/-- Those of one database among them. -/
def ofDb (xs : List Ak) (db : ByteArray) (R : List Nat) : List Nat := R.filter (fun k => decide (dbA xs k = db))
def waitP (xs : List Ak) (db : ByteArray) : List Int := (ofDb xs db (srtA xs xs.length)).map (sockA xs)
theorem ins_all {lt : Nat → Nat → Bool} {x : Nat} : ∀ {R : List Nat}, (∀ r, r ∈ R → lt x r = true) → ins lt x R = x :: R := by
  intro R h
  cases R with
  | nil => rfl
  | cons r R => unfold ins; rw [if_pos (h r (by simp))]
theorem filter_ins {lt : Nat → Nat → Bool} (O : Ord lt) (f : Nat → Bool) (x : Nat) : ∀ R, Srt lt R → (ins lt x R).filter f = if f x then ins lt x (R.filter f) else R.filter f := by
  intro R
  induction R with
  | nil => intro _; by_cases hf : f x <;> simp [ins, hf]
  | cons r R ih =>
    intro h
    obtain ⟨h1, h2⟩ := List.pairwise_cons.1 h
    by_cases hl : lt x r = true
    · have e : ins lt x (r :: R) = x :: r :: R := by unfold ins; rw [if_pos hl]
      rw [e]
      have hall : ∀ y, y ∈ (r :: R).filter f → lt x y = true := by
        intro y hy
        rcases List.mem_cons.1 (List.mem_filter.1 hy).1 with rfl | hy
        · exact hl
        · exact O.tr _ _ _ hl (h1 y hy)
      by_cases hf : f x = true
      · rw [if_pos hf, ins_all hall, List.filter_cons_of_pos hf]
      · rw [if_neg hf, List.filter_cons_of_neg hf]
    · have e : ins lt x (r :: R) = r :: ins lt x R := by show (if _ then _ else _) = _; rw [if_neg hl]
      rw [e]
      by_cases hr : f r = true
      · rw [List.filter_cons_of_pos hr, List.filter_cons_of_pos hr, ih h2]
        by_cases hf : f x = true
        · rw [if_pos hf, if_pos hf]; show _ = (if _ then _ else _); rw [if_neg hl]
        · rw [if_neg hf, if_neg hf]
      · rw [List.filter_cons_of_neg hr, List.filter_cons_of_neg hr, ih h2]
theorem ofDb_yes {xs : List Ak} {db : ByteArray} {i : Nat} {a : Ak} (h : xs[i]? = some a) (hs : a.st = 2) (hd : a.db = db) : ofDb xs db (srtA xs (i + 1)) = ins (ltA xs) i (ofDb xs db (srtA xs i)) := by
  unfold ofDb
  rw [srtA_yes h hs, filter_ins (ordA xs) _ _ _ (srtA_srt xs i), if_pos (by rw [dbA_of h]; simp [hd])]
theorem ofDb_no {xs : List Ak} {db : ByteArray} {i : Nat} {a : Ak} (h : xs[i]? = some a) (hd : ¬ a.st = 2 ∨ ¬ a.db = db) : ofDb xs db (srtA xs (i + 1)) = ofDb xs db (srtA xs i) := by
  unfold ofDb
  by_cases hs : a.st = 2
  · rw [srtA_yes h hs, filter_ins (ordA xs) _ _ _ (srtA_srt xs i), if_neg (by rw [dbA_of h]; simp; rcases hd with hd | hd; exact absurd hs hd; exact hd)]
  · rw [srtA_no h hs]
theorem ofDb_srt (xs : List Ak) (db : ByteArray) (i : Nat) : Srt (ltA xs) (ofDb xs db (srtA xs i)) := List.Pairwise.sublist List.filter_sublist (srtA_srt xs i)
theorem ofDb_lt {xs : List Ak} {db : ByteArray} {i r : Nat} (h : r ∈ ofDb xs db (srtA xs i)) : r < i := ((srtA_mem xs i r).1 (List.mem_filter.1 h).1).1
/-- Where the new one goes. -/
theorem ins_at {lt : Nat → Nat → Bool} {x : Nat} : ∀ {R : List Nat} {k : Nat}, (∀ r, r ∈ R.take k → lt x r = false) → (∀ r, r ∈ R.drop k → lt x r = true) → ins lt x R = R.take k ++ x :: R.drop k := by
  intro R
  induction R with
  | nil => intro k _ _; simp [ins]
  | cons r R ih =>
    intro k h1 h2
    cases k with
    | zero => exact (ins_all h2).trans rfl
    | succ k =>
      have : lt x r = false := h1 r (by simp)
      show (if _ then _ else _) = _
      rw [if_neg (by rw [this]; simp), ih (k := k) (fun y hy => h1 y (by simp [hy])) (fun y hy => h2 y (by simpa using hy))]
      simp
theorem lt_new {xs : List Ak} {i r : Nat} (h : r < i) : ltA xs i r = decide (tickA xs i < tickA xs r) := by
  rw [Bool.eq_iff_iff, ltA_iff]; simp; omega
/-- The model's place: all behind it come later; and the one before it, if there is one, doesn't. -/
theorem ofDb_at {xs : List Ak} {db : ByteArray} {i k : Nat} {a : Ak} (h : xs[i]? = some a) (hs : a.st = 2) (hd : a.db = db)
    (h1 : ∀ t, t ∈ ((ofDb xs db (srtA xs i)).map (tickA xs)).drop k → a.ticket < t) (h2 : k = 0 ∨ ∃ t, ((ofDb xs db (srtA xs i)).map (tickA xs))[k - 1]? = some t ∧ t ≤ a.ticket) :
    ofDb xs db (srtA xs (i + 1)) = (ofDb xs db (srtA xs i)).take k ++ i :: (ofDb xs db (srtA xs i)).drop k := by
  rw [ofDb_yes h hs hd]
  have hS := ofDb_srt xs db i
  have hL : ∀ r, r ∈ ofDb xs db (srtA xs i) → r < i := fun r hr => ofDb_lt hr
  generalize ofDb xs db (srtA xs i) = R at *
  refine ins_at (fun r hr => ?_) (fun r hr => ?_)
  · rw [lt_new (hL r (List.mem_of_mem_take hr)), tickA_of h]
    rcases h2 with h2 | ⟨t, h2, h3⟩
    · subst h2; simp at hr
    · obtain ⟨j, hj, e⟩ := List.getElem_of_mem hr
      rw [List.getElem_take] at e
      rw [List.length_take] at hj
      rw [List.getElem?_map] at h2
      obtain ⟨p, hp, hpt⟩ := Option.map_eq_some_iff.1 h2
      obtain ⟨hk, hp⟩ := List.getElem?_eq_some_iff.1 hp
      have : tickA xs r ≤ tickA xs p := by
        by_cases e2 : j = k - 1
        · subst e2; rw [e] at hp; rw [hp]; exact Int.le_refl _
        · have := List.pairwise_iff_getElem.1 hS j (k - 1) (by omega) hk (by omega)
          rw [e, hp, ltA_iff] at this
          omega
      simp; omega
  · rw [lt_new (hL r (List.mem_of_mem_drop hr)), tickA_of h]
    simp only [decide_eq_true_eq]
    refine h1 _ ?_
    rw [← List.map_drop]
    exact List.mem_map.2 ⟨r, hr, rfl⟩

end Go.Proofs.Ytgdhhhibkhfdlaa
