/- Two readings of a text as databases, in plain lists: by splitting, and mark by mark: they agree. The two readings of a text agree. -/
import Derived.Test.YtlnmlfpkpplgoaaDoorConfOkS
import Derived.Test.YtlnmlfpkpplgoaaDoorDec
namespace Go.Proofs.YtlnmlfpkpplgoaaDoor
open Go.RowKit
set_option maxRecDepth 100000
set_option linter.unusedVariables false

def isMk (b : UInt8) : Bool := b == 58 || b == 47 || b == 59
def mkOf (n : Nat) : UInt8 := if n = 0 then 58 else if n = 4 then 59 else 47
def splitB (c : UInt8) : List UInt8 → List UInt8 → List (List UInt8)
  | cur, [] => [cur]
  | cur, b :: r => if b = c then cur :: splitB c [] r else splitB c (cur ++ [b]) r

theorem splitB_cons (c b : UInt8) (cur r : List UInt8) : splitB c cur (b :: r) = if b = c then cur :: splitB c [] r else splitB c (cur ++ [b]) r := rfl
theorem split_none {c : UInt8} : ∀ {p cur : List UInt8}, c ∉ p → splitB c cur p = [cur ++ p] := by
  intro p
  induction p with
  | nil => intro cur _; simp [splitB]
  | cons b r ih =>
    intro cur h
    have h1 : b ≠ c := fun e => h (by simp [e])
    have h2 : c ∉ r := fun e => h (by simp [e])
    rw [splitB_cons, if_neg h1, ih h2]
    simp
theorem split_some {c : UInt8} : ∀ {p cur r : List UInt8}, c ∉ p → splitB c cur (p ++ c :: r) = (cur ++ p) :: splitB c [] r := by
  intro p
  induction p with
  | nil => intro cur r _; simp [splitB]
  | cons b q ih =>
    intro cur r h
    have h1 : b ≠ c := fun e => h (by simp [e])
    have h2 : c ∉ q := fun e => h (by simp [e])
    rw [List.cons_append]
    rw [splitB_cons, if_neg h1, ih h2]
    simp
theorem cut_at (c : UInt8) : ∀ p : List UInt8, c ∉ p ∨ ∃ x r, p = x ++ c :: r ∧ c ∉ x := by
  intro p
  induction p with
  | nil => exact .inl (by simp)
  | cons b q ih =>
    by_cases hb : b = c
    · exact .inr ⟨[], q, by simp [hb], by simp⟩
    · rcases ih with h | ⟨x, r, h, hx⟩
      · exact .inl fun e => by
          rcases List.mem_cons.1 e with e | e
          · exact hb e.symm
          · exact h e
      · exact .inr ⟨b :: x, r, by simp [h], fun e => by
          rcases List.mem_cons.1 e with e | e
          · exact hb e.symm
          · exact hx e⟩
/-- The first part of a split. -/
theorem split_cons {c : UInt8} {p x : List UInt8} {l : List (List UInt8)} (h : splitB c [] p = x :: l) : (l = [] ∧ p = x ∧ c ∉ x) ∨ ∃ r, p = x ++ c :: r ∧ c ∉ x ∧ splitB c [] r = l := by
  rcases cut_at c p with h0 | ⟨y, r, rfl, hy⟩
  · rw [split_none h0] at h
    injection h with h1 h2
    simp only [List.nil_append] at h1
    exact .inl ⟨h2.symm, h1, h1 ▸ h0⟩
  · rw [split_some hy] at h
    injection h with h1 h2
    simp only [List.nil_append] at h1
    subst h1
    exact .inr ⟨r, rfl, hy, h2⟩
theorem split_ne (c : UInt8) (p : List UInt8) : splitB c [] p ≠ [] := by
  rcases cut_at c p with h0 | ⟨y, r, rfl, hy⟩
  · rw [split_none h0]; simp
  · rw [split_some hy]; simp

def mk5 (most : Int) (n a b c d : List UInt8) : Option Db :=
  if pnOk a most && pnOk b most && pnOk c most && pnOk d most then some ⟨⟨n.toArray⟩, pnVal a most, pnVal b most, pnVal c most, pnVal d most⟩ else none
def dbOf (p : List UInt8) : Option Db :=
  match splitB 58 [] p with
  | [n, r] => match splitB 47 [] r with
    | [a, b, c, d] => mk5 99 n a b c d
    | _ => none
  | _ => none
def allOf (f : List UInt8 → Option Db) : List (List UInt8) → Option (List Db)
  | [] => some []
  | p :: r => match f p with
    | none => none
    | some d => match allOf f r with
      | none => none
      | some xs => some (d :: xs)
noncomputable def okOf (o : Option (List Db)) : List Db × Bool := match o with
  | some xs => if confB xs = true then (xs, true) else ([], false)
  | none => ([], false)
/-- The model's reading. -/
noncomputable def parseS (s : List UInt8) : List Db × Bool := if 100 < s.length then ([], false) else okOf (allOf dbOf (splitB 59 [] s))

def endDb (ps : List (List UInt8)) : Option Db := match ps with
  | [n, a, b, c, d] => mk5 65535 n a b c d
  | _ => none
def runC : List UInt8 → List UInt8 → List (List UInt8) → List Db → Option (List Db)
  | [], _, _, dbs => some dbs
  | b :: r, cur, ps, dbs =>
    if isMk b = false then runC r (cur ++ [b]) ps dbs
    else if b ≠ mkOf ps.length then none
    else if b = 59 then match endDb (ps ++ [cur]) with
      | none => none
      | some d => runC r [] [] (dbs ++ [d])
    else runC r [] (ps ++ [cur]) dbs
/-- The program's reading. -/
noncomputable def parseI (s : List UInt8) : List Db × Bool := okOf (runC (s ++ [59]) [] [] [])

/-- A part without ';', mark by mark. -/
def chunk : List UInt8 → List UInt8 → List (List UInt8) → Option (List (List UInt8))
  | [], cur, ps => if ps.length = 4 then some (ps ++ [cur]) else none
  | b :: r, cur, ps => if isMk b = false then chunk r (cur ++ [b]) ps else if b ≠ mkOf ps.length then none else chunk r [] (ps ++ [cur])
def oneI (p : List UInt8) : Option Db := match chunk p [] [] with
  | none => none
  | some ps => endDb ps

theorem runC_cons (b : UInt8) (r cur : List UInt8) (ps : List (List UInt8)) (dbs : List Db) : runC (b :: r) cur ps dbs = if isMk b = false then runC r (cur ++ [b]) ps dbs
    else if b ≠ mkOf ps.length then none
    else if b = 59 then match endDb (ps ++ [cur]) with
      | none => none
      | some d => runC r [] [] (dbs ++ [d])
    else runC r [] (ps ++ [cur]) dbs := rfl
theorem chunk_nil (cur : List UInt8) (ps : List (List UInt8)) : chunk [] cur ps = if ps.length = 4 then some (ps ++ [cur]) else none := rfl
theorem chunk_cons (b : UInt8) (r cur : List UInt8) (ps : List (List UInt8)) : chunk (b :: r) cur ps = if isMk b = false then chunk r (cur ++ [b]) ps else if b ≠ mkOf ps.length then none else chunk r [] (ps ++ [cur]) := rfl
theorem mk_semi (n : Nat) : 59 ≠ mkOf n ↔ n ≠ 4 := by
  unfold mkOf
  split
  · rename_i h; subst h; simp
  · split
    · rename_i h; subst h; simp
    · rename_i h; simp [h]
theorem run_chunk : ∀ {p cur : List UInt8} {ps : List (List UInt8)} {dbs : List Db} {r : List UInt8}, 59 ∉ p → runC (p ++ 59 :: r) cur ps dbs = match chunk p cur ps with
    | none => none
    | some qs => match endDb qs with
      | none => none
      | some d => runC r [] [] (dbs ++ [d]) := by
  intro p
  induction p with
  | nil =>
    intro cur ps dbs r _
    rw [List.nil_append]
    rw [runC_cons, chunk_nil, if_neg (by decide)]
    by_cases h4 : ps.length = 4
    · rw [if_neg (fun h => (mk_semi _).1 h h4), if_pos rfl, if_pos h4]
    · rw [if_pos ((mk_semi _).2 h4), if_neg h4]
  | cons b q ih =>
    intro cur ps dbs r h
    have h1 : b ≠ 59 := fun e => h (by simp [e])
    have h2 : 59 ∉ q := fun e => h (by simp [e])
    rw [List.cons_append, runC_cons, chunk_cons]
    by_cases hm : isMk b = false
    · rw [if_pos hm, if_pos hm]; exact ih h2
    · rw [if_neg hm, if_neg hm]
      by_cases hk : b ≠ mkOf ps.length
      · rw [if_pos hk, if_pos hk]
      · rw [if_neg hk, if_neg hk, if_neg h1]; exact ih h2
theorem run_all : ∀ (n : Nat) (s : List UInt8) (dbs : List Db), s.length ≤ n → runC (s ++ [59]) [] [] dbs = match allOf oneI (splitB 59 [] s) with
    | none => none
    | some xs => some (dbs ++ xs) := by
  intro n
  induction n with
  | zero =>
    intro s dbs h
    obtain rfl : s = [] := List.eq_nil_of_length_eq_zero (by omega)
    rfl
  | succ n ih =>
    intro s dbs h
    rcases cut_at 59 s with h0 | ⟨x, r, rfl, hx⟩
    · rw [split_none h0, run_chunk (r := []) h0]
      simp only [List.nil_append, allOf, oneI]
      cases chunk s [] [] with
      | none => rfl
      | some qs =>
        cases h5 : endDb qs with
        | none => simp only [h5]
        | some d => simp only [h5]; rfl
    · rw [split_some hx, List.append_assoc, List.cons_append, run_chunk hx]
      have hl : r.length ≤ n := by simp at h; omega
      simp only [List.nil_append, allOf, oneI]
      cases chunk x [] [] with
      | none => rfl
      | some qs =>
        cases h5 : endDb qs with
        | none => simp only [h5]
        | some d =>
          simp only [h5]
          rw [ih r _ hl]
          cases allOf oneI (splitB 59 [] r) with
          | none => rfl
          | some xs => simp

/-! ### one part -/
def NoMk (x : List UInt8) : Prop := x.all (fun b => !isMk b) = true
theorem NoMk.not {x : List UInt8} (h : NoMk x) {c : UInt8} (hc : isMk c = true) : c ∉ x := fun e => by
  have := List.all_eq_true.1 h c e
  simp [hc] at this
theorem chunk_free : ∀ {x cur : List UInt8} {ps : List (List UInt8)}, NoMk x → chunk x cur ps = if ps.length = 4 then some (ps ++ [cur ++ x]) else none := by
  intro x
  induction x with
  | nil => intro cur ps _; simp [chunk]
  | cons b q ih =>
    intro cur ps h
    unfold NoMk at h
    rw [List.all_cons, Bool.and_eq_true] at h
    have hb : isMk b = false := by simpa using h.1
    rw [chunk_cons, if_pos hb, ih (show NoMk q from h.2)]
    simp
theorem chunk_mark : ∀ {x cur : List UInt8} {m : UInt8} {r : List UInt8} {ps : List (List UInt8)}, NoMk x → isMk m = true → chunk (x ++ m :: r) cur ps = if m ≠ mkOf ps.length then none else chunk r [] (ps ++ [cur ++ x]) := by
  intro x
  induction x with
  | nil =>
    intro cur m r ps _ hm
    rw [List.nil_append, chunk_cons, if_neg (by simp [hm]), List.append_nil]
  | cons b q ih =>
    intro cur m r ps h hm
    unfold NoMk at h
    rw [List.all_cons, Bool.and_eq_true] at h
    have hb : isMk b = false := by simpa using h.1
    rw [List.cons_append]
    rw [chunk_cons, if_pos hb, ih (show NoMk q from h.2) hm]
    simp
theorem cut_mark : ∀ p : List UInt8, NoMk p ∨ ∃ x m r, p = x ++ m :: r ∧ NoMk x ∧ isMk m = true := by
  intro p
  induction p with
  | nil => exact .inl rfl
  | cons b q ih =>
    by_cases hb : isMk b = true
    · exact .inr ⟨[], b, q, rfl, rfl, hb⟩
    · have hb' : isMk b = false := by simpa using hb
      rcases ih with h | ⟨x, m, r, h, hx, hm⟩
      · exact .inl (by unfold NoMk at *; rw [List.all_cons, h]; simp [hb'])
      · exact .inr ⟨b :: x, m, r, by simp [h], by unfold NoMk at *; rw [List.all_cons, hx]; simp [hb'], hm⟩
theorem chunk_step {p cur : List UInt8} {ps qs : List (List UInt8)} (h : chunk p cur ps = some qs) (h4 : ps.length ≠ 4) : ∃ x r, p = x ++ mkOf ps.length :: r ∧ NoMk x ∧ chunk r [] (ps ++ [cur ++ x]) = some qs := by
  rcases cut_mark p with h0 | ⟨x, m, r, rfl, hx, hm⟩
  · rw [chunk_free h0, if_neg h4] at h; cases h
  · rw [chunk_mark hx hm] at h
    by_cases hk : m ≠ mkOf ps.length
    · rw [if_pos hk] at h; cases h
    · rw [if_neg hk] at h
      have : m = mkOf ps.length := Classical.not_not.1 hk
      subst this
      exact ⟨x, r, rfl, hx, h⟩
theorem chunk_last {p cur : List UInt8} {ps qs : List (List UInt8)} (h : chunk p cur ps = some qs) (h4 : ps.length = 4) (hs : 59 ∉ p) : NoMk p ∧ qs = ps ++ [cur ++ p] := by
  rcases cut_mark p with h0 | ⟨x, m, r, rfl, hx, hm⟩
  · rw [chunk_free h0, if_pos h4] at h
    injection h with h
    exact ⟨h0, h.symm⟩
  · rw [chunk_mark hx hm] at h
    by_cases hk : m ≠ mkOf ps.length
    · rw [if_pos hk] at h; cases h
    · have : m = mkOf ps.length := Classical.not_not.1 hk
      rw [h4] at this
      exact absurd (show (59 : UInt8) ∈ x ++ m :: r by rw [this]; simp [mkOf]) hs
/-- The parts of a text of five parts. -/
theorem chunk_parts {p : List UInt8} {qs : List (List UInt8)} (h : chunk p [] [] = some qs) (hs : 59 ∉ p) : ∃ n a b c d, qs = [n, a, b, c, d] ∧ p = n ++ 58 :: (a ++ 47 :: (b ++ 47 :: (c ++ 47 :: d))) ∧ NoMk n ∧ NoMk a ∧ NoMk b ∧ NoMk c ∧ NoMk d := by
  obtain ⟨n, p1, rfl, hn, h1⟩ := chunk_step h (by simp)
  obtain ⟨a, p2, rfl, ha, h2⟩ := chunk_step h1 (by simp)
  obtain ⟨b, p3, rfl, hb, h3⟩ := chunk_step h2 (by simp)
  obtain ⟨c, p4, rfl, hc, h4⟩ := chunk_step h3 (by simp)
  obtain ⟨hd, h5⟩ := chunk_last h4 (by simp) (fun e => hs (by simp [e]))
  exact ⟨n, a, b, c, p4, by simpa using h5, by simp [mkOf], hn, ha, hb, hc, hd⟩
theorem parts_chunk {n a b c d : List UInt8} (hn : NoMk n) (ha : NoMk a) (hb : NoMk b) (hc : NoMk c) (hd : NoMk d) : chunk (n ++ 58 :: (a ++ 47 :: (b ++ 47 :: (c ++ 47 :: d)))) [] [] = some [n, a, b, c, d] := by
  rw [chunk_mark hn (by decide), if_neg (by simp [mkOf]), chunk_mark ha (by decide), if_neg (by simp [mkOf]), chunk_mark hb (by decide), if_neg (by simp [mkOf]), chunk_mark hc (by decide), if_neg (by simp [mkOf]), chunk_free hd, if_pos (by simp)]
  simp
end Go.Proofs.YtlnmlfpkpplgoaaDoor

namespace Go.Proofs.YtlnmlfpkpplgoaaDoor
open Go.RowKit
set_option linter.unusedVariables false

theorem pn_up {a : List UInt8} (h : pnOk a 99 = true) : pnOk a 65535 = true ∧ pnVal a 65535 = pnVal a 99 := by
  have h' := h
  unfold pnOk at h
  obtain ⟨h1, h2, h3, h4, h5, h6⟩ := of_decide_eq_true h
  have h7 : pnOk a 65535 = true := by unfold pnOk; exact decide_eq_true ⟨h1, h2, by omega, h4, h5, by omega⟩
  exact ⟨h7, by unfold pnVal; rw [h7, h']⟩
theorem pn_down {a : List UInt8} (h : pnOk a 65535 = true) (hv : pnVal a 65535 ≤ 20) : pnOk a 99 = true ∧ pnVal a 99 = pnVal a 65535 := by
  have h' := h
  unfold pnVal at hv
  rw [h, if_pos rfl] at hv
  unfold pnOk at h
  obtain ⟨h1, h2, h3, h4, h5, h6⟩ := of_decide_eq_true h
  have h7 : pnOk a 99 = true := by unfold pnOk; exact decide_eq_true ⟨h1, h2, by omega, h4, h5, by omega⟩
  exact ⟨h7, by unfold pnVal; rw [h7, h']⟩
theorem pn_len {a : List UInt8} {m : Int} (h : pnOk a m = true) : a.length ≤ 5 := by
  unfold pnOk at h
  exact (of_decide_eq_true h).2.1
theorem pn_free {a : List UInt8} {m : Int} (h : pnOk a m = true) : NoMk a := by
  unfold pnOk at h
  have h5 := (of_decide_eq_true h).2.2.2.2.1
  refine List.all_eq_true.2 fun b hb => ?_
  have h1 := isDg_bd (List.all_eq_true.1 h5 b hb)
  have : isMk b = false := by
    cases h2 : isMk b with
    | false => rfl
    | true =>
      unfold isMk at h2
      simp only [Bool.or_eq_true, beq_iff_eq] at h2
      rcases h2 with (h2 | h2) | h2 <;> (subst h2; simp at h1)
  simp [this]
theorem name_free {a : List UInt8} (h : nameB a = true) : NoMk a ∧ a.length ≤ 8 := by
  unfold nameB at h
  rw [Bool.and_eq_true] at h
  refine ⟨List.all_eq_true.2 fun b hb => ?_, (of_decide_eq_true h.1).2⟩
  have h1 := List.all_eq_true.1 h.2 b hb
  have : isMk b = false := by
    cases h2 : isMk b with
    | false => rfl
    | true =>
      unfold isMk at h2
      simp only [Bool.or_eq_true, beq_iff_eq] at h2
      rcases h2 with (h2 | h2) | h2 <;> (subst h2; simp [lowB] at h1)
  simp [this]
theorem dbB_parts {d : Db} (h : dbB d = true) : nameB d.name.data.toList = true ∧ d.size ≤ 20 ∧ d.queue ≤ 20 ∧ d.wait ≤ 20 ∧ d.idle ≤ 20 := by
  unfold dbB inI at h
  simp only [Bool.and_eq_true, decide_eq_true_eq] at h
  obtain ⟨⟨⟨⟨h0, h1⟩, h2⟩, h3⟩, h4⟩ := h
  exact ⟨h0, by omega, by omega, by omega, by omega⟩
theorem mk5_some {m : Int} {n a b c d : List UInt8} {x : Db} (h : mk5 m n a b c d = some x) : (pnOk a m = true ∧ pnOk b m = true ∧ pnOk c m = true ∧ pnOk d m = true) ∧ x = ⟨⟨n.toArray⟩, pnVal a m, pnVal b m, pnVal c m, pnVal d m⟩ := by
  unfold mk5 at h
  split at h
  · rename_i hh
    simp only [Bool.and_eq_true] at hh
    injection h with h
    exact ⟨⟨hh.1.1.1, hh.1.1.2, hh.1.2, hh.2⟩, h.symm⟩
  · cases h
theorem mk5_of {m : Int} {n a b c d : List UInt8} (ha : pnOk a m = true) (hb : pnOk b m = true) (hc : pnOk c m = true) (hd : pnOk d m = true) : mk5 m n a b c d = some ⟨⟨n.toArray⟩, pnVal a m, pnVal b m, pnVal c m, pnVal d m⟩ := by
  unfold mk5
  rw [ha, hb, hc, hd]
  rfl

theorem one_to {p : List UInt8} {x : Db} (hs : 59 ∉ p) (h : oneI p = some x) (hx : dbB x = true) : dbOf p = some x ∧ p.length ≤ 32 := by
  unfold oneI at h
  cases hc : chunk p [] [] with
  | none => rw [hc] at h; cases h
  | some qs =>
    rw [hc] at h
    obtain ⟨n, a, b, c, d, rfl, rfl, fn, fa, fb, fc, fd⟩ := chunk_parts hc hs
    have h' : mk5 65535 n a b c d = some x := h
    obtain ⟨⟨oa, ob, oc, od⟩, rfl⟩ := mk5_some h'
    obtain ⟨hn, v1, v2, v3, v4⟩ := dbB_parts hx
    obtain ⟨a1, a2⟩ := pn_down oa v1
    obtain ⟨b1, b2⟩ := pn_down ob v2
    obtain ⟨c1, c2⟩ := pn_down oc v3
    obtain ⟨d1, d2⟩ := pn_down od v4
    have la := pn_len oa
    have lb := pn_len ob
    have lc := pn_len oc
    have ld := pn_len od
    have ln := (name_free hn).2
    refine ⟨?_, by simp at ln ⊢; omega⟩
    have m1 : (58 : UInt8) ∉ a ++ 47 :: (b ++ 47 :: (c ++ 47 :: d)) := by
      simp only [List.mem_append, List.mem_cons, not_or]
      exact ⟨fa.not (by decide), by decide, fb.not (by decide), by decide, fc.not (by decide), by decide, fd.not (by decide)⟩
    have e1 : splitB 58 [] (n ++ 58 :: (a ++ 47 :: (b ++ 47 :: (c ++ 47 :: d)))) = [n, a ++ 47 :: (b ++ 47 :: (c ++ 47 :: d))] := by
      rw [split_some (fn.not (by decide)), split_none m1]
      simp
    have e2 : splitB 47 [] (a ++ 47 :: (b ++ 47 :: (c ++ 47 :: d))) = [a, b, c, d] := by
      rw [split_some (fa.not (by decide)), split_some (fb.not (by decide)), split_some (fc.not (by decide)), split_none (fd.not (by decide))]
      simp
    unfold dbOf
    rw [e1]
    simp only []
    rw [e2]
    simp only []
    rw [mk5_of a1 b1 c1 d1, a2, b2, c2, d2]
theorem to_one {p : List UInt8} {x : Db} (h : dbOf p = some x) (hx : dbB x = true) : oneI p = some x := by
  unfold dbOf at h
  split at h
  · rename_i n r h58
    split at h
    · rename_i a b c d h47
      obtain ⟨⟨oa, ob, oc, od⟩, rfl⟩ := mk5_some h
      obtain ⟨hn, _⟩ := dbB_parts hx
      have fn : NoMk n := by simpa using (name_free hn).1
      have en : p = n ++ 58 :: r := by
        rcases split_cons h58 with ⟨h0, _⟩ | ⟨r', e, _, h2⟩
        · cases h0
        · rcases split_cons h2 with ⟨_, e2, _⟩ | ⟨r2, _, _, h3⟩
          · rw [e, e2]
          · exact absurd h3 (split_ne _ _)
      have er : r = a ++ 47 :: (b ++ 47 :: (c ++ 47 :: d)) := by
        rcases split_cons h47 with ⟨h0, _⟩ | ⟨r1, e1, _, h1⟩
        · cases h0
        rcases split_cons h1 with ⟨h0, _⟩ | ⟨r2, e2, _, h2⟩
        · cases h0
        rcases split_cons h2 with ⟨h0, _⟩ | ⟨r3, e3, _, h3⟩
        · cases h0
        rcases split_cons h3 with ⟨_, e4, _⟩ | ⟨r4, _, _, h4⟩
        · rw [e1, e2, e3, e4]
        · exact absurd h4 (split_ne _ _)
      subst en er
      obtain ⟨a1, a2⟩ := pn_up oa
      obtain ⟨b1, b2⟩ := pn_up ob
      obtain ⟨c1, c2⟩ := pn_up oc
      obtain ⟨d1, d2⟩ := pn_up od
      unfold oneI
      rw [parts_chunk fn (pn_free oa) (pn_free ob) (pn_free oc) (pn_free od)]
      show mk5 65535 n a b c d = _
      rw [mk5_of a1 b1 c1 d1, a2, b2, c2, d2]
    · cases h
  · cases h

theorem all_cons {f : List UInt8 → Option Db} {p : List UInt8} {r : List (List UInt8)} {xs : List Db} (h : allOf f (p :: r) = some xs) : ∃ d ys, f p = some d ∧ allOf f r = some ys ∧ xs = d :: ys := by
  unfold allOf at h
  split at h
  · cases h
  · rename_i d hd
    split at h
    · cases h
    · rename_i ys hy
      injection h with h
      exact ⟨d, ys, hd, hy, h.symm⟩
theorem all_mk {f : List UInt8 → Option Db} {p : List UInt8} {r : List (List UInt8)} {d : Db} {ys : List Db} (h1 : f p = some d) (h2 : allOf f r = some ys) : allOf f (p :: r) = some (d :: ys) := by
  unfold allOf
  rw [h1]
  simp only []
  rw [h2]
theorem all_to : ∀ (n : Nat) (s : List UInt8) (xs : List Db), s.length ≤ n → allOf oneI (splitB 59 [] s) = some xs → (∀ d, d ∈ xs → dbB d = true) → allOf dbOf (splitB 59 [] s) = some xs ∧ s.length + 1 ≤ 33 * xs.length := by
  intro n
  induction n with
  | zero =>
    intro s xs h
    obtain rfl : s = [] := List.eq_nil_of_length_eq_zero (by omega)
    intro h1 _
    have e : splitB 59 [] [] = [[]] := rfl
    rw [e] at h1
    obtain ⟨d, ys, hd, _, _⟩ := all_cons h1
    cases hd
  | succ n ih =>
    intro s xs hl h hx
    rcases cut_at 59 s with h0 | ⟨x, r, rfl, h0⟩
    · rw [split_none h0, List.nil_append] at h ⊢
      obtain ⟨d, ys, hd, hy, rfl⟩ := all_cons h
      obtain rfl : ys = [] := by cases hy; rfl
      obtain ⟨h1, h2⟩ := one_to h0 hd (hx d (by simp))
      exact ⟨all_mk h1 rfl, by simp; omega⟩
    · rw [split_some h0, List.nil_append] at h ⊢
      obtain ⟨d, ys, hd, hy, rfl⟩ := all_cons h
      obtain ⟨h1, h2⟩ := one_to h0 hd (hx d (by simp))
      obtain ⟨h3, h4⟩ := ih r ys (by simp at hl; omega) hy (fun z hz => hx z (by simp [hz]))
      exact ⟨all_mk h1 h3, by simp; omega⟩
theorem to_all : ∀ (l : List (List UInt8)) (xs : List Db), allOf dbOf l = some xs → (∀ d, d ∈ xs → dbB d = true) → allOf oneI l = some xs := by
  intro l
  induction l with
  | nil => intro xs h _; exact h
  | cons p r ih =>
    intro xs h hx
    obtain ⟨d, ys, hd, hy, rfl⟩ := all_cons h
    exact all_mk (to_one hd (hx d (by simp))) (ih ys hy fun z hz => hx z (by simp [hz]))
theorem conf_dbs {xs : List Db} (h : confB xs = true) : (∀ d, d ∈ xs → dbB d = true) ∧ xs.length ≤ 3 := by
  have hg := confB_good h
  refine ⟨fun d hd => ?_, hg.1.2⟩
  obtain ⟨i, hi⟩ := List.mem_iff_getElem?.1 hd
  exact hg.2.1 i d (List.getElem?_eq_some_iff.1 hi).1 hi
theorem okOf_yes {o : Option (List Db)} {xs : List Db} (h : o = some xs) (hc : confB xs = true) : okOf o = (xs, true) := by
  subst h
  unfold okOf
  simp [hc]
theorem okOf_no {o : Option (List Db)} (h : ∀ xs, o = some xs → confB xs = true → False) : okOf o = ([], false) := by
  unfold okOf
  split
  · rename_i xs
    rw [if_neg fun hc => h xs rfl hc]
  · rfl
theorem parse_eq (s : List UInt8) : parseI s = parseS s := by
  have hr := run_all s.length s [] (Nat.le_refl _)
  by_cases hex : ∃ xs, allOf oneI (splitB 59 [] s) = some xs ∧ confB xs = true
  · obtain ⟨xs, h1, h2⟩ := hex
    obtain ⟨hd, hl⟩ := conf_dbs h2
    obtain ⟨h3, h4⟩ := all_to s.length s xs (Nat.le_refl _) h1 hd
    rw [h1] at hr
    unfold parseI parseS
    rw [if_neg (by omega), okOf_yes hr (by simpa using h2), okOf_yes h3 h2]
    simp
  · have e1 : parseI s = ([], false) := by
      unfold parseI
      refine okOf_no fun xs hx hc => ?_
      rw [hr] at hx
      cases h1 : allOf oneI (splitB 59 [] s) with
      | none => rw [h1] at hx; cases hx
      | some ys =>
        rw [h1] at hx
        injection hx with hx
        simp only [List.nil_append] at hx
        subst hx
        exact hex ⟨ys, h1, hc⟩
    rw [e1]
    unfold parseS
    split
    · rfl
    · refine (okOf_no fun xs hx hc => ?_).symm
      exact hex ⟨xs, to_all _ xs hx (conf_dbs hc).1, hc⟩
end Go.Proofs.YtlnmlfpkpplgoaaDoor
