/- Two readings of a text as databases, in plain lists: by splitting, and mark by mark: they agree. -/
import Derived.Test.YtdapnhahccpebaaDoorConfOk0
import Derived.Test.YtdapnhahccpebaaDoorDec
namespace Go.Proofs.YtdapnhahccpebaaDoor
open Go.RowKit
set_option maxRecDepth 100000
set_option linter.unusedVariables false

def isMk (b : UInt8) : Bool := b == 58 || b == 47 || b == 59
def mkOf (n : Nat) : UInt8 := if n = 0 then 58 else if n = 4 then 59 else 47
def splitB (c : UInt8) : List UInt8 → List UInt8 → List (List UInt8)
  | cur, [] => [cur]
  | cur, b :: r => if b = c then cur :: splitB c [] r else splitB c (cur ++ [b]) r

theorem splitB_cons (c b : UInt8) (cur r : List UInt8) : splitB c cur (b :: r) = if b = c then cur :: splitB c [] r else splitB c (cur ++ [b]) r := rfl
theorem split_none {c : UInt8} : ∀ {p cur : List UInt8}, c ∉ p → splitB c cur p = [cur ++ p] := by
  intro p
  induction p with
  | nil => intro cur _; simp [splitB]
  | cons b r ih =>
    intro cur h
    have h1 : b ≠ c := fun e => h (by simp [e])
    have h2 : c ∉ r := fun e => h (by simp [e])
    rw [splitB_cons, if_neg h1, ih h2]
    simp
theorem split_some {c : UInt8} : ∀ {p cur r : List UInt8}, c ∉ p → splitB c cur (p ++ c :: r) = (cur ++ p) :: splitB c [] r := by
  intro p
  induction p with
  | nil => intro cur r _; simp [splitB]
  | cons b q ih =>
    intro cur r h
    have h1 : b ≠ c := fun e => h (by simp [e])
    have h2 : c ∉ q := fun e => h (by simp [e])
    rw [List.cons_append]
    rw [splitB_cons, if_neg h1, ih h2]
    simp
theorem cut_at (c : UInt8) : ∀ p : List UInt8, c ∉ p ∨ ∃ x r, p = x ++ c :: r ∧ c ∉ x := by
  intro p
  induction p with
  | nil => exact .inl (by simp)
  | cons b q ih =>
    by_cases hb : b = c
    · exact .inr ⟨[], q, by simp [hb], by simp⟩
    · rcases ih with h | ⟨x, r, h, hx⟩
      · exact .inl fun e => by
          rcases List.mem_cons.1 e with e | e
          · exact hb e.symm
          · exact h e
      · exact .inr ⟨b :: x, r, by simp [h], fun e => by
          rcases List.mem_cons.1 e with e | e
          · exact hb e.symm
          · exact hx e⟩
/-- The first part of a split. -/
theorem split_cons {c : UInt8} {p x : List UInt8} {l : List (List UInt8)} (h : splitB c [] p = x :: l) : (l = [] ∧ p = x ∧ c ∉ x) ∨ ∃ r, p = x ++ c :: r ∧ c ∉ x ∧ splitB c [] r = l := by
  rcases cut_at c p with h0 | ⟨y, r, rfl, hy⟩
  · rw [split_none h0] at h
    injection h with h1 h2
    simp only [List.nil_append] at h1
    exact .inl ⟨h2.symm, h1, h1 ▸ h0⟩
  · rw [split_some hy] at h
    injection h with h1 h2
    simp only [List.nil_append] at h1
    subst h1
    exact .inr ⟨r, rfl, hy, h2⟩
theorem split_ne (c : UInt8) (p : List UInt8) : splitB c [] p ≠ [] := by
  rcases cut_at c p with h0 | ⟨y, r, rfl, hy⟩
  · rw [split_none h0]; simp
  · rw [split_some hy]; simp

def mk5 (most : Int) (n a b c d : List UInt8) : Option Db :=
  if pnOk a most && pnOk b most && pnOk c most && pnOk d most then some ⟨⟨n.toArray⟩, pnVal a most, pnVal b most, pnVal c most, pnVal d most⟩ else none
def dbOf (p : List UInt8) : Option Db :=
  match splitB 58 [] p with
  | [n, r] => match splitB 47 [] r with
    | [a, b, c, d] => mk5 99 n a b c d
    | _ => none
  | _ => none
def allOf (f : List UInt8 → Option Db) : List (List UInt8) → Option (List Db)
  | [] => some []
  | p :: r => match f p with
    | none => none
    | some d => match allOf f r with
      | none => none
      | some xs => some (d :: xs)
noncomputable def okOf (o : Option (List Db)) : List Db × Bool := match o with
  | some xs => if confB xs = true then (xs, true) else ([], false)
  | none => ([], false)
/-- The model's reading. -/
noncomputable def parseS (s : List UInt8) : List Db × Bool := if 100 < s.length then ([], false) else okOf (allOf dbOf (splitB 59 [] s))

def endDb (ps : List (List UInt8)) : Option Db := match ps with
  | [n, a, b, c, d] => mk5 65535 n a b c d
  | _ => none
def runC : List UInt8 → List UInt8 → List (List UInt8) → List Db → Option (List Db)
  | [], _, _, dbs => some dbs
  | b :: r, cur, ps, dbs =>
    if isMk b = false then runC r (cur ++ [b]) ps dbs
    else if b ≠ mkOf ps.length then none
    else if b = 59 then match endDb (ps ++ [cur]) with
      | none => none
      | some d => runC r [] [] (dbs ++ [d])
    else runC r [] (ps ++ [cur]) dbs
/-- The program's reading. -/
noncomputable def parseI (s : List UInt8) : List Db × Bool := okOf (runC (s ++ [59]) [] [] [])

/-- A part without ';', mark by mark. -/
def chunk : List UInt8 → List UInt8 → List (List UInt8) → Option (List (List UInt8))
  | [], cur, ps => if ps.length = 4 then some (ps ++ [cur]) else none
  | b :: r, cur, ps => if isMk b = false then chunk r (cur ++ [b]) ps else if b ≠ mkOf ps.length then none else chunk r [] (ps ++ [cur])
def oneI (p : List UInt8) : Option Db := match chunk p [] [] with
  | none => none
  | some ps => endDb ps

theorem runC_cons (b : UInt8) (r cur : List UInt8) (ps : List (List UInt8)) (dbs : List Db) : runC (b :: r) cur ps dbs = if isMk b = false then runC r (cur ++ [b]) ps dbs
    else if b ≠ mkOf ps.length then none
    else if b = 59 then match endDb (ps ++ [cur]) with
      | none => none
      | some d => runC r [] [] (dbs ++ [d])
    else runC r [] (ps ++ [cur]) dbs := rfl
theorem chunk_nil (cur : List UInt8) (ps : List (List UInt8)) : chunk [] cur ps = if ps.length = 4 then some (ps ++ [cur]) else none := rfl
theorem chunk_cons (b : UInt8) (r cur : List UInt8) (ps : List (List UInt8)) : chunk (b :: r) cur ps = if isMk b = false then chunk r (cur ++ [b]) ps else if b ≠ mkOf ps.length then none else chunk r [] (ps ++ [cur]) := rfl
theorem mk_semi (n : Nat) : 59 ≠ mkOf n ↔ n ≠ 4 := by
  unfold mkOf
  split
  · rename_i h; subst h; simp
  · split
    · rename_i h; subst h; simp
    · rename_i h; simp [h]
theorem run_chunk : ∀ {p cur : List UInt8} {ps : List (List UInt8)} {dbs : List Db} {r : List UInt8}, 59 ∉ p → runC (p ++ 59 :: r) cur ps dbs = match chunk p cur ps with
    | none => none
    | some qs => match endDb qs with
      | none => none
      | some d => runC r [] [] (dbs ++ [d]) := by
  intro p
  induction p with
  | nil =>
    intro cur ps dbs r _
    rw [List.nil_append]
    rw [runC_cons, chunk_nil, if_neg (by decide)]
    by_cases h4 : ps.length = 4
    · rw [if_neg (fun h => (mk_semi _).1 h h4), if_pos rfl, if_pos h4]
    · rw [if_pos ((mk_semi _).2 h4), if_neg h4]
  | cons b q ih =>
    intro cur ps dbs r h
    have h1 : b ≠ 59 := fun e => h (by simp [e])
    have h2 : 59 ∉ q := fun e => h (by simp [e])
    rw [List.cons_append, runC_cons, chunk_cons]
    by_cases hm : isMk b = false
    · rw [if_pos hm, if_pos hm]; exact ih h2
    · rw [if_neg hm, if_neg hm]
      by_cases hk : b ≠ mkOf ps.length
      · rw [if_pos hk, if_pos hk]
      · rw [if_neg hk, if_neg hk, if_neg h1]; exact ih h2
theorem run_all : ∀ (n : Nat) (s : List UInt8) (dbs : List Db), s.length ≤ n → runC (s ++ [59]) [] [] dbs = match allOf oneI (splitB 59 [] s) with
    | none => none
    | some xs => some (dbs ++ xs) := by
  intro n
  induction n with
  | zero =>
    intro s dbs h
    obtain rfl : s = [] := List.eq_nil_of_length_eq_zero (by omega)
    rfl
  | succ n ih =>
    intro s dbs h
    rcases cut_at 59 s with h0 | ⟨x, r, rfl, hx⟩
    · rw [split_none h0, run_chunk (r := []) h0]
      simp only [List.nil_append, allOf, oneI]
      cases chunk s [] [] with
      | none => rfl
      | some qs =>
        cases h5 : endDb qs with
        | none => simp only [h5]
        | some d => simp only [h5]; rfl
    · rw [split_some hx, List.append_assoc, List.cons_append, run_chunk hx]
      have hl : r.length ≤ n := by simp at h; omega
      simp only [List.nil_append, allOf, oneI]
      cases chunk x [] [] with
      | none => rfl
      | some qs =>
        cases h5 : endDb qs with
        | none => simp only [h5]
        | some d =>
          simp only [h5]
          rw [ih r _ hl]
          cases allOf oneI (splitB 59 [] r) with
          | none => rfl
          | some xs => simp

/-! ### one part -/
def NoMk (x : List UInt8) : Prop := x.all (fun b => !isMk b) = true
theorem NoMk.not {x : List UInt8} (h : NoMk x) {c : UInt8} (hc : isMk c = true) : c ∉ x := fun e => by
  have := List.all_eq_true.1 h c e
  simp [hc] at this
theorem chunk_free : ∀ {x cur : List UInt8} {ps : List (List UInt8)}, NoMk x → chunk x cur ps = if ps.length = 4 then some (ps ++ [cur ++ x]) else none := by
  intro x
  induction x with
  | nil => intro cur ps _; simp [chunk]
  | cons b q ih =>
    intro cur ps h
    unfold NoMk at h
    rw [List.all_cons, Bool.and_eq_true] at h
    have hb : isMk b = false := by simpa using h.1
    rw [chunk_cons, if_pos hb, ih (show NoMk q from h.2)]
    simp
theorem chunk_mark : ∀ {x cur : List UInt8} {m : UInt8} {r : List UInt8} {ps : List (List UInt8)}, NoMk x → isMk m = true → chunk (x ++ m :: r) cur ps = if m ≠ mkOf ps.length then none else chunk r [] (ps ++ [cur ++ x]) := by
  intro x
  induction x with
  | nil =>
    intro cur m r ps _ hm
    rw [List.nil_append, chunk_cons, if_neg (by simp [hm]), List.append_nil]
  | cons b q ih =>
    intro cur m r ps h hm
    unfold NoMk at h
    rw [List.all_cons, Bool.and_eq_true] at h
    have hb : isMk b = false := by simpa using h.1
    rw [List.cons_append]
    rw [chunk_cons, if_pos hb, ih (show NoMk q from h.2) hm]
    simp
theorem cut_mark : ∀ p : List UInt8, NoMk p ∨ ∃ x m r, p = x ++ m :: r ∧ NoMk x ∧ isMk m = true := by
  intro p
  induction p with
  | nil => exact .inl rfl
  | cons b q ih =>
    by_cases hb : isMk b = true
    · exact .inr ⟨[], b, q, rfl, rfl, hb⟩
    · have hb' : isMk b = false := by simpa using hb
      rcases ih with h | ⟨x, m, r, h, hx, hm⟩
      · exact .inl (by unfold NoMk at *; rw [List.all_cons, h]; simp [hb'])
      · exact .inr ⟨b :: x, m, r, by simp [h], by unfold NoMk at *; rw [List.all_cons, hx]; simp [hb'], hm⟩
theorem chunk_step {p cur : List UInt8} {ps qs : List (List UInt8)} (h : chunk p cur ps = some qs) (h4 : ps.length ≠ 4) : ∃ x r, p = x ++ mkOf ps.length :: r ∧ NoMk x ∧ chunk r [] (ps ++ [cur ++ x]) = some qs := by
  rcases cut_mark p with h0 | ⟨x, m, r, rfl, hx, hm⟩
  · rw [chunk_free h0, if_neg h4] at h; cases h
  · rw [chunk_mark hx hm] at h
    by_cases hk : m ≠ mkOf ps.length
    · rw [if_pos hk] at h; cases h
    · rw [if_neg hk] at h
      have : m = mkOf ps.length := Classical.not_not.1 hk
      subst this
      exact ⟨x, r, rfl, hx, h⟩
theorem chunk_last {p cur : List UInt8} {ps qs : List (List UInt8)} (h : chunk p cur ps = some qs) (h4 : ps.length = 4) (hs : 59 ∉ p) : NoMk p ∧ qs = ps ++ [cur ++ p] := by
  rcases cut_mark p with h0 | ⟨x, m, r, rfl, hx, hm⟩
  · rw [chunk_free h0, if_pos h4] at h
    injection h with h
    exact ⟨h0, h.symm⟩
  · rw [chunk_mark hx hm] at h
    by_cases hk : m ≠ mkOf ps.length
    · rw [if_pos hk] at h; cases h
    · have : m = mkOf ps.length := Classical.not_not.1 hk
      rw [h4] at this
      exact absurd (show (59 : UInt8) ∈ x ++ m :: r by rw [this]; simp [mkOf]) hs
/-- The parts of a text of five parts. -/
theorem chunk_parts {p : List UInt8} {qs : List (List UInt8)} (h : chunk p [] [] = some qs) (hs : 59 ∉ p) : ∃ n a b c d, qs = [n, a, b, c, d] ∧ p = n ++ 58 :: (a ++ 47 :: (b ++ 47 :: (c ++ 47 :: d))) ∧ NoMk n ∧ NoMk a ∧ NoMk b ∧ NoMk c ∧ NoMk d := by
  obtain ⟨n, p1, rfl, hn, h1⟩ := chunk_step h (by simp)
  obtain ⟨a, p2, rfl, ha, h2⟩ := chunk_step h1 (by simp)
  obtain ⟨b, p3, rfl, hb, h3⟩ := chunk_step h2 (by simp)
  obtain ⟨c, p4, rfl, hc, h4⟩ := chunk_step h3 (by simp)
  obtain ⟨hd, h5⟩ := chunk_last h4 (by simp) (fun e => hs (by simp [e]))
  exact ⟨n, a, b, c, p4, by simpa using h5, by simp [mkOf], hn, ha, hb, hc, hd⟩
theorem parts_chunk {n a b c d : List UInt8} (hn : NoMk n) (ha : NoMk a) (hb : NoMk b) (hc : NoMk c) (hd : NoMk d) : chunk (n ++ 58 :: (a ++ 47 :: (b ++ 47 :: (c ++ 47 :: d)))) [] [] = some [n, a, b, c, d] := by
  rw [chunk_mark hn (by decide), if_neg (by simp [mkOf]), chunk_mark ha (by decide), if_neg (by simp [mkOf]), chunk_mark hb (by decide), if_neg (by simp [mkOf]), chunk_mark hc (by decide), if_neg (by simp [mkOf]), chunk_free hd, if_pos (by simp)]
  simp
end Go.Proofs.YtdapnhahccpebaaDoor
