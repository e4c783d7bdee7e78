/- What the theorem needs, out of many texts. -/
import Derived.Test.YtoaaogacaibedaaGreatDoorShc3
import Derived.Lib.AppendStr
import Derived.Lib.ItoaMem
namespace Go.Proofs.YtoaaogacaibedaaGreatDoor
open Go.RowKit
set_option maxRecDepth 100000
set_option linter.unusedVariables false
def isMk (b : UInt8) : Bool := b == 58 || b == 47 || b == 59
def mkOf (n : Nat) : UInt8 := if n = 0 then 58 else if n = 4 then 59 else 47
def splitB (c : UInt8) : List UInt8 → List UInt8 → List (List UInt8)
 | cur, [] => [cur]
 | cur, b :: r => if b = c then cur :: splitB c [] r else splitB c (cur ++ [b]) r
theorem splitB_cons (c b : UInt8) (cur r : List UInt8) : splitB c cur (b :: r) = if b = c then cur :: splitB c [] r else splitB c (cur ++ [b]) r := rfl
theorem split_none {c : UInt8} : ∀ {p cur : List UInt8}, c ∉ p → splitB c cur p = [cur ++ p] := by
 intro p
 induction p with
 | nil => intro cur _; simp [splitB]
 | cons b r ih =>
  intro cur h
  have h1 : b ≠ c := fun e => h (by simp [e])
  have h2 : c ∉ r := fun e => h (by simp [e])
  rw [splitB_cons, if_neg h1, ih h2]
  simp
theorem split_some {c : UInt8} : ∀ {p cur r : List UInt8}, c ∉ p → splitB c cur (p ++ c :: r) = (cur ++ p) :: splitB c [] r := by
 intro p
 induction p with
 | nil => intro cur r _; simp [splitB]
 | cons b q ih =>
  intro cur r h
  have h1 : b ≠ c := fun e => h (by simp [e])
  have h2 : c ∉ q := fun e => h (by simp [e])
  rw [List.cons_append]
  rw [splitB_cons, if_neg h1, ih h2]
  simp
theorem cut_at (c : UInt8) : ∀ p : List UInt8, c ∉ p ∨ ∃ x r, p = x ++ c :: r ∧ c ∉ x := by
 intro p
 induction p with
 | nil => exact .inl (by simp)
 | cons b q ih =>
  by_cases hb : b = c
  ·exact .inr ⟨[], q, by simp [hb], by simp⟩
  ·rcases ih with h | ⟨x, r, h, hx⟩
   ·exact .inl fun e => by
     rcases List.mem_cons.1 e with e | e
     ·exact hb e.symm
     ·exact h e
   ·exact .inr ⟨b :: x, r, by simp [h], fun e => by
     rcases List.mem_cons.1 e with e | e
     ·exact hb e.symm
     ·exact hx e⟩
theorem split_cons {c : UInt8} {p x : List UInt8} {l : List (List UInt8)} (h : splitB c [] p = x :: l) : (l = [] ∧ p = x ∧ c ∉ x) ∨ ∃ r, p = x ++ c :: r ∧ c ∉ x ∧ splitB c [] r = l := by
 rcases cut_at c p with h0 | ⟨y, r, rfl, hy⟩
 ·rw [split_none h0] at h
  injection h with h1 h2
  simp only [List.nil_append] at h1
  exact .inl ⟨h2.symm, h1, h1 ▸ h0⟩
 ·rw [split_some hy] at h
  injection h with h1 h2
  simp only [List.nil_append] at h1
  subst h1
  exact .inr ⟨r, rfl, hy, h2⟩
theorem split_ne (c : UInt8) (p : List UInt8) : splitB c [] p ≠ [] := by
 rcases cut_at c p with h0 | ⟨y, r, rfl, hy⟩
 ·rw [split_none h0]; simp
 ·rw [split_some hy]; simp
def mk5 (most : Int) (n a b c d : List UInt8) : Option Db :=
 if pnOk a most && pnOk b most && pnOk c most && pnOk d most then some ⟨⟨n.toArray⟩, pnVal a most, pnVal b most, pnVal c most, pnVal d most⟩ else none
def dbOf (p : List UInt8) : Option Db :=
 match splitB 58 [] p with
 | [n, r] => match splitB 47 [] r with
  | [a, b, c, d] => mk5 99 n a b c d
  | _ => none
 | _ => none
def allOf (f : List UInt8 → Option Db) : List (List UInt8) → Option (List Db)
 | [] => some []
 | p :: r => match f p with
  | none => none
  | some d => match allOf f r with
   | none => none
   | some xs => some (d :: xs)
noncomputable def okOf (o : Option (List Db)) : List Db × Bool := match o with
 | some xs => if confB xs = true then (xs, true) else ([], false)
 | none => ([], false)
noncomputable def parseS (s : List UInt8) : List Db × Bool := if 100 < s.length then ([], false) else okOf (allOf dbOf (splitB 59 [] s))
def endDb (ps : List (List UInt8)) : Option Db := match ps with
 | [n, a, b, c, d] => mk5 65535 n a b c d
 | _ => none
def runC : List UInt8 → List UInt8 → List (List UInt8) → List Db → Option (List Db)
 | [], _, _, dbs => some dbs
 | b :: r, cur, ps, dbs =>
  if isMk b = false then runC r (cur ++ [b]) ps dbs
  else if b ≠ mkOf ps.length then none
  else if b = 59 then match endDb (ps ++ [cur]) with
   | none => none
   | some d => runC r [] [] (dbs ++ [d])
  else runC r [] (ps ++ [cur]) dbs
noncomputable def parseI (s : List UInt8) : List Db × Bool := okOf (runC (s ++ [59]) [] [] [])
def chunk : List UInt8 → List UInt8 → List (List UInt8) → Option (List (List UInt8))
 | [], cur, ps => if ps.length = 4 then some (ps ++ [cur]) else none
 | b :: r, cur, ps => if isMk b = false then chunk r (cur ++ [b]) ps else if b ≠ mkOf ps.length then none else chunk r [] (ps ++ [cur])
def oneI (p : List UInt8) : Option Db := match chunk p [] [] with
 | none => none
 | some ps => endDb ps
theorem runC_cons (b : UInt8) (r cur : List UInt8) (ps : List (List UInt8)) (dbs : List Db) : runC (b :: r) cur ps dbs = if isMk b = false then runC r (cur ++ [b]) ps dbs
  else if b ≠ mkOf ps.length then none
  else if b = 59 then match endDb (ps ++ [cur]) with
   | none => none
   | some d => runC r [] [] (dbs ++ [d])
  else runC r [] (ps ++ [cur]) dbs := rfl
theorem chunk_nil (cur : List UInt8) (ps : List (List UInt8)) : chunk [] cur ps = if ps.length = 4 then some (ps ++ [cur]) else none := rfl
theorem chunk_cons (b : UInt8) (r cur : List UInt8) (ps : List (List UInt8)) : chunk (b :: r) cur ps = if isMk b = false then chunk r (cur ++ [b]) ps else if b ≠ mkOf ps.length then none else chunk r [] (ps ++ [cur]) := rfl
theorem mk_semi (n : Nat) : 59 ≠ mkOf n ↔ n ≠ 4 := by
 unfold mkOf
 split
 ·rename_i h; subst h; simp
 ·split
  ·rename_i h; subst h; simp
  ·rename_i h; simp [h]
theorem run_chunk : ∀ {p cur : List UInt8} {ps : List (List UInt8)} {dbs : List Db} {r : List UInt8}, 59 ∉ p → runC (p ++ 59 :: r) cur ps dbs = match chunk p cur ps with
  | none => none
  | some qs => match endDb qs with
   | none => none
   | some d => runC r [] [] (dbs ++ [d]) := by
 intro p
 induction p with
 | nil =>
  intro cur ps dbs r _
  rw [List.nil_append]
  rw [runC_cons, chunk_nil, if_neg (by decide)]
  by_cases h4 : ps.length = 4
  ·rw [if_neg (fun h => (mk_semi _).1 h h4), if_pos rfl, if_pos h4]
  ·rw [if_pos ((mk_semi _).2 h4), if_neg h4]
 | cons b q ih =>
  intro cur ps dbs r h
  have h1 : b ≠ 59 := fun e => h (by simp [e])
  have h2 : 59 ∉ q := fun e => h (by simp [e])
  rw [List.cons_append, runC_cons, chunk_cons]
  by_cases hm : isMk b = false
  ·rw [if_pos hm, if_pos hm]; exact ih h2
  ·rw [if_neg hm, if_neg hm]
   by_cases hk : b ≠ mkOf ps.length
   ·rw [if_pos hk, if_pos hk]
   ·rw [if_neg hk, if_neg hk, if_neg h1]; exact ih h2
theorem run_all : ∀ (n : Nat) (s : List UInt8) (dbs : List Db), s.length ≤ n → runC (s ++ [59]) [] [] dbs = match allOf oneI (splitB 59 [] s) with
  | none => none
  | some xs => some (dbs ++ xs) := by
 intro n
 induction n with
 | zero =>
  intro s dbs h
  obtain rfl : s = [] := List.eq_nil_of_length_eq_zero (by omega)
  rfl
 | succ n ih =>
  intro s dbs h
  rcases cut_at 59 s with h0 | ⟨x, r, rfl, hx⟩
  ·rw [split_none h0, run_chunk (r := []) h0]
   simp only [List.nil_append, allOf, oneI]
   cases chunk s [] [] with
   | none => rfl
   | some qs =>
    cases h5 : endDb qs with
    | none => simp only [h5]
    | some d => simp only [h5]; rfl
  ·rw [split_some hx, List.append_assoc, List.cons_append, run_chunk hx]
   have hl : r.length ≤ n := by simp at h; omega
   simp only [List.nil_append, allOf, oneI]
   cases chunk x [] [] with
   | none => rfl
   | some qs =>
    cases h5 : endDb qs with
    | none => simp only [h5]
    | some d =>
     simp only [h5]
     rw [ih r _ hl]
     cases allOf oneI (splitB 59 [] r) with
     | none => rfl
     | some xs => simp
def NoMk (x : List UInt8) : Prop := x.all (fun b => !isMk b) = true
theorem NoMk.not {x : List UInt8} (h : NoMk x) {c : UInt8} (hc : isMk c = true) : c ∉ x := fun e => by
 have := List.all_eq_true.1 h c e
 simp [hc] at this
theorem chunk_free : ∀ {x cur : List UInt8} {ps : List (List UInt8)}, NoMk x → chunk x cur ps = if ps.length = 4 then some (ps ++ [cur ++ x]) else none := by
 intro x
 induction x with
 | nil => intro cur ps _; simp [chunk]
 | cons b q ih =>
  intro cur ps h
  unfold NoMk at h
  rw [List.all_cons, Bool.and_eq_true] at h
  have hb : isMk b = false := by simpa using h.1
  rw [chunk_cons, if_pos hb, ih (show NoMk q from h.2)]
  simp
theorem chunk_mark : ∀ {x cur : List UInt8} {m : UInt8} {r : List UInt8} {ps : List (List UInt8)}, NoMk x → isMk m = true → chunk (x ++ m :: r) cur ps = if m ≠ mkOf ps.length then none else chunk r [] (ps ++ [cur ++ x]) := by
 intro x
 induction x with
 | nil =>
  intro cur m r ps _ hm
  rw [List.nil_append, chunk_cons, if_neg (by simp [hm]), List.append_nil]
 | cons b q ih =>
  intro cur m r ps h hm
  unfold NoMk at h
  rw [List.all_cons, Bool.and_eq_true] at h
  have hb : isMk b = false := by simpa using h.1
  rw [List.cons_append]
  rw [chunk_cons, if_pos hb, ih (show NoMk q from h.2) hm]
  simp
theorem cut_mark : ∀ p : List UInt8, NoMk p ∨ ∃ x m r, p = x ++ m :: r ∧ NoMk x ∧ isMk m = true := by
 intro p
 induction p with
 | nil => exact .inl rfl
 | cons b q ih =>
  by_cases hb : isMk b = true
  ·exact .inr ⟨[], b, q, rfl, rfl, hb⟩
  ·have hb' : isMk b = false := by simpa using hb
   rcases ih with h | ⟨x, m, r, h, hx, hm⟩
   ·exact .inl (by unfold NoMk at *; rw [List.all_cons, h]; simp [hb'])
   ·exact .inr ⟨b :: x, m, r, by simp [h], by unfold NoMk at *; rw [List.all_cons, hx]; simp [hb'], hm⟩
theorem chunk_step {p cur : List UInt8} {ps qs : List (List UInt8)} (h : chunk p cur ps = some qs) (h4 : ps.length ≠ 4) : ∃ x r, p = x ++ mkOf ps.length :: r ∧ NoMk x ∧ chunk r [] (ps ++ [cur ++ x]) = some qs := by
 rcases cut_mark p with h0 | ⟨x, m, r, rfl, hx, hm⟩
 ·rw [chunk_free h0, if_neg h4] at h; cases h
 ·rw [chunk_mark hx hm] at h
  by_cases hk : m ≠ mkOf ps.length
  ·rw [if_pos hk] at h; cases h
  ·rw [if_neg hk] at h
   have : m = mkOf ps.length := Classical.not_not.1 hk
   subst this
   exact ⟨x, r, rfl, hx, h⟩
theorem chunk_last {p cur : List UInt8} {ps qs : List (List UInt8)} (h : chunk p cur ps = some qs) (h4 : ps.length = 4) (hs : 59 ∉ p) : NoMk p ∧ qs = ps ++ [cur ++ p] := by
 rcases cut_mark p with h0 | ⟨x, m, r, rfl, hx, hm⟩
 ·rw [chunk_free h0, if_pos h4] at h
  injection h with h
  exact ⟨h0, h.symm⟩
 ·rw [chunk_mark hx hm] at h
  by_cases hk : m ≠ mkOf ps.length
  ·rw [if_pos hk] at h; cases h
  ·have : m = mkOf ps.length := Classical.not_not.1 hk
   rw [h4] at this
   exact absurd (show (59 : UInt8) ∈ x ++ m :: r by rw [this]; simp [mkOf]) hs
theorem chunk_parts {p : List UInt8} {qs : List (List UInt8)} (h : chunk p [] [] = some qs) (hs : 59 ∉ p) : ∃ n a b c d, qs = [n, a, b, c, d] ∧ p = n ++ 58 :: (a ++ 47 :: (b ++ 47 :: (c ++ 47 :: d))) ∧ NoMk n ∧ NoMk a ∧ NoMk b ∧ NoMk c ∧ NoMk d := by
 obtain ⟨n, p1, rfl, hn, h1⟩ := chunk_step h (by simp)
 obtain ⟨a, p2, rfl, ha, h2⟩ := chunk_step h1 (by simp)
 obtain ⟨b, p3, rfl, hb, h3⟩ := chunk_step h2 (by simp)
 obtain ⟨c, p4, rfl, hc, h4⟩ := chunk_step h3 (by simp)
 obtain ⟨hd, h5⟩ := chunk_last h4 (by simp) (fun e => hs (by simp [e]))
 exact ⟨n, a, b, c, p4, by simpa using h5, by simp [mkOf], hn, ha, hb, hc, hd⟩
theorem parts_chunk {n a b c d : List UInt8} (hn : NoMk n) (ha : NoMk a) (hb : NoMk b) (hc : NoMk c) (hd : NoMk d) : chunk (n ++ 58 :: (a ++ 47 :: (b ++ 47 :: (c ++ 47 :: d)))) [] [] = some [n, a, b, c, d] := by
 rw [chunk_mark hn (by decide), if_neg (by simp [mkOf]), chunk_mark ha (by decide), if_neg (by simp [mkOf]), chunk_mark hb (by decide), if_neg (by simp [mkOf]), chunk_mark hc (by decide), if_neg (by simp [mkOf]), chunk_free hd, if_pos (by simp)]
 simp
theorem pn_up {a : List UInt8} (h : pnOk a 99 = true) : pnOk a 65535 = true ∧ pnVal a 65535 = pnVal a 99 := by
 have h' := h
 unfold pnOk at h
 obtain ⟨h1, h2, h3, h4, h5, h6⟩ := of_decide_eq_true h
 have h7 : pnOk a 65535 = true := by unfold pnOk; exact decide_eq_true ⟨h1, h2, by omega, h4, h5, by omega⟩
 exact ⟨h7, by unfold pnVal; rw [h7, h']⟩
theorem pn_down {a : List UInt8} (h : pnOk a 65535 = true) (hv : pnVal a 65535 ≤ 20) : pnOk a 99 = true ∧ pnVal a 99 = pnVal a 65535 := by
 have h' := h
 unfold pnVal at hv
 rw [h, if_pos rfl] at hv
 unfold pnOk at h
 obtain ⟨h1, h2, h3, h4, h5, h6⟩ := of_decide_eq_true h
 have h7 : pnOk a 99 = true := by unfold pnOk; exact decide_eq_true ⟨h1, h2, by omega, h4, h5, by omega⟩
 exact ⟨h7, by unfold pnVal; rw [h7, h']⟩
theorem pn_len {a : List UInt8} {m : Int} (h : pnOk a m = true) : a.length ≤ 5 := by
 unfold pnOk at h
 exact (of_decide_eq_true h).2.1
theorem pn_free {a : List UInt8} {m : Int} (h : pnOk a m = true) : NoMk a := by
 unfold pnOk at h
 have h5 := (of_decide_eq_true h).2.2.2.2.1
 refine List.all_eq_true.2 fun b hb => ?_
 have h1 := isDg_bd (List.all_eq_true.1 h5 b hb)
 have : isMk b = false := by
  cases h2 : isMk b with
  | false => rfl
  | true =>
   unfold isMk at h2
   simp only [Bool.or_eq_true, beq_iff_eq] at h2
   rcases h2 with (h2 | h2) | h2 <;> (subst h2; simp at h1)
 simp [this]
theorem name_free {a : List UInt8} (h : nameB a = true) : NoMk a ∧ a.length ≤ 8 := by
 unfold nameB at h
 rw [Bool.and_eq_true] at h
 refine ⟨List.all_eq_true.2 fun b hb => ?_, (of_decide_eq_true h.1).2⟩
 have h1 := List.all_eq_true.1 h.2 b hb
 have : isMk b = false := by
  cases h2 : isMk b with
  | false => rfl
  | true =>
   unfold isMk at h2
   simp only [Bool.or_eq_true, beq_iff_eq] at h2
   rcases h2 with (h2 | h2) | h2 <;> (subst h2; simp [lowB] at h1)
 simp [this]
theorem dbB_parts {d : Db} (h : dbB d = true) : nameB d.name.data.toList = true ∧ d.size ≤ 20 ∧ d.queue ≤ 20 ∧ d.wait ≤ 20 ∧ d.idle ≤ 20 := by
 unfold dbB inI at h
 simp only [Bool.and_eq_true, decide_eq_true_eq] at h
 obtain ⟨⟨⟨⟨h0, h1⟩, h2⟩, h3⟩, h4⟩ := h
 exact ⟨h0, by omega, by omega, by omega, by omega⟩
theorem mk5_some {m : Int} {n a b c d : List UInt8} {x : Db} (h : mk5 m n a b c d = some x) : (pnOk a m = true ∧ pnOk b m = true ∧ pnOk c m = true ∧ pnOk d m = true) ∧ x = ⟨⟨n.toArray⟩, pnVal a m, pnVal b m, pnVal c m, pnVal d m⟩ := by
 unfold mk5 at h
 split at h
 ·rename_i hh
  simp only [Bool.and_eq_true] at hh
  injection h with h
  exact ⟨⟨hh.1.1.1, hh.1.1.2, hh.1.2, hh.2⟩, h.symm⟩
 ·cases h
theorem mk5_of {m : Int} {n a b c d : List UInt8} (ha : pnOk a m = true) (hb : pnOk b m = true) (hc : pnOk c m = true) (hd : pnOk d m = true) : mk5 m n a b c d = some ⟨⟨n.toArray⟩, pnVal a m, pnVal b m, pnVal c m, pnVal d m⟩ := by
 unfold mk5
 rw [ha, hb, hc, hd]
 rfl
theorem one_to {p : List UInt8} {x : Db} (hs : 59 ∉ p) (h : oneI p = some x) (hx : dbB x = true) : dbOf p = some x ∧ p.length ≤ 32 := by
 unfold oneI at h
 cases hc : chunk p [] [] with
 | none => rw [hc] at h; cases h
 | some qs =>
  rw [hc] at h
  obtain ⟨n, a, b, c, d, rfl, rfl, fn, fa, fb, fc, fd⟩ := chunk_parts hc hs
  have h' : mk5 65535 n a b c d = some x := h
  obtain ⟨⟨oa, ob, oc, od⟩, rfl⟩ := mk5_some h'
  obtain ⟨hn, v1, v2, v3, v4⟩ := dbB_parts hx
  obtain ⟨a1, a2⟩ := pn_down oa v1
  obtain ⟨b1, b2⟩ := pn_down ob v2
  obtain ⟨c1, c2⟩ := pn_down oc v3
  obtain ⟨d1, d2⟩ := pn_down od v4
  have la := pn_len oa
  have lb := pn_len ob
  have lc := pn_len oc
  have ld := pn_len od
  have ln := (name_free hn).2
  refine ⟨?_, by simp at ln ⊢; omega⟩
  have m1 : (58 : UInt8) ∉ a ++ 47 :: (b ++ 47 :: (c ++ 47 :: d)) := by
   simp only [List.mem_append, List.mem_cons, not_or]
   exact ⟨fa.not (by decide), by decide, fb.not (by decide), by decide, fc.not (by decide), by decide, fd.not (by decide)⟩
  have e1 : splitB 58 [] (n ++ 58 :: (a ++ 47 :: (b ++ 47 :: (c ++ 47 :: d)))) = [n, a ++ 47 :: (b ++ 47 :: (c ++ 47 :: d))] := by
   rw [split_some (fn.not (by decide)), split_none m1]
   simp
  have e2 : splitB 47 [] (a ++ 47 :: (b ++ 47 :: (c ++ 47 :: d))) = [a, b, c, d] := by
   rw [split_some (fa.not (by decide)), split_some (fb.not (by decide)), split_some (fc.not (by decide)), split_none (fd.not (by decide))]
   simp
  unfold dbOf
  rw [e1]
  simp only []
  rw [e2]
  simp only []
  rw [mk5_of a1 b1 c1 d1, a2, b2, c2, d2]
theorem to_one {p : List UInt8} {x : Db} (h : dbOf p = some x) (hx : dbB x = true) : oneI p = some x := by
 unfold dbOf at h
 split at h
 ·rename_i n r h58
  split at h
  ·rename_i a b c d h47
   obtain ⟨⟨oa, ob, oc, od⟩, rfl⟩ := mk5_some h
   obtain ⟨hn, _⟩ := dbB_parts hx
   have fn : NoMk n := by simpa using (name_free hn).1
   have en : p = n ++ 58 :: r := by
    rcases split_cons h58 with ⟨h0, _⟩ | ⟨r', e, _, h2⟩
    ·cases h0
    ·rcases split_cons h2 with ⟨_, e2, _⟩ | ⟨r2, _, _, h3⟩
     ·rw [e, e2]
     ·exact absurd h3 (split_ne _ _)
   have er : r = a ++ 47 :: (b ++ 47 :: (c ++ 47 :: d)) := by
    rcases split_cons h47 with ⟨h0, _⟩ | ⟨r1, e1, _, h1⟩
    ·cases h0
    rcases split_cons h1 with ⟨h0, _⟩ | ⟨r2, e2, _, h2⟩
    ·cases h0
    rcases split_cons h2 with ⟨h0, _⟩ | ⟨r3, e3, _, h3⟩
    ·cases h0
    rcases split_cons h3 with ⟨_, e4, _⟩ | ⟨r4, _, _, h4⟩
    ·rw [e1, e2, e3, e4]
    ·exact absurd h4 (split_ne _ _)
   subst en er
   obtain ⟨a1, a2⟩ := pn_up oa
   obtain ⟨b1, b2⟩ := pn_up ob
   obtain ⟨c1, c2⟩ := pn_up oc
   obtain ⟨d1, d2⟩ := pn_up od
   unfold oneI
   rw [parts_chunk fn (pn_free oa) (pn_free ob) (pn_free oc) (pn_free od)]
   show mk5 65535 n a b c d = _
   rw [mk5_of a1 b1 c1 d1, a2, b2, c2, d2]
  ·cases h
 ·cases h
theorem all_cons {f : List UInt8 → Option Db} {p : List UInt8} {r : List (List UInt8)} {xs : List Db} (h : allOf f (p :: r) = some xs) : ∃ d ys, f p = some d ∧ allOf f r = some ys ∧ xs = d :: ys := by
 unfold allOf at h
 split at h
 ·cases h
 ·rename_i d hd
  split at h
  ·cases h
  ·rename_i ys hy
   injection h with h
   exact ⟨d, ys, hd, hy, h.symm⟩
theorem all_mk {f : List UInt8 → Option Db} {p : List UInt8} {r : List (List UInt8)} {d : Db} {ys : List Db} (h1 : f p = some d) (h2 : allOf f r = some ys) : allOf f (p :: r) = some (d :: ys) := by
 unfold allOf
 rw [h1]
 simp only []
 rw [h2]
theorem all_to : ∀ (n : Nat) (s : List UInt8) (xs : List Db), s.length ≤ n → allOf oneI (splitB 59 [] s) = some xs → (∀ d, d ∈ xs → dbB d = true) → allOf dbOf (splitB 59 [] s) = some xs ∧ s.length + 1 ≤ 33 * xs.length := by
 intro n
 induction n with
 | zero =>
  intro s xs h
  obtain rfl : s = [] := List.eq_nil_of_length_eq_zero (by omega)
  intro h1 _
  have e : splitB 59 [] [] = [[]] := rfl
  rw [e] at h1
  obtain ⟨d, ys, hd, _, _⟩ := all_cons h1
  cases hd
 | succ n ih =>
  intro s xs hl h hx
  rcases cut_at 59 s with h0 | ⟨x, r, rfl, h0⟩
  ·rw [split_none h0, List.nil_append] at h ⊢
   obtain ⟨d, ys, hd, hy, rfl⟩ := all_cons h
   obtain rfl : ys = [] := by cases hy; rfl
   obtain ⟨h1, h2⟩ := one_to h0 hd (hx d (by simp))
   exact ⟨all_mk h1 rfl, by simp; omega⟩
  ·rw [split_some h0, List.nil_append] at h ⊢
   obtain ⟨d, ys, hd, hy, rfl⟩ := all_cons h
   obtain ⟨h1, h2⟩ := one_to h0 hd (hx d (by simp))
   obtain ⟨h3, h4⟩ := ih r ys (by simp at hl; omega) hy (fun z hz => hx z (by simp [hz]))
   exact ⟨all_mk h1 h3, by simp; omega⟩
theorem to_all : ∀ (l : List (List UInt8)) (xs : List Db), allOf dbOf l = some xs → (∀ d, d ∈ xs → dbB d = true) → allOf oneI l = some xs := by
 intro l
 induction l with
 | nil => intro xs h _; exact h
 | cons p r ih =>
  intro xs h hx
  obtain ⟨d, ys, hd, hy, rfl⟩ := all_cons h
  exact all_mk (to_one hd (hx d (by simp))) (ih ys hy fun z hz => hx z (by simp [hz]))
theorem conf_dbs {xs : List Db} (h : confB xs = true) : (∀ d, d ∈ xs → dbB d = true) ∧ xs.length ≤ 3 := by
 have hg := confB_good h
 refine ⟨fun d hd => ?_, hg.1.2⟩
 obtain ⟨i, hi⟩ := List.mem_iff_getElem?.1 hd
 exact hg.2.1 i d (List.getElem?_eq_some_iff.1 hi).1 hi
theorem okOf_yes {o : Option (List Db)} {xs : List Db} (h : o = some xs) (hc : confB xs = true) : okOf o = (xs, true) := by
 subst h
 unfold okOf
 simp [hc]
theorem okOf_no {o : Option (List Db)} (h : ∀ xs, o = some xs → confB xs = true → False) : okOf o = ([], false) := by
 unfold okOf
 split
 ·rename_i xs
  rw [if_neg fun hc => h xs rfl hc]
 ·rfl
theorem parse_eq (s : List UInt8) : parseI s = parseS s := by
 have hr := run_all s.length s [] (Nat.le_refl _)
 by_cases hex : ∃ xs, allOf oneI (splitB 59 [] s) = some xs ∧ confB xs = true
 ·obtain ⟨xs, h1, h2⟩ := hex
  obtain ⟨hd, hl⟩ := conf_dbs h2
  obtain ⟨h3, h4⟩ := all_to s.length s xs (Nat.le_refl _) h1 hd
  rw [h1] at hr
  unfold parseI parseS
  rw [if_neg (by omega), okOf_yes hr (by simpa using h2), okOf_yes h3 h2]
  simp
 ·have e1 : parseI s = ([], false) := by
   unfold parseI
   refine okOf_no fun xs hx hc => ?_
   rw [hr] at hx
   cases h1 : allOf oneI (splitB 59 [] s) with
   | none => rw [h1] at hx; cases hx
   | some ys =>
    rw [h1] at hx
    injection hx with hx
    simp only [List.nil_append] at hx
    subst hx
    exact hex ⟨ys, h1, hc⟩
  rw [e1]
  unfold parseS
  split
  ·rfl
  ·refine (okOf_no fun xs hx hc => ?_).symm
   exact hex ⟨xs, to_all _ xs hx (conf_dbs hc).1, hc⟩
def ptB (l : List UInt8) (s : List UInt8) : List UInt8 := if okB s then l ++ (u8 s.length :: s) else l
theorem okB_len {l : List UInt8} (h : okB l = true) : l.length ≤ 100 := by
 unfold okB at h
 rw [Bool.and_eq_true] at h
 exact of_decide_eq_true h.1
theorem ptB_len (l s : List UInt8) : (ptB l s).length ≤ l.length + 101 := by
 unfold ptB
 by_cases h : okB s = true
 ·have := okB_len h
  rw [if_pos h]; simp; omega
 ·rw [if_neg h]; omega
theorem one_byte (n : Nat) (h : n < 256) : [Value.int .u8 (n : Int)] = bys [u8 n] := by
 simp only [bys, List.map_cons, List.map_nil, u8_cell]
 rw [Int.emod_eq_of_lt (by omega) (by omega)]
theorem reads_str (w : World) (s : ByteArray) (e : TypeId) (cap : Nat) (f : Nat × Nat) :
  Reads (w.drew.alloc (.cells (bytesRow s cap) e f)) (w.drew.alloc (.cells (bytesRow s cap) e f)).heap.size 1 (some ⟨w.heap.size, 0, none⟩) s.data.toList.length (bys s.data.toList) := by
 refine ⟨by simp [bys], fun _ => ⟨_, rfl, by simp, fun j u hu => ?_⟩⟩
 have hadd : (⟨w.heap.size, 0, none⟩ : Addr).add j = ⟨w.heap.size, j, none⟩ := by unfold Addr.add; split <;> simp_all
 rw [hadd, cell_of_row _ w.heap.size j (bytesRow s cap) e f (heap_alloc_new w.drew _)]
 have hj : j < s.data.size := by
  rcases Nat.lt_or_ge j s.data.size with h | h
  ·exact h
  ·rw [List.getElem?_eq_none (by simpa [bys] using h)] at hu; cases hu
 simp only [bytesRow]
 simp only [bys, List.getElem?_map] at hu
 rw [← hu]
 have hjs : j < s.size := hj
 simp [Array.getElem?_append, hjs]
set_option maxHeartbeats 400000 in
theorem putText_any (A : Option Addr) (c : Nat) (s : ByteArray) (l : List UInt8) (w : World) (h : Reads w w.heap.size 1 A l.length (bys l)) (hn : l.length ≤ 100000000) (hs : s.size ≤ 100000000) :
  Calls Tryz.prog 146 #[.slice A l.length c, .string s] w fun e w' => ∃ v, e = .returned v ∧ Owns w' w.heap.size 5 v (ptB l s.data.toList) ∧ Below w.heap.size w w' := by
 by_cases hok : okB s.data.toList = true
 ·have hsz : s.size ≤ 100 := by simpa using okB_len hok
  have HP := Lib.hid (show ptB l s.data.toList = l ++ (u8 s.size :: s.data.toList) by unfold ptB; rw [if_pos hok]; simp)
  have hcv := fun w => run_bytes_of_string (P := Tryz.prog) w 9 22 5 s Tryz.underlying9 Tryz.underlying22 Tryz.underlying5
  go_enter Tryz.func146, Tryz.ntmps146
  go_wp2_with fail
  refine (textOk_any s w (by omega)).mono ?_
  rintro e w1 ⟨rfl, rfl⟩
  go_wp2_with fail
  have hnew := reads_new w #[.int .u8 (s.size : Int)] 1 5 rfl (by simp [maxLen])
  rw [show (#[Value.int .u8 (s.size : Int)] : Array Value).toList = bys [u8 s.size] from one_byte s.size (by omega)] at hnew
  refine (joined_any A _ c 1 l [u8 s.size] _ ((h.alloc (Nat.le_refl _) _).more (by simp)) hnew (by omega) (by simp)).mono ?_
  clear hnew
  rintro e w1 ⟨v1, rfl, hown1, hb1⟩
  have hW1 : Below w.heap.size w w1 := ((Below.refl _ _).alloc (Nat.le_refl _) _).trans (hb1.mono (by simp))
  replace hown1 := ownsRow_mono hown1 (show w.heap.size ≤ _ by simp)
  obtain ⟨L1, hL1, hL1n⟩ : ∃ L1, l ++ [u8 s.size] = L1 ∧ L1.length ≤ 200000000 := ⟨_, rfl, by simp; omega⟩
  rw [hL1] at hown1
  have HL1 := Lib.hid hL1
  clear hL1
  obtain ⟨A1, c1, rfl, _, _, hr1, _⟩ := Owns.shape hown1
  clear hb1 hown1
  go_wp2_with fail
  have hrs := reads_str w1 s 5 (grownCap w1 s.size 0 5) ((bytesRow s (grownCap w1 s.size 0 5)).size, (bytesRow s (grownCap w1 s.size 0 5)).size + 1)
  have J := joined_any A1 _ c1 (grownCap w1 s.size 0 5) L1 s.data.toList _ ((hr1.drew.alloc (Nat.le_refl _) _).more (by simp)) hrs (by omega) (by simp; omega)
  rw [show s.data.toList.length = s.size by simp] at J
  refine J.mono ?_
  clear J hrs hr1
  rintro e w2 ⟨v2, rfl, hown2, hb2⟩
  have hW2 : Below w.heap.size w w2 := (hW1.drew.alloc hW1.size _).trans (hb2.mono (Nat.le_trans hW1.size (by simp)))
  replace hown2 := ownsRow_mono hown2 (show w.heap.size ≤ _ from Nat.le_trans hW1.size (by simp))
  go_wp2_with fail
  go_ret
  refine ⟨v2, rfl, ?_, hW2⟩
  rw [HP.out]
  rw [← HL1.out] at hown2
  simpa [Owns] using hown2
 ·have hokf : okB s.data.toList = false := by simpa using hok
  have HP := Lib.hid (show ptB l s.data.toList = l ++ [] by unfold ptB; rw [if_neg hok]; simp)
  clear hok
  go_enter Tryz.func146, Tryz.ntmps146
  go_wp2_with fail
  refine (textOk_any s w (by omega)).mono ?_
  rintro e w1 ⟨rfl, rfl⟩
  go_wp2_with fail
  refine (joined_any A none c 0 l [] w h Reads.none_ (by omega) (by simp)).mono ?_
  rintro e w1 ⟨v, rfl, hown, hb⟩
  go_wp2_with fail
  go_ret
  exact ⟨v, rfl, by rw [HP.out]; exact hown, hb⟩
theorem strCells_bys (s : ByteArray) : Lib.strCells s = bys s.data.toList := rfl
set_option maxHeartbeats 1000000 in
theorem putTextS_any (A : Option Addr) (c : Nat) (s : ByteArray) (l : List UInt8) (w : World) (h : Reads w w.heap.size 1 A l.length (bys l)) (hn : l.length ≤ 100000000) (hs : s.size ≤ 100000000) :
    Calls Tryz.prog 96 #[.slice A l.length c, .string s] w fun e w' => ∃ v, e = .returned v ∧ Owns w' w.heap.size 5 v (ptB l s.data.toList) ∧ Below w.heap.size w w' := by
  obtain ⟨i0, hi0, hz0, hz1, hz2⟩ := info_parts Tryz.info8
  have hb0 : Below w.heap.size w (w.alloc (.cells #[] 5)) := (Below.refl _ _).alloc (Nat.le_refl _) _
  have hown0 : (w.alloc (.cells #[] 5)).ownsRow w.heap.size 5 1 (.slice (some ⟨w.heap.size, 0, none⟩) 0 0) 0 [] := World.ownsRow_lit w #[] 0 (Nat.le_refl _) (by simp) rfl
  by_cases hok : okB s.data.toList = true
  · have hsz : s.size ≤ 100 := by simpa using okB_len hok
    have HP := Lib.hid (show ptB l s.data.toList = l ++ (u8 s.size :: s.data.toList) by unfold ptB; rw [if_pos hok]; simp)
    go_enter Tryz.func96, Tryz.ntmps96
    go_wp2_with (first
     | (at_builtin
        refine wpList_append_any _ rfl (.tmp 6) (.tmp 7) _ rfl w.heap.size 5 i0 _ 1 1 Tryz.underlying22 hi0 hz0 hz1 hz2 rfl (by omega) _ 0 [] rfl hown0 w.heap.size A l.length c (bys l) rfl (h.below hb0) (bys_one l) (by simp only [maxLen]; omega) (by omega) hb0.size ?_
        intro v2 w2 hown2 hg2 hat2
        have hb2 : Below w.heap.size w w2 := hb0.grown hg2 hb0.size (fun k hk => (hown0.lt k hk).1)
        clear hown0 hg2 hat2)
     | fail)
    refine (textOkS_any s w2 (by omega)).mono ?_
    rintro e w3 ⟨rfl, rfl⟩
    go_wp2_with (first
     | (at_builtin
        have hnew := reads_new w2 #[.int .u8 (s.size : Int)] 1 5 rfl (by simp [maxLen])
        refine wpList_append_any _ rfl (.tmp 13) (.tmp 17) _ rfl w.heap.size 5 i0 _ 1 1 Tryz.underlying22 hi0 hz0 hz1 hz2 rfl (by omega) v2 (0 + l.length) ([] ++ bys l) rfl (hown2.alloc _) _ _ 1 _ _ rfl hnew (by simp; rfl) (by simp only [maxLen]; omega) (by omega) (Nat.le_trans hb2.size (by simp)) ?_
        clear hnew
        intro v3 w3 hown3 hg3 hat3
        have hb3 : Below w.heap.size w w3 := (hb2.alloc hb2.size _).grown hg3 (Nat.le_trans hb2.size (by simp)) (fun k hk => (hown2.lt k hk).1)
        clear hg3 hat3)
     | (at_builtin
        refine Lib.wpList_append_own_string _ rfl (.tmp 18) (.tmp 19) _ _ rfl w.heap.size 5 i0 Tryz.underlying22 Tryz.underlying9 hi0 hz0 hz1 hz2 v3 _ _ rfl hown3 s rfl (by simp only [maxLen]; omega) (by omega) hb3.size ?_
        intro v4 w4 hown4 hg4 _))
    go_ret
    refine ⟨v4, rfl, ?_, hb3.grown hg4 hb3.size (fun k hk => (hown3.lt k hk).1)⟩
    rw [HP.out]
    have e1 : [Value.int .u8 (s.size : Int)] = bys [u8 s.size] := one_byte s.size (by omega)
    rw [e1, strCells_bys] at hown4
    unfold Owns
    rw [show bys (l ++ (u8 s.size :: s.data.toList)) = [] ++ bys l ++ bys [u8 s.size] ++ bys s.data.toList by simp [bys]]
    rw [show (l ++ (u8 s.size :: s.data.toList)).length = 0 + l.length + 1 + s.size by simp; omega]
    exact hown4
  · have hokf : okB s.data.toList = false := by simpa using hok
    have HP := Lib.hid (show ptB l s.data.toList = l by unfold ptB; rw [if_neg hok])
    clear hok
    go_enter Tryz.func96, Tryz.ntmps96
    go_wp2_with (first
     | (at_builtin
        refine wpList_append_any _ rfl (.tmp 6) (.tmp 7) _ rfl w.heap.size 5 i0 _ 1 1 Tryz.underlying22 hi0 hz0 hz1 hz2 rfl (by omega) _ 0 [] rfl hown0 w.heap.size A l.length c (bys l) rfl (h.below hb0) (bys_one l) (by simp only [maxLen]; omega) (by omega) hb0.size ?_
        intro v2 w2 hown2 hg2 hat2
        have hb2 : Below w.heap.size w w2 := hb0.grown hg2 hb0.size (fun k hk => (hown0.lt k hk).1)
        clear hown0 hg2 hat2)
     | fail)
    refine (textOkS_any s w2 (by omega)).mono ?_
    rintro e w3 ⟨rfl, rfl⟩
    go_wp2_with fail
    go_ret
    exact ⟨v2, rfl, by rw [HP.out]; simpa [Owns] using hown2, hb2⟩
def gtO (l : List UInt8) (p : Int) : Option (List UInt8 × Int) :=
 if p < 0 ∨ (l.length : Int) ≤ p then none else
 if (l.length : Int) - (p + 1) < ((l.getD p.toNat 0).toNat : Int) then none else
 if okB ((l.drop (p.toNat + 1)).take (l.getD p.toNat 0).toNat) then some ((l.drop (p.toNat + 1)).take (l.getD p.toNat 0).toNat, p + 1 + ((l.getD p.toNat 0).toNat : Int)) else none
def gtS (l : List UInt8) (p : Int) : ByteArray := match gtO l p with | some x => ⟨x.1.toArray⟩ | none => ⟨#[]⟩
def gtN (l : List UInt8) (p : Int) : Int := match gtO l p with | some x => x.2 | none => 0
def gtB (l : List UInt8) (p : Int) : Bool := (gtO l p).isSome
theorem gt_none {l : List UInt8} {p : Int} (h : gtO l p = none) : gtS l p = ⟨#[]⟩ ∧ gtN l p = 0 ∧ gtB l p = false := by simp [gtS, gtN, gtB, h]
theorem gt_some {l : List UInt8} {p : Int} {x : List UInt8 × Int} (h : gtO l p = some x) : gtS l p = ⟨x.1.toArray⟩ ∧ gtN l p = x.2 ∧ gtB l p = true := by simp [gtS, gtN, gtB, h]
theorem gt_out {l : List UInt8} {p : Int} (h : p < 0 ∨ (l.length : Int) ≤ p) : gtO l p = none := by unfold gtO; rw [if_pos h]
theorem gt_in {l : List UInt8} {k : Nat} {u : UInt8} (hk : k < l.length) (hu : l[k]? = some u) :
  gtO l k = if (l.length : Int) - ((k : Int) + 1) < (u.toNat : Int) then none else if okB ((l.drop (k + 1)).take u.toNat) then some ((l.drop (k + 1)).take u.toNat, (k : Int) + 1 + u.toNat) else none := by
 unfold gtO
 rw [if_neg (by omega)]
 simp [hu]
theorem ret_sib {k' : IntKind} {a a' : ByteArray} {b b' : Int} {c c' : Bool} (h1 : a = a') (h2 : b = b') (h3 : c = c') : Ending.returned (.tuple #[.string a, .int k' b, .bool c]) = .returned (.tuple #[.string a', .int k' b', .bool c']) := by rw [h1, h2, h3]
set_option maxHeartbeats 1000000 in
theorem getText_any (A : Option Addr) (c : Nat) (p : Int) (l : List UInt8) (w : World) (h : Reads w w.heap.size 1 A l.length (bys l)) (hn : l.length ≤ 100000000) (hc : l.length ≤ c) :
  Calls Tryz.prog 145 #[.slice A l.length c, .int .i64 p] w fun e w' => e = .returned (.tuple #[.string (gtS l p), .int .i64 (gtN l p), .bool (gtB l p)]) ∧ w = w' := by
 obtain ⟨i0, hi0, hz0, hz1, hz2⟩ := info_parts Tryz.info8
 by_cases h0 : p < 0
 ·obtain ⟨e1, e2, e3⟩ := gt_none (gt_out (l := l) (.inl h0))
  have E1 := Lib.hid e1
  have E2 := Lib.hid e2
  have E3 := Lib.hid e3
  clear e1 e2 e3
  go_enter Tryz.func145, Tryz.ntmps145
  go_wp2
  go_ret3
  exact ⟨ret_sib E1.out.symm E2.out.symm E3.out.symm, rfl⟩
 ·obtain ⟨k, rfl⟩ := Int.eq_ofNat_of_zero_le (by omega : 0 ≤ p)
  by_cases h1 : (l.length : Int) ≤ (k : Int)
  ·obtain ⟨e1, e2, e3⟩ := gt_none (gt_out (l := l) (.inr h1))
   have E1 := Lib.hid e1
   have E2 := Lib.hid e2
   have E3 := Lib.hid e3
   clear e1 e2 e3
   go_enter Tryz.func145, Tryz.ntmps145
   go_wp2
   go_ret3
   exact ⟨ret_sib E1.out.symm E2.out.symm E3.out.symm, rfl⟩
  ·obtain ⟨b, off, x, rfl, _, hx, hcx⟩ := h.byte (k := k) (by omega)
   have hxl := byte_lt x
   have HG := Lib.hid (gt_in (by omega) hx)
   clear hx
   have i1 : (0 : Int) ≤ (k : Int) := by omega
   have i2 : (k : Int) < (l.length : Int) := by omega
   by_cases h2 : (l.length : Int) - ((k : Int) + 1) < (x.toNat : Int)
   ·obtain ⟨e1, e2, e3⟩ := gt_none (by rw [HG.out, if_pos h2] : gtO l k = none)
    have E1 := Lib.hid e1
    have E2 := Lib.hid e2
    have E3 := Lib.hid e3
    clear e1 e2 e3
    go_enter Tryz.func145, Tryz.ntmps145
    go_wp2
    go_ret3
    exact ⟨ret_sib E1.out.symm E2.out.symm E3.out.symm, rfl⟩
   ·obtain ⟨A', hrun, hrd⟩ := slice_reads Tryz.underlying22 hi0 hz1 (A := some ⟨b, off, none⟩) (n := l.length) (c := c) (lo := k + 1) (hi' := k + 1 + x.toNat) .i64 .i64 (by omega) (by omega) hc
    have hrd' := hrd h
    rw [show k + 1 + x.toNat - (k + 1) = x.toNat by omega] at hrd' hrun
    have hsl : ∀ w, (Instr.slice 22 (.slice (some ⟨b, off, none⟩) l.length c) (some (.int .i64 ((k : Int) + 1))) (some (.int .i64 ((k : Int) + 1 + (x.toNat : Int)))) none).run Tryz.prog w = .ok (.slice A' x.toNat (c - (k + 1))) w := by
     intro w
     have := hrun w
     rwa [show (((k + 1 : Nat) : Int)) = (k : Int) + 1 by omega, show (((k + 1 + x.toNat : Nat) : Int)) = (k : Int) + 1 + (x.toNat : Int) by omega] at this
    clear hrun hrd
    obtain ⟨s, hs⟩ : ∃ s, (l.drop (k + 1)).take x.toNat = s := ⟨_, rfl⟩
    have HS := Lib.hid hs
    rw [hs] at hrd'
    clear hs
    have hsl0 := hrd'.len
    have hss : (⟨s.toArray⟩ : ByteArray).size ≤ 1000 := by
     show s.toArray.size ≤ 1000
     rw [List.size_toArray, hsl0]; omega
    have hcv := string_run (P := Tryz.prog) (src := 22) (dst := 9) Tryz.underlying22 Tryz.underlying5 Tryz.underlying9 (c := c - (k + 1)) hrd'
    clear hsl0 hrd'
    by_cases hok : okB s = true
    ·obtain ⟨e1, e2, e3⟩ := gt_some (by rw [HG.out, if_neg h2, HS.out, if_pos hok] : gtO l k = some (s, (k : Int) + 1 + x.toNat))
     have E1 := Lib.hid e1
     have E2 := Lib.hid e2
     have E3 := Lib.hid e3
     clear e1 e2 e3
     go_enter Tryz.func145, Tryz.ntmps145
     go_wp2_with fail
     refine (textOk_any ⟨s.toArray⟩ w (by omega)).mono ?_
     rintro e w3 ⟨rfl, rfl⟩
     go_wp2_with fail
     go_ret3
     exact ⟨ret_sib E1.out.symm E2.out.symm E3.out.symm, rfl⟩
    ·obtain ⟨e1, e2, e3⟩ := gt_none (by rw [HG.out, if_neg h2, HS.out, if_neg hok] : gtO l k = none)
     have E1 := Lib.hid e1
     have E2 := Lib.hid e2
     have E3 := Lib.hid e3
     have hokf : okB s = false := by simpa using hok
     clear e1 e2 e3 hok
     go_enter Tryz.func145, Tryz.ntmps145
     go_wp2_with fail
     refine (textOk_any ⟨s.toArray⟩ w (by omega)).mono ?_
     rintro e w3 ⟨rfl, rfl⟩
     go_wp2_with fail
     go_ret3
     exact ⟨ret_sib E1.out.symm E2.out.symm E3.out.symm, rfl⟩
set_option maxHeartbeats 1000000 in
theorem getTextS_any (A : Option Addr) (c : Nat) (p : Int) (l : List UInt8) (w : World) (h : Reads w w.heap.size 1 A l.length (bys l)) (hn : l.length ≤ 100000000) (hc : l.length ≤ c) :
  Calls Tryz.prog 118 #[.slice A l.length c, .int .i64 p] w fun e w' => e = .returned (.tuple #[.string (gtS l p), .int .i64 (gtN l p), .bool (gtB l p)]) ∧ w = w' := by
 obtain ⟨i0, hi0, hz0, hz1, hz2⟩ := info_parts Tryz.info8
 by_cases h0 : p < 0
 ·obtain ⟨e1, e2, e3⟩ := gt_none (gt_out (l := l) (.inl h0))
  have E1 := Lib.hid e1
  have E2 := Lib.hid e2
  have E3 := Lib.hid e3
  clear e1 e2 e3
  go_enter Tryz.func118, Tryz.ntmps118
  go_wp2
  go_ret3
  exact ⟨ret_sib E1.out.symm E2.out.symm E3.out.symm, rfl⟩
 ·obtain ⟨k, rfl⟩ := Int.eq_ofNat_of_zero_le (by omega : 0 ≤ p)
  by_cases h1 : (l.length : Int) ≤ (k : Int)
  ·obtain ⟨e1, e2, e3⟩ := gt_none (gt_out (l := l) (.inr h1))
   have E1 := Lib.hid e1
   have E2 := Lib.hid e2
   have E3 := Lib.hid e3
   clear e1 e2 e3
   go_enter Tryz.func118, Tryz.ntmps118
   go_wp2
   go_ret3
   exact ⟨ret_sib E1.out.symm E2.out.symm E3.out.symm, rfl⟩
  ·obtain ⟨b, off, x, rfl, _, hx, hcx⟩ := h.byte (k := k) (by omega)
   have hxl := byte_lt x
   have HG := Lib.hid (gt_in (by omega) hx)
   clear hx
   have i1 : (0 : Int) ≤ (k : Int) := by omega
   have i2 : (k : Int) < (l.length : Int) := by omega
   by_cases h2 : (l.length : Int) - ((k : Int) + 1) < (x.toNat : Int)
   ·have h2' : (l.length : Int) - (k : Int) - 1 < (x.toNat : Int) := by omega
    obtain ⟨e1, e2, e3⟩ := gt_none (by rw [HG.out, if_pos h2] : gtO l k = none)
    have E1 := Lib.hid e1
    have E2 := Lib.hid e2
    have E3 := Lib.hid e3
    clear e1 e2 e3
    go_enter Tryz.func118, Tryz.ntmps118
    go_wp2
    go_ret3
    exact ⟨ret_sib E1.out.symm E2.out.symm E3.out.symm, rfl⟩
   ·have h2' : ¬ (l.length : Int) - (k : Int) - 1 < (x.toNat : Int) := by omega
    obtain ⟨A', hrun, hrd⟩ := slice_reads Tryz.underlying22 hi0 hz1 (A := some ⟨b, off, none⟩) (n := l.length) (c := c) (lo := k + 1) (hi' := k + 1 + x.toNat) .i64 .i64 (by omega) (by omega) hc
    have hrd' := hrd h
    rw [show k + 1 + x.toNat - (k + 1) = x.toNat by omega] at hrd' hrun
    have hsl : ∀ w, (Instr.slice 22 (.slice (some ⟨b, off, none⟩) l.length c) (some (.int .i64 ((k : Int) + 1))) (some (.int .i64 ((k : Int) + 1 + (x.toNat : Int)))) none).run Tryz.prog w = .ok (.slice A' x.toNat (c - (k + 1))) w := by
     intro w
     have := hrun w
     rwa [show (((k + 1 : Nat) : Int)) = (k : Int) + 1 by omega, show (((k + 1 + x.toNat : Nat) : Int)) = (k : Int) + 1 + (x.toNat : Int) by omega] at this
    clear hrun hrd
    obtain ⟨s, hs⟩ : ∃ s, (l.drop (k + 1)).take x.toNat = s := ⟨_, rfl⟩
    have HS := Lib.hid hs
    rw [hs] at hrd'
    clear hs
    have hsl0 := hrd'.len
    have hss : (⟨s.toArray⟩ : ByteArray).size ≤ 1000 := by
     show s.toArray.size ≤ 1000
     rw [List.size_toArray, hsl0]; omega
    have hcv := string_run (P := Tryz.prog) (src := 22) (dst := 9) Tryz.underlying22 Tryz.underlying5 Tryz.underlying9 (c := c - (k + 1)) hrd'
    clear hsl0 hrd'
    by_cases hok : okB s = true
    ·obtain ⟨e1, e2, e3⟩ := gt_some (by rw [HG.out, if_neg h2, HS.out, if_pos hok] : gtO l k = some (s, (k : Int) + 1 + x.toNat))
     have E1 := Lib.hid e1
     have E2 := Lib.hid e2
     have E3 := Lib.hid e3
     clear e1 e2 e3
     go_enter Tryz.func118, Tryz.ntmps118
     go_wp2_with fail
     refine (textOkS_any ⟨s.toArray⟩ w (by omega)).mono ?_
     rintro e w3 ⟨rfl, rfl⟩
     go_wp2_with fail
     go_ret3
     exact ⟨ret_sib E1.out.symm E2.out.symm E3.out.symm, rfl⟩
    ·obtain ⟨e1, e2, e3⟩ := gt_none (by rw [HG.out, if_neg h2, HS.out, if_neg hok] : gtO l k = none)
     have E1 := Lib.hid e1
     have E2 := Lib.hid e2
     have E3 := Lib.hid e3
     have hokf : okB s = false := by simpa using hok
     clear e1 e2 e3 hok
     go_enter Tryz.func118, Tryz.ntmps118
     go_wp2_with fail
     refine (textOkS_any ⟨s.toArray⟩ w (by omega)).mono ?_
     rintro e w3 ⟨rfl, rfl⟩
     go_wp2_with fail
     go_ret3
     exact ⟨ret_sib E1.out.symm E2.out.symm E3.out.symm, rfl⟩
theorem ofNat_toNat {k : Nat} (h : k < 256) : (UInt8.ofNat k).toNat = k := by
 rw [UInt8.toNat_ofNat', Nat.mod_eq_of_lt h]
theorem digit_is {k : Nat} (h : k < 10) : isDg (UInt8.ofNat (48 + k)) = true ∧ dgVal (UInt8.ofNat (48 + k)) = k := by
 have e := ofNat_toNat (k := 48 + k) (by omega)
 exact ⟨isDg_yes (by omega) (by omega), by unfold dgVal; omega⟩
theorem nDigits_le5 : ∀ (k u : Nat), 1 ≤ k → u < 10 ^ k → Lib.nDigits u ≤ k := by
 intro k
 induction k with
 | zero => intro u h; omega
 | succ k ih =>
  intro u _ hu
  rw [Lib.nDigits]
  split
  ·omega
  ·rename_i h10
   have hk : 1 ≤ k := by
    rcases Nat.eq_zero_or_pos k with h0 | h0
    ·subst h0; omega
    ·exact h0
   have := ih (u / 10) hk (by rw [Nat.pow_succ] at hu; omega)
   omega
theorem dec_acc (n : Nat) : pnAcc (Lib.decDigits n) = n ∧ (Lib.decDigits n).all isDg = true := by
 induction n using Nat.strongRecOn with
 | ind n ih =>
  rw [Lib.decDigits]
  by_cases h : n < 10
  ·rw [dif_pos h]
   obtain ⟨h1, h2⟩ := digit_is h
   exact ⟨by show 0 * 10 + dgVal _ = n; omega, by rw [List.all_cons, h1]; rfl⟩
  ·rw [dif_neg h]
   obtain ⟨i1, i2⟩ := ih (n / 10) (by omega)
   obtain ⟨h1, h2⟩ := digit_is (k := n % 10) (by omega)
   refine ⟨by rw [pnAcc_snoc, i1, h2]; omega, ?_⟩
   rw [List.all_append, i2, List.all_cons, h1]
   rfl
theorem pn_itoa (m : Int) : (pnOk (Lib.itoa m) 65535 = decide (0 ≤ m ∧ m ≤ 65535)) ∧ (0 ≤ m → m ≤ 65535 → pnVal (Lib.itoa m) 65535 = m) := by
 by_cases h0 : 0 ≤ m
 ·obtain ⟨n, rfl⟩ := Int.eq_ofNat_of_zero_le h0
  rw [Lib.itoa_nonneg]
  obtain ⟨h1, h2⟩ := dec_acc n
  have h3 := pnTo_lt _ h2
  rw [h1] at h3
  by_cases hn : n ≤ 65535
  ·have hl5 : (Lib.decDigits n).length ≤ 5 := by rw [Lib.decDigits_length]; exact nDigits_le5 5 n (by omega) (by omega)
   have hl1 : 1 ≤ (Lib.decDigits n).length := List.length_pos_iff.2 (dec_ne_nil n)
   have hz : (Lib.decDigits n).length = 1 ∨ (Lib.decDigits n)[0]? ≠ some 48 := by
    rcases Nat.eq_zero_or_pos n with h | h
    ·subst h; exact .inl (by rw [Lib.decDigits_one (by omega)]; rfl)
    ·exact .inr (dec_head n h)
   obtain ⟨e1, e2⟩ := pn_yes (l := Lib.decDigits n) (most := 65535) ⟨hl1, hl5, by omega, hz, h2, by rw [h1]; omega⟩
   rw [e1, e2, h1]
   exact ⟨by symm; rw [decide_eq_true_iff]; omega, fun _ _ => rfl⟩
  ·obtain ⟨e1, e2⟩ := pn_no (l := Lib.decDigits n) (most := 65535) (fun h => by have := h.2.2.2.2.2; rw [h1] at this; omega)
   rw [e1, e2]
   exact ⟨by symm; rw [decide_eq_false_iff_not]; omega, fun _ h => by omega⟩
 ·obtain ⟨n, rfl⟩ : ∃ n : Nat, m = -(n : Int) := ⟨m.natAbs, by omega⟩
  rw [Lib.itoa_neg n (by omega)]
  obtain ⟨e1, e2⟩ := pn_digit (l := 45 :: Lib.decDigits n) (most := 65535) (k := 0) (b := 45) rfl (by decide)
  rw [e1, e2]
  exact ⟨by symm; rw [decide_eq_false_iff_not]; omega, fun h => absurd h h0⟩
theorem pn_back {l : List UInt8} {most : Int} (h : pnOk l most = true) : Lib.itoa (pnVal l most) = l ∧ pnVal l most ≤ most ∧ 0 ≤ pnVal l most ∧ pnVal l most ≤ 65535 := by
 have hc := of_decide_eq_true h
 obtain ⟨e1, e2⟩ := pn_yes hc
 obtain ⟨c1, c2, c3, c4, c5, c6⟩ := hc
 have := (dec_back l c5 (by intro e; rw [e] at c1; simp at c1) c4).1
 rw [e2]
 exact ⟨by rw [Lib.itoa_nonneg]; exact this, c6, by omega, by omega⟩
end Go.Proofs.YtoaaogacaibedaaGreatDoor
namespace Go.Proofs.YtoaaogacaibedaaGreatDoor
set_option maxRecDepth 100000
noncomputable def txtB (s : ByteArray) : Bool := (parseS s.data.toList).2
def nilB (s : ByteArray) : Bool := s.data.toList.isEmpty
noncomputable def recB (r : Rec) : Bool :=
 decide (1 ≤ r.n ∧ r.n ≤ 60000) && (if r.kind = 1 then decide (r.owner = 0) && txtB r.text else if r.kind = 2 then decide (r.owner = 0) && nilB r.text else decide (r.kind = 3) && (decide (0 ≤ r.owner ∧ r.owner ≤ 1) && nilB r.text))
def recBody (g p : Int) (r : Rec) : List UInt8 := ptB ((((wordBytes g ++ wordBytes p) ++ [u8 r.kind]) ++ wordBytes r.n) ++ [u8 r.owner]) r.text.data.toList
noncomputable def putR (g p : Int) (r : Rec) : List UInt8 := if recB r = true ∧ (0 ≤ g ∧ g ≤ 65535) ∧ (0 ≤ p ∧ p ≤ 65535) then withSum (recBody g p r) else []
def recAt (b : List UInt8) : Rec := ⟨((b.getD 4 0).toNat : Int), gwVal b 5, ((b.getD 7 0).toNat : Int), gtS b 8⟩
def zeroRec : Rec := ⟨0, 0, 0, ⟨#[]⟩⟩
noncomputable def getOk (b : List UInt8) : Bool := decide (11 ≤ b.length) && (putR (gwVal b 0) (gwVal b 2) (recAt b) == b)
theorem okB_nil : okB [] = true := by decide
theorem gtS_ok (b : List UInt8) (p : Int) : okB (gtS b p).data.toList = true := by
 unfold gtS
 cases h : gtO b p with
 | none => exact okB_nil
 | some x =>
  show okB x.1 = true
  unfold gtO at h
  split at h
  ·cases h
  ·split at h
   ·cases h
   ·split at h
    ·injection h with h
     subst h
     assumption
    ·cases h
theorem gt_mid {l s t : List UInt8} (h : okB s = true) : gtO (ptB l s ++ t) l.length = some (s, (l.length : Int) + 1 + s.length) := by
 have hs := okB_len h
 have hu : (u8 (s.length : Int)).toNat = s.length := by have := u8_cell s.length; omega
 have e : ptB l s ++ t = l ++ (u8 s.length :: (s ++ t)) := by unfold ptB; rw [if_pos h]; simp
 rw [e, gt_in (u := u8 s.length) (by simp) (by simp), hu]
 rw [if_neg (by simp; omega)]
 have e2 : ((l ++ (u8 (s.length : Int) :: (s ++ t))).drop (l.length + 1)).take s.length = s := by
  rw [List.drop_append]
  simp [List.drop_eq_nil_of_le]
 rw [e2, if_pos h]
theorem getOk_text {b : List UInt8} (h : getOk b = true) : gtB b 8 = true := by
 unfold getOk at h
 rw [Bool.and_eq_true, decide_eq_true_eq, beq_iff_eq] at h
 obtain ⟨hl, hp⟩ := h
 unfold putR at hp
 split at hp
 ·have hok := gtS_ok b 8
  have hm := gt_mid (l := ((((wordBytes (gwVal b 0) ++ wordBytes (gwVal b 2)) ++ [u8 (recAt b).kind]) ++ wordBytes (recAt b).n) ++ [u8 (recAt b).owner])) (t := wordBytes (crc (recBody (gwVal b 0) (gwVal b 2) (recAt b)))) hok
  have e : ptB ((((wordBytes (gwVal b 0) ++ wordBytes (gwVal b 2)) ++ [u8 (recAt b).kind]) ++ wordBytes (recAt b).n) ++ [u8 (recAt b).owner]) (gtS b 8).data.toList ++ wordBytes (crc (recBody (gwVal b 0) (gwVal b 2) (recAt b))) = b := hp
  rw [e] at hm
  have e8 : (((((wordBytes (gwVal b 0) ++ wordBytes (gwVal b 2)) ++ [u8 (recAt b).kind]) ++ wordBytes (recAt b).n) ++ [u8 (recAt b).owner]).length : Int) = 8 := by simp [wordBytes]
  rw [e8] at hm
  unfold gtB
  rw [hm]
  rfl
 ·subst hp
  simp at hl
theorem getOk_rec {b : List UInt8} (h : getOk b = true) : recB (recAt b) = true := by
 unfold getOk at h
 rw [Bool.and_eq_true, decide_eq_true_eq, beq_iff_eq] at h
 obtain ⟨hl, hp⟩ := h
 unfold putR at hp
 split at hp
 ·rename_i hc
  exact hc.1
 ·subst hp
  simp at hl
theorem nilB_iff (s : ByteArray) : nilB s = true ↔ s = ⟨#[]⟩ := by
 unfold nilB
 obtain ⟨a⟩ := s
 obtain ⟨l⟩ := a
 cases l <;> simp
end Go.Proofs.YtoaaogacaibedaaGreatDoor
namespace Go.Proofs.YtoaaogacaibedaaGreatDoor
open Go.RowKit
set_option maxRecDepth 100000
set_option linter.unusedVariables false
def dbAt : List Db → ByteArray → Db × Bool
 | [], _ => (dbZero, false)
 | x :: xs, n => if (x.name.toList == n.toList) = true then (x, true) else dbAt xs n
def NoneTo (xs : List Db) (n : ByteArray) (k : Nat) : Prop := ∀ i x, i < k → xs[i]? = some x → (x.name.toList == n.toList) = false
theorem NoneTo.zero (xs : List Db) (n : ByteArray) : NoneTo xs n 0 := fun i x h => absurd h (by omega)
theorem NoneTo.succ {xs : List Db} {n : ByteArray} {k : Nat} {x : Db} (h : NoneTo xs n k) (hx : xs[k]? = some x) (hn : (x.name.toList == n.toList) = false) : NoneTo xs n (k + 1) := by
 intro i y hi hy
 by_cases hk : i < k
 ·exact h i y hk hy
 ·obtain rfl : i = k := by omega
  rw [hx] at hy
  injection hy with hy
  subst hy
  exact hn
theorem dbAt_hit : ∀ {xs : List Db} {n : ByteArray} {k : Nat} {x : Db}, NoneTo xs n k → xs[k]? = some x → (x.name.toList == n.toList) = true → dbAt xs n = (x, true) := by
 intro xs
 induction xs with
 | nil => intro n k x _ hx; simp at hx
 | cons y ys ih =>
  intro n k x hno hx hn
  cases k with
  | zero =>
   simp only [List.getElem?_cons_zero] at hx
   injection hx with hx
   subst hx
   unfold dbAt
   rw [if_pos hn]
  | succ k =>
   have h0 := hno 0 y (by omega) rfl
   unfold dbAt
   rw [if_neg (by rw [h0]; simp)]
   have hno' : NoneTo ys n k := fun i z hi hz => hno (i + 1) z (by omega) (by simpa using hz)
   exact ih hno' (by simpa using hx) hn
theorem dbAt_none : ∀ {xs : List Db} {n : ByteArray}, NoneTo xs n xs.length → dbAt xs n = (dbZero, false) := by
 intro xs
 induction xs with
 | nil => intro n _; rfl
 | cons y ys ih =>
  intro n hno
  have h0 := hno 0 y (by simp) rfl
  unfold dbAt
  rw [if_neg (by rw [h0]; simp)]
  have hno' : NoneTo ys n ys.length := fun i z hi hz => hno (i + 1) z (by simp; omega) (by simpa using hz)
  exact ih hno'
theorem dbAt_true : ∀ {xs : List Db} {n : ByteArray}, (dbAt xs n).2 = true → ∃ (j : Nat) (y : Db), xs[j]? = some y ∧ y.name = n := by
 intro xs
 induction xs with
 | nil => intro n h; simp [dbAt] at h
 | cons y ys ih =>
  intro n h
  unfold dbAt at h
  by_cases hy : (y.name.toList == n.toList) = true
  ·exact ⟨0, y, rfl, str_eq hy⟩
  ·rw [if_neg hy] at h
   obtain ⟨j, z, hz, hn⟩ := ih h
   exact ⟨j + 1, z, by simpa using hz, hn⟩
theorem dbAt_false : ∀ {xs : List Db} {n : ByteArray}, (dbAt xs n).2 = false → ∀ (j : Nat) (y : Db), xs[j]? = some y → y.name ≠ n := by
 intro xs
 induction xs with
 | nil => intro n _ j y hy; simp at hy
 | cons x ys ih =>
  intro n h j y hy
  unfold dbAt at h
  by_cases hx : (x.name.toList == n.toList) = true
  ·rw [if_pos hx] at h; simp at h
  ·rw [if_neg hx] at h
   cases j with
   | zero =>
    simp only [List.getElem?_cons_zero] at hy
    injection hy with hy
    subst hy
    exact str_ne (by simpa using hx)
   | succ j => exact ih h j y (by simpa using hy)
def RetDb (w : World) (p : Db × Bool) (e : Ending) (w' : World) : Prop := e = .returned (.tuple #[.agg (dbC p.1).toArray, .bool p.2]) ∧ Below w.heap.size w w'
theorem dbC_zero : (dbC dbZero).toArray = #[.string ⟨#[]⟩, .int .i64 0, .int .i64 0, .int .i64 0, .int .i64 0] := rfl
set_option maxRecDepth 100000 in
set_option maxHeartbeats 4000000 in
theorem dbAtS_any (A : Option Addr) (c : Nat) (xs : List Db) (s : ByteArray) (w : World) (h : Rep.RowsAt dbR w w.heap.size A xs.length xs) (hn : xs.length ≤ 1048576) :
  Calls Tryz.prog 143 #[.slice A xs.length c, .string s] w (RetDb w (dbAt xs s)) := by
 go_enter Tryz.func143, Tryz.ntmps143
 go_wp2
 have hb0 : Below w.heap.size w (w.alloc (.cells #[.string ⟨#[]⟩, .int .i64 0, .int .i64 0, .int .i64 0, .int .i64 0] 159)) := (Below.refl _ _).alloc (Nat.le_refl _) _
 have hv := heap_alloc_new w (.cells #[.string ⟨#[]⟩, .int .i64 0, .int .i64 0, .int .i64 0, .int .i64 0] 159)
 generalize hgW : w.alloc (.cells #[.string ⟨#[]⟩, .int .i64 0, .int .i64 0, .int .i64 0, .int .i64 0] 159) = W1 at hb0 hv ⊢
 clear hgW
 have V := Lib.hid hv
 clear hv
 go_loopw [6] (fun i wr => ∃ k : Nat, k ≤ xs.length ∧ i = .int .i64 k ∧ Hid (NoneTo xs s k) ∧ wr = W1) (fun i _ => xs.length - (intOf i).toNat)
 case atStart => exact ⟨0, by omega, rfl, Lib.hid (NoneTo.zero xs s), rfl⟩
 case round =>
  obtain ⟨k, hk, rfl, hno, rfl⟩ := hrel
  have q0 : wr.cell? ⟨w.heap.size, 0, none⟩ = some (.string ⟨#[]⟩) := var_cell V.out 0
  have q1 : wr.cell? ⟨w.heap.size, 1, none⟩ = some (.int .i64 0) := var_cell V.out 1
  have q2 : wr.cell? ⟨w.heap.size, 2, none⟩ = some (.int .i64 0) := var_cell V.out 2
  have q3 : wr.cell? ⟨w.heap.size, 3, none⟩ = some (.int .i64 0) := var_cell V.out 3
  have q4 : wr.cell? ⟨w.heap.size, 4, none⟩ = some (.int .i64 0) := var_cell V.out 4
  have f0 := var_frozen V.out 0
  have f1 := var_frozen V.out 1
  have f2 := var_frozen V.out 2
  have f3 := var_frozen V.out 3
  have f4 := var_frozen V.out 4
  have hlt0 : w.heap.size < wr.heap.size := World.block_lt_of_cell? wr ⟨w.heap.size, 0, none⟩ q0
  by_cases hlt : k < xs.length
  ·obtain ⟨b, off, x, rfl, hbl, hx, c0, c1, c2, c3, c4⟩ := db_elem (h.keep fun p hp => hb0.cell hp) hlt
   have HX := Lib.hid hx
   clear hx
   have i1 : (0 : Int) ≤ (k : Int) := by omega
   have i2 : (k : Int) < (xs.length : Int) := by omega
   by_cases hq : (x.name.toList == s.toList) = true
   ·have HE := Lib.hid (dbAt_hit hno.out HX.out hq)
    go_wp2
    refine bodyPost_ret (v := .tuple #[.agg (dbC x).toArray, .bool true]) (by simp [results, Tryz.results143, go_sem, dbC, q0, q1, q2, q3, q4]) rfl ⟨by rw [HE.out], ?_⟩
    repeat (refine Below.setCell ?_ (by first | (simp; done) | (simp; omega)) _)
    exact hb0
   ·have hq' : (x.name.toList == s.toList) = false := by simpa using hq
    have HN := Lib.hid (hno.out.succ HX.out hq')
    clear hq
    go_wp2
    go_roundw
    case rel => exact ⟨k + 1, by omega, by go_num, HN, trivial⟩
    case measure => simp [intOf]; omega
  ·have he : k = xs.length := by omega
   subst he
   have HE := Lib.hid (dbAt_none hno.out)
   go_wp2
   refine bodyPost_ret (v := .tuple #[.agg (dbC dbZero).toArray, .bool false]) (by simp [results, Tryz.results143, go_sem, dbC_zero, q0, q1, q2, q3, q4]) rfl ⟨by rw [HE.out], ?_⟩
   repeat (refine Below.setCell ?_ (by first | (simp; done) | (simp; omega)) _)
   exact hb0
set_option maxRecDepth 100000 in
set_option maxHeartbeats 4000000 in
theorem dbAt_any (A : Option Addr) (c : Nat) (xs : List Db) (s : ByteArray) (w : World) (h : Rep.RowsAt dbR w w.heap.size A xs.length xs) (hn : xs.length ≤ 1048576) :
  Calls Tryz.prog 162 #[.slice A xs.length c, .string s] w (RetDb w (dbAt xs s)) := by
 go_enter Tryz.func162, Tryz.ntmps162
 go_wp2
 have hb0 : Below w.heap.size w (w.alloc (.cells #[.string ⟨#[]⟩, .int .i64 0, .int .i64 0, .int .i64 0, .int .i64 0] 159)) := (Below.refl _ _).alloc (Nat.le_refl _) _
 have hv := heap_alloc_new w (.cells #[.string ⟨#[]⟩, .int .i64 0, .int .i64 0, .int .i64 0, .int .i64 0] 159)
 generalize hgW : w.alloc (.cells #[.string ⟨#[]⟩, .int .i64 0, .int .i64 0, .int .i64 0, .int .i64 0] 159) = W1 at hb0 hv ⊢
 clear hgW
 have V := Lib.hid hv
 clear hv
 go_loopw [10] (fun i wr => ∃ k : Nat, k ≤ xs.length ∧ i = .int .i64 k ∧ Hid (NoneTo xs s k) ∧ Hid (wr.heap[w.heap.size]? = some (.cells #[.string ⟨#[]⟩, .int .i64 0, .int .i64 0, .int .i64 0, .int .i64 0] 159 (0, 0))) ∧ Below w.heap.size w wr) (fun i _ => xs.length - (intOf i).toNat)
 case atStart => exact ⟨0, by omega, rfl, Lib.hid (NoneTo.zero xs s), V, hb0⟩
 case round =>
  clear V hb0
  obtain ⟨k, hk, rfl, hno, V, hb0⟩ := hrel
  have q0 : wr.cell? ⟨w.heap.size, 0, none⟩ = some (.string ⟨#[]⟩) := var_cell V.out 0
  have q1 : wr.cell? ⟨w.heap.size, 1, none⟩ = some (.int .i64 0) := var_cell V.out 1
  have q2 : wr.cell? ⟨w.heap.size, 2, none⟩ = some (.int .i64 0) := var_cell V.out 2
  have q3 : wr.cell? ⟨w.heap.size, 3, none⟩ = some (.int .i64 0) := var_cell V.out 3
  have q4 : wr.cell? ⟨w.heap.size, 4, none⟩ = some (.int .i64 0) := var_cell V.out 4
  have f0 := var_frozen V.out 0
  have f1 := var_frozen V.out 1
  have f2 := var_frozen V.out 2
  have f3 := var_frozen V.out 3
  have f4 := var_frozen V.out 4
  have hlt0 : w.heap.size < wr.heap.size := World.block_lt_of_cell? wr ⟨w.heap.size, 0, none⟩ q0
  by_cases hlt : k < xs.length
  ·obtain ⟨b, off, x, rfl, hbl, hx, c0, c1, c2, c3, c4⟩ := db_elem (h.keep fun p hp => hb0.cell hp) hlt
   have HX := Lib.hid hx
   clear hx
   have i1 : (0 : Int) ≤ (k : Int) := by omega
   have i2 : (k : Int) < (xs.length : Int) := by omega
   by_cases hq : (x.name.toList == s.toList) = true
   ·have HE := Lib.hid (dbAt_hit hno.out HX.out hq)
    go_wp2
    refine bodyPost_ret (v := .tuple #[.agg (dbC x).toArray, .bool true]) (by simp [results, Tryz.results162, go_sem, dbC, hlt0, q0, q1, q2, q3, q4]) rfl ⟨by rw [HE.out], ?_⟩
    refine Below.alloc ?_ (by simp; omega) _
    repeat (refine Below.setCell ?_ (by first | (simp; done) | (simp; omega)) _)
    exact hb0
   ·have hq' : (x.name.toList == s.toList) = false := by simpa using hq
    have HN := Lib.hid (hno.out.succ HX.out hq')
    clear hq
    go_wp2
    go_roundw
    case rel => exact ⟨k + 1, by omega, by go_num, HN, Lib.hid ((Below.heap_alloc _ _ _ hlt0).trans V.out), hb0.alloc hb0.size _⟩
    case measure => simp [intOf]; omega
  ·have he : k = xs.length := by omega
   subst he
   have HE := Lib.hid (dbAt_none hno.out)
   go_wp2
   refine bodyPost_ret (v := .tuple #[.agg (dbC dbZero).toArray, .bool false]) (by simp [results, Tryz.results162, go_sem, dbC_zero, q0, q1, q2, q3, q4]) rfl ⟨by rw [HE.out], ?_⟩
   repeat (refine Below.setCell ?_ (by first | (simp; done) | (simp; omega)) _)
   exact hb0
end Go.Proofs.YtoaaogacaibedaaGreatDoor
