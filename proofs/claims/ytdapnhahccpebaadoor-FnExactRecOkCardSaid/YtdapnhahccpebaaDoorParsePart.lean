/- One part of a text, read by splitting: what the walk of the model's ParseConf needs. -/
import Derived.Test.YtdapnhahccpebaaDoorSplit
namespace Go.Proofs.YtdapnhahccpebaaDoor
open Go.RowKit
set_option maxRecDepth 100000
set_option linter.unusedVariables false

def bl (x : ByteArray) : List UInt8 := x.data.toList
def gs (l : List ByteArray) (i : Nat) : ByteArray := l.getD i ⟨#[]⟩
theorem gs_of {l : List ByteArray} {i : Nat} {x : ByteArray} (h : l[i]? = some x) : gs l i = x := by simp [gs, List.getD, h]
theorem dbOf_n2 {l : List UInt8} {ps : List ByteArray} (hp : ps.map bl = splitB 58 [] l) (h : ps.length ≠ 2) : dbOf l = none := by
  unfold dbOf
  rw [← hp]
  rcases ps with _ | ⟨p0, _ | ⟨p1, _ | ⟨p2, ps⟩⟩⟩
  · rfl
  · rfl
  · exact absurd rfl h
  · rfl
theorem dbOf_q4 {l : List UInt8} {ps qs : List ByteArray} (hp : ps.map bl = splitB 58 [] l) (h : ps.length = 2) (hq : qs.map bl = splitB 47 [] (bl (gs ps 1))) (h4 : qs.length ≠ 4) : dbOf l = none := by
  unfold dbOf
  rw [← hp]
  rcases ps with _ | ⟨p0, _ | ⟨p1, _ | ⟨p2, ps⟩⟩⟩
  · cases h
  · cases h
  · have hq' : qs.map bl = splitB 47 [] (bl p1) := hq
    simp only [List.map_cons, List.map_nil]
    rw [← hq']
    rcases qs with _ | ⟨q0, _ | ⟨q1, _ | ⟨q2, _ | ⟨q3, _ | ⟨q4, qs⟩⟩⟩⟩⟩
    · rfl
    · rfl
    · rfl
    · rfl
    · exact absurd rfl h4
    · rfl
  · simp at h
theorem dbOf_mk {l : List UInt8} {ps qs : List ByteArray} (hp : ps.map bl = splitB 58 [] l) (h : ps.length = 2) (hq : qs.map bl = splitB 47 [] (bl (gs ps 1))) (h4 : qs.length = 4) :
    dbOf l = mk5 99 (bl (gs ps 0)) (bl (gs qs 0)) (bl (gs qs 1)) (bl (gs qs 2)) (bl (gs qs 3)) := by
  unfold dbOf
  rw [← hp]
  rcases ps with _ | ⟨p0, _ | ⟨p1, _ | ⟨p2, ps⟩⟩⟩
  · cases h
  · cases h
  · have hq' : qs.map bl = splitB 47 [] (bl p1) := hq
    simp only [List.map_cons, List.map_nil]
    rw [← hq']
    rcases qs with _ | ⟨q0, _ | ⟨q1, _ | ⟨q2, _ | ⟨q3, _ | ⟨q4, qs⟩⟩⟩⟩⟩
    · cases h4
    · cases h4
    · cases h4
    · cases h4
    · rfl
    · simp at h4
  · simp at h
theorem mk5_bad {m : Int} {n : List UInt8} {f : Nat → List UInt8} {j : Nat} (hj : j < 4) (h : pnOk (f j) m = false) : mk5 m n (f 0) (f 1) (f 2) (f 3) = none := by
  unfold mk5
  rw [if_neg]
  simp only [Bool.and_eq_true, not_and]
  intro h1
  rcases (by omega : j = 0 ∨ j = 1 ∨ j = 2 ∨ j = 3) with rfl | rfl | rfl | rfl <;> simp_all
theorem dbOf_bad {l : List UInt8} {ps qs : List ByteArray} {j : Nat} (hp : ps.map bl = splitB 58 [] l) (h : ps.length = 2) (hq : qs.map bl = splitB 47 [] (bl (gs ps 1))) (h4 : qs.length = 4) (hj : j < 4) (hb : pnOk (bl (gs qs j)) 99 = false) : dbOf l = none := by
  rw [dbOf_mk hp h hq h4]
  exact mk5_bad (f := fun i => bl (gs qs i)) hj hb
/-- The database that the parts spell. -/
def dbP (n : ByteArray) (qs : List ByteArray) : Db := ⟨n, pnVal (bl (gs qs 0)) 99, pnVal (bl (gs qs 1)) 99, pnVal (bl (gs qs 2)) 99, pnVal (bl (gs qs 3)) 99⟩
theorem dbOf_good {l : List UInt8} {ps qs : List ByteArray} (hp : ps.map bl = splitB 58 [] l) (h : ps.length = 2) (hq : qs.map bl = splitB 47 [] (bl (gs ps 1))) (h4 : qs.length = 4) (ho : ∀ j, j < 4 → pnOk (bl (gs qs j)) 99 = true) : dbOf l = some (dbP (gs ps 0) qs) := by
  rw [dbOf_mk hp h hq h4, mk5_of (ho 0 (by omega)) (ho 1 (by omega)) (ho 2 (by omega)) (ho 3 (by omega))]
  rfl
def numsTo (qs : List ByteArray) (j : Nat) : Array Value :=
  #[.int .i64 (if 0 < j then pnVal (bl (gs qs 0)) 99 else 0), .int .i64 (if 1 < j then pnVal (bl (gs qs 1)) 99 else 0), .int .i64 (if 2 < j then pnVal (bl (gs qs 2)) 99 else 0), .int .i64 (if 3 < j then pnVal (bl (gs qs 3)) 99 else 0)]
theorem numsTo_set (qs : List ByteArray) {j : Nat} (hj : j < 4) : (numsTo qs j).setIfInBounds j (.int .i64 (pnVal (bl (gs qs j)) 99)) = numsTo qs (j + 1) := by
  rcases (by omega : j = 0 ∨ j = 1 ∨ j = 2 ∨ j = 3) with rfl | rfl | rfl | rfl <;> simp [numsTo]
theorem numsTo_at (qs : List ByteArray) {j : Nat} (hj : j < 4) : ∃ u, (numsTo qs j)[j]? = some u := by
  rcases (by omega : j = 0 ∨ j = 1 ∨ j = 2 ∨ j = 3) with rfl | rfl | rfl | rfl <;> exact ⟨_, rfl⟩
theorem split_len {c : UInt8} : ∀ {l cur p : List UInt8}, p ∈ splitB c cur l → p.length ≤ cur.length + l.length := by
  intro l
  induction l with
  | nil => intro cur p h; simp [splitB] at h; subst h; simp
  | cons b r ih =>
    intro cur p h
    rw [splitB_cons] at h
    split at h
    · rcases List.mem_cons.1 h with h | h
      · subst h; simp
      · have := ih h; simp at this ⊢; omega
    · have := ih h; simp at this ⊢; omega
theorem split_count {c : UInt8} : ∀ {l cur : List UInt8}, (splitB c cur l).length ≤ l.length + 1 := by
  intro l
  induction l with
  | nil => intro cur; simp [splitB]
  | cons b r ih =>
    intro cur
    rw [splitB_cons]
    split
    · have := @ih []
      simp; omega
    · have := @ih (cur ++ [b])
      simp; omega
theorem part_len {c : UInt8} {l : List UInt8} {ps : List ByteArray} {i : Nat} {x : ByteArray} (hp : ps.map bl = splitB c [] l) (hx : ps[i]? = some x) : x.size ≤ l.length := by
  have h1 : bl x ∈ splitB c [] l := by rw [← hp]; exact List.mem_map.2 ⟨x, List.mem_of_getElem? hx, rfl⟩
  have h2 := split_len h1
  simp [bl] at h2
  exact h2
/-- What is read of the first k parts. -/
def ReadTo (L : List (List UInt8)) (k : Nat) (xs : List Db) : Prop := xs.length = k ∧ allOf dbOf L = match allOf dbOf (L.drop k) with
  | none => none
  | some ys => some (xs ++ ys)
theorem ReadTo.zero (L : List (List UInt8)) : ReadTo L 0 [] := ⟨rfl, by simp only [List.drop_zero]; cases allOf dbOf L <;> rfl⟩
theorem ReadTo.bad {L : List (List UInt8)} {k : Nat} {xs : List Db} {p : List UInt8} (h : ReadTo L k xs) (hp : L[k]? = some p) (hd : dbOf p = none) : allOf dbOf L = none := by
  rw [h.2]
  have e : L.drop k = p :: L.drop (k + 1) := by rw [List.drop_eq_getElem_cons (List.getElem?_eq_some_iff.1 hp).1, (List.getElem?_eq_some_iff.1 hp).2]
  rw [e]
  unfold allOf
  rw [hd]
theorem ReadTo.succ {L : List (List UInt8)} {k : Nat} {xs : List Db} {p : List UInt8} {d : Db} (h : ReadTo L k xs) (hp : L[k]? = some p) (hd : dbOf p = some d) : ReadTo L (k + 1) (xs ++ [d]) := by
  refine ⟨by simp [h.1], ?_⟩
  rw [h.2]
  have e : L.drop k = p :: L.drop (k + 1) := by rw [List.drop_eq_getElem_cons (List.getElem?_eq_some_iff.1 hp).1, (List.getElem?_eq_some_iff.1 hp).2]
  rw [e]
  rw [show allOf dbOf (p :: L.drop (k + 1)) = match dbOf p with
    | none => none
    | some d => match allOf dbOf (L.drop (k + 1)) with
      | none => none
      | some xs => some (d :: xs) from rfl, hd]
  simp only []
  cases allOf dbOf (L.drop (k + 1)) with
  | none => rfl
  | some ys => simp
theorem ReadTo.all {L : List (List UInt8)} {xs : List Db} (h : ReadTo L L.length xs) : allOf dbOf L = some xs := by
  rw [h.2, List.drop_length]
  simp [allOf]

instance Keeps.rows {α : Type} (R : Rep α) (A : Option Addr) (n : Nat) (xs : List α) : Keeps (fun w => Rep.RowsAt R w w.heap.size A n xs) := ⟨fun h x => (x.keep fun p hp => h.cell hp).more h.size⟩
instance Keeps.ownRows {α : Type} (R : Rep α) (e : TypeId) (base : Nat) (v : Value) (xs : List α) (fp : List Nat) : Keeps (fun w => Rep.OwnRows R e w base v xs fp) := ⟨fun h x => x.of_below h⟩
theorem rows_lit' {α : Type} (w : World) (e : TypeId) (R : Rep α) (h0 : 0 < R.size) {base : Nat} (hb : base ≤ w.heap.size) : Rep.OwnRows R e (w.alloc (.cells #[] e)) base (.slice (some ⟨w.heap.size, 0, none⟩) 0 0) [] [w.heap.size] :=
  ⟨[], [], by simpa using World.ownsRow_lit (base := base) (e := e) (size := R.size) w #[] 0 hb (by simp) (by simp), rfl, fun i x f hx => by simp at hx, rfl, by simp⟩

/-- A configuration of the call's own comes back, and whether there is one. -/
def RetConf (w : World) (p : List Db × Bool) (e : Ending) (w' : World) : Prop :=
  ∃ A c fp, e = .returned (.tuple #[.slice A p.1.length c, .bool p.2]) ∧ dbsR.own w' w.heap.size [.slice A p.1.length c] p.1 fp ∧ Below w.heap.size w w'
theorem retNone {w W : World} {p : List Db × Bool} (hb : Below w.heap.size w W) (hp : p = ([], false)) : RetConf w p (.returned (.tuple #[.slice (some ⟨W.heap.size, 0, none⟩) 0 0, .bool false])) (W.alloc (.cells #[] 35)) := by
  subst hp
  exact ⟨_, 0, _, rfl, ⟨_, rfl, rows_lit' W _ dbR (by decide) hb.size⟩, hb.alloc hb.size _⟩
end Go.Proofs.YtdapnhahccpebaaDoor
