/- How data lie in cells: one word for every type of the program's data ('Rep'): what reads, what is owned (and in which blocks), what the marks make of it. Plain lemmas, over any program. Rows of data: reading an element, putting an element. Plain lemmas, over any program. -/
import Derived.Test.YtgdhhhibkhfdlaaShut
namespace Go.Proofs.Ytgdhhhibkhfdlaa
open Go.RowKit
set_option linter.unusedVariables false

/-- 'at_ w B cs x': the cells cs hold x, what they lead to lies below block B. 'own w base cs x fp': they hold x, and what they lead to are whole blocks of the call's own, from base on: the blocks fp. 'mark k x': x, marked from k on; 'cnt x': how many marks. -/
structure Rep (α : Type) where
  size : Nat
  at_ : World → Nat → List Value → α → Prop
  own : World → Nat → List Value → α → List Nat → Prop
  mark : Nat → α → α
  cnt : α → Nat
  len : ∀ {w : World} {B : Nat} {cs : List Value} {x : α}, at_ w B cs x → cs.length = size
  keep : ∀ {w w' : World} {B : Nat} {cs : List Value} {x : α}, at_ w B cs x → (∀ p : Addr, p.block < B → w'.cell? p = w.cell? p) → at_ w' B cs x
  more : ∀ {w : World} {B B' : Nat} {cs : List Value} {x : α}, at_ w B cs x → B ≤ B' → at_ w B' cs x
  reads : ∀ {w : World} {base : Nat} {cs : List Value} {x : α} {fp : List Nat}, own w base cs x fp → at_ w w.heap.size cs x
  kept : ∀ {w w' : World} {base : Nat} {cs : List Value} {x : α} {fp : List Nat}, own w base cs x fp → (∀ g, g ∈ fp → w'.heap[g]? = w.heap[g]?) → own w' base cs x fp
  low : ∀ {w : World} {base base' : Nat} {cs : List Value} {x : α} {fp : List Nat}, own w base cs x fp → base' ≤ base → own w base' cs x fp
  lt : ∀ {w : World} {base : Nat} {cs : List Value} {x : α} {fp : List Nat}, own w base cs x fp → ∀ g, g ∈ fp → base ≤ g ∧ g < w.heap.size
  nodup : ∀ {w : World} {base : Nat} {cs : List Value} {x : α} {fp : List Nat}, own w base cs x fp → fp.Nodup

namespace Rep
variable {α β : Type}

/-! ### one cell -/
/-- A type whose values are single cells without memory of their own. -/
def leaf (f : α → Value) (m : Nat → α → α) : Rep α where
  size := 1
  at_ := fun _ _ cs x => cs = [f x]
  own := fun _ _ cs x fp => cs = [f x] ∧ fp = []
  mark := m
  cnt := fun _ => 1
  len := fun h => by rw [h]; rfl
  keep := fun h _ => h
  more := fun h _ => h
  reads := fun h => h.1
  kept := fun h _ => h
  low := fun h _ => h
  lt := fun h g hg => by rw [h.2] at hg; cases hg
  nodup := fun h => by rw [h.2]; exact List.nodup_nil

def int : Rep Int := leaf (fun n => .int .i64 n) (fun k _ => (k : Int))
def bool : Rep Bool := leaf (fun b => .bool b) (fun k _ => k % 3 == 0)

/-! ### a slice of bytes -/
theorem owned_reads {w : World} {base : Nat} {e : TypeId} {v : Value} {l : List UInt8} (h : Owns w base e v l) : ∃ A c, v = .slice A l.length c ∧ l.length ≤ c ∧ c ≤ maxLen ∧ Reads w w.heap.size 1 A l.length (bys l) := by
  obtain ⟨A, c, hv, hc, hm, hr, _⟩ := h.shape
  exact ⟨A, c, hv, hc, hm, hr⟩

theorem ownsRow_block {w w' : World} {base : Nat} {e : TypeId} {size n : Nat} {v : Value} {xs : List Value} (h : w.ownsRow base e size v n xs) (hb : ∀ g, g ∈ v.ownBlock.toList → w'.heap[g]? = w.heap[g]?) : w'.ownsRow base e size v n xs := by
  refine ⟨h.1, ?_⟩
  rcases h.2 with h2 | ⟨g, cap, cur, hv, hg, hh, r⟩
  · exact .inl h2
  · refine .inr ⟨g, cap, cur, hv, hg, ?_, r⟩
    rw [hb g (by rw [hv]; simp [Value.ownBlock])]
    exact hh

theorem nodup_toList (o : Option Nat) : o.toList.Nodup := by cases o <;> simp

def bytes (e : TypeId) : Rep (List UInt8) where
  size := 1
  at_ := fun w B cs l => ∃ A c, cs = [.slice A l.length c] ∧ (l.length ≤ c ∧ c ≤ maxLen) ∧ Reads w B 1 A l.length (bys l)
  own := fun w base cs l fp => ∃ v, cs = [v] ∧ Owns w base e v l ∧ fp = v.ownBlock.toList
  mark := fun k l => marks k l.length
  cnt := fun l => l.length
  len := fun ⟨_, _, h, _⟩ => by rw [h]; rfl
  keep := fun ⟨A, c, h, hc, hr⟩ hk => ⟨A, c, h, hc, hr.keep hk⟩
  more := fun ⟨A, c, h, hc, hr⟩ hB => ⟨A, c, h, hc, hr.more hB⟩
  reads := fun ⟨v, h, ho, _⟩ => by
    obtain ⟨A, c, rfl, hc, hm, hr⟩ := owned_reads ho
    exact ⟨A, c, h, ⟨hc, hm⟩, hr⟩
  kept := fun ⟨v, h, ho, hf⟩ hb => ⟨v, h, ownsRow_block ho (fun g hg => hb g (by rw [hf]; exact hg)), hf⟩
  low := fun ⟨v, h, ho, hf⟩ hb => ⟨v, h, ownsRow_mono ho hb, hf⟩
  lt := fun ⟨v, h, ho, hf⟩ g hg => by
    rw [hf] at hg
    exact ho.lt g (by simpa using hg)
  nodup := fun ⟨v, h, ho, hf⟩ => by rw [hf]; exact nodup_toList _

/-! ### two parts, one behind the other -/
theorem nodup_append_of {f g : List Nat} (hf : f.Nodup) (hg : g.Nodup) (hd : ∀ a, a ∈ f → a ∈ g → False) : (f ++ g).Nodup := List.nodup_append.2 ⟨hf, hg, fun a ha b hb e => hd a ha (e ▸ hb)⟩

def pair (R : Rep α) (S : Rep β) : Rep (α × β) where
  size := R.size + S.size
  at_ := fun w B cs x => R.at_ w B (cs.take R.size) x.1 ∧ S.at_ w B (cs.drop R.size) x.2
  own := fun w base cs x fp => ∃ f g, R.own w base (cs.take R.size) x.1 f ∧ S.own w base (cs.drop R.size) x.2 g ∧ fp = f ++ g ∧ fp.Nodup
  mark := fun k x => (R.mark k x.1, S.mark (k + R.cnt x.1) x.2)
  cnt := fun x => R.cnt x.1 + S.cnt x.2
  len := fun {w B cs x} h => by
    have h1 := R.len h.1
    have h2 := S.len h.2
    rw [List.length_take] at h1
    rw [List.length_drop] at h2
    omega
  keep := fun h hk => ⟨R.keep h.1 hk, S.keep h.2 hk⟩
  more := fun h hk => ⟨R.more h.1 hk, S.more h.2 hk⟩
  reads := fun ⟨f, g, h1, h2, _⟩ => ⟨R.reads h1, S.reads h2⟩
  kept := fun ⟨f, g, h1, h2, hf, hn⟩ hb => ⟨f, g, R.kept h1 (fun a ha => hb a (by rw [hf]; simp [ha])), S.kept h2 (fun a ha => hb a (by rw [hf]; simp [ha])), hf, hn⟩
  low := fun ⟨f, g, h1, h2, hf⟩ hb => ⟨f, g, R.low h1 hb, S.low h2 hb, hf⟩
  lt := fun ⟨f, g, h1, h2, hf, _⟩ a ha => by
    rw [hf, List.mem_append] at ha
    rcases ha with ha | ha
    · exact R.lt h1 a ha
    · exact S.lt h2 a ha
  nodup := fun ⟨_, _, _, _, _, hn⟩ => hn

/-- A structure, as what it is made of. -/
def iso (R : Rep α) (g : β → α) (f : α → β) : Rep β where
  size := R.size
  at_ := fun w B cs y => R.at_ w B cs (g y)
  own := fun w base cs y fp => R.own w base cs (g y) fp
  mark := fun k y => f (R.mark k (g y))
  cnt := fun y => R.cnt (g y)
  len := fun h => R.len h
  keep := fun h hk => R.keep h hk
  more := fun h hk => R.more h hk
  reads := fun h => R.reads h
  kept := fun h hb => R.kept h hb
  low := fun h hb => R.low h hb
  lt := fun h => R.lt h
  nodup := fun h => R.nodup h

/-! ### rows -/
/-- The i-th element's cells. -/
def seg (size i : Nat) (cells : List Value) : List Value := (cells.drop (i * size)).take size

theorem seg_get {size i j : Nat} {cells : List Value} (hj : j < size) : (seg size i cells)[j]? = cells[i * size + j]? := by
  unfold seg
  rw [List.getElem?_take, if_pos hj, List.getElem?_drop]

theorem seg_length {size i n : Nat} {cells : List Value} (h : cells.length = n * size) (hi : i < n) : (seg size i cells).length = size := by
  unfold seg
  rw [List.length_take, List.length_drop, h]
  have : (i + 1) * size ≤ n * size := Nat.mul_le_mul_right _ hi
  rw [Nat.add_mul] at this
  omega

theorem seg_ext {size i n : Nat} {cells c : List Value} (h : cells.length = n * size) (hi : i < n) (hc : c.length = size) (hj : ∀ j, j < size → cells[i * size + j]? = c[j]?) : seg size i cells = c := by
  apply List.ext_getElem?
  intro j
  by_cases hlt : j < size
  · rw [seg_get hlt, hj j hlt]
  · rw [List.getElem?_eq_none (by rw [seg_length h hi]; omega), List.getElem?_eq_none (by omega)]

/-- The cells with the i-th element's cells replaced. -/
def putSeg (size i : Nat) (c cells : List Value) : List Value := cells.take (i * size) ++ c ++ cells.drop ((i + 1) * size)

theorem putSeg_length {size i n : Nat} {c cells : List Value} (h : cells.length = n * size) (hi : i < n) (hc : c.length = size) : (putSeg size i c cells).length = n * size := by
  have h1 : (i + 1) * size ≤ n * size := Nat.mul_le_mul_right _ hi
  have h2 : (i + 1) * size = i * size + size := by rw [Nat.add_mul, Nat.one_mul]
  unfold putSeg
  simp only [List.length_append, List.length_take, List.length_drop, h, hc]
  omega

theorem putSeg_get {size i n : Nat} {c cells : List Value} (h : cells.length = n * size) (hi : i < n) (hc : c.length = size) (j : Nat) :
    (putSeg size i c cells)[j]? = if i * size ≤ j ∧ j < (i + 1) * size then c[j - i * size]? else cells[j]? := by
  have h1 : (i + 1) * size ≤ n * size := Nat.mul_le_mul_right _ hi
  have h2 : (i + 1) * size = i * size + size := by rw [Nat.add_mul, Nat.one_mul]
  have hl : (cells.take (i * size)).length = i * size := by rw [List.length_take]; omega
  unfold putSeg
  by_cases ha : j < i * size
  · rw [if_neg (by omega), List.append_assoc, List.getElem?_append_left (by omega), List.getElem?_take, if_pos ha]
  · by_cases hb : j < (i + 1) * size
    · rw [if_pos ⟨by omega, hb⟩, List.append_assoc, List.getElem?_append_right (by omega), hl, List.getElem?_append_left (by omega)]
    · rw [if_neg (by omega), List.getElem?_append_right (by rw [List.length_append]; omega), List.getElem?_drop, List.length_append, hl, hc]
      congr 1
      omega

theorem seg_putSeg {size i n : Nat} {c cells : List Value} (h : cells.length = n * size) (hi : i < n) (hc : c.length = size) : seg size i (putSeg size i c cells) = c := by
  refine seg_ext (putSeg_length h hi hc) hi hc fun j hj => ?_
  have h2 : (i + 1) * size = i * size + size := by rw [Nat.add_mul, Nat.one_mul]
  rw [putSeg_get h hi hc, if_pos ⟨by omega, by omega⟩]
  congr 1
  omega

theorem seg_other_of {size i k : Nat} {cells cells' : List Value} (hk : k ≠ i) (hj : ∀ j, ¬ (i * size ≤ j ∧ j < (i + 1) * size) → cells'[j]? = cells[j]?) : seg size k cells' = seg size k cells := by
  apply List.ext_getElem?
  intro j
  by_cases hlt : j < size
  · rw [seg_get hlt, seg_get hlt]
    refine hj _ ?_
    rintro ⟨h1, h2⟩
    rcases Nat.lt_or_gt_of_ne hk with h | h
    · have h3 : (k + 1) * size ≤ i * size := Nat.mul_le_mul_right size h
      rw [Nat.add_mul, Nat.one_mul] at h3
      omega
    · have h3 : (i + 1) * size ≤ k * size := Nat.mul_le_mul_right size h
      omega
  · rw [List.getElem?_eq_none (by unfold seg; rw [List.length_take]; omega), List.getElem?_eq_none (by unfold seg; rw [List.length_take]; omega)]

theorem seg_putSeg_other {size i k n : Nat} {c cells : List Value} (h : cells.length = n * size) (hi : i < n) (hc : c.length = size) (hk : k ≠ i) : seg size k (putSeg size i c cells) = seg size k cells :=
  seg_other_of hk fun j hj => by rw [putSeg_get h hi hc, if_neg hj]

/-- One cell of the i-th element is written. -/
theorem seg_set {size i j n : Nat} {u : Value} {cells : List Value} (h : cells.length = n * size) (hi : i < n) : seg size i (cells.set (i * size + j) u) = if j < size then (seg size i cells).set j u else seg size i cells := by
  by_cases hj : j < size
  · rw [if_pos hj]
    refine seg_ext (n := n) (by simpa using h) hi (by simpa using seg_length h hi) fun q hq => ?_
    rw [List.getElem?_set, List.getElem?_set]
    by_cases he : j = q
    · subst he
      rw [if_pos rfl, if_pos rfl, seg_length h hi]
      have h1 : (i + 1) * size ≤ n * size := Nat.mul_le_mul_right _ hi
      rw [Nat.add_mul, Nat.one_mul] at h1
      rw [if_pos (by omega), if_pos hj]
    · rw [if_neg (by omega), if_neg he, seg_get hq]
  · rw [if_neg hj]
    refine seg_ext (n := n) (by simpa using h) hi (seg_length h hi) fun q hq => ?_
    rw [List.getElem?_set, if_neg (by omega), seg_get hq]

theorem seg_set_other {size i j k : Nat} {u : Value} {cells : List Value} (hj : j < size) (hk : k ≠ i) : seg size k (cells.set (i * size + j) u) = seg size k cells :=
  seg_other_of hk fun q hq => by
    have h2 : (i + 1) * size = i * size + size := by rw [Nat.add_mul, Nat.one_mul]
    rw [List.getElem?_set, if_neg (by omega)]

/-- The slice '.slice A n c' holds the data xs. -/
def RowsAt (R : Rep α) (w : World) (B : Nat) (A : Option Addr) (n : Nat) (xs : List α) : Prop :=
  xs.length = n ∧ ∃ cells : List Value, Reads w B R.size A n cells ∧ ∀ i x, xs[i]? = some x → R.at_ w B (seg R.size i cells) x

/-- The slice value v holds the data xs; it and what it leads to are whole blocks of the call's own: the blocks fp. -/
def OwnRows (R : Rep α) (e : TypeId) (w : World) (base : Nat) (v : Value) (xs : List α) (fp : List Nat) : Prop :=
  ∃ (cells : List Value) (fps : List (List Nat)), w.ownsRow base e R.size v xs.length cells ∧ fps.length = xs.length ∧ (∀ (i : Nat) (x : α) (f : List Nat), xs[i]? = some x → fps[i]? = some f → R.own w base (seg R.size i cells) x f) ∧ fp = v.ownBlock.toList ++ fps.flatten ∧ fp.Nodup

theorem RowsAt.keep {R : Rep α} {w w' : World} {B n : Nat} {A : Option Addr} {xs : List α} (h : RowsAt R w B A n xs) (hk : ∀ p : Addr, p.block < B → w'.cell? p = w.cell? p) : RowsAt R w' B A n xs := by
  obtain ⟨hl, cells, hr, he⟩ := h
  exact ⟨hl, cells, hr.keep hk, fun i x hx => R.keep (he i x hx) hk⟩
theorem RowsAt.more {R : Rep α} {w : World} {B B' n : Nat} {A : Option Addr} {xs : List α} (h : RowsAt R w B A n xs) (hB : B ≤ B') : RowsAt R w B' A n xs := by
  obtain ⟨hl, cells, hr, he⟩ := h
  exact ⟨hl, cells, hr.more hB, fun i x hx => R.more (he i x hx) hB⟩

theorem mem_flatten_of {fps : List (List Nat)} {i g : Nat} {f : List Nat} (h : fps[i]? = some f) (hg : g ∈ f) : g ∈ fps.flatten := List.mem_flatten.2 ⟨f, List.mem_of_getElem? h, hg⟩

theorem OwnRows.kept {R : Rep α} {e : TypeId} {w w' : World} {base : Nat} {v : Value} {xs : List α} {fp : List Nat} (h : OwnRows R e w base v xs fp) (hb : ∀ g, g ∈ fp → w'.heap[g]? = w.heap[g]?) : OwnRows R e w' base v xs fp := by
  obtain ⟨cells, fps, ho, hl, he, hf, hn⟩ := h
  refine ⟨cells, fps, ownsRow_block ho (fun g hg => hb g (by rw [hf]; exact List.mem_append_left _ hg)), hl, fun i x f hx hfi => ?_, hf, hn⟩
  exact R.kept (he i x f hx hfi) fun g hg => hb g (by rw [hf]; exact List.mem_append_right _ (mem_flatten_of hfi hg))

theorem OwnRows.reads {R : Rep α} {e : TypeId} {w : World} {base : Nat} {v : Value} {xs : List α} {fp : List Nat} (h : OwnRows R e w base v xs fp) : ∃ A c, v = .slice A xs.length c ∧ xs.length ≤ c ∧ c ≤ maxLen ∧ RowsAt R w w.heap.size A xs.length xs := by
  obtain ⟨cells, fps, ho, hl, he, hf, hn⟩ := h
  have hat : ∀ i x, xs[i]? = some x → R.at_ w w.heap.size (seg R.size i cells) x := fun i x hx => by
    have hi : i < xs.length := (List.getElem?_eq_some_iff.1 hx).1
    exact R.reads (he i x _ hx (List.getElem?_eq_getElem (by omega)))
  have ho' := ho
  rcases ho.2 with ⟨rfl, h0⟩ | ⟨g, cap, cur, rfl, hb, hg, hnc, hcm, _, _⟩
  · refine ⟨none, 0, by rw [h0], by omega, by simp [maxLen], rfl, cells, ?_, hat⟩
    have hc0 : cells = [] := List.eq_nil_of_length_eq_zero (by rw [ho.1, h0, Nat.zero_mul])
    subst hc0
    rw [h0]
    exact ⟨by simp, fun h => absurd h (by omega)⟩
  · exact ⟨_, cap, rfl, hnc, hcm, rfl, cells, Reads.of_own ho', hat⟩

theorem OwnRows.low {R : Rep α} {e : TypeId} {w : World} {base base' : Nat} {v : Value} {xs : List α} {fp : List Nat} (h : OwnRows R e w base v xs fp) (hb : base' ≤ base) : OwnRows R e w base' v xs fp := by
  obtain ⟨cells, fps, ho, hl, he, hf⟩ := h
  exact ⟨cells, fps, ownsRow_mono ho hb, hl, fun i x f hx hfi => R.low (he i x f hx hfi) hb, hf⟩

theorem OwnRows.lt {R : Rep α} {e : TypeId} {w : World} {base : Nat} {v : Value} {xs : List α} {fp : List Nat} (h : OwnRows R e w base v xs fp) : ∀ g, g ∈ fp → base ≤ g ∧ g < w.heap.size := by
  obtain ⟨cells, fps, ho, hl, he, hf, hn⟩ := h
  intro g hg
  rw [hf, List.mem_append] at hg
  rcases hg with hg | hg
  · exact ho.lt g (by simpa using hg)
  · obtain ⟨f, hfm, hgf⟩ := List.mem_flatten.1 hg
    obtain ⟨i, hi, rfl⟩ := List.mem_iff_getElem.1 hfm
    exact R.lt (he i _ _ (List.getElem?_eq_getElem (by omega)) (List.getElem?_eq_getElem hi)) g hgf

/-- The marks of a list, element by element. -/
def mkL (R : Rep α) : Nat → List α → List α
  | _, [] => []
  | k, x :: xs => R.mark k x :: mkL R (k + R.cnt x) xs
def cntL (R : Rep α) : List α → Nat
  | [] => 0
  | x :: xs => R.cnt x + cntL R xs
theorem mkL_length (R : Rep α) (k : Nat) (xs : List α) : (mkL R k xs).length = xs.length := by
  induction xs generalizing k with
  | nil => rfl
  | cons x xs ih => simp [mkL, ih]
theorem cntL_append (R : Rep α) (xs ys : List α) : cntL R (xs ++ ys) = cntL R xs + cntL R ys := by
  induction xs with
  | nil => simp [cntL]
  | cons x xs ih => simp [cntL, ih]; omega
theorem mkL_append (R : Rep α) (k : Nat) (xs ys : List α) : mkL R k (xs ++ ys) = mkL R k xs ++ mkL R (k + cntL R xs) ys := by
  induction xs generalizing k with
  | nil => simp [mkL, cntL]
  | cons x xs ih => simp [mkL, cntL, ih, Nat.add_assoc]
theorem cntL_le (R : Rep α) (xs : List α) (i : Nat) : cntL R (xs.take i) ≤ cntL R xs := by
  have := cntL_append R (xs.take i) (xs.drop i)
  rw [List.take_append_drop] at this
  omega
theorem take_get {i : Nat} {xs : List α} {x : α} (h : xs[i]? = some x) : xs.take (i + 1) = xs.take i ++ [x] := by rw [List.take_add_one, h]; rfl
theorem cntL_succ (R : Rep α) {xs : List α} {i : Nat} {x : α} (h : xs[i]? = some x) : cntL R (xs.take (i + 1)) = cntL R (xs.take i) + R.cnt x := by
  rw [take_get h, cntL_append]; simp [cntL]
theorem mkL_get (R : Rep α) {xs : List α} {i k : Nat} {x : α} (h : xs[i]? = some x) : (mkL R k xs)[i]? = some (R.mark (k + cntL R (xs.take i)) x) := by
  induction xs generalizing k i with
  | nil => cases h
  | cons y ys ih =>
    cases i with
    | zero => simp only [List.getElem?_cons_zero] at h; injection h with h; subst h; simp [mkL, cntL]
    | succ i =>
      simp only [List.getElem?_cons_succ] at h
      simp only [mkL, List.getElem?_cons_succ, List.take_succ_cons, cntL]
      rw [ih h, Nat.add_assoc]
/-- The first i elements are marked. -/
def mkTo (R : Rep α) (k i : Nat) (xs : List α) : List α := mkL R k (xs.take i) ++ xs.drop i
theorem mkTo_zero (R : Rep α) (k : Nat) (xs : List α) : mkTo R k 0 xs = xs := by simp [mkTo, mkL]
theorem mkTo_all (R : Rep α) (k : Nat) (xs : List α) : mkTo R k xs.length xs = mkL R k xs := by simp [mkTo]
theorem mkTo_length (R : Rep α) (k i : Nat) (xs : List α) (hi : i ≤ xs.length) : (mkTo R k i xs).length = xs.length := by simp [mkTo, mkL_length]; omega
theorem mkTo_get (R : Rep α) {k i : Nat} {xs : List α} {x : α} (h : xs[i]? = some x) : (mkTo R k i xs)[i]? = some x := by
  have hi : i < xs.length := (List.getElem?_eq_some_iff.1 h).1
  unfold mkTo
  rw [List.getElem?_append_right (by rw [mkL_length, List.length_take]; omega), mkL_length, List.length_take, List.getElem?_drop]
  rw [show i + (i - min i xs.length) = i by omega]
  exact h
theorem mkTo_succ (R : Rep α) {k i : Nat} {xs : List α} {x : α} (h : xs[i]? = some x) : mkTo R k (i + 1) xs = (mkTo R k i xs).set i (R.mark (k + cntL R (xs.take i)) x) := by
  have hi : i < xs.length := (List.getElem?_eq_some_iff.1 h).1
  have hx : xs[i] = x := (List.getElem?_eq_some_iff.1 h).2
  unfold mkTo
  rw [take_get h, mkL_append, List.drop_eq_getElem_cons hi, hx]
  rw [List.set_append_right _ _ (by rw [mkL_length, List.length_take]; omega)]
  have e0 : i - (mkL R k (xs.take i)).length = 0 := by rw [mkL_length, List.length_take]; omega
  rw [e0]
  simp [mkL]

def rows (e : TypeId) (R : Rep α) : Rep (List α) where
  size := 1
  at_ := fun w B cs xs => ∃ A c, cs = [.slice A xs.length c] ∧ (xs.length ≤ c ∧ c ≤ maxLen) ∧ RowsAt R w B A xs.length xs
  own := fun w base cs xs fp => ∃ v, cs = [v] ∧ OwnRows R e w base v xs fp
  mark := mkL R
  cnt := cntL R
  len := fun ⟨_, _, h, _⟩ => by rw [h]; rfl
  keep := fun ⟨A, c, h, hc, hr⟩ hk => ⟨A, c, h, hc, hr.keep hk⟩
  more := fun ⟨A, c, h, hc, hr⟩ hB => ⟨A, c, h, hc, hr.more hB⟩
  reads := fun ⟨v, h, ho⟩ => by
    obtain ⟨A, c, rfl, hc, hm, hr⟩ := ho.reads
    exact ⟨A, c, h, ⟨hc, hm⟩, hr⟩
  kept := fun ⟨v, h, ho⟩ hb => ⟨v, h, ho.kept hb⟩
  low := fun ⟨v, h, ho⟩ hb => ⟨v, h, ho.low hb⟩
  lt := fun ⟨v, h, ho⟩ => ho.lt
  nodup := fun ⟨v, h, ho⟩ => by obtain ⟨_, _, _, _, _, _, hn⟩ := ho; exact hn

/-! ### what follows for every type -/
section
variable {R : Rep α} {w w' : World} {B base : Nat} {cs : List Value} {x : α} {fp : List Nat}
theorem at_below (h : R.at_ w B cs x) (hb : Below B w w') : R.at_ w' B cs x := R.keep h fun _ hp => hb.cell hp
theorem at_drewN (h : R.at_ w B cs x) (n : Nat) : R.at_ (w.drewN n) B cs x := R.keep h fun _ _ => rfl
theorem at_alloc (h : R.at_ w B cs x) (hB : B ≤ w.heap.size) (o : Obj) : R.at_ (w.alloc o) B cs x := R.keep h fun p hp => World.cell?_alloc_lt w o p (by omega)
theorem at_grown (h : R.at_ w B cs x) {row : Option Nat} (hg : w.grownBy w' row) (hB : B ≤ w.heap.size) (hr : ∀ g, row = some g → B ≤ g) : R.at_ w' B cs x :=
  R.keep h fun p hp => World.cell?_of_block (hg.block p.block (by omega) (fun e => by have := hr _ e.symm; omega))
theorem own_below (h : R.own w base cs x fp) (hb : Below w.heap.size w w') : R.own w' base cs x fp := R.kept h fun g hg => hb.block g (R.lt h g hg).2
theorem own_drewN (h : R.own w base cs x fp) (n : Nat) : R.own (w.drewN n) base cs x fp := R.kept h fun _ _ => rfl
end

end Rep
end Go.Proofs.Ytgdhhhibkhfdlaa

namespace Go.Proofs.Ytgdhhhibkhfdlaa
open Go.RowKit
set_option linter.unusedVariables false
theorem reads_lit (w : World) (cs : Array Value) (size n : Nat) (e : TypeId) {g : Nat} (hg : g = w.heap.size) (hs : cs.size = n * size) (hm : n ≤ maxLen) : Reads (w.alloc (.cells cs e)) (w.alloc (.cells cs e)).heap.size size (some ⟨g, 0, none⟩) n cs.toList := by
  subst hg
  exact Reads.of_own (World.ownsRow_lit (base := 0) (e := e) (size := size) w cs n (Nat.zero_le _) hm hs)
theorem one_of1 {u : Value} (h : u.oneCell' = true) : ∀ x, x ∈ (#[u] : Array Value).toList → x.oneCell' = true := by simp [h]
theorem one_of2 {u v : Value} (h : u.oneCell' = true) (h' : v.oneCell' = true) : ∀ x, x ∈ (#[u, v] : Array Value).toList → x.oneCell' = true := by simp [h, h']

namespace Rep
variable {α β : Type}

theorem getElem?_of_lt {xs : List α} {n k : Nat} (h : xs.length = n) (hk : k < n) : ∃ x, xs[k]? = some x := ⟨xs[k], List.getElem?_eq_getElem (by omega)⟩

/-- An element of a row that is read: its cells, at the walk's own addresses. -/
theorem RowsAt.elem {R : Rep α} {w : World} {B n k : Nat} {A : Option Addr} {xs : List α} (h : RowsAt R w B A n xs) (hk : k < n) (hs : 0 < R.size) :
    ∃ b off c x, A = some ⟨b, off, none⟩ ∧ b < B ∧ xs[k]? = some x ∧ R.at_ w B c x ∧ ∀ j u, c[j]? = some u → w.cell? ⟨b, off + (k * R.size + j), none⟩ = some u := by
  obtain ⟨hl, cells, hr, he⟩ := h
  obtain ⟨x, hx⟩ := getElem?_of_lt hl hk
  obtain ⟨ad, hA, hb, hc⟩ := hr.2 (by omega)
  have hlen := hr.1
  have hpos : 0 < cells.length := by rw [hlen]; exact Nat.mul_pos (by omega) hs
  have h0 := hc 0 _ (List.getElem?_eq_getElem hpos)
  obtain ⟨b, off, spot⟩ := ad
  have hsp : spot = none := by simpa [Addr.add] using World.cell?_spot h0
  subst hsp
  refine ⟨b, off, seg R.size k cells, x, hA, hb, hx, he k x hx, fun j u hu => ?_⟩
  have hj : j < R.size := by
    rcases Nat.lt_or_ge j R.size with h' | h'
    · exact h'
    · rw [List.getElem?_eq_none (by rw [seg_length hlen hk]; omega)] at hu; cases hu
  rw [seg_get hj] at hu
  have := hc _ _ hu
  have e : (⟨b, off, none⟩ : Addr).add (k * R.size + j) = ⟨b, off + (k * R.size + j), none⟩ := by
    unfold Addr.add
    split <;> simp_all
  rwa [e] at this

theorem flatten_set {fps : List (List Nat)} {k : Nat} {f : List Nat} (hk : k < fps.length) : (fps.set k f).flatten = (fps.take k).flatten ++ (f ++ (fps.drop (k + 1)).flatten) := by
  rw [List.set_eq_take_append_cons_drop, if_pos hk, List.flatten_append, List.flatten_cons]
theorem flatten_split {fps : List (List Nat)} {k : Nat} (hk : k < fps.length) : fps.flatten = (fps.take k).flatten ++ (fps[k] ++ (fps.drop (k + 1)).flatten) := by
  conv => lhs; rw [← List.take_append_drop k fps, List.flatten_append, List.drop_eq_getElem_cons hk, List.flatten_cons]

theorem nodup_put {a b c d f : List Nat} (h : (a ++ (b ++ (c ++ d))).Nodup) (hf : f.Nodup) (hd : ∀ g, g ∈ f → g ∉ a ∧ g ∉ b ∧ g ∉ d) : (a ++ (b ++ (f ++ d))).Nodup := by
  simp only [List.nodup_append, List.mem_append] at h ⊢
  obtain ⟨ha, ⟨hb, ⟨hc, hdn, hcd⟩, hbcd⟩, habcd⟩ := h
  refine ⟨ha, ⟨hb, ⟨hf, hdn, fun x hx y hy e => (hd x hx).2.2 (e ▸ hy)⟩, ?_⟩, ?_⟩
  · rintro x hx y (hy | hy) e
    · exact (hd y hy).2.1 (e ▸ hx)
    · exact hbcd x hx y (.inr hy) e
  · rintro x hx y (hy | hy | hy) e
    · exact habcd x hx y (.inl hy) e
    · exact (hd y hy).1 (e ▸ hx)
    · exact habcd x hx y (.inr (.inr hy)) e

/-- The cells of a row of the call's own are turned so that one element is another, whose blocks are others than the row's. -/
theorem OwnRows.put {R : Rep α} {e : TypeId} {w w' : World} {base k : Nat} {v : Value} {xs : List α} {fp : List Nat} (h : OwnRows R e w base v xs fp) {x : α} {c : List Value} {f : List Nat} (hk : k < xs.length)
    (hrow : ∀ cells, w.ownsRow base e R.size v xs.length cells → ∃ cells', w'.ownsRow base e R.size v xs.length cells' ∧ seg R.size k cells' = c ∧ ∀ i, i ≠ k → seg R.size i cells' = seg R.size i cells)
    (hx : R.own w' base c x f) (hf : ∀ g, g ∈ f → g ∉ fp) (hb : ∀ g, g ∈ fp → some g ≠ v.ownBlock → w'.heap[g]? = w.heap[g]?) :
    ∃ fp', OwnRows R e w' base v (xs.set k x) fp' ∧ ∀ g, g ∈ fp' → g ∈ fp ∨ g ∈ f := by
  obtain ⟨cells, fps, ho, hl, he, hfp, hn⟩ := h
  obtain ⟨cells', ho', hs, hs'⟩ := hrow cells ho
  have hkf : k < fps.length := by omega
  refine ⟨v.ownBlock.toList ++ (fps.set k f).flatten, ⟨cells', fps.set k f, by simpa using ho', by simpa using hl, ?_, rfl, ?_⟩, ?_⟩
  · intro i y fy hy hfy
    by_cases hik : k = i
    · subst hik
      rw [List.getElem?_set_self hk] at hy
      rw [List.getElem?_set_self hkf] at hfy
      injection hy with hy
      injection hfy with hfy
      subst hy hfy
      rw [hs]
      exact hx
    · rw [List.getElem?_set_ne hik] at hy hfy
      rw [hs' i (fun e => hik e.symm)]
      refine R.kept (he i y fy hy hfy) fun g hg => hb g ?_ ?_
      · rw [hfp]; exact List.mem_append_right _ (mem_flatten_of hfy hg)
      · intro hg'
        rw [hfp] at hn
        exact (List.nodup_append.1 hn).2.2 g (by rw [← hg']; simp) g (mem_flatten_of hfy hg) rfl
  · rw [flatten_set hkf, List.nodup_append]
    rw [hfp, flatten_split hkf] at hn
    have := nodup_put (a := []) (b := v.ownBlock.toList ++ (fps.take k).flatten) (c := fps[k]) (d := (fps.drop (k + 1)).flatten) (f := f) (by simpa using hn) (R.nodup hx) (by
      intro g hg
      have h1 := hf g hg
      rw [hfp, flatten_split hkf] at h1
      simp only [List.mem_append, not_or] at h1
      exact ⟨by simp, by simp only [List.mem_append, not_or]; exact ⟨h1.1, h1.2.1⟩, h1.2.2.2⟩)
    have h2 : (v.ownBlock.toList ++ ((fps.take k).flatten ++ (f ++ (fps.drop (k + 1)).flatten))).Nodup := by simpa using this
    exact List.nodup_append.1 h2
  · intro g hg
    rw [flatten_set hkf] at hg
    simp only [List.mem_append] at hg
    rw [hfp, flatten_split hkf]
    simp only [List.mem_append]
    rcases hg with hg | hg | hg | hg
    · exact .inl (.inl hg)
    · exact .inl (.inr (.inl hg))
    · exact .inr hg
    · exact .inl (.inr (.inr (.inr hg)))

/-- One element of a row of the call's own is turned within its own blocks. -/
theorem OwnRows.renew {R : Rep α} {e : TypeId} {w : World} {base k : Nat} {v : Value} {xs : List α} {fp : List Nat} {x : α} (h : OwnRows R e w base v xs fp) (hx : xs[k]? = some x) :
    ∃ c f, (∀ cells, w.ownsRow base e R.size v xs.length cells → seg R.size k cells = c) ∧ R.own w base c x f ∧ (∀ g, g ∈ f → g ∈ fp ∧ some g ≠ v.ownBlock) ∧
      ∀ (w' : World) (x' : α) (c' : List Value), (∀ cells, w.ownsRow base e R.size v xs.length cells → ∃ cells', w'.ownsRow base e R.size v xs.length cells' ∧ seg R.size k cells' = c' ∧ ∀ i, i ≠ k → seg R.size i cells' = seg R.size i cells) →
        R.own w' base c' x' f → (∀ g, g ∈ fp → some g ≠ v.ownBlock → g ∉ f → w'.heap[g]? = w.heap[g]?) → OwnRows R e w' base v (xs.set k x') fp := by
  obtain ⟨cells, fps, ho, hl, he, hfp, hn⟩ := h
  have hk : k < xs.length := (List.getElem?_eq_some_iff.1 hx).1
  have hkf : k < fps.length := by omega
  have huniq : ∀ cells2, w.ownsRow base e R.size v xs.length cells2 → cells2 = cells := by
    intro cells2 h2
    rcases ho.2 with ⟨rfl, h0⟩ | ⟨g, cap, cur, rfl, _, hg, _, _, _, ht⟩
    · have a1 := h2.1
      have a2 := ho.1
      rw [h0, Nat.zero_mul] at a1 a2
      rw [List.eq_nil_of_length_eq_zero a1, List.eq_nil_of_length_eq_zero a2]
    · rcases h2.2 with ⟨hv, _⟩ | ⟨g2, cap2, cur2, hv, _, hg2, _, _, _, ht2⟩
      · cases hv
      · injection hv with hv _ _
        injection hv with hv
        injection hv with hv _ _
        subst hv
        rw [hg] at hg2
        injection hg2 with hg2
        injection hg2 with hg2 _ _
        subst hg2
        rw [← ht, ← ht2]
  refine ⟨seg R.size k cells, fps[k], fun cells2 h2 => by rw [huniq cells2 h2], he k x _ hx (List.getElem?_eq_getElem hkf), ?_, ?_⟩
  · intro g hg
    have hm := mem_flatten_of (List.getElem?_eq_getElem hkf) hg
    refine ⟨by rw [hfp]; exact List.mem_append_right _ hm, fun hg' => ?_⟩
    rw [hfp] at hn
    exact (List.nodup_append.1 hn).2.2 g (by rw [← hg']; simp) g hm rfl
  · intro w' x' c' hrow hx' hb
    obtain ⟨cells', ho', hs, hs'⟩ := hrow cells ho
    refine ⟨cells', fps, by simpa using ho', by simpa using hl, ?_, hfp, hn⟩
    intro i y fy hy hfy
    by_cases hik : k = i
    · subst hik
      rw [List.getElem?_set_self hk] at hy
      rw [List.getElem?_eq_getElem hkf] at hfy
      injection hy with hy
      injection hfy with hfy
      subst hy hfy
      rw [hs]
      exact hx'
    · rw [List.getElem?_set_ne hik] at hy
      rw [hs' i (fun e => hik e.symm)]
      refine R.kept (he i y fy hy hfy) fun g hg => hb g ?_ ?_ ?_
      · rw [hfp]; exact List.mem_append_right _ (mem_flatten_of hfy hg)
      · intro hg'
        rw [hfp] at hn
        exact (List.nodup_append.1 hn).2.2 g (by rw [← hg']; simp) g (mem_flatten_of hfy hg) rfl
      · intro hgf
        rw [hfp] at hn
        have hn2 := (List.nodup_append.1 hn).2.1
        have hpw := (List.pairwise_flatten.1 (show List.Pairwise (· ≠ ·) fps.flatten from hn2)).2
        have hif : i < fps.length := (List.getElem?_eq_some_iff.1 hfy).1
        have hfy' : fps[i] = fy := (List.getElem?_eq_some_iff.1 hfy).2
        rw [List.pairwise_iff_getElem] at hpw
        rcases Nat.lt_or_gt_of_ne hik with hlt | hgt
        · exact hpw k i hkf hif hlt g hgf g (hfy' ▸ hg) rfl
        · exact hpw i k hif hkf hgt g (hfy' ▸ hg) g hgf rfl

/-- The row's own cells: each is there and may be written. -/
theorem OwnRows.there {R : Rep α} {e : TypeId} {w : World} {base g n c : Nat} {xs : List α} {fp : List Nat} (h : OwnRows R e w base (.slice (some ⟨g, 0, none⟩) n c) xs fp) (j : Nat) (hj : j < xs.length * R.size) :
    (∃ u, w.cell? ⟨g, j, none⟩ = some u) ∧ w.frozen? ⟨g, j, none⟩ = false ∧ g ∈ fp ∧ g < w.heap.size := by
  obtain ⟨cells, fps, ho, hl, he, hfp, hn⟩ := h
  have hv : n = xs.length := by
    rcases ho.2 with ⟨hv, _⟩ | ⟨_, _, _, hv, _⟩
    · cases hv
    · injection hv
  subst hv
  have hc := ho.cellAt j hj
  have hlen := ho.1
  rw [List.getElem?_eq_getElem (by omega)] at hc
  exact ⟨⟨_, hc⟩, ho.frozenAt j, by rw [hfp]; simp [Value.ownBlock], (ho.lt g rfl).2⟩

theorem OwnRows.of_below {R : Rep α} {e : TypeId} {w w' : World} {base : Nat} {v : Value} {xs : List α} {fp : List Nat} (h : OwnRows R e w base v xs fp) (hb : Below w.heap.size w w') : OwnRows R e w' base v xs fp := h.kept fun g hg => hb.block g (h.lt g hg).2

/-- A row that 'make' has made holds the element's zero cells at each place. -/
theorem seg_made (z : Array Value) (n : Nat) : ∀ i, i < n → seg z.size i (madeCells z (n * z.size)).toList = z.toList := by
  intro i hi
  refine seg_ext (n := n) (by simp [madeCells]) hi (by simp) fun j hj => ?_
  have h1 : (i + 1) * z.size ≤ n * z.size := Nat.mul_le_mul_right _ hi
  rw [Nat.add_mul, Nat.one_mul] at h1
  have h2 : (i * z.size + j) % z.size = j := by rw [Nat.mul_comm, Nat.mul_add_mod, Nat.mod_eq_of_lt hj]
  have h3 : i * z.size + j < n * z.size := by omega
  simp only [madeCells, Array.toList_map, Array.toList_range, List.getElem?_map, List.getElem?_range h3, Option.map_some, h2]
  simp [hj]

/-- The cells cs written from place o on. -/
def setRow (w : World) (g o : Nat) : List Value → World
  | [] => w
  | u :: us => setRow (w.setCell ⟨g, o, none⟩ u) g (o + 1) us

theorem setRow_heap (w : World) (g o k : Nat) (cs : List Value) (hk : k ≠ g) : (setRow w g o cs).heap[k]? = w.heap[k]? := by
  induction cs generalizing w o with
  | nil => rfl
  | cons u us ih => rw [setRow, ih, heap_setCell_other _ _ _ _ hk]
theorem setRow_below {w0 w : World} {B g : Nat} (o : Nat) (cs : List Value) (h : Below B w0 w) (hg : B ≤ g) : Below B w0 (setRow w g o cs) := by
  induction cs generalizing w o with
  | nil => exact h
  | cons u us ih => exact ih (o + 1) (h.setCell hg u)
theorem setRow_grown (w : World) (g o : Nat) (cs : List Value) : w.grownBy (setRow w g o cs) (some g) := by
  induction cs generalizing w o with
  | nil => exact World.grownBy.refl _ _
  | cons u us ih =>
    have h1 : w.grownBy (w.setCell ⟨g, o, none⟩ u) (some g) := ⟨rfl, rfl, rfl, by simp, fun k _ hk => heap_setCell_other w ⟨g, o, none⟩ k u (fun e => hk (by simp [e]))⟩
    exact h1.trans (ih _ _)
/-- The list with cs written from place o on. -/
def setL (l : List Value) (o : Nat) : List Value → List Value
  | [] => l
  | u :: us => setL (l.set o u) (o + 1) us
theorem setL_length (l : List Value) (o : Nat) (cs : List Value) : (setL l o cs).length = l.length := by
  induction cs generalizing l o with
  | nil => rfl
  | cons u us ih => rw [setL, ih, List.length_set]
theorem setL_get (l : List Value) (o : Nat) (cs : List Value) (h : o + cs.length ≤ l.length) (j : Nat) : (setL l o cs)[j]? = if o ≤ j ∧ j < o + cs.length then cs[j - o]? else l[j]? := by
  induction cs generalizing l o with
  | nil => simp [setL]; omega
  | cons u us ih =>
    simp only [List.length_cons] at h
    rw [setL, ih _ _ (by rw [List.length_set]; omega)]
    simp only [List.length_cons]
    by_cases h1 : o + 1 ≤ j ∧ j < o + 1 + us.length
    · rw [if_pos h1, if_pos ⟨by omega, by omega⟩, show j - o = (j - (o + 1)) + 1 by omega, List.getElem?_cons_succ]
    · rw [if_neg h1, List.getElem?_set]
      by_cases h2 : o = j
      · subst h2
        rw [if_pos rfl, if_pos (by omega), if_pos ⟨by omega, by omega⟩]
        simp
      · rw [if_neg h2, if_neg (by omega)]
theorem setRow_owns {w : World} {base e size n g c : Nat} {cells : List Value} (o : Nat) (cs : List Value) (h : w.ownsRow base e size (.slice (some ⟨g, 0, none⟩) n c) n cells) :
    (setRow w g o cs).ownsRow base e size (.slice (some ⟨g, 0, none⟩) n c) n (setL cells o cs) := by
  induction cs generalizing w cells o with
  | nil => exact h
  | cons u us ih => exact ih (o + 1) (h.stored o u).1
theorem setRow_put {w : World} {base e size n k g c : Nat} {cells : List Value} (cs : List Value) (h : w.ownsRow base e size (.slice (some ⟨g, 0, none⟩) n c) n cells) (hk : k < n) (hc : cs.length = size) :
    ∃ cells', (setRow w g (k * size) cs).ownsRow base e size (.slice (some ⟨g, 0, none⟩) n c) n cells' ∧ seg size k cells' = cs ∧ ∀ i, i ≠ k → seg size i cells' = seg size i cells := by
  have hlen := h.1
  have h1 : (k + 1) * size ≤ n * size := Nat.mul_le_mul_right _ hk
  have h2 : (k + 1) * size = k * size + size := by rw [Nat.add_mul, Nat.one_mul]
  have hget := setL_get cells (k * size) cs (by omega)
  refine ⟨_, setRow_owns (k * size) cs h, ?_, fun i hi => ?_⟩
  · refine seg_ext (n := n) (by rw [setL_length]; exact hlen) hk hc fun j hj => ?_
    rw [hget, if_pos ⟨by omega, by omega⟩]
    congr 1
    omega
  · refine seg_other_of hi fun j hj => ?_
    rw [hget, if_neg (by omega)]

/-- An element that has just been made is stored. -/
theorem OwnRows.store {R : Rep α} {e : TypeId} {w : World} {base g k n c B : Nat} {xs : List α} {fp : List Nat} (h : OwnRows R e w base (.slice (some ⟨g, 0, none⟩) n c) xs fp) {x : α} (cs : List Value) {f : List Nat} (hn : xs.length = n) (hk : k < n)
    (hc : cs.length = R.size) (hx : R.own w B cs x f) (hB : base ≤ B) (hf : ∀ g', g' ∈ fp → g' < B) :
    ∃ fp', OwnRows R e (setRow w g (k * R.size) cs) base (.slice (some ⟨g, 0, none⟩) n c) (xs.set k x) fp' := by
  subst hn
  have hg : g ∈ fp := by
    obtain ⟨_, _, _, _, _, hfp, _⟩ := h
    rw [hfp]
    simp [Value.ownBlock]
  obtain ⟨fp', h1, _⟩ := h.put (k := k) (x := x) (c := cs) (f := f) (w' := setRow w g (k * R.size) cs) hk (fun cells ho => setRow_put cs ho hk hc)
    (R.low (R.kept hx fun a ha => setRow_heap _ _ _ _ _ (fun e => by have := (R.lt hx a ha).1; have := hf g hg; omega)) hB)
    (fun a ha ha' => by have := (R.lt hx a ha).1; have := hf a ha'; omega)
    (fun a ha hne => setRow_heap _ _ _ _ _ (fun e => hne (by rw [e]; rfl)))
  exact ⟨fp', h1⟩

/-- An element of a row of the call's own, opened: its cells; and how it is shut again when a cell of it, or what it leads to, has turned. -/
theorem OwnRows.open_ {R : Rep α} {e : TypeId} {w : World} {base g n cap k : Nat} {xs : List α} {fp : List Nat} {x : α} (h : OwnRows R e w base (.slice (some ⟨g, 0, none⟩) n cap) xs fp) (hx : xs[k]? = some x) :
    ∃ c f, R.own w base c x f ∧ (∀ j u, c[j]? = some u → w.cell? ⟨g, k * R.size + j, none⟩ = some u) ∧ (∀ j, w.frozen? ⟨g, j, none⟩ = false) ∧ (∀ a, a ∈ f → a ∈ fp) ∧ g ∈ fp ∧ g ∉ f ∧ base ≤ g ∧ g < w.heap.size ∧
      (∀ (w' : World) (x' : α), w'.heap[g]? = w.heap[g]? → R.own w' base c x' f → (∀ a, a ∈ fp → a ≠ g → a ∉ f → w'.heap[a]? = w.heap[a]?) → OwnRows R e w' base (.slice (some ⟨g, 0, none⟩) n cap) (xs.set k x') fp) ∧
      (∀ (x' : α) (j : Nat) (u : Value), j < R.size → R.own (w.setCell ⟨g, k * R.size + j, none⟩ u) base (c.set j u) x' f → OwnRows R e (w.setCell ⟨g, k * R.size + j, none⟩ u) base (.slice (some ⟨g, 0, none⟩) n cap) (xs.set k x') fp) := by
  have hk : k < xs.length := (List.getElem?_eq_some_iff.1 hx).1
  obtain ⟨c, f, hc, hxo, hf, hclose⟩ := h.renew hx
  obtain ⟨cells, fps, ho, hl, he, hfp, hn⟩ := h
  have hv : n = xs.length := by
    rcases ho.2 with ⟨hv, _⟩ | ⟨_, _, _, hv, _⟩
    · cases hv
    · injection hv
  subst hv
  have hlen := ho.1
  have hce := hc cells ho
  have hgl := ho.lt g rfl
  refine ⟨c, f, hxo, ?_, fun j => ho.frozenAt j, fun a ha => (hf a ha).1, by rw [hfp]; simp [Value.ownBlock], fun hg => (hf g hg).2 rfl, hgl.1, hgl.2, ?_, ?_⟩
  · intro j u hu
    have hj : j < R.size := by
      rcases Nat.lt_or_ge j R.size with h' | h'
      · exact h'
      · rw [← hce, List.getElem?_eq_none (by rw [seg_length hlen hk]; omega)] at hu; cases hu
    rw [← hce, seg_get hj] at hu
    have h1 : (k + 1) * R.size ≤ xs.length * R.size := Nat.mul_le_mul_right _ hk
    rw [Nat.add_mul, Nat.one_mul] at h1
    rw [ho.cellAt _ (by omega), hu]
  · intro w' x' hg hx' hb
    refine hclose w' x' c (fun cells2 ho2 => ⟨cells2, ownsRow_block ho2 (fun a ha => by simp [Value.ownBlock] at ha; subst ha; exact hg), hc cells2 ho2, fun _ _ => rfl⟩) hx' fun a ha hne haf => hb a ha (fun e => hne (by rw [e]; rfl)) haf
  · intro x' j u hj hx'
    refine hclose _ x' (c.set j u) (fun cells2 ho2 => ⟨_, (ho2.stored _ u).1, ?_, fun i hi => seg_set_other hj hi⟩) hx' fun a ha hne _ => heap_setCell_other _ _ _ _ (fun e => hne (by rw [e]; rfl))
    rw [seg_set ho2.1 hk, if_pos hj, hc cells2 ho2]

/-- Only the blocks fp have turned, and what is new. -/
structure Only (w w' : World) (fp : List Nat) : Prop where
  os : w'.os = w.os
  tape : w'.tape = w.tape
  output : w'.output = w.output
  size : w.heap.size ≤ w'.heap.size
  block : ∀ k, k < w.heap.size → k ∉ fp → w'.heap[k]? = w.heap[k]?

theorem Only.refl (w : World) (fp : List Nat) : Only w w fp := ⟨rfl, rfl, rfl, Nat.le_refl _, fun _ _ _ => rfl⟩
theorem Only.trans {w w1 w2 : World} {fp : List Nat} (h : Only w w1 fp) (h2 : Only w1 w2 fp) : Only w w2 fp :=
  ⟨h2.os.trans h.os, h2.tape.trans h.tape, h2.output.trans h.output, Nat.le_trans h.size h2.size, fun k hk hn => (h2.block k (Nat.lt_of_lt_of_le hk h.size) hn).trans (h.block k hk hn)⟩
theorem Only.of_grown {w w' : World} {fp : List Nat} {row : Option Nat} (h : w.grownBy w' row) (hr : ∀ g, row = some g → g ∈ fp) : Only w w' fp :=
  ⟨h.os, h.tape, h.output, h.size, fun k hk hn => h.block k hk (fun e => hn (hr k e.symm))⟩
theorem Only.mono {w w' : World} {fp fp' : List Nat} (h : Only w w' fp) (hs : ∀ a, a ∈ fp → a ∈ fp') : Only w w' fp' := ⟨h.os, h.tape, h.output, h.size, fun k hk hn => h.block k hk (fun e => hn (hs k e))⟩
theorem Only.setCell (w : World) {fp : List Nat} {p : Addr} (hp : p.block ∈ fp) (u : Value) : Only w (w.setCell p u) fp :=
  ⟨rfl, rfl, rfl, by simp, fun k _ hn => heap_setCell_other w p k u (fun e => hn (e ▸ hp))⟩
theorem Only.below {B : Nat} {w0 w w' : World} {fp : List Nat} (hb : Below B w0 w) (h : Only w w' fp) (hB : B ≤ w.heap.size) (hf : ∀ g, g ∈ fp → B ≤ g) : Below B w0 w' :=
  ⟨h.os.trans hb.os, h.tape.trans hb.tape, h.output.trans hb.output, Nat.le_trans hb.size h.size, fun k hk => (h.block k (by omega) (fun e => by have := hf k e; omega)).trans (hb.block k hk)⟩
/-- What is owned elsewhere stays owned. -/
theorem own_only {R : Rep α} {w w' : World} {base : Nat} {cs : List Value} {x : α} {fp f : List Nat} (h : R.own w base cs x f) (ho : Only w w' fp) (hd : ∀ a, a ∈ f → a ∉ fp) : R.own w' base cs x f :=
  R.kept h fun g hg => ho.block g (R.lt h g hg).2 (hd g hg)
theorem at_only {R : Rep α} {w w' : World} {B : Nat} {cs : List Value} {x : α} {fp : List Nat} (h : R.at_ w B cs x) (ho : Only w w' fp) (hB : B ≤ w.heap.size) (hf : ∀ g, g ∈ fp → B ≤ g) : R.at_ w' B cs x :=
  R.keep h fun p hp => World.cell?_of_block (ho.block p.block (by omega) (fun e => by have := hf _ e; omega))

theorem setLow {R : Rep α} {w : World} {base : Nat} {cs : List Value} {x : α} {fp : List Nat} (h : R.own w base cs x fp) {p : Addr} (hp : p.block < base) (u : Value) : R.own (w.setCell p u) base cs x fp :=
  R.kept h fun g hg => heap_setCell_other _ _ _ _ (by have := (R.lt h g hg).1; omega)
theorem at_setLow {R : Rep α} {w : World} {B : Nat} {cs : List Value} {x : α} (h : R.at_ w B cs x) {p : Addr} (hp : B ≤ p.block) (u : Value) : R.at_ (w.setCell p u) B cs x :=
  R.keep h fun q hq => World.cell?_setCell_other w p q u (fun e => by subst e; omega)

theorem seg_append_left {size i n : Nat} {cells news : List Value} (h : cells.length = n * size) (hi : i < n) : seg size i (cells ++ news) = seg size i cells := by
  have h1 : (i + 1) * size ≤ n * size := Nat.mul_le_mul_right _ hi
  rw [Nat.add_mul, Nat.one_mul] at h1
  apply List.ext_getElem?
  intro j
  by_cases hlt : j < size
  · rw [seg_get hlt, seg_get hlt, List.getElem?_append_left (by omega)]
  · rw [List.getElem?_eq_none (by unfold seg; rw [List.length_take]; omega), List.getElem?_eq_none (by unfold seg; rw [List.length_take]; omega)]
theorem seg_append_last {size n : Nat} {cells news : List Value} (h : cells.length = n * size) (hn : news.length = size) : seg size n (cells ++ news) = news := by
  unfold seg
  rw [← h, List.drop_left, ← hn, List.take_length]

/-- A row of the call's own onto which one element of the call's own has been appended. -/
theorem OwnRows.pushed {R : Rep α} {e : TypeId} {w w' : World} {base : Nat} {v v' : Value} {xs : List α} {fp : List Nat} {cells c : List Value} {x : α} {f : List Nat} {fps : List (List Nat)}
    (hlen : cells.length = xs.length * R.size) (hl : fps.length = xs.length) (he : ∀ (i : Nat) (x : α) (f : List Nat), xs[i]? = some x → fps[i]? = some f → R.own w base (seg R.size i cells) x f) (hfp : fp = v.ownBlock.toList ++ fps.flatten) (hn : fp.Nodup)
    (ho' : w'.ownsRow base e R.size v' (xs.length + 1) (cells ++ c)) (hg : w.grownBy w' v.ownBlock) (hat : v'.ownBlock = v.ownBlock ∨ v'.ownBlock = some w.heap.size) (hltv : ∀ k, v.ownBlock = some k → base ≤ k ∧ k < w.heap.size)
    (hx : R.own w base c x f) (hd : ∀ g, g ∈ f → g ∉ fp) :
    ∃ fp', OwnRows R e w' base v' (xs ++ [x]) fp' ∧ ∀ g, g ∈ fp' → g ∈ fp ∨ g ∈ f ∨ g = w.heap.size := by
  have hcl := R.len (R.reads hx)
  have hltf : ∀ g, g ∈ fps.flatten → base ≤ g ∧ g < w.heap.size := by
    intro g hg
    obtain ⟨f, hfm, hgf⟩ := List.mem_flatten.1 hg
    obtain ⟨i, hi, rfl⟩ := List.mem_iff_getElem.1 hfm
    exact R.lt (he i _ _ (List.getElem?_eq_getElem (by omega)) (List.getElem?_eq_getElem hi)) g hgf
  have hn2 := List.nodup_append.1 (hfp ▸ hn)
  have hne : ∀ g, g ∈ fps.flatten → some g ≠ v.ownBlock := fun g hg' he' => hn2.2.2 g (by rw [← he']; simp) g hg' rfl
  have hnf : ∀ g, g ∈ f → some g ≠ v.ownBlock := fun g hg' he' => hd g hg' (by rw [hfp, ← he']; simp)
  refine ⟨v'.ownBlock.toList ++ (fps ++ [f]).flatten, ⟨cells ++ c, fps ++ [f], by simpa using ho', by simp [hl], ?_, rfl, ?_⟩, ?_⟩
  · intro i y fy hy hfy
    by_cases hi : i < xs.length
    · rw [List.getElem?_append_left hi] at hy
      rw [List.getElem?_append_left (by omega)] at hfy
      rw [seg_append_left hlen hi]
      exact R.kept (he i y fy hy hfy) fun g hg' => hg.block g (hltf g (mem_flatten_of hfy hg')).2 (hne g (mem_flatten_of hfy hg'))
    · have hi' : i = xs.length := by have := (List.getElem?_eq_some_iff.1 hy).1; simp at this; omega
      subst hi'
      rw [List.getElem?_append_right (Nat.le_refl _)] at hy
      rw [← hl, List.getElem?_append_right (Nat.le_refl _)] at hfy
      simp at hy hfy
      subst hy hfy
      rw [seg_append_last hlen hcl]
      exact R.kept hx fun g hg' => hg.block g (R.lt hx g hg').2 (hnf g hg')
  · rw [List.nodup_append]
    refine ⟨nodup_toList _, ?_, ?_⟩
    · rw [List.flatten_append, List.nodup_append]
      refine ⟨hn2.2.1, by simpa using R.nodup hx, fun a ha b hb e' => ?_⟩
      subst e'
      exact hd a (by simpa using hb) (by rw [hfp]; exact List.mem_append_right _ ha)
    · intro a ha b hb e'
      subst e'
      rw [List.flatten_append, List.mem_append] at hb
      have hav : v'.ownBlock = some a := by simpa using ha
      rcases hat with h1 | h1
      · rw [h1] at hav
        rcases hb with hb | hb
        · exact hne a hb hav.symm
        · exact hnf a (by simpa using hb) hav.symm
      · rw [h1] at hav
        injection hav with hav
        rcases hb with hb | hb
        · have := (hltf a hb).2; omega
        · have := (R.lt hx a (by simpa using hb)).2; omega
  · intro g hg'
    rw [List.flatten_append, List.mem_append, List.mem_append] at hg'
    rcases hg' with h1 | h1 | h1
    · have hav : v'.ownBlock = some g := by simpa using h1
      rcases hat with h2 | h2
      · rw [h2] at hav
        exact .inl (by rw [hfp, hav]; simp)
      · rw [h2] at hav
        injection hav with hav
        exact .inr (.inr hav.symm)
    · exact .inl (by rw [hfp]; exact List.mem_append_right _ h1)
    · exact .inr (.inl (by simpa using h1))

theorem OwnRows.alloc {R : Rep α} {e : TypeId} {w : World} {base : Nat} {v : Value} {xs : List α} {fp : List Nat} (h : OwnRows R e w base v xs fp) (o : Obj) : OwnRows R e (w.alloc o) base v xs fp := h.kept fun g hg => Below.heap_alloc w o g (h.lt g hg).2
theorem own_alloc {R : Rep α} {w : World} {base : Nat} {cs : List Value} {x : α} {fp : List Nat} (h : R.own w base cs x fp) (o : Obj) : R.own (w.alloc o) base cs x fp := R.kept h fun g hg => Below.heap_alloc w o g (R.lt h g hg).2
theorem OwnRows.setLow {R : Rep α} {e : TypeId} {w : World} {base : Nat} {v : Value} {xs : List α} {fp : List Nat} (h : OwnRows R e w base v xs fp) {p : Addr} (hp : p.block < base) (u : Value) : OwnRows R e (w.setCell p u) base v xs fp :=
  h.kept fun g hg => heap_setCell_other _ _ _ _ (by have := (h.lt g hg).1; omega)

/-- 'append(s, x)' at the walk: the row s of data is the call's own, the one new element too. -/
theorem wpList_push {P : Program} (w : World) {ops : Array Oper} {rest : List Oper} {o : Oper} {a : Act} {Q : Exit → Act → World → Prop} (hgd : o.guard = none) (s x : Operand) (t : TypeId)
    (ho : o.op = .call { callee := .builtin .append, args := #[s, x], argTypes := #[t, t] }) (R : Rep α)
    (base : Nat) (e : TypeId) (i : TypeInfo) (z : Value) (bytes : Nat) (ht : P.underlying t = some (.slice e)) (hi : P.info? e = some i) (hz : i.zero = some z)
    (hsize : i.size = R.size) (hby : i.bytes = bytes) (hzs : z.cells.size = R.size) (hsz : 0 < R.size)
    (v : Value) (xs : List α) (fp : List Nat) (hs : a.eval s = v) (hown : OwnRows R e w base v xs fp)
    (A : Option Addr) (c : Nat) (el : List Value) (y : α) (f : List Nat) (hx : a.eval x = .slice A 1 c) (hr : Reads w w.heap.size R.size A 1 el) (h1 : ∀ u ∈ el, u.oneCell' = true) (hy : R.own w base el y f) (hd : ∀ g, g ∈ f → g ∉ fp)
    (h63 : xs.length + 1 ≤ maxLen) (hbytes : (xs.length + 1) * bytes ≤ 140737488355328) (hbase : base ≤ w.heap.size)
    (h : ∀ A' c' w' fp', OwnRows R e w' base (.slice A' (xs.length + 1) c') (xs ++ [y]) fp' → w.grownBy w' v.ownBlock → (∀ g, g ∈ fp' → g ∈ fp ∨ g ∈ f ∨ g = w.heap.size) → (∀ k, v.ownBlock = some k → base ≤ k ∧ k ∈ fp) → wpList P ops Q rest (a.put o.dst (.slice A' (xs.length + 1) c')) w') : wpList P ops Q (o :: rest) a w := by
  obtain ⟨cells, fps, hrow, hl, he, hfp, hn⟩ := hown
  refine wpList_append_any w hgd s x t ho base e i z R.size bytes ht hi hz hsize hby hzs hsz v xs.length cells hs hrow w.heap.size A 1 c el hx hr h1 h63 hbytes hbase ?_
  intro v' w' hrow' hg hat
  obtain ⟨fp', hp, hf'⟩ := OwnRows.pushed (e := e) hrow.1 hl he hfp hn hrow' hg hat (fun k hk => hrow.lt k hk) hy hd
  obtain ⟨A', c', rfl, _, _, _⟩ := hp.reads
  rw [List.length_append, List.length_singleton] at hp ⊢
  exact h A' c' w' fp' hp hg hf' fun k hk => ⟨(hrow.lt k hk).1, by rw [hfp, hk]; simp⟩

/-- The new empty slice of bytes, as a row of the call's own. -/
theorem lit_empty (w : World) (e : TypeId) (size : Nat) {g : Nat} (hg : g = w.heap.size) : (w.alloc (.cells #[] e)).ownsRow w.heap.size e size (.slice (some ⟨g, 0, none⟩) 0 0) 0 [] := by
  subst hg
  exact World.ownsRow_lit w #[] 0 (Nat.le_refl _) (by simp) (by simp)

/-- 'append([]byte{}, b...)': bytes of the call's own. -/
theorem wpList_bytes {P : Program} (w w0 : World) {ops : Array Oper} {rest : List Oper} {o : Oper} {a : Act} {Q : Exit → Act → World → Prop} (hgd : o.guard = none) (s x : Operand) (t : TypeId)
    (ho : o.op = .call { callee := .builtin .append, args := #[s, x], argTypes := #[t, t] })
    (e : TypeId) (i : TypeInfo) (ht : P.underlying t = some (.slice e)) (hi : P.info? e = some i) (hz : i.zero = some (.int .u8 0)) (hsize : i.size = 1) (hby : i.bytes = 1)
    (v : Value) (hs : a.eval s = v) (base : Nat) (hown : w.ownsRow base e 1 v 0 []) (hbase : base ≤ w.heap.size)
    (B : Nat) (A : Option Addr) (c : Nat) (l : List UInt8) (hx : a.eval x = .slice A l.length c) (hr : Reads w B 1 A l.length (bys l)) (hl : l.length ≤ 1048576)
    (h : ∀ A' c' w', Owns w' base e (.slice A' l.length c') l → w.grownBy w' v.ownBlock → (∀ k, v.ownBlock = some k → base ≤ k) → wpList P ops Q rest (a.put o.dst (.slice A' l.length c')) w') : wpList P ops Q (o :: rest) a w := by
  refine wpList_append_any w hgd s x t ho base e i (.int .u8 0) 1 1 ht hi hz hsize hby rfl (by omega) v 0 [] hs hown B A l.length c (bys l) hx hr (bys_one l) (by simp only [maxLen]; omega) (by omega) hbase ?_
  intro v' w' hrow hg hat
  have h2 : Owns w' base e v' l := by unfold Owns; simpa using hrow
  obtain ⟨A', c', rfl, _⟩ := h2.shape
  exact h A' c' w' h2 hg (fun k hk => (hown.lt k hk).1)

end Rep
end Go.Proofs.Ytgdhhhibkhfdlaa
