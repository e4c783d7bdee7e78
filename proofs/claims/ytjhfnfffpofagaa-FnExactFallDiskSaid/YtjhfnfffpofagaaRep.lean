/- How data lie in cells: one word for every type of the program's data ('Rep'): what reads, what is owned (and in which blocks), what the marks make of it. Plain lemmas, over any program. -/
import Derived.Test.YtjhfnfffpofagaaHelp
import Derived.Test.YtjhfnfffpofagaaShut
namespace Go.Proofs.Ytjhfnfffpofagaa
open Go.RowKit
set_option linter.unusedVariables false

/-- 'at_ w B cs x': the cells cs hold x, what they lead to lies below block B. 'own w base cs x fp': they hold x, and what they lead to are whole blocks of the call's own, from base on: the blocks fp. 'mark k x': x, marked from k on; 'cnt x': how many marks. -/
structure Rep (α : Type) where
  size : Nat
  at_ : World → Nat → List Value → α → Prop
  own : World → Nat → List Value → α → List Nat → Prop
  mark : Nat → α → α
  cnt : α → Nat
  len : ∀ {w : World} {B : Nat} {cs : List Value} {x : α}, at_ w B cs x → cs.length = size
  keep : ∀ {w w' : World} {B : Nat} {cs : List Value} {x : α}, at_ w B cs x → (∀ p : Addr, p.block < B → w'.cell? p = w.cell? p) → at_ w' B cs x
  more : ∀ {w : World} {B B' : Nat} {cs : List Value} {x : α}, at_ w B cs x → B ≤ B' → at_ w B' cs x
  reads : ∀ {w : World} {base : Nat} {cs : List Value} {x : α} {fp : List Nat}, own w base cs x fp → at_ w w.heap.size cs x
  kept : ∀ {w w' : World} {base : Nat} {cs : List Value} {x : α} {fp : List Nat}, own w base cs x fp → (∀ g, g ∈ fp → w'.heap[g]? = w.heap[g]?) → own w' base cs x fp
  low : ∀ {w : World} {base base' : Nat} {cs : List Value} {x : α} {fp : List Nat}, own w base cs x fp → base' ≤ base → own w base' cs x fp
  lt : ∀ {w : World} {base : Nat} {cs : List Value} {x : α} {fp : List Nat}, own w base cs x fp → ∀ g, g ∈ fp → base ≤ g ∧ g < w.heap.size
  nodup : ∀ {w : World} {base : Nat} {cs : List Value} {x : α} {fp : List Nat}, own w base cs x fp → fp.Nodup

namespace Rep
variable {α β : Type}

/-! ### one cell -/
/-- A type whose values are single cells without memory of their own. -/
def leaf (f : α → Value) (m : Nat → α → α) : Rep α where
  size := 1
  at_ := fun _ _ cs x => cs = [f x]
  own := fun _ _ cs x fp => cs = [f x] ∧ fp = []
  mark := m
  cnt := fun _ => 1
  len := fun h => by rw [h]; rfl
  keep := fun h _ => h
  more := fun h _ => h
  reads := fun h => h.1
  kept := fun h _ => h
  low := fun h _ => h
  lt := fun h g hg => by rw [h.2] at hg; cases hg
  nodup := fun h => by rw [h.2]; exact List.nodup_nil

def int : Rep Int := leaf (fun n => .int .i64 n) (fun k _ => (k : Int))
def bool : Rep Bool := leaf (fun b => .bool b) (fun k _ => k % 3 == 0)

/-! ### a slice of bytes -/
theorem owned_reads {w : World} {base : Nat} {e : TypeId} {v : Value} {l : List UInt8} (h : Owns w base e v l) : ∃ A c, v = .slice A l.length c ∧ l.length ≤ c ∧ c ≤ maxLen ∧ Reads w w.heap.size 1 A l.length (bys l) := by
  obtain ⟨A, c, hv, hc, hm, hr, _⟩ := h.shape
  exact ⟨A, c, hv, hc, hm, hr⟩

theorem ownsRow_block {w w' : World} {base : Nat} {e : TypeId} {size n : Nat} {v : Value} {xs : List Value} (h : w.ownsRow base e size v n xs) (hb : ∀ g, g ∈ v.ownBlock.toList → w'.heap[g]? = w.heap[g]?) : w'.ownsRow base e size v n xs := by
  refine ⟨h.1, ?_⟩
  rcases h.2 with h2 | ⟨g, cap, cur, hv, hg, hh, r⟩
  · exact .inl h2
  · refine .inr ⟨g, cap, cur, hv, hg, ?_, r⟩
    rw [hb g (by rw [hv]; simp [Value.ownBlock])]
    exact hh

theorem nodup_toList (o : Option Nat) : o.toList.Nodup := by cases o <;> simp

def bytes (e : TypeId) : Rep (List UInt8) where
  size := 1
  at_ := fun w B cs l => ∃ A c, cs = [.slice A l.length c] ∧ (l.length ≤ c ∧ c ≤ maxLen) ∧ Reads w B 1 A l.length (bys l)
  own := fun w base cs l fp => ∃ v, cs = [v] ∧ Owns w base e v l ∧ fp = v.ownBlock.toList
  mark := fun k l => marks k l.length
  cnt := fun l => l.length
  len := fun ⟨_, _, h, _⟩ => by rw [h]; rfl
  keep := fun ⟨A, c, h, hc, hr⟩ hk => ⟨A, c, h, hc, hr.keep hk⟩
  more := fun ⟨A, c, h, hc, hr⟩ hB => ⟨A, c, h, hc, hr.more hB⟩
  reads := fun ⟨v, h, ho, _⟩ => by
    obtain ⟨A, c, rfl, hc, hm, hr⟩ := owned_reads ho
    exact ⟨A, c, h, ⟨hc, hm⟩, hr⟩
  kept := fun ⟨v, h, ho, hf⟩ hb => ⟨v, h, ownsRow_block ho (fun g hg => hb g (by rw [hf]; exact hg)), hf⟩
  low := fun ⟨v, h, ho, hf⟩ hb => ⟨v, h, ownsRow_mono ho hb, hf⟩
  lt := fun ⟨v, h, ho, hf⟩ g hg => by
    rw [hf] at hg
    exact ho.lt g (by simpa using hg)
  nodup := fun ⟨v, h, ho, hf⟩ => by rw [hf]; exact nodup_toList _

/-! ### two parts, one behind the other -/
theorem nodup_append_of {f g : List Nat} (hf : f.Nodup) (hg : g.Nodup) (hd : ∀ a, a ∈ f → a ∈ g → False) : (f ++ g).Nodup := List.nodup_append.2 ⟨hf, hg, fun a ha b hb e => hd a ha (e ▸ hb)⟩

def pair (R : Rep α) (S : Rep β) : Rep (α × β) where
  size := R.size + S.size
  at_ := fun w B cs x => R.at_ w B (cs.take R.size) x.1 ∧ S.at_ w B (cs.drop R.size) x.2
  own := fun w base cs x fp => ∃ f g, R.own w base (cs.take R.size) x.1 f ∧ S.own w base (cs.drop R.size) x.2 g ∧ fp = f ++ g ∧ fp.Nodup
  mark := fun k x => (R.mark k x.1, S.mark (k + R.cnt x.1) x.2)
  cnt := fun x => R.cnt x.1 + S.cnt x.2
  len := fun {w B cs x} h => by
    have h1 := R.len h.1
    have h2 := S.len h.2
    rw [List.length_take] at h1
    rw [List.length_drop] at h2
    omega
  keep := fun h hk => ⟨R.keep h.1 hk, S.keep h.2 hk⟩
  more := fun h hk => ⟨R.more h.1 hk, S.more h.2 hk⟩
  reads := fun ⟨f, g, h1, h2, _⟩ => ⟨R.reads h1, S.reads h2⟩
  kept := fun ⟨f, g, h1, h2, hf, hn⟩ hb => ⟨f, g, R.kept h1 (fun a ha => hb a (by rw [hf]; simp [ha])), S.kept h2 (fun a ha => hb a (by rw [hf]; simp [ha])), hf, hn⟩
  low := fun ⟨f, g, h1, h2, hf⟩ hb => ⟨f, g, R.low h1 hb, S.low h2 hb, hf⟩
  lt := fun ⟨f, g, h1, h2, hf, _⟩ a ha => by
    rw [hf, List.mem_append] at ha
    rcases ha with ha | ha
    · exact R.lt h1 a ha
    · exact S.lt h2 a ha
  nodup := fun ⟨_, _, _, _, _, hn⟩ => hn

/-- A structure, as what it is made of. -/
def iso (R : Rep α) (g : β → α) (f : α → β) : Rep β where
  size := R.size
  at_ := fun w B cs y => R.at_ w B cs (g y)
  own := fun w base cs y fp => R.own w base cs (g y) fp
  mark := fun k y => f (R.mark k (g y))
  cnt := fun y => R.cnt (g y)
  len := fun h => R.len h
  keep := fun h hk => R.keep h hk
  more := fun h hk => R.more h hk
  reads := fun h => R.reads h
  kept := fun h hb => R.kept h hb
  low := fun h hb => R.low h hb
  lt := fun h => R.lt h
  nodup := fun h => R.nodup h

/-! ### rows -/
/-- The i-th element's cells. -/
def seg (size i : Nat) (cells : List Value) : List Value := (cells.drop (i * size)).take size

theorem seg_get {size i j : Nat} {cells : List Value} (hj : j < size) : (seg size i cells)[j]? = cells[i * size + j]? := by
  unfold seg
  rw [List.getElem?_take, if_pos hj, List.getElem?_drop]

theorem seg_length {size i n : Nat} {cells : List Value} (h : cells.length = n * size) (hi : i < n) : (seg size i cells).length = size := by
  unfold seg
  rw [List.length_take, List.length_drop, h]
  have : (i + 1) * size ≤ n * size := Nat.mul_le_mul_right _ hi
  rw [Nat.add_mul] at this
  omega

theorem seg_ext {size i n : Nat} {cells c : List Value} (h : cells.length = n * size) (hi : i < n) (hc : c.length = size) (hj : ∀ j, j < size → cells[i * size + j]? = c[j]?) : seg size i cells = c := by
  apply List.ext_getElem?
  intro j
  by_cases hlt : j < size
  · rw [seg_get hlt, hj j hlt]
  · rw [List.getElem?_eq_none (by rw [seg_length h hi]; omega), List.getElem?_eq_none (by omega)]

/-- The cells with the i-th element's cells replaced. -/
def putSeg (size i : Nat) (c cells : List Value) : List Value := cells.take (i * size) ++ c ++ cells.drop ((i + 1) * size)

theorem putSeg_length {size i n : Nat} {c cells : List Value} (h : cells.length = n * size) (hi : i < n) (hc : c.length = size) : (putSeg size i c cells).length = n * size := by
  have h1 : (i + 1) * size ≤ n * size := Nat.mul_le_mul_right _ hi
  have h2 : (i + 1) * size = i * size + size := by rw [Nat.add_mul, Nat.one_mul]
  unfold putSeg
  simp only [List.length_append, List.length_take, List.length_drop, h, hc]
  omega

theorem putSeg_get {size i n : Nat} {c cells : List Value} (h : cells.length = n * size) (hi : i < n) (hc : c.length = size) (j : Nat) :
    (putSeg size i c cells)[j]? = if i * size ≤ j ∧ j < (i + 1) * size then c[j - i * size]? else cells[j]? := by
  have h1 : (i + 1) * size ≤ n * size := Nat.mul_le_mul_right _ hi
  have h2 : (i + 1) * size = i * size + size := by rw [Nat.add_mul, Nat.one_mul]
  have hl : (cells.take (i * size)).length = i * size := by rw [List.length_take]; omega
  unfold putSeg
  by_cases ha : j < i * size
  · rw [if_neg (by omega), List.append_assoc, List.getElem?_append_left (by omega), List.getElem?_take, if_pos ha]
  · by_cases hb : j < (i + 1) * size
    · rw [if_pos ⟨by omega, hb⟩, List.append_assoc, List.getElem?_append_right (by omega), hl, List.getElem?_append_left (by omega)]
    · rw [if_neg (by omega), List.getElem?_append_right (by rw [List.length_append]; omega), List.getElem?_drop, List.length_append, hl, hc]
      congr 1
      omega

theorem seg_putSeg {size i n : Nat} {c cells : List Value} (h : cells.length = n * size) (hi : i < n) (hc : c.length = size) : seg size i (putSeg size i c cells) = c := by
  refine seg_ext (putSeg_length h hi hc) hi hc fun j hj => ?_
  have h2 : (i + 1) * size = i * size + size := by rw [Nat.add_mul, Nat.one_mul]
  rw [putSeg_get h hi hc, if_pos ⟨by omega, by omega⟩]
  congr 1
  omega

theorem seg_other_of {size i k : Nat} {cells cells' : List Value} (hk : k ≠ i) (hj : ∀ j, ¬ (i * size ≤ j ∧ j < (i + 1) * size) → cells'[j]? = cells[j]?) : seg size k cells' = seg size k cells := by
  apply List.ext_getElem?
  intro j
  by_cases hlt : j < size
  · rw [seg_get hlt, seg_get hlt]
    refine hj _ ?_
    rintro ⟨h1, h2⟩
    rcases Nat.lt_or_gt_of_ne hk with h | h
    · have h3 : (k + 1) * size ≤ i * size := Nat.mul_le_mul_right size h
      rw [Nat.add_mul, Nat.one_mul] at h3
      omega
    · have h3 : (i + 1) * size ≤ k * size := Nat.mul_le_mul_right size h
      omega
  · rw [List.getElem?_eq_none (by unfold seg; rw [List.length_take]; omega), List.getElem?_eq_none (by unfold seg; rw [List.length_take]; omega)]

theorem seg_putSeg_other {size i k n : Nat} {c cells : List Value} (h : cells.length = n * size) (hi : i < n) (hc : c.length = size) (hk : k ≠ i) : seg size k (putSeg size i c cells) = seg size k cells :=
  seg_other_of hk fun j hj => by rw [putSeg_get h hi hc, if_neg hj]

/-- One cell of the i-th element is written. -/
theorem seg_set {size i j n : Nat} {u : Value} {cells : List Value} (h : cells.length = n * size) (hi : i < n) : seg size i (cells.set (i * size + j) u) = if j < size then (seg size i cells).set j u else seg size i cells := by
  by_cases hj : j < size
  · rw [if_pos hj]
    refine seg_ext (n := n) (by simpa using h) hi (by simpa using seg_length h hi) fun q hq => ?_
    rw [List.getElem?_set, List.getElem?_set]
    by_cases he : j = q
    · subst he
      rw [if_pos rfl, if_pos rfl, seg_length h hi]
      have h1 : (i + 1) * size ≤ n * size := Nat.mul_le_mul_right _ hi
      rw [Nat.add_mul, Nat.one_mul] at h1
      rw [if_pos (by omega), if_pos hj]
    · rw [if_neg (by omega), if_neg he, seg_get hq]
  · rw [if_neg hj]
    refine seg_ext (n := n) (by simpa using h) hi (seg_length h hi) fun q hq => ?_
    rw [List.getElem?_set, if_neg (by omega), seg_get hq]

theorem seg_set_other {size i j k : Nat} {u : Value} {cells : List Value} (hj : j < size) (hk : k ≠ i) : seg size k (cells.set (i * size + j) u) = seg size k cells :=
  seg_other_of hk fun q hq => by
    have h2 : (i + 1) * size = i * size + size := by rw [Nat.add_mul, Nat.one_mul]
    rw [List.getElem?_set, if_neg (by omega)]

/-- The slice '.slice A n c' holds the data xs. -/
def RowsAt (R : Rep α) (w : World) (B : Nat) (A : Option Addr) (n : Nat) (xs : List α) : Prop :=
  xs.length = n ∧ ∃ cells : List Value, Reads w B R.size A n cells ∧ ∀ i x, xs[i]? = some x → R.at_ w B (seg R.size i cells) x

/-- The slice value v holds the data xs; it and what it leads to are whole blocks of the call's own: the blocks fp. -/
def OwnRows (R : Rep α) (e : TypeId) (w : World) (base : Nat) (v : Value) (xs : List α) (fp : List Nat) : Prop :=
  ∃ (cells : List Value) (fps : List (List Nat)), w.ownsRow base e R.size v xs.length cells ∧ fps.length = xs.length ∧ (∀ (i : Nat) (x : α) (f : List Nat), xs[i]? = some x → fps[i]? = some f → R.own w base (seg R.size i cells) x f) ∧ fp = v.ownBlock.toList ++ fps.flatten ∧ fp.Nodup

theorem RowsAt.keep {R : Rep α} {w w' : World} {B n : Nat} {A : Option Addr} {xs : List α} (h : RowsAt R w B A n xs) (hk : ∀ p : Addr, p.block < B → w'.cell? p = w.cell? p) : RowsAt R w' B A n xs := by
  obtain ⟨hl, cells, hr, he⟩ := h
  exact ⟨hl, cells, hr.keep hk, fun i x hx => R.keep (he i x hx) hk⟩
theorem RowsAt.more {R : Rep α} {w : World} {B B' n : Nat} {A : Option Addr} {xs : List α} (h : RowsAt R w B A n xs) (hB : B ≤ B') : RowsAt R w B' A n xs := by
  obtain ⟨hl, cells, hr, he⟩ := h
  exact ⟨hl, cells, hr.more hB, fun i x hx => R.more (he i x hx) hB⟩

theorem mem_flatten_of {fps : List (List Nat)} {i g : Nat} {f : List Nat} (h : fps[i]? = some f) (hg : g ∈ f) : g ∈ fps.flatten := List.mem_flatten.2 ⟨f, List.mem_of_getElem? h, hg⟩

theorem OwnRows.kept {R : Rep α} {e : TypeId} {w w' : World} {base : Nat} {v : Value} {xs : List α} {fp : List Nat} (h : OwnRows R e w base v xs fp) (hb : ∀ g, g ∈ fp → w'.heap[g]? = w.heap[g]?) : OwnRows R e w' base v xs fp := by
  obtain ⟨cells, fps, ho, hl, he, hf, hn⟩ := h
  refine ⟨cells, fps, ownsRow_block ho (fun g hg => hb g (by rw [hf]; exact List.mem_append_left _ hg)), hl, fun i x f hx hfi => ?_, hf, hn⟩
  exact R.kept (he i x f hx hfi) fun g hg => hb g (by rw [hf]; exact List.mem_append_right _ (mem_flatten_of hfi hg))

theorem OwnRows.reads {R : Rep α} {e : TypeId} {w : World} {base : Nat} {v : Value} {xs : List α} {fp : List Nat} (h : OwnRows R e w base v xs fp) : ∃ A c, v = .slice A xs.length c ∧ xs.length ≤ c ∧ c ≤ maxLen ∧ RowsAt R w w.heap.size A xs.length xs := by
  obtain ⟨cells, fps, ho, hl, he, hf, hn⟩ := h
  have hat : ∀ i x, xs[i]? = some x → R.at_ w w.heap.size (seg R.size i cells) x := fun i x hx => by
    have hi : i < xs.length := (List.getElem?_eq_some_iff.1 hx).1
    exact R.reads (he i x _ hx (List.getElem?_eq_getElem (by omega)))
  have ho' := ho
  rcases ho.2 with ⟨rfl, h0⟩ | ⟨g, cap, cur, rfl, hb, hg, hnc, hcm, _, _⟩
  · refine ⟨none, 0, by rw [h0], by omega, by simp [maxLen], rfl, cells, ?_, hat⟩
    have hc0 : cells = [] := List.eq_nil_of_length_eq_zero (by rw [ho.1, h0, Nat.zero_mul])
    subst hc0
    rw [h0]
    exact ⟨by simp, fun h => absurd h (by omega)⟩
  · exact ⟨_, cap, rfl, hnc, hcm, rfl, cells, Reads.of_own ho', hat⟩

theorem OwnRows.low {R : Rep α} {e : TypeId} {w : World} {base base' : Nat} {v : Value} {xs : List α} {fp : List Nat} (h : OwnRows R e w base v xs fp) (hb : base' ≤ base) : OwnRows R e w base' v xs fp := by
  obtain ⟨cells, fps, ho, hl, he, hf⟩ := h
  exact ⟨cells, fps, ownsRow_mono ho hb, hl, fun i x f hx hfi => R.low (he i x f hx hfi) hb, hf⟩

theorem OwnRows.lt {R : Rep α} {e : TypeId} {w : World} {base : Nat} {v : Value} {xs : List α} {fp : List Nat} (h : OwnRows R e w base v xs fp) : ∀ g, g ∈ fp → base ≤ g ∧ g < w.heap.size := by
  obtain ⟨cells, fps, ho, hl, he, hf, hn⟩ := h
  intro g hg
  rw [hf, List.mem_append] at hg
  rcases hg with hg | hg
  · exact ho.lt g (by simpa using hg)
  · obtain ⟨f, hfm, hgf⟩ := List.mem_flatten.1 hg
    obtain ⟨i, hi, rfl⟩ := List.mem_iff_getElem.1 hfm
    exact R.lt (he i _ _ (List.getElem?_eq_getElem (by omega)) (List.getElem?_eq_getElem hi)) g hgf

/-- The marks of a list, element by element. -/
def mkL (R : Rep α) : Nat → List α → List α
  | _, [] => []
  | k, x :: xs => R.mark k x :: mkL R (k + R.cnt x) xs
def cntL (R : Rep α) : List α → Nat
  | [] => 0
  | x :: xs => R.cnt x + cntL R xs
theorem mkL_length (R : Rep α) (k : Nat) (xs : List α) : (mkL R k xs).length = xs.length := by
  induction xs generalizing k with
  | nil => rfl
  | cons x xs ih => simp [mkL, ih]
theorem cntL_append (R : Rep α) (xs ys : List α) : cntL R (xs ++ ys) = cntL R xs + cntL R ys := by
  induction xs with
  | nil => simp [cntL]
  | cons x xs ih => simp [cntL, ih]; omega
theorem mkL_append (R : Rep α) (k : Nat) (xs ys : List α) : mkL R k (xs ++ ys) = mkL R k xs ++ mkL R (k + cntL R xs) ys := by
  induction xs generalizing k with
  | nil => simp [mkL, cntL]
  | cons x xs ih => simp [mkL, cntL, ih, Nat.add_assoc]
theorem cntL_le (R : Rep α) (xs : List α) (i : Nat) : cntL R (xs.take i) ≤ cntL R xs := by
  have := cntL_append R (xs.take i) (xs.drop i)
  rw [List.take_append_drop] at this
  omega
theorem take_get {i : Nat} {xs : List α} {x : α} (h : xs[i]? = some x) : xs.take (i + 1) = xs.take i ++ [x] := by rw [List.take_add_one, h]; rfl
theorem cntL_succ (R : Rep α) {xs : List α} {i : Nat} {x : α} (h : xs[i]? = some x) : cntL R (xs.take (i + 1)) = cntL R (xs.take i) + R.cnt x := by
  rw [take_get h, cntL_append]; simp [cntL]
theorem mkL_get (R : Rep α) {xs : List α} {i k : Nat} {x : α} (h : xs[i]? = some x) : (mkL R k xs)[i]? = some (R.mark (k + cntL R (xs.take i)) x) := by
  induction xs generalizing k i with
  | nil => cases h
  | cons y ys ih =>
    cases i with
    | zero => simp only [List.getElem?_cons_zero] at h; injection h with h; subst h; simp [mkL, cntL]
    | succ i =>
      simp only [List.getElem?_cons_succ] at h
      simp only [mkL, List.getElem?_cons_succ, List.take_succ_cons, cntL]
      rw [ih h, Nat.add_assoc]
/-- The first i elements are marked. -/
def mkTo (R : Rep α) (k i : Nat) (xs : List α) : List α := mkL R k (xs.take i) ++ xs.drop i
theorem mkTo_zero (R : Rep α) (k : Nat) (xs : List α) : mkTo R k 0 xs = xs := by simp [mkTo, mkL]
theorem mkTo_all (R : Rep α) (k : Nat) (xs : List α) : mkTo R k xs.length xs = mkL R k xs := by simp [mkTo]
theorem mkTo_length (R : Rep α) (k i : Nat) (xs : List α) (hi : i ≤ xs.length) : (mkTo R k i xs).length = xs.length := by simp [mkTo, mkL_length]; omega
theorem mkTo_get (R : Rep α) {k i : Nat} {xs : List α} {x : α} (h : xs[i]? = some x) : (mkTo R k i xs)[i]? = some x := by
  have hi : i < xs.length := (List.getElem?_eq_some_iff.1 h).1
  unfold mkTo
  rw [List.getElem?_append_right (by rw [mkL_length, List.length_take]; omega), mkL_length, List.length_take, List.getElem?_drop]
  rw [show i + (i - min i xs.length) = i by omega]
  exact h
theorem mkTo_succ (R : Rep α) {k i : Nat} {xs : List α} {x : α} (h : xs[i]? = some x) : mkTo R k (i + 1) xs = (mkTo R k i xs).set i (R.mark (k + cntL R (xs.take i)) x) := by
  have hi : i < xs.length := (List.getElem?_eq_some_iff.1 h).1
  have hx : xs[i] = x := (List.getElem?_eq_some_iff.1 h).2
  unfold mkTo
  rw [take_get h, mkL_append, List.drop_eq_getElem_cons hi, hx]
  rw [List.set_append_right _ _ (by rw [mkL_length, List.length_take]; omega)]
  have e0 : i - (mkL R k (xs.take i)).length = 0 := by rw [mkL_length, List.length_take]; omega
  rw [e0]
  simp [mkL]

def rows (e : TypeId) (R : Rep α) : Rep (List α) where
  size := 1
  at_ := fun w B cs xs => ∃ A c, cs = [.slice A xs.length c] ∧ (xs.length ≤ c ∧ c ≤ maxLen) ∧ RowsAt R w B A xs.length xs
  own := fun w base cs xs fp => ∃ v, cs = [v] ∧ OwnRows R e w base v xs fp
  mark := mkL R
  cnt := cntL R
  len := fun ⟨_, _, h, _⟩ => by rw [h]; rfl
  keep := fun ⟨A, c, h, hc, hr⟩ hk => ⟨A, c, h, hc, hr.keep hk⟩
  more := fun ⟨A, c, h, hc, hr⟩ hB => ⟨A, c, h, hc, hr.more hB⟩
  reads := fun ⟨v, h, ho⟩ => by
    obtain ⟨A, c, rfl, hc, hm, hr⟩ := ho.reads
    exact ⟨A, c, h, ⟨hc, hm⟩, hr⟩
  kept := fun ⟨v, h, ho⟩ hb => ⟨v, h, ho.kept hb⟩
  low := fun ⟨v, h, ho⟩ hb => ⟨v, h, ho.low hb⟩
  lt := fun ⟨v, h, ho⟩ => ho.lt
  nodup := fun ⟨v, h, ho⟩ => by obtain ⟨_, _, _, _, _, _, hn⟩ := ho; exact hn

/-! ### what follows for every type -/
section
variable {R : Rep α} {w w' : World} {B base : Nat} {cs : List Value} {x : α} {fp : List Nat}
theorem at_below (h : R.at_ w B cs x) (hb : Below B w w') : R.at_ w' B cs x := R.keep h fun _ hp => hb.cell hp
theorem at_drewN (h : R.at_ w B cs x) (n : Nat) : R.at_ (w.drewN n) B cs x := R.keep h fun _ _ => rfl
theorem at_alloc (h : R.at_ w B cs x) (hB : B ≤ w.heap.size) (o : Obj) : R.at_ (w.alloc o) B cs x := R.keep h fun p hp => World.cell?_alloc_lt w o p (by omega)
theorem at_grown (h : R.at_ w B cs x) {row : Option Nat} (hg : w.grownBy w' row) (hB : B ≤ w.heap.size) (hr : ∀ g, row = some g → B ≤ g) : R.at_ w' B cs x :=
  R.keep h fun p hp => World.cell?_of_block (hg.block p.block (by omega) (fun e => by have := hr _ e.symm; omega))
theorem own_below (h : R.own w base cs x fp) (hb : Below w.heap.size w w') : R.own w' base cs x fp := R.kept h fun g hg => hb.block g (R.lt h g hg).2
theorem own_drewN (h : R.own w base cs x fp) (n : Nat) : R.own (w.drewN n) base cs x fp := R.kept h fun _ _ => rfl
end

end Rep
end Go.Proofs.Ytjhfnfffpofagaa
