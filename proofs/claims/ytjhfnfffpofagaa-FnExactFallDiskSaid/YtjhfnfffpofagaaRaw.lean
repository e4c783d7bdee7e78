/- Rows of which some elements are the call's own and the others are cells as they were copied. Plain, over any program. -/
import Derived.Test.YtjhfnfffpofagaaRepRow
namespace Go.Proofs.Ytjhfnfffpofagaa
open Go.RowKit
set_option linter.unusedVariables false
namespace Rep
variable {α : Type}

def orR (R : Rep α) : Rep (α ⊕ List Value) where
  size := R.size
  at_ := fun w B cs x => match x with | .inl a => R.at_ w B cs a | .inr l => cs = l ∧ l.length = R.size
  own := fun w base cs x fp => match x with | .inl a => R.own w base cs a fp | .inr l => cs = l ∧ l.length = R.size ∧ fp = []
  mark := fun _ x => x
  cnt := fun _ => 0
  len := fun {w B cs x} h => by
    cases x with
    | inl a => exact R.len h
    | inr l => obtain ⟨h1, h2⟩ := h; rw [h1]; exact h2
  keep := fun {w w' B cs x} h hk => by
    cases x with
    | inl a => exact R.keep h hk
    | inr l => exact h
  more := fun {w B B' cs x} h hk => by
    cases x with
    | inl a => exact R.more h hk
    | inr l => exact h
  reads := fun {w base cs x fp} h => by
    cases x with
    | inl a => exact R.reads h
    | inr l => exact ⟨h.1, h.2.1⟩
  kept := fun {w w' base cs x fp} h hk => by
    cases x with
    | inl a => exact R.kept h hk
    | inr l => exact h
  low := fun {w base base' cs x fp} h hk => by
    cases x with
    | inl a => exact R.low h hk
    | inr l => exact h
  lt := fun {w base cs x fp} h g hg => by
    cases x with
    | inl a => exact R.lt h g hg
    | inr l => rw [h.2.2] at hg; cases hg
  nodup := fun {w base cs x fp} h => by
    cases x with
    | inl a => exact R.nodup h
    | inr l => rw [h.2.2]; exact List.nodup_nil

def raws (α : Type) (size n : Nat) (cells : List Value) : List (α ⊕ List Value) := (List.range n).map fun i => .inr (seg size i cells)
theorem raws_length (size n : Nat) (cells : List Value) : (raws α size n cells).length = n := by simp [raws]
theorem raws_get {size n i : Nat} (cells : List Value) (h : i < n) : (raws α size n cells)[i]? = some (.inr (seg size i cells)) := by simp [raws, h]

/-- The first k elements are copied. -/
def upTo (xs : List α) (size : Nat) (cells : List Value) (k : Nat) : List (α ⊕ List Value) := (xs.take k).map .inl ++ (raws α size xs.length cells).drop k
theorem upTo_length (xs : List α) (size : Nat) (cells : List Value) (k : Nat) (h : k ≤ xs.length) : (upTo xs size cells k).length = xs.length := by simp [upTo, raws_length]; omega
theorem upTo_zero (xs : List α) (size : Nat) (cells : List Value) : upTo xs size cells 0 = raws α size xs.length cells := by simp [upTo]
theorem upTo_all (xs : List α) (size : Nat) (cells : List Value) : upTo xs size cells xs.length = xs.map .inl := by simp [upTo, List.drop_eq_nil_of_le, raws_length]
theorem upTo_get (xs : List α) (size : Nat) (cells : List Value) {k : Nat} (h : k < xs.length) : (upTo xs size cells k)[k]? = some (.inr (seg size k cells)) := by
  unfold upTo
  rw [List.getElem?_append_right (by simp; omega), List.getElem?_drop]
  simp only [List.length_map, List.length_take]
  rw [show k + (k - min k xs.length) = k by omega]
  exact raws_get cells h
theorem upTo_succ (xs : List α) (size : Nat) (cells : List Value) {k : Nat} {x : α} (h : xs[k]? = some x) : (upTo xs size cells k).set k (.inl x) = upTo xs size cells (k + 1) := by
  have hk : k < xs.length := (List.getElem?_eq_some_iff.1 h).1
  unfold upTo
  have hd : (raws α size xs.length cells).drop k = (raws α size xs.length cells)[k]'(by rw [raws_length]; exact hk) :: (raws α size xs.length cells).drop (k + 1) := List.drop_eq_getElem_cons _
  rw [take_get h, hd, List.set_append_right _ _ (by simp; omega)]
  have e0 : k - ((xs.take k).map (Sum.inl : α → α ⊕ List Value)).length = 0 := by simp; omega
  rw [e0, List.set_cons_zero]
  simp

theorem OwnRows.of_raw {R : Rep α} {e : TypeId} {w : World} {base n : Nat} {v : Value} {cells : List Value} (h : w.ownsRow base e R.size v n cells) (xs : List α) (hn : xs.length = n) : OwnRows (orR R) e w base v (upTo xs R.size cells 0) v.ownBlock.toList := by
  subst hn
  rw [upTo_zero]
  refine ⟨cells, List.replicate xs.length [], by rw [raws_length]; exact h, by simp [raws_length], ?_, by simp, nodup_toList _⟩
  intro i x f hx hf
  have hi : i < xs.length := by have := (List.getElem?_eq_some_iff.1 hx).1; rwa [raws_length] at this
  rw [raws_get cells hi] at hx
  injection hx with hx
  subst hx
  rw [List.getElem?_replicate, if_pos hi] at hf
  injection hf with hf
  subst hf
  exact ⟨rfl, seg_length h.1 hi, rfl⟩

theorem OwnRows.of_all {R : Rep α} {e : TypeId} {w : World} {base : Nat} {v : Value} {xs : List α} {fp : List Nat} (h : OwnRows (orR R) e w base v (xs.map .inl) fp) : OwnRows R e w base v xs fp := by
  obtain ⟨cells, fps, ho, hl, he, hfp, hn⟩ := h
  refine ⟨cells, fps, by rw [List.length_map] at ho; exact ho, by simpa using hl, fun i x f hx hf => ?_, hfp, hn⟩
  exact he i (.inl x) f (by simp [hx]) hf

/-- An element that has just been made is stored, cell by cell or whole: the cells of its place afterwards. -/
theorem OwnRows.poke {R : Rep α} {e : TypeId} {w : World} {base g k n c B j : Nat} {xs : List (α ⊕ List Value)} {fp : List Nat} {l : List Value} (h : OwnRows (orR R) e w base (.slice (some ⟨g, 0, none⟩) n c) xs fp) (hraw : xs[k]? = some (.inr l)) {x : α} (u : Value) {f : List Nat}
    (hj : j < R.size) (hx : R.own w B (l.set j u) x f) (hB : base ≤ B) (hf : ∀ g', g' ∈ fp → g' < B) :
    ∃ fp', OwnRows (orR R) e (w.setCell ⟨g, k * R.size + j, none⟩ u) base (.slice (some ⟨g, 0, none⟩) n c) (xs.set k (.inl x)) fp' := by
  have hk : k < xs.length := (List.getElem?_eq_some_iff.1 hraw).1
  obtain ⟨c0, f0, hc0, ho0, _, _⟩ := h.renew hraw
  obtain ⟨rfl, hl, _⟩ := ho0
  have hg : g ∈ fp := by
    obtain ⟨_, _, _, _, _, hfp, _⟩ := h
    rw [hfp]
    simp [Value.ownBlock]
  have hv : n = xs.length := by
    obtain ⟨cells, fps, ho, _⟩ := h
    rcases ho.2 with ⟨hv, _⟩ | ⟨_, _, _, hv, _⟩
    · cases hv
    · injection hv
  subst hv
  obtain ⟨fp', h1, _⟩ := h.put (k := k) (x := .inl x) (c := c0.set j u) (f := f) (w' := w.setCell ⟨g, k * R.size + j, none⟩ u) hk
    (fun cells ho => ⟨_, (ho.stored _ u).1, (by have h1 := seg_set (size := (orR R).size) (j := j) (u := u) ho.1 hk; rw [if_pos (show j < (orR R).size from hj), hc0 cells ho] at h1; exact h1), fun i hi => seg_set_other hj hi⟩)
    (R.low (R.kept hx fun a ha => heap_setCell_other _ _ _ _ (fun e => by have := (R.lt hx a ha).1; have := hf g hg; subst e; omega)) hB)
    (fun a ha ha' => by have := (R.lt hx a ha).1; have := hf a ha'; omega)
    (fun a ha hne => heap_setCell_other _ _ _ _ (fun e => hne (by rw [e]; rfl)))
  exact ⟨fp', h1⟩

end Rep
end Go.Proofs.Ytjhfnfffpofagaa
