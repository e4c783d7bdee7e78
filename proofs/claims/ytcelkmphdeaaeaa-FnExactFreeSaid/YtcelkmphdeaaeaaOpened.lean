/- An element of a row of the call's own, held open while its cells and what they lead to turn. Plain lemmas, over any program. -/
import Derived.Test.YtcelkmphdeaaeaaRepMore
namespace Go.Proofs.Ytcelkmphdeaaeaa
open Go.RowKit
set_option linter.unusedVariables false
namespace Rep
variable {α : Type}

theorem flatten_apart {fps : List (List Nat)} {i k a : Nat} {fi fk : List Nat} (hn : fps.flatten.Nodup) (hik : i ≠ k) (hi : fps[i]? = some fi) (hk : fps[k]? = some fk) (h1 : a ∈ fi) (h2 : a ∈ fk) : False := by
  induction fps generalizing i k with
  | nil => simp at hi
  | cons l ls ih =>
    rw [List.flatten_cons, List.nodup_append] at hn
    cases i with
    | zero =>
      cases k with
      | zero => exact hik rfl
      | succ k =>
        simp only [List.getElem?_cons_zero, List.getElem?_cons_succ] at hi hk
        injection hi with hi
        subst hi
        exact hn.2.2 a h1 a (mem_flatten_of hk h2) rfl
    | succ i =>
      cases k with
      | zero =>
        simp only [List.getElem?_cons_zero, List.getElem?_cons_succ] at hi hk
        injection hk with hk
        subst hk
        exact hn.2.2 a h2 a (mem_flatten_of hi h1) rfl
      | succ k =>
        simp only [List.getElem?_cons_succ] at hi hk
        exact ih hn.2.1 (by omega) hi hk

/-- Element k of a row is open: its cells are c, it is x, in the blocks f; the others are as they were. -/
structure Opened (R : Rep α) (e : TypeId) (w : World) (base g cap k : Nat) (xs : List α) (fp : List Nat) (x : α) (c : List Value) (f : List Nat) : Prop where
  lt : k < xs.length
  rest : ∃ (cells : List Value) (fps : List (List Nat)), w.ownsRow base e R.size (.slice (some ⟨g, 0, none⟩) xs.length cap) xs.length cells ∧ fps.length = xs.length ∧ fps[k]? = some f ∧ (∀ (i : Nat) (y : α) (fy : List Nat), i ≠ k → xs[i]? = some y → fps[i]? = some fy → R.own w base (seg R.size i cells) y fy) ∧ fp = g :: fps.flatten ∧ fp.Nodup ∧ seg R.size k cells = c
  own : R.own w base c x f

section
variable {R : Rep α} {e : TypeId} {w w' : World} {base g cap k : Nat} {xs : List α} {fp : List Nat} {x x' : α} {c : List Value} {f : List Nat}

theorem Opened.of (h : OwnRows R e w base (.slice (some ⟨g, 0, none⟩) xs.length cap) xs fp) (hx : xs[k]? = some x) : ∃ c f, Opened R e w base g cap k xs fp x c f := by
  obtain ⟨cells, fps, ho, hl, he, hfp, hn⟩ := h
  have hk : k < xs.length := (List.getElem?_eq_some_iff.1 hx).1
  have hkf : k < fps.length := by omega
  exact ⟨seg R.size k cells, fps[k], hk, ⟨cells, fps, ho, hl, List.getElem?_eq_getElem hkf, fun i y fy _ hy hfy => he i y fy hy hfy, by simpa [Value.ownBlock] using hfp, hn, rfl⟩, he k x _ hx (List.getElem?_eq_getElem hkf)⟩

theorem Opened.close (h : Opened R e w base g cap k xs fp x c f) : OwnRows R e w base (.slice (some ⟨g, 0, none⟩) xs.length cap) (xs.set k x) fp := by
  obtain ⟨hk, ⟨cells, fps, ho, hl, hkf, he, hfp, hn, hc⟩, hx⟩ := h
  refine ⟨cells, fps, by simpa using ho, by simpa using hl, ?_, by simpa [Value.ownBlock] using hfp, hn⟩
  intro i y fy hy hfy
  by_cases hik : k = i
  · subst hik
    rw [List.getElem?_set_self hk] at hy
    rw [hkf] at hfy
    injection hy with hy
    injection hfy with hfy
    subst hy hfy
    rw [hc]
    exact hx
  · rw [List.getElem?_set_ne hik] at hy
    exact he i y fy (fun e => hik e.symm) hy hfy

theorem Opened.blocks (h : Opened R e w base g cap k xs fp x c f) : g ∈ fp ∧ g ∉ f ∧ (∀ a, a ∈ f → a ∈ fp) ∧ base ≤ g ∧ g < w.heap.size := by
  obtain ⟨hk, ⟨cells, fps, ho, hl, hkf, he, hfp, hn, hc⟩, hx⟩ := h
  have hm : ∀ a, a ∈ f → a ∈ fps.flatten := fun a ha => mem_flatten_of hkf ha
  have hgl := ho.lt g rfl
  rw [hfp] at hn ⊢
  exact ⟨by simp, fun hg => (List.nodup_cons.1 hn).1 (hm g hg), fun a ha => List.mem_cons_of_mem _ (hm a ha), hgl.1, hgl.2⟩

theorem Opened.cell (h : Opened R e w base g cap k xs fp x c f) {j : Nat} {u : Value} (hu : c[j]? = some u) : w.cell? ⟨g, k * R.size + j, none⟩ = some u := by
  obtain ⟨hk, ⟨cells, fps, ho, hl, hkf, he, hfp, hn, hc⟩, hx⟩ := h
  have hlen := ho.1
  have hj : j < R.size := by
    rcases Nat.lt_or_ge j R.size with h' | h'
    · exact h'
    · rw [← hc, List.getElem?_eq_none (by rw [seg_length hlen hk]; omega)] at hu; cases hu
  rw [← hc, seg_get hj] at hu
  have h1 : (k + 1) * R.size ≤ xs.length * R.size := Nat.mul_le_mul_right _ hk
  rw [Nat.add_mul, Nat.one_mul] at h1
  rw [ho.cellAt _ (by omega), hu]

theorem Opened.frz (h : Opened R e w base g cap k xs fp x c f) (j : Nat) : w.frozen? ⟨g, j, none⟩ = false := by
  obtain ⟨hk, ⟨cells, fps, ho, _⟩, hx⟩ := h
  exact ho.frozenAt j

theorem Opened.ownSet (h : Opened R e w base g cap k xs fp x c f) (o : Nat) (u : Value) : R.own (w.setCell ⟨g, o, none⟩ u) base c x f :=
  R.kept h.own fun a ha => heap_setCell_other _ _ _ _ (fun e => h.blocks.2.1 (by rw [show g = a from e.symm]; exact ha))
theorem Opened.of' {n : Nat} (h : OwnRows R e w base (.slice (some ⟨g, 0, none⟩) n cap) xs fp) (hn : xs.length = n) (hx : xs[k]? = some x) : ∃ c f, Opened R e w base g cap k xs fp x c f := by
  subst hn
  exact Opened.of h hx
theorem Opened.close' {n : Nat} (h : Opened R e w base g cap k xs fp x c f) (hn : xs.length = n) : OwnRows R e w base (.slice (some ⟨g, 0, none⟩) n cap) (xs.set k x) fp := by
  subst hn
  exact h.close
theorem Opened.setOnly (h : Opened R e w base g cap k xs fp x c f) (o : Nat) (u : Value) : Only w (w.setCell ⟨g, o, none⟩ u) fp := Only.setCell w (p := ⟨g, o, none⟩) h.blocks.1 u

/-- A store into a cell of the element. -/
theorem Opened.put (h : Opened R e w base g cap k xs fp x c f) (j : Nat) (u : Value) (hj : j < R.size) (hx' : R.own (w.setCell ⟨g, k * R.size + j, none⟩ u) base (c.set j u) x' f) :
    Opened R e (w.setCell ⟨g, k * R.size + j, none⟩ u) base g cap k xs fp x' (c.set j u) f := by
  obtain ⟨hk, ⟨cells, fps, ho, hl, hkf, he, hfp, hn, hc⟩, hx⟩ := h
  refine ⟨hk, ⟨_, fps, (ho.stored _ u).1, hl, hkf, ?_, hfp, hn, ?_⟩, hx'⟩
  · intro i y fy hi hy hfy
    rw [seg_set_other hj hi]
    refine R.kept (he i y fy hi hy hfy) fun a ha => heap_setCell_other _ _ _ _ (fun e => ?_)
    have hm := mem_flatten_of hfy ha
    rw [hfp] at hn
    exact (List.nodup_cons.1 hn).1 (by rw [show g = a from e.symm]; exact hm)
  · rw [seg_set ho.1 hk, if_pos hj, hc]

/-- What the element leads to turns. -/
theorem Opened.inner (h : Opened R e w base g cap k xs fp x c f) (ho' : Only w w' f) (hx' : R.own w' base c x' f) : Opened R e w' base g cap k xs fp x' c f := by
  have hgf := h.blocks.2.1
  obtain ⟨hk, ⟨cells, fps, ho, hl, hkf, he, hfp, hn, hc⟩, hx⟩ := h
  have hgl := ho.lt g rfl
  refine ⟨hk, ⟨cells, fps, ownsRow_block ho (fun a ha => ?_), hl, hkf, ?_, hfp, hn, hc⟩, hx'⟩
  · simp [Value.ownBlock] at ha
    subst ha
    exact ho'.block a hgl.2 hgf
  · intro i y fy hi hy hfy
    have hy2 := he i y fy hi hy hfy
    refine R.kept hy2 fun a ha => ho'.block a (R.lt hy2 a ha).2 (fun haf => ?_)
    rw [hfp] at hn
    exact flatten_apart (List.nodup_cons.1 hn).2 hi hfy hkf ha haf
end
end Rep
end Go.Proofs.Ytcelkmphdeaaeaa
