/- Rows of data: reading an element, putting an element. Plain lemmas, over any program. -/
import Derived.Test.YtjhfnfffpofagaaRep
namespace Go.Proofs.Ytjhfnfffpofagaa
open Go.RowKit
set_option linter.unusedVariables false
theorem reads_lit (w : World) (cs : Array Value) (size n : Nat) (e : TypeId) {g : Nat} (hg : g = w.heap.size) (hs : cs.size = n * size) (hm : n ≤ maxLen) : Reads (w.alloc (.cells cs e)) (w.alloc (.cells cs e)).heap.size size (some ⟨g, 0, none⟩) n cs.toList := by
  subst hg
  exact Reads.of_own (World.ownsRow_lit (base := 0) (e := e) (size := size) w cs n (Nat.zero_le _) hm hs)
theorem one_of1 {u : Value} (h : u.oneCell' = true) : ∀ x, x ∈ (#[u] : Array Value).toList → x.oneCell' = true := by simp [h]
theorem one_of2 {u v : Value} (h : u.oneCell' = true) (h' : v.oneCell' = true) : ∀ x, x ∈ (#[u, v] : Array Value).toList → x.oneCell' = true := by simp [h, h']

namespace Rep
variable {α β : Type}

theorem getElem?_of_lt {xs : List α} {n k : Nat} (h : xs.length = n) (hk : k < n) : ∃ x, xs[k]? = some x := ⟨xs[k], List.getElem?_eq_getElem (by omega)⟩

/-- An element of a row that is read: its cells, at the walk's own addresses. -/
theorem RowsAt.elem {R : Rep α} {w : World} {B n k : Nat} {A : Option Addr} {xs : List α} (h : RowsAt R w B A n xs) (hk : k < n) (hs : 0 < R.size) :
    ∃ b off c x, A = some ⟨b, off, none⟩ ∧ b < B ∧ xs[k]? = some x ∧ R.at_ w B c x ∧ ∀ j u, c[j]? = some u → w.cell? ⟨b, off + (k * R.size + j), none⟩ = some u := by
  obtain ⟨hl, cells, hr, he⟩ := h
  obtain ⟨x, hx⟩ := getElem?_of_lt hl hk
  obtain ⟨ad, hA, hb, hc⟩ := hr.2 (by omega)
  have hlen := hr.1
  have hpos : 0 < cells.length := by rw [hlen]; exact Nat.mul_pos (by omega) hs
  have h0 := hc 0 _ (List.getElem?_eq_getElem hpos)
  obtain ⟨b, off, spot⟩ := ad
  have hsp : spot = none := by simpa [Addr.add] using World.cell?_spot h0
  subst hsp
  refine ⟨b, off, seg R.size k cells, x, hA, hb, hx, he k x hx, fun j u hu => ?_⟩
  have hj : j < R.size := by
    rcases Nat.lt_or_ge j R.size with h' | h'
    · exact h'
    · rw [List.getElem?_eq_none (by rw [seg_length hlen hk]; omega)] at hu; cases hu
  rw [seg_get hj] at hu
  have := hc _ _ hu
  have e : (⟨b, off, none⟩ : Addr).add (k * R.size + j) = ⟨b, off + (k * R.size + j), none⟩ := by
    unfold Addr.add
    split <;> simp_all
  rwa [e] at this

theorem flatten_set {fps : List (List Nat)} {k : Nat} {f : List Nat} (hk : k < fps.length) : (fps.set k f).flatten = (fps.take k).flatten ++ (f ++ (fps.drop (k + 1)).flatten) := by
  rw [List.set_eq_take_append_cons_drop, if_pos hk, List.flatten_append, List.flatten_cons]
theorem flatten_split {fps : List (List Nat)} {k : Nat} (hk : k < fps.length) : fps.flatten = (fps.take k).flatten ++ (fps[k] ++ (fps.drop (k + 1)).flatten) := by
  conv => lhs; rw [← List.take_append_drop k fps, List.flatten_append, List.drop_eq_getElem_cons hk, List.flatten_cons]

theorem nodup_put {a b c d f : List Nat} (h : (a ++ (b ++ (c ++ d))).Nodup) (hf : f.Nodup) (hd : ∀ g, g ∈ f → g ∉ a ∧ g ∉ b ∧ g ∉ d) : (a ++ (b ++ (f ++ d))).Nodup := by
  simp only [List.nodup_append, List.mem_append] at h ⊢
  obtain ⟨ha, ⟨hb, ⟨hc, hdn, hcd⟩, hbcd⟩, habcd⟩ := h
  refine ⟨ha, ⟨hb, ⟨hf, hdn, fun x hx y hy e => (hd x hx).2.2 (e ▸ hy)⟩, ?_⟩, ?_⟩
  · rintro x hx y (hy | hy) e
    · exact (hd y hy).2.1 (e ▸ hx)
    · exact hbcd x hx y (.inr hy) e
  · rintro x hx y (hy | hy | hy) e
    · exact habcd x hx y (.inl hy) e
    · exact (hd y hy).1 (e ▸ hx)
    · exact habcd x hx y (.inr (.inr hy)) e

/-- The cells of a row of the call's own are turned so that one element is another, whose blocks are others than the row's. -/
theorem OwnRows.put {R : Rep α} {e : TypeId} {w w' : World} {base k : Nat} {v : Value} {xs : List α} {fp : List Nat} (h : OwnRows R e w base v xs fp) {x : α} {c : List Value} {f : List Nat} (hk : k < xs.length)
    (hrow : ∀ cells, w.ownsRow base e R.size v xs.length cells → ∃ cells', w'.ownsRow base e R.size v xs.length cells' ∧ seg R.size k cells' = c ∧ ∀ i, i ≠ k → seg R.size i cells' = seg R.size i cells)
    (hx : R.own w' base c x f) (hf : ∀ g, g ∈ f → g ∉ fp) (hb : ∀ g, g ∈ fp → some g ≠ v.ownBlock → w'.heap[g]? = w.heap[g]?) :
    ∃ fp', OwnRows R e w' base v (xs.set k x) fp' ∧ ∀ g, g ∈ fp' → g ∈ fp ∨ g ∈ f := by
  obtain ⟨cells, fps, ho, hl, he, hfp, hn⟩ := h
  obtain ⟨cells', ho', hs, hs'⟩ := hrow cells ho
  have hkf : k < fps.length := by omega
  refine ⟨v.ownBlock.toList ++ (fps.set k f).flatten, ⟨cells', fps.set k f, by simpa using ho', by simpa using hl, ?_, rfl, ?_⟩, ?_⟩
  · intro i y fy hy hfy
    by_cases hik : k = i
    · subst hik
      rw [List.getElem?_set_self hk] at hy
      rw [List.getElem?_set_self hkf] at hfy
      injection hy with hy
      injection hfy with hfy
      subst hy hfy
      rw [hs]
      exact hx
    · rw [List.getElem?_set_ne hik] at hy hfy
      rw [hs' i (fun e => hik e.symm)]
      refine R.kept (he i y fy hy hfy) fun g hg => hb g ?_ ?_
      · rw [hfp]; exact List.mem_append_right _ (mem_flatten_of hfy hg)
      · intro hg'
        rw [hfp] at hn
        exact (List.nodup_append.1 hn).2.2 g (by rw [← hg']; simp) g (mem_flatten_of hfy hg) rfl
  · rw [flatten_set hkf, List.nodup_append]
    rw [hfp, flatten_split hkf] at hn
    have := nodup_put (a := []) (b := v.ownBlock.toList ++ (fps.take k).flatten) (c := fps[k]) (d := (fps.drop (k + 1)).flatten) (f := f) (by simpa using hn) (R.nodup hx) (by
      intro g hg
      have h1 := hf g hg
      rw [hfp, flatten_split hkf] at h1
      simp only [List.mem_append, not_or] at h1
      exact ⟨by simp, by simp only [List.mem_append, not_or]; exact ⟨h1.1, h1.2.1⟩, h1.2.2.2⟩)
    have h2 : (v.ownBlock.toList ++ ((fps.take k).flatten ++ (f ++ (fps.drop (k + 1)).flatten))).Nodup := by simpa using this
    exact List.nodup_append.1 h2
  · intro g hg
    rw [flatten_set hkf] at hg
    simp only [List.mem_append] at hg
    rw [hfp, flatten_split hkf]
    simp only [List.mem_append]
    rcases hg with hg | hg | hg | hg
    · exact .inl (.inl hg)
    · exact .inl (.inr (.inl hg))
    · exact .inr hg
    · exact .inl (.inr (.inr (.inr hg)))

/-- One element of a row of the call's own is turned within its own blocks. -/
theorem OwnRows.renew {R : Rep α} {e : TypeId} {w : World} {base k : Nat} {v : Value} {xs : List α} {fp : List Nat} {x : α} (h : OwnRows R e w base v xs fp) (hx : xs[k]? = some x) :
    ∃ c f, (∀ cells, w.ownsRow base e R.size v xs.length cells → seg R.size k cells = c) ∧ R.own w base c x f ∧ (∀ g, g ∈ f → g ∈ fp ∧ some g ≠ v.ownBlock) ∧
      ∀ (w' : World) (x' : α) (c' : List Value), (∀ cells, w.ownsRow base e R.size v xs.length cells → ∃ cells', w'.ownsRow base e R.size v xs.length cells' ∧ seg R.size k cells' = c' ∧ ∀ i, i ≠ k → seg R.size i cells' = seg R.size i cells) →
        R.own w' base c' x' f → (∀ g, g ∈ fp → some g ≠ v.ownBlock → g ∉ f → w'.heap[g]? = w.heap[g]?) → OwnRows R e w' base v (xs.set k x') fp := by
  obtain ⟨cells, fps, ho, hl, he, hfp, hn⟩ := h
  have hk : k < xs.length := (List.getElem?_eq_some_iff.1 hx).1
  have hkf : k < fps.length := by omega
  have huniq : ∀ cells2, w.ownsRow base e R.size v xs.length cells2 → cells2 = cells := by
    intro cells2 h2
    rcases ho.2 with ⟨rfl, h0⟩ | ⟨g, cap, cur, rfl, _, hg, _, _, _, ht⟩
    · have a1 := h2.1
      have a2 := ho.1
      rw [h0, Nat.zero_mul] at a1 a2
      rw [List.eq_nil_of_length_eq_zero a1, List.eq_nil_of_length_eq_zero a2]
    · rcases h2.2 with ⟨hv, _⟩ | ⟨g2, cap2, cur2, hv, _, hg2, _, _, _, ht2⟩
      · cases hv
      · injection hv with hv _ _
        injection hv with hv
        injection hv with hv _ _
        subst hv
        rw [hg] at hg2
        injection hg2 with hg2
        injection hg2 with hg2 _ _
        subst hg2
        rw [← ht, ← ht2]
  refine ⟨seg R.size k cells, fps[k], fun cells2 h2 => by rw [huniq cells2 h2], he k x _ hx (List.getElem?_eq_getElem hkf), ?_, ?_⟩
  · intro g hg
    have hm := mem_flatten_of (List.getElem?_eq_getElem hkf) hg
    refine ⟨by rw [hfp]; exact List.mem_append_right _ hm, fun hg' => ?_⟩
    rw [hfp] at hn
    exact (List.nodup_append.1 hn).2.2 g (by rw [← hg']; simp) g hm rfl
  · intro w' x' c' hrow hx' hb
    obtain ⟨cells', ho', hs, hs'⟩ := hrow cells ho
    refine ⟨cells', fps, by simpa using ho', by simpa using hl, ?_, hfp, hn⟩
    intro i y fy hy hfy
    by_cases hik : k = i
    · subst hik
      rw [List.getElem?_set_self hk] at hy
      rw [List.getElem?_eq_getElem hkf] at hfy
      injection hy with hy
      injection hfy with hfy
      subst hy hfy
      rw [hs]
      exact hx'
    · rw [List.getElem?_set_ne hik] at hy
      rw [hs' i (fun e => hik e.symm)]
      refine R.kept (he i y fy hy hfy) fun g hg => hb g ?_ ?_ ?_
      · rw [hfp]; exact List.mem_append_right _ (mem_flatten_of hfy hg)
      · intro hg'
        rw [hfp] at hn
        exact (List.nodup_append.1 hn).2.2 g (by rw [← hg']; simp) g (mem_flatten_of hfy hg) rfl
      · intro hgf
        rw [hfp] at hn
        have hn2 := (List.nodup_append.1 hn).2.1
        have hpw := (List.pairwise_flatten.1 (show List.Pairwise (· ≠ ·) fps.flatten from hn2)).2
        have hif : i < fps.length := (List.getElem?_eq_some_iff.1 hfy).1
        have hfy' : fps[i] = fy := (List.getElem?_eq_some_iff.1 hfy).2
        rw [List.pairwise_iff_getElem] at hpw
        rcases Nat.lt_or_gt_of_ne hik with hlt | hgt
        · exact hpw k i hkf hif hlt g hgf g (hfy' ▸ hg) rfl
        · exact hpw i k hif hkf hgt g (hfy' ▸ hg) g hgf rfl

/-- The row's own cells: each is there and may be written. -/
theorem OwnRows.there {R : Rep α} {e : TypeId} {w : World} {base g n c : Nat} {xs : List α} {fp : List Nat} (h : OwnRows R e w base (.slice (some ⟨g, 0, none⟩) n c) xs fp) (j : Nat) (hj : j < xs.length * R.size) :
    (∃ u, w.cell? ⟨g, j, none⟩ = some u) ∧ w.frozen? ⟨g, j, none⟩ = false ∧ g ∈ fp ∧ g < w.heap.size := by
  obtain ⟨cells, fps, ho, hl, he, hfp, hn⟩ := h
  have hv : n = xs.length := by
    rcases ho.2 with ⟨hv, _⟩ | ⟨_, _, _, hv, _⟩
    · cases hv
    · injection hv
  subst hv
  have hc := ho.cellAt j hj
  have hlen := ho.1
  rw [List.getElem?_eq_getElem (by omega)] at hc
  exact ⟨⟨_, hc⟩, ho.frozenAt j, by rw [hfp]; simp [Value.ownBlock], (ho.lt g rfl).2⟩

theorem OwnRows.of_below {R : Rep α} {e : TypeId} {w w' : World} {base : Nat} {v : Value} {xs : List α} {fp : List Nat} (h : OwnRows R e w base v xs fp) (hb : Below w.heap.size w w') : OwnRows R e w' base v xs fp := h.kept fun g hg => hb.block g (h.lt g hg).2

/-- A row that 'make' has made holds the element's zero cells at each place. -/
theorem seg_made (z : Array Value) (n : Nat) : ∀ i, i < n → seg z.size i (madeCells z (n * z.size)).toList = z.toList := by
  intro i hi
  refine seg_ext (n := n) (by simp [madeCells]) hi (by simp) fun j hj => ?_
  have h1 : (i + 1) * z.size ≤ n * z.size := Nat.mul_le_mul_right _ hi
  rw [Nat.add_mul, Nat.one_mul] at h1
  have h2 : (i * z.size + j) % z.size = j := by rw [Nat.mul_comm, Nat.mul_add_mod, Nat.mod_eq_of_lt hj]
  have h3 : i * z.size + j < n * z.size := by omega
  simp only [madeCells, Array.toList_map, Array.toList_range, List.getElem?_map, List.getElem?_range h3, Option.map_some, h2]
  simp [hj]

/-- The cells cs written from place o on. -/
def setRow (w : World) (g o : Nat) : List Value → World
  | [] => w
  | u :: us => setRow (w.setCell ⟨g, o, none⟩ u) g (o + 1) us

theorem setRow_heap (w : World) (g o k : Nat) (cs : List Value) (hk : k ≠ g) : (setRow w g o cs).heap[k]? = w.heap[k]? := by
  induction cs generalizing w o with
  | nil => rfl
  | cons u us ih => rw [setRow, ih, heap_setCell_other _ _ _ _ hk]
theorem setRow_below {w0 w : World} {B g : Nat} (o : Nat) (cs : List Value) (h : Below B w0 w) (hg : B ≤ g) : Below B w0 (setRow w g o cs) := by
  induction cs generalizing w o with
  | nil => exact h
  | cons u us ih => exact ih (o + 1) (h.setCell hg u)
theorem setRow_grown (w : World) (g o : Nat) (cs : List Value) : w.grownBy (setRow w g o cs) (some g) := by
  induction cs generalizing w o with
  | nil => exact World.grownBy.refl _ _
  | cons u us ih =>
    have h1 : w.grownBy (w.setCell ⟨g, o, none⟩ u) (some g) := ⟨rfl, rfl, rfl, by simp, fun k _ hk => heap_setCell_other w ⟨g, o, none⟩ k u (fun e => hk (by simp [e]))⟩
    exact h1.trans (ih _ _)
/-- The list with cs written from place o on. -/
def setL (l : List Value) (o : Nat) : List Value → List Value
  | [] => l
  | u :: us => setL (l.set o u) (o + 1) us
theorem setL_length (l : List Value) (o : Nat) (cs : List Value) : (setL l o cs).length = l.length := by
  induction cs generalizing l o with
  | nil => rfl
  | cons u us ih => rw [setL, ih, List.length_set]
theorem setL_get (l : List Value) (o : Nat) (cs : List Value) (h : o + cs.length ≤ l.length) (j : Nat) : (setL l o cs)[j]? = if o ≤ j ∧ j < o + cs.length then cs[j - o]? else l[j]? := by
  induction cs generalizing l o with
  | nil => simp [setL]; omega
  | cons u us ih =>
    simp only [List.length_cons] at h
    rw [setL, ih _ _ (by rw [List.length_set]; omega)]
    simp only [List.length_cons]
    by_cases h1 : o + 1 ≤ j ∧ j < o + 1 + us.length
    · rw [if_pos h1, if_pos ⟨by omega, by omega⟩, show j - o = (j - (o + 1)) + 1 by omega, List.getElem?_cons_succ]
    · rw [if_neg h1, List.getElem?_set]
      by_cases h2 : o = j
      · subst h2
        rw [if_pos rfl, if_pos (by omega), if_pos ⟨by omega, by omega⟩]
        simp
      · rw [if_neg h2, if_neg (by omega)]
theorem setRow_owns {w : World} {base e size n g c : Nat} {cells : List Value} (o : Nat) (cs : List Value) (h : w.ownsRow base e size (.slice (some ⟨g, 0, none⟩) n c) n cells) :
    (setRow w g o cs).ownsRow base e size (.slice (some ⟨g, 0, none⟩) n c) n (setL cells o cs) := by
  induction cs generalizing w cells o with
  | nil => exact h
  | cons u us ih => exact ih (o + 1) (h.stored o u).1
theorem setRow_put {w : World} {base e size n k g c : Nat} {cells : List Value} (cs : List Value) (h : w.ownsRow base e size (.slice (some ⟨g, 0, none⟩) n c) n cells) (hk : k < n) (hc : cs.length = size) :
    ∃ cells', (setRow w g (k * size) cs).ownsRow base e size (.slice (some ⟨g, 0, none⟩) n c) n cells' ∧ seg size k cells' = cs ∧ ∀ i, i ≠ k → seg size i cells' = seg size i cells := by
  have hlen := h.1
  have h1 : (k + 1) * size ≤ n * size := Nat.mul_le_mul_right _ hk
  have h2 : (k + 1) * size = k * size + size := by rw [Nat.add_mul, Nat.one_mul]
  have hget := setL_get cells (k * size) cs (by omega)
  refine ⟨_, setRow_owns (k * size) cs h, ?_, fun i hi => ?_⟩
  · refine seg_ext (n := n) (by rw [setL_length]; exact hlen) hk hc fun j hj => ?_
    rw [hget, if_pos ⟨by omega, by omega⟩]
    congr 1
    omega
  · refine seg_other_of hi fun j hj => ?_
    rw [hget, if_neg (by omega)]

/-- An element that has just been made is stored. -/
theorem OwnRows.store {R : Rep α} {e : TypeId} {w : World} {base g k n c B : Nat} {xs : List α} {fp : List Nat} (h : OwnRows R e w base (.slice (some ⟨g, 0, none⟩) n c) xs fp) {x : α} (cs : List Value) {f : List Nat} (hn : xs.length = n) (hk : k < n)
    (hc : cs.length = R.size) (hx : R.own w B cs x f) (hB : base ≤ B) (hf : ∀ g', g' ∈ fp → g' < B) :
    ∃ fp', OwnRows R e (setRow w g (k * R.size) cs) base (.slice (some ⟨g, 0, none⟩) n c) (xs.set k x) fp' := by
  subst hn
  have hg : g ∈ fp := by
    obtain ⟨_, _, _, _, _, hfp, _⟩ := h
    rw [hfp]
    simp [Value.ownBlock]
  obtain ⟨fp', h1, _⟩ := h.put (k := k) (x := x) (c := cs) (f := f) (w' := setRow w g (k * R.size) cs) hk (fun cells ho => setRow_put cs ho hk hc)
    (R.low (R.kept hx fun a ha => setRow_heap _ _ _ _ _ (fun e => by have := (R.lt hx a ha).1; have := hf g hg; omega)) hB)
    (fun a ha ha' => by have := (R.lt hx a ha).1; have := hf a ha'; omega)
    (fun a ha hne => setRow_heap _ _ _ _ _ (fun e => hne (by rw [e]; rfl)))
  exact ⟨fp', h1⟩

/-- An element of a row of the call's own, opened: its cells; and how it is shut again when a cell of it, or what it leads to, has turned. -/
theorem OwnRows.open_ {R : Rep α} {e : TypeId} {w : World} {base g n cap k : Nat} {xs : List α} {fp : List Nat} {x : α} (h : OwnRows R e w base (.slice (some ⟨g, 0, none⟩) n cap) xs fp) (hx : xs[k]? = some x) :
    ∃ c f, R.own w base c x f ∧ (∀ j u, c[j]? = some u → w.cell? ⟨g, k * R.size + j, none⟩ = some u) ∧ (∀ j, w.frozen? ⟨g, j, none⟩ = false) ∧ (∀ a, a ∈ f → a ∈ fp) ∧ g ∈ fp ∧ g ∉ f ∧ base ≤ g ∧ g < w.heap.size ∧
      (∀ (w' : World) (x' : α), w'.heap[g]? = w.heap[g]? → R.own w' base c x' f → (∀ a, a ∈ fp → a ≠ g → a ∉ f → w'.heap[a]? = w.heap[a]?) → OwnRows R e w' base (.slice (some ⟨g, 0, none⟩) n cap) (xs.set k x') fp) ∧
      (∀ (x' : α) (j : Nat) (u : Value), j < R.size → R.own (w.setCell ⟨g, k * R.size + j, none⟩ u) base (c.set j u) x' f → OwnRows R e (w.setCell ⟨g, k * R.size + j, none⟩ u) base (.slice (some ⟨g, 0, none⟩) n cap) (xs.set k x') fp) := by
  have hk : k < xs.length := (List.getElem?_eq_some_iff.1 hx).1
  obtain ⟨c, f, hc, hxo, hf, hclose⟩ := h.renew hx
  obtain ⟨cells, fps, ho, hl, he, hfp, hn⟩ := h
  have hv : n = xs.length := by
    rcases ho.2 with ⟨hv, _⟩ | ⟨_, _, _, hv, _⟩
    · cases hv
    · injection hv
  subst hv
  have hlen := ho.1
  have hce := hc cells ho
  have hgl := ho.lt g rfl
  refine ⟨c, f, hxo, ?_, fun j => ho.frozenAt j, fun a ha => (hf a ha).1, by rw [hfp]; simp [Value.ownBlock], fun hg => (hf g hg).2 rfl, hgl.1, hgl.2, ?_, ?_⟩
  · intro j u hu
    have hj : j < R.size := by
      rcases Nat.lt_or_ge j R.size with h' | h'
      · exact h'
      · rw [← hce, List.getElem?_eq_none (by rw [seg_length hlen hk]; omega)] at hu; cases hu
    rw [← hce, seg_get hj] at hu
    have h1 : (k + 1) * R.size ≤ xs.length * R.size := Nat.mul_le_mul_right _ hk
    rw [Nat.add_mul, Nat.one_mul] at h1
    rw [ho.cellAt _ (by omega), hu]
  · intro w' x' hg hx' hb
    refine hclose w' x' c (fun cells2 ho2 => ⟨cells2, ownsRow_block ho2 (fun a ha => by simp [Value.ownBlock] at ha; subst ha; exact hg), hc cells2 ho2, fun _ _ => rfl⟩) hx' fun a ha hne haf => hb a ha (fun e => hne (by rw [e]; rfl)) haf
  · intro x' j u hj hx'
    refine hclose _ x' (c.set j u) (fun cells2 ho2 => ⟨_, (ho2.stored _ u).1, ?_, fun i hi => seg_set_other hj hi⟩) hx' fun a ha hne _ => heap_setCell_other _ _ _ _ (fun e => hne (by rw [e]; rfl))
    rw [seg_set ho2.1 hk, if_pos hj, hc cells2 ho2]

/-- Only the blocks fp have turned, and what is new. -/
structure Only (w w' : World) (fp : List Nat) : Prop where
  os : w'.os = w.os
  tape : w'.tape = w.tape
  output : w'.output = w.output
  size : w.heap.size ≤ w'.heap.size
  block : ∀ k, k < w.heap.size → k ∉ fp → w'.heap[k]? = w.heap[k]?

theorem Only.refl (w : World) (fp : List Nat) : Only w w fp := ⟨rfl, rfl, rfl, Nat.le_refl _, fun _ _ _ => rfl⟩
theorem Only.trans {w w1 w2 : World} {fp : List Nat} (h : Only w w1 fp) (h2 : Only w1 w2 fp) : Only w w2 fp :=
  ⟨h2.os.trans h.os, h2.tape.trans h.tape, h2.output.trans h.output, Nat.le_trans h.size h2.size, fun k hk hn => (h2.block k (Nat.lt_of_lt_of_le hk h.size) hn).trans (h.block k hk hn)⟩
theorem Only.of_grown {w w' : World} {fp : List Nat} {row : Option Nat} (h : w.grownBy w' row) (hr : ∀ g, row = some g → g ∈ fp) : Only w w' fp :=
  ⟨h.os, h.tape, h.output, h.size, fun k hk hn => h.block k hk (fun e => hn (hr k e.symm))⟩
theorem Only.mono {w w' : World} {fp fp' : List Nat} (h : Only w w' fp) (hs : ∀ a, a ∈ fp → a ∈ fp') : Only w w' fp' := ⟨h.os, h.tape, h.output, h.size, fun k hk hn => h.block k hk (fun e => hn (hs k e))⟩
theorem Only.setCell (w : World) {fp : List Nat} {p : Addr} (hp : p.block ∈ fp) (u : Value) : Only w (w.setCell p u) fp :=
  ⟨rfl, rfl, rfl, by simp, fun k _ hn => heap_setCell_other w p k u (fun e => hn (e ▸ hp))⟩
theorem Only.below {B : Nat} {w0 w w' : World} {fp : List Nat} (hb : Below B w0 w) (h : Only w w' fp) (hB : B ≤ w.heap.size) (hf : ∀ g, g ∈ fp → B ≤ g) : Below B w0 w' :=
  ⟨h.os.trans hb.os, h.tape.trans hb.tape, h.output.trans hb.output, Nat.le_trans hb.size h.size, fun k hk => (h.block k (by omega) (fun e => by have := hf k e; omega)).trans (hb.block k hk)⟩
/-- What is owned elsewhere stays owned. -/
theorem own_only {R : Rep α} {w w' : World} {base : Nat} {cs : List Value} {x : α} {fp f : List Nat} (h : R.own w base cs x f) (ho : Only w w' fp) (hd : ∀ a, a ∈ f → a ∉ fp) : R.own w' base cs x f :=
  R.kept h fun g hg => ho.block g (R.lt h g hg).2 (hd g hg)
theorem at_only {R : Rep α} {w w' : World} {B : Nat} {cs : List Value} {x : α} {fp : List Nat} (h : R.at_ w B cs x) (ho : Only w w' fp) (hB : B ≤ w.heap.size) (hf : ∀ g, g ∈ fp → B ≤ g) : R.at_ w' B cs x :=
  R.keep h fun p hp => World.cell?_of_block (ho.block p.block (by omega) (fun e => by have := hf _ e; omega))

theorem setLow {R : Rep α} {w : World} {base : Nat} {cs : List Value} {x : α} {fp : List Nat} (h : R.own w base cs x fp) {p : Addr} (hp : p.block < base) (u : Value) : R.own (w.setCell p u) base cs x fp :=
  R.kept h fun g hg => heap_setCell_other _ _ _ _ (by have := (R.lt h g hg).1; omega)
theorem at_setLow {R : Rep α} {w : World} {B : Nat} {cs : List Value} {x : α} (h : R.at_ w B cs x) {p : Addr} (hp : B ≤ p.block) (u : Value) : R.at_ (w.setCell p u) B cs x :=
  R.keep h fun q hq => World.cell?_setCell_other w p q u (fun e => by subst e; omega)

theorem seg_append_left {size i n : Nat} {cells news : List Value} (h : cells.length = n * size) (hi : i < n) : seg size i (cells ++ news) = seg size i cells := by
  have h1 : (i + 1) * size ≤ n * size := Nat.mul_le_mul_right _ hi
  rw [Nat.add_mul, Nat.one_mul] at h1
  apply List.ext_getElem?
  intro j
  by_cases hlt : j < size
  · rw [seg_get hlt, seg_get hlt, List.getElem?_append_left (by omega)]
  · rw [List.getElem?_eq_none (by unfold seg; rw [List.length_take]; omega), List.getElem?_eq_none (by unfold seg; rw [List.length_take]; omega)]
theorem seg_append_last {size n : Nat} {cells news : List Value} (h : cells.length = n * size) (hn : news.length = size) : seg size n (cells ++ news) = news := by
  unfold seg
  rw [← h, List.drop_left, ← hn, List.take_length]

/-- A row of the call's own onto which one element of the call's own has been appended. -/
theorem OwnRows.pushed {R : Rep α} {e : TypeId} {w w' : World} {base : Nat} {v v' : Value} {xs : List α} {fp : List Nat} {cells c : List Value} {x : α} {f : List Nat} {fps : List (List Nat)}
    (hlen : cells.length = xs.length * R.size) (hl : fps.length = xs.length) (he : ∀ (i : Nat) (x : α) (f : List Nat), xs[i]? = some x → fps[i]? = some f → R.own w base (seg R.size i cells) x f) (hfp : fp = v.ownBlock.toList ++ fps.flatten) (hn : fp.Nodup)
    (ho' : w'.ownsRow base e R.size v' (xs.length + 1) (cells ++ c)) (hg : w.grownBy w' v.ownBlock) (hat : v'.ownBlock = v.ownBlock ∨ v'.ownBlock = some w.heap.size) (hltv : ∀ k, v.ownBlock = some k → base ≤ k ∧ k < w.heap.size)
    (hx : R.own w base c x f) (hd : ∀ g, g ∈ f → g ∉ fp) :
    ∃ fp', OwnRows R e w' base v' (xs ++ [x]) fp' ∧ ∀ g, g ∈ fp' → g ∈ fp ∨ g ∈ f ∨ g = w.heap.size := by
  have hcl := R.len (R.reads hx)
  have hltf : ∀ g, g ∈ fps.flatten → base ≤ g ∧ g < w.heap.size := by
    intro g hg
    obtain ⟨f, hfm, hgf⟩ := List.mem_flatten.1 hg
    obtain ⟨i, hi, rfl⟩ := List.mem_iff_getElem.1 hfm
    exact R.lt (he i _ _ (List.getElem?_eq_getElem (by omega)) (List.getElem?_eq_getElem hi)) g hgf
  have hn2 := List.nodup_append.1 (hfp ▸ hn)
  have hne : ∀ g, g ∈ fps.flatten → some g ≠ v.ownBlock := fun g hg' he' => hn2.2.2 g (by rw [← he']; simp) g hg' rfl
  have hnf : ∀ g, g ∈ f → some g ≠ v.ownBlock := fun g hg' he' => hd g hg' (by rw [hfp, ← he']; simp)
  refine ⟨v'.ownBlock.toList ++ (fps ++ [f]).flatten, ⟨cells ++ c, fps ++ [f], by simpa using ho', by simp [hl], ?_, rfl, ?_⟩, ?_⟩
  · intro i y fy hy hfy
    by_cases hi : i < xs.length
    · rw [List.getElem?_append_left hi] at hy
      rw [List.getElem?_append_left (by omega)] at hfy
      rw [seg_append_left hlen hi]
      exact R.kept (he i y fy hy hfy) fun g hg' => hg.block g (hltf g (mem_flatten_of hfy hg')).2 (hne g (mem_flatten_of hfy hg'))
    · have hi' : i = xs.length := by have := (List.getElem?_eq_some_iff.1 hy).1; simp at this; omega
      subst hi'
      rw [List.getElem?_append_right (Nat.le_refl _)] at hy
      rw [← hl, List.getElem?_append_right (Nat.le_refl _)] at hfy
      simp at hy hfy
      subst hy hfy
      rw [seg_append_last hlen hcl]
      exact R.kept hx fun g hg' => hg.block g (R.lt hx g hg').2 (hnf g hg')
  · rw [List.nodup_append]
    refine ⟨nodup_toList _, ?_, ?_⟩
    · rw [List.flatten_append, List.nodup_append]
      refine ⟨hn2.2.1, by simpa using R.nodup hx, fun a ha b hb e' => ?_⟩
      subst e'
      exact hd a (by simpa using hb) (by rw [hfp]; exact List.mem_append_right _ ha)
    · intro a ha b hb e'
      subst e'
      rw [List.flatten_append, List.mem_append] at hb
      have hav : v'.ownBlock = some a := by simpa using ha
      rcases hat with h1 | h1
      · rw [h1] at hav
        rcases hb with hb | hb
        · exact hne a hb hav.symm
        · exact hnf a (by simpa using hb) hav.symm
      · rw [h1] at hav
        injection hav with hav
        rcases hb with hb | hb
        · have := (hltf a hb).2; omega
        · have := (R.lt hx a (by simpa using hb)).2; omega
  · intro g hg'
    rw [List.flatten_append, List.mem_append, List.mem_append] at hg'
    rcases hg' with h1 | h1 | h1
    · have hav : v'.ownBlock = some g := by simpa using h1
      rcases hat with h2 | h2
      · rw [h2] at hav
        exact .inl (by rw [hfp, hav]; simp)
      · rw [h2] at hav
        injection hav with hav
        exact .inr (.inr hav.symm)
    · exact .inl (by rw [hfp]; exact List.mem_append_right _ h1)
    · exact .inr (.inl (by simpa using h1))

theorem OwnRows.alloc {R : Rep α} {e : TypeId} {w : World} {base : Nat} {v : Value} {xs : List α} {fp : List Nat} (h : OwnRows R e w base v xs fp) (o : Obj) : OwnRows R e (w.alloc o) base v xs fp := h.kept fun g hg => Below.heap_alloc w o g (h.lt g hg).2
theorem own_alloc {R : Rep α} {w : World} {base : Nat} {cs : List Value} {x : α} {fp : List Nat} (h : R.own w base cs x fp) (o : Obj) : R.own (w.alloc o) base cs x fp := R.kept h fun g hg => Below.heap_alloc w o g (R.lt h g hg).2
theorem OwnRows.setLow {R : Rep α} {e : TypeId} {w : World} {base : Nat} {v : Value} {xs : List α} {fp : List Nat} (h : OwnRows R e w base v xs fp) {p : Addr} (hp : p.block < base) (u : Value) : OwnRows R e (w.setCell p u) base v xs fp :=
  h.kept fun g hg => heap_setCell_other _ _ _ _ (by have := (h.lt g hg).1; omega)

/-- 'append(s, x)' at the walk: the row s of data is the call's own, the one new element too. -/
theorem wpList_push {P : Program} (w : World) {ops : Array Oper} {rest : List Oper} {o : Oper} {a : Act} {Q : Exit → Act → World → Prop} (hgd : o.guard = none) (s x : Operand) (t : TypeId)
    (ho : o.op = .call { callee := .builtin .append, args := #[s, x], argTypes := #[t, t] }) (R : Rep α)
    (base : Nat) (e : TypeId) (i : TypeInfo) (z : Value) (bytes : Nat) (ht : P.underlying t = some (.slice e)) (hi : P.info? e = some i) (hz : i.zero = some z)
    (hsize : i.size = R.size) (hby : i.bytes = bytes) (hzs : z.cells.size = R.size) (hsz : 0 < R.size)
    (v : Value) (xs : List α) (fp : List Nat) (hs : a.eval s = v) (hown : OwnRows R e w base v xs fp)
    (A : Option Addr) (c : Nat) (el : List Value) (y : α) (f : List Nat) (hx : a.eval x = .slice A 1 c) (hr : Reads w w.heap.size R.size A 1 el) (h1 : ∀ u ∈ el, u.oneCell' = true) (hy : R.own w base el y f) (hd : ∀ g, g ∈ f → g ∉ fp)
    (h63 : xs.length + 1 ≤ maxLen) (hbytes : (xs.length + 1) * bytes ≤ 140737488355328) (hbase : base ≤ w.heap.size)
    (h : ∀ A' c' w' fp', OwnRows R e w' base (.slice A' (xs.length + 1) c') (xs ++ [y]) fp' → w.grownBy w' v.ownBlock → (∀ g, g ∈ fp' → g ∈ fp ∨ g ∈ f ∨ g = w.heap.size) → (∀ k, v.ownBlock = some k → base ≤ k ∧ k ∈ fp) → wpList P ops Q rest (a.put o.dst (.slice A' (xs.length + 1) c')) w') : wpList P ops Q (o :: rest) a w := by
  obtain ⟨cells, fps, hrow, hl, he, hfp, hn⟩ := hown
  refine wpList_append_any w hgd s x t ho base e i z R.size bytes ht hi hz hsize hby hzs hsz v xs.length cells hs hrow w.heap.size A 1 c el hx hr h1 h63 hbytes hbase ?_
  intro v' w' hrow' hg hat
  obtain ⟨fp', hp, hf'⟩ := OwnRows.pushed (e := e) hrow.1 hl he hfp hn hrow' hg hat (fun k hk => hrow.lt k hk) hy hd
  obtain ⟨A', c', rfl, _, _, _⟩ := hp.reads
  rw [List.length_append, List.length_singleton] at hp ⊢
  exact h A' c' w' fp' hp hg hf' fun k hk => ⟨(hrow.lt k hk).1, by rw [hfp, hk]; simp⟩

/-- The new empty slice of bytes, as a row of the call's own. -/
theorem lit_empty (w : World) (e : TypeId) (size : Nat) {g : Nat} (hg : g = w.heap.size) : (w.alloc (.cells #[] e)).ownsRow w.heap.size e size (.slice (some ⟨g, 0, none⟩) 0 0) 0 [] := by
  subst hg
  exact World.ownsRow_lit w #[] 0 (Nat.le_refl _) (by simp) (by simp)

/-- 'append([]byte{}, b...)': bytes of the call's own. -/
theorem wpList_bytes {P : Program} (w w0 : World) {ops : Array Oper} {rest : List Oper} {o : Oper} {a : Act} {Q : Exit → Act → World → Prop} (hgd : o.guard = none) (s x : Operand) (t : TypeId)
    (ho : o.op = .call { callee := .builtin .append, args := #[s, x], argTypes := #[t, t] })
    (e : TypeId) (i : TypeInfo) (ht : P.underlying t = some (.slice e)) (hi : P.info? e = some i) (hz : i.zero = some (.int .u8 0)) (hsize : i.size = 1) (hby : i.bytes = 1)
    (v : Value) (hs : a.eval s = v) (base : Nat) (hown : w.ownsRow base e 1 v 0 []) (hbase : base ≤ w.heap.size)
    (B : Nat) (A : Option Addr) (c : Nat) (l : List UInt8) (hx : a.eval x = .slice A l.length c) (hr : Reads w B 1 A l.length (bys l)) (hl : l.length ≤ 1048576)
    (h : ∀ A' c' w', Owns w' base e (.slice A' l.length c') l → w.grownBy w' v.ownBlock → (∀ k, v.ownBlock = some k → base ≤ k) → wpList P ops Q rest (a.put o.dst (.slice A' l.length c')) w') : wpList P ops Q (o :: rest) a w := by
  refine wpList_append_any w hgd s x t ho base e i (.int .u8 0) 1 1 ht hi hz hsize hby rfl (by omega) v 0 [] hs hown B A l.length c (bys l) hx hr (bys_one l) (by simp only [maxLen]; omega) (by omega) hbase ?_
  intro v' w' hrow hg hat
  have h2 : Owns w' base e v' l := by unfold Owns; simpa using hrow
  obtain ⟨A', c', rfl, _⟩ := h2.shape
  exact h A' c' w' h2 hg (fun k hk => (hown.lt k hk).1)

end Rep
end Go.Proofs.Ytjhfnfffpofagaa
