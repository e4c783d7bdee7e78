/- What goes through the heap of waiting clients: the state of such a walk. (By gen_l10d.py.) -/
import Derived.Test.YtgdhhhibkhfdlaaHeapL
import Derived.Test.YtgdhhhibkhfdlaaInts
namespace Go.Proofs.Ytgdhhhibkhfdlaa
open Go.RowKit HeapP
set_option linter.unusedVariables false
set_option maxRecDepth 100000

theorem HpQ.keepLo {w w' : World} {g lo : Nat} {A : Option Addr} {c : Nat} {xs : List Ak} {B : Option Addr} {R : List Nat} {m : Nat} (h : HpQ w g A c xs B R m) (hr : Rep.RowsAt akR w' lo A xs.length xs) (hl : lo ≤ g) (hk : ∀ k, k < w.heap.size → k ∈ fpB g B → w'.heap[k]? = w.heap[k]?) : HpQ w' g A c xs B R m := by
  obtain ⟨d, P, h1, h2⟩ := h
  refine ⟨d, P, ⟨(hk g h1.lt (by simp [fpB])).trans h1.box, Rep.ownsRow_block h1.row fun a ha => ?_, hr.more hl, h1.small, h1.xlen, h1.plen⟩, h2⟩
  have hlt := h1.row.lt a (by simpa using ha)
  refine hk a hlt.2 ?_
  cases B with
  | none => simp [Value.ownBlock] at ha
  | some b => simp [Value.ownBlock] at ha; simp [fpB, ha]
theorem HpQ.pos {w : World} {g : Nat} {A : Option Addr} {c : Nat} {xs : List Ak} {B : Option Addr} {r : Nat} {R : List Nat} {m : Nat} (h : HpQ w g A c xs B (r :: R) m) : ∃ n, m = n + 1 := by
  obtain ⟨d, P, h1, h2, h3⟩ := h
  have := h2.pos
  exact ⟨m - 1, by omega⟩
theorem HpQ.mem {w : World} {g : Nat} {A : Option Addr} {c : Nat} {xs : List Ak} {B : Option Addr} {r : Nat} {R : List Nat} {m : Nat} (h : HpQ w g A c xs B (r :: R) m) : ∃ x, xs[r]? = some x := by
  obtain ⟨d, P, h1, h2, h3⟩ := h
  have hr := h1.small r ((h2.mem r).2 (by simp))
  exact ⟨xs[r], List.getElem?_eq_getElem hr⟩

/-- A row of ints v5 (the list l) of the walk's own beside the heap with the places R to come. -/
structure WaS (w : World) (g : Nat) (A : Option Addr) (c : Nat) (xs : List Ak) (W : World) (v5 : Value) (l : List Int) (B : Option Addr) (R : List Nat) (m : Nat) : Prop where
  below : Below w.heap.size w W
  rows : Rep.RowsAt akR w w.heap.size A xs.length xs
  row : IRow W w.heap.size v5 l
  hp : HpQ W g A c xs B R m
  sep : ∀ b, v5.ownBlock = some b → b ∉ fpB g B
  glo : w.heap.size ≤ g
theorem WaS.later {w : World} {g : Nat} {A : Option Addr} {c : Nat} {xs : List Ak} {W W' : World} {v5 : Value} {l : List Int} {B : Option Addr} {R : List Nat} {m : Nat} (h : WaS w g A c xs W v5 l B R m) (hb : Below W.heap.size W W') : WaS w g A c xs W' v5 l B R m :=
  ⟨Later.trans h.below hb, h.rows, h.row.later hb, h.hp.below hb, h.sep, h.glo⟩
theorem WaS.moved {w : World} {g : Nat} {A : Option Addr} {c : Nat} {xs : List Ak} {W W' : World} {v5 : Value} {l : List Int} {B B' : Option Addr} {R R' : List Nat} {m m' : Nat} (h : WaS w g A c xs W v5 l B R m) (hm : Mv W W' g B B') (hq : HpQ W' g A c xs B' R' m') : WaS w g A c xs W' v5 l B' R' m' where
  below := Rep.Only.below h.below hm.only h.below.size (fun a ha => Nat.le_trans h.glo (h.hp.fp a ha).1)
  rows := h.rows
  row := Rep.ownsRow_block h.row fun a ha => hm.only.block a (h.row.lt a (by simpa using ha)).2 (h.sep a (by simpa using ha))
  hp := hq
  sep := fun b hb hmem => by
    rcases hm.from_ b hmem with h1 | h1
    · exact h.sep b hb h1
    · have := (h.row.lt b hb).2; omega
  glo := h.glo
theorem WaS.pushed {w : World} {g : Nat} {A : Option Addr} {c : Nat} {xs : List Ak} {W W' : World} {v5 v' : Value} {l l' : List Int} {B : Option Addr} {R : List Nat} {m : Nat} (h : WaS w g A c xs W v5 l B R m) (hg : W.grownBy W' v5.ownBlock) (hr : IRow W' w.heap.size v' l') (hat : v'.ownBlock = v5.ownBlock ∨ v'.ownBlock = some W.heap.size) : WaS w g A c xs W' v' l' B R m := by
  have hb : Below w.heap.size w W' := h.below.grown hg h.below.size (fun b hb => (h.row.lt b hb).1)
  exact ⟨hb, h.rows, hr, h.hp.keepLo (h.rows.keep fun p hp => hb.cell hp) h.glo (fun k hk hm => hg.block k hk (fun e => h.sep k e.symm hm)), fun b hb hm => by
    rcases hat with h1 | h1
    · exact h.sep b (h1 ▸ hb) hm
    · rw [h1] at hb; injection hb with hb; have := (h.hp.fp b hm).2; omega, h.glo⟩
/-- A client's variable beside it. -/
theorem WaS.var {w : World} {g : Nat} {A : Option Addr} {c : Nat} {xs : List Ak} {W W' : World} {v5 : Value} {l : List Int} {B : Option Addr} {R : List Nat} {m D : Nat} (h : WaS w g A c xs W v5 l B R m) (hD : D ∉ fpB g B) (hDl : w.heap.size ≤ D) (hv : ∀ b, v5.ownBlock = some b → b ≠ D) (ho : Rep.Only W W' [D]) : WaS w g A c xs W' v5 l B R m := by
  have hb : Below w.heap.size w W' := Rep.Only.below h.below ho h.below.size (fun a ha => by simp at ha; omega)
  exact ⟨hb, h.rows, Rep.ownsRow_block h.row fun a ha => ho.block a (h.row.lt a (by simpa using ha)).2 (by simpa using hv a (by simpa using ha)), h.hp.keepLo (h.rows.keep fun p hp => hb.cell hp) h.glo (fun k hk hm => ho.block k hk (by simp; intro e; exact hD (e ▸ hm))), h.sep, h.glo⟩

end Go.Proofs.Ytgdhhhibkhfdlaa
