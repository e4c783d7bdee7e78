/- Lists of records: their cells, equality of what is the same, marks and marks that are found again. -/
import Derived.Test.YtlnmlfpkpplgoaaFlat
import Derived.Test.YtlnmlfpkpplgoaaTRec
namespace Go.Proofs.Ytlnmlfpkpplgoaa
open Go.RowKit
set_option linter.unusedVariables false

def flatR (xs : List Rec) : List Value := xs.flatMap recC
theorem flatR_append (xs ys : List Rec) : flatR (xs ++ ys) = flatR xs ++ flatR ys := by simp [flatR]
theorem flatR_length (xs : List Rec) : (flatR xs).length = xs.length * 4 := by
  induction xs with
  | nil => rfl
  | cons x xs ih => rw [show flatR (x :: xs) = recC x ++ flatR xs from rfl, List.length_append, ih, List.length_cons, show (recC x).length = 4 from rfl]; omega
theorem flatR_get : ∀ (xs : List Rec) (k j : Nat) (x : Rec), xs[k]? = some x → j < 4 → (flatR xs)[k * 4 + j]? = (recC x)[j]? := by
  intro xs
  induction xs with
  | nil => intro k j x h; cases h
  | cons y ys ih =>
    intro k j x h hj
    have hl : (recC y).length = 4 := rfl
    rw [show flatR (y :: ys) = recC y ++ flatR ys from rfl]
    cases k with
    | zero =>
      rw [List.getElem?_cons_zero] at h
      injection h with h
      subst h
      rw [List.getElem?_append_left (by omega)]
      simp
    | succ k =>
      rw [List.getElem?_cons_succ] at h
      rw [List.getElem?_append_right (by omega), show (k + 1) * 4 + j - (recC y).length = k * 4 + j by omega]
      exact ih k j x h hj
theorem one_flatR (xs : List Rec) : ∀ u ∈ flatR xs, u.oneCell' = true := by
  intro u hu
  obtain ⟨x, _, h⟩ := List.mem_flatMap.1 hu
  simp [recC] at h
  rcases h with rfl | rfl | rfl | rfl <;> rfl

/-- A list of records that lies in memory. -/
def RecsAt (w : World) (A : Option Addr) (xs : List Rec) : Prop := Reads w w.heap.size 4 A xs.length (flatR xs)
instance recsAt_keeps (A : Option Addr) (xs : List Rec) : Keeps (fun w => RecsAt w A xs) := ⟨fun h x => (Reads.below x h).more h.size⟩
theorem recs_elem {w : World} {A : Option Addr} {xs : List Rec} {k : Nat} (h : RecsAt w A xs) (hk : k < xs.length) :
    ∃ b off x, A = some ⟨b, off, none⟩ ∧ b < w.heap.size ∧ xs[k]? = some x ∧ w.cell? ⟨b, off + k * 4, none⟩ = some (.int .i64 x.kind) ∧ w.cell? ⟨b, off + k * 4 + 1, none⟩ = some (.int .i64 x.n) ∧ w.cell? ⟨b, off + k * 4 + 2, none⟩ = some (.int .i64 x.owner) ∧ w.cell? ⟨b, off + k * 4 + 3, none⟩ = some (.string x.text) := by
  obtain ⟨hl, hr⟩ := h
  obtain ⟨ad, hA, hb, hc⟩ := hr (by omega)
  obtain ⟨b, off, z⟩ := ad
  have hp : (flatR xs)[0]? = some _ := List.getElem?_eq_getElem (show 0 < (flatR xs).length by rw [flatR_length]; omega)
  have hsp : z = none := by simpa [Addr.add] using World.cell?_spot (hc 0 _ hp)
  subst hsp
  have ea : ∀ j, (⟨b, off, none⟩ : Addr).add j = ⟨b, off + j, none⟩ := fun j => by
    unfold Addr.add
    split <;> simp_all
  have hx := List.getElem?_eq_getElem hk
  have e0 : (flatR xs)[k * 4]? = some (.int .i64 xs[k].kind) := flatR_get xs k 0 _ hx (by omega)
  have e1 : (flatR xs)[k * 4 + 1]? = some (.int .i64 xs[k].n) := flatR_get xs k 1 _ hx (by omega)
  have e2 : (flatR xs)[k * 4 + 2]? = some (.int .i64 xs[k].owner) := flatR_get xs k 2 _ hx (by omega)
  have e3 : (flatR xs)[k * 4 + 3]? = some (.string xs[k].text) := flatR_get xs k 3 _ hx (by omega)
  have c0 := hc _ _ e0
  have c1 := hc _ _ e1
  have c2 := hc _ _ e2
  have c3 := hc _ _ e3
  rw [ea] at c0 c1 c2 c3
  exact ⟨b, off, _, hA, hb, hx, c0, c1, c2, c3⟩

def RetRecs (w : World) (xs : List Rec) (e : Ending) (w' : World) : Prop := ∃ A c, e = .returned (.slice A xs.length c) ∧ w'.ownsRow w.heap.size 33 4 (.slice A xs.length c) xs.length (flatR xs) ∧ Below w.heap.size w w'

end Go.Proofs.Ytlnmlfpkpplgoaa
