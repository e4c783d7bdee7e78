/- Lists of Frame: their cells, equality of what is the same, marks that are found again. (By gen_list.py.) -/
import Derived.Test.YtcelkmphdeaaeaaFlat
import Derived.Test.YtcelkmphdeaaeaaTFrame
import Derived.Test.YtcelkmphdeaaeaaLex
import Derived.Maps.RangeWalk
import Derived.Deep.Cut
namespace Go.Proofs.Ytcelkmphdeaaeaa
open Go.RowKit
set_option maxRecDepth 100000
set_option linter.unusedVariables false

def flatFr (xs : List Fr) : List Value := xs.flatMap frC
theorem flatFr_append (xs ys : List Fr) : flatFr (xs ++ ys) = flatFr xs ++ flatFr ys := by simp [flatFr]
theorem flatFr_length (xs : List Fr) : (flatFr xs).length = xs.length * 3 := by
  induction xs with
  | nil => rfl
  | cons x xs ih => rw [show flatFr (x :: xs) = frC x ++ flatFr xs from rfl, List.length_append, ih, List.length_cons, show (frC x).length = 3 from rfl]; omega
theorem flatFr_get : ∀ (xs : List Fr) (k j : Nat) (x : Fr), xs[k]? = some x → j < 3 → (flatFr xs)[k * 3 + j]? = (frC x)[j]? := by
  intro xs
  induction xs with
  | nil => intro k j x h; cases h
  | cons y ys ih =>
    intro k j x h hj
    have hl : (frC y).length = 3 := rfl
    rw [show flatFr (y :: ys) = frC y ++ flatFr ys from rfl]
    cases k with
    | zero =>
      rw [List.getElem?_cons_zero] at h
      injection h with h
      subst h
      rw [List.getElem?_append_left (by omega)]
      simp
    | succ k =>
      rw [List.getElem?_cons_succ] at h
      rw [List.getElem?_append_right (by omega), show (k + 1) * 3 + j - (frC y).length = k * 3 + j by omega]
      exact ih k j x h hj
theorem one_flatFr (xs : List Fr) : ∀ u ∈ flatFr xs, u.oneCell' = true := by
  intro u hu
  obtain ⟨x, _, h⟩ := List.mem_flatMap.1 hu
  simp [frC] at h
  rcases h with rfl | rfl | rfl <;> rfl

/-- A list that lies in memory. -/
def FrAt (w : World) (A : Option Addr) (xs : List Fr) : Prop := Reads w w.heap.size 3 A xs.length (flatFr xs)
instance frAt_keeps (A : Option Addr) (xs : List Fr) : Keeps (fun w => FrAt w A xs) := ⟨fun h x => (Reads.below x h).more h.size⟩
theorem frS_elem {w : World} {A : Option Addr} {xs : List Fr} {k : Nat} (h : FrAt w A xs) (hk : k < xs.length) :
    ∃ b off x, A = some ⟨b, off, none⟩ ∧ b < w.heap.size ∧ xs[k]? = some x ∧ w.cell? ⟨b, off + k * 3, none⟩ = some (.int .i64 x.k) ∧ w.cell? ⟨b, off + k * 3 + 1, none⟩ = some (.string x.s) ∧ w.cell? ⟨b, off + k * 3 + 2, none⟩ = some (.int .i64 x.st) := by
  obtain ⟨hl, hr⟩ := h
  obtain ⟨ad, hA, hb, hc⟩ := hr (by omega)
  obtain ⟨b, off, z⟩ := ad
  have hp : (flatFr xs)[0]? = some _ := List.getElem?_eq_getElem (show 0 < (flatFr xs).length by rw [flatFr_length]; omega)
  have hsp : z = none := by simpa [Addr.add] using World.cell?_spot (hc 0 _ hp)
  subst hsp
  have ea : ∀ j, (⟨b, off, none⟩ : Addr).add j = ⟨b, off + j, none⟩ := fun j => by
    unfold Addr.add
    split <;> simp_all
  have hx := List.getElem?_eq_getElem hk
  have e0 : (flatFr xs)[k * 3]? = some (.int .i64 xs[k].k) := flatFr_get xs k 0 _ hx (by omega)
  have e1 : (flatFr xs)[k * 3 + 1]? = some (.string xs[k].s) := flatFr_get xs k 1 _ hx (by omega)
  have e2 : (flatFr xs)[k * 3 + 2]? = some (.int .i64 xs[k].st) := flatFr_get xs k 2 _ hx (by omega)
  have c0 := hc _ _ e0
  have c1 := hc _ _ e1
  have c2 := hc _ _ e2
  rw [ea] at c0 c1 c2
  exact ⟨b, off, _, hA, hb, hx, c0, c1, c2⟩

def RetFrS (w : World) (xs : List Fr) (e : Ending) (w' : World) : Prop := ∃ A c, e = .returned (.slice A xs.length c) ∧ w'.ownsRow w.heap.size 33 3 (.slice A xs.length c) xs.length (flatFr xs) ∧ Below w.heap.size w w'
theorem frS_own_at {w : World} {base : Nat} {A : Option Addr} {c : Nat} {xs : List Fr} (h : w.ownsRow base 33 3 (.slice A xs.length c) xs.length (flatFr xs)) : FrAt w A xs := Reads.of_own h
theorem frS_flat {w : World} {base c m : Nat} {e : TypeId} {A : Option Addr} {f : Nat → Value} (h : FlatTo w base e 3 m (.slice A m c) f (m * 3)) : 0 < m → ∃ b off, A = some ⟨b, off, none⟩ ∧ b < w.heap.size ∧ ∀ j, j < m * 3 → w.cell? ⟨b, off + j, none⟩ = some (f j) := by
  obtain ⟨A', c', he, hr⟩ := h.reads (by omega)
  injection he with he
  subst he
  exact hr
theorem Try.infoFrB : (Try.prog.info? 33).map (fun i => (i.zero, i.size, i.bytes)) = some (some (.agg #[.int .i64 0, .string ⟨#[]⟩, .int .i64 0]), 3, 32) := by kernel_rfl

def frMk (k0 j : Nat) : Value := if j % 3 = 1 then .string (mtxt (k0 + j)) else .int .i64 ((k0 + j : Nat) : Int)
theorem frMk0 (k0 k : Nat) : frMk k0 (k * 3 + 0) = .int .i64 ((k0 + k * 3 + 0 : Nat) : Int) := by unfold frMk; rw [if_neg (by omega)]; rw [Nat.add_assoc]
theorem frMk1 (k0 k : Nat) : frMk k0 (k * 3 + 1) = .string (mtxt (k0 + k * 3 + 1)) := by unfold frMk; rw [if_pos (by omega), Nat.add_assoc]
theorem frMk2 (k0 k : Nat) : frMk k0 (k * 3 + 2) = .int .i64 ((k0 + k * 3 + 2 : Nat) : Int) := by unfold frMk; rw [if_neg (by omega)]; rw [Nat.add_assoc]

end Go.Proofs.Ytcelkmphdeaaeaa
