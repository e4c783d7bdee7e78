/- What a walk is told of a slice of bytes that came in, and what it gives: the slice reads as a list of bytes. -/
import Derived.Test.YtjhfnfffpofagaaHelp
namespace Go.Proofs.Ytjhfnfffpofagaa
open Go.RowKit

/-- A slice of integers that came in: it is nil; or it leads to a row of 'cap' cells, the numbers 'zs' (the first 'len' are its elements, the rest its spare room), each fitting its kind. -/
def IsRow (k : IntKind) (w : World) (a : Option Addr) (len cap : Nat) (zs : List Int) : Prop :=
  (a = none ∧ len = 0 ∧ cap = 0 ∧ zs = []) ∨
  ∃ x, a = some x ∧ len ≤ cap ∧ cap ≤ maxLen ∧ zs.length = cap ∧ (∀ i, i < zs.length → w.cell? (x.add i) = some (.int k (zs.getD i 0))) ∧ ∀ n ∈ zs, (Lit.int k n).wf = true

theorem u8_of_wf {z : Int} (h : (Lit.int .u8 z).wf = true) : (((UInt8.ofNat z.toNat).toNat : Nat) : Int) = z := by
  have h' : 0 ≤ z ∧ z < 256 := by
    have h1 := of_decide_eq_true (by simpa [Lit.wf] using h : decide (IntKind.u8.min ≤ z ∧ z ≤ IntKind.u8.max) = true)
    have e1 : IntKind.u8.min = 0 := by decide
    have e2 : IntKind.u8.max = 255 := by decide
    omega
  simp
  omega

theorem IsRow.reads {w : World} {a : Option Addr} {len cap : Nat} {zs : List Int} (h : IsRow .u8 w a len cap zs) :
    ∃ l : List UInt8, l.length = len ∧ len ≤ cap ∧ Reads w w.heap.size 1 a l.length (bys l) := by
  rcases h with ⟨rfl, rfl, rfl, rfl⟩ | ⟨x, rfl, hl, hm, hz, hcell, hwz⟩
  · exact ⟨[], rfl, Nat.le_refl _, Reads.none_⟩
  · refine ⟨(zs.take len).map fun z => UInt8.ofNat z.toNat, by simp; omega, hl, ⟨by simp [bys], fun hn => ⟨x, rfl, ?_, ?_⟩⟩⟩
    · have h0 := hcell 0 (by simp at hn; omega)
      have := World.block_lt_of_cell? w _ h0
      rwa [block_of_add] at this
    · intro j u hu
      simp only [bys, List.map_map, List.getElem?_map, List.getElem?_take] at hu
      split at hu
      · rename_i hj
        have hjz : j < zs.length := by omega
        rw [List.getElem?_eq_getElem hjz] at hu
        simp only [Option.map_some, Function.comp] at hu
        injection hu with hu
        rw [u8_of_wf (hwz _ (List.getElem_mem hjz))] at hu
        subst hu
        rw [hcell j hjz, List.getD_eq_getElem?_getD, List.getElem?_eq_getElem hjz]
        rfl
      · cases hu

/-- A row that is owned reads, at whatever later world it is still owned. -/
theorem Owns.reads {w : World} {base : Nat} {e : TypeId} {A : Option Addr} {c : Nat} {l : List UInt8} (h : Owns w base e (.slice A l.length c) l) : Reads w w.heap.size 1 A l.length (bys l) := Reads.of_own h
theorem Owns.keep {w w' : World} {base : Nat} {e : TypeId} {v : Value} {l : List UInt8} (h : Owns w base e v l) (hb : Below w.heap.size w w') : Owns w' base e v l := ownsRow_below h hb (Nat.le_refl _)
theorem Owns.drewN {w : World} {base : Nat} {e : TypeId} {v : Value} {l : List UInt8} (h : Owns w base e v l) (n : Nat) : Owns (w.drewN n) base e v l := h
/-- It stays owned while another row is written that lies elsewhere. -/
theorem Owns.apart {w w' : World} {base base' : Nat} {e e' : TypeId} {v v' : Value} {l : List UInt8} {n' : Nat} {xs : List Value} {size : Nat} (h : Owns w base e v l) (_h' : w.ownsRow base' e' size v' n' xs) (hg : w.grownBy w' v'.ownBlock)
    (hne : ∀ k k', v.ownBlock = some k → v'.ownBlock = some k' → k ≠ k') : Owns w' base e v l := by
  refine World.ownsRow.kept h hg ?_
  rcases hv : v.ownBlock with _ | k
  · exact .inl rfl
  · rcases hv' : v'.ownBlock with _ | k'
    · exact .inr (by simp)
    · exact .inr (by simpa using hne k k' hv hv')
/-- Of two rows the later one lies in a later block. -/
theorem own_apart {w w' : World} {base base' : Nat} {e e' : TypeId} {v v' : Value} {l l' : List UInt8} (h : Owns w base e v l) (h' : Owns w' base' e' v' l') (hb : w.heap.size ≤ base') :
    ∀ k k', v.ownBlock = some k → v'.ownBlock = some k' → k ≠ k' := by
  intro k k' hk hk'
  have h1 := (h.lt k hk).2
  have h2 := (h'.lt k' hk').1
  omega
theorem own_apart' {w w' : World} {base base' : Nat} {e e' : TypeId} {v v' : Value} {l l' : List UInt8} (h : Owns w base e v l) (h' : Owns w' base' e' v' l') (hb : w.heap.size ≤ base') :
    ∀ k k', v'.ownBlock = some k → v.ownBlock = some k' → k ≠ k' := fun k k' hk hk' => (own_apart h h' hb k' k hk' hk).symm
theorem own_from {w w0 : World} {base : Nat} {e : TypeId} {v : Value} {l : List UInt8} (h : Owns w base e v l) (hb : w0.heap.size ≤ base) : ∀ k, v.ownBlock = some k → w0.heap.size ≤ k := fun k hk => Nat.le_trans hb (h.lt k hk).1
/-- Marks read. -/
theorem marks_read {w : World} {base : Nat} {e : TypeId} {A : Option Addr} {c k n : Nat} (h : Owns w base e (.slice A n c) (marks k n)) : Reads w w.heap.size 1 A n (bys (marks k n)) := by
  unfold Owns at h
  rw [marks_length] at h
  exact Reads.of_own h
theorem belowD {B : Nat} {a w : World} (h : Below B a w) (n : Nat) : Below B a (w.drewN n) := ⟨h.os, h.tape, h.output, h.size, h.block⟩

end Go.Proofs.Ytjhfnfffpofagaa
