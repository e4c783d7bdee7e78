/- 's[:n]', 's[n:]' of a slice whose elements take one cell. -/
import Derived.Test.YtgdhhhibkhfdlaaRepMore
import Derived.Test.YtgdhhhibkhfdlaaShut
namespace Go.Proofs.Ytgdhhhibkhfdlaa
open Go.RowKit
set_option linter.unusedVariables false

/-- 's[:hi]' and 's[lo:]' of a slice whose elements take one cell. -/
theorem slice_cells0 {P : Program} {t e : TypeId} {i : TypeInfo} (ht : P.underlying t = some (.slice e)) (hi : P.info? e = some i) (hs : i.size = 1)
    {A : Option Addr} {n c hi' : Nat} (k' : IntKind) (h2 : hi' ≤ n) (h3 : n ≤ c) :
    ∃ A', (∀ w, (Instr.slice t (.slice A n c) none (some (.int k' (hi' : Int))) none).run P w = .ok (.slice A' hi' c) w) ∧
      ∀ {w : World} {B : Nat} {xs : List Value}, Reads w B 1 A n xs → Reads w B 1 A' hi' (xs.take hi') := by
  refine ⟨_, fun w => slice_run0 ht hi hs A n c hi' k' (by omega) w, ?_⟩
  intro w B xs hr
  refine ⟨by have := hr.1; rw [List.length_take]; omega, fun hn => ?_⟩
  obtain ⟨ad, rfl, hb, hcell⟩ := hr.2 (by omega)
  rw [if_neg (by omega)]
  refine ⟨ad.add 0, rfl, by rw [block_of_add]; exact hb, fun j u hu => ?_⟩
  rw [add_of_add, Nat.zero_add]
  refine hcell j u ?_
  rw [List.getElem?_take] at hu
  split at hu
  · exact hu
  · cases hu
theorem slice_cellsF {P : Program} {t e : TypeId} {i : TypeInfo} (ht : P.underlying t = some (.slice e)) (hi : P.info? e = some i) (hs : i.size = 1)
    {A : Option Addr} {n c lo : Nat} (k : IntKind) (h1 : lo ≤ n) (h3 : n ≤ c) :
    ∃ A', (∀ w, (Instr.slice t (.slice A n c) (some (.int k (lo : Int))) none none).run P w = .ok (.slice A' (n - lo) (c - lo)) w) ∧
      ∀ {w : World} {B : Nat} {xs : List Value}, Reads w B 1 A n xs → Reads w B 1 A' (n - lo) (xs.drop lo) := by
  refine ⟨if c = lo then A else A.map (·.add lo), fun w => ?_, fun {w B xs} hr => ?_⟩
  · have a3 : (0 : Int) ≤ lo := by omega
    have hz := sizeOf_run (P := P) (e := e) w hi
    simp [Instr.slice, run_underlying ht, Instr.sliceBounds, Instr.sliceBound, asIntOf, h1, hz, hs, go_sem]
  · have hc := hr.cut (k := lo) (cap := c) (by omega) h3
    simp only [Nat.mul_one] at hc
    exact hc

theorem slice_readsF {P : Program} {t e : TypeId} {i : TypeInfo} (ht : P.underlying t = some (.slice e)) (hi : P.info? e = some i) (hs : i.size = 1)
    {A : Option Addr} {n c lo : Nat} (k : IntKind) (h1 : lo ≤ n) (h3 : n ≤ c) :
    ∃ A', (∀ w, (Instr.slice t (.slice A n c) (some (.int k (lo : Int))) none none).run P w = .ok (.slice A' (n - lo) (c - lo)) w) ∧
      ∀ {w : World} {B : Nat} {l : List UInt8}, Reads w B 1 A n (bys l) → Reads w B 1 A' (n - lo) (bys (l.drop lo)) := by
  refine ⟨if c = lo then A else A.map (·.add lo), fun w => ?_, fun {w B l} hr => ?_⟩
  · have a3 : (0 : Int) ≤ lo := by omega
    have hz := sizeOf_run (P := P) (e := e) w hi
    simp [Instr.slice, run_underlying ht, Instr.sliceBounds, Instr.sliceBound, asIntOf, h1, hz, hs, go_sem]
  · have hc := hr.cut (k := lo) (cap := c) (by omega) h3
    simp only [Nat.mul_one] at hc
    rw [show bys (l.drop lo) = (bys l).drop lo by simp [bys, List.map_drop]]
    exact hc


end Go.Proofs.Ytgdhhhibkhfdlaa
