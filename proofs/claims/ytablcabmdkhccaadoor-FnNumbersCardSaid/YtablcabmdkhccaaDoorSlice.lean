/- Slices of slices of bytes, and strings made of them. Over any program. -/
import Derived.Test.YtablcabmdkhccaaDoorMem
import Derived.Laws.IdiomStrings
import Derived.Laws.BytesArg
import Derived.Laws.Slices
namespace Go.Proofs.YtablcabmdkhccaaDoor
open Go.RowKit

theorem sizeOf_run {P : Program} {e : TypeId} {i : TypeInfo} (w : World) (hi : P.info? e = some i) : (sizeOf e).run P w = .ok i.size w := by simp [sizeOf, typeInfo, hi, go_sem]

/-- 's[lo:hi]' of a slice of bytes. -/
theorem slice_run {P : Program} {t e : TypeId} {i : TypeInfo} (ht : P.underlying t = some (.slice e)) (hi : P.info? e = some i) (hs : i.size = 1)
    (A : Option Addr) (n c lo hi' : Nat) (k k' : IntKind) (h1 : lo ≤ hi') (h2 : hi' ≤ c) (w : World) :
    (Instr.slice t (.slice A n c) (some (.int k (lo : Int))) (some (.int k' (hi' : Int))) none).run P w = .ok (.slice (if c = lo then A else A.map (·.add lo)) (hi' - lo) (c - lo)) w := by
  have a1 : (0 : Int) ≤ hi' := by omega
  have a2 : (hi' : Int) ≤ c := by omega
  have a3 : (0 : Int) ≤ lo := by omega
  have a4 : (lo : Int) ≤ hi' := by omega
  have hz := sizeOf_run (P := P) (e := e) w hi
  simp [Instr.slice, run_underlying ht, Instr.sliceBounds, Instr.sliceBound, asIntOf, h1, h2, hz, hs, go_sem]

/-- It reads as the part of the list. -/
theorem slice_reads {P : Program} {t e : TypeId} {i : TypeInfo} (ht : P.underlying t = some (.slice e)) (hi : P.info? e = some i) (hs : i.size = 1)
    {A : Option Addr} {n c lo hi' : Nat} (k k' : IntKind) (h1 : lo ≤ hi') (h2 : hi' ≤ n) (h3 : n ≤ c) :
    ∃ A', (∀ w, (Instr.slice t (.slice A n c) (some (.int k (lo : Int))) (some (.int k' (hi' : Int))) none).run P w = .ok (.slice A' (hi' - lo) (c - lo)) w) ∧
      ∀ {w : World} {B : Nat} {l : List UInt8}, Reads w B 1 A n (bys l) → Reads w B 1 A' (hi' - lo) (bys ((l.drop lo).take (hi' - lo))) := by
  refine ⟨_, fun w => slice_run ht hi hs A n c lo hi' k k' h1 (by omega) w, ?_⟩
  intro w B l hr
  have hc := hr.cut (k := lo) (cap := c) (by omega) h3
  simp only [Nat.mul_one] at hc
  refine ⟨by have := hr.1; simp [bys] at this ⊢; omega, fun hn => ?_⟩
  obtain ⟨ad, he, hb, hcell⟩ := hc.2 (by omega)
  refine ⟨ad, he, hb, fun j u hu => hcell j u ?_⟩
  by_cases hj : j < hi' - lo
  · rw [← hu]
    simp only [bys, List.map_take, List.map_drop, List.getElem?_take]
    rw [if_pos hj]
  · rw [List.getElem?_eq_none (by rw [bys_length, List.length_take]; omega)] at hu
    cases hu

/-- 's[:hi]' of a slice of bytes. -/
theorem slice_run0 {P : Program} {t e : TypeId} {i : TypeInfo} (ht : P.underlying t = some (.slice e)) (hi : P.info? e = some i) (hs : i.size = 1)
    (A : Option Addr) (n c hi' : Nat) (k' : IntKind) (h2 : hi' ≤ c) (w : World) :
    (Instr.slice t (.slice A n c) none (some (.int k' (hi' : Int))) none).run P w = .ok (.slice (if c = 0 then A else A.map (·.add 0)) hi' c) w := by
  have a1 : (0 : Int) ≤ hi' := by omega
  have a2 : (hi' : Int) ≤ c := by omega
  have hz := sizeOf_run (P := P) (e := e) w hi
  simp [Instr.slice, run_underlying ht, Instr.sliceBounds, Instr.sliceBound, asIntOf, h2, hz, hs, go_sem]
theorem slice_reads0 {P : Program} {t e : TypeId} {i : TypeInfo} (ht : P.underlying t = some (.slice e)) (hi : P.info? e = some i) (hs : i.size = 1)
    {A : Option Addr} {n c hi' : Nat} (k' : IntKind) (h2 : hi' ≤ n) (h3 : n ≤ c) :
    ∃ A', (∀ w, (Instr.slice t (.slice A n c) none (some (.int k' (hi' : Int))) none).run P w = .ok (.slice A' hi' c) w) ∧
      ∀ {w : World} {B : Nat} {l : List UInt8}, Reads w B 1 A n (bys l) → Reads w B 1 A' hi' (bys (l.take hi')) := by
  refine ⟨_, fun w => slice_run0 ht hi hs A n c hi' k' (by omega) w, ?_⟩
  intro w B l hr
  refine ⟨by have := hr.1; simp [bys] at this ⊢; omega, fun hn => ?_⟩
  obtain ⟨ad, rfl, hb, hcell⟩ := hr.2 (by omega)
  rw [if_neg (by omega)]
  refine ⟨ad.add 0, rfl, by rw [block_of_add]; exact hb, fun j u hu => ?_⟩
  rw [add_of_add, Nat.zero_add]
  refine hcell j u ?_
  by_cases hj : j < hi'
  · rw [← hu]
    simp only [bys, List.map_take, List.getElem?_take]
    rw [if_pos hj]
  · rw [List.getElem?_eq_none (by rw [bys_length, List.length_take]; omega)] at hu
    cases hu

/-- 'string(b)'. -/
theorem string_run {P : Program} {src dst e : TypeId} (hs : P.underlying src = some (.slice e)) (he : P.underlying e = some (.int .u8)) (hd : P.underlying dst = some .string)
    {A : Option Addr} {n c B : Nat} {l : List UInt8} {w : World} (h : Reads w B 1 A n (bys l)) : (convert src dst (.slice A n c)).run P w = .ok (.string ⟨l.toArray⟩) w := by
  have hl := h.len
  subst hl
  rcases A with _ | ad
  · have h0 : l = [] := by
      rcases Nat.eq_zero_or_pos l.length with h0 | h0
      · exact List.eq_nil_of_length_eq_zero h0
      · obtain ⟨ad, hh, _⟩ := h.2 h0
        cases hh
    subst h0
    exact run_convert_bytes_nil (P := P) w src e hs he _ c dst hd
  · refine run_convert_bytes_back (P := P) w src dst e ad c l hs he hd ?_
    intro j hj
    obtain ⟨ad', hA, _, hc⟩ := h.2 (by omega)
    injection hA with hA
    subst hA
    exact hc j _ (bys_get (List.getElem?_eq_getElem hj))

end Go.Proofs.YtablcabmdkhccaaDoor
