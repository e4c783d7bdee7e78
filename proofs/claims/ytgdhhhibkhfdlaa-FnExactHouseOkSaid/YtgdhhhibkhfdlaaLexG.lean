/- As XLex's reads, where a guard may stand: its outcome is decided. -/
import Derived.Test.YtgdhhhibkhfdlaaLex
namespace Go.Proofs.Ytgdhhhibkhfdlaa
set_option linter.unusedVariables false

section
variable {P : Program} {ops : Array Oper} {Q : Exit → Act → World → Prop} {md : Region.Mode} {S : World → Prop} {z : Nat}

def lexReadsG (md : Region.Mode) (ops : Array Oper) (z : Nat) : List Nat → Array Bool → Option (Array Bool)
  | [], L => some L
  | i :: r, L => if Region.free md ops L i && (Region.ready md ops L).contains i && ((ops[z]?).map (fun oz => oz.after.any fun e => Region.binds md e && e.on == i)).getD true then lexReadsG md ops z r (L.setIfInBounds i true) else none
def LexRG (P : Program) (ops : Array Oper) (S : World → Prop) : List Nat → (Act → Prop) → Act → Prop
  | [], K, a => K a
  | i :: r, K, a => ∃ o v, ops[i]? = some o ∧ YieldsIf P ops S o v a ∧ LexRG P ops S r K (a.put o.dst v)

theorem lexReadsG_sound (hs : Region.noSelect ops = true) (hQ : ∀ c a d v w, Q (.panic c) (Act.put a d v) w → Q (.panic c) a w) : ∀ (rs : List Nat) (L L' : Array Bool) (fuel : Nat) (K : Act → Prop) (a : Act) (w : World), lexReadsG md ops z rs L = some L' → S w → LexRG P ops S rs K a →
    (∀ a', K a' → wpAnyL P md ops Q S z fuel L' a' w) → wpAnyL P md ops Q S z (rs.length + fuel) L a w
  | [], L, L', fuel, K, a, w, hc, hS, h, hk => by
    simp only [lexReadsG] at hc
    injection hc with hc
    subst hc
    rw [List.length_nil, Nat.zero_add]
    exact hk a h
  | i :: r, L, L', fuel, K, a, w, hc, hS, h, hk => by
    simp only [lexReadsG] at hc
    split at hc
    · rename_i hb
      simp only [Bool.and_eq_true] at hb
      obtain ⟨⟨hf, hr⟩, hz⟩ := hb
      obtain ⟨o, v, ho, hv, h⟩ := h
      have ih := lexReadsG_sound hs hQ r _ L' fuel K (a.put o.dst v) w hc hS h hk
      have e : (i :: r).length + fuel = (r.length + fuel) + 1 := by simp only [List.length_cons]; omega
      rw [e]
      refine wpAnyL_first ho (Region.noSelect_spec hs) (fun c a w => hQ c a o.dst v w) (fun oz hoz => ?_) _ L a w (Region.free_spec ho hf) (by simpa using hr) hv hS ih
      simp only [hoz, Option.map_some, Option.getD_some] at hz
      obtain ⟨e, he, hb⟩ := Array.any_eq_true'.1 hz
      simp only [Bool.and_eq_true, beq_iff_eq] at hb
      exact ⟨e, he, hb.1, hb.2⟩
    · cases hc
theorem lexReadsG_done : ∀ (rs : List Nat) (L L' : Array Bool), lexReadsG md ops z rs L = some L' → L' = doneL L rs
  | [], L, L', h => by
    simp only [lexReadsG] at h
    injection h with h
    exact h.symm
  | i :: r, L, L', h => by
    simp only [lexReadsG] at h
    split at h
    · exact lexReadsG_done r _ L' h
    · cases h
/-- The quiet operations rs may be taken first. -/
theorem wpAnyL_readsG (rs : List Nat) {fuel : Nat} {L : Array Bool} {a : Act} {w : World} (hc : (Region.noSelect ops && (lexReadsG .any ops z rs L).isSome) = true) (hS : S w)
    (h : LexRG P ops S rs (fun a' => wpAnyL P .any ops (NoPanic Q) S z fuel (doneL L rs) a' w) a) : wpAnyL P .any ops (NoPanic Q) S z (rs.length + fuel) L a w := by
  simp only [Bool.and_eq_true] at hc
  rcases hL : lexReadsG .any ops z rs L with _ | L'
  · rw [hL] at hc; cases hc.2
  · exact lexReadsG_sound hc.1 (fun _ _ _ _ _ h => h) rs L L' fuel _ a w hL hS h fun a' ha => by rw [lexReadsG_done rs L L' hL]; exact ha
theorem LexRG.nil {K : Act → Prop} {a : Act} (h : K a) : LexRG P ops S [] K a := h
theorem LexRG.yes {i : Nat} {r : List Nat} {K : Act → Prop} {a : Act} {o : Oper} (ho : ops.toList[i]? = some o) (hw : Region.wanted o (yielded ops a.tmps) = true) (v : Value) (hv : ∀ w, S w → (execOp a.eval o).run P w = .ok (.value v) w) (h : LexRG P ops S r K (a.put o.dst v)) : LexRG P ops S (i :: r) K a := ⟨o, v, by simpa using ho, .inl ⟨hw, hv⟩, h⟩
theorem LexRG.no {i : Nat} {r : List Nat} {K : Act → Prop} {a : Act} {o : Oper} (ho : ops.toList[i]? = some o) (hw : Region.wanted o (yielded ops a.tmps) = false) (h : LexRG P ops S r K (a.put o.dst undef)) : LexRG P ops S (i :: r) K a := ⟨o, undef, by simpa using ho, .inr ⟨hw, rfl⟩, h⟩
end
end Go.Proofs.Ytgdhhhibkhfdlaa
