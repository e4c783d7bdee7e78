/- The model's copy of a socket in a variable. (Cut out of XSocket by hand; the same with other places.) -/
import Derived.Test.YtcelkmphdeaaeaaNSock
import Derived.Test.YtcelkmphdeaaeaaSockC
import Derived.Test.YtcelkmphdeaaeaaSockS
import Derived.Test.YtcelkmphdeaaeaaHearI
namespace Go.Proofs.Ytcelkmphdeaaeaa
open Go.RowKit
set_option maxRecDepth 100000
set_option linter.unusedVariables false

/-- A variable at block S: it holds x, its byte slices are v4 and v5; the world's variables that were there at w0 are as they were. -/
structure OB (w0 : World) (S : Nat) (x : Sk) (v4 v5 : Value) (W : World) : Prop where
  below : Below w0.heap.size w0 W
  box : W.heap[S]? = some (.cells #[.int .i64 x.id, .int .i64 x.kind, .int .i64 x.hold, .bool x.shut, v4, v5, .int .i64 x.st, .int .i64 x.done] 25 (0, 0))
  inn : Owns W w0.heap.size 5 v4 x.inn
  out : Owns W w0.heap.size 5 v5 x.out
  ap : ∀ k, v4.ownBlock = some k → v5.ownBlock ≠ some k
  lo : w0.heap.size ≤ S
  n4 : v4.ownBlock ≠ some S
  n5 : v5.ownBlock ≠ some S
section
variable {w0 W W' : World} {S : Nat} {x : Sk} {v4 v5 u : Value}
theorem OB.lt (h : OB w0 S x v4 v5 W) : S < W.heap.size := (Array.getElem?_eq_some_iff.1 h.box).1
theorem OB.later (h : OB w0 S x v4 v5 W) (hb : Below W.heap.size W W') : OB w0 S x v4 v5 W' :=
  ⟨Rep.Only.below h.below (Rep.only_of_below hb) h.below.size (fun g hg => by cases hg), (hb.block _ h.lt).trans h.box, Owns.keep h.inn hb, Owns.keep h.out hb, h.ap, h.lo, h.n4, h.n5⟩
instance : Keeps (OB w0 S x v4 v5) := ⟨fun hb h => h.later hb⟩
theorem OB.frz (h : OB w0 S x v4 v5 W) (i : Nat) : W.frozen? ⟨S, i, none⟩ = false := var_frozen h.box i
theorem OB.slices (h : OB w0 S x v4 v5 W) : ∃ A4 c4 A5 c5, v4 = .slice A4 x.inn.length c4 ∧ v5 = .slice A5 x.out.length c5 ∧ (x.inn.length ≤ c4 ∧ c4 ≤ maxLen) ∧ (x.out.length ≤ c5 ∧ c5 ≤ maxLen) := by
  obtain ⟨A4, c4, rfl, h1, h2, _, _⟩ := h.inn.shape
  obtain ⟨A5, c5, rfl, h3, h4, _, _⟩ := h.out.shape
  exact ⟨A4, c4, A5, c5, rfl, rfl, ⟨h1, h2⟩, h3, h4⟩
/-- A store into a number of the box. -/
theorem OB.put (h : OB w0 S x v4 v5 W) (i : Nat) (u : Value) (x' : Sk) (hi : x'.inn = x.inn) (ho : x'.out = x.out)
    (hb : (#[.int .i64 x.id, .int .i64 x.kind, .int .i64 x.hold, .bool x.shut, v4, v5, .int .i64 x.st, .int .i64 x.done] : Array Value).setIfInBounds i u = #[.int .i64 x'.id, .int .i64 x'.kind, .int .i64 x'.hold, .bool x'.shut, v4, v5, .int .i64 x'.st, .int .i64 x'.done]) : OB w0 S x' v4 v5 (W.setCell ⟨S, i, none⟩ u) := by
  have ho' := Rep.Only.setCell W (p := ⟨S, i, none⟩) (fp := [S]) (by simp) u
  refine ⟨Rep.Only.below h.below ho' h.below.size (fun g hg => by simp at hg; subst hg; exact h.lo), ?_, ?_, ?_, h.ap, h.lo, h.n4, h.n5⟩
  · rw [← hb]; exact var_set h.box i u
  · rw [hi]; exact Rep.ownsRow_block h.inn fun g hg => ho'.block g (h.inn.lt g (by simpa using hg)).2 (fun e => h.n4 (by simp at e; subst e; simpa using hg))
  · rw [ho]; exact Rep.ownsRow_block h.out fun g hg => ho'.block g (h.out.lt g (by simpa using hg)).2 (fun e => h.n5 (by simp at e; subst e; simpa using hg))
/-- The slice of what came in has grown. -/
theorem OB.grown4 (h : OB w0 S x v4 v5 W) {l : List UInt8} {v : Value} (hg : W.grownBy W' v4.ownBlock) (hl : Owns W' w0.heap.size 5 v l) (hat : v.ownBlock = v4.ownBlock ∨ v.ownBlock = some W.heap.size ∨ v.ownBlock = none) :
    OB w0 S { x with inn := l } v v5 (W'.setCell ⟨S, 4, none⟩ v) := by
  have hb : ∀ k, k < W.heap.size → v4.ownBlock ≠ some k → W'.heap[k]? = W.heap[k]? := fun k hk hn => hg.block k hk (fun e => hn e.symm)
  have hS := h.lt
  have hn4 : v.ownBlock ≠ some S := by
    rcases hat with e | e | e
    · rw [e]; exact h.n4
    · rw [e]; intro e2; injection e2 with e2; omega
    · rw [e]; intro e2; cases e2
  have ho' := Rep.Only.setCell W' (p := ⟨S, 4, none⟩) (fp := [S]) (by simp) v
  have hS' : S < W'.heap.size := Nat.lt_of_lt_of_le hS hg.size
  refine ⟨?_, ?_, ?_, ?_, ?_, h.lo, hn4, h.n5⟩
  · refine Rep.Only.below (h.below.grown hg h.below.size (fun k hk => (h.inn.lt k hk).1)) ho' (Nat.le_trans h.below.size hg.size) (fun g hg => by simp at hg; subst hg; exact h.lo)
  · exact var_set ((hb S hS h.n4).trans h.box) 4 v
  · exact Rep.ownsRow_block hl fun g hg2 => ho'.block g (hl.lt g (by simpa using hg2)).2 (fun e => hn4 (by simp at e; subst e; simpa using hg2))
  · have h5 : Owns W' w0.heap.size 5 v5 x.out := Rep.ownsRow_block h.out fun g hg2 => hb g (h.out.lt g (by simpa using hg2)).2 (fun e => h.ap g e (by simpa using hg2))
    exact Rep.ownsRow_block h5 fun g hg2 => ho'.block g (h5.lt g (by simpa using hg2)).2 (fun e => h.n5 (by simp at e; subst e; simpa using hg2))
  · intro k hk
    rcases hat with e | e | e
    · exact h.ap k (e ▸ hk)
    · intro e5; have := (h.out.lt k e5).2; rw [e] at hk; injection hk with hk; omega
    · rw [e] at hk; cases hk
/-- The slice of what was sent has grown. -/
theorem OB.grown5 (h : OB w0 S x v4 v5 W) {l : List UInt8} {v : Value} (hg : W.grownBy W' v5.ownBlock) (hl : Owns W' w0.heap.size 5 v l) (hat : v.ownBlock = v5.ownBlock ∨ v.ownBlock = some W.heap.size ∨ v.ownBlock = none) :
    OB w0 S { x with out := l } v4 v (W'.setCell ⟨S, 5, none⟩ v) := by
  have hb : ∀ k, k < W.heap.size → v5.ownBlock ≠ some k → W'.heap[k]? = W.heap[k]? := fun k hk hn => hg.block k hk (fun e => hn e.symm)
  have hS := h.lt
  have hn5 : v.ownBlock ≠ some S := by
    rcases hat with e | e | e
    · rw [e]; exact h.n5
    · rw [e]; intro e2; injection e2 with e2; omega
    · rw [e]; intro e2; cases e2
  have ho' := Rep.Only.setCell W' (p := ⟨S, 5, none⟩) (fp := [S]) (by simp) v
  have hS' : S < W'.heap.size := Nat.lt_of_lt_of_le hS hg.size
  refine ⟨?_, ?_, ?_, ?_, ?_, h.lo, h.n4, hn5⟩
  · refine Rep.Only.below (h.below.grown hg h.below.size (fun k hk => (h.out.lt k hk).1)) ho' (Nat.le_trans h.below.size hg.size) (fun g hg => by simp at hg; subst hg; exact h.lo)
  · exact var_set ((hb S hS h.n5).trans h.box) 5 v
  · have h4 : Owns W' w0.heap.size 5 v4 x.inn := Rep.ownsRow_block h.inn fun g hg2 => hb g (h.inn.lt g (by simpa using hg2)).2 (fun e => h.ap g (by simpa using hg2) e)
    exact Rep.ownsRow_block h4 fun g hg2 => ho'.block g (h4.lt g (by simpa using hg2)).2 (fun e => h.n4 (by simp at e; subst e; simpa using hg2))
  · exact Rep.ownsRow_block hl fun g hg2 => ho'.block g (hl.lt g (by simpa using hg2)).2 (fun e => hn5 (by simp at e; subst e; simpa using hg2))
  · intro k hk
    rcases hat with e | e | e
    · rw [e]; exact h.ap k hk
    · rw [e]; intro e5; injection e5 with e5; have := (h.inn.lt k hk).2; omega
    · rw [e]; intro e5; cases e5
end

theorem OB.own {w0 W : World} {S : Nat} {x : Sk} {v4 v5 : Value} (h : OB w0 S x v4 v5 W) : skR.own W w0.heap.size [.int .i64 x.id, .int .i64 x.kind, .int .i64 x.hold, .bool x.shut, v4, v5, .int .i64 x.st, .int .i64 x.done] x (v4.ownBlock.toList ++ (v5.ownBlock.toList ++ [])) := sk_own h.inn h.out (sk_apart2 h.ap)

end Go.Proofs.Ytcelkmphdeaaeaa
