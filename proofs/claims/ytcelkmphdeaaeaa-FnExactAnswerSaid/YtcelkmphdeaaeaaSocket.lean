/- The program's socket: a box with copies of its own. (By gen_socket.py.) -/
import Derived.Test.YtcelkmphdeaaeaaNSock
import Derived.Test.YtcelkmphdeaaeaaSockS
import Derived.Test.YtcelkmphdeaaeaaHalt
import Derived.Test.YtcelkmphdeaaeaaLexG
import Derived.Test.YtcelkmphdeaaeaaPutFrame
import Derived.Test.YtcelkmphdeaaeaaGetFrameI
import Derived.Deep.Cut
namespace Go.Proofs.Ytcelkmphdeaaeaa
open Go.RowKit
set_option maxRecDepth 100000
set_option linter.unusedVariables false

/-- A box at block S: it holds x, its byte slices are v4 and v5; the world's variables that were there at w0 are as they were. -/
structure KB (w0 : World) (S : Nat) (x : Sk) (v4 v5 o5 : Value) (d7 : Int) (W : World) : Prop where
  below : Below w0.heap.size w0 W
  box : W.heap[S]? = some (.cells #[v5, .int .i64 x.done, .int .i64 x.id, .int .i64 x.kind, .int .i64 x.hold, .bool x.shut, v4, o5, .int .i64 x.st, .int .i64 d7] 89 (0, 0))
  inn : Owns W w0.heap.size 5 v4 x.inn
  out : Owns W w0.heap.size 5 v5 x.out
  ap : ∀ k, v4.ownBlock = some k → v5.ownBlock ≠ some k
  lo : w0.heap.size ≤ S
  n4 : v4.ownBlock ≠ some S
  n5 : v5.ownBlock ≠ some S
  sl : ∃ B n c, o5 = .slice B n c
section
variable {w0 W W' : World} {S : Nat} {x : Sk} {v4 v5 o5 u : Value} {d7 : Int}
theorem KB.lt (h : KB w0 S x v4 v5 o5 d7 W) : S < W.heap.size := (Array.getElem?_eq_some_iff.1 h.box).1
theorem KB.later (h : KB w0 S x v4 v5 o5 d7 W) (hb : Below W.heap.size W W') : KB w0 S x v4 v5 o5 d7 W' :=
  ⟨Rep.Only.below h.below (Rep.only_of_below hb) h.below.size (fun g hg => by cases hg), (hb.block _ h.lt).trans h.box, Owns.keep h.inn hb, Owns.keep h.out hb, h.ap, h.lo, h.n4, h.n5, h.sl⟩
instance : Keeps (KB w0 S x v4 v5 o5 d7) := ⟨fun hb h => h.later hb⟩
theorem KB.frz (h : KB w0 S x v4 v5 o5 d7 W) (i : Nat) : W.frozen? ⟨S, i, none⟩ = false := var_frozen h.box i
theorem KB.slices (h : KB w0 S x v4 v5 o5 d7 W) : ∃ A4 c4 A5 c5 B5 m5 e5, v4 = .slice A4 x.inn.length c4 ∧ v5 = .slice A5 x.out.length c5 ∧ o5 = .slice B5 m5 e5 ∧ (x.inn.length ≤ c4 ∧ c4 ≤ maxLen) ∧ (x.out.length ≤ c5 ∧ c5 ≤ maxLen) := by
  obtain ⟨A4, c4, rfl, h1, h2, _, _⟩ := h.inn.shape
  obtain ⟨A5, c5, rfl, h3, h4, _, _⟩ := h.out.shape
  obtain ⟨B, n, c, rfl⟩ := h.sl
  exact ⟨A4, c4, A5, c5, B, n, c, rfl, rfl, rfl, ⟨h1, h2⟩, h3, h4⟩
/-- A store into a number of the box. -/
theorem KB.put (h : KB w0 S x v4 v5 o5 d7 W) (i : Nat) (u : Value) (x' : Sk) (hi : x'.inn = x.inn) (ho : x'.out = x.out)
    (hb : (#[v5, .int .i64 x.done, .int .i64 x.id, .int .i64 x.kind, .int .i64 x.hold, .bool x.shut, v4, o5, .int .i64 x.st, .int .i64 d7] : Array Value).setIfInBounds i u = #[v5, .int .i64 x'.done, .int .i64 x'.id, .int .i64 x'.kind, .int .i64 x'.hold, .bool x'.shut, v4, o5, .int .i64 x'.st, .int .i64 d7]) : KB w0 S x' v4 v5 o5 d7 (W.setCell ⟨S, i, none⟩ u) := by
  have ho' := Rep.Only.setCell W (p := ⟨S, i, none⟩) (fp := [S]) (by simp) u
  refine ⟨Rep.Only.below h.below ho' h.below.size (fun g hg => by simp at hg; subst hg; exact h.lo), ?_, ?_, ?_, h.ap, h.lo, h.n4, h.n5, h.sl⟩
  · rw [← hb]; exact var_set h.box i u
  · rw [hi]; exact Rep.ownsRow_block h.inn fun g hg => ho'.block g (h.inn.lt g (by simpa using hg)).2 (fun e => h.n4 (by simp at e; subst e; simpa using hg))
  · rw [ho]; exact Rep.ownsRow_block h.out fun g hg => ho'.block g (h.out.lt g (by simpa using hg)).2 (fun e => h.n5 (by simp at e; subst e; simpa using hg))
/-- The slice of what came in has grown. -/
theorem KB.grown4 (h : KB w0 S x v4 v5 o5 d7 W) {l : List UInt8} {v : Value} (hg : W.grownBy W' v4.ownBlock) (hl : Owns W' w0.heap.size 5 v l) (hat : v.ownBlock = v4.ownBlock ∨ v.ownBlock = some W.heap.size ∨ v.ownBlock = none) :
    KB w0 S { x with inn := l } v v5 o5 d7 (W'.setCell ⟨S, 6, none⟩ v) := by
  have hb : ∀ k, k < W.heap.size → v4.ownBlock ≠ some k → W'.heap[k]? = W.heap[k]? := fun k hk hn => hg.block k hk (fun e => hn e.symm)
  have hS := h.lt
  have hn4 : v.ownBlock ≠ some S := by
    rcases hat with e | e | e
    · rw [e]; exact h.n4
    · rw [e]; intro e2; injection e2 with e2; omega
    · rw [e]; intro e2; cases e2
  have ho' := Rep.Only.setCell W' (p := ⟨S, 6, none⟩) (fp := [S]) (by simp) v
  have hS' : S < W'.heap.size := Nat.lt_of_lt_of_le hS hg.size
  refine ⟨?_, ?_, ?_, ?_, ?_, h.lo, hn4, h.n5, h.sl⟩
  · refine Rep.Only.below (h.below.grown hg h.below.size (fun k hk => (h.inn.lt k hk).1)) ho' (Nat.le_trans h.below.size hg.size) (fun g hg => by simp at hg; subst hg; exact h.lo)
  · exact var_set ((hb S hS h.n4).trans h.box) 6 v
  · exact Rep.ownsRow_block hl fun g hg2 => ho'.block g (hl.lt g (by simpa using hg2)).2 (fun e => hn4 (by simp at e; subst e; simpa using hg2))
  · have h5 : Owns W' w0.heap.size 5 v5 x.out := Rep.ownsRow_block h.out fun g hg2 => hb g (h.out.lt g (by simpa using hg2)).2 (fun e => h.ap g e (by simpa using hg2))
    exact Rep.ownsRow_block h5 fun g hg2 => ho'.block g (h5.lt g (by simpa using hg2)).2 (fun e => h.n5 (by simp at e; subst e; simpa using hg2))
  · intro k hk
    rcases hat with e | e | e
    · exact h.ap k (e ▸ hk)
    · intro e5; have := (h.out.lt k e5).2; rw [e] at hk; injection hk with hk; omega
    · rw [e] at hk; cases hk
/-- The slice of what was sent has grown. -/
theorem KB.grown5 (h : KB w0 S x v4 v5 o5 d7 W) {l : List UInt8} {v : Value} (hg : W.grownBy W' v5.ownBlock) (hl : Owns W' w0.heap.size 5 v l) (hat : v.ownBlock = v5.ownBlock ∨ v.ownBlock = some W.heap.size ∨ v.ownBlock = none) :
    KB w0 S { x with out := l } v4 v o5 d7 (W'.setCell ⟨S, 0, none⟩ v) := by
  have hb : ∀ k, k < W.heap.size → v5.ownBlock ≠ some k → W'.heap[k]? = W.heap[k]? := fun k hk hn => hg.block k hk (fun e => hn e.symm)
  have hS := h.lt
  have hn5 : v.ownBlock ≠ some S := by
    rcases hat with e | e | e
    · rw [e]; exact h.n5
    · rw [e]; intro e2; injection e2 with e2; omega
    · rw [e]; intro e2; cases e2
  have ho' := Rep.Only.setCell W' (p := ⟨S, 0, none⟩) (fp := [S]) (by simp) v
  have hS' : S < W'.heap.size := Nat.lt_of_lt_of_le hS hg.size
  refine ⟨?_, ?_, ?_, ?_, ?_, h.lo, h.n4, hn5, h.sl⟩
  · refine Rep.Only.below (h.below.grown hg h.below.size (fun k hk => (h.out.lt k hk).1)) ho' (Nat.le_trans h.below.size hg.size) (fun g hg => by simp at hg; subst hg; exact h.lo)
  · exact var_set ((hb S hS h.n5).trans h.box) 0 v
  · have h4 : Owns W' w0.heap.size 5 v4 x.inn := Rep.ownsRow_block h.inn fun g hg2 => hb g (h.inn.lt g (by simpa using hg2)).2 (fun e => h.ap g (by simpa using hg2) e)
    exact Rep.ownsRow_block h4 fun g hg2 => ho'.block g (h4.lt g (by simpa using hg2)).2 (fun e => h.n4 (by simp at e; subst e; simpa using hg2))
  · exact Rep.ownsRow_block hl fun g hg2 => ho'.block g (hl.lt g (by simpa using hg2)).2 (fun e => hn5 (by simp at e; subst e; simpa using hg2))
  · intro k hk
    rcases hat with e | e | e
    · rw [e]; exact h.ap k hk
    · rw [e]; intro e5; injection e5 with e5; have := (h.inn.lt k hk).2; omega
    · rw [e]; intro e5; cases e5
end

theorem kset {W : World} {g k i j : Nat} {v u : Value} (h : W.cell? ⟨k, i, none⟩ = some v) (hn : k ≠ g) : (W.setCell ⟨g, j, none⟩ u).cell? ⟨k, i, none⟩ = some v := (World.cell?_setCell_other _ _ _ _ (fun e => by cases e; exact hn rfl)).trans h
set_option maxHeartbeats 4000000 in
/-- What the box holds, as a socket. -/
theorem sock_any (S : Nat) (x : Sk) (A4 A5 B5 : Option Addr) (n4 c4 n5 c5 m5 e5 : Nat) (d7 : Int) (w : World) (h : w.heap[S]? = some (.cells #[.slice A5 n5 c5, .int .i64 x.done, .int .i64 x.id, .int .i64 x.kind, .int .i64 x.hold, .bool x.shut, .slice A4 n4 c4, .slice B5 m5 e5, .int .i64 x.st, .int .i64 d7] 89 (0, 0))) :
    Calls Try.prog 68 #[.pointer (some ⟨S, 0, none⟩)] w fun e w' => e = .returned (.agg #[.int .i64 x.id, .int .i64 x.kind, .int .i64 x.hold, .bool x.shut, .slice A4 n4 c4, .slice A5 n5 c5, .int .i64 x.st, .int .i64 x.done]) ∧ Below w.heap.size w w' := by
  have hS : S < w.heap.size := (Array.getElem?_eq_some_iff.1 h).1
  have HW : Below w.heap.size w ((w.alloc (.cells #[.int .i64 0, .int .i64 0, .int .i64 0, .bool false, .slice none 0 0, .slice none 0 0, .int .i64 0, .int .i64 0] 25)).alloc (.cells #[.int .i64 x.id, .int .i64 x.kind, .int .i64 x.hold, .bool x.shut, .slice A4 n4 c4, .slice B5 m5 e5, .int .i64 x.st, .int .i64 d7] 25)) := Later.trans (Later.alloc w _) (Later.alloc _ _)
  have V : ((w.alloc (.cells #[.int .i64 0, .int .i64 0, .int .i64 0, .bool false, .slice none 0 0, .slice none 0 0, .int .i64 0, .int .i64 0] 25)).alloc (.cells #[.int .i64 x.id, .int .i64 x.kind, .int .i64 x.hold, .bool x.shut, .slice A4 n4 c4, .slice B5 m5 e5, .int .i64 x.st, .int .i64 d7] 25)).heap[w.heap.size + 1]? = some (.cells #[.int .i64 x.id, .int .i64 x.kind, .int .i64 x.hold, .bool x.shut, .slice A4 n4 c4, .slice B5 m5 e5, .int .i64 x.st, .int .i64 d7] 25 (0, 0)) := heap_alloc_new' _ _ (by simp)
  have ZZ : ((w.alloc (.cells #[.int .i64 0, .int .i64 0, .int .i64 0, .bool false, .slice none 0 0, .slice none 0 0, .int .i64 0, .int .i64 0] 25)).alloc (.cells #[.int .i64 x.id, .int .i64 x.kind, .int .i64 x.hold, .bool x.shut, .slice A4 n4 c4, .slice B5 m5 e5, .int .i64 x.st, .int .i64 d7] 25)).heap[w.heap.size]? = some (.cells #[.int .i64 0, .int .i64 0, .int .i64 0, .bool false, .slice none 0 0, .slice none 0 0, .int .i64 0, .int .i64 0] 25 (0, 0)) := (Below.heap_alloc _ _ _ (by simp)).trans (heap_alloc_new w _)
  have hB : ((w.alloc (.cells #[.int .i64 0, .int .i64 0, .int .i64 0, .bool false, .slice none 0 0, .slice none 0 0, .int .i64 0, .int .i64 0] 25)).alloc (.cells #[.int .i64 x.id, .int .i64 x.kind, .int .i64 x.hold, .bool x.shut, .slice A4 n4 c4, .slice B5 m5 e5, .int .i64 x.st, .int .i64 d7] 25)).heap[S]? = some (.cells #[.slice A5 n5 c5, .int .i64 x.done, .int .i64 x.id, .int .i64 x.kind, .int .i64 x.hold, .bool x.shut, .slice A4 n4 c4, .slice B5 m5 e5, .int .i64 x.st, .int .i64 d7] 89 (0, 0)) := (HW.block S hS).trans h
  have q0 := var_cell h 0
  have q1 := var_cell h 1
  have q2 := var_cell h 2
  have q3 := var_cell h 3
  have q4 := var_cell h 4
  have q5 := var_cell h 5
  have q6 := var_cell h 6
  have q7 := var_cell h 7
  have q8 := var_cell h 8
  have q9 := var_cell h 9
  go_enter Try.func68, Try.ntmps68
  go_upto_region 2 with (fail)
  clear q0 q1 q2 q3 q4 q5 q6 q7 q8 q9
  generalize ((w.alloc (.cells #[.int .i64 0, .int .i64 0, .int .i64 0, .bool false, .slice none 0 0, .slice none 0 0, .int .i64 0, .int .i64 0] 25)).alloc (.cells #[.int .i64 x.id, .int .i64 x.kind, .int .i64 x.hold, .bool x.shut, .slice A4 n4 c4, .slice B5 m5 e5, .int .i64 x.st, .int .i64 d7] 25)) = W at HW V ZZ hB ⊢
  have hne : S ≠ w.heap.size + 1 := by omega
  have hl1 : w.heap.size + 1 < W.heap.size := (Array.getElem?_eq_some_iff.1 V).1
  have s0 := var_cell hB 0
  have s1 := var_cell hB 1
  have y5 := var_cell V 5
  have y7 := var_cell V 7
  have t5 := var_frozen V 5
  have t7 := var_frozen V 7
  refine wp_region_lex' 100 [0, 1, 2, 3, 4, 5, 6, 7, 8, 9] [10, 11, 12, 13] (fun w' => w'.cell? ⟨S, 0, none⟩ = some (.slice A5 n5 c5) ∧ w'.cell? ⟨S, 1, none⟩ = some (.int .i64 x.done)) (by kernel_rfl) (by kernel_rfl) ⟨s0, s1⟩ ?_
  iterate 10 (refine LexR.cons rfl ?_ (fun w' hw => ?_) ?_; rotate_left; focus (obtain ⟨e0, e1⟩ := hw; go_simp; (try exact rfl)); (try go_frame))
  refine LexR.nil ?_
  replace HW : Below w.heap.size w W.drew := belowD HW 1
  replace V : W.drew.heap[w.heap.size + 1]? = _ := V
  replace ZZ : W.drew.heap[w.heap.size]? = _ := ZZ
  replace s0 : W.drew.cell? ⟨S, 0, none⟩ = _ := s0
  replace s1 : W.drew.cell? ⟨S, 1, none⟩ = _ := s1
  replace y5 := var_cell V 5
  replace y7 := var_cell V 7
  replace t5 := var_frozen V 5
  replace t7 := var_frozen V 7
  replace hl1 : w.heap.size + 1 < W.drew.heap.size := hl1
  clear hB
  generalize W.drew = W at HW V ZZ s0 s1 y5 y7 t5 t7 hl1 ⊢
  refine LexW.cons rfl ?_
  go_wp2_with fail
  refine ⟨fun _ => ⟨s0, s1⟩, LexW.cons rfl ?_⟩
  try go_frame
  go_wp2_with fail
  refine ⟨fun _ => ⟨kset s0 hne, kset s1 hne⟩, LexW.cons rfl ?_⟩
  try go_frame
  go_wp2_with fail
  refine ⟨fun _ => ⟨kset s0 hne, kset s1 hne⟩, LexW.cons rfl ?_⟩
  try go_frame
  go_wp2_with fail
  refine ⟨fun _ => ⟨?_, ?_⟩, LexW.nil ?_⟩
  · exact kset (kset s0 hne) hne
  · exact kset (kset s1 hne) hne
  try go_frame
  have v0 := var_cell V 0
  have z0 := var_cell ZZ 0
  have f0_ := var_frozen ZZ 0
  have v1 := var_cell V 1
  have z1 := var_cell ZZ 1
  have f1_ := var_frozen ZZ 1
  have v2 := var_cell V 2
  have z2 := var_cell ZZ 2
  have f2_ := var_frozen ZZ 2
  have v3 := var_cell V 3
  have z3 := var_cell ZZ 3
  have f3_ := var_frozen ZZ 3
  have v4 := var_cell V 4
  have z4 := var_cell ZZ 4
  have f4_ := var_frozen ZZ 4
  have v5 := var_cell V 5
  have z5 := var_cell ZZ 5
  have f5_ := var_frozen ZZ 5
  have v6 := var_cell V 6
  have z6 := var_cell ZZ 6
  have f6_ := var_frozen ZZ 6
  have v7 := var_cell V 7
  have z7 := var_cell ZZ 7
  have f7_ := var_frozen ZZ 7
  have hl0 : w.heap.size < W.heap.size := by omega
  go_wp2_with fail
  refine bodyPost_ret (v := .agg #[.int .i64 x.id, .int .i64 x.kind, .int .i64 x.hold, .bool x.shut, .slice A4 n4 c4, .slice A5 n5 c5, .int .i64 x.st, .int .i64 x.done]) (by simp [results, Try.results68, go_sem, z0, z1, z2, z3, z4, z5, z6, z7]) rfl ?_
  refine ⟨rfl, ?_⟩
  repeat (refine Below.setCell ?_ (by first | (simp; done) | (simp; omega)) _)
  exact HW


end Go.Proofs.Ytcelkmphdeaaeaa
