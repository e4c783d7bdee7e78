/- Peek of the program and of the model. (By gen_l8p.py.) -/
import Derived.Test.YtcelkmphdeaaeaaHearI
import Derived.Test.YtcelkmphdeaaeaaGetFrame
namespace Go.Proofs.Ytcelkmphdeaaeaa
open Go.RowKit
set_option maxRecDepth 100000
set_option linter.unusedVariables false

def RetPeek (w : World) (p : Fr × Int) (e : Ending) (w' : World) : Prop := e = .returned (.tuple #[.agg (frC p.1).toArray, .int .i64 p.2]) ∧ Below w.heap.size w w'
theorem fr3_low {w W : World} {g : Nat} (hb : Below w.heap.size w W) (hg : w.heap.size ≤ g) (a b c : Value) : Below w.heap.size w (((W.setCell ⟨g, 0, none⟩ a).setCell ⟨g, 1, none⟩ b).setCell ⟨g, 2, none⟩ c) :=
  ((hb.setCell (p := ⟨g, 0, none⟩) hg a).setCell (p := ⟨g, 1, none⟩) hg b).setCell (p := ⟨g, 2, none⟩) hg c

set_option maxHeartbeats 8000000 in
theorem peek_any (cs : List Value) (x : Sk) (w : World) (h : skR.at_ w w.heap.size cs x) (hs : RoomSk x) :
    Calls Try.prog 20 #[.agg cs.toArray] w (RetPeek w (peekP x)) := by
  obtain ⟨B4, e4, B5, e5, rfl, hc4, hr4, hc5, hr5⟩ := sk_cells h
  have F : All (fun w' => Below w.heap.size w w' ∧ (w'.heap[w.heap.size]? = some (.cells #[.int .i64 x.id, .int .i64 x.kind, .int .i64 x.hold, .bool x.shut, .slice B4 x.inn.length e4, .slice B5 x.out.length e5, .int .i64 x.st, .int .i64 x.done] 25 (0, 0))) ∧ w'.heap[w.heap.size + 1]? = some (.cells #[.int .i64 0, .string ⟨#[]⟩, .int .i64 0] 33 (0, 0))) ((w.alloc (.cells #[.int .i64 x.id, .int .i64 x.kind, .int .i64 x.hold, .bool x.shut, .slice B4 x.inn.length e4, .slice B5 x.out.length e5, .int .i64 x.st, .int .i64 x.done] 25)).alloc (.cells #[.int .i64 0, .string ⟨#[]⟩, .int .i64 0] 33)) := ⟨Later.trans (Later.alloc w _) (Later.alloc _ _), (Below.heap_alloc _ _ _ (by simp)).trans (heap_alloc_new w _), heap_alloc_new' _ _ (by simp)⟩
  have HR := Lib.hid hr4
  have hcap := hc4.1
  have HI := Lib.hid hs.1
  obtain ⟨⟨⟨fk, fs, fst⟩, fn, fc⟩, hp⟩ : ∃ p, getF x.inn = p := ⟨_, rfl⟩
  have HG := Lib.hid hp
  have HZ : Hid (fc ≠ 0 → fk = 0 ∧ fs = ⟨#[]⟩ ∧ fst = 0) := Lib.hid (fun hc => by
    have h1 := (getF_bad (l := x.inn) (by rw [hp]; exact hc)).1
    rw [hp] at h1
    injection h1 with h1 h2 h3
    exact ⟨h1, h2, h3⟩)
  obtain ⟨c1, hc1⟩ : ∃ y, (fc == 1) = y := ⟨_, rfl⟩
  obtain ⟨l0, hl0⟩ : ∃ y, decide ((0 : Int) < (x.inn.length : Int)) = y := ⟨_, rfl⟩
  obtain ⟨sh, hsh⟩ : ∃ y, x.shut = y := ⟨_, rfl⟩
  have HSH := Lib.hid hsh
  have HP : Hid (peekP x = if c1 = true ∧ sh = true ∧ l0 = true then (zeroFr, 2) else (⟨fk, fs, fst⟩, fc)) := Lib.hid (by
    unfold peekP
    rw [hp, hsh, ← hc1, ← hl0]
    simp only [beq_iff_eq, decide_eq_true_eq, Int.natCast_pos])
  have HL := Lib.hid hl0
  have HC := Lib.hid hc1
  clear h hr4 hr5 hc4 hc5 hp hsh hl0
  go_enter Try.func20, Try.ntmps20
  go_wp2_with fail
  generalize ((w.alloc (.cells #[.int .i64 x.id, .int .i64 x.kind, .int .i64 x.hold, .bool x.shut, .slice B4 x.inn.length e4, .slice B5 x.out.length e5, .int .i64 x.st, .int .i64 x.done] 25)).alloc (.cells #[.int .i64 0, .string ⟨#[]⟩, .int .i64 0] 33)) = W0 at F ⊢
  refine (getFrame_any B4 e4 x.inn W0 ((HR.out.below F.out.1).more F.out.1.size) (by have := HI.out; omega) hcap).mono ?_
  rw [HG.out]
  rintro e1 W1 ⟨rfl, hb⟩
  replace F := F.later hb
  clear hb
  unfold frC
  go_upto_region 2 with (fail)
  have hlt1 : w.heap.size + 1 < W1.heap.size := (Array.getElem?_eq_some_iff.1 F.out.2.2).1
  have hV := heap_alloc_new W1 (.cells #[.int .i64 fk, .string fs, .int .i64 fst] 33)
  replace F := F.alloc (.cells #[.int .i64 fk, .string fs, .int .i64 fst] 33)
  have hne : w.heap.size + 1 ≠ W1.heap.size := by have := (Array.getElem?_eq_some_iff.1 F.out.2.2).1; have h2 : w.heap.size + 1 < W1.heap.size := hlt1; omega
  generalize W1.alloc (.cells #[.int .i64 fk, .string fs, .int .i64 fst] 33) = W2 at F hV ⊢
  generalize W1.heap.size = G at hV hne ⊢
  have q3 : W2.cell? ⟨w.heap.size, 3, none⟩ = some (.bool sh) := by have := var_cell F.out.2.1 3; rw [← HSH.out]; exact this
  have q4 := var_cell F.out.2.1 4
  have v0 := var_cell hV 0
  have v1 := var_cell hV 1
  have v2 := var_cell hV 2
  have z0 := var_cell F.out.2.2 0
  have z1 := var_cell F.out.2.2 1
  have z2 := var_cell F.out.2.2 2
  have f0 := var_frozen F.out.2.2 0
  have f1 := var_frozen F.out.2.2 1
  have f2 := var_frozen F.out.2.2 2
  have hl1 := (Array.getElem?_eq_some_iff.1 F.out.2.2).1
  have hlow := F.out.1
  clear F hV HR
  cases c1
  · skip
    go_wp2_with fail
    refine bodyPost_ret (v := .tuple #[.agg #[.int .i64 fk, .string fs, .int .i64 fst], .int .i64 fc]) (by simp [results, Try.results20, go_sem, z0, z1, z2]) rfl ?_
    rw [HP.out]
    exact ⟨rfl, fr3_low hlow (by omega) _ _ _⟩
  · cases sh
    · skip
      go_wp2_with fail
      refine bodyPost_ret (v := .tuple #[.agg #[.int .i64 fk, .string fs, .int .i64 fst], .int .i64 fc]) (by simp [results, Try.results20, go_sem, z0, z1, z2]) rfl ?_
      rw [HP.out]
      exact ⟨rfl, fr3_low hlow (by omega) _ _ _⟩
    · cases l0
      · have hln : ¬ (0 : Int) < (x.inn.length : Int) := of_decide_eq_false HL.out
        go_wp2_with fail
        refine bodyPost_ret (v := .tuple #[.agg #[.int .i64 fk, .string fs, .int .i64 fst], .int .i64 fc]) (by simp [results, Try.results20, go_sem, z0, z1, z2]) rfl ?_
        rw [HP.out]
        exact ⟨rfl, fr3_low hlow (by omega) _ _ _⟩
      · have hln : (0 : Int) < (x.inn.length : Int) := of_decide_eq_true HL.out
        go_wp2_with fail
        refine bodyPost_ret (v := .tuple #[.agg #[.int .i64 fk, .string fs, .int .i64 fst], .int .i64 2]) (by simp [results, Try.results20, go_sem, z0, z1, z2]) rfl ?_
        have hz := HZ.out (by have := HC.out; simp at this; omega)
        obtain ⟨rfl, rfl, rfl⟩ := hz
        rw [HP.out]
        exact ⟨rfl, fr3_low hlow (by omega) _ _ _⟩

set_option maxHeartbeats 8000000 in
theorem peekS_any (cs : List Value) (x : Sk) (w : World) (h : skR.at_ w w.heap.size cs x) (hs : RoomSk x) :
    Calls Try.prog 21 #[.agg cs.toArray] w (RetPeek w (peekP x)) := by
  obtain ⟨B4, e4, B5, e5, rfl, hc4, hr4, hc5, hr5⟩ := sk_cells h
  have F : All (fun w' => Below w.heap.size w w' ∧ (w'.heap[w.heap.size]? = some (.cells #[.int .i64 x.id, .int .i64 x.kind, .int .i64 x.hold, .bool x.shut, .slice B4 x.inn.length e4, .slice B5 x.out.length e5, .int .i64 x.st, .int .i64 x.done] 25 (0, 0))) ∧ w'.heap[w.heap.size + 1]? = some (.cells #[.int .i64 0, .string ⟨#[]⟩, .int .i64 0] 33 (0, 0))) ((w.alloc (.cells #[.int .i64 x.id, .int .i64 x.kind, .int .i64 x.hold, .bool x.shut, .slice B4 x.inn.length e4, .slice B5 x.out.length e5, .int .i64 x.st, .int .i64 x.done] 25)).alloc (.cells #[.int .i64 0, .string ⟨#[]⟩, .int .i64 0] 33)) := ⟨Later.trans (Later.alloc w _) (Later.alloc _ _), (Below.heap_alloc _ _ _ (by simp)).trans (heap_alloc_new w _), heap_alloc_new' _ _ (by simp)⟩
  have HR := Lib.hid hr4
  have hcap := hc4.1
  have HI := Lib.hid hs.1
  obtain ⟨⟨⟨fk, fs, fst⟩, fn, fc⟩, hp⟩ : ∃ p, getF x.inn = p := ⟨_, rfl⟩
  have HG := Lib.hid hp
  have HZ : Hid (fc ≠ 0 → fk = 0 ∧ fs = ⟨#[]⟩ ∧ fst = 0) := Lib.hid (fun hc => by
    have h1 := (getF_bad (l := x.inn) (by rw [hp]; exact hc)).1
    rw [hp] at h1
    injection h1 with h1 h2 h3
    exact ⟨h1, h2, h3⟩)
  obtain ⟨c1, hc1⟩ : ∃ y, (fc == 1) = y := ⟨_, rfl⟩
  obtain ⟨l0, hl0⟩ : ∃ y, decide ((0 : Int) < (x.inn.length : Int)) = y := ⟨_, rfl⟩
  obtain ⟨sh, hsh⟩ : ∃ y, x.shut = y := ⟨_, rfl⟩
  have HSH := Lib.hid hsh
  have HP : Hid (peekP x = if c1 = true ∧ sh = true ∧ l0 = true then (zeroFr, 2) else (⟨fk, fs, fst⟩, fc)) := Lib.hid (by
    unfold peekP
    rw [hp, hsh, ← hc1, ← hl0]
    simp only [beq_iff_eq, decide_eq_true_eq, Int.natCast_pos])
  have HL := Lib.hid hl0
  have HC := Lib.hid hc1
  clear h hr4 hr5 hc4 hc5 hp hsh hl0
  go_enter Try.func21, Try.ntmps21
  go_wp2_with fail
  generalize ((w.alloc (.cells #[.int .i64 x.id, .int .i64 x.kind, .int .i64 x.hold, .bool x.shut, .slice B4 x.inn.length e4, .slice B5 x.out.length e5, .int .i64 x.st, .int .i64 x.done] 25)).alloc (.cells #[.int .i64 0, .string ⟨#[]⟩, .int .i64 0] 33)) = W0 at F ⊢
  refine (getFrameS_any B4 e4 x.inn W0 ((HR.out.below F.out.1).more F.out.1.size) (by have := HI.out; omega) hcap).mono ?_
  rw [HG.out]
  rintro e1 W1 ⟨rfl, hb⟩
  replace F := F.later hb
  clear hb
  unfold frC
  go_upto_region 2 with (fail)
  have hlt1 : w.heap.size + 1 < W1.heap.size := (Array.getElem?_eq_some_iff.1 F.out.2.2).1
  have hV := heap_alloc_new W1 (.cells #[.int .i64 fk, .string fs, .int .i64 fst] 33)
  replace F := F.alloc (.cells #[.int .i64 fk, .string fs, .int .i64 fst] 33)
  have hne : w.heap.size + 1 ≠ W1.heap.size := by have := (Array.getElem?_eq_some_iff.1 F.out.2.2).1; have h2 : w.heap.size + 1 < W1.heap.size := hlt1; omega
  generalize W1.alloc (.cells #[.int .i64 fk, .string fs, .int .i64 fst] 33) = W2 at F hV ⊢
  generalize W1.heap.size = G at hV hne ⊢
  have q3 : W2.cell? ⟨w.heap.size, 3, none⟩ = some (.bool sh) := by have := var_cell F.out.2.1 3; rw [← HSH.out]; exact this
  have q4 := var_cell F.out.2.1 4
  have v0 := var_cell hV 0
  have v1 := var_cell hV 1
  have v2 := var_cell hV 2
  have z0 := var_cell F.out.2.2 0
  have z1 := var_cell F.out.2.2 1
  have z2 := var_cell F.out.2.2 2
  have f0 := var_frozen F.out.2.2 0
  have f1 := var_frozen F.out.2.2 1
  have f2 := var_frozen F.out.2.2 2
  have hl1 := (Array.getElem?_eq_some_iff.1 F.out.2.2).1
  have hlow := F.out.1
  clear F hV HR
  cases c1
  · skip
    go_wp2_with fail
    refine bodyPost_ret (v := .tuple #[.agg #[.int .i64 fk, .string fs, .int .i64 fst], .int .i64 fc]) (by simp [results, Try.results21, go_sem, z0, z1, z2]) rfl ?_
    rw [HP.out]
    exact ⟨rfl, fr3_low hlow (by omega) _ _ _⟩
  · cases sh
    · skip
      go_wp2_with fail
      refine bodyPost_ret (v := .tuple #[.agg #[.int .i64 fk, .string fs, .int .i64 fst], .int .i64 fc]) (by simp [results, Try.results21, go_sem, z0, z1, z2]) rfl ?_
      rw [HP.out]
      exact ⟨rfl, fr3_low hlow (by omega) _ _ _⟩
    · cases l0
      · have hln : ¬ (0 : Int) < (x.inn.length : Int) := of_decide_eq_false HL.out
        go_wp2_with fail
        refine bodyPost_ret (v := .tuple #[.agg #[.int .i64 fk, .string fs, .int .i64 fst], .int .i64 fc]) (by simp [results, Try.results21, go_sem, z0, z1, z2]) rfl ?_
        rw [HP.out]
        exact ⟨rfl, fr3_low hlow (by omega) _ _ _⟩
      · have hln : (0 : Int) < (x.inn.length : Int) := of_decide_eq_true HL.out
        go_wp2_with fail
        refine bodyPost_ret (v := .tuple #[.agg #[.int .i64 0, .string ⟨#[]⟩, .int .i64 0], .int .i64 2]) (by simp [results, Try.results21, go_sem, z0, z1, z2]) rfl ?_
        rw [HP.out]
        exact ⟨rfl, fr3_low hlow (by omega) _ _ _⟩

end Go.Proofs.Ytcelkmphdeaaeaa
