/- The struct Frame: its cells, its memory; what the exact laws ask of it; two compared as structs. (By gen_struct.py.) -/
import Derived.Test.YtcelkmphdeaaeaaStr
import Derived.BigQuiet
import Derived.Deep.QuietTactic
namespace Go.Proofs.Ytcelkmphdeaaeaa
open Go.RowKit
set_option maxRecDepth 100000
set_option linter.unusedVariables false

structure Fr where
  k : Int
  s : ByteArray
  st : Int

def frC (r : Fr) : List Value := [.int .i64 r.k, .string r.s, .int .i64 r.st]
def frR : Rep Fr := (Rep.int.pair ((strR markText).pair Rep.int)).iso (fun r => (r.k, r.s, r.st)) (fun p => ⟨p.1, p.2.1, p.2.2⟩)

theorem fr_cells {w : World} {B : Nat} {cs : List Value} {r : Fr} (h : frR.at_ w B cs r) : cs = frC r := by
  have hl : cs.length = 3 := Rep.len frR h
  obtain ⟨h0, h1, h2⟩ := h
  match cs, hl with
  | [c0, c1, c2], _ =>
    replace h0 : [c0] = [.int .i64 r.k] := h0
    replace h1 : [c1] = [.string r.s] := h1
    replace h2 : [c2] = [.int .i64 r.st] := h2
    injection h0 with h0
    injection h1 with h1
    injection h2 with h2
    subst h0 h1 h2
    rfl
theorem fr_own (w : World) (base : Nat) (r : Fr) : frR.own w base (frC r) r [] :=
  ⟨[], [], ⟨rfl, rfl⟩, ⟨[], [], ⟨rfl, rfl⟩, ⟨rfl, rfl⟩, rfl, by simp⟩, rfl, by simp⟩
theorem fr_at (w : World) (B : Nat) (r : Fr) : frR.at_ w B (frC r) r := ⟨rfl, rfl, rfl⟩
theorem fr_box {w : World} {g t : Nat} {r : Fr} (h : w.heap[g]? = some (.cells (frC r).toArray t (0, 0))) : w.cell? ⟨g, 0, none⟩ = some (.int .i64 r.k) ∧ w.cell? ⟨g, 1, none⟩ = some (.string r.s) ∧ w.cell? ⟨g, 2, none⟩ = some (.int .i64 r.st) := ⟨var_cell h 0, var_cell h 1, var_cell h 2⟩

def OkFr (r : Fr) : Prop := (Lit.int .i64 r.k).wf = true ∧ r.s.size ≤ maxLen ∧ (Lit.int .i64 r.st).wf = true

open Go.ChangeShapes Go.WideShapes Go.Deep in
theorem fr_opens : Rep.Opens Try.prog 72 frR OkFr := by
  intro H enc w base spare held fuel cs x h
  obtain ⟨xs, n, rfl, _, hl, hxl, hf⟩ := DataW.trod_struct Try.underlying72 h
  have hl' : cs.length = 3 := hl.trans (by kernel_rfl)
  obtain ⟨y0, h0, k0⟩ := (Rep.Opens.int Try.underlying3).field (hf 0 _ rfl) (by rw [hxl]; decide) (sz := 1) (by kernel_rfl)
  obtain ⟨y1, h1, k1⟩ := (Rep.Opens.str markText Try.underlying9).field (hf 1 _ rfl) (by rw [hxl]; decide) (sz := 1) (by kernel_rfl)
  obtain ⟨y2, h2, k2⟩ := (Rep.Opens.int Try.underlying3).field (hf 2 _ rfl) (by rw [hxl]; decide) (sz := 1) (by kernel_rfl)
  match cs, hl' with
  | [c0, c1, c2], _ => exact ⟨⟨y0, y1, y2⟩, ⟨h0, h1, h2⟩, k0, k1, k2⟩

theorem Try.infoFr : (Try.prog.info? 33).map (fun i => (i.zero, i.size)) = some (some (.agg #[.int .i64 0, .string ⟨#[]⟩, .int .i64 0]), 3) := by kernel_rfl

set_option maxHeartbeats 1000000 in
theorem szFr_room (r : Fr) (left : Nat) (w : World) (g0 : r.s.size ≤ maxLen) (hl : left ≤ 1048576) :
    Calls Try.prog 57 #[.agg (frC r).toArray, .int .i64 left] w (RoomB (r.s.size ≤ 1048576) left w) := by
  unfold maxLen at g0
  by_cases h0 : r.s.size ≤ left
  · have h0' : ¬ ((left : Int) - (r.s.size : Int) < 0) := by omega
    unfold frC
    go_enter Try.func57, Try.ntmps57
    go_wp2
    go_ret
    exact ⟨.inl ⟨left - r.s.size, by omega, by omega, by go_num⟩, (Below.refl _ _).alloc (Nat.le_refl _) _⟩
  · have h0' : (left : Int) - (r.s.size : Int) < 0 := by omega
    unfold frC
    go_enter Try.func57, Try.ntmps57
    go_wp2
    go_ret
    exact ⟨.inr rfl, (Below.refl _ _).alloc (Nat.le_refl _) _⟩

set_option maxHeartbeats 1000000 in
theorem toFr_any (r : Fr) (w : World) : Calls Try.prog 59 #[.agg (frC r).toArray] w fun e w' => e = .returned (.agg (frC r).toArray) ∧ Below w.heap.size w w' := by
  unfold frC
  go_enter Try.func59, Try.ntmps59
  go_wp2
  refine bodyPost_ret (v := .agg (frC r).toArray) (by simp [results, Try.results59, go_sem, frC]) rfl ⟨rfl, ?_⟩
  repeat (refine Below.setCell ?_ (by first | (simp; done) | (simp; omega)) _)
  exact (((Below.refl _ _).alloc (Nat.le_refl _) _).alloc (by simp) _).alloc (by simp; omega) _

set_option maxHeartbeats 1000000 in
theorem eqFr_same (r : Fr) (w : World) : Calls Try.prog 55 #[.agg (frC r).toArray, .agg (frC r).toArray] w fun e w' => e = .returned (.bool true) ∧ Below w.heap.size w w' := by
  have h0 : (r.k != r.k) = false := by simp
  have h1 : (r.s.toList != r.s.toList) = false := by simp
  have h2 : (r.st != r.st) = false := by simp
  unfold frC
  go_enter Try.func55, Try.ntmps55
  go_wp2
  go_ret
  exact ⟨rfl, ((Below.refl _ _).alloc (Nat.le_refl _) _).alloc (by simp) _⟩

def frEqB (x y : Fr) : Bool := ((x.k == y.k) && ((x.s.toList == y.s.toList) && (x.st == y.st)))
theorem frEqB_self (x : Fr) : frEqB x x = true := by simp [frEqB]
theorem frEqB_true {x y : Fr} (h : frEqB x y = true) : x = y := by
  unfold frEqB at h
  simp only [Bool.and_eq_true] at h
  obtain ⟨h0, h1, h2⟩ := h
  obtain ⟨a0, a1, a2⟩ := x
  obtain ⟨b0, b1, b2⟩ := y
  simp only [beq_iff_eq] at h0 h2
  replace h1 := list_bytes h1
  replace h1 : a1 = b1 := h1
  subst h0 h1 h2
  rfl
theorem Try.frStruct : Try.prog.underlying 33 = some (.struct (Try.prog.fieldsOf 33)) := by kernel_rfl
theorem Try.frStood : Try.prog.stoodInHeld 33 = false := by kernel_rfl
theorem Try.frGuard : Try.prog.eqGuardType Try.prog.depth 33 = false := by kernel_rfl
theorem Try.frFields : ((Try.prog.fieldsOf 33).toList.map fun f => (f.type, f.offset, decide (f.name = "_"))) = [(3, 0, false), (9, 1, false), (3, 2, false)] := by kernel_rfl
theorem fr_parts {α : Type} {g : Field → α} {fs : List Field} {a0 a1 a2 : α} (h : fs.map g = [a0, a1, a2]) : ∃ f0 f1 f2, fs = [f0, f1, f2] ∧ g f0 = a0 ∧ g f1 = a1 ∧ g f2 = a2 := by
  match fs, h with
  | [f0, f1, f2], h =>
    simp only [List.map_cons, List.map_nil, List.cons.injEq, and_true] at h
    exact ⟨f0, f1, f2, rfl, h⟩
theorem fr_equal (x y : Fr) (w : World) : (Op.equalIn 10000 33 (.agg (frC x).toArray) (.agg (frC y).toArray)).run Try.prog w = .ok (frEqB x y) w := by
  rw [run_equalIn_struct w 9999 _ _ _ Try.frStruct Try.frStood]
  obtain ⟨f0, f1, f2, hfs, h0, h1, h2⟩ := fr_parts Try.frFields
  rw [hfs]
  rw [eqFields_cons 9999 _ _ f0 _ _ _ (.int .i64 x.k) (.int .i64 y.k) (x.k == y.k) w h0 (run_part_plain w Try.intKey rfl) (run_part_plain w Try.intKey rfl) (run_equalIn_int w _ _ _ _ _ _ Try.underlying3)]
  rw [eqFields_cons 9999 _ _ f1 _ _ _ (.string x.s) (.string y.s) (x.s.toList == y.s.toList) w h1 (run_part_plain w Try.strKey rfl) (run_part_plain w Try.strKey rfl) (run_equalIn_string w _ _ _ _ Try.underlying9)]
  rw [eqFields_cons 9999 _ _ f2 _ _ _ (.int .i64 x.st) (.int .i64 y.st) (x.st == y.st) w h2 (run_part_plain w Try.intKey rfl) (run_part_plain w Try.intKey rfl) (run_equalIn_int w _ _ _ _ _ _ Try.underlying3)]
  unfold frEqB
  generalize (x.k == y.k) = b0
  generalize (x.s.toList == y.s.toList) = b1
  generalize (x.st == y.st) = b2
  cases b0 <;> cases b1 <;> cases b2 <;> simp [Op.eqFields, Sem.run_pure]
theorem fr_guard (op : BinOp) (a b : Operand) (x y : Fr) (w : World) : (eqGuard op 33 a b (.agg (frC x).toArray) (.agg (frC y).toArray)).run Try.prog w = .ok () w := run_eqGuard_agg w op _ a b _ _ Try.frGuard

end Go.Proofs.Ytcelkmphdeaaeaa
