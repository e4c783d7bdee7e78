/- The struct Hand: its cells, its memory; what the exact laws ask of it; two compared as structs. (By gen_struct.py.) -/
import Derived.Test.YtgdhhhibkhfdlaaStr
import Derived.BigQuiet
import Derived.Deep.QuietTactic
namespace Go.Proofs.Ytgdhhhibkhfdlaa
open Go.RowKit
set_option maxRecDepth 100000
set_option linter.unusedVariables false

structure Hd where
  id : Int
  no : Int
  acked : Int
  since : Int

def hdC (r : Hd) : List Value := [.int .i64 r.id, .int .i64 r.no, .int .i64 r.acked, .int .i64 r.since]
def hdR : Rep Hd := (Rep.int.pair (Rep.int.pair (Rep.int.pair Rep.int))).iso (fun r => (r.id, r.no, r.acked, r.since)) (fun p => ⟨p.1, p.2.1, p.2.2.1, p.2.2.2⟩)

theorem hd_cells {w : World} {B : Nat} {cs : List Value} {r : Hd} (h : hdR.at_ w B cs r) : cs = hdC r := by
  have hl : cs.length = 4 := Rep.len hdR h
  obtain ⟨h0, h1, h2, h3⟩ := h
  match cs, hl with
  | [c0, c1, c2, c3], _ =>
    replace h0 : [c0] = [.int .i64 r.id] := h0
    replace h1 : [c1] = [.int .i64 r.no] := h1
    replace h2 : [c2] = [.int .i64 r.acked] := h2
    replace h3 : [c3] = [.int .i64 r.since] := h3
    injection h0 with h0
    injection h1 with h1
    injection h2 with h2
    injection h3 with h3
    subst h0 h1 h2 h3
    rfl
theorem hd_own (w : World) (base : Nat) (r : Hd) : hdR.own w base (hdC r) r [] :=
  ⟨[], [], ⟨rfl, rfl⟩, ⟨[], [], ⟨rfl, rfl⟩, ⟨[], [], ⟨rfl, rfl⟩, ⟨rfl, rfl⟩, rfl, by simp⟩, rfl, by simp⟩, rfl, by simp⟩
theorem hd_at (w : World) (B : Nat) (r : Hd) : hdR.at_ w B (hdC r) r := ⟨rfl, rfl, rfl, rfl⟩
theorem hd_box {w : World} {g t : Nat} {r : Hd} (h : w.heap[g]? = some (.cells (hdC r).toArray t (0, 0))) : w.cell? ⟨g, 0, none⟩ = some (.int .i64 r.id) ∧ w.cell? ⟨g, 1, none⟩ = some (.int .i64 r.no) ∧ w.cell? ⟨g, 2, none⟩ = some (.int .i64 r.acked) ∧ w.cell? ⟨g, 3, none⟩ = some (.int .i64 r.since) := ⟨var_cell h 0, var_cell h 1, var_cell h 2, var_cell h 3⟩

def OkHd (r : Hd) : Prop := (Lit.int .i64 r.id).wf = true ∧ (Lit.int .i64 r.no).wf = true ∧ (Lit.int .i64 r.acked).wf = true ∧ (Lit.int .i64 r.since).wf = true

open Go.ChangeShapes Go.WideShapes Go.Deep in
theorem hd_opens : Rep.Opens Try.prog 90 hdR OkHd := by
  intro H enc w base spare held fuel cs x h
  obtain ⟨xs, n, rfl, _, hl, hxl, hf⟩ := DataW.trod_struct Try.underlying90 h
  have hl' : cs.length = 4 := hl.trans (by kernel_rfl)
  obtain ⟨y0, h0, k0⟩ := (Rep.Opens.int Try.underlying3).field (hf 0 _ rfl) (by rw [hxl]; decide) (sz := 1) (by kernel_rfl)
  obtain ⟨y1, h1, k1⟩ := (Rep.Opens.int Try.underlying3).field (hf 1 _ rfl) (by rw [hxl]; decide) (sz := 1) (by kernel_rfl)
  obtain ⟨y2, h2, k2⟩ := (Rep.Opens.int Try.underlying3).field (hf 2 _ rfl) (by rw [hxl]; decide) (sz := 1) (by kernel_rfl)
  obtain ⟨y3, h3, k3⟩ := (Rep.Opens.int Try.underlying3).field (hf 3 _ rfl) (by rw [hxl]; decide) (sz := 1) (by kernel_rfl)
  match cs, hl' with
  | [c0, c1, c2, c3], _ => exact ⟨⟨y0, y1, y2, y3⟩, ⟨h0, h1, h2, h3⟩, k0, k1, k2, k3⟩

theorem Try.infoHd : (Try.prog.info? 68).map (fun i => (i.zero, i.size)) = some (some (.agg #[.int .i64 0, .int .i64 0, .int .i64 0, .int .i64 0]), 4) := by kernel_rfl

set_option maxHeartbeats 1000000 in
theorem toHd_any (r : Hd) (w : World) : Calls Try.prog 139 #[.agg (hdC r).toArray] w fun e w' => e = .returned (.agg (hdC r).toArray) ∧ Below w.heap.size w w' := by
  unfold hdC
  go_enter Try.func139, Try.ntmps139
  go_wp2
  refine bodyPost_ret (v := .agg (hdC r).toArray) (by simp [results, Try.results139, go_sem, hdC]) rfl ⟨rfl, ?_⟩
  repeat (refine Below.setCell ?_ (by first | (simp; done) | (simp; omega)) _)
  exact (((Below.refl _ _).alloc (Nat.le_refl _) _).alloc (by simp) _).alloc (by simp; omega) _

set_option maxHeartbeats 1000000 in
theorem eqHd_same (r : Hd) (w : World) : Calls Try.prog 143 #[.agg (hdC r).toArray, .agg (hdC r).toArray] w fun e w' => e = .returned (.bool true) ∧ Below w.heap.size w w' := by
  have h0 : (r.id != r.id) = false := by simp
  have h1 : (r.no != r.no) = false := by simp
  have h2 : (r.acked != r.acked) = false := by simp
  have h3 : (r.since != r.since) = false := by simp
  unfold hdC
  go_enter Try.func143, Try.ntmps143
  go_wp2
  go_ret
  exact ⟨rfl, ((Below.refl _ _).alloc (Nat.le_refl _) _).alloc (by simp) _⟩

def hdEqB (x y : Hd) : Bool := ((x.id == y.id) && ((x.no == y.no) && ((x.acked == y.acked) && (x.since == y.since))))
theorem hdEqB_self (x : Hd) : hdEqB x x = true := by simp [hdEqB]
theorem hdEqB_true {x y : Hd} (h : hdEqB x y = true) : x = y := by
  unfold hdEqB at h
  simp only [Bool.and_eq_true] at h
  obtain ⟨h0, h1, h2, h3⟩ := h
  obtain ⟨a0, a1, a2, a3⟩ := x
  obtain ⟨b0, b1, b2, b3⟩ := y
  simp only [beq_iff_eq] at h0 h1 h2 h3
  subst h0 h1 h2 h3
  rfl
theorem Try.hdStruct : Try.prog.underlying 68 = some (.struct (Try.prog.fieldsOf 68)) := by kernel_rfl
theorem Try.hdStood : Try.prog.stoodInHeld 68 = false := by kernel_rfl
theorem Try.hdGuard : Try.prog.eqGuardType Try.prog.depth 68 = false := by kernel_rfl
theorem Try.hdFields : ((Try.prog.fieldsOf 68).toList.map fun f => (f.type, f.offset, decide (f.name = "_"))) = [(3, 0, false), (3, 1, false), (3, 2, false), (3, 3, false)] := by kernel_rfl
theorem hd_parts {α : Type} {g : Field → α} {fs : List Field} {a0 a1 a2 a3 : α} (h : fs.map g = [a0, a1, a2, a3]) : ∃ f0 f1 f2 f3, fs = [f0, f1, f2, f3] ∧ g f0 = a0 ∧ g f1 = a1 ∧ g f2 = a2 ∧ g f3 = a3 := by
  match fs, h with
  | [f0, f1, f2, f3], h =>
    simp only [List.map_cons, List.map_nil, List.cons.injEq, and_true] at h
    exact ⟨f0, f1, f2, f3, rfl, h⟩
theorem hd_equal (x y : Hd) (w : World) : (Op.equalIn 10000 68 (.agg (hdC x).toArray) (.agg (hdC y).toArray)).run Try.prog w = .ok (hdEqB x y) w := by
  rw [run_equalIn_struct w 9999 _ _ _ Try.hdStruct Try.hdStood]
  obtain ⟨f0, f1, f2, f3, hfs, h0, h1, h2, h3⟩ := hd_parts Try.hdFields
  rw [hfs]
  rw [eqFields_cons 9999 _ _ f0 _ _ _ (.int .i64 x.id) (.int .i64 y.id) (x.id == y.id) w h0 (run_part_plain w Try.intKey rfl) (run_part_plain w Try.intKey rfl) (run_equalIn_int w _ _ _ _ _ _ Try.underlying3)]
  rw [eqFields_cons 9999 _ _ f1 _ _ _ (.int .i64 x.no) (.int .i64 y.no) (x.no == y.no) w h1 (run_part_plain w Try.intKey rfl) (run_part_plain w Try.intKey rfl) (run_equalIn_int w _ _ _ _ _ _ Try.underlying3)]
  rw [eqFields_cons 9999 _ _ f2 _ _ _ (.int .i64 x.acked) (.int .i64 y.acked) (x.acked == y.acked) w h2 (run_part_plain w Try.intKey rfl) (run_part_plain w Try.intKey rfl) (run_equalIn_int w _ _ _ _ _ _ Try.underlying3)]
  rw [eqFields_cons 9999 _ _ f3 _ _ _ (.int .i64 x.since) (.int .i64 y.since) (x.since == y.since) w h3 (run_part_plain w Try.intKey rfl) (run_part_plain w Try.intKey rfl) (run_equalIn_int w _ _ _ _ _ _ Try.underlying3)]
  unfold hdEqB
  generalize (x.id == y.id) = b0
  generalize (x.no == y.no) = b1
  generalize (x.acked == y.acked) = b2
  generalize (x.since == y.since) = b3
  cases b0 <;> cases b1 <;> cases b2 <;> cases b3 <;> simp [Op.eqFields, Sem.run_pure]
theorem hd_guard (op : BinOp) (a b : Operand) (x y : Hd) (w : World) : (eqGuard op 68 a b (.agg (hdC x).toArray) (.agg (hdC y).toArray)).run Try.prog w = .ok () w := run_eqGuard_agg w op _ a b _ _ Try.hdGuard

end Go.Proofs.Ytgdhhhibkhfdlaa
