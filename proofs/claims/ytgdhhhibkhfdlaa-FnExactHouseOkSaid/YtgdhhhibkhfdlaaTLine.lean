/- The struct Line: its cells, its memory; what the exact laws ask of it; two compared as structs. (By gen_struct.py.) -/
import Derived.Test.YtgdhhhibkhfdlaaStr
import Derived.BigQuiet
import Derived.Deep.QuietTactic
namespace Go.Proofs.Ytgdhhhibkhfdlaa
open Go.RowKit
set_option maxRecDepth 100000
set_option linter.unusedVariables false

structure Ln where
  sock : Int
  db : ByteArray
  gen : Int
  st : Int
  since : Int
  asker : Int
  lease : Int

def lnC (r : Ln) : List Value := [.int .i64 r.sock, .string r.db, .int .i64 r.gen, .int .i64 r.st, .int .i64 r.since, .int .i64 r.asker, .int .i64 r.lease]
def lnR : Rep Ln := (Rep.int.pair ((strR markText).pair (Rep.int.pair (Rep.int.pair (Rep.int.pair (Rep.int.pair Rep.int)))))).iso (fun r => (r.sock, r.db, r.gen, r.st, r.since, r.asker, r.lease)) (fun p => ⟨p.1, p.2.1, p.2.2.1, p.2.2.2.1, p.2.2.2.2.1, p.2.2.2.2.2.1, p.2.2.2.2.2.2⟩)

theorem ln_cells {w : World} {B : Nat} {cs : List Value} {r : Ln} (h : lnR.at_ w B cs r) : cs = lnC r := by
  have hl : cs.length = 7 := Rep.len lnR h
  obtain ⟨h0, h1, h2, h3, h4, h5, h6⟩ := h
  match cs, hl with
  | [c0, c1, c2, c3, c4, c5, c6], _ =>
    replace h0 : [c0] = [.int .i64 r.sock] := h0
    replace h1 : [c1] = [.string r.db] := h1
    replace h2 : [c2] = [.int .i64 r.gen] := h2
    replace h3 : [c3] = [.int .i64 r.st] := h3
    replace h4 : [c4] = [.int .i64 r.since] := h4
    replace h5 : [c5] = [.int .i64 r.asker] := h5
    replace h6 : [c6] = [.int .i64 r.lease] := h6
    injection h0 with h0
    injection h1 with h1
    injection h2 with h2
    injection h3 with h3
    injection h4 with h4
    injection h5 with h5
    injection h6 with h6
    subst h0 h1 h2 h3 h4 h5 h6
    rfl
theorem ln_own (w : World) (base : Nat) (r : Ln) : lnR.own w base (lnC r) r [] :=
  ⟨[], [], ⟨rfl, rfl⟩, ⟨[], [], ⟨rfl, rfl⟩, ⟨[], [], ⟨rfl, rfl⟩, ⟨[], [], ⟨rfl, rfl⟩, ⟨[], [], ⟨rfl, rfl⟩, ⟨[], [], ⟨rfl, rfl⟩, ⟨rfl, rfl⟩, rfl, by simp⟩, rfl, by simp⟩, rfl, by simp⟩, rfl, by simp⟩, rfl, by simp⟩, rfl, by simp⟩
theorem ln_at (w : World) (B : Nat) (r : Ln) : lnR.at_ w B (lnC r) r := ⟨rfl, rfl, rfl, rfl, rfl, rfl, rfl⟩
theorem ln_box {w : World} {g t : Nat} {r : Ln} (h : w.heap[g]? = some (.cells (lnC r).toArray t (0, 0))) : w.cell? ⟨g, 0, none⟩ = some (.int .i64 r.sock) ∧ w.cell? ⟨g, 1, none⟩ = some (.string r.db) ∧ w.cell? ⟨g, 2, none⟩ = some (.int .i64 r.gen) ∧ w.cell? ⟨g, 3, none⟩ = some (.int .i64 r.st) ∧ w.cell? ⟨g, 4, none⟩ = some (.int .i64 r.since) ∧ w.cell? ⟨g, 5, none⟩ = some (.int .i64 r.asker) ∧ w.cell? ⟨g, 6, none⟩ = some (.int .i64 r.lease) := ⟨var_cell h 0, var_cell h 1, var_cell h 2, var_cell h 3, var_cell h 4, var_cell h 5, var_cell h 6⟩

def OkLn (r : Ln) : Prop := (Lit.int .i64 r.sock).wf = true ∧ r.db.size ≤ maxLen ∧ (Lit.int .i64 r.gen).wf = true ∧ (Lit.int .i64 r.st).wf = true ∧ (Lit.int .i64 r.since).wf = true ∧ (Lit.int .i64 r.asker).wf = true ∧ (Lit.int .i64 r.lease).wf = true

open Go.ChangeShapes Go.WideShapes Go.Deep in
theorem ln_opens : Rep.Opens Try.prog 208 lnR OkLn := by
  intro H enc w base spare held fuel cs x h
  obtain ⟨xs, n, rfl, _, hl, hxl, hf⟩ := DataW.trod_struct Try.underlying208 h
  have hl' : cs.length = 7 := hl.trans (by kernel_rfl)
  obtain ⟨y0, h0, k0⟩ := (Rep.Opens.int Try.underlying3).field (hf 0 _ rfl) (by rw [hxl]; decide) (sz := 1) (by kernel_rfl)
  obtain ⟨y1, h1, k1⟩ := (Rep.Opens.str markText Try.underlying9).field (hf 1 _ rfl) (by rw [hxl]; decide) (sz := 1) (by kernel_rfl)
  obtain ⟨y2, h2, k2⟩ := (Rep.Opens.int Try.underlying3).field (hf 2 _ rfl) (by rw [hxl]; decide) (sz := 1) (by kernel_rfl)
  obtain ⟨y3, h3, k3⟩ := (Rep.Opens.int Try.underlying3).field (hf 3 _ rfl) (by rw [hxl]; decide) (sz := 1) (by kernel_rfl)
  obtain ⟨y4, h4, k4⟩ := (Rep.Opens.int Try.underlying3).field (hf 4 _ rfl) (by rw [hxl]; decide) (sz := 1) (by kernel_rfl)
  obtain ⟨y5, h5, k5⟩ := (Rep.Opens.int Try.underlying3).field (hf 5 _ rfl) (by rw [hxl]; decide) (sz := 1) (by kernel_rfl)
  obtain ⟨y6, h6, k6⟩ := (Rep.Opens.int Try.underlying3).field (hf 6 _ rfl) (by rw [hxl]; decide) (sz := 1) (by kernel_rfl)
  match cs, hl' with
  | [c0, c1, c2, c3, c4, c5, c6], _ => exact ⟨⟨y0, y1, y2, y3, y4, y5, y6⟩, ⟨h0, h1, h2, h3, h4, h5, h6⟩, k0, k1, k2, k3, k4, k5, k6⟩

theorem Try.infoLn : (Try.prog.info? 52).map (fun i => (i.zero, i.size)) = some (some (.agg #[.int .i64 0, .string ⟨#[]⟩, .int .i64 0, .int .i64 0, .int .i64 0, .int .i64 0, .int .i64 0]), 7) := by kernel_rfl

set_option maxHeartbeats 1000000 in
theorem szLn_room (r : Ln) (left : Nat) (w : World) (g0 : r.db.size ≤ maxLen) (hl : left ≤ 1048576) :
    Calls Try.prog 183 #[.agg (lnC r).toArray, .int .i64 left] w (RoomB (r.db.size ≤ 1048576) left w) := by
  unfold maxLen at g0
  by_cases h0 : r.db.size ≤ left
  · have h0' : ¬ ((left : Int) - (r.db.size : Int) < 0) := by omega
    unfold lnC
    go_enter Try.func183, Try.ntmps183
    go_wp2
    go_ret
    exact ⟨.inl ⟨left - r.db.size, by omega, by omega, by go_num⟩, (Below.refl _ _).alloc (Nat.le_refl _) _⟩
  · have h0' : (left : Int) - (r.db.size : Int) < 0 := by omega
    unfold lnC
    go_enter Try.func183, Try.ntmps183
    go_wp2
    go_ret
    exact ⟨.inr rfl, (Below.refl _ _).alloc (Nat.le_refl _) _⟩

set_option maxHeartbeats 1000000 in
theorem toLn_any (r : Ln) (w : World) : Calls Try.prog 186 #[.agg (lnC r).toArray] w fun e w' => e = .returned (.agg (lnC r).toArray) ∧ Below w.heap.size w w' := by
  unfold lnC
  go_enter Try.func186, Try.ntmps186
  go_wp2
  refine bodyPost_ret (v := .agg (lnC r).toArray) (by simp [results, Try.results186, go_sem, lnC]) rfl ⟨rfl, ?_⟩
  repeat (refine Below.setCell ?_ (by first | (simp; done) | (simp; omega)) _)
  exact (((Below.refl _ _).alloc (Nat.le_refl _) _).alloc (by simp) _).alloc (by simp; omega) _

set_option maxHeartbeats 1000000 in
theorem eqLn_same (r : Ln) (w : World) : Calls Try.prog 132 #[.agg (lnC r).toArray, .agg (lnC r).toArray] w fun e w' => e = .returned (.bool true) ∧ Below w.heap.size w w' := by
  have h0 : (r.sock != r.sock) = false := by simp
  have h1 : (r.db.toList != r.db.toList) = false := by simp
  have h2 : (r.gen != r.gen) = false := by simp
  have h3 : (r.st != r.st) = false := by simp
  have h4 : (r.since != r.since) = false := by simp
  have h5 : (r.asker != r.asker) = false := by simp
  have h6 : (r.lease != r.lease) = false := by simp
  unfold lnC
  go_enter Try.func132, Try.ntmps132
  go_wp2
  go_ret
  exact ⟨rfl, ((Below.refl _ _).alloc (Nat.le_refl _) _).alloc (by simp) _⟩

def lnEqB (x y : Ln) : Bool := ((x.sock == y.sock) && ((x.db.toList == y.db.toList) && ((x.gen == y.gen) && ((x.st == y.st) && ((x.since == y.since) && ((x.asker == y.asker) && (x.lease == y.lease)))))))
theorem lnEqB_self (x : Ln) : lnEqB x x = true := by simp [lnEqB]
theorem lnEqB_true {x y : Ln} (h : lnEqB x y = true) : x = y := by
  unfold lnEqB at h
  simp only [Bool.and_eq_true] at h
  obtain ⟨h0, h1, h2, h3, h4, h5, h6⟩ := h
  obtain ⟨a0, a1, a2, a3, a4, a5, a6⟩ := x
  obtain ⟨b0, b1, b2, b3, b4, b5, b6⟩ := y
  simp only [beq_iff_eq] at h0 h2 h3 h4 h5 h6
  replace h1 := list_bytes h1
  replace h1 : a1 = b1 := h1
  subst h0 h1 h2 h3 h4 h5 h6
  rfl
theorem Try.lnStruct : Try.prog.underlying 52 = some (.struct (Try.prog.fieldsOf 52)) := by kernel_rfl
theorem Try.lnStood : Try.prog.stoodInHeld 52 = false := by kernel_rfl
theorem Try.lnGuard : Try.prog.eqGuardType Try.prog.depth 52 = false := by kernel_rfl
theorem Try.lnFields : ((Try.prog.fieldsOf 52).toList.map fun f => (f.type, f.offset, decide (f.name = "_"))) = [(3, 0, false), (9, 1, false), (3, 2, false), (3, 3, false), (3, 4, false), (3, 5, false), (3, 6, false)] := by kernel_rfl
theorem ln_parts {α : Type} {g : Field → α} {fs : List Field} {a0 a1 a2 a3 a4 a5 a6 : α} (h : fs.map g = [a0, a1, a2, a3, a4, a5, a6]) : ∃ f0 f1 f2 f3 f4 f5 f6, fs = [f0, f1, f2, f3, f4, f5, f6] ∧ g f0 = a0 ∧ g f1 = a1 ∧ g f2 = a2 ∧ g f3 = a3 ∧ g f4 = a4 ∧ g f5 = a5 ∧ g f6 = a6 := by
  match fs, h with
  | [f0, f1, f2, f3, f4, f5, f6], h =>
    simp only [List.map_cons, List.map_nil, List.cons.injEq, and_true] at h
    exact ⟨f0, f1, f2, f3, f4, f5, f6, rfl, h⟩
theorem ln_equal (x y : Ln) (w : World) : (Op.equalIn 10000 52 (.agg (lnC x).toArray) (.agg (lnC y).toArray)).run Try.prog w = .ok (lnEqB x y) w := by
  rw [run_equalIn_struct w 9999 _ _ _ Try.lnStruct Try.lnStood]
  obtain ⟨f0, f1, f2, f3, f4, f5, f6, hfs, h0, h1, h2, h3, h4, h5, h6⟩ := ln_parts Try.lnFields
  rw [hfs]
  rw [eqFields_cons 9999 _ _ f0 _ _ _ (.int .i64 x.sock) (.int .i64 y.sock) (x.sock == y.sock) w h0 (run_part_plain w Try.intKey rfl) (run_part_plain w Try.intKey rfl) (run_equalIn_int w _ _ _ _ _ _ Try.underlying3)]
  rw [eqFields_cons 9999 _ _ f1 _ _ _ (.string x.db) (.string y.db) (x.db.toList == y.db.toList) w h1 (run_part_plain w Try.strKey rfl) (run_part_plain w Try.strKey rfl) (run_equalIn_string w _ _ _ _ Try.underlying9)]
  rw [eqFields_cons 9999 _ _ f2 _ _ _ (.int .i64 x.gen) (.int .i64 y.gen) (x.gen == y.gen) w h2 (run_part_plain w Try.intKey rfl) (run_part_plain w Try.intKey rfl) (run_equalIn_int w _ _ _ _ _ _ Try.underlying3)]
  rw [eqFields_cons 9999 _ _ f3 _ _ _ (.int .i64 x.st) (.int .i64 y.st) (x.st == y.st) w h3 (run_part_plain w Try.intKey rfl) (run_part_plain w Try.intKey rfl) (run_equalIn_int w _ _ _ _ _ _ Try.underlying3)]
  rw [eqFields_cons 9999 _ _ f4 _ _ _ (.int .i64 x.since) (.int .i64 y.since) (x.since == y.since) w h4 (run_part_plain w Try.intKey rfl) (run_part_plain w Try.intKey rfl) (run_equalIn_int w _ _ _ _ _ _ Try.underlying3)]
  rw [eqFields_cons 9999 _ _ f5 _ _ _ (.int .i64 x.asker) (.int .i64 y.asker) (x.asker == y.asker) w h5 (run_part_plain w Try.intKey rfl) (run_part_plain w Try.intKey rfl) (run_equalIn_int w _ _ _ _ _ _ Try.underlying3)]
  rw [eqFields_cons 9999 _ _ f6 _ _ _ (.int .i64 x.lease) (.int .i64 y.lease) (x.lease == y.lease) w h6 (run_part_plain w Try.intKey rfl) (run_part_plain w Try.intKey rfl) (run_equalIn_int w _ _ _ _ _ _ Try.underlying3)]
  unfold lnEqB
  generalize (x.sock == y.sock) = b0
  generalize (x.db.toList == y.db.toList) = b1
  generalize (x.gen == y.gen) = b2
  generalize (x.st == y.st) = b3
  generalize (x.since == y.since) = b4
  generalize (x.asker == y.asker) = b5
  generalize (x.lease == y.lease) = b6
  cases b0 <;> cases b1 <;> cases b2 <;> cases b3 <;> cases b4 <;> cases b5 <;> cases b6 <;> simp [Op.eqFields, Sem.run_pure]
theorem ln_guard (op : BinOp) (a b : Operand) (x y : Ln) (w : World) : (eqGuard op 52 a b (.agg (lnC x).toArray) (.agg (lnC y).toArray)).run Try.prog w = .ok () w := run_eqGuard_agg w op _ a b _ _ Try.lnGuard

end Go.Proofs.Ytgdhhhibkhfdlaa
