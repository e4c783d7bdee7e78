/- The struct Asker: its cells, its memory; what the exact laws ask of it; two compared as structs. (By gen_struct.py.) -/
import Derived.Test.YtgdhhhibkhfdlaaStr
import Derived.BigQuiet
import Derived.Deep.QuietTactic
namespace Go.Proofs.Ytgdhhhibkhfdlaa
open Go.RowKit
set_option maxRecDepth 100000
set_option linter.unusedVariables false

structure Ak where
  sock : Int
  db : ByteArray
  st : Int
  ticket : Int
  since : Int
  q : ByteArray
  line : Int
  lease : Int

def akC (r : Ak) : List Value := [.int .i64 r.sock, .string r.db, .int .i64 r.st, .int .i64 r.ticket, .int .i64 r.since, .string r.q, .int .i64 r.line, .int .i64 r.lease]
def akR : Rep Ak := (Rep.int.pair ((strR markText).pair (Rep.int.pair (Rep.int.pair (Rep.int.pair ((strR markText).pair (Rep.int.pair Rep.int))))))).iso (fun r => (r.sock, r.db, r.st, r.ticket, r.since, r.q, r.line, r.lease)) (fun p => ⟨p.1, p.2.1, p.2.2.1, p.2.2.2.1, p.2.2.2.2.1, p.2.2.2.2.2.1, p.2.2.2.2.2.2.1, p.2.2.2.2.2.2.2⟩)

theorem ak_cells {w : World} {B : Nat} {cs : List Value} {r : Ak} (h : akR.at_ w B cs r) : cs = akC r := by
  have hl : cs.length = 8 := Rep.len akR h
  obtain ⟨h0, h1, h2, h3, h4, h5, h6, h7⟩ := h
  match cs, hl with
  | [c0, c1, c2, c3, c4, c5, c6, c7], _ =>
    replace h0 : [c0] = [.int .i64 r.sock] := h0
    replace h1 : [c1] = [.string r.db] := h1
    replace h2 : [c2] = [.int .i64 r.st] := h2
    replace h3 : [c3] = [.int .i64 r.ticket] := h3
    replace h4 : [c4] = [.int .i64 r.since] := h4
    replace h5 : [c5] = [.string r.q] := h5
    replace h6 : [c6] = [.int .i64 r.line] := h6
    replace h7 : [c7] = [.int .i64 r.lease] := h7
    injection h0 with h0
    injection h1 with h1
    injection h2 with h2
    injection h3 with h3
    injection h4 with h4
    injection h5 with h5
    injection h6 with h6
    injection h7 with h7
    subst h0 h1 h2 h3 h4 h5 h6 h7
    rfl
theorem ak_own (w : World) (base : Nat) (r : Ak) : akR.own w base (akC r) r [] :=
  ⟨[], [], ⟨rfl, rfl⟩, ⟨[], [], ⟨rfl, rfl⟩, ⟨[], [], ⟨rfl, rfl⟩, ⟨[], [], ⟨rfl, rfl⟩, ⟨[], [], ⟨rfl, rfl⟩, ⟨[], [], ⟨rfl, rfl⟩, ⟨[], [], ⟨rfl, rfl⟩, ⟨rfl, rfl⟩, rfl, by simp⟩, rfl, by simp⟩, rfl, by simp⟩, rfl, by simp⟩, rfl, by simp⟩, rfl, by simp⟩, rfl, by simp⟩
theorem ak_at (w : World) (B : Nat) (r : Ak) : akR.at_ w B (akC r) r := ⟨rfl, rfl, rfl, rfl, rfl, rfl, rfl, rfl⟩
theorem ak_box {w : World} {g t : Nat} {r : Ak} (h : w.heap[g]? = some (.cells (akC r).toArray t (0, 0))) : w.cell? ⟨g, 0, none⟩ = some (.int .i64 r.sock) ∧ w.cell? ⟨g, 1, none⟩ = some (.string r.db) ∧ w.cell? ⟨g, 2, none⟩ = some (.int .i64 r.st) ∧ w.cell? ⟨g, 3, none⟩ = some (.int .i64 r.ticket) ∧ w.cell? ⟨g, 4, none⟩ = some (.int .i64 r.since) ∧ w.cell? ⟨g, 5, none⟩ = some (.string r.q) ∧ w.cell? ⟨g, 6, none⟩ = some (.int .i64 r.line) ∧ w.cell? ⟨g, 7, none⟩ = some (.int .i64 r.lease) := ⟨var_cell h 0, var_cell h 1, var_cell h 2, var_cell h 3, var_cell h 4, var_cell h 5, var_cell h 6, var_cell h 7⟩

def OkAk (r : Ak) : Prop := (Lit.int .i64 r.sock).wf = true ∧ r.db.size ≤ maxLen ∧ (Lit.int .i64 r.st).wf = true ∧ (Lit.int .i64 r.ticket).wf = true ∧ (Lit.int .i64 r.since).wf = true ∧ r.q.size ≤ maxLen ∧ (Lit.int .i64 r.line).wf = true ∧ (Lit.int .i64 r.lease).wf = true

open Go.ChangeShapes Go.WideShapes Go.Deep in
theorem ak_opens : Rep.Opens Try.prog 206 akR OkAk := by
  intro H enc w base spare held fuel cs x h
  obtain ⟨xs, n, rfl, _, hl, hxl, hf⟩ := DataW.trod_struct Try.underlying206 h
  have hl' : cs.length = 8 := hl.trans (by kernel_rfl)
  obtain ⟨y0, h0, k0⟩ := (Rep.Opens.int Try.underlying3).field (hf 0 _ rfl) (by rw [hxl]; decide) (sz := 1) (by kernel_rfl)
  obtain ⟨y1, h1, k1⟩ := (Rep.Opens.str markText Try.underlying9).field (hf 1 _ rfl) (by rw [hxl]; decide) (sz := 1) (by kernel_rfl)
  obtain ⟨y2, h2, k2⟩ := (Rep.Opens.int Try.underlying3).field (hf 2 _ rfl) (by rw [hxl]; decide) (sz := 1) (by kernel_rfl)
  obtain ⟨y3, h3, k3⟩ := (Rep.Opens.int Try.underlying3).field (hf 3 _ rfl) (by rw [hxl]; decide) (sz := 1) (by kernel_rfl)
  obtain ⟨y4, h4, k4⟩ := (Rep.Opens.int Try.underlying3).field (hf 4 _ rfl) (by rw [hxl]; decide) (sz := 1) (by kernel_rfl)
  obtain ⟨y5, h5, k5⟩ := (Rep.Opens.str markText Try.underlying9).field (hf 5 _ rfl) (by rw [hxl]; decide) (sz := 1) (by kernel_rfl)
  obtain ⟨y6, h6, k6⟩ := (Rep.Opens.int Try.underlying3).field (hf 6 _ rfl) (by rw [hxl]; decide) (sz := 1) (by kernel_rfl)
  obtain ⟨y7, h7, k7⟩ := (Rep.Opens.int Try.underlying3).field (hf 7 _ rfl) (by rw [hxl]; decide) (sz := 1) (by kernel_rfl)
  match cs, hl' with
  | [c0, c1, c2, c3, c4, c5, c6, c7], _ => exact ⟨⟨y0, y1, y2, y3, y4, y5, y6, y7⟩, ⟨h0, h1, h2, h3, h4, h5, h6, h7⟩, k0, k1, k2, k3, k4, k5, k6, k7⟩

theorem Try.infoAk : (Try.prog.info? 50).map (fun i => (i.zero, i.size)) = some (some (.agg #[.int .i64 0, .string ⟨#[]⟩, .int .i64 0, .int .i64 0, .int .i64 0, .string ⟨#[]⟩, .int .i64 0, .int .i64 0]), 8) := by kernel_rfl

set_option maxHeartbeats 2000000 in
theorem szAk_room (r : Ak) (left : Nat) (w : World) (g0 : r.db.size ≤ maxLen) (g1 : r.q.size ≤ maxLen) (hl : left ≤ 1048576) :
    Calls Try.prog 182 #[.agg (akC r).toArray, .int .i64 left] w (RoomB (r.db.size ≤ 1048576 ∧ r.q.size ≤ 1048576) left w) := by
  unfold maxLen at g0 g1
  by_cases h0 : r.db.size ≤ left
  · have h0' : ¬ ((left : Int) - (r.db.size : Int) < 0) := by omega
    by_cases h1 : r.db.size + r.q.size ≤ left
    · have h1' : ¬ ((left : Int) - (r.db.size : Int) - (r.q.size : Int) < 0) := by omega
      unfold akC
      go_enter Try.func182, Try.ntmps182
      go_wp2
      go_ret
      exact ⟨.inl ⟨left - r.db.size - r.q.size, by omega, ⟨by omega, by omega⟩, by go_num⟩, (Below.refl _ _).alloc (Nat.le_refl _) _⟩
    · have h1' : (left : Int) - (r.db.size : Int) - (r.q.size : Int) < 0 := by omega
      unfold akC
      go_enter Try.func182, Try.ntmps182
      go_wp2
      go_ret
      exact ⟨.inr rfl, (Below.refl _ _).alloc (Nat.le_refl _) _⟩
  · have h0' : (left : Int) - (r.db.size : Int) < 0 := by omega
    unfold akC
    go_enter Try.func182, Try.ntmps182
    go_wp2
    go_ret
    exact ⟨.inr rfl, (Below.refl _ _).alloc (Nat.le_refl _) _⟩
set_option maxHeartbeats 1000000 in
theorem toAk_any (r : Ak) (w : World) : Calls Try.prog 185 #[.agg (akC r).toArray] w fun e w' => e = .returned (.agg (akC r).toArray) ∧ Below w.heap.size w w' := by
  unfold akC
  go_enter Try.func185, Try.ntmps185
  go_wp2
  refine bodyPost_ret (v := .agg (akC r).toArray) (by simp [results, Try.results185, go_sem, akC]) rfl ⟨rfl, ?_⟩
  repeat (refine Below.setCell ?_ (by first | (simp; done) | (simp; omega)) _)
  exact (((Below.refl _ _).alloc (Nat.le_refl _) _).alloc (by simp) _).alloc (by simp; omega) _

set_option maxHeartbeats 1000000 in
theorem eqAk_same (r : Ak) (w : World) : Calls Try.prog 131 #[.agg (akC r).toArray, .agg (akC r).toArray] w fun e w' => e = .returned (.bool true) ∧ Below w.heap.size w w' := by
  have h0 : (r.sock != r.sock) = false := by simp
  have h1 : (r.db.toList != r.db.toList) = false := by simp
  have h2 : (r.st != r.st) = false := by simp
  have h3 : (r.ticket != r.ticket) = false := by simp
  have h4 : (r.since != r.since) = false := by simp
  have h5 : (r.q.toList != r.q.toList) = false := by simp
  have h6 : (r.line != r.line) = false := by simp
  have h7 : (r.lease != r.lease) = false := by simp
  unfold akC
  go_enter Try.func131, Try.ntmps131
  go_wp2
  go_ret
  exact ⟨rfl, ((Below.refl _ _).alloc (Nat.le_refl _) _).alloc (by simp) _⟩

def akEqB (x y : Ak) : Bool := ((x.sock == y.sock) && ((x.db.toList == y.db.toList) && ((x.st == y.st) && ((x.ticket == y.ticket) && ((x.since == y.since) && ((x.q.toList == y.q.toList) && ((x.line == y.line) && (x.lease == y.lease))))))))
theorem akEqB_self (x : Ak) : akEqB x x = true := by simp [akEqB]
theorem akEqB_true {x y : Ak} (h : akEqB x y = true) : x = y := by
  unfold akEqB at h
  simp only [Bool.and_eq_true] at h
  obtain ⟨h0, h1, h2, h3, h4, h5, h6, h7⟩ := h
  obtain ⟨a0, a1, a2, a3, a4, a5, a6, a7⟩ := x
  obtain ⟨b0, b1, b2, b3, b4, b5, b6, b7⟩ := y
  simp only [beq_iff_eq] at h0 h2 h3 h4 h6 h7
  replace h1 := list_bytes h1
  replace h1 : a1 = b1 := h1
  replace h5 := list_bytes h5
  replace h5 : a5 = b5 := h5
  subst h0 h1 h2 h3 h4 h5 h6 h7
  rfl
theorem Try.akStruct : Try.prog.underlying 50 = some (.struct (Try.prog.fieldsOf 50)) := by kernel_rfl
theorem Try.akStood : Try.prog.stoodInHeld 50 = false := by kernel_rfl
theorem Try.akGuard : Try.prog.eqGuardType Try.prog.depth 50 = false := by kernel_rfl
theorem Try.akFields : ((Try.prog.fieldsOf 50).toList.map fun f => (f.type, f.offset, decide (f.name = "_"))) = [(3, 0, false), (9, 1, false), (3, 2, false), (3, 3, false), (3, 4, false), (9, 5, false), (3, 6, false), (3, 7, false)] := by kernel_rfl
theorem ak_parts {α : Type} {g : Field → α} {fs : List Field} {a0 a1 a2 a3 a4 a5 a6 a7 : α} (h : fs.map g = [a0, a1, a2, a3, a4, a5, a6, a7]) : ∃ f0 f1 f2 f3 f4 f5 f6 f7, fs = [f0, f1, f2, f3, f4, f5, f6, f7] ∧ g f0 = a0 ∧ g f1 = a1 ∧ g f2 = a2 ∧ g f3 = a3 ∧ g f4 = a4 ∧ g f5 = a5 ∧ g f6 = a6 ∧ g f7 = a7 := by
  match fs, h with
  | [f0, f1, f2, f3, f4, f5, f6, f7], h =>
    simp only [List.map_cons, List.map_nil, List.cons.injEq, and_true] at h
    exact ⟨f0, f1, f2, f3, f4, f5, f6, f7, rfl, h⟩
theorem ak_equal (x y : Ak) (w : World) : (Op.equalIn 10000 50 (.agg (akC x).toArray) (.agg (akC y).toArray)).run Try.prog w = .ok (akEqB x y) w := by
  rw [run_equalIn_struct w 9999 _ _ _ Try.akStruct Try.akStood]
  obtain ⟨f0, f1, f2, f3, f4, f5, f6, f7, hfs, h0, h1, h2, h3, h4, h5, h6, h7⟩ := ak_parts Try.akFields
  rw [hfs]
  rw [eqFields_cons 9999 _ _ f0 _ _ _ (.int .i64 x.sock) (.int .i64 y.sock) (x.sock == y.sock) w h0 (run_part_plain w Try.intKey rfl) (run_part_plain w Try.intKey rfl) (run_equalIn_int w _ _ _ _ _ _ Try.underlying3)]
  rw [eqFields_cons 9999 _ _ f1 _ _ _ (.string x.db) (.string y.db) (x.db.toList == y.db.toList) w h1 (run_part_plain w Try.strKey rfl) (run_part_plain w Try.strKey rfl) (run_equalIn_string w _ _ _ _ Try.underlying9)]
  rw [eqFields_cons 9999 _ _ f2 _ _ _ (.int .i64 x.st) (.int .i64 y.st) (x.st == y.st) w h2 (run_part_plain w Try.intKey rfl) (run_part_plain w Try.intKey rfl) (run_equalIn_int w _ _ _ _ _ _ Try.underlying3)]
  rw [eqFields_cons 9999 _ _ f3 _ _ _ (.int .i64 x.ticket) (.int .i64 y.ticket) (x.ticket == y.ticket) w h3 (run_part_plain w Try.intKey rfl) (run_part_plain w Try.intKey rfl) (run_equalIn_int w _ _ _ _ _ _ Try.underlying3)]
  rw [eqFields_cons 9999 _ _ f4 _ _ _ (.int .i64 x.since) (.int .i64 y.since) (x.since == y.since) w h4 (run_part_plain w Try.intKey rfl) (run_part_plain w Try.intKey rfl) (run_equalIn_int w _ _ _ _ _ _ Try.underlying3)]
  rw [eqFields_cons 9999 _ _ f5 _ _ _ (.string x.q) (.string y.q) (x.q.toList == y.q.toList) w h5 (run_part_plain w Try.strKey rfl) (run_part_plain w Try.strKey rfl) (run_equalIn_string w _ _ _ _ Try.underlying9)]
  rw [eqFields_cons 9999 _ _ f6 _ _ _ (.int .i64 x.line) (.int .i64 y.line) (x.line == y.line) w h6 (run_part_plain w Try.intKey rfl) (run_part_plain w Try.intKey rfl) (run_equalIn_int w _ _ _ _ _ _ Try.underlying3)]
  rw [eqFields_cons 9999 _ _ f7 _ _ _ (.int .i64 x.lease) (.int .i64 y.lease) (x.lease == y.lease) w h7 (run_part_plain w Try.intKey rfl) (run_part_plain w Try.intKey rfl) (run_equalIn_int w _ _ _ _ _ _ Try.underlying3)]
  unfold akEqB
  generalize (x.sock == y.sock) = b0
  generalize (x.db.toList == y.db.toList) = b1
  generalize (x.st == y.st) = b2
  generalize (x.ticket == y.ticket) = b3
  generalize (x.since == y.since) = b4
  generalize (x.q.toList == y.q.toList) = b5
  generalize (x.line == y.line) = b6
  generalize (x.lease == y.lease) = b7
  cases b0 <;> cases b1 <;> cases b2 <;> cases b3 <;> cases b4 <;> cases b5 <;> cases b6 <;> cases b7 <;> simp [Op.eqFields, Sem.run_pure]
theorem ak_guard (op : BinOp) (a b : Operand) (x y : Ak) (w : World) : (eqGuard op 50 a b (.agg (akC x).toArray) (.agg (akC y).toArray)).run Try.prog w = .ok () w := run_eqGuard_agg w op _ a b _ _ Try.akGuard

end Go.Proofs.Ytgdhhhibkhfdlaa
