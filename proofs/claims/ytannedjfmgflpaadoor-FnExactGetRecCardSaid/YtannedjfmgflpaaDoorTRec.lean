/- The struct Rec: its cells, its memory; what the exact laws ask of it. The struct Known: its cells, its memory; what the exact laws ask of it. -/
import Derived.Test.YtannedjfmgflpaaDoorRecOkI
import Derived.BigQuiet
import Derived.Deep.QuietTactic
namespace Go.Proofs.YtannedjfmgflpaaDoor
open Go.RowKit
set_option maxRecDepth 100000
set_option linter.unusedVariables false

def recR : Rep Rec := (Rep.int.pair (Rep.int.pair (Rep.int.pair (strR markText)))).iso (fun r => (r.kind, r.n, r.owner, r.text)) (fun p => ⟨p.1, p.2.1, p.2.2.1, p.2.2.2⟩)

theorem rec_cells {w : World} {B : Nat} {cs : List Value} {r : Rec} (h : recR.at_ w B cs r) : cs = recC r := by
  have hl : cs.length = 4 := Rep.len recR h
  obtain ⟨h0, h1, h2, h3⟩ := h
  match cs, hl with
  | [c0, c1, c2, c3], _ =>
    replace h0 : [c0] = [.int .i64 r.kind] := h0
    replace h1 : [c1] = [.int .i64 r.n] := h1
    replace h2 : [c2] = [.int .i64 r.owner] := h2
    replace h3 : [c3] = [.string r.text] := h3
    injection h0 with h0
    injection h1 with h1
    injection h2 with h2
    injection h3 with h3
    subst h0 h1 h2 h3
    rfl
theorem rec_own (w : World) (base : Nat) (r : Rec) : recR.own w base (recC r) r [] :=
  ⟨[], [], ⟨rfl, rfl⟩, ⟨[], [], ⟨rfl, rfl⟩, ⟨[], [], ⟨rfl, rfl⟩, ⟨rfl, rfl⟩, rfl, by simp⟩, rfl, by simp⟩, rfl, by simp⟩
theorem rec_at (w : World) (B : Nat) (r : Rec) : recR.at_ w B (recC r) r := ⟨rfl, rfl, rfl, rfl⟩
theorem rec_box {w : World} {g t : Nat} {r : Rec} (h : w.heap[g]? = some (.cells (recC r).toArray t (0, 0))) : w.cell? ⟨g, 0, none⟩ = some (.int .i64 r.kind) ∧ w.cell? ⟨g, 1, none⟩ = some (.int .i64 r.n) ∧ w.cell? ⟨g, 2, none⟩ = some (.int .i64 r.owner) ∧ w.cell? ⟨g, 3, none⟩ = some (.string r.text) := ⟨var_cell h 0, var_cell h 1, var_cell h 2, var_cell h 3⟩

def OkRec (r : Rec) : Prop := (Lit.int .i64 r.kind).wf = true ∧ (Lit.int .i64 r.n).wf = true ∧ (Lit.int .i64 r.owner).wf = true ∧ r.text.size ≤ maxLen

open Go.ChangeShapes Go.WideShapes Go.Deep in
theorem rec_opens : Rep.Opens Tryd.prog 39 recR OkRec := by
  intro H enc w base spare held fuel cs x h
  obtain ⟨xs, n, rfl, _, hl, hxl, hf⟩ := DataW.trod_struct Tryd.underlying39 h
  have hl' : cs.length = 4 := hl.trans (by kernel_rfl)
  obtain ⟨y0, h0, k0⟩ := (Rep.Opens.int Tryd.underlying3).field (hf 0 _ rfl) (by rw [hxl]; decide) (sz := 1) (by kernel_rfl)
  obtain ⟨y1, h1, k1⟩ := (Rep.Opens.int Tryd.underlying3).field (hf 1 _ rfl) (by rw [hxl]; decide) (sz := 1) (by kernel_rfl)
  obtain ⟨y2, h2, k2⟩ := (Rep.Opens.int Tryd.underlying3).field (hf 2 _ rfl) (by rw [hxl]; decide) (sz := 1) (by kernel_rfl)
  obtain ⟨y3, h3, k3⟩ := (Rep.Opens.str markText Tryd.underlying9).field (hf 3 _ rfl) (by rw [hxl]; decide) (sz := 1) (by kernel_rfl)
  match cs, hl' with
  | [c0, c1, c2, c3], _ => exact ⟨⟨y0, y1, y2, y3⟩, ⟨h0, h1, h2, h3⟩, k0, k1, k2, k3⟩

theorem Tryd.infoRec : (Tryd.prog.info? 42).map (fun i => (i.zero, i.size)) = some (some (.agg #[.int .i64 0, .int .i64 0, .int .i64 0, .string ⟨#[]⟩]), 4) := by kernel_rfl

set_option maxHeartbeats 1000000 in
theorem szRec_room (r : Rec) (left : Nat) (w : World) (g0 : r.text.size ≤ maxLen) (hl : left ≤ 1048576) :
    Calls Tryd.prog 18 #[.agg (recC r).toArray, .int .i64 left] w (RoomB (r.text.size ≤ 1048576) left w) := by
  unfold maxLen at g0
  by_cases h0 : r.text.size ≤ left
  · have h0' : ¬ ((left : Int) - (r.text.size : Int) < 0) := by omega
    unfold recC
    go_enter Tryd.func18, Tryd.ntmps18
    go_wp2
    go_ret
    exact ⟨.inl ⟨left - r.text.size, by omega, by omega, by go_num⟩, (Below.refl _ _).alloc (Nat.le_refl _) _⟩
  · have h0' : (left : Int) - (r.text.size : Int) < 0 := by omega
    unfold recC
    go_enter Tryd.func18, Tryd.ntmps18
    go_wp2
    go_ret
    exact ⟨.inr rfl, (Below.refl _ _).alloc (Nat.le_refl _) _⟩

set_option maxHeartbeats 1000000 in
theorem toRec_any (r : Rec) (w : World) : Calls Tryd.prog 20 #[.agg (recC r).toArray] w fun e w' => e = .returned (.agg (recC r).toArray) ∧ Below w.heap.size w w' := by
  unfold recC
  go_enter Tryd.func20, Tryd.ntmps20
  go_wp2
  refine bodyPost_ret (v := .agg (recC r).toArray) (by simp [results, Tryd.results20, go_sem, recC]) rfl ⟨rfl, ?_⟩
  repeat (refine Below.setCell ?_ (by first | (simp; done) | (simp; omega)) _)
  exact (((Below.refl _ _).alloc (Nat.le_refl _) _).alloc (by simp) _).alloc (by simp; omega) _

set_option maxHeartbeats 1000000 in
theorem eqRec_same (r : Rec) (w : World) : Calls Tryd.prog 28 #[.agg (recC r).toArray, .agg (recC r).toArray] w fun e w' => e = .returned (.bool true) ∧ Below w.heap.size w w' := by
  have h0 : (r.kind != r.kind) = false := by simp
  have h1 : (r.n != r.n) = false := by simp
  have h2 : (r.owner != r.owner) = false := by simp
  have h3 : (r.text.toList != r.text.toList) = false := by simp
  unfold recC
  go_enter Tryd.func28, Tryd.ntmps28
  go_wp2
  go_ret
  exact ⟨rfl, ((Below.refl _ _).alloc (Nat.le_refl _) _).alloc (by simp) _⟩

end Go.Proofs.YtannedjfmgflpaaDoor

namespace Go.Proofs.YtannedjfmgflpaaDoor
open Go.RowKit
set_option maxRecDepth 100000
set_option linter.unusedVariables false

structure Known where
  gen : Int
  text : ByteArray
  pGen : Int
  pText : ByteArray
  epoch : Int
  owner : Int

def knownC (r : Known) : List Value := [.int .i64 r.gen, .string r.text, .int .i64 r.pGen, .string r.pText, .int .i64 r.epoch, .int .i64 r.owner]
def knownR : Rep Known := (Rep.int.pair ((strR markText).pair (Rep.int.pair ((strR markText).pair (Rep.int.pair Rep.int))))).iso (fun r => (r.gen, r.text, r.pGen, r.pText, r.epoch, r.owner)) (fun p => ⟨p.1, p.2.1, p.2.2.1, p.2.2.2.1, p.2.2.2.2.1, p.2.2.2.2.2⟩)

theorem known_cells {w : World} {B : Nat} {cs : List Value} {r : Known} (h : knownR.at_ w B cs r) : cs = knownC r := by
  have hl : cs.length = 6 := Rep.len knownR h
  obtain ⟨h0, h1, h2, h3, h4, h5⟩ := h
  match cs, hl with
  | [c0, c1, c2, c3, c4, c5], _ =>
    replace h0 : [c0] = [.int .i64 r.gen] := h0
    replace h1 : [c1] = [.string r.text] := h1
    replace h2 : [c2] = [.int .i64 r.pGen] := h2
    replace h3 : [c3] = [.string r.pText] := h3
    replace h4 : [c4] = [.int .i64 r.epoch] := h4
    replace h5 : [c5] = [.int .i64 r.owner] := h5
    injection h0 with h0
    injection h1 with h1
    injection h2 with h2
    injection h3 with h3
    injection h4 with h4
    injection h5 with h5
    subst h0 h1 h2 h3 h4 h5
    rfl
theorem known_own (w : World) (base : Nat) (r : Known) : knownR.own w base (knownC r) r [] :=
  ⟨[], [], ⟨rfl, rfl⟩, ⟨[], [], ⟨rfl, rfl⟩, ⟨[], [], ⟨rfl, rfl⟩, ⟨[], [], ⟨rfl, rfl⟩, ⟨[], [], ⟨rfl, rfl⟩, ⟨rfl, rfl⟩, rfl, by simp⟩, rfl, by simp⟩, rfl, by simp⟩, rfl, by simp⟩, rfl, by simp⟩
theorem known_at (w : World) (B : Nat) (r : Known) : knownR.at_ w B (knownC r) r := ⟨rfl, rfl, rfl, rfl, rfl, rfl⟩
theorem known_box {w : World} {g t : Nat} {r : Known} (h : w.heap[g]? = some (.cells (knownC r).toArray t (0, 0))) : w.cell? ⟨g, 0, none⟩ = some (.int .i64 r.gen) ∧ w.cell? ⟨g, 1, none⟩ = some (.string r.text) ∧ w.cell? ⟨g, 2, none⟩ = some (.int .i64 r.pGen) ∧ w.cell? ⟨g, 3, none⟩ = some (.string r.pText) ∧ w.cell? ⟨g, 4, none⟩ = some (.int .i64 r.epoch) ∧ w.cell? ⟨g, 5, none⟩ = some (.int .i64 r.owner) := ⟨var_cell h 0, var_cell h 1, var_cell h 2, var_cell h 3, var_cell h 4, var_cell h 5⟩

def OkKnown (r : Known) : Prop := (Lit.int .i64 r.gen).wf = true ∧ r.text.size ≤ maxLen ∧ (Lit.int .i64 r.pGen).wf = true ∧ r.pText.size ≤ maxLen ∧ (Lit.int .i64 r.epoch).wf = true ∧ (Lit.int .i64 r.owner).wf = true

theorem Tryd.infoKnown : (Tryd.prog.info? 146).map (fun i => (i.zero, i.size)) = some (some (.agg #[.int .i64 0, .string ⟨#[]⟩, .int .i64 0, .string ⟨#[]⟩, .int .i64 0, .int .i64 0]), 6) := by kernel_rfl
def knownZero : Known := ⟨0, ⟨#[]⟩, 0, ⟨#[]⟩, 0, 0⟩

end Go.Proofs.YtannedjfmgflpaaDoor
