/- The struct Rec: its cells, its memory; what the exact laws ask of it. The struct Known: its cells, its memory; what the exact laws ask of it. -/
import Derived.Test.YtlnmlfpkpplgoaaDoorConf
import Derived.BigQuiet
import Derived.Deep.QuietTactic
namespace Go.Proofs.YtlnmlfpkpplgoaaDoor
open Go.RowKit
set_option maxRecDepth 100000
set_option linter.unusedVariables false

structure Rec where
  kind : Int
  n : Int
  owner : Int
  text : ByteArray

def recC (r : Rec) : List Value := [.int .i64 r.kind, .int .i64 r.n, .int .i64 r.owner, .string r.text]

def recR : Rep Rec := (Rep.int.pair (Rep.int.pair (Rep.int.pair (strR markText)))).iso (fun r => (r.kind, r.n, r.owner, r.text)) (fun p => ⟨p.1, p.2.1, p.2.2.1, p.2.2.2⟩)

theorem rec_cells {w : World} {B : Nat} {cs : List Value} {r : Rec} (h : recR.at_ w B cs r) : cs = recC r := by
  have hl : cs.length = 4 := Rep.len recR h
  obtain ⟨h0, h1, h2, h3⟩ := h
  match cs, hl with
  | [c0, c1, c2, c3], _ =>
    replace h0 : [c0] = [.int .i64 r.kind] := h0
    replace h1 : [c1] = [.int .i64 r.n] := h1
    replace h2 : [c2] = [.int .i64 r.owner] := h2
    replace h3 : [c3] = [.string r.text] := h3
    injection h0 with h0
    injection h1 with h1
    injection h2 with h2
    injection h3 with h3
    subst h0 h1 h2 h3
    rfl
theorem rec_own (w : World) (base : Nat) (r : Rec) : recR.own w base (recC r) r [] :=
  ⟨[], [], ⟨rfl, rfl⟩, ⟨[], [], ⟨rfl, rfl⟩, ⟨[], [], ⟨rfl, rfl⟩, ⟨rfl, rfl⟩, rfl, by simp⟩, rfl, by simp⟩, rfl, by simp⟩
theorem rec_at (w : World) (B : Nat) (r : Rec) : recR.at_ w B (recC r) r := ⟨rfl, rfl, rfl, rfl⟩
theorem rec_box {w : World} {g t : Nat} {r : Rec} (h : w.heap[g]? = some (.cells (recC r).toArray t (0, 0))) : w.cell? ⟨g, 0, none⟩ = some (.int .i64 r.kind) ∧ w.cell? ⟨g, 1, none⟩ = some (.int .i64 r.n) ∧ w.cell? ⟨g, 2, none⟩ = some (.int .i64 r.owner) ∧ w.cell? ⟨g, 3, none⟩ = some (.string r.text) := ⟨var_cell h 0, var_cell h 1, var_cell h 2, var_cell h 3⟩

def OkRec (r : Rec) : Prop := (Lit.int .i64 r.kind).wf = true ∧ (Lit.int .i64 r.n).wf = true ∧ (Lit.int .i64 r.owner).wf = true ∧ r.text.size ≤ maxLen

theorem Tryd.infoRec : (Tryd.prog.info? 32).map (fun i => (i.zero, i.size)) = some (some (.agg #[.int .i64 0, .int .i64 0, .int .i64 0, .string ⟨#[]⟩]), 4) := by kernel_rfl

end Go.Proofs.YtlnmlfpkpplgoaaDoor

namespace Go.Proofs.YtlnmlfpkpplgoaaDoor
open Go.RowKit
set_option maxRecDepth 100000
set_option linter.unusedVariables false

structure Known where
  gen : Int
  text : ByteArray
  pGen : Int
  pText : ByteArray
  epoch : Int
  owner : Int

def knownC (r : Known) : List Value := [.int .i64 r.gen, .string r.text, .int .i64 r.pGen, .string r.pText, .int .i64 r.epoch, .int .i64 r.owner]
def knownR : Rep Known := (Rep.int.pair ((strR markText).pair (Rep.int.pair ((strR markText).pair (Rep.int.pair Rep.int))))).iso (fun r => (r.gen, r.text, r.pGen, r.pText, r.epoch, r.owner)) (fun p => ⟨p.1, p.2.1, p.2.2.1, p.2.2.2.1, p.2.2.2.2.1, p.2.2.2.2.2⟩)

theorem known_cells {w : World} {B : Nat} {cs : List Value} {r : Known} (h : knownR.at_ w B cs r) : cs = knownC r := by
  have hl : cs.length = 6 := Rep.len knownR h
  obtain ⟨h0, h1, h2, h3, h4, h5⟩ := h
  match cs, hl with
  | [c0, c1, c2, c3, c4, c5], _ =>
    replace h0 : [c0] = [.int .i64 r.gen] := h0
    replace h1 : [c1] = [.string r.text] := h1
    replace h2 : [c2] = [.int .i64 r.pGen] := h2
    replace h3 : [c3] = [.string r.pText] := h3
    replace h4 : [c4] = [.int .i64 r.epoch] := h4
    replace h5 : [c5] = [.int .i64 r.owner] := h5
    injection h0 with h0
    injection h1 with h1
    injection h2 with h2
    injection h3 with h3
    injection h4 with h4
    injection h5 with h5
    subst h0 h1 h2 h3 h4 h5
    rfl
theorem known_own (w : World) (base : Nat) (r : Known) : knownR.own w base (knownC r) r [] :=
  ⟨[], [], ⟨rfl, rfl⟩, ⟨[], [], ⟨rfl, rfl⟩, ⟨[], [], ⟨rfl, rfl⟩, ⟨[], [], ⟨rfl, rfl⟩, ⟨[], [], ⟨rfl, rfl⟩, ⟨rfl, rfl⟩, rfl, by simp⟩, rfl, by simp⟩, rfl, by simp⟩, rfl, by simp⟩, rfl, by simp⟩
theorem known_at (w : World) (B : Nat) (r : Known) : knownR.at_ w B (knownC r) r := ⟨rfl, rfl, rfl, rfl, rfl, rfl⟩
theorem known_box {w : World} {g t : Nat} {r : Known} (h : w.heap[g]? = some (.cells (knownC r).toArray t (0, 0))) : w.cell? ⟨g, 0, none⟩ = some (.int .i64 r.gen) ∧ w.cell? ⟨g, 1, none⟩ = some (.string r.text) ∧ w.cell? ⟨g, 2, none⟩ = some (.int .i64 r.pGen) ∧ w.cell? ⟨g, 3, none⟩ = some (.string r.pText) ∧ w.cell? ⟨g, 4, none⟩ = some (.int .i64 r.epoch) ∧ w.cell? ⟨g, 5, none⟩ = some (.int .i64 r.owner) := ⟨var_cell h 0, var_cell h 1, var_cell h 2, var_cell h 3, var_cell h 4, var_cell h 5⟩

def OkKnown (r : Known) : Prop := (Lit.int .i64 r.gen).wf = true ∧ r.text.size ≤ maxLen ∧ (Lit.int .i64 r.pGen).wf = true ∧ r.pText.size ≤ maxLen ∧ (Lit.int .i64 r.epoch).wf = true ∧ (Lit.int .i64 r.owner).wf = true

theorem Tryd.infoKnown : (Tryd.prog.info? 25).map (fun i => (i.zero, i.size)) = some (some (.agg #[.int .i64 0, .string ⟨#[]⟩, .int .i64 0, .string ⟨#[]⟩, .int .i64 0, .int .i64 0]), 6) := by kernel_rfl
def knownZero : Known := ⟨0, ⟨#[]⟩, 0, ⟨#[]⟩, 0, 0⟩

end Go.Proofs.YtlnmlfpkpplgoaaDoor
