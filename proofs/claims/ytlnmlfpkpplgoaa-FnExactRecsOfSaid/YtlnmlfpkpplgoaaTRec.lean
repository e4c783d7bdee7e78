/- The struct Rec: its cells, its memory; what the exact laws ask of it. The struct Known: its cells, its memory; what the exact laws ask of it. -/
import Derived.Test.YtlnmlfpkpplgoaaConf
import Derived.BigQuiet
import Derived.Deep.QuietTactic
namespace Go.Proofs.Ytlnmlfpkpplgoaa
open Go.RowKit
set_option linter.unusedVariables false

structure Rec where
  kind : Int
  n : Int
  owner : Int
  text : ByteArray

def recC (r : Rec) : List Value := [.int .i64 r.kind, .int .i64 r.n, .int .i64 r.owner, .string r.text]

def recR : Rep Rec := (Rep.int.pair (Rep.int.pair (Rep.int.pair (strR markText)))).iso (fun r => (r.kind, r.n, r.owner, r.text)) (fun p => ⟨p.1, p.2.1, p.2.2.1, p.2.2.2⟩)

theorem rec_cells {w : World} {B : Nat} {cs : List Value} {r : Rec} (h : recR.at_ w B cs r) : cs = recC r := by
  have hl : cs.length = 4 := Rep.len recR h
  obtain ⟨h0, h1, h2, h3⟩ := h
  match cs, hl with
  | [c0, c1, c2, c3], _ =>
    replace h0 : [c0] = [.int .i64 r.kind] := h0
    replace h1 : [c1] = [.int .i64 r.n] := h1
    replace h2 : [c2] = [.int .i64 r.owner] := h2
    replace h3 : [c3] = [.string r.text] := h3
    injection h0 with h0
    injection h1 with h1
    injection h2 with h2
    injection h3 with h3
    subst h0 h1 h2 h3
    rfl
theorem rec_own (w : World) (base : Nat) (r : Rec) : recR.own w base (recC r) r [] :=
  ⟨[], [], ⟨rfl, rfl⟩, ⟨[], [], ⟨rfl, rfl⟩, ⟨[], [], ⟨rfl, rfl⟩, ⟨rfl, rfl⟩, rfl, by simp⟩, rfl, by simp⟩, rfl, by simp⟩
theorem rec_at (w : World) (B : Nat) (r : Rec) : recR.at_ w B (recC r) r := ⟨rfl, rfl, rfl, rfl⟩
theorem rec_box {w : World} {g t : Nat} {r : Rec} (h : w.heap[g]? = some (.cells (recC r).toArray t (0, 0))) : w.cell? ⟨g, 0, none⟩ = some (.int .i64 r.kind) ∧ w.cell? ⟨g, 1, none⟩ = some (.int .i64 r.n) ∧ w.cell? ⟨g, 2, none⟩ = some (.int .i64 r.owner) ∧ w.cell? ⟨g, 3, none⟩ = some (.string r.text) := ⟨var_cell h 0, var_cell h 1, var_cell h 2, var_cell h 3⟩

def OkRec (r : Rec) : Prop := (Lit.int .i64 r.kind).wf = true ∧ (Lit.int .i64 r.n).wf = true ∧ (Lit.int .i64 r.owner).wf = true ∧ r.text.size ≤ maxLen

theorem Try.infoRec : (Try.prog.info? 33).map (fun i => (i.zero, i.size)) = some (some (.agg #[.int .i64 0, .int .i64 0, .int .i64 0, .string ⟨#[]⟩]), 4) := by kernel_rfl

set_option maxHeartbeats 1000000 in
theorem eqRec_same (r : Rec) (w : World) : Calls Try.prog 11 #[.agg (recC r).toArray, .agg (recC r).toArray] w fun e w' => e = .returned (.bool true) ∧ Below w.heap.size w w' := by
  have h0 : (r.kind != r.kind) = false := by simp
  have h1 : (r.n != r.n) = false := by simp
  have h2 : (r.owner != r.owner) = false := by simp
  have h3 : (r.text.toList != r.text.toList) = false := by simp
  unfold recC
  go_enter Try.func11, Try.ntmps11
  go_wp2
  go_ret
  exact ⟨rfl, ((Below.refl _ _).alloc (Nat.le_refl _) _).alloc (by simp) _⟩

end Go.Proofs.Ytlnmlfpkpplgoaa

namespace Go.Proofs.Ytlnmlfpkpplgoaa
open Go.RowKit
set_option maxRecDepth 100000
set_option linter.unusedVariables false

structure Known where
  gen : Int
  text : ByteArray
  pGen : Int
  pText : ByteArray
  epoch : Int
  owner : Int

def knownC (r : Known) : List Value := [.int .i64 r.gen, .string r.text, .int .i64 r.pGen, .string r.pText, .int .i64 r.epoch, .int .i64 r.owner]
def knownR : Rep Known := (Rep.int.pair ((strR markText).pair (Rep.int.pair ((strR markText).pair (Rep.int.pair Rep.int))))).iso (fun r => (r.gen, r.text, r.pGen, r.pText, r.epoch, r.owner)) (fun p => ⟨p.1, p.2.1, p.2.2.1, p.2.2.2.1, p.2.2.2.2.1, p.2.2.2.2.2⟩)

theorem known_cells {w : World} {B : Nat} {cs : List Value} {r : Known} (h : knownR.at_ w B cs r) : cs = knownC r := by
  have hl : cs.length = 6 := Rep.len knownR h
  obtain ⟨h0, h1, h2, h3, h4, h5⟩ := h
  match cs, hl with
  | [c0, c1, c2, c3, c4, c5], _ =>
    replace h0 : [c0] = [.int .i64 r.gen] := h0
    replace h1 : [c1] = [.string r.text] := h1
    replace h2 : [c2] = [.int .i64 r.pGen] := h2
    replace h3 : [c3] = [.string r.pText] := h3
    replace h4 : [c4] = [.int .i64 r.epoch] := h4
    replace h5 : [c5] = [.int .i64 r.owner] := h5
    injection h0 with h0
    injection h1 with h1
    injection h2 with h2
    injection h3 with h3
    injection h4 with h4
    injection h5 with h5
    subst h0 h1 h2 h3 h4 h5
    rfl
theorem known_own (w : World) (base : Nat) (r : Known) : knownR.own w base (knownC r) r [] :=
  ⟨[], [], ⟨rfl, rfl⟩, ⟨[], [], ⟨rfl, rfl⟩, ⟨[], [], ⟨rfl, rfl⟩, ⟨[], [], ⟨rfl, rfl⟩, ⟨[], [], ⟨rfl, rfl⟩, ⟨rfl, rfl⟩, rfl, by simp⟩, rfl, by simp⟩, rfl, by simp⟩, rfl, by simp⟩, rfl, by simp⟩
theorem known_at (w : World) (B : Nat) (r : Known) : knownR.at_ w B (knownC r) r := ⟨rfl, rfl, rfl, rfl, rfl, rfl⟩
theorem known_box {w : World} {g t : Nat} {r : Known} (h : w.heap[g]? = some (.cells (knownC r).toArray t (0, 0))) : w.cell? ⟨g, 0, none⟩ = some (.int .i64 r.gen) ∧ w.cell? ⟨g, 1, none⟩ = some (.string r.text) ∧ w.cell? ⟨g, 2, none⟩ = some (.int .i64 r.pGen) ∧ w.cell? ⟨g, 3, none⟩ = some (.string r.pText) ∧ w.cell? ⟨g, 4, none⟩ = some (.int .i64 r.epoch) ∧ w.cell? ⟨g, 5, none⟩ = some (.int .i64 r.owner) := ⟨var_cell h 0, var_cell h 1, var_cell h 2, var_cell h 3, var_cell h 4, var_cell h 5⟩

def OkKnown (r : Known) : Prop := (Lit.int .i64 r.gen).wf = true ∧ r.text.size ≤ maxLen ∧ (Lit.int .i64 r.pGen).wf = true ∧ r.pText.size ≤ maxLen ∧ (Lit.int .i64 r.epoch).wf = true ∧ (Lit.int .i64 r.owner).wf = true

open Go.ChangeShapes Go.WideShapes Go.Deep in
theorem known_opens : Rep.Opens Try.prog 23 knownR OkKnown := by
  intro H enc w base spare held fuel cs x h
  obtain ⟨xs, n, rfl, _, hl, hxl, hf⟩ := DataW.trod_struct Try.underlying23 h
  have hl' : cs.length = 6 := hl.trans (by kernel_rfl)
  obtain ⟨y0, h0, k0⟩ := (Rep.Opens.int Try.underlying3).field (hf 0 _ rfl) (by rw [hxl]; decide) (sz := 1) (by kernel_rfl)
  obtain ⟨y1, h1, k1⟩ := (Rep.Opens.str markText Try.underlying9).field (hf 1 _ rfl) (by rw [hxl]; decide) (sz := 1) (by kernel_rfl)
  obtain ⟨y2, h2, k2⟩ := (Rep.Opens.int Try.underlying3).field (hf 2 _ rfl) (by rw [hxl]; decide) (sz := 1) (by kernel_rfl)
  obtain ⟨y3, h3, k3⟩ := (Rep.Opens.str markText Try.underlying9).field (hf 3 _ rfl) (by rw [hxl]; decide) (sz := 1) (by kernel_rfl)
  obtain ⟨y4, h4, k4⟩ := (Rep.Opens.int Try.underlying3).field (hf 4 _ rfl) (by rw [hxl]; decide) (sz := 1) (by kernel_rfl)
  obtain ⟨y5, h5, k5⟩ := (Rep.Opens.int Try.underlying3).field (hf 5 _ rfl) (by rw [hxl]; decide) (sz := 1) (by kernel_rfl)
  match cs, hl' with
  | [c0, c1, c2, c3, c4, c5], _ => exact ⟨⟨y0, y1, y2, y3, y4, y5⟩, ⟨h0, h1, h2, h3, h4, h5⟩, k0, k1, k2, k3, k4, k5⟩

theorem Try.infoKnown : (Try.prog.info? 27).map (fun i => (i.zero, i.size)) = some (some (.agg #[.int .i64 0, .string ⟨#[]⟩, .int .i64 0, .string ⟨#[]⟩, .int .i64 0, .int .i64 0]), 6) := by kernel_rfl
def knownZero : Known := ⟨0, ⟨#[]⟩, 0, ⟨#[]⟩, 0, 0⟩

set_option maxHeartbeats 1000000 in
theorem szKnown_room (r : Known) (left : Nat) (w : World) (g0 : r.text.size ≤ maxLen) (g1 : r.pText.size ≤ maxLen) (hl : left ≤ 1048576) :
    Calls Try.prog 4 #[.agg (knownC r).toArray, .int .i64 left] w (RoomB (r.text.size ≤ 1048576 ∧ r.pText.size ≤ 1048576) left w) := by
  unfold maxLen at g0 g1
  by_cases h0 : r.text.size ≤ left
  · have h0' : ¬ ((left : Int) - (r.text.size : Int) < 0) := by omega
    by_cases h1 : r.text.size + r.pText.size ≤ left
    · have h1' : ¬ ((left : Int) - (r.text.size : Int) - (r.pText.size : Int) < 0) := by omega
      unfold knownC
      go_enter Try.func4, Try.ntmps4
      go_wp2
      go_ret
      exact ⟨.inl ⟨left - r.text.size - r.pText.size, by omega, ⟨by omega, by omega⟩, by go_num⟩, (Below.refl _ _).alloc (Nat.le_refl _) _⟩
    · have h1' : (left : Int) - (r.text.size : Int) - (r.pText.size : Int) < 0 := by omega
      unfold knownC
      go_enter Try.func4, Try.ntmps4
      go_wp2
      go_ret
      exact ⟨.inr rfl, (Below.refl _ _).alloc (Nat.le_refl _) _⟩
  · have h0' : (left : Int) - (r.text.size : Int) < 0 := by omega
    unfold knownC
    go_enter Try.func4, Try.ntmps4
    go_wp2
    go_ret
    exact ⟨.inr rfl, (Below.refl _ _).alloc (Nat.le_refl _) _⟩

set_option maxHeartbeats 1000000 in
theorem toKnown_any (r : Known) (w : World) : Calls Try.prog 6 #[.agg (knownC r).toArray] w fun e w' => e = .returned (.agg (knownC r).toArray) ∧ Below w.heap.size w w' := by
  unfold knownC
  go_enter Try.func6, Try.ntmps6
  go_wp2
  refine bodyPost_ret (v := .agg (knownC r).toArray) (by simp [results, Try.results6, go_sem, knownC]) rfl ⟨rfl, ?_⟩
  repeat (refine Below.setCell ?_ (by first | (simp; done) | (simp; omega)) _)
  exact (((Below.refl _ _).alloc (Nat.le_refl _) _).alloc (by simp) _).alloc (by simp; omega) _

end Go.Proofs.Ytlnmlfpkpplgoaa
