/- The types of chapter 3: databases and lists of them; their copies, how great they are, when they are the same. -/
import Derived.Test.YtgdhhhibkhfdlaaRepMore
import Derived.Test.YtgdhhhibkhfdlaaOpen
import Derived.Test.YtgdhhhibkhfdlaaStr

namespace Go.Proofs.Ytgdhhhibkhfdlaa
open Go.RowKit
set_option linter.unusedVariables false
set_option maxRecDepth 100000

structure Db where
  name : ByteArray
  size : Int
  queue : Int
  wait : Int
  idle : Int


def dbR : Rep Db := ((strR markText).pair (Rep.int.pair (Rep.int.pair (Rep.int.pair Rep.int)))).iso (fun d => (d.name, d.size, d.queue, d.wait, d.idle)) (fun p => ⟨p.1, p.2.1, p.2.2.1, p.2.2.2.1, p.2.2.2.2⟩)
def dbC (d : Db) : List Value := [.string d.name, .int .i64 d.size, .int .i64 d.queue, .int .i64 d.wait, .int .i64 d.idle]

def dbsR : Rep (List Db) := Rep.rows 81 dbR
theorem dbs_at_shape {w : World} {B : Nat} {cs : List Value} {xs : List Db} (h : dbsR.at_ w B cs xs) : ∃ A c, cs = [.slice A xs.length c] := by
  obtain ⟨A, c, rfl, _⟩ := h
  exact ⟨A, c, rfl⟩
theorem dbs_own_shape {w : World} {base : Nat} {cs : List Value} {xs : List Db} {fp : List Nat} (h : dbsR.own w base cs xs fp) : ∃ A c, cs = [.slice A xs.length c] := dbs_at_shape (Rep.reads dbsR h)
theorem dbs_rows {w : World} {B : Nat} {A : Option Addr} {c : Nat} {xs : List Db} (h : dbsR.at_ w B [.slice A xs.length c] xs) : (xs.length ≤ c ∧ c ≤ maxLen) ∧ Rep.RowsAt dbR w B A xs.length xs := by
  obtain ⟨A', c', he, hc, hr⟩ := h
  injection he with he _
  injection he with he _ he2
  subst he he2
  exact ⟨hc, hr⟩

theorem db_cells {w : World} {B : Nat} {cs : List Value} {d : Db} (h : dbR.at_ w B cs d) : cs = dbC d := by
  have hl : cs.length = 5 := Rep.len dbR h
  obtain ⟨h0, h1, h2, h3, h4⟩ := h
  match cs, hl with
  | [a, b, c, e, f], _ =>
    replace h0 : [a] = [.string d.name] := h0
    replace h1 : [b] = [.int .i64 d.size] := h1
    replace h2 : [c] = [.int .i64 d.queue] := h2
    replace h3 : [e] = [.int .i64 d.wait] := h3
    replace h4 : [f] = [.int .i64 d.idle] := h4
    injection h0 with h0
    injection h1 with h1
    injection h2 with h2
    injection h3 with h3
    injection h4 with h4
    subst h0 h1 h2 h3 h4
    rfl
theorem db_own (w : World) (base : Nat) (d : Db) : dbR.own w base (dbC d) d [] :=
  ⟨[], [], ⟨rfl, rfl⟩, ⟨[], [], ⟨rfl, rfl⟩, ⟨[], [], ⟨rfl, rfl⟩, ⟨[], [], ⟨rfl, rfl⟩, ⟨rfl, rfl⟩, rfl, by simp⟩, rfl, by simp⟩, rfl, by simp⟩, rfl, by simp⟩
theorem db_at (w : World) (B : Nat) (d : Db) : dbR.at_ w B (dbC d) d := ⟨rfl, rfl, rfl, rfl, rfl⟩

/-- An element of a list of databases. -/
theorem db_elem {w : World} {B n k : Nat} {A : Option Addr} {xs : List Db} (h : Rep.RowsAt dbR w B A n xs) (hk : k < n) :
    ∃ b off x, A = some ⟨b, off, none⟩ ∧ b < B ∧ xs[k]? = some x ∧ w.cell? ⟨b, off + k * 5, none⟩ = some (.string x.name) ∧ w.cell? ⟨b, off + k * 5 + 1, none⟩ = some (.int .i64 x.size) ∧ w.cell? ⟨b, off + k * 5 + 2, none⟩ = some (.int .i64 x.queue) ∧ w.cell? ⟨b, off + k * 5 + 3, none⟩ = some (.int .i64 x.wait) ∧ w.cell? ⟨b, off + k * 5 + 4, none⟩ = some (.int .i64 x.idle) := by
  obtain ⟨b, off, c, x, hA, hb, hx, h2, hcell⟩ := h.elem hk (show 0 < 5 by omega)
  obtain rfl := db_cells h2
  have e : dbR.size = 5 := rfl
  rw [e] at hcell
  refine ⟨b, off, x, hA, hb, hx, by simpa using hcell 0 _ rfl, ?_, ?_, ?_, ?_⟩
  · have := hcell 1 _ rfl; rwa [← Nat.add_assoc] at this
  · have := hcell 2 _ rfl; rwa [← Nat.add_assoc] at this
  · have := hcell 3 _ rfl; rwa [← Nat.add_assoc] at this
  · have := hcell 4 _ rfl; rwa [← Nat.add_assoc] at this


/-- A list that came in. -/
def FitsDbs (xs : List Db) : Prop := xs.length ≤ 1048576 ∧ ∀ x, x ∈ xs → x.name.size ≤ 1048576
def OkDb (d : Db) : Prop := d.name.size ≤ maxLen ∧ (Lit.int .i64 d.size).wf = true ∧ (Lit.int .i64 d.queue).wf = true ∧ (Lit.int .i64 d.wait).wf = true ∧ (Lit.int .i64 d.idle).wf = true
def OkDbs (xs : List Db) : Prop := ∀ x, x ∈ xs → OkDb x


open Go.ChangeShapes Go.WideShapes Go.Deep in
theorem db_opens : Rep.Opens Try.prog 204 dbR OkDb := by
  intro H enc w base spare held fuel cs x h
  obtain ⟨xs, n, rfl, _, hl, hxl, hf⟩ := DataW.trod_struct Try.underlying204 h
  have hl' : cs.length = 5 := hl.trans (by kernel_rfl)
  obtain ⟨y0, h0, k0⟩ := (Rep.Opens.str markText Try.underlying9).field (hf 0 _ rfl) (by rw [hxl]; decide) (sz := 1) (by kernel_rfl)
  obtain ⟨y1, h1, k1⟩ := (Rep.Opens.int Try.underlying3).field (hf 1 _ rfl) (by rw [hxl]; decide) (sz := 1) (by kernel_rfl)
  obtain ⟨y2, h2, k2⟩ := (Rep.Opens.int Try.underlying3).field (hf 2 _ rfl) (by rw [hxl]; decide) (sz := 1) (by kernel_rfl)
  obtain ⟨y3, h3, k3⟩ := (Rep.Opens.int Try.underlying3).field (hf 3 _ rfl) (by rw [hxl]; decide) (sz := 1) (by kernel_rfl)
  obtain ⟨y4, h4, k4⟩ := (Rep.Opens.int Try.underlying3).field (hf 4 _ rfl) (by rw [hxl]; decide) (sz := 1) (by kernel_rfl)
  match cs, hl' with
  | [a, b, c, e, f], _ => exact ⟨⟨y0, y1, y2, y3, y4⟩, ⟨h0, h1, h2, h3, h4⟩, k0, k1, k2, k3, k4⟩

theorem dbs_opens : Rep.Opens Try.prog 87 dbsR OkDbs := Rep.Opens.rows (e' := 81) Try.underlying87 (by kernel_rfl) (by decide) db_opens

theorem Try.infoDb : (Try.prog.info? 81).map (fun i => (i.zero, i.size, i.bytes)) = some (some (.agg #[.string ⟨#[]⟩, .int .i64 0, .int .i64 0, .int .i64 0, .int .i64 0]), 5, 48) := by kernel_rfl

set_option maxHeartbeats 1000000 in
theorem szDb_room (d : Db) (left : Nat) (w : World) (h1 : d.name.size ≤ maxLen) (hl : left ≤ 1048576) :
    Calls Try.prog 181 #[.agg (dbC d).toArray, .int .i64 left] w (RoomB (d.name.size ≤ 1048576) left w) := by
  unfold maxLen at h1
  by_cases h : d.name.size ≤ left
  · have h' : ¬ ((left : Int) - (d.name.size : Int) < 0) := by omega
    unfold dbC
    go_enter Try.func181, Try.ntmps181
    go_wp2
    go_ret
    exact ⟨.inl ⟨left - d.name.size, by omega, by omega, by rw [Int.ofNat_sub h]; rfl⟩, (Below.refl _ _).alloc (Nat.le_refl _) _⟩
  · have h' : (left : Int) - (d.name.size : Int) < 0 := by omega
    unfold dbC
    go_enter Try.func181, Try.ntmps181
    go_wp2
    go_ret
    exact ⟨.inr rfl, (Below.refl _ _).alloc (Nat.le_refl _) _⟩

end Go.Proofs.Ytgdhhhibkhfdlaa
