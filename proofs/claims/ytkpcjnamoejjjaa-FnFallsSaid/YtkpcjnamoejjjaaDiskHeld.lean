/- The types of chapter 2 and the copies that the exact laws make. Copies of structs that hold byte slices. Equality of data that are the same; how great data are. A disk that came in: how great it is, its copy. Marks written into data of the call's own, and found again. Marks of a disk, and marks that are found again. -/
import Derived.Test.YtkpcjnamoejjjaaRepRow
import Derived.StillTailTactics
namespace Go.Proofs.Ytkpcjnamoejjjaa
open Go.RowKit
set_option linter.unusedVariables false

structure Wr where
  n : Int
  b : List UInt8
structure Disk where
  secs : List (List UInt8)
  cache : List Wr
  fuse : Int
  down : Bool

def byR : Rep (List UInt8) := Rep.bytes 5
def wrR : Rep Wr := (Rep.int.pair byR).iso (fun x => (x.n, x.b)) (fun p => ⟨p.1, p.2⟩)
def secsR : Rep (List (List UInt8)) := Rep.rows 22 byR
def cacheR : Rep (List Wr) := Rep.rows 42 wrR
def diskR : Rep Disk := (secsR.pair (cacheR.pair (Rep.int.pair Rep.bool))).iso (fun d => (d.secs, d.cache, d.fuse, d.down)) (fun p => ⟨p.1, p.2.1, p.2.2.1, p.2.2.2⟩)

theorem Try.info22 : (Try.prog.info? 22).map (fun i => (i.zero, i.size, i.bytes)) = some (some (.slice none 0 0), 1, 24) := by kernel_rfl

/-- An element of a slice of byte slices. -/
theorem secs_elem {w : World} {B n k : Nat} {A : Option Addr} {xs : List (List UInt8)} (h : Rep.RowsAt byR w B A n xs) (hk : k < n) :
    ∃ b off A' c l, A = some ⟨b, off, none⟩ ∧ b < B ∧ xs[k]? = some l ∧ w.cell? ⟨b, off + k, none⟩ = some (.slice A' l.length c) ∧ (l.length ≤ c ∧ c ≤ maxLen) ∧ Reads w B 1 A' l.length (bys l) := by
  obtain ⟨b, off, c, l, hA, hb, hx, ⟨A', c', rfl, hc, hr⟩, hcell⟩ := h.elem hk (show 0 < 1 by omega)
  have := hcell 0 _ rfl
  exact ⟨b, off, A', c', l, hA, hb, hx, by simpa [byR, Rep.bytes] using this, hc, hr⟩

/-- The first k elements are copied, the others are still zero. -/
def halfL {α : Type} (z : α) (xs : List α) (k : Nat) : List α := xs.take k ++ List.replicate (xs.length - k) z
theorem halfL_length {α : Type} (z : α) (xs : List α) (k : Nat) (h : k ≤ xs.length) : (halfL z xs k).length = xs.length := by simp [halfL]; omega
theorem halfL_zero {α : Type} (z : α) (xs : List α) : halfL z xs 0 = List.replicate xs.length z := by simp [halfL]
theorem halfL_all {α : Type} (z : α) (xs : List α) : halfL z xs xs.length = xs := by simp [halfL]
theorem halfL_set {α : Type} (z : α) {xs : List α} {k : Nat} {x : α} (h : xs[k]? = some x) : (halfL z xs k).set k x = halfL z xs (k + 1) := by
  have hk : k < xs.length := (List.getElem?_eq_some_iff.1 h).1
  have e : xs.length - k = (xs.length - (k + 1)) + 1 := by omega
  unfold halfL
  rw [Rep.take_get h, e, List.replicate_succ, List.set_append_right _ _ (by simp; omega)]
  have : k - (xs.take k).length = 0 := by simp; omega
  rw [this]
  simp

theorem rows_zero {α : Type} (R : Rep α) (e : TypeId) (w : World) (base n : Nat) (v : Value) (z : α) (c : List Value) (cells : List Value) (h : w.ownsRow base e R.size v n cells) (hc : ∀ i, i < n → Rep.seg R.size i cells = c) (hz : ∀ w, R.own w base c z []) :
    Rep.OwnRows R e w base v (List.replicate n z) v.ownBlock.toList := by
  refine ⟨cells, List.replicate n [], by simpa using h, by simp, ?_, by simp, Rep.nodup_toList _⟩
  intro i x f hx hf
  rw [List.getElem?_replicate] at hx hf
  split at hx
  · rename_i hi
    rw [if_pos hi] at hf
    injection hx with hx
    injection hf with hf
    subst hx hf
    rw [hc i hi]
    exact hz w
  · cases hx

end Go.Proofs.Ytkpcjnamoejjjaa


namespace Go.Proofs.Ytkpcjnamoejjjaa
open Go.RowKit
set_option linter.unusedVariables false

theorem bcell {W w1 : World} (hb : Below W.heap.size W w1) : (∀ b o, b < W.heap.size → w1.cell? ⟨b, o, none⟩ = W.cell? ⟨b, o, none⟩) ∧ (∀ b o, b < W.heap.size → w1.frozen? ⟨b, o, none⟩ = W.frozen? ⟨b, o, none⟩) :=
  ⟨fun b o h => hb.cell (p := ⟨b, o, none⟩) h, fun b o h => hb.frozen (p := ⟨b, o, none⟩) h⟩

/-- The same, behind a step that has only made memory. -/
theorem gcell {W w1 : World} (hg : W.grownBy w1 none) : (∀ b o, b < W.heap.size → w1.cell? ⟨b, o, none⟩ = W.cell? ⟨b, o, none⟩) ∧ (∀ b o, b < W.heap.size → w1.frozen? ⟨b, o, none⟩ = W.frozen? ⟨b, o, none⟩) :=
  bcell ((Below.refl _ _).grown hg (Nat.le_refl _) (fun _ hk => by cases hk))

theorem Owns.setLow {w : World} {base : Nat} {e : TypeId} {v : Value} {l : List UInt8} (h : Owns w base e v l) {p : Addr} (hp : p.block < base) (u : Value) : Owns (w.setCell p u) base e v l :=
  Rep.ownsRow_block h fun g hg => heap_setCell_other _ _ _ _ (by have := (h.lt g (by simpa using hg)).1; omega)

/-- An element of a slice of writes. -/
theorem wr_elem {w : World} {B n k : Nat} {A : Option Addr} {xs : List Wr} (h : Rep.RowsAt wrR w B A n xs) (hk : k < n) :
    ∃ b off A' c x, A = some ⟨b, off, none⟩ ∧ b < B ∧ xs[k]? = some x ∧ w.cell? ⟨b, off + k * 2, none⟩ = some (.int .i64 x.n) ∧ w.cell? ⟨b, off + k * 2 + 1, none⟩ = some (.slice A' x.b.length c) ∧ (x.b.length ≤ c ∧ c ≤ maxLen) ∧ Reads w B 1 A' x.b.length (bys x.b) := by
  obtain ⟨b, off, c, x, hA, hb, hx, h2, hcell⟩ := h.elem hk (show 0 < 2 by omega)
  have h2' := h2
  obtain ⟨h3, A', c', h4, hc, hr⟩ := h2'
  have hl : c.length = 2 := Rep.len wrR h2
  match c, hl with
  | [u, v], _ =>
    replace h3 : [u] = [.int .i64 x.n] := h3
    replace h4 : [v] = [.slice A' x.b.length c'] := h4
    injection h3 with h3
    injection h4 with h4
    subst h3 h4
    exact ⟨b, off, A', c', x, hA, hb, hx, by have := hcell 0 _ rfl; rwa [show wrR.size = 2 from rfl] at this, by have := hcell 1 _ rfl; rwa [show wrR.size = 2 from rfl, ← Nat.add_assoc] at this, hc, hr⟩


theorem wr_own {w : World} {base : Nat} {v : Value} {x : Wr} (h : Owns w base 5 v x.b) : wrR.own w base [.int .i64 x.n, v] x v.ownBlock.toList :=
  ⟨[], v.ownBlock.toList, ⟨rfl, rfl⟩, ⟨v, rfl, h, rfl⟩, rfl, Rep.nodup_toList _⟩

theorem Try.info42 : (Try.prog.info? 42).map (fun i => (i.zero, i.size, i.bytes)) = some (some (.agg #[.int .i64 0, .slice none 0 0]), 2, 32) := by kernel_rfl

end Go.Proofs.Ytkpcjnamoejjjaa


namespace Go.Proofs.Ytkpcjnamoejjjaa
open Go.RowKit
set_option linter.unusedVariables false

/-- What a count of the room that is left says. -/
def Room (bound : Prop) (left : Nat) (w : World) (e : Ending) (w' : World) : Prop := ((∃ z : Nat, z ≤ left ∧ bound ∧ e = .returned (.int .i64 z)) ∨ e = .returned (.int .i64 (-1))) ∧ w = w'

def AllLe (xs : List (List UInt8)) (k : Nat) : Prop := ∀ l, l ∈ xs.take k → l.length ≤ 1048576
theorem AllLe.zero (xs : List (List UInt8)) : AllLe xs 0 := by intro l hl; simp at hl
theorem AllLe.succ {xs : List (List UInt8)} {k : Nat} {l : List UInt8} (h : AllLe xs k) (hx : xs[k]? = some l) (hl : l.length ≤ 1048576) : AllLe xs (k + 1) := by
  intro m hm
  rw [Rep.take_get hx, List.mem_append] at hm
  rcases hm with hm | hm
  · exact h m hm
  · simp at hm; subst hm; exact hl
theorem AllLe.all {xs : List (List UInt8)} (h : AllLe xs xs.length) : ∀ l, l ∈ xs → l.length ≤ 1048576 := fun l hl => h l (by simpa using hl)

/-- The cells of a disk. -/
theorem disk_cells {w : World} {B : Nat} {d : Disk} {cs : List Value} (h : diskR.at_ w B cs d) :
    ∃ A c A' c', cs = [.slice A d.secs.length c, .slice A' d.cache.length c', .int .i64 d.fuse, .bool d.down] ∧ (d.secs.length ≤ c ∧ c ≤ maxLen) ∧ (d.cache.length ≤ c' ∧ c' ≤ maxLen) ∧ Rep.RowsAt byR w B A d.secs.length d.secs ∧ Rep.RowsAt wrR w B A' d.cache.length d.cache := by
  have hl : cs.length = 4 := Rep.len diskR h
  obtain ⟨⟨A, c, h1, hc, hr⟩, ⟨A', c', h2, hc', hr'⟩, h3, h4⟩ := h
  match cs, hl with
  | [a, b, e, f], _ =>
    replace h1 : [a] = [.slice A d.secs.length c] := h1
    replace h2 : [b] = [.slice A' d.cache.length c'] := h2
    replace h3 : [e] = [.int .i64 d.fuse] := h3
    replace h4 : [f] = [.bool d.down] := h4
    injection h1 with h1
    injection h2 with h2
    injection h3 with h3
    injection h4 with h4
    subst h1 h2 h3 h4
    exact ⟨A, c, A', c', rfl, hc, hc', hr, hr'⟩

/-- How great a disk is that came in. -/
def Fits (d : Disk) : Prop := d.secs.length ≤ 1048576 ∧ (∀ l, l ∈ d.secs → l.length ≤ 1048576) ∧ d.cache.length ≤ 1048576 ∧ (∀ x, x ∈ d.cache → x.b.length ≤ 1048576)

end Go.Proofs.Ytkpcjnamoejjjaa

namespace Go.Proofs.Ytkpcjnamoejjjaa
open Go.RowKit
set_option linter.unusedVariables false

def AllWr (xs : List Wr) (k : Nat) : Prop := ∀ l, l ∈ xs.take k → l.b.length ≤ 1048576
theorem AllWr.zero (xs : List Wr) : AllWr xs 0 := by intro l hl; simp at hl
theorem AllWr.succ {xs : List Wr} {k : Nat} {l : Wr} (h : AllWr xs k) (hx : xs[k]? = some l) (hl : l.b.length ≤ 1048576) : AllWr xs (k + 1) := by
  intro m hm
  rw [Rep.take_get hx, List.mem_append] at hm
  rcases hm with hm | hm
  · exact h m hm
  · simp at hm; subst hm; exact hl
theorem AllWr.all {xs : List Wr} (h : AllWr xs xs.length) : ∀ l, l ∈ xs → l.b.length ≤ 1048576 := fun l hl => h l (by simpa using hl)

/-- What a count of the room that is left says, where the count makes memory. -/
def RoomB (bound : Prop) (left : Nat) (w : World) (e : Ending) (w' : World) : Prop := ((∃ z : Nat, z ≤ left ∧ bound ∧ e = .returned (.int .i64 z)) ∨ e = .returned (.int .i64 (-1))) ∧ Below w.heap.size w w'

/-- A disk of the call's own. -/
def OwnDisk (w : World) (base : Nat) (v : Value) (d : Disk) (fp : List Nat) : Prop := ∃ cs, v = .agg cs.toArray ∧ diskR.own w base cs d fp

theorem disk_own {w : World} {base B : Nat} {v v' : Value} {d : Disk} {f f' : List Nat} (h : Rep.OwnRows byR 22 w base v d.secs f) (h' : Rep.OwnRows wrR 42 w B v' d.cache f') (hB : base ≤ B) (hf : ∀ g, g ∈ f → g < B) :
    diskR.own w base [v, v', .int .i64 d.fuse, .bool d.down] d (f ++ f') := by
  have hn1 : f.Nodup := Rep.nodup secsR (w := w) (base := base) (cs := [v]) (x := d.secs) ⟨v, rfl, h⟩
  have hn2 : f'.Nodup := Rep.nodup cacheR (w := w) (base := B) (cs := [v']) (x := d.cache) ⟨v', rfl, h'⟩
  refine ⟨f, f', ⟨v, rfl, h⟩, ⟨f', [], ⟨v', rfl, h'.low hB⟩, ⟨[], [], ⟨rfl, rfl⟩, ⟨rfl, rfl⟩, rfl, by simp⟩, by simp, by simpa using hn2⟩, by simp, ?_⟩
  exact Rep.nodup_append_of hn1 hn2 fun a ha ha' => by have := hf a ha; have := (h'.lt a ha').1; omega

end Go.Proofs.Ytkpcjnamoejjjaa

namespace Go.Proofs.Ytkpcjnamoejjjaa
open Go.RowKit
set_option linter.unusedVariables false

theorem cntL_bound {α : Type} (R : Rep α) (xs : List α) (M : Nat) (h : ∀ x, x ∈ xs → R.cnt x ≤ M) : Rep.cntL R xs ≤ xs.length * M := by
  induction xs with
  | nil => simp [Rep.cntL]
  | cons x xs ih =>
    have h1 := h x (by simp)
    have h2 := ih fun y hy => h y (by simp [hy])
    simp only [Rep.cntL, List.length_cons, Nat.add_mul, Nat.one_mul]
    omega
theorem cnt_secs {xs : List (List UInt8)} (hn : xs.length ≤ 1048576) (hm : ∀ l, l ∈ xs → l.length ≤ 1048576) : Rep.cntL byR xs ≤ 1099511627776 :=
  Nat.le_trans (cntL_bound byR xs 1048576 hm) (by omega)
theorem cnt_cache {xs : List Wr} (hn : xs.length ≤ 1048576) (hm : ∀ x, x ∈ xs → x.b.length ≤ 1048576) : Rep.cntL wrR xs ≤ 2199023255552 :=
  Nat.le_trans (cntL_bound wrR xs 1048577 (fun x hx => by have := hm x hx; show 1 + x.b.length ≤ _; omega)) (by omega)

theorem wr_inv {w : World} {base : Nat} {cs : List Value} {x : Wr} {f : List Nat} (h : wrR.own w base cs x f) : ∃ v, cs = [.int .i64 x.n, v] ∧ Owns w base 5 v x.b ∧ f = v.ownBlock.toList := by
  have hl : cs.length = 2 := Rep.len wrR (Rep.reads wrR h)
  obtain ⟨f1, f2, ⟨h1, hf1⟩, ⟨v, h2, hv, hfv⟩, hff, hnd⟩ := h
  match cs, hl with
  | [a, b], _ =>
    replace h1 : [a] = [.int .i64 x.n] := h1
    replace h2 : [b] = [v] := h2
    injection h1 with h1
    injection h2 with h2
    subst h1 h2 hf1
    exact ⟨b, rfl, hv, by simpa using hff.trans (by simpa using hfv)⟩

end Go.Proofs.Ytkpcjnamoejjjaa

namespace Go.Proofs.Ytkpcjnamoejjjaa
open Go.RowKit
set_option linter.unusedVariables false

/-- A disk of the call's own: its parts. -/
theorem disk_inv {w : World} {base : Nat} {cs : List Value} {d : Disk} {fp : List Nat} (h : diskR.own w base cs d fp) :
    ∃ v v' f f', cs = [v, v', .int .i64 d.fuse, .bool d.down] ∧ Rep.OwnRows byR 22 w base v d.secs f ∧ Rep.OwnRows wrR 42 w base v' d.cache f' ∧ fp = f ++ f' ∧ fp.Nodup := by
  have hl : cs.length = 4 := Rep.len diskR (Rep.reads diskR h)
  obtain ⟨f, f', ⟨v, h1, ho⟩, ⟨g, g', ⟨v', h2, ho'⟩, ⟨q, q', ⟨h3, hq⟩, ⟨h4, hq'⟩, hqq, _⟩, hgg, _⟩, hff, hn⟩ := h
  match cs, hl with
  | [a, b, e, u], _ =>
    replace h1 : [a] = [v] := h1
    replace h2 : [b] = [v'] := h2
    replace h3 : [e] = [.int .i64 d.fuse] := h3
    replace h4 : [u] = [.bool d.down] := h4
    injection h1 with h1
    injection h2 with h2
    injection h3 with h3
    injection h4 with h4
    subst h1 h2 h3 h4 hq hq'
    refine ⟨a, b, f, g, rfl, ho, ho', ?_, hn⟩
    rw [hff, hgg, hqq]
    simp

/-- The disk with its slices marked. -/
def markD (k : Nat) (d : Disk) : Disk := ⟨Rep.mkL byR k d.secs, Rep.mkL wrR (k + Rep.cntL byR d.secs) d.cache, d.fuse, d.down⟩
def cntD (d : Disk) : Nat := Rep.cntL byR d.secs + Rep.cntL wrR d.cache
theorem cntD_le {d : Disk} (h : Fits d) : cntD d ≤ 3298534883328 := by
  have h1 := cnt_secs h.1 h.2.1
  have h2 := cnt_cache h.2.2.1 h.2.2.2
  unfold cntD
  omega

end Go.Proofs.Ytkpcjnamoejjjaa
