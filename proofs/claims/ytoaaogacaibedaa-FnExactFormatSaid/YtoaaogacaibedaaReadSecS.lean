/- A map from sector numbers to byte slices, and the drive that the program makes of a disk. ReadSec, of the program and of the model. ReadSec whole, of the program and of the model. ReadSec of the model. -/
import Derived.Test.YtoaaogacaibedaaCopy
import Derived.Maps.RangeWalk
import Derived.Maps.OwnSet
import Derived.Maps.Views
namespace Go.Proofs.Ytoaaogacaibedaa
open Go.RowKit Go.Maps
set_option linter.unusedVariables false

/-- The elements of a map as they are. -/
def heldR (v : Value) : Option (DataW Value × List MemPlace) := some (.held v, [])
theorem int_law : Keyed Try.prog 3 := int_keyed Try.underlying3
theorem zero_by (w : World) : (zeroValue 22).run Try.prog w = .ok (.slice none 0 0) w := by kernel_rfl

/-- The last of the first k places that is of the key i. -/
def idxC (p : Nat → Int → Bool) : Nat → Int → Option Nat
  | 0, _ => none
  | k + 1, i => if p k i = true then some k else idxC p k i
theorem idxC_lt {p : Nat → Int → Bool} {k j : Nat} {i : Int} (h : idxC p k i = some j) : j < k ∧ p j i = true := by
  induction k with
  | zero => cases h
  | succ k ih =>
    unfold idxC at h
    split at h
    · rename_i hp
      injection h with h
      subst h
      exact ⟨by omega, hp⟩
    · obtain ⟨h1, h2⟩ := ih h
      exact ⟨by omega, h2⟩

def key (cache : List Wr) (k : Nat) (i : Int) : Bool := match cache[k]? with | some x => x.n == i | none => false
theorem key_eq {cache : List Wr} {k : Nat} {x : Wr} (h : cache[k]? = some x) (i : Int) : key cache k i = (x.n == i) := by simp [key, h]

/-- Block mb is a map of at most m entries; at key i stands the second cell of the place 'idx i' of the cells. -/
def MapIs (w : World) (mb m : Nat) (cells : List Value) (idx : Int → Option Nat) : Prop :=
  ∃ D : DataW Value, w.ownsMap Try.prog 3 heldR mb m D ∧ IsMap D ∧ ∀ i, (Lit.int .i64 i).wf = true → has D (.int .i64 i) = (idx i).isSome ∧ ∀ j, idx i = some j → ∀ z, D.atKey (.int .i64 i) z = .held (cells.getD (2 * j + 1) undef)

theorem MapIs.of_block {w w' : World} {mb m : Nat} {cells : List Value} {idx : Int → Option Nat} (h : MapIs w mb m cells idx) (hb : w'.heap[mb]? = w.heap[mb]?) : MapIs w' mb m cells idx := by
  obtain ⟨D, ⟨es, clock, h1, h2, h3, h4⟩, hD, hi⟩ := h
  exact ⟨D, ⟨es, clock, hb.trans h1, h2, h3, h4⟩, hD, hi⟩
theorem MapIs.lt {w : World} {mb m : Nat} {cells : List Value} {idx : Int → Option Nat} (h : MapIs w mb m cells idx) : mb < w.heap.size := by
  obtain ⟨D, ho, _⟩ := h
  exact ho.lt
theorem MapIs.made (w : World) (cells : List Value) : MapIs (w.alloc (.map #[] 0)) w.heap.size 0 cells (fun _ => none) :=
  ⟨.map [], World.ownsMap_made _ _ _ _, isMap_empty, fun i _ => ⟨rfl, fun j hj => by cases hj⟩⟩
theorem MapIs.put {w' : World} {mb m k : Nat} {cells : List Value} {idx : Int → Option Nat} {n : Int} (hn : (Lit.int .i64 n).wf = true) {D : DataW Value} (hD : IsMap D)
    (hi : ∀ i, (Lit.int .i64 i).wf = true → has D (.int .i64 i) = (idx i).isSome ∧ ∀ j, idx i = some j → ∀ z, D.atKey (.int .i64 i) z = .held (cells.getD (2 * j + 1) undef))
    (ho : w'.ownsMap Try.prog 3 heldR mb m (D.put (.int .i64 n) (.held (cells.getD (2 * k + 1) undef)))) : MapIs w' mb m cells (fun i => if n = i then some k else idx i) := by
  refine ⟨_, ho, hD.put _ _, fun i hw => ?_⟩
  by_cases he : n = i
  · subst he
    refine ⟨by rw [has_put_same hD (by trivial)]; simp, fun j hj z => ?_⟩
    replace hj : (if n = n then some k else idx n) = some j := hj
    rw [if_pos rfl] at hj
    injection hj with hj
    subst hj
    exact atKey_put_same hD (by trivial) _ _
  · have hne : (Lit.int .i64 i) ≠ (Lit.int .i64 n) := fun h => he (by injection h with h1 h2; exact h2.symm)
    obtain ⟨h1, h2⟩ := hi i hw
    refine ⟨by show _ = (if n = i then some k else idx i).isSome; rw [has_put_other hne, if_neg he]; exact h1, fun j hj z => ?_⟩
    replace hj : (if n = i then some k else idx i) = some j := hj
    rw [if_neg he] at hj
    rw [atKey_put_other hne]
    exact h2 j hj z

theorem MapIs.weak {w : World} {mb m : Nat} {cells : List Value} {idx idx' : Int → Option Nat} (h : MapIs w mb m cells idx) (he : ∀ i, idx i = idx' i) : MapIs w mb m cells idx' := by
  have : idx = idx' := funext he
  subst this
  exact h

/-- 'm[k] = v' at the walk, for a map from integers to byte slices. -/
theorem mapPut (w : World) {ops : Array Oper} {rest : List Oper} {o : Oper} {a : Act} {Q : Exit → Act → World → Prop} (hgd : o.guard = none) (m x v : Operand) (hop : o.op = Op.mapUpdate 73 m x v) (mb k : Nat) (D : DataW Value)
    (hm : a.eval m = .map (some mb)) (ho : w.ownsMap Try.prog 3 heldR mb k D) (hk : k < maxLen) (n : Int) (val : Value) (hx : a.eval x = .int .i64 n) (hv : a.eval v = val) (hn : (Lit.int .i64 n).wf = true)
    (hK : ∀ w', w'.ownsMap Try.prog 3 heldR mb (k + 1) (D.put (.int .i64 n) (.held val)) → w.mapTurned w' mb → wpList Try.prog ops Q rest (a.put o.dst undef) w') : wpList Try.prog ops Q (o :: rest) a w := by
  have hky := keyOf_int_mk (P := Try.prog) Try.underlying3 hn
  exact wpList_mapUpdate_in (P := Try.prog) (ops := ops) (rest := rest) (o := o) (a := a) (Q := Q) w hgd m x v 73 hop 3 22 int_law Try.underlying73 heldR mb k D hm ho hk (.int .i64 n) val (.int .i64 n) hx hv hky (.held val) [] rfl hK

theorem grown_drewN' (w : World) : w.grownBy w.drew none := ⟨rfl, rfl, rfl, Nat.le_refl _, fun _ _ _ => rfl⟩

theorem reads_cells {w : World} {B size n k : Nat} {A : Option Addr} {cells : List Value} (hr : Reads w B size A n cells) (hk : k < n) (hs : 0 < size) :
    ∃ b off, A = some ⟨b, off, none⟩ ∧ b < B ∧ ∀ j u, (Rep.seg size k cells)[j]? = some u → w.cell? ⟨b, off + (k * size + j), none⟩ = some u := by
  obtain ⟨ad, hA, hb, hc⟩ := hr.2 (by omega)
  have hlen := hr.1
  have hpos : 0 < cells.length := by rw [hlen]; exact Nat.mul_pos (by omega) hs
  have h0 := hc 0 _ (List.getElem?_eq_getElem hpos)
  obtain ⟨b, off, spot⟩ := ad
  have hsp : spot = none := by simpa [Addr.add] using World.cell?_spot h0
  subst hsp
  refine ⟨b, off, hA, hb, fun j u hu => ?_⟩
  have hj : j < size := by
    rcases Nat.lt_or_ge j size with h' | h'
    · exact h'
    · rw [List.getElem?_eq_none (by rw [Rep.seg_length hlen hk]; omega)] at hu; cases hu
  rw [Rep.seg_get hj] at hu
  have := hc _ _ hu
  have e : (⟨b, off, none⟩ : Addr).add (k * size + j) = ⟨b, off + (k * size + j), none⟩ := by
    unfold Addr.add
    split <;> simp_all
  rwa [e] at this

/-- The cells of one write, of a row of writes. -/
theorem wr_seg {w : World} {B k : Nat} {cells : List Value} {x : Wr} (h : wrR.at_ w B (Rep.seg 2 k cells) x) (hl : 2 * k + 1 < cells.length) :
    ∃ A c, Rep.seg 2 k cells = [.int .i64 x.n, .slice A x.b.length c] ∧ cells.getD (2 * k + 1) undef = .slice A x.b.length c ∧ (x.b.length ≤ c ∧ c ≤ maxLen) ∧ Reads w B 1 A x.b.length (bys x.b) := by
  have hlx : (Rep.seg 2 k cells).length = 2 := Rep.len wrR h
  obtain ⟨hn1, A, c, hn2, hlc, hrl⟩ := h
  have hseg : Rep.seg 2 k cells = [.int .i64 x.n, .slice A x.b.length c] := by
    replace hn1 : (Rep.seg 2 k cells).take 1 = [.int .i64 x.n] := hn1
    replace hn2 : (Rep.seg 2 k cells).drop 1 = [.slice A x.b.length c] := hn2
    rw [← List.take_append_drop 1 (Rep.seg 2 k cells), hn1, hn2]
    rfl
  refine ⟨A, c, hseg, ?_, hlc, hrl⟩
  have h1 := Rep.seg_get (size := 2) (i := k) (j := 1) (cells := cells) (by omega)
  rw [hseg] at h1
  rw [List.getD_eq_getElem?_getD, show 2 * k + 1 = k * 2 + 1 by omega, ← h1]
  rfl

/-- A drive comes back: its block g, its map's block mb. -/
def RetDrive (w : World) (vs vc : Value) (d : Disk) (cells : List Value) (e : Ending) (w' : World) : Prop :=
  ∃ g mb, e = .returned (.pointer (some ⟨g, 0, none⟩)) ∧ w'.heap[g]? = some (.cells #[vs, vc, .int .i64 d.fuse, .bool d.down, .map (some mb)] 75 (0, 0)) ∧ MapIs w' mb d.cache.length cells (idxC (key d.cache) d.cache.length) ∧ Below w.heap.size w w' ∧ w.heap.size ≤ g ∧ w.heap.size ≤ mb ∧ g ≠ mb

set_option maxRecDepth 100000 in
set_option maxHeartbeats 2000000 in
theorem driveOf_any (A A' : Option Addr) (c c' : Nat) (d : Disk) (cells : List Value) (w : World) (hr : Reads w w.heap.size 2 A' d.cache.length cells) (he : ∀ i x, d.cache[i]? = some x → wrR.at_ w w.heap.size (Rep.seg 2 i cells) x) (hf : d.cache.length ≤ 1048576) (hwf : ∀ x, x ∈ d.cache → (Lit.int .i64 x.n).wf = true) :
    Calls Try.prog 61 #[.agg #[.slice A d.secs.length c, .slice A' d.cache.length c', .int .i64 d.fuse, .bool d.down]] w (RetDrive w (.slice A d.secs.length c) (.slice A' d.cache.length c') d cells) := by
  have hmm := @run_makeMap Try.prog
  have HE := Lib.hid he
  have HW := Lib.hid hwf
  clear he hwf
  go_enter Try.func61, Try.ntmps61
  go_wp2
  have hW0 : Below w.heap.size w (((w.alloc (.cells #[.slice A d.secs.length c, .slice A' d.cache.length c', .int .i64 d.fuse, .bool d.down] 37)).alloc (.map #[] 0)).alloc (.cells #[.slice A d.secs.length c, .slice A' d.cache.length c', .int .i64 d.fuse, .bool d.down, .map (some (w.heap.size + 1))] 75)) :=
    (((Below.refl w.heap.size w).alloc (Nat.le_refl _) _).alloc (by simp) _).alloc (by simp; omega) _
  have v0 : (((w.alloc (.cells #[.slice A d.secs.length c, .slice A' d.cache.length c', .int .i64 d.fuse, .bool d.down] 37)).alloc (.map #[] 0)).alloc (.cells #[.slice A d.secs.length c, .slice A' d.cache.length c', .int .i64 d.fuse, .bool d.down, .map (some (w.heap.size + 1))] 75)).heap[w.heap.size + 1 + 1]? = some (.cells #[.slice A d.secs.length c, .slice A' d.cache.length c', .int .i64 d.fuse, .bool d.down, .map (some (w.heap.size + 1))] 75 (0, 0)) :=
    heap_alloc_new' _ _ (by simp)
  have hm : MapIs (((w.alloc (.cells #[.slice A d.secs.length c, .slice A' d.cache.length c', .int .i64 d.fuse, .bool d.down] 37)).alloc (.map #[] 0)).alloc (.cells #[.slice A d.secs.length c, .slice A' d.cache.length c', .int .i64 d.fuse, .bool d.down, .map (some (w.heap.size + 1))] 75)) (w.heap.size + 1) 0 cells (idxC (key d.cache) 0) := by
    have h1 := MapIs.made (w.alloc (.cells #[.slice A d.secs.length c, .slice A' d.cache.length c', .int .i64 d.fuse, .bool d.down] 37)) cells
    rw [show (w.alloc (.cells #[.slice A d.secs.length c, .slice A' d.cache.length c', .int .i64 d.fuse, .bool d.down] 37)).heap.size = w.heap.size + 1 by simp] at h1
    exact (h1.of_block (Below.heap_alloc _ _ _ (by simp))).weak fun _ => rfl
  have hz : w.heap.size + 1 + 1 < (((w.alloc (.cells #[.slice A d.secs.length c, .slice A' d.cache.length c', .int .i64 d.fuse, .bool d.down] 37)).alloc (.map #[] 0)).alloc (.cells #[.slice A d.secs.length c, .slice A' d.cache.length c', .int .i64 d.fuse, .bool d.down, .map (some (w.heap.size + 1))] 75)).heap.size := by simp
  generalize hgW : ((w.alloc (.cells #[.slice A d.secs.length c, .slice A' d.cache.length c', .int .i64 d.fuse, .bool d.down] 37)).alloc (.map #[] 0)).alloc (.cells #[.slice A d.secs.length c, .slice A' d.cache.length c', .int .i64 d.fuse, .bool d.down, .map (some (w.heap.size + 1))] 75) = W1 at hW0 v0 hm hz ⊢
  clear hgW hmm
  have V0 := Lib.hid v0
  clear v0
  go_loopw [13] (fun i wr => ∃ k : Nat, k ≤ d.cache.length ∧ i = .int .i64 k ∧ Hid (wr.heap[w.heap.size + 1 + 1]? = some (.cells #[.slice A d.secs.length c, .slice A' d.cache.length c', .int .i64 d.fuse, .bool d.down, .map (some (w.heap.size + 1))] 75 (0, 0))) ∧ MapIs wr (w.heap.size + 1) k cells (idxC (key d.cache) k) ∧ Below w.heap.size w wr ∧ w.heap.size + 1 + 1 < wr.heap.size) (fun i _ => d.cache.length - (intOf i).toNat)
  case atStart => exact ⟨0, by omega, rfl, V0, hm, hW0, hz⟩
  case round =>
    obtain ⟨k, hk, rfl, v0, hm, hb, hz⟩ := hrel
    clear V0 hW0
    by_cases hlt : k < d.cache.length
    · obtain ⟨x, hx⟩ := Rep.getElem?_of_lt (xs := d.cache) rfl hlt
      have hwx := HW.out x (List.mem_of_getElem? hx)
      have hkx := Lib.hid (key_eq hx)
      obtain ⟨A2, c2, hseg, hgd, _, _⟩ := wr_seg (HE.out k x hx) (by have := hr.1; omega)
      obtain ⟨b, off, rfl, hbl, hcell⟩ := reads_cells hr hlt (by decide)
      rw [hseg] at hcell
      have e0 : wr.cell? ⟨b, off + k * 2, none⟩ = some (.int .i64 x.n) := (hb.cell hbl).trans (hcell 0 _ rfl)
      have e1 : wr.cell? ⟨b, off + k * 2 + 1, none⟩ = some (.slice A2 x.b.length c2) := (hb.cell hbl).trans (hcell 1 _ rfl)
      have HG := Lib.hid hgd
      clear hcell hseg hgd hx
      have i1 : (0 : Int) ≤ (k : Int) := by omega
      have i2 : (k : Int) < (d.cache.length : Int) := by omega
      go_wp2
      have hvw := heap_alloc_new wr (.cells #[.int .i64 x.n, .slice A2 x.b.length c2] 70)
      have hkA : ∀ a, a < wr.heap.size → (wr.alloc (.cells #[.int .i64 x.n, .slice A2 x.b.length c2] 70)).heap[a]? = wr.heap[a]? := fun a ha => Below.heap_alloc wr _ a ha
      have hBA : Below w.heap.size w (wr.alloc (.cells #[.int .i64 x.n, .slice A2 x.b.length c2] 70)) := hb.alloc hb.size _
      have hzA : (wr.alloc (.cells #[.int .i64 x.n, .slice A2 x.b.length c2] 70)).heap.size = wr.heap.size + 1 := by simp
      generalize hgw : wr.alloc (.cells #[.int .i64 x.n, .slice A2 x.b.length c2] 70) = wa at hkA hvw hBA hzA ⊢
      clear hgw e0 e1
      have vA := (hkA (w.heap.size + 1 + 1) hz).trans v0.out
      have mA := hm.of_block (w' := wa) (hkA (w.heap.size + 1) (by omega))
      have eM : wa.cell? ⟨w.heap.size + 1 + 1, 4, none⟩ = some (.map (some (w.heap.size + 1))) := var_cell vA 4
      have eN : wa.cell? ⟨wr.heap.size, 0, none⟩ = some (.int .i64 x.n) := var_cell hvw 0
      have eB : wa.cell? ⟨wr.heap.size, 1, none⟩ = some (.slice A2 x.b.length c2) := var_cell hvw 1
      obtain ⟨D, ho, hD, hi⟩ := mA
      have HI := Lib.hid hi
      have VA := Lib.hid vA
      have HKA := Lib.hid hkA
      clear hi vA hkA hvw
      refine wp_region_lex' 8 [0, 1, 2, 3, 4, 5, 6, 7] [8] (fun w' => w'.cell? ⟨w.heap.size + 1 + 1, 4, none⟩ = some (.map (some (w.heap.size + 1))) ∧ w'.cell? ⟨wr.heap.size, 0, none⟩ = some (.int .i64 x.n) ∧ w'.cell? ⟨wr.heap.size, 1, none⟩ = some (.slice A2 x.b.length c2)) (by kernel_rfl) (by kernel_rfl) ⟨eM, eN, eB⟩ ?_
      iterate 8 (refine LexR.cons rfl ?_ (fun w' hw => ?_) ?_; rotate_left; focus (obtain ⟨e1, e2, e3⟩ := hw; go_simp; (try exact rfl)); (try go_frame))
      refine LexR.nil (LexW.cons rfl ?_)
      go_frame
      have hkm : k < maxLen := by simp only [maxLen]; omega
      go_wp2_with (at_mapUpdate
                   go_must (refine mapPut wa.drew rfl (.tmp 20) (.tmp 22) (.tmp 24) rfl (w.heap.size + 1) k D rfl ho.drew hkm x.n (.slice A2 x.b.length c2) rfl rfl hwx ?_)
                   intro w3 hown3 hturn3)
      refine ⟨fun h => absurd rfl h, LexW.nil ?_⟩
      have hg3 := hturn3.grown
      have hB3 : Below w.heap.size w w3 := hBA.grown ((World.grownBy.but (grown_drewN' wa) _).trans hg3) hBA.size (fun j hj => by injection hj with hj; omega)
      rw [← HG.out] at hown3
      have hM3 := (MapIs.put (k := k) hwx hD HI.out hown3).weak (idx' := idxC (key d.cache) (k + 1)) (fun i => by
        show (if x.n = i then some k else idxC (key d.cache) k i) = idxC (key d.cache) (k + 1) i
        have e1 : idxC (key d.cache) (k + 1) i = if key d.cache k i = true then some k else idxC (key d.cache) k i := rfl
        rw [e1, hkx.out i]
        by_cases he : x.n = i
        · rw [if_pos he, if_pos (by simpa using he)]
        · rw [if_neg he, if_neg (by simpa using he)])
      have V3 := Lib.hid ((hg3.block (w.heap.size + 1 + 1) (by show _ < wa.heap.size; omega) (by simp)).trans VA.out)
      have hz3 : w.heap.size + 1 + 1 < w3.heap.size := by have := hg3.size; have e : wa.drew.heap.size = wa.heap.size := rfl; omega
      clear hg3 hturn3 hown3
      go_wp2_with fail
      go_roundw
      case rel => exact ⟨k + 1, by omega, by go_num, V3, hM3, hB3, hz3⟩
      case measure => simp [intOf]; omega
    · have he : k = d.cache.length := by omega
      subst he
      go_wp2
      go_ret
      exact ⟨w.heap.size + 1 + 1, w.heap.size + 1, rfl, v0.out, hm, hb, by omega, by omega, by omega⟩

end Go.Proofs.Ytoaaogacaibedaa

namespace Go.Proofs.Ytoaaogacaibedaa
open Go.RowKit Go.Maps
set_option linter.unusedVariables false

/-- What is read of sector n when the first k writes of the cache are counted. -/
def readTo (d : Disk) (n : Int) (k : Nat) : List UInt8 := match idxC (key d.cache) k n with | some j => (d.cache.getD j ⟨0, []⟩).b | none => d.secs.getD n.toNat []
theorem readTo_hit {d : Disk} {n : Int} {k j : Nat} {x : Wr} (h : idxC (key d.cache) k n = some j) (hx : d.cache[j]? = some x) : readTo d n k = x.b := by
  unfold readTo
  rw [h]
  show (d.cache.getD j ⟨0, []⟩).b = x.b
  rw [List.getD_eq_getElem?_getD, hx]
  rfl
theorem readTo_miss {d : Disk} {n : Int} {k : Nat} {l : List UInt8} (h : idxC (key d.cache) k n = none) (hx : d.secs[n.toNat]? = some l) : readTo d n k = l := by
  unfold readTo
  rw [h]
  show d.secs.getD n.toNat [] = l
  rw [List.getD_eq_getElem?_getD, hx]
  rfl
def InSec (d : Disk) (n : Int) : Prop := 0 ≤ n ∧ n < (d.secs.length : Int)
noncomputable def readSec (d : Disk) (n : Int) : List UInt8 := @ite _ (DiskGood d ∧ InSec d n) (Classical.propDecidable _) (readTo d n d.cache.length) []
theorem readSec_yes {d : Disk} {n : Int} (h : DiskGood d) (h2 : InSec d n) : readSec d n = readTo d n d.cache.length := by unfold readSec; exact @if_pos _ (Classical.propDecidable _) ⟨h, h2⟩ _ _ _
theorem readSec_no {d : Disk} {n : Int} (h : ¬ (DiskGood d ∧ InSec d n)) : readSec d n = [] := by unfold readSec; exact @if_neg _ (Classical.propDecidable _) h _ _ _

/-- 'v, ok := m[k]' at the walk. -/
theorem mapLook (w : World) {ops : Array Oper} {rest : List Oper} {o : Oper} {a : Act} {Q : Exit → Act → World → Prop} (hgd : o.guard = none) (m x : Operand) (hop : o.op = Op.lookup 73 m x true) (mb k : Nat) (cells : List Value) (idx : Int → Option Nat)
    (hm : a.eval m = .map (some mb)) (h : MapIs w mb k cells idx) (n : Int) (hx : a.eval x = .int .i64 n) (hn : (Lit.int .i64 n).wf = true) (val : Value) (b : Bool)
    (hv : (∃ j, idx n = some j ∧ val = cells.getD (2 * j + 1) undef ∧ b = true) ∨ (idx n = none ∧ val = .slice none 0 0 ∧ b = false))
    (hK : wpList Try.prog ops Q rest (a.put o.dst (.tuple #[val, .bool b])) w) : wpList Try.prog ops Q (o :: rest) a w := by
  obtain ⟨D, ho, hD, hi⟩ := h
  obtain ⟨h1, h2⟩ := hi n hn
  have hky := keyOf_int_mk (P := Try.prog) Try.underlying3 hn
  refine wpList_lookup_own_ok (P := Try.prog) (ops := ops) (rest := rest) (o := o) (a := a) (Q := Q) w hgd m x 73 hop 3 22 int_law Try.underlying73 heldR (zero_by w) (.held (.slice none 0 0)) [] rfl mb k D hm ho (.int .i64 n) (.int .i64 n) hx hky ?_
  intro v ps hvv
  have hv' : DataW.held v = D.atKey (.int .i64 n) (.held (.slice none 0 0)) := by
    have : (some (DataW.held v, ([] : List MemPlace))) = some (D.atKey (.int .i64 n) (.held (.slice none 0 0)), ps) := hvv
    exact (Prod.mk.inj (Option.some.inj this)).1
  rcases hv with ⟨j, hj, rfl, rfl⟩ | ⟨hj, rfl, rfl⟩
  · rw [h2 j hj] at hv'
    injection hv' with hv'
    subst hv'
    rw [h1, hj]
    exact hK
  · rw [hj] at h1
    rw [atKey_of_not_has h1] at hv'
    injection hv' with hv'
    subst hv'
    rw [h1]
    exact hK

end Go.Proofs.Ytoaaogacaibedaa

namespace Go.Proofs.Ytoaaogacaibedaa
open Go.RowKit Go.Maps
set_option linter.unusedVariables false

theorem at_mk {w : World} {B : Nat} {A A' : Option Addr} {c c' : Nat} {d : Disk} (hc : d.secs.length ≤ c ∧ c ≤ maxLen) (hc' : d.cache.length ≤ c' ∧ c' ≤ maxLen) (hr : Rep.RowsAt byR w B A d.secs.length d.secs) (hr' : Rep.RowsAt wrR w B A' d.cache.length d.cache) :
    diskR.at_ w B [.slice A d.secs.length c, .slice A' d.cache.length c', .int .i64 d.fuse, .bool d.down] d := ⟨⟨A, c, rfl, hc, hr⟩, ⟨A', c', rfl, hc', hr'⟩, rfl, rfl⟩

theorem wf_key {d : Disk} (h : DiskGood d) : ∀ x, x ∈ d.cache → (Lit.int .i64 x.n).wf = true := fun x hx => by
  have h1 := h.2.2.1 x hx
  have h2 := h.1.2.1
  obtain ⟨a, b, _⟩ := h1
  exact WalkArith.wf_i64 (by omega)

end Go.Proofs.Ytoaaogacaibedaa

namespace Go.Proofs.Ytoaaogacaibedaa
open Go.RowKit Go.Maps
set_option linter.unusedVariables false

end Go.Proofs.Ytoaaogacaibedaa
