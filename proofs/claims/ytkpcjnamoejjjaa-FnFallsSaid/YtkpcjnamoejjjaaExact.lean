/- What the walks of the exact laws share (gen.py). -/
import Derived.Test.YtkpcjnamoejjjaaReadSecS
import Derived.Test.YtkpcjnamoejjjaaDiskOpen
import Derived.Deep.RegionHeld3
namespace Go.Proofs.Ytkpcjnamoejjjaa
open Go.RowKit
set_option linter.unusedVariables false

theorem Rep.only_of_below {w w' : World} (h : Below w.heap.size w w') : Rep.Only w w' [] := ⟨h.os, h.tape, h.output, h.size, fun k hk _ => h.block k hk⟩
theorem Rep.only_drew (w : World) : Rep.Only w w.drew [] := ⟨rfl, rfl, rfl, Nat.le_refl _, fun _ _ _ => rfl⟩
theorem Rep.only_alloc (w : World) (o : Obj) : Rep.Only w (w.alloc o) [] := Rep.only_of_below ((Below.refl _ _).alloc (Nat.le_refl _) o)
theorem Rep.var_only {w w' : World} {g : Nat} {o : Obj} {fp : List Nat} (h : Hid (w.heap[g]? = some o)) (ho : Rep.Only w w' fp) (hg : g < w.heap.size) (hn : g ∉ fp) : Hid (w'.heap[g]? = some o) := Lib.hid ((ho.block g hg hn).trans h.out)

/-! ### a slice of bytes as data -/
def OkAny (l : List UInt8) : Prop := True
def FitsB (l : List UInt8) : Prop := l.length ≤ 1048576
theorem byte_at_shape {w : World} {B : Nat} {cs : List Value} {l : List UInt8} (h : byR.at_ w B cs l) : ∃ A c, cs = [.slice A l.length c] := by
  obtain ⟨A, c, rfl, _⟩ := h
  exact ⟨A, c, rfl⟩
theorem byte_own_shape {w : World} {base : Nat} {cs : List Value} {l : List UInt8} {fp : List Nat} (h : byR.own w base cs l fp) : ∃ A c, cs = [.slice A l.length c] := byte_at_shape (Rep.reads byR h)
theorem byte_cnt_le {l : List UInt8} (h : l.length ≤ 1048576) : l.length ≤ 8796093022208 := by omega

/-! ### a disk as data -/
def OkDisk (d : Disk) : Prop := (∀ x, x ∈ d.cache → (Lit.int .i64 x.n).wf = true) ∧ (Lit.int .i64 d.fuse).wf = true
theorem disk_at_shape {w : World} {B : Nat} {cs : List Value} {d : Disk} (h : diskR.at_ w B cs d) : ∃ A c A' c', cs = [.slice A d.secs.length c, .slice A' d.cache.length c', .int .i64 d.fuse, .bool d.down] := by
  obtain ⟨A, c, A', c', rfl, _⟩ := disk_cells h
  exact ⟨A, c, A', c', rfl⟩
theorem disk_own_shape {w : World} {base : Nat} {cs : List Value} {d : Disk} {fp : List Nat} (h : diskR.own w base cs d fp) : ∃ A c A' c', cs = [.slice A d.secs.length c, .slice A' d.cache.length c', .int .i64 d.fuse, .bool d.down] := disk_at_shape (Rep.reads diskR h)

theorem cntD_le2 {d : Disk} (h : Fits d) : cntD d ≤ 8796093022208 := Nat.le_trans (cntD_le h) (by omega)

theorem fits_diskNew (n : Int) : Fits (diskNew n) := by
  unfold diskNew
  split
  · exact ⟨by simp; omega, by simp, by simp, by simp⟩
  · exact ⟨by simp [diskNone], by simp [diskNone], by simp [diskNone], by simp [diskNone]⟩

theorem diskNewS_rep (n : Int) (w : World) (hw : (Lit.int .i64 n).wf = true) : Calls Try.prog 61 #[.int .i64 n] w (RetDiskAt w (diskNew n)) := (diskNewS_any n w).mono fun _ _ h => h.at

theorem diskOk_rep (cs : List Value) (d : Disk) (w : World) (h : diskR.at_ w w.heap.size cs d) (hs : Fits d) : Calls Try.prog 11 #[.agg cs.toArray] w (RetBool w (diskOk d)) := diskOk_any cs d w h hs

theorem diskOkS_rep (cs : List Value) (d : Disk) (w : World) (h : diskR.at_ w w.heap.size cs d) (hs : Fits d) : Calls Try.prog 12 #[.agg cs.toArray] w (RetBool w (diskOk d)) := diskOkS_any cs d w h hs

theorem byt_opens_ok : Rep.Opens Try.prog 22 byR OkAny := byt_opens


/-- Bytes of the call's own, as data. -/
def RetB (w : World) (l : List UInt8) (e : Ending) (w' : World) : Prop := ∃ A c fp, e = .returned (.slice A l.length c) ∧ byR.own w' w.heap.size [.slice A l.length c] l fp ∧ Below w.heap.size w w'

theorem RetBytes.b {w : World} {l : List UInt8} {e : Ending} {w' : World} (h : RetBytes w l e w') : RetB w l e w' := by
  obtain ⟨A, c, he, ho, hb⟩ := h
  exact ⟨A, c, _, he, ⟨_, rfl, ho, rfl⟩, hb⟩

def markB (k : Nat) (l : List UInt8) : List UInt8 := marks k l.length

theorem byte_of {w : World} {B : Nat} {cs : List Value} {l : List UInt8} (h : byR.at_ w B cs l) : ∃ A c, cs.headD undef = .slice A l.length c ∧ l.length ≤ c ∧ Reads w B 1 A l.length (bys l) := by
  obtain ⟨A, c, rfl, hc, hr⟩ := h
  exact ⟨A, c, rfl, hc.1, hr⟩

theorem fits_readTo {d : Disk} (h : Fits d) (n : Int) (k : Nat) : (readTo d n k).length ≤ 1048576 := by
  unfold readTo
  split
  · rename_i j _
    rw [List.getD_eq_getElem?_getD]
    rcases hx : d.cache[j]? with _ | x
    · simp
    · exact h.2.2.2 x (List.mem_of_getElem? hx)
  · rw [List.getD_eq_getElem?_getD]
    rcases hx : d.secs[n.toNat]? with _ | x
    · simp
    · exact h.2.1 x (List.mem_of_getElem? hx)
theorem fits_readSec {d : Disk} (h : Fits d) (n : Int) : FitsB (readSec d n) := by
  by_cases hg : DiskGood d ∧ InSec d n
  · rw [readSec_yes hg.1 hg.2]; exact fits_readTo h n _
  · rw [readSec_no hg]; simp [FitsB]

theorem readSec_rep (cs : List Value) (d : Disk) (n : Int) (w : World) (h : diskR.at_ w w.heap.size cs d) (hf : Fits d) (hw : (Lit.int .i64 n).wf = true) : Calls Try.prog 16 #[.agg cs.toArray, .int .i64 n] w (RetB w (readSec d n)) := (readSec_any cs d n w h hf).mono fun _ _ h => h.b

end Go.Proofs.Ytkpcjnamoejjjaa
