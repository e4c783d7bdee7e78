/- What the walks of the exact laws share (gen.py). -/
import Derived.Test.YtoaaogacaibedaaReadSecS
import Derived.Test.YtoaaogacaibedaaDiskOpen
import Derived.Deep.RegionHeld3
namespace Go.Proofs.Ytoaaogacaibedaa
open Go.RowKit
set_option linter.unusedVariables false

/-! ### a slice of bytes as data -/
def OkAny (l : List UInt8) : Prop := True
def FitsB (l : List UInt8) : Prop := l.length ≤ 1048576
theorem byte_at_shape {w : World} {B : Nat} {cs : List Value} {l : List UInt8} (h : byR.at_ w B cs l) : ∃ A c, cs = [.slice A l.length c] := by
  obtain ⟨A, c, rfl, _⟩ := h
  exact ⟨A, c, rfl⟩
theorem byte_own_shape {w : World} {base : Nat} {cs : List Value} {l : List UInt8} {fp : List Nat} (h : byR.own w base cs l fp) : ∃ A c, cs = [.slice A l.length c] := byte_at_shape (Rep.reads byR h)
theorem byte_cnt_le {l : List UInt8} (h : l.length ≤ 1048576) : l.length ≤ 8796093022208 := by omega

/-! ### a disk as data -/
def OkDisk (d : Disk) : Prop := (∀ x, x ∈ d.cache → (Lit.int .i64 x.n).wf = true) ∧ (Lit.int .i64 d.fuse).wf = true
theorem disk_at_shape {w : World} {B : Nat} {cs : List Value} {d : Disk} (h : diskR.at_ w B cs d) : ∃ A c A' c', cs = [.slice A d.secs.length c, .slice A' d.cache.length c', .int .i64 d.fuse, .bool d.down] := by
  obtain ⟨A, c, A', c', rfl, _⟩ := disk_cells h
  exact ⟨A, c, A', c', rfl⟩
theorem disk_own_shape {w : World} {base : Nat} {cs : List Value} {d : Disk} {fp : List Nat} (h : diskR.own w base cs d fp) : ∃ A c A' c', cs = [.slice A d.secs.length c, .slice A' d.cache.length c', .int .i64 d.fuse, .bool d.down] := disk_at_shape (Rep.reads diskR h)

theorem cntD_le2 {d : Disk} (h : Fits d) : cntD d ≤ 8796093022208 := Nat.le_trans (cntD_le h) (by omega)

theorem fits_diskNew (n : Int) : Fits (diskNew n) := by
  unfold diskNew
  split
  · exact ⟨by simp; omega, by simp, by simp, by simp⟩
  · exact ⟨by simp [diskNone], by simp [diskNone], by simp [diskNone], by simp [diskNone]⟩

theorem diskNew_rep (n : Int) (w : World) (hw : (Lit.int .i64 n).wf = true) : Calls Try.prog 46 #[.int .i64 n] w (RetDisk w (diskNew n)) := diskNew_any n w

theorem diskNewS_rep (n : Int) (w : World) (hw : (Lit.int .i64 n).wf = true) : Calls Try.prog 43 #[.int .i64 n] w (RetDiskAt w (diskNew n)) := (diskNewS_any n w).mono fun _ _ h => h.at

theorem diskOk_rep (cs : List Value) (d : Disk) (w : World) (h : diskR.at_ w w.heap.size cs d) (hs : Fits d) : Calls Try.prog 60 #[.agg cs.toArray] w (RetBool w (diskOk d)) := diskOk_any cs d w h hs

theorem diskOkS_rep (cs : List Value) (d : Disk) (w : World) (h : diskR.at_ w w.heap.size cs d) (hs : Fits d) : Calls Try.prog 57 #[.agg cs.toArray] w (RetBool w (diskOk d)) := diskOkS_any cs d w h hs

theorem byt_opens_ok : Rep.Opens Try.prog 22 byR OkAny := byt_opens


/-- Bytes of the call's own, as data. -/
def RetB (w : World) (l : List UInt8) (e : Ending) (w' : World) : Prop := ∃ A c fp, e = .returned (.slice A l.length c) ∧ byR.own w' w.heap.size [.slice A l.length c] l fp ∧ Below w.heap.size w w'

theorem RetBytes.b {w : World} {l : List UInt8} {e : Ending} {w' : World} (h : RetBytes w l e w') : RetB w l e w' := by
  obtain ⟨A, c, he, ho, hb⟩ := h
  exact ⟨A, c, _, he, ⟨_, rfl, ho, rfl⟩, hb⟩

def markB (k : Nat) (l : List UInt8) : List UInt8 := marks k l.length

theorem byte_of {w : World} {B : Nat} {cs : List Value} {l : List UInt8} (h : byR.at_ w B cs l) : ∃ A c, cs.headD undef = .slice A l.length c ∧ l.length ≤ c ∧ Reads w B 1 A l.length (bys l) := by
  obtain ⟨A, c, rfl, hc, hr⟩ := h
  exact ⟨A, c, rfl, hc.1, hr⟩

theorem toByteS_rep (cs : List Value) (l : List UInt8) (w : World) (h : byR.at_ w w.heap.size cs l) (hf : FitsB l) : Calls Try.prog 19 #[cs.headD undef] w (RetB w l) := by
  obtain ⟨A, c, hv, _, hr⟩ := byte_of h
  rw [hv]
  unfold FitsB at hf
  refine (toByteS_any A c l w hr (by omega)).mono ?_
  rintro e w' ⟨v, rfl, ho, hb⟩
  obtain ⟨A', c', rfl, _⟩ := ho.shape
  exact ⟨A', c', _, rfl, ⟨_, rfl, ho, rfl⟩, hb⟩

theorem eqByteS_rep (cs cs' : List Value) (l : List UInt8) (w : World) (h : byR.at_ w w.heap.size cs l) (h' : byR.at_ w w.heap.size cs' l) (hf : FitsB l) : Calls Try.prog 16 #[cs.headD undef, cs'.headD undef] w fun e w' => e = .returned (.bool true) ∧ Below w.heap.size w w' := by
  obtain ⟨A, c, hv, _, hr⟩ := byte_of h
  obtain ⟨A', c', hv', _, hr'⟩ := byte_of h'
  rw [hv, hv']
  unfold FitsB at hf
  refine (eqByteS_same A A' c c' l w hr hr' (by omega)).mono ?_
  rintro e w' ⟨rfl, n, rfl⟩
  exact ⟨rfl, belowD (Below.refl _ _) n⟩

theorem markByteS_rep (cs : List Value) (k0 : Nat) (l : List UInt8) (fp : List Nat) (w : World) (base : Nat) (h : byR.own w base cs l fp) (hf : FitsB l) (hk : k0 ≤ 8796094070784) :
    Calls Try.prog 17 #[cs.headD undef, .int .i64 k0] w fun e w' => e = .returned (.int .i64 (k0 + l.length : Nat)) ∧ byR.own w' base cs (markB k0 l) fp ∧ Rep.Only w w' fp := by
  obtain ⟨v, rfl, ho, rfl⟩ := h
  unfold FitsB at hf
  refine (markByteS_any v k0 l w base ho (by omega) (by omega)).mono ?_
  rintro e w' ⟨rfl, ho', hg⟩
  exact ⟨rfl, ⟨v, rfl, ho', rfl⟩, Rep.Only.of_grown hg (fun g hg => by simpa using hg)⟩

theorem heldByteS_rep (cs : List Value) (k0 : Nat) (l : List UInt8) (w : World) (h : byR.at_ w w.heap.size cs (markB k0 l)) (hf : FitsB l) (hk : k0 ≤ 1048576) :
    Calls Try.prog 18 #[cs.headD undef, .int .i64 k0] w fun e w' => e = .returned (.int .i64 (k0 + l.length : Nat)) ∧ Below w.heap.size w w' := by
  obtain ⟨A, c, hv, _, hr⟩ := byte_of h
  rw [hv]
  unfold FitsB at hf
  have hl : (markB k0 l).length = l.length := marks_length _ _
  rw [hl] at hr ⊢
  refine (heldByteS_any A c k0 l.length w hr (by omega) (by omega)).mono ?_
  rintro e w' ⟨rfl, rfl⟩
  exact ⟨rfl, Below.refl _ _⟩

theorem fits_readTo {d : Disk} (h : Fits d) (n : Int) (k : Nat) : (readTo d n k).length ≤ 1048576 := by
  unfold readTo
  split
  · rename_i j _
    rw [List.getD_eq_getElem?_getD]
    rcases hx : d.cache[j]? with _ | x
    · simp
    · exact h.2.2.2 x (List.mem_of_getElem? hx)
  · rw [List.getD_eq_getElem?_getD]
    rcases hx : d.secs[n.toNat]? with _ | x
    · simp
    · exact h.2.1 x (List.mem_of_getElem? hx)
theorem fits_readSec {d : Disk} (h : Fits d) (n : Int) : FitsB (readSec d n) := by
  by_cases hg : DiskGood d ∧ InSec d n
  · rw [readSec_yes hg.1 hg.2]; exact fits_readTo h n _
  · rw [readSec_no hg]; simp [FitsB]

end Go.Proofs.Ytoaaogacaibedaa
