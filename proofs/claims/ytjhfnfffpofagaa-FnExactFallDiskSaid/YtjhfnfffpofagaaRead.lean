/- ReadSec, of the program and of the model. -/
import Derived.Test.YtjhfnfffpofagaaDrive
namespace Go.Proofs.Ytjhfnfffpofagaa
open Go.RowKit Go.Maps
set_option linter.unusedVariables false

/-- What is read of sector n when the first k writes of the cache are counted. -/
def readTo (d : Disk) (n : Int) (k : Nat) : List UInt8 := match idxC (key d.cache) k n with | some j => (d.cache.getD j ⟨0, []⟩).b | none => d.secs.getD n.toNat []
theorem readTo_hit {d : Disk} {n : Int} {k j : Nat} {x : Wr} (h : idxC (key d.cache) k n = some j) (hx : d.cache[j]? = some x) : readTo d n k = x.b := by
  unfold readTo
  rw [h]
  show (d.cache.getD j ⟨0, []⟩).b = x.b
  rw [List.getD_eq_getElem?_getD, hx]
  rfl
theorem readTo_miss {d : Disk} {n : Int} {k : Nat} {l : List UInt8} (h : idxC (key d.cache) k n = none) (hx : d.secs[n.toNat]? = some l) : readTo d n k = l := by
  unfold readTo
  rw [h]
  show d.secs.getD n.toNat [] = l
  rw [List.getD_eq_getElem?_getD, hx]
  rfl
def InSec (d : Disk) (n : Int) : Prop := 0 ≤ n ∧ n < (d.secs.length : Int)
noncomputable def readSec (d : Disk) (n : Int) : List UInt8 := @ite _ (DiskGood d ∧ InSec d n) (Classical.propDecidable _) (readTo d n d.cache.length) []
theorem readSec_yes {d : Disk} {n : Int} (h : DiskGood d) (h2 : InSec d n) : readSec d n = readTo d n d.cache.length := by unfold readSec; exact @if_pos _ (Classical.propDecidable _) ⟨h, h2⟩ _ _ _
theorem readSec_no {d : Disk} {n : Int} (h : ¬ (DiskGood d ∧ InSec d n)) : readSec d n = [] := by unfold readSec; exact @if_neg _ (Classical.propDecidable _) h _ _ _

/-- 'v, ok := m[k]' at the walk. -/
theorem mapLook (w : World) {ops : Array Oper} {rest : List Oper} {o : Oper} {a : Act} {Q : Exit → Act → World → Prop} (hgd : o.guard = none) (m x : Operand) (hop : o.op = Op.lookup 66 m x true) (mb k : Nat) (cells : List Value) (idx : Int → Option Nat)
    (hm : a.eval m = .map (some mb)) (h : MapIs w mb k cells idx) (n : Int) (hx : a.eval x = .int .i64 n) (hn : (Lit.int .i64 n).wf = true) (val : Value) (b : Bool)
    (hv : (∃ j, idx n = some j ∧ val = cells.getD (2 * j + 1) undef ∧ b = true) ∨ (idx n = none ∧ val = .slice none 0 0 ∧ b = false))
    (hK : wpList Try.prog ops Q rest (a.put o.dst (.tuple #[val, .bool b])) w) : wpList Try.prog ops Q (o :: rest) a w := by
  obtain ⟨D, ho, hD, hi⟩ := h
  obtain ⟨h1, h2⟩ := hi n hn
  have hky := keyOf_int_mk (P := Try.prog) Try.underlying3 hn
  refine wpList_lookup_own_ok (P := Try.prog) (ops := ops) (rest := rest) (o := o) (a := a) (Q := Q) w hgd m x 66 hop 3 22 int_law Try.underlying66 heldR (zero_by w) (.held (.slice none 0 0)) [] rfl mb k D hm ho (.int .i64 n) (.int .i64 n) hx hky ?_
  intro v ps hvv
  have hv' : DataW.held v = D.atKey (.int .i64 n) (.held (.slice none 0 0)) := by
    have : (some (DataW.held v, ([] : List MemPlace))) = some (D.atKey (.int .i64 n) (.held (.slice none 0 0)), ps) := hvv
    injection this with this
    injection this
  rcases hv with ⟨j, hj, rfl, rfl⟩ | ⟨hj, rfl, rfl⟩
  · rw [h2 j hj] at hv'
    injection hv' with hv'
    subst hv'
    rw [h1, hj]
    exact hK
  · rw [hj] at h1
    rw [atKey_of_not_has h1] at hv'
    injection hv' with hv'
    subst hv'
    rw [h1]
    exact hK

set_option maxHeartbeats 1000000 in
/-- drive.read. -/
theorem driveRead_any (g mb m : Nat) (A : Option Addr) (c : Nat) (vc : Value) (d : Disk) (cells : List Value) (n : Int) (w : World) (hv : w.heap[g]? = some (.cells #[.slice A d.secs.length c, vc, .int .i64 d.fuse, .bool d.down, .map (some mb)] 68 (0, 0)))
    (hm : MapIs w mb m cells (idxC (key d.cache) d.cache.length)) (hr : Rep.RowsAt byR w w.heap.size A d.secs.length d.secs) (hlen : cells.length = d.cache.length * 2) (he : ∀ i x, d.cache[i]? = some x → wrR.at_ w w.heap.size (Rep.seg 2 i cells) x) (hn : InSec d n) (hf : Fits d) :
    Calls Try.prog 51 #[.pointer (some ⟨g, 0, none⟩), .int .i64 n] w (RetBytes w (readTo d n d.cache.length)) := by
  obtain ⟨h0, h1⟩ := hn
  obtain ⟨nn, rfl⟩ := Int.eq_ofNat_of_zero_le h0
  have hf1 := hf.1
  have hwf : (Lit.int .i64 (nn : Int)).wf = true := by exact WalkArith.wf_i64 (by omega)
  have c0 : w.cell? ⟨g, 0, none⟩ = some (.slice A d.secs.length c) := var_cell hv 0
  have c4 : w.cell? ⟨g, 4, none⟩ = some (.map (some mb)) := var_cell hv 4
  clear hv
  rcases hidx : idxC (key d.cache) d.cache.length (nn : Int) with _ | j
  · obtain ⟨b, off, A2, c2, l, rfl, hbl, hx, hcell, hlc, hrl⟩ := secs_elem hr (show nn < d.secs.length by omega)
    have hrd := readTo_miss hidx hx
    rw [hrd]
    have hl : l.length ≤ 1048576 := hf.2.1 l (List.mem_of_getElem? hx)
    have HI := Lib.hid hidx
    clear hidx hx hrd he
    go_enter Try.func51, Try.ntmps51
    go_wp2_with (at_lookup; go_must (refine mapLook w rfl (.tmp 11) (.tmp 12) rfl mb m cells _ rfl hm nn rfl hwf (.slice none 0 0) false (.inr ⟨HI.out, rfl, rfl⟩) ?_))
    refine (bclone_any A2 c2 l w hrl hl).mono ?_
    rintro e w3 ⟨A3, c3, rfl, hown3, hb3⟩
    go_wp2
    go_ret
    exact ⟨A3, c3, rfl, hown3, hb3⟩
  · obtain ⟨hj, hk⟩ := idxC_lt hidx
    obtain ⟨x, hx⟩ := Rep.getElem?_of_lt (xs := d.cache) rfl hj
    obtain ⟨A2, c2, hseg, hgd, hlc, hrl⟩ := wr_seg (he j x hx) (by omega)
    have hrd := readTo_hit hidx hx
    rw [hrd]
    have hl : x.b.length ≤ 1048576 := hf.2.2.2 x (List.mem_of_getElem? hx)
    have HI := Lib.hid hidx
    have HG := Lib.hid hgd
    clear hidx hx hrd hseg hgd hk he
    go_enter Try.func51, Try.ntmps51
    go_wp2_with (at_lookup; go_must (refine mapLook w rfl (.tmp 11) (.tmp 12) rfl mb m cells _ rfl hm nn rfl hwf (.slice A2 x.b.length c2) true (.inl ⟨j, HI.out, HG.out.symm, rfl⟩) ?_))
    refine (bclone_any A2 c2 x.b w hrl hl).mono ?_
    rintro e w3 ⟨A3, c3, rfl, hown3, hb3⟩
    go_wp2
    go_ret
    exact ⟨A3, c3, rfl, hown3, hb3⟩

end Go.Proofs.Ytjhfnfffpofagaa
