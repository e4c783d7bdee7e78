/- Lists of sockets in the exact laws (gen.py). -/
import Derived.Test.YtcelkmphdeaaeaaMSock
import Derived.Test.YtcelkmphdeaaeaaSocksO
import Derived.Test.YtcelkmphdeaaeaaExactB
namespace Go.Proofs.Ytcelkmphdeaaeaa
open Go.RowKit
set_option linter.unusedVariables false

def OkSkS (xs : List Sk) : Prop := ∀ x, x ∈ xs → OkSk x
theorem skS_opens_ok : Rep.Opens Try.prog 61 skSR OkSkS := skS_opens
theorem skS_at_shape {w : World} {B : Nat} {cs : List Value} {xs : List Sk} (h : skSR.at_ w B cs xs) : ∃ A c, cs = [.slice A xs.length c] := by
  obtain ⟨A, c, rfl, _⟩ := h
  exact ⟨A, c, rfl⟩
theorem skS_own_shape {w : World} {base : Nat} {cs : List Value} {xs : List Sk} {fp : List Nat} (h : skSR.own w base cs xs fp) : ∃ A c, cs = [.slice A xs.length c] := skS_at_shape (Rep.reads skSR h)
theorem skS_of {w : World} {B : Nat} {cs : List Value} {xs : List Sk} (h : skSR.at_ w B cs xs) : ∃ A c, cs.headD undef = .slice A xs.length c ∧ xs.length ≤ c ∧ c ≤ maxLen ∧ Rep.RowsAt skR w B A xs.length xs := by
  obtain ⟨A, c, rfl, hc, hr⟩ := h
  exact ⟨A, c, rfl, hc.1, hc.2, hr⟩
def RetSkSR (w : World) (xs : List Sk) (e : Ending) (w' : World) : Prop := ∃ A c fp, e = .returned (.slice A xs.length c) ∧ skSR.own w' w.heap.size [.slice A xs.length c] xs fp ∧ Below w.heap.size w w'
theorem szSkS_rep (cs : List Value) (xs : List Sk) (left : Nat) (w : World) (h : skSR.at_ w w.heap.size cs xs) (hl : left ≤ 1048576) : Calls Try.prog 45 #[cs.headD undef, .int .i64 left] w (RoomB (RoomSkS xs) left w) := by
  obtain ⟨A, c, hv, h1, h2, hr⟩ := skS_of h
  rw [hv]
  exact szSkS_room A c xs left w hr (Nat.le_trans h1 h2) hl
theorem toSkS_rep (cs : List Value) (xs : List Sk) (w : World) (h : skSR.at_ w w.heap.size cs xs) (hs : FitsSkS xs) : Calls Try.prog 46 #[cs.headD undef] w (RetSkSR w xs) := by
  obtain ⟨A, c, hv, h1, h2, hr⟩ := skS_of h
  rw [hv]
  exact (toSkS_any A c xs w hr hs).mono fun e w' ⟨A', c', fp, he, ho, hb⟩ => ⟨A', c', fp, he, ⟨_, rfl, ho⟩, hb⟩
theorem eqSkS_rep (cs cs' : List Value) (xs : List Sk) (w : World) (h : skSR.at_ w w.heap.size cs xs) (h' : skSR.at_ w w.heap.size cs' xs) (hs : FitsSkS xs) : Calls Try.prog 47 #[cs.headD undef, cs'.headD undef] w fun e w' => e = .returned (.bool true) ∧ Below w.heap.size w w' := by
  obtain ⟨A, c, hv, _, _, hr⟩ := skS_of h
  obtain ⟨A', c', hv', _, _, hr'⟩ := skS_of h'
  rw [hv, hv']
  exact eqSkS_same A A' c c' xs w hr hr' hs
def atP (xs : List Sk) (id : Int) : Int := atF id xs 0
theorem sockAtS_rep (cs : List Value) (xs : List Sk) (id : Int) (w : World) (h : skSR.at_ w w.heap.size cs xs) (hs : RoomSkS xs) (hi : (Lit.int .i64 id).wf = true) : Calls Try.prog 48 #[cs.headD undef, .int .i64 id] w fun e w' => e = .returned (.int .i64 (atP xs id)) ∧ Below w.heap.size w w' := by
  obtain ⟨A, c, hv, h1, h2, hr⟩ := skS_of h
  rw [hv]
  exact sockAtS_any A c xs id w hr (Nat.le_trans h1 h2)
theorem sockAt_rep (cs : List Value) (xs : List Sk) (id : Int) (w : World) (h : skSR.at_ w w.heap.size cs xs) (hs : RoomSkS xs) (hi : (Lit.int .i64 id).wf = true) : Calls Try.prog 49 #[cs.headD undef, .int .i64 id] w fun e w' => e = .returned (.int .i64 (atP xs id)) ∧ Below w.heap.size w w' := by
  obtain ⟨A, c, hv, h1, h2, hr⟩ := skS_of h
  rw [hv]
  exact sockAt_any A c xs id w hr (Nat.le_trans h1 h2)
theorem socksOkS_rep (cs : List Value) (xs : List Sk) (w : World) (h : skSR.at_ w w.heap.size cs xs) (hs : RoomSkS xs) : Calls Try.prog 29 #[cs.headD undef] w (RetBool w (socksB xs)) := by
  obtain ⟨A, c, hv, h1, h2, hr⟩ := skS_of h
  rw [hv]
  exact socksOkS_any A c xs w hr (Nat.le_trans h1 h2)
theorem socksOk_rep (cs : List Value) (xs : List Sk) (w : World) (h : skSR.at_ w w.heap.size cs xs) (hs : RoomSkS xs) : Calls Try.prog 28 #[cs.headD undef] w (RetBool w (socksB xs)) := by
  obtain ⟨A, c, hv, h1, h2, hr⟩ := skS_of h
  rw [hv]
  exact socksOk_any A c xs w hr (Nat.le_trans h1 h2)

theorem markSkS_rep (cs : List Value) (k0 : Nat) (xs : List Sk) (fp : List Nat) (w : World) (base : Nat) (h : skSR.own w base cs xs fp) (hs : FitsSkS xs) (hk0 : k0 ≤ 4398046511104) :
    Calls Try.prog 60 #[cs.headD undef, .int .i64 k0] w fun e w' => e = .returned (.int .i64 (k0 + Rep.cntL skR xs : Nat)) ∧ skSR.own w' base cs (Rep.mkL skR k0 xs) fp ∧ Rep.Only w w' fp := by
  obtain ⟨v, rfl, ho⟩ := h
  exact (markSkS_any v k0 xs fp w base ho hs hk0).mono fun e w' ⟨he, ho', h⟩ => ⟨he, ⟨v, rfl, ho'⟩, h⟩
theorem heldSkS_rep (cs : List Value) (k0 : Nat) (xs : List Sk) (w : World) (h : skSR.at_ w w.heap.size cs (Rep.mkL skR k0 xs)) (hs : FitsSkS xs) (hk0 : k0 ≤ 4398046511104) :
    Calls Try.prog 61 #[cs.headD undef, .int .i64 k0] w fun e w' => e = .returned (.int .i64 (k0 + Rep.cntL skR xs : Nat)) ∧ Below w.heap.size w w' := by
  obtain ⟨A, c, hv, h1, h2, hr⟩ := skS_of h
  rw [hv]
  have hl : (Rep.mkL skR k0 xs).length = xs.length := Rep.mkL_length _ _ _
  rw [hl] at hr ⊢
  exact (heldSkS_any A c k0 xs w hr hs hk0).mono fun e w' ⟨he, h⟩ => ⟨he, by rw [← h]; exact Below.refl _ _⟩

end Go.Proofs.Ytcelkmphdeaaeaa
