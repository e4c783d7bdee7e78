/- A slice of bytes that is a window of a row of the call's own. -/
import Derived.Test.YtcelkmphdeaaeaaByR
namespace Go.Proofs.Ytcelkmphdeaaeaa
open Go.RowKit
set_option linter.unusedVariables false

/-- v holds l: it shows a part of a row of the call's own, from base on. -/
def Win (w : World) (base : Nat) (e : TypeId) (v : Value) (l : List UInt8) : Prop :=
  ∃ A c, v = .slice A l.length c ∧ l.length ≤ c ∧ c ≤ maxLen ∧ ((A = none ∧ l = []) ∨ ∃ g off cap n cells, A = some ⟨g, off, none⟩ ∧ w.ownsRow base e 1 (.slice (some ⟨g, 0, none⟩) n cap) n cells ∧ off + l.length ≤ n ∧ ∀ j u, (bys l)[j]? = some u → cells[off + j]? = some u)

section
variable {w w' : World} {base base' : Nat} {e : TypeId} {v : Value} {l : List UInt8}

theorem Owns.win (h : Owns w base e v l) : Win w base e v l := by
  obtain ⟨A, c, rfl, hc, hm, _, _⟩ := h.shape
  rcases id h.2 with ⟨hv, h0⟩ | ⟨g, cap, cur, hv, _⟩
  · injection hv with hv
    exact ⟨A, c, rfl, hc, hm, .inl ⟨hv, List.eq_nil_of_length_eq_zero h0⟩⟩
  · injection hv with hv hn hcc
    subst hv hcc
    exact ⟨_, _, rfl, hc, hm, .inr ⟨g, 0, _, l.length, bys l, rfl, h, by omega, fun j u hu => by simpa using hu⟩⟩

theorem Win.shape (h : Win w base e v l) : ∃ A c, v = .slice A l.length c ∧ l.length ≤ c ∧ c ≤ maxLen ∧ Reads w w.heap.size 1 A l.length (bys l) ∧ True := by
  obtain ⟨A, c, rfl, hc, hm, h⟩ := h
  refine ⟨A, c, rfl, hc, hm, ?_, trivial⟩
  rcases h with ⟨rfl, rfl⟩ | ⟨g, off, cap, n, cells, rfl, ho, hn, hj⟩
  · exact ⟨by simp [bys], fun h => by simp at h⟩
  · refine ⟨by simp [bys_length], fun h0 => ⟨⟨g, off, none⟩, rfl, (ho.lt g rfl).2, fun j u hu => ?_⟩⟩
    have hju := (List.getElem?_eq_some_iff.1 hu).1
    rw [bys_length] at hju
    have ha : (Addr.add ⟨g, off, none⟩ j) = ⟨g, off + j, none⟩ := by simp [Addr.add]
    rw [ha]
    rw [ho.cellAt (off + j) (by omega)]
    exact hj j u hu

theorem Win.lt (h : Win w base e v l) (k : Nat) (hk : v.ownBlock = some k) : base ≤ k ∧ k < w.heap.size := by
  obtain ⟨A, c, rfl, hc, hm, h⟩ := h
  rcases h with ⟨rfl, h0⟩ | ⟨g, off, cap, n, cells, rfl, ho, hn, hj⟩
  · cases hk
  · injection hk with hk
    subst hk
    exact ho.lt _ rfl

theorem Win.block (h : Win w base e v l) (hb : ∀ g, g ∈ v.ownBlock.toList → w'.heap[g]? = w.heap[g]?) : Win w' base e v l := by
  obtain ⟨A, c, rfl, hc, hm, h⟩ := h
  refine ⟨A, c, rfl, hc, hm, ?_⟩
  rcases h with ⟨rfl, h0⟩ | ⟨g, off, cap, n, cells, rfl, ho, hn, hj⟩
  · exact .inl ⟨rfl, h0⟩
  · exact .inr ⟨g, off, cap, n, cells, rfl, Rep.ownsRow_block ho (fun a ha => hb a (by simpa [Value.ownBlock] using ha)), hn, hj⟩

theorem Win.mono (h : Win w base e v l) (hb : base' ≤ base) : Win w base' e v l := by
  obtain ⟨A, c, rfl, hc, hm, h⟩ := h
  refine ⟨A, c, rfl, hc, hm, ?_⟩
  rcases h with ⟨rfl, h0⟩ | ⟨g, off, cap, n, cells, rfl, ho, hn, hj⟩
  · exact .inl ⟨rfl, h0⟩
  · exact .inr ⟨g, off, cap, n, cells, rfl, ownsRow_mono ho hb, hn, hj⟩

theorem Win.keep (h : Win w base e v l) (hb : Below w.heap.size w w') : Win w' base e v l :=
  h.block fun g hg => hb.block g (h.lt g (by simpa using hg)).2
theorem Win.setLow (h : Win w base e v l) {p : Addr} (hp : p.block < base) (u : Value) : Win (w.setCell p u) base e v l :=
  h.block fun g hg => heap_setCell_other _ _ _ _ (by have := (h.lt g (by simpa using hg)).1; omega)
/-- A part of a row of the call's own. -/
theorem Win.cut {g cap n off c : Nat} {cells : List Value} (ho : w.ownsRow base e 1 (.slice (some ⟨g, 0, none⟩) n cap) n cells) (hn : off + l.length ≤ n) (hc : l.length ≤ c) (hm : c ≤ maxLen) (hj : ∀ j u, (bys l)[j]? = some u → cells[off + j]? = some u) : Win w base e (.slice (some ⟨g, off, none⟩) l.length c) l :=
  ⟨_, _, rfl, hc, hm, .inr ⟨g, off, cap, n, cells, rfl, ho, hn, hj⟩⟩
end

def winR : Rep (List UInt8) where
  size := 1
  at_ := fun w B cs l => ∃ A c, cs = [.slice A l.length c] ∧ (l.length ≤ c ∧ c ≤ maxLen) ∧ Reads w B 1 A l.length (bys l)
  own := fun w base cs l fp => ∃ v, cs = [v] ∧ Win w base 5 v l ∧ fp = v.ownBlock.toList
  mark := fun k l => marks k l.length
  cnt := fun l => l.length
  len := fun ⟨_, _, h, _⟩ => by rw [h]; rfl
  keep := fun ⟨A, c, h, hc, hr⟩ hk => ⟨A, c, h, hc, hr.keep hk⟩
  more := fun ⟨A, c, h, hc, hr⟩ hB => ⟨A, c, h, hc, hr.more hB⟩
  reads := fun ⟨v, h, ho, _⟩ => by
    obtain ⟨A, c, rfl, hc, hm, hr, _⟩ := ho.shape
    exact ⟨A, c, h, ⟨hc, hm⟩, hr⟩
  kept := fun ⟨v, h, ho, hf⟩ hb => ⟨v, h, ho.block (fun g hg => hb g (by rw [hf]; exact hg)), hf⟩
  low := fun ⟨v, h, ho, hf⟩ hb => ⟨v, h, ho.mono hb, hf⟩
  lt := fun ⟨v, h, ho, hf⟩ g hg => by
    rw [hf] at hg
    exact ho.lt g (by simpa using hg)
  nodup := fun ⟨v, h, ho, hf⟩ => by rw [hf]; exact Rep.nodup_toList _

theorem win_opens : Rep.Opens Try.prog 22 winR (fun _ => True) := byt_opens

theorem bys_set_in {l : List UInt8} {k0 k : Nat} {cells : List Value} {off : Nat} (hk : k < l.length) (hlen : off + l.length ≤ cells.length) (h : ∀ j u, (bys (marked k0 l k))[j]? = some u → cells[off + j]? = some u) :
    ∀ j u, (bys (marked k0 l (k + 1)))[j]? = some u → (cells.set (off + k) (Value.int .u8 (((k0 : Int) + (k : Int)) % 256)))[off + j]? = some u := by
  intro j u hu
  rw [← marked_set hk, List.getElem?_set] at hu
  rw [List.getElem?_set]
  by_cases hkj : k = j
  · subst hkj
    rw [if_pos rfl] at hu
    rw [if_pos rfl, if_pos (by omega)]
    split at hu
    · exact hu
    · cases hu
  · rw [if_neg hkj] at hu
    rw [if_neg (by omega)]
    exact h j u hu

set_option maxHeartbeats 1000000 in
/-- Marks are written over all the bytes of a window. -/
theorem markByteS_win (v : Value) (k0 : Nat) (l : List UInt8) (w : World) (base : Nat) (h : Win w base 5 v l) (hn : l.length ≤ 140737488351232) (hk : k0 ≤ 140737488351232) :
    Calls Try.prog 53 #[v, .int .i64 k0] w fun e w' => e = .returned (.int .i64 (k0 + l.length : Nat)) ∧ Win w' base 5 v (marks k0 l.length) ∧ w.grownBy w' v.ownBlock := by
  obtain ⟨A, c, rfl, hc, hm, h⟩ := h
  rcases h with ⟨rfl, rfl⟩ | ⟨g, off, cap, n, cells, rfl, ho, hon, hj⟩
  · go_enter Try.func53, Try.ntmps53
    go_wp2
    refine wp_loop_rounds 1 ?_
    rw [rounds_succ]
    go_wp2
    go_ret
    exact ⟨by simp, ⟨none, c, by simp [marks_length], by simp [marks_length], hm, .inl ⟨rfl, by simp [marks]⟩⟩, World.grownBy.refl _ _⟩
  · have HJ := Lib.hid hj
    clear hj
    go_enter Try.func53, Try.ntmps53
    go_wp2
    go_loopw [1, 5] (fun q i wr => ∃ (k : Nat) (cs : List Value), k ≤ l.length ∧ i = .int .i64 k ∧ q = .int .i64 (k0 + k : Nat) ∧ w.grownBy wr (some g) ∧ wr.ownsRow base 5 1 (.slice (some ⟨g, 0, none⟩) n cap) n cs ∧ Hid (∀ j u, (bys (marked k0 l k))[j]? = some u → cs[off + j]? = some u)) (fun _ i _ => l.length - (intOf i).toNat)
    case atStart => exact ⟨0, cells, by omega, rfl, by simp, World.grownBy.refl _ _, ho, Lib.hid (by rw [marked_zero]; exact HJ.out)⟩
    case round =>
      obtain ⟨k, cs, hk, rfl, rfl, hg, hown, hcs⟩ := hrel
      clear ho HJ
      by_cases hlt : k < l.length
      · have hdst : wr.cell? ⟨g, off + k, none⟩ = some (.int .u8 ((l[k]).toNat : Int)) := (hown.cellAt (off + k) (by omega)).trans (hcs.out k _ (marked_get hlt))
        have hfr := hown.frozenAt (off + k)
        have hlen : off + l.length ≤ cs.length := by have := hown.1; omega
        have HN := Lib.hid (bys_set_in hlt hlen hcs.out)
        clear hlen hcs
        go_wp2
        go_roundw
        case rel =>
          have hst := hown.stored (off + k) (.int .u8 (((k0 : Int) + (k : Int)) % 256))
          exact ⟨k + 1, _, by omega, by go_num, by go_num, hg.trans hst.2, hst.1, HN⟩
        case measure => simp [intOf]; omega
      · have he : k = l.length := by omega
        subst he
        have HN : Hid (∀ j u, (bys (marks k0 l.length))[j]? = some u → cs[off + j]? = some u) := Lib.hid (by rw [← marked_all]; exact hcs.out)
        clear hcs
        go_wp2
        go_ret
        exact ⟨by go_num, ⟨some ⟨g, off, none⟩, c, by rw [marks_length], by rw [marks_length]; exact hc, hm, .inr ⟨g, off, cap, n, cs, rfl, hown, by rw [marks_length]; exact hon, HN.out⟩⟩, hg⟩

end Go.Proofs.Ytcelkmphdeaaeaa
