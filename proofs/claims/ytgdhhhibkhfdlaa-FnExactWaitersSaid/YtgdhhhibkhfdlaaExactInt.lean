/- Lists of ints in the exact laws: their memory, compared, marked, found again. -/
import Derived.Test.YtgdhhhibkhfdlaaInts
import Derived.Test.YtgdhhhibkhfdlaaExactB
namespace Go.Proofs.Ytgdhhhibkhfdlaa
open Go.RowKit
set_option linter.unusedVariables false
set_option maxRecDepth 100000

def markI (k : Nat) (l : List Int) : List Int := (List.range l.length).map fun i => ((k + i : Nat) : Int)
theorem markI_len (k : Nat) (l : List Int) : (markI k l).length = l.length := by simp [markI]
theorem markI_get {k i : Nat} {l : List Int} (h : i < l.length) : (markI k l)[i]? = some ((k + i : Nat) : Int) := by
  unfold markI; simp [h]
def intsR : Rep (List Int) where
  size := 1
  at_ := fun w B cs l => ∃ A c, cs = [.slice A l.length c] ∧ (l.length ≤ c ∧ c ≤ maxLen) ∧ Reads w B 1 A l.length (iV l)
  own := fun w base cs l fp => ∃ v, cs = [v] ∧ IRow w base v l ∧ fp = v.ownBlock.toList
  mark := markI
  cnt := fun l => l.length
  len := fun ⟨_, _, h, _⟩ => by rw [h]; rfl
  keep := fun ⟨A, c, h, hc, hr⟩ hk => ⟨A, c, h, hc, hr.keep hk⟩
  more := fun ⟨A, c, h, hc, hr⟩ hB => ⟨A, c, h, hc, hr.more hB⟩
  reads := fun ⟨v, h, ho, _⟩ => by
    obtain ⟨A, c, rfl, hc, hm, hr⟩ := ho.shape
    exact ⟨A, c, h, ⟨hc, hm⟩, hr⟩
  kept := fun ⟨v, h, ho, hf⟩ hb => ⟨v, h, Rep.ownsRow_block ho (fun g hg => hb g (by rw [hf]; exact hg)), hf⟩
  low := fun ⟨v, h, ho, hf⟩ hb => ⟨v, h, ho.low hb, hf⟩
  lt := fun ⟨v, h, ho, hf⟩ g hg => by
    rw [hf] at hg
    exact ho.lt g (by simpa using hg)
  nodup := fun ⟨v, h, ho, hf⟩ => by rw [hf]; exact Rep.nodup_toList _
theorem ints_at_shape {w : World} {B : Nat} {cs : List Value} {l : List Int} (h : intsR.at_ w B cs l) : ∃ A c, cs = [.slice A l.length c] := by
  obtain ⟨A, c, rfl, _⟩ := h
  exact ⟨A, c, rfl⟩
theorem ints_own_shape {w : World} {base : Nat} {cs : List Value} {l : List Int} {fp : List Nat} (h : intsR.own w base cs l fp) : ∃ A c, cs = [.slice A l.length c] := ints_at_shape (Rep.reads intsR h)
def FitsI (l : List Int) : Prop := l.length ≤ 1048576
theorem ints_cnt_le {l : List Int} (h : FitsI l) : intsR.cnt l ≤ 8796093022208 := by
  have : intsR.cnt l = l.length := rfl
  unfold FitsI at h; omega
def RetIS (w : World) (l : List Int) (e : Ending) (w' : World) : Prop := ∃ A c fp, e = .returned (.slice A l.length c) ∧ intsR.own w' w.heap.size [.slice A l.length c] l fp ∧ Below w.heap.size w w'
theorem RetI.ints {w : World} {l : List Int} {e : Ending} {w' : World} (h : RetI w l e w') : RetIS w l e w' := by
  obtain ⟨v, he, ho, hb⟩ := h
  obtain ⟨A, c, rfl, _⟩ := ho.shape
  exact ⟨A, c, _, he, ⟨_, rfl, ho, rfl⟩, hb⟩
/-- One int of a list that is read. -/
theorem ints_cell {w : World} {B : Nat} {A : Option Addr} {n k : Nat} {l : List Int} {x : Int} (h : Reads w B 1 A n (iV l)) (hk : k < n) (hx : l[k]? = some x) : ∃ b off, A = some ⟨b, off, none⟩ ∧ b < B ∧ w.cell? ⟨b, off + k, none⟩ = some (.int .i64 x) := by
  obtain ⟨ad0, v0, hA, _, _, hc0⟩ := h.at_ (k := 0) (by omega)
  obtain ⟨ad, u, rfl, hb, hu, hc⟩ := h.at_ hk
  injection hA with hA
  subst hA
  rw [iV_get hx] at hu
  injection hu with hu
  subst hu
  obtain ⟨b, off, f⟩ := ad
  have hs : f = none := by simpa [Addr.add] using World.cell?_spot hc0
  subst hs
  refine ⟨b, off, rfl, hb, ?_⟩
  have e : (⟨b, off, none⟩ : Addr).add k = ⟨b, off + k, none⟩ := by
    cases k with
    | zero => rfl
    | succ k => rfl
  rw [e] at hc
  exact hc

set_option maxHeartbeats 2000000 in
theorem eqIntS_rep (cs cs' : List Value) (l : List Int) (w : World) (h : intsR.at_ w w.heap.size cs l) (h' : intsR.at_ w w.heap.size cs' l) (hs : FitsI l) : Calls Try.prog 69 #[cs.headD undef, cs'.headD undef] w fun e w' => e = .returned (.bool true) ∧ Below w.heap.size w w' := by
  obtain ⟨A, c, rfl, _, hr⟩ := h
  obtain ⟨A', c', rfl, _, hr'⟩ := h'
  unfold FitsI at hs
  have hnn : ((l.length : Int) != (l.length : Int)) = false := by simp
  show Calls Try.prog 69 #[.slice A l.length c, .slice A' l.length c'] w _
  go_enter Try.func69, Try.ntmps69
  go_wp2
  go_loopw [5] (fun i wr => ∃ k : Nat, k ≤ l.length ∧ i = .int .i64 k ∧ ∃ n, wr = w.drewN n) (fun i _ => l.length - (intOf i).toNat)
  case atStart => exact ⟨0, by omega, rfl, 0, rfl⟩
  case round =>
    obtain ⟨k, hk, rfl, n, rfl⟩ := hrel
    by_cases hlt : k < l.length
    · obtain ⟨u, hu⟩ : ∃ u, l[k]? = some u := ⟨l[k], List.getElem?_eq_getElem hlt⟩
      obtain ⟨b, off, rfl, hbl, hcell⟩ := ints_cell hr hlt hu
      obtain ⟨b', off', rfl, hbl', hcell'⟩ := ints_cell hr' hlt hu
      clear hu
      have hne : (u != u) = false := by simp
      have h0 : (0 : Int) ≤ (k : Int) := by omega
      have hki : (k : Int) < (l.length : Int) := by omega
      go_wp2
      go_quiet (fail)
      go_wp2
      go_roundw
      case rel => exact ⟨k + 1, by omega, by go_num, _, rfl⟩
      case measure => simp [intOf]; omega
    · have he : k = l.length := by omega
      subst he
      go_wp2
      go_ret
      exact ⟨rfl, Later.drewN w n⟩

def mkTo (k : Nat) (l : List Int) (j : Nat) : List Int := (markI k l).take j ++ l.drop j
theorem mkTo_len (k : Nat) (l : List Int) (j : Nat) (h : j ≤ l.length) : (mkTo k l j).length = l.length := by
  unfold mkTo; simp [markI_len]; omega
theorem mkTo_set {k j : Nat} {l : List Int} (h : j < l.length) : (iV (mkTo k l j)).set j (.int .i64 ((k + j : Nat) : Int)) = iV (mkTo k l (j + 1)) := by
  unfold mkTo
  rw [List.drop_eq_getElem_cons h, List.take_add_one, markI_get h]
  unfold iV
  simp only [List.map_append, List.map_cons]
  rw [List.set_append_right _ _ (by simp [markI_len]; omega)]
  have : j - (((markI k l).take j).map fun (n : Int) => Value.int .i64 n).length = 0 := by simp [markI_len]; omega
  rw [this]
  simp
set_option maxHeartbeats 2000000 in
theorem markIntS_row (g c k0 : Nat) (l : List Int) (w : World) (base : Nat) (h : IRow w base (.slice (some ⟨g, 0, none⟩) l.length c) l) (hn : l.length ≤ 1048576) (hk : k0 ≤ 17592186044416) :
    Calls Try.prog 71 #[.slice (some ⟨g, 0, none⟩) l.length c, .int .i64 k0] w fun e w' => e = .returned (.int .i64 (k0 + l.length : Nat)) ∧ IRow w' base (.slice (some ⟨g, 0, none⟩) l.length c) (markI k0 l) ∧ w.grownBy w' (some g) := by
  go_enter Try.func71, Try.ntmps71
  go_wp2
  go_loopw [1, 5] (fun q i wr => ∃ k : Nat, k ≤ l.length ∧ i = .int .i64 k ∧ q = .int .i64 (k0 + k : Nat) ∧ w.grownBy wr (some g) ∧ wr.ownsRow base 3 1 (.slice (some ⟨g, 0, none⟩) l.length c) l.length (iV (mkTo k0 l k))) (fun _ i _ => l.length - (intOf i).toNat)
  case atStart => exact ⟨0, by omega, rfl, by simp, World.grownBy.refl _ _, by rw [show mkTo k0 l 0 = l by simp [mkTo]]; exact h⟩
  case round =>
    obtain ⟨k, hk, rfl, rfl, hg, hown⟩ := hrel
    clear h
    by_cases hlt : k < l.length
    · obtain ⟨u, hdst⟩ : ∃ u, wr.cell? ⟨g, k, none⟩ = some u := ⟨(iV (mkTo k0 l k))[k]'(by rw [iV_len, mkTo_len _ _ _ hk]; exact hlt), by rw [hown.cellAt k (by omega)]; exact List.getElem?_eq_getElem _⟩
      have hfr := hown.frozenAt k
      have hst := hown.stored k (.int .i64 ((k0 + k : Nat) : Int))
      rw [mkTo_set hlt] at hst
      have HST := Lib.hid hst
      clear hst
      go_wp2
      go_roundw
      case rel => exact ⟨k + 1, by omega, by go_num, by go_num, hg.trans HST.out.2, HST.out.1⟩
      case measure => simp [intOf]; omega
    · have he : k = l.length := by omega
      subst he
      have hm : mkTo k0 l l.length = markI k0 l := by unfold mkTo; rw [List.take_of_length_le (by rw [markI_len]; exact Nat.le_refl _), List.drop_length, List.append_nil]
      rw [hm] at hown
      go_wp2
      go_ret
      exact ⟨by go_num, by unfold IRow; rw [markI_len]; exact hown, hg⟩
theorem markIntS_rep (cs : List Value) (k0 : Nat) (l : List Int) (fp : List Nat) (w : World) (base : Nat) (h : intsR.own w base cs l fp) (hf : FitsI l) (hk : k0 ≤ 17592186044416) :
    Calls Try.prog 71 #[cs.headD undef, .int .i64 k0] w fun e w' => e = .returned (.int .i64 (k0 + intsR.cnt l : Nat)) ∧ intsR.own w' base cs (markI k0 l) fp ∧ Rep.Only w w' fp := by
  obtain ⟨v, rfl, ho, rfl⟩ := h
  show Calls Try.prog 71 #[v, .int .i64 k0] w (fun e w' => e = .returned (.int .i64 (k0 + l.length : Nat)) ∧ _)
  rcases ho.2 with ⟨rfl, h0⟩ | ⟨g, cap, cur, rfl, _⟩
  · have hl : l = [] := List.eq_nil_of_length_eq_zero h0
    subst hl
    have hown : intsR.own w base [.slice none 0 0] (markI k0 []) (Value.slice none 0 0).ownBlock.toList := ⟨_, rfl, ho, rfl⟩
    have HO := Lib.hid hown
    clear h0 ho hown
    go_enter Try.func71, Try.ntmps71
    go_wp2
    refine wp_loop_rounds 1 ?_
    rw [rounds_succ]
    go_wp2
    go_ret
    exact ⟨by simp, HO.out, Rep.Only.refl _ _⟩
  · exact (markIntS_row g cap k0 l w base ho hf hk).mono fun e w' ⟨he, hw, hg⟩ => ⟨he, ⟨_, rfl, hw, rfl⟩, Rep.Only.of_grown hg (fun k hk => by injection hk with hk; subst hk; simp [Value.ownBlock])⟩

set_option maxHeartbeats 2000000 in
theorem heldIntS_rep (cs : List Value) (k0 : Nat) (l : List Int) (w : World) (h : intsR.at_ w w.heap.size cs (markI k0 l)) (hf : FitsI l) (hk : k0 ≤ 17592186044416) :
    Calls Try.prog 72 #[cs.headD undef, .int .i64 k0] w fun e w' => e = .returned (.int .i64 (k0 + intsR.cnt l : Nat)) ∧ Below w.heap.size w w' := by
  obtain ⟨A, c, rfl, _, hr⟩ := h
  rw [markI_len] at hr ⊢
  unfold FitsI at hf
  show Calls Try.prog 72 #[.slice A l.length c, .int .i64 k0] w (fun e w' => e = .returned (.int .i64 (k0 + l.length : Nat)) ∧ _)
  go_enter Try.func72, Try.ntmps72
  go_wp2
  go_loop [1, 5] (fun q i => ∃ k : Nat, k ≤ l.length ∧ i = .int .i64 k ∧ q = .int .i64 (k0 + k : Nat)) (fun _ i => l.length - (intOf i).toNat)
  case atStart => exact ⟨0, by omega, rfl, by simp⟩
  case round =>
    obtain ⟨k, hk, rfl, rfl⟩ := hrel
    by_cases hlt : k < l.length
    · obtain ⟨b, off, rfl, hbl, hcell⟩ := ints_cell hr hlt (markI_get hlt)
      have hne : (((k0 : Int) + (k : Int)) != ((k0 : Int) + (k : Int))) = false := by simp
      rw [Int.natCast_add] at hcell
      go_wp2
      go_round
      case rel => exact ⟨k + 1, by omega, by go_num, by go_num⟩
      case measure => simp [intOf]; omega
    · have he : k = l.length := by omega
      subst he
      go_wp2
      go_ret
      exact ⟨by go_num, Below.refl _ _⟩

end Go.Proofs.Ytgdhhhibkhfdlaa
