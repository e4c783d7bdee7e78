/- Marks written into data of the call's own, and found again. -/
import Derived.Test.YtjhfnfffpofagaaDiskTo
namespace Go.Proofs.Ytjhfnfffpofagaa
open Go.RowKit
set_option linter.unusedVariables false

set_option maxHeartbeats 1000000 in
theorem markByteSS_row (g c k0 : Nat) (xs : List (List UInt8)) (fp : List Nat) (w : World) (base : Nat) (h : Rep.OwnRows byR 22 w base (.slice (some ⟨g, 0, none⟩) xs.length c) xs fp) (hn : xs.length ≤ 1048576) (hm : ∀ l, l ∈ xs → l.length ≤ 1048576) (hk0 : k0 ≤ 4398046511104) (hcnt : Rep.cntL byR xs ≤ 4398046511104) :
    Calls Try.prog 57 #[.slice (some ⟨g, 0, none⟩) xs.length c, .int .i64 k0] w fun e w' => e = .returned (.int .i64 (k0 + Rep.cntL byR xs : Nat)) ∧ Rep.OwnRows byR 22 w' base (.slice (some ⟨g, 0, none⟩) xs.length c) (Rep.mkL byR k0 xs) fp ∧ Rep.Only w w' fp := by
  have HM := Lib.hid hm
  clear hm
  go_enter Try.func57, Try.ntmps57
  go_wp2
  go_loopw [1, 5] (fun q i wr => ∃ k : Nat, k ≤ xs.length ∧ i = .int .i64 k ∧ q = .int .i64 (k0 + Rep.cntL byR (xs.take k) : Nat) ∧ Rep.Only w wr fp ∧ Rep.OwnRows byR 22 wr base (.slice (some ⟨g, 0, none⟩) xs.length c) (Rep.mkTo byR k0 k xs) fp) (fun _ i _ => xs.length - (intOf i).toNat)
  case atStart => exact ⟨0, by omega, rfl, by simp [Rep.cntL], Rep.Only.refl _ _, by rw [Rep.mkTo_zero]; exact h⟩
  case round =>
    obtain ⟨k, hk, rfl, rfl, ho, hown⟩ := hrel
    clear h
    by_cases hlt : k < xs.length
    · obtain ⟨l, hx⟩ := Rep.getElem?_of_lt rfl hlt
      have hll := HM.out l (List.mem_of_getElem? hx)
      have HX := Lib.hid hx
      clear hx
      obtain ⟨cs, f, ⟨v, rfl, hv, hfv⟩, hcell, hfr, hsub, hg1, hg2, hg3, hg4, hclose, _⟩ := hown.open_ (Rep.mkTo_get byR HX.out)
      have hc0 := hcell 0 v rfl
      replace hc0 : wr.cell? ⟨g, k, none⟩ = some v := by rw [show k * byR.size + 0 = k from Nat.mul_one k] at hc0; exact hc0
      obtain ⟨A', c', rfl, _, _, _, _⟩ := hv.shape
      have hkc := Rep.cntL_le byR xs k
      have HC := Lib.hid hclose
      have HF := Lib.hid hfv
      have HS := Lib.hid hsub
      clear hclose hfv hcell hsub
      go_wp2_with fail
      refine (markByteS_any _ (k0 + Rep.cntL byR (xs.take k)) l wr base hv (by omega) (by omega)).mono ?_
      rintro e w2 ⟨rfl, hv2, hgr⟩
      have hon : Rep.Only wr w2 f := Rep.Only.of_grown hgr (fun a ha => by rw [HF.out]; simpa using ha)
      have hown2 := HC.out w2 (marks (k0 + Rep.cntL byR (xs.take k)) l.length) (hon.block g hg4 hg2) ⟨_, rfl, by unfold Owns; rw [marks_length]; exact (by unfold Owns at hv2; rw [marks_length] at hv2; exact hv2), HF.out⟩ (fun a ha _ haf => hon.block a (hown.lt a ha).2 haf)
      have HE := Lib.hid (Rep.mkTo_succ byR (k := k0) HX.out)
      have HN := Lib.hid (Rep.cntL_succ byR HX.out)
      have ho2 := ho.trans (hon.mono HS.out)
      clear hgr
      go_wp2_with fail
      go_roundw
      case rel => exact ⟨k + 1, by omega, by go_num, by rw [HN.out]; exact congrArg (Value.int .i64) (by show _ = ((k0 + (Rep.cntL byR (xs.take k) + l.length) : Nat) : Int); omega), ho2, by rw [HE.out]; exact hown2⟩
      case measure => simp [intOf]; omega
    · have he : k = xs.length := by omega
      subst he
      rw [Rep.mkTo_all] at hown
      have HT : Hid (xs.take xs.length = xs) := Lib.hid List.take_length
      go_wp2
      go_ret
      exact ⟨by rw [HT.out]; rfl, hown, ho⟩

theorem cntL_bound {α : Type} (R : Rep α) (xs : List α) (M : Nat) (h : ∀ x, x ∈ xs → R.cnt x ≤ M) : Rep.cntL R xs ≤ xs.length * M := by
  induction xs with
  | nil => simp [Rep.cntL]
  | cons x xs ih =>
    have h1 := h x (by simp)
    have h2 := ih fun y hy => h y (by simp [hy])
    simp only [Rep.cntL, List.length_cons, Nat.add_mul, Nat.one_mul]
    omega
theorem cnt_secs {xs : List (List UInt8)} (hn : xs.length ≤ 1048576) (hm : ∀ l, l ∈ xs → l.length ≤ 1048576) : Rep.cntL byR xs ≤ 1099511627776 :=
  Nat.le_trans (cntL_bound byR xs 1048576 hm) (by omega)
theorem cnt_cache {xs : List Wr} (hn : xs.length ≤ 1048576) (hm : ∀ x, x ∈ xs → x.b.length ≤ 1048576) : Rep.cntL wrR xs ≤ 2199023255552 :=
  Nat.le_trans (cntL_bound wrR xs 1048577 (fun x hx => by have := hm x hx; show 1 + x.b.length ≤ _; omega)) (by omega)

set_option maxHeartbeats 400000 in
theorem markByteSS_any (v : Value) (k0 : Nat) (xs : List (List UInt8)) (fp : List Nat) (w : World) (base : Nat) (h : Rep.OwnRows byR 22 w base v xs fp) (hn : xs.length ≤ 1048576) (hm : ∀ l, l ∈ xs → l.length ≤ 1048576) (hk0 : k0 ≤ 4398046511104) :
    Calls Try.prog 57 #[v, .int .i64 k0] w fun e w' => e = .returned (.int .i64 (k0 + Rep.cntL byR xs : Nat)) ∧ Rep.OwnRows byR 22 w' base v (Rep.mkL byR k0 xs) fp ∧ Rep.Only w w' fp := by
  obtain ⟨cells, fps, ho, hr⟩ := id h
  rcases ho.2 with ⟨rfl, h0⟩ | ⟨g, cap, cur, rfl, _⟩
  · have hl : xs = [] := List.eq_nil_of_length_eq_zero h0
    subst hl
    clear h0 ho hr
    go_enter Try.func57, Try.ntmps57
    go_wp2
    refine wp_loop_rounds 1 ?_
    rw [rounds_succ]
    go_wp2
    go_ret
    exact ⟨rfl, h, Rep.Only.refl _ _⟩
  · exact markByteSS_row g cap k0 xs fp w base h hn hm hk0 (Nat.le_trans (cnt_secs hn hm) (by omega))

theorem wr_inv {w : World} {base : Nat} {cs : List Value} {x : Wr} {f : List Nat} (h : wrR.own w base cs x f) : ∃ v, cs = [.int .i64 x.n, v] ∧ Owns w base 5 v x.b ∧ f = v.ownBlock.toList := by
  have hl : cs.length = 2 := Rep.len wrR (Rep.reads wrR h)
  obtain ⟨f1, f2, ⟨h1, hf1⟩, ⟨v, h2, hv, hfv⟩, hff, hnd⟩ := h
  match cs, hl with
  | [a, b], _ =>
    replace h1 : [a] = [.int .i64 x.n] := h1
    replace h2 : [b] = [v] := h2
    injection h1 with h1
    injection h2 with h2
    subst h1 h2 hf1
    exact ⟨b, rfl, hv, by simpa using hff.trans (by simpa using hfv)⟩

set_option maxHeartbeats 1000000 in
theorem markWrS_row (g c k0 : Nat) (xs : List Wr) (fp : List Nat) (w : World) (base : Nat) (h : Rep.OwnRows wrR 42 w base (.slice (some ⟨g, 0, none⟩) xs.length c) xs fp) (hn : xs.length ≤ 1048576) (hm : ∀ l, l ∈ xs → l.b.length ≤ 1048576) (hk0 : k0 ≤ 4398046511104) (hcnt : Rep.cntL wrR xs ≤ 4398046511104) :
    Calls Try.prog 58 #[.slice (some ⟨g, 0, none⟩) xs.length c, .int .i64 k0] w fun e w' => e = .returned (.int .i64 (k0 + Rep.cntL wrR xs : Nat)) ∧ Rep.OwnRows wrR 42 w' base (.slice (some ⟨g, 0, none⟩) xs.length c) (Rep.mkL wrR k0 xs) fp ∧ Rep.Only w w' fp := by
  have HM := Lib.hid hm
  clear hm
  go_enter Try.func58, Try.ntmps58
  go_wp2
  go_loopw [1, 5] (fun q i wr => ∃ k m : Nat, k ≤ xs.length ∧ i = .int .i64 k ∧ q = .int .i64 m ∧ Hid (m = k0 + Rep.cntL wrR (xs.take k)) ∧ Rep.Only w wr fp ∧ Rep.OwnRows wrR 42 wr base (.slice (some ⟨g, 0, none⟩) xs.length c) (Rep.mkTo wrR k0 k xs) fp) (fun _ i _ => xs.length - (intOf i).toNat)
  case atStart => exact ⟨0, k0, by omega, rfl, rfl, Lib.hid (by simp [Rep.cntL]), Rep.Only.refl _ _, by rw [Rep.mkTo_zero]; exact h⟩
  case round =>
    obtain ⟨k, m, hk, rfl, rfl, hm, ho, hown⟩ := hrel
    clear h
    by_cases hlt : k < xs.length
    · obtain ⟨x, hx⟩ := Rep.getElem?_of_lt rfl hlt
      have hll := HM.out x (List.mem_of_getElem? hx)
      have HX := Lib.hid hx
      clear hx
      obtain ⟨cs, f, hx1, hcell, hfr, hsub, hg1, hg2, hg3, hg4, _, hclose⟩ := hown.open_ (Rep.mkTo_get wrR HX.out)
      obtain ⟨v, rfl, hv, hfv⟩ := wr_inv hx1
      have hc0 := hcell 0 _ rfl
      rw [show wrR.size = 2 from rfl] at hc0
      rw [Nat.add_zero] at hc0
      have hkc := Rep.cntL_le wrR xs k
      have hm1 : m ≤ 8796093022208 := by have := hm.out; omega
      clear hkc
      have hf0 := hfr (k * 2)
      have HCL := Lib.hid hclose
      have HF := Lib.hid hfv
      have HE := Lib.hid (Rep.mkTo_succ wrR (k := k0) HX.out)
      have HN := Lib.hid (Rep.cntL_succ wrR HX.out)
      have hlk : k < (Rep.mkTo wrR k0 k xs).length := by rw [Rep.mkTo_length _ _ _ _ hk]; exact hlt
      clear hclose hfv hcell hsub hfr
      -- the number
      have hown1 := HCL.out ⟨(m : Int), x.b⟩ 0 (.int .i64 (m : Int)) (by show 0 < 2; omega)
        (by rw [HF.out]; exact wr_own (x := ⟨_, x.b⟩) (Rep.ownsRow_block hv (fun a ha => heap_setCell_other _ _ _ _ (fun e => hg2 (by rw [HF.out, show g = a from e.symm]; exact ha)))))
      rw [show k * wrR.size + 0 = k * 2 from rfl] at hown1
      have ho1 : Rep.Only wr (wr.setCell ⟨g, k * 2, none⟩ (.int .i64 (m : Int))) fp := Rep.Only.setCell _ hg1 _
      obtain ⟨cs1, f1, hx2, hcell, hfr, hsub, _, hg5, _, hg6, hclose, _⟩ := hown1.open_ (k := k) (x := ⟨(m : Int), x.b⟩) (List.getElem?_set_self hlk)
      obtain ⟨v', rfl, hv', hfv'⟩ := wr_inv hx2
      obtain ⟨A', c', rfl, _, _, _, _⟩ := hv'.shape
      have hc1 := hcell 1 _ rfl
      rw [show wrR.size = 2 from rfl] at hc1
      have HC := Lib.hid hclose
      have HF' := Lib.hid hfv'
      have HS := Lib.hid hsub
      have HB : Hid (x.b.length = x.b.length) := Lib.hid rfl
      clear hclose hfv' hcell hsub hfr hx1 hx2
      go_wp2_with fail
      refine (markByteS_any _ (m + 1) x.b _ base hv' (by omega) (by omega)).mono ?_
      rintro e w2 ⟨rfl, hv2, hgr⟩
      have hon : Rep.Only (wr.setCell ⟨g, k * 2, none⟩ (.int .i64 (m : Int))) w2 f1 := Rep.Only.of_grown hgr (fun a ha => by rw [HF'.out]; simpa using ha)
      have hown2 := HC.out w2 ⟨(m : Int), marks (m + 1) x.b.length⟩ (hon.block g hg6 hg5) (by rw [HF'.out]; exact wr_own (x := ⟨_, _⟩) (by unfold Owns; rw [marks_length]; exact (by unfold Owns at hv2; rw [marks_length] at hv2; exact hv2))) (fun a ha _ haf => hon.block a (hown1.lt a ha).2 haf)
      rw [List.set_set] at hown2
      have ho2 := (ho.trans ho1).trans (hon.mono HS.out)
      clear hgr
      go_wp2_with fail
      go_roundw
      case rel => exact ⟨k + 1, m + 1 + x.b.length, by omega, by go_num, by go_num, Lib.hid (by rw [HN.out, hm.out]; show _ = k0 + (_ + (1 + x.b.length)); omega), ho2, by rw [HE.out, ← hm.out]; exact hown2⟩
      case measure => simp [intOf]; omega
    · have he : k = xs.length := by omega
      subst he
      rw [Rep.mkTo_all] at hown
      have HT : Hid (xs.take xs.length = xs) := Lib.hid List.take_length
      go_wp2
      go_ret
      exact ⟨by rw [hm.out, HT.out]; rfl, hown, ho⟩

end Go.Proofs.Ytjhfnfffpofagaa
