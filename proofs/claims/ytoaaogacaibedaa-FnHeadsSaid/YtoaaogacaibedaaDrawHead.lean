/- Draws of chapter 5's heads. -/
import Derived.Test.YtoaaogacaibedaaBend
import Derived.Test.YtoaaogacaibedaaHead
namespace Go.Proofs.Ytoaaogacaibedaa
open Go.RowKit
set_option linter.unusedVariables false

/-- The cursor; what was there ahead of it is as it was. -/
structure CB (w : World) (lo g : Nat) (A : Option Addr) (n c : Nat) (code : List UInt8) (V : World) : Prop where
  below : Below w.heap.size w V
  cur : Cur V lo g A n c code
  low : w.heap.size ≤ lo
section
variable {w V V2 : World} {lo g : Nat} {A : Option Addr} {n c : Nat} {code : List UInt8}
theorem CB.step (h : CB w lo g A n c code V) (hc : Cur V2 lo g A n c code) (ho : Rep.Only V V2 [g]) : CB w lo g A n c code V2 := by
  have hf := h.cur.from_
  have hl := h.low
  exact ⟨Rep.Only.below h.below ho h.below.size (fun a ha => by simp at ha; omega), hc, hl⟩
theorem CB.later (h : CB w lo g A n c code V) (hb : Below V.heap.size V V2) : CB w lo g A n c code V2 :=
  h.step (h.cur.only (Rep.only_of_below hb) (by simp) (fun a ha => by cases ha)) ((Rep.only_of_below hb).mono (by simp))
theorem CB.alloc (h : CB w lo g A n c code V) (ob : Obj) : CB w lo g A n c code (V.alloc ob) := h.step (h.cur.alloc ob) ((Rep.only_alloc V ob).mono (by simp))
theorem CB.drew (h : CB w lo g A n c code V) : CB w lo g A n c code V.drew := h.step h.cur.drew ((Rep.only_drew V).mono (by simp))
theorem CB.beside {G : Nat} (h : CB w lo g A n c code V) (ho : Rep.Only V V2 [G]) (hne : G ≠ g) (hG : lo ≤ G) : CB w lo g A n c code V2 := by
  have hl := h.low
  exact ⟨Rep.Only.below h.below ho h.below.size (fun a ha => by simp at ha; omega), h.cur.only ho (by simp; omega) (fun a ha => by simp at ha; omega), hl⟩
theorem CB.gt (h : CB w lo g A n c code V) : V.heap.size ≠ g := by have := h.cur.lt; omega
theorem CB.of_new (hcur : Cur V w.heap.size g A n c code) (hb : Below w.heap.size w V) : CB w w.heap.size g A n c code V := ⟨hb, hcur, Nat.le_refl _⟩
end

set_option maxRecDepth 100000 in
set_option maxHeartbeats 8000000 in
theorem drawHeadOf_any (A : Option Addr) (c : Nat) (code : List UInt8) (w : World) (h : Reads w w.heap.size 1 A code.length (bys code)) (hn : code.length ≤ 1048576) :
    Calls Try.prog 8 #[.slice A code.length c] w fun e w' => (∃ a b : Int, e = .returned (.tuple #[.int .i64 a, .int .i64 b])) ∧ Below w.heap.size w w' := by
  go_enter Try.func8, Try.ntmps8
  go_wp2_with fail
  refine (l1New_any A c code w h hn).mono ?_
  rintro e W1 ⟨g, rfl, hcur, hb1⟩
  have R := CB.of_new hcur hb1
  clear hcur hb1 h
  go_wp2_with fail
  refine (draw_int w.heap.size g A code.length c code [0, 1, 2, 60000, 60001, -1] W1 R.cur (by omega) (by decide) (by decide)).mono ?_
  rintro e W2 ⟨z1, _, rfl, hc, ho⟩
  replace R := R.step hc ho
  clear hc ho
  go_wp2_with fail
  refine (draw_int w.heap.size g A code.length c code [0, 5, 18, 19, -1] W2 R.cur (by omega) (by decide) (by decide)).mono ?_
  rintro e W3 ⟨z2, _, rfl, hc, ho⟩
  replace R := R.step hc ho
  clear hc ho
  go_wp2_with fail
  go_ret2
  exact ⟨⟨_, _, rfl⟩, R.below⟩

set_option maxRecDepth 100000 in
set_option maxHeartbeats 8000000 in
theorem drawGetHead_any (A : Option Addr) (c : Nat) (code : List UInt8) (w : World) (h : Reads w w.heap.size 1 A code.length (bys code)) (hn : code.length ≤ 1048576) :
    Calls Try.prog 10 #[.slice A code.length c] w fun e w' => ∃ A2 c2 l', e = .returned (.slice A2 l'.length c2) ∧ l'.length ≤ 7 ∧ l'.length ≤ c2 ∧ Reads w' w'.heap.size 1 A2 l'.length (bys l') ∧ Below w.heap.size w w' := by
  go_enter Try.func10, Try.ntmps10
  go_wp2_with fail
  refine (l1New_any A c code w h hn).mono ?_
  rintro e W1 ⟨g, rfl, hcur, hb1⟩
  have R := CB.of_new hcur hb1
  clear hcur hb1 h
  go_wp2_with fail
  refine (l1Below_any w.heap.size g A code.length c code 5 W1 R.cur (by omega) (by omega) (by omega)).mono ?_
  rintro e W2 ⟨x, hx, rfl, hc, hg⟩
  replace R := R.step hc (only_g hg)
  clear hc hg
  go_wp2_with fail
  refine (l1Below_any w.heap.size g A code.length c code 19 W2 R.cur (by omega) (by omega) (by omega)).mono ?_
  rintro e W3 ⟨y, hy, rfl, hc, hg⟩
  replace R := R.step hc (only_g hg)
  clear hc hg
  go_wp2_with fail
  have hg3 := R.cur.lt
  have HW3 := Lib.hid R.below.size
  refine (headOfS_any (1 + (x : Int)) (y : Int) W3).mono ?_
  have hyes := headL_yes (g := 1 + (x : Int)) (n := (y : Int)) (by unfold inI; simp; omega) (by unfold inI; simp; omega)
  have h6 : (headL (1 + (x : Int)) (y : Int)).length = 6 := by rw [hyes]; simp [withSum, headBody, wordBytes]
  generalize headL (1 + (x : Int)) (y : Int) = l at h6 ⊢
  rintro e W4 ⟨v4, rfl, o4, hb⟩
  replace R := R.later hb
  rcases o4.2 with ⟨_, h0⟩ | ⟨G, cap, cur4, rfl, hG, hGh, hnc, hcm, _, _⟩
  · exact absurd h0 (by omega)
  have hGg : G ≠ g := by omega
  have hGl : G < W4.heap.size := (Array.getElem?_eq_some_iff.1 hGh).1
  have H6 := Lib.hid h6
  have i6 : l.length ≤ 6 := by omega
  have i60 : (4 : Int) ≤ (cap : Int) := by omega
  clear hb hyes h6 hGh
  go_wp2_with fail
  refine (l1Once_any w.heap.size g A code.length c code 5 W4 R.cur (by omega) (by omega) (by omega)).mono ?_
  rintro e W5 ⟨b, rfl, hc, hg⟩
  have ho := only_g hg
  replace R := R.step hc ho
  replace o4 := Rep.ownsRow_block o4 (fun k hk => ho.block k (o4.lt k (by simpa using hk)).2 (by simp [Value.ownBlock] at hk; simp; omega))
  have hs5 := ho.size
  clear hc hg ho
  cases b
  · go_wp2_with fail
    refine (l1Bend_any w.heap.size g A (some ⟨G, 0, none⟩) code.length c cap code l W5 R.cur (by omega) (Reads.of_own o4) (by omega)).mono ?_
    rintro e W6 ⟨A2, c2, l', rfl, hl', hc2, hr2, hc, ho⟩
    replace R := R.step hc ho
    go_wp2_with fail
    go_ret
    exact ⟨A2, c2, l', rfl, by omega, hc2, hr2, R.below⟩
  · go_wp2_with fail
    refine (l1Below_any w.heap.size g A code.length c code 4 W5 R.cur (by omega) (by omega) (by omega)).mono ?_
    rintro e W6 ⟨j, hj, rfl, hc, hg⟩
    have ho := only_g hg
    replace R := R.step hc ho
    replace o4 := Rep.ownsRow_block o4 (fun k hk => ho.block k (o4.lt k (by simpa using hk)).2 (by simp [Value.ownBlock] at hk; simp; omega))
    clear hc hg ho
    go_wp2_with fail
    refine (draw_int w.heap.size g A code.length c code [0, 19, 255] W6 R.cur (by omega) (by decide) (by decide)).mono ?_
    rintro e W7 ⟨z, hz, rfl, hc, ho⟩
    replace R := R.step hc ho
    replace o4 := Rep.ownsRow_block o4 (fun k hk => ho.block k (o4.lt k (by simpa using hk)).2 (by simp [Value.ownBlock] at hk; simp; omega))
    clear hc ho hz
    have j0 : (0 : Int) ≤ (j : Int) := by omega
    have j4 : (j : Int) < 4 := by omega
    have cj := o4.cellAt j (by have := H6.out; omega)
    obtain ⟨u, hu⟩ : ∃ u, W7.cell? ⟨G, j, none⟩ = some u := ⟨_, cj.trans (List.getElem?_eq_getElem (by have := H6.out; simp [bys]; omega))⟩
    have fj := o4.frozenAt j
    have o8 := (o4.stored j (.int .u8 (z % 256))).1
    have e8 : (bys l).set j (.int .u8 (z % 256)) = bys (l.set j (u8 z)) := by simp [bys, List.map_set, u8_cell]
    rw [e8] at o8
    have R8 := R.beside (Rep.Only.setCell W7 (p := ⟨G, j, none⟩) (fp := [G]) (by simp) (.int .u8 (z % 256))) hGg (by have := HW3.out; omega)
    have r8 := reads_take (k := 4) (Reads.of_own o8) (by simp) (by have := H6.out; omega)
    have h4 : ((l.set j (u8 z)).take 4).length = 4 := by have := H6.out; simp; omega
    generalize (l.set j (u8 z)).take 4 = l4 at r8 h4
    rw [h4] at r8
    have H4 := Lib.hid h4
    have RR8 := Lib.hid r8
    have RC8 := Lib.hid R8
    clear cj e8 R o4 o8 h4 r8 R8 i6 hx hy hj hg3 hs5 hnc hcm hG HW3
    go_upto_region 6 with (fail)
    generalize W7.setCell ⟨G, j, none⟩ (.int .u8 (z % 256)) = W8 at RR8 RC8 ⊢
    clear hu fj j0 j4
    go_wp2_with fail
    have hsum := sumS_any (some ⟨G, 0, none⟩) cap l4 W8 (by rw [H4.out]; exact RR8.out) (by rw [H4.out]; omega)
    have hput := putWordS_any (some ⟨G, 0, none⟩) cap (crc l4) l4 W8 (by rw [H4.out]; exact RR8.out) (by rw [H4.out]; omega)
    obtain ⟨L10, hL10⟩ : ∃ L, l4 ++ wordBytes (crc l4) = L := ⟨_, rfl⟩
    have H10 := Lib.hid (show L10.length = 6 by rw [← hL10]; have := H4.out; simp [wordBytes]; omega)
    rw [hL10] at hput
    clear hL10
    rw [H4.out] at hsum hput
    refine hsum.mono ?_
    rintro e W9 ⟨rfl, rfl⟩
    clear hsum
    go_wp2_with fail
    refine hput.mono ?_
    rintro e W10 ⟨v10, rfl, o10, hb⟩
    obtain ⟨A10, c10, rfl, hk10, _, r10, _⟩ := o10.shape
    clear hput
    go_wp2_with fail
    go_ret
    exact ⟨A10, c10, L10, rfl, by have := H10.out; omega, hk10, r10, Later.trans RC8.out.below hb⟩


end Go.Proofs.Ytoaaogacaibedaa
