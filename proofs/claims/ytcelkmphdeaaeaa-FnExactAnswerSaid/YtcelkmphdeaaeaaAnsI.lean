/- The program's Answer. (By gen_l8b.py.) -/
import Derived.Test.YtcelkmphdeaaeaaAnswerI
import Derived.Test.YtcelkmphdeaaeaaSockI
namespace Go.Proofs.Ytcelkmphdeaaeaa
open Go.RowKit
set_option maxRecDepth 100000
set_option linter.unusedVariables false

set_option maxHeartbeats 8000000 in
theorem answer_any (cs : List Value) (x : Sk) (w : World) (h : skR.at_ w w.heap.size cs x) (hs : RoomSk x) :
    Calls Try.prog 36 #[.agg cs.toArray] w (RetSkB w (ansP x)) := by
  obtain ⟨B4, e4, B5, e5, rfl, hc4, hr4, hc5, hr5⟩ := sk_cells h
  have F : All (fun w' => Below w.heap.size w w' ∧ (w'.heap[w.heap.size]? = some (.cells #[.int .i64 x.id, .int .i64 x.kind, .int .i64 x.hold, .bool x.shut, .slice B4 x.inn.length e4, .slice B5 x.out.length e5, .int .i64 x.st, .int .i64 x.done] 25 (0, 0))) ∧ w'.heap[w.heap.size + 1]? = some (.cells #[.int .i64 0, .int .i64 0, .int .i64 0, .bool false, .slice none 0 0, .slice none 0 0, .int .i64 0, .int .i64 0] 25 (0, 0))) ((w.alloc (.cells #[.int .i64 x.id, .int .i64 x.kind, .int .i64 x.hold, .bool x.shut, .slice B4 x.inn.length e4, .slice B5 x.out.length e5, .int .i64 x.st, .int .i64 x.done] 25)).alloc (.cells #[.int .i64 0, .int .i64 0, .int .i64 0, .bool false, .slice none 0 0, .slice none 0 0, .int .i64 0, .int .i64 0] 25)) := ⟨Later.trans (Later.alloc w _) (Later.alloc _ _), (Below.heap_alloc _ _ _ (by simp)).trans (heap_alloc_new w _), heap_alloc_new' _ _ (by simp)⟩
  have hsz1 : w.heap.size + 1 + 1 = ((w.alloc (.cells #[.int .i64 x.id, .int .i64 x.kind, .int .i64 x.hold, .bool x.shut, .slice B4 x.inn.length e4, .slice B5 x.out.length e5, .int .i64 x.st, .int .i64 x.done] 25)).alloc (.cells #[.int .i64 0, .int .i64 0, .int .i64 0, .bool false, .slice none 0 0, .slice none 0 0, .int .i64 0, .int .i64 0] 25)).heap.size := by simp
  have H0 := Lib.hid h
  clear h hr4 hr5 hc4 hc5
  obtain ⟨y, hy⟩ : ∃ y, skB x = y := ⟨_, rfl⟩
  have HY := Lib.hid hy
  obtain ⟨sh, hsh⟩ : ∃ y, x.shut = y := ⟨_, rfl⟩
  have HSH := Lib.hid hsh
  obtain ⟨k2, hk2⟩ : ∃ y, (x.kind == 2) = y := ⟨_, rfl⟩
  have HK2 := Lib.hid hk2
  clear hy hsh
  go_enter Try.func36, Try.ntmps36
  go_wp2_with fail
  generalize ((w.alloc (.cells #[.int .i64 x.id, .int .i64 x.kind, .int .i64 x.hold, .bool x.shut, .slice B4 x.inn.length e4, .slice B5 x.out.length e5, .int .i64 x.st, .int .i64 x.done] 25)).alloc (.cells #[.int .i64 0, .int .i64 0, .int .i64 0, .bool false, .slice none 0 0, .slice none 0 0, .int .i64 0, .int .i64 0] 25)) = W0 at F hsz1 ⊢
  have hat : ∀ W, Below w.heap.size w W → skR.at_ W W.heap.size [.int .i64 x.id, .int .i64 x.kind, .int .i64 x.hold, .bool x.shut, .slice B4 x.inn.length e4, .slice B5 x.out.length e5, .int .i64 x.st, .int .i64 x.done] x := fun W hb => Rep.more skR (Rep.at_below H0.out hb) hb.size
  have HAT := Lib.hid hat
  clear hat
  refine (socketOf_any [.int .i64 x.id, .int .i64 x.kind, .int .i64 x.hold, .bool x.shut, .slice B4 x.inn.length e4, .slice B5 x.out.length e5, .int .i64 x.st, .int .i64 x.done] x W0 (HAT.out _ F.out.1) hs).mono ?_
  rintro e1 W1 ⟨S, v4, v5, o5, d7, rfl, hK⟩
  have hsz : w.heap.size + 1 + 1 ≤ W0.heap.size := by omega
  have q0 := var_cell (F.later hK.below).out.2.1 0
  have q1 := var_cell (F.later hK.below).out.2.1 1
  have q2 := var_cell (F.later hK.below).out.2.1 2
  have q3 := var_cell (F.later hK.below).out.2.1 3
  have q4 := var_cell (F.later hK.below).out.2.1 4
  have q5 := var_cell (F.later hK.below).out.2.1 5
  have q6 := var_cell (F.later hK.below).out.2.1 6
  have q7 := var_cell (F.later hK.below).out.2.1 7
  go_wp2_with fail
  refine (sockOk_any [.int .i64 x.id, .int .i64 x.kind, .int .i64 x.hold, .bool x.shut, .slice B4 x.inn.length e4, .slice B5 x.out.length e5, .int .i64 x.st, .int .i64 x.done] x W1 (HAT.out _ (F.later hK.below).out.1)).mono ?_
  rw [HY.out]
  rintro e1 W2 ⟨rfl, hb⟩
  replace hK := hK.later hb
  clear q0 q1 q2 q3 q4 q5 q6 q7 hb
  cases y
  · skip
    have HP : Hid (ansP x = (x, false)) := Lib.hid (by unfold ansP; rw [HY.out]; simp)
    have hbx := hK.box
    have hown0 := hK.own
    have hlow0 := hK.below
    obtain ⟨A4, c4, A5, c5, B9, m9, e9, rfl, rfl, rfl, _, _⟩ := hK.slices
    clear hK
    have hfin := (F.later hlow0).out.1
    go_wp2_with fail
    refine (sock_any S x A4 A5 B9 _ c4 _ c5 m9 e9 d7 W2 hbx).mono ?_
    rintro e W9 ⟨rfl, hb9⟩
    have hZ := (hb9.block _ (Array.getElem?_eq_some_iff.1 (F.later hlow0).out.2.2).1).trans (F.later hlow0).out.2.2
    have hown := Rep.own_below (Rep.low skR hown0 hsz) hb9
    replace hfin : Below w.heap.size w W9 := Later.trans hfin hb9
    clear hb9 hbx hown0 hlow0 F
    have hl9 := (Array.getElem?_eq_some_iff.1 hZ).1
    have z0 := var_cell hZ 0
    have zf0 := var_frozen hZ 0
    have z1 := var_cell hZ 1
    have zf1 := var_frozen hZ 1
    have z2 := var_cell hZ 2
    have zf2 := var_frozen hZ 2
    have z3 := var_cell hZ 3
    have zf3 := var_frozen hZ 3
    have z4 := var_cell hZ 4
    have zf4 := var_frozen hZ 4
    have z5 := var_cell hZ 5
    have zf5 := var_frozen hZ 5
    have z6 := var_cell hZ 6
    have zf6 := var_frozen hZ 6
    have z7 := var_cell hZ 7
    have zf7 := var_frozen hZ 7
    go_wp2_with fail
    refine bodyPost_ret (v := .tuple #[.agg #[.int .i64 x.id, .int .i64 x.kind, .int .i64 x.hold, .bool x.shut, .slice A4 x.inn.length c4, .slice A5 x.out.length c5, .int .i64 x.st, .int .i64 x.done], .bool false]) (by simp [results, Try.results36, go_sem, z0, z1, z2, z3, z4, z5, z6, z7]) rfl ?_
    rw [HP.out]
    refine ⟨_, ?fp1, rfl, Rep.low skR (base := w.heap.size + 1 + 1) ?own1 (by omega), ?low1⟩
    case low1 =>
      repeat (refine Below.setCell ?_ (by first | (simp; done) | (simp; omega)) _)
      exact hfin
    case own1 =>
      repeat (refine Rep.setLow ?_ (by first | (simp; done) | (simp; omega)) _)
      exact hown
  · have q1 := var_cell (F.later hK.below).out.2.1 1
    have q3 : W2.cell? ⟨w.heap.size, 3, none⟩ = some (.bool sh) := by have := var_cell (F.later hK.below).out.2.1 3; rw [← HSH.out]; exact this
    cases k2
    · skip
      have HP : Hid (ansP x = (x, false)) := Lib.hid (by unfold ansP; rw [if_neg (fun h => by have h1 := HK2.out; simp at h1; exact h1 h.2.1)])
      have hbx := hK.box
      have hown0 := hK.own
      have hlow0 := hK.below
      obtain ⟨A4, c4, A5, c5, B9, m9, e9, rfl, rfl, rfl, _, _⟩ := hK.slices
      clear hK
      have hfin := (F.later hlow0).out.1
      go_wp2_with fail
      refine (sock_any S x A4 A5 B9 _ c4 _ c5 m9 e9 d7 W2 hbx).mono ?_
      rintro e W9 ⟨rfl, hb9⟩
      have hZ := (hb9.block _ (Array.getElem?_eq_some_iff.1 (F.later hlow0).out.2.2).1).trans (F.later hlow0).out.2.2
      have hown := Rep.own_below (Rep.low skR hown0 hsz) hb9
      replace hfin : Below w.heap.size w W9 := Later.trans hfin hb9
      clear hb9 hbx hown0 hlow0 F
      have hl9 := (Array.getElem?_eq_some_iff.1 hZ).1
      have z0 := var_cell hZ 0
      have zf0 := var_frozen hZ 0
      have z1 := var_cell hZ 1
      have zf1 := var_frozen hZ 1
      have z2 := var_cell hZ 2
      have zf2 := var_frozen hZ 2
      have z3 := var_cell hZ 3
      have zf3 := var_frozen hZ 3
      have z4 := var_cell hZ 4
      have zf4 := var_frozen hZ 4
      have z5 := var_cell hZ 5
      have zf5 := var_frozen hZ 5
      have z6 := var_cell hZ 6
      have zf6 := var_frozen hZ 6
      have z7 := var_cell hZ 7
      have zf7 := var_frozen hZ 7
      go_wp2_with fail
      refine bodyPost_ret (v := .tuple #[.agg #[.int .i64 x.id, .int .i64 x.kind, .int .i64 x.hold, .bool x.shut, .slice A4 x.inn.length c4, .slice A5 x.out.length c5, .int .i64 x.st, .int .i64 x.done], .bool false]) (by simp [results, Try.results36, go_sem, z0, z1, z2, z3, z4, z5, z6, z7]) rfl ?_
      rw [HP.out]
      refine ⟨_, ?fp2, rfl, Rep.low skR (base := w.heap.size + 1 + 1) ?own2 (by omega), ?low2⟩
      case low2 =>
        repeat (refine Below.setCell ?_ (by first | (simp; done) | (simp; omega)) _)
        exact hfin
      case own2 =>
        repeat (refine Rep.setLow ?_ (by first | (simp; done) | (simp; omega)) _)
        exact hown
    · cases sh
      · go_wp2_with fail
        clear q1 q3
        have hk : x.kind = 2 := by have := HK2.out; simpa using this
        have HKK := Lib.hid hk
        obtain ⟨⟨⟨yid, yk, yh, ys, yi, yo, yst, yd⟩, ok⟩, hy9⟩ : ∃ p, ansC x = p := ⟨_, rfl⟩
        have HC := Lib.hid hy9
        refine (answer_box W2 hK HY.out hk hs).mono ?_
        rw [HC.out]
        rintro e1 W3 ⟨v4', rfl, hK⟩
        clear hk hy9
        have HP : Hid (ansP x = (⟨yid, yk, yh, ys, yi, yo, yst, yd⟩, ok)) := Lib.hid (by unfold ansP; rw [if_pos ⟨HY.out, HKK.out, HSH.out⟩, HC.out])
        have hbx := hK.box
        have hown0 := hK.own
        have hlow0 := hK.below
        obtain ⟨A4, c4, A5, c5, B9, m9, e9, rfl, rfl, rfl, _, _⟩ := hK.slices
        clear hK
        have hfin := (F.later hlow0).out.1
        go_wp2_with fail
        refine (sock_any S ⟨yid, yk, yh, ys, yi, yo, yst, yd⟩ A4 A5 B9 _ c4 _ c5 m9 e9 d7 W3 hbx).mono ?_
        rintro e W9 ⟨rfl, hb9⟩
        have hZ := (hb9.block _ (Array.getElem?_eq_some_iff.1 (F.later hlow0).out.2.2).1).trans (F.later hlow0).out.2.2
        have hown := Rep.own_below (Rep.low skR hown0 hsz) hb9
        replace hfin : Below w.heap.size w W9 := Later.trans hfin hb9
        clear hb9 hbx hown0 hlow0 F
        have hl9 := (Array.getElem?_eq_some_iff.1 hZ).1
        have z0 := var_cell hZ 0
        have zf0 := var_frozen hZ 0
        have z1 := var_cell hZ 1
        have zf1 := var_frozen hZ 1
        have z2 := var_cell hZ 2
        have zf2 := var_frozen hZ 2
        have z3 := var_cell hZ 3
        have zf3 := var_frozen hZ 3
        have z4 := var_cell hZ 4
        have zf4 := var_frozen hZ 4
        have z5 := var_cell hZ 5
        have zf5 := var_frozen hZ 5
        have z6 := var_cell hZ 6
        have zf6 := var_frozen hZ 6
        have z7 := var_cell hZ 7
        have zf7 := var_frozen hZ 7
        go_wp2_with fail
        refine bodyPost_ret (v := .tuple #[.agg #[.int .i64 yid, .int .i64 yk, .int .i64 yh, .bool ys, .slice A4 yi.length c4, .slice A5 yo.length c5, .int .i64 yst, .int .i64 yd], .bool ok]) (by simp [results, Try.results36, go_sem, z0, z1, z2, z3, z4, z5, z6, z7]) rfl ?_
        rw [HP.out]
        refine ⟨_, ?fp3, rfl, Rep.low skR (base := w.heap.size + 1 + 1) ?own3 (by omega), ?low3⟩
        case low3 =>
          repeat (refine Below.setCell ?_ (by first | (simp; done) | (simp; omega)) _)
          exact hfin
        case own3 =>
          repeat (refine Rep.setLow ?_ (by first | (simp; done) | (simp; omega)) _)
          exact hown
      · skip
        have HP : Hid (ansP x = (x, false)) := Lib.hid (by unfold ansP; rw [HSH.out]; simp)
        have hbx := hK.box
        have hown0 := hK.own
        have hlow0 := hK.below
        obtain ⟨A4, c4, A5, c5, B9, m9, e9, rfl, rfl, rfl, _, _⟩ := hK.slices
        clear hK
        have hfin := (F.later hlow0).out.1
        go_wp2_with fail
        refine (sock_any S x A4 A5 B9 _ c4 _ c5 m9 e9 d7 W2 hbx).mono ?_
        rintro e W9 ⟨rfl, hb9⟩
        have hZ := (hb9.block _ (Array.getElem?_eq_some_iff.1 (F.later hlow0).out.2.2).1).trans (F.later hlow0).out.2.2
        have hown := Rep.own_below (Rep.low skR hown0 hsz) hb9
        replace hfin : Below w.heap.size w W9 := Later.trans hfin hb9
        clear hb9 hbx hown0 hlow0 F
        have hl9 := (Array.getElem?_eq_some_iff.1 hZ).1
        have z0 := var_cell hZ 0
        have zf0 := var_frozen hZ 0
        have z1 := var_cell hZ 1
        have zf1 := var_frozen hZ 1
        have z2 := var_cell hZ 2
        have zf2 := var_frozen hZ 2
        have z3 := var_cell hZ 3
        have zf3 := var_frozen hZ 3
        have z4 := var_cell hZ 4
        have zf4 := var_frozen hZ 4
        have z5 := var_cell hZ 5
        have zf5 := var_frozen hZ 5
        have z6 := var_cell hZ 6
        have zf6 := var_frozen hZ 6
        have z7 := var_cell hZ 7
        have zf7 := var_frozen hZ 7
        go_wp2_with fail
        refine bodyPost_ret (v := .tuple #[.agg #[.int .i64 x.id, .int .i64 x.kind, .int .i64 x.hold, .bool x.shut, .slice A4 x.inn.length c4, .slice A5 x.out.length c5, .int .i64 x.st, .int .i64 x.done], .bool false]) (by simp [results, Try.results36, go_sem, z0, z1, z2, z3, z4, z5, z6, z7]) rfl ?_
        rw [HP.out]
        refine ⟨_, ?fp4, rfl, Rep.low skR (base := w.heap.size + 1 + 1) ?own4 (by omega), ?low4⟩
        case low4 =>
          repeat (refine Below.setCell ?_ (by first | (simp; done) | (simp; omega)) _)
          exact hfin
        case own4 =>
          repeat (refine Rep.setLow ?_ (by first | (simp; done) | (simp; omega)) _)
          exact hown

end Go.Proofs.Ytcelkmphdeaaeaa
