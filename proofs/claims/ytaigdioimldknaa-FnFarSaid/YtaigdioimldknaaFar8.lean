/- What the theorem needs, out of many texts. -/
import Derived.Test.YtaigdioimldknaaFar6
namespace Go.Proofs.Ytaigdioimldknaa
open Go.RowKit
set_option maxRecDepth 100000
set_option linter.unusedVariables false
set_option maxHeartbeats 8000000 in
theorem answer_any (cs : List Value) (x : Sk) (w : World) (h : skR.at_ w w.heap.size cs x) (hs : RoomSk x) :
    Calls Try.prog 34 #[.agg cs.toArray] w (RetSkB w (ansP x)) := by
  obtain ⟨B4, e4, B5, e5, rfl, hc4, hr4, hc5, hr5⟩ := sk_cells h
  have F : All (fun w' => Below w.heap.size w w' ∧ (w'.heap[w.heap.size]? = some (.cells #[.int .i64 x.id, .int .i64 x.kind, .int .i64 x.hold, .bool x.shut, .slice B4 x.inn.length e4, .slice B5 x.out.length e5, .int .i64 x.st, .int .i64 x.done] 25 (0, 0))) ∧ w'.heap[w.heap.size + 1]? = some (.cells #[.int .i64 0, .int .i64 0, .int .i64 0, .bool false, .slice none 0 0, .slice none 0 0, .int .i64 0, .int .i64 0] 25 (0, 0))) ((w.alloc (.cells #[.int .i64 x.id, .int .i64 x.kind, .int .i64 x.hold, .bool x.shut, .slice B4 x.inn.length e4, .slice B5 x.out.length e5, .int .i64 x.st, .int .i64 x.done] 25)).alloc (.cells #[.int .i64 0, .int .i64 0, .int .i64 0, .bool false, .slice none 0 0, .slice none 0 0, .int .i64 0, .int .i64 0] 25)) := ⟨Later.trans (Later.alloc w _) (Later.alloc _ _), (Below.heap_alloc _ _ _ (by simp)).trans (heap_alloc_new w _), heap_alloc_new' _ _ (by simp)⟩
  have hsz1 : w.heap.size + 1 + 1 = ((w.alloc (.cells #[.int .i64 x.id, .int .i64 x.kind, .int .i64 x.hold, .bool x.shut, .slice B4 x.inn.length e4, .slice B5 x.out.length e5, .int .i64 x.st, .int .i64 x.done] 25)).alloc (.cells #[.int .i64 0, .int .i64 0, .int .i64 0, .bool false, .slice none 0 0, .slice none 0 0, .int .i64 0, .int .i64 0] 25)).heap.size := by simp
  have H0 := Lib.hid h
  clear h hr4 hr5 hc4 hc5
  obtain ⟨y, hy⟩ : ∃ y, skB x = y := ⟨_, rfl⟩
  have HY := Lib.hid hy
  obtain ⟨sh, hsh⟩ : ∃ y, x.shut = y := ⟨_, rfl⟩
  have HSH := Lib.hid hsh
  obtain ⟨k2, hk2⟩ : ∃ y, (x.kind == 2) = y := ⟨_, rfl⟩
  have HK2 := Lib.hid hk2
  clear hy hsh
  go_enter Try.func34, Try.ntmps34
  go_wp2_with fail
  generalize ((w.alloc (.cells #[.int .i64 x.id, .int .i64 x.kind, .int .i64 x.hold, .bool x.shut, .slice B4 x.inn.length e4, .slice B5 x.out.length e5, .int .i64 x.st, .int .i64 x.done] 25)).alloc (.cells #[.int .i64 0, .int .i64 0, .int .i64 0, .bool false, .slice none 0 0, .slice none 0 0, .int .i64 0, .int .i64 0] 25)) = W0 at F hsz1 ⊢
  have hat : ∀ W, Below w.heap.size w W → skR.at_ W W.heap.size [.int .i64 x.id, .int .i64 x.kind, .int .i64 x.hold, .bool x.shut, .slice B4 x.inn.length e4, .slice B5 x.out.length e5, .int .i64 x.st, .int .i64 x.done] x := fun W hb => Rep.more skR (Rep.at_below H0.out hb) hb.size
  have HAT := Lib.hid hat
  clear hat
  refine (socketOf_any [.int .i64 x.id, .int .i64 x.kind, .int .i64 x.hold, .bool x.shut, .slice B4 x.inn.length e4, .slice B5 x.out.length e5, .int .i64 x.st, .int .i64 x.done] x W0 (HAT.out _ F.out.1) hs).mono ?_
  rintro e1 W1 ⟨S, v4, v5, o5, d7, rfl, hK⟩
  have hsz : w.heap.size + 1 + 1 ≤ W0.heap.size := by omega
  have q0 := var_cell (F.later hK.below).out.2.1 0
  have q1 := var_cell (F.later hK.below).out.2.1 1
  have q2 := var_cell (F.later hK.below).out.2.1 2
  have q3 := var_cell (F.later hK.below).out.2.1 3
  have q4 := var_cell (F.later hK.below).out.2.1 4
  have q5 := var_cell (F.later hK.below).out.2.1 5
  have q6 := var_cell (F.later hK.below).out.2.1 6
  have q7 := var_cell (F.later hK.below).out.2.1 7
  go_wp2_with fail
  refine (sockOk_any [.int .i64 x.id, .int .i64 x.kind, .int .i64 x.hold, .bool x.shut, .slice B4 x.inn.length e4, .slice B5 x.out.length e5, .int .i64 x.st, .int .i64 x.done] x W1 (HAT.out _ (F.later hK.below).out.1)).mono ?_
  rw [HY.out]
  rintro e1 W2 ⟨rfl, hb⟩
  replace hK := hK.later hb
  clear q0 q1 q2 q3 q4 q5 q6 q7 hb
  cases y
  · skip
    have HP : Hid (ansP x = (x, false)) := Lib.hid (by unfold ansP; rw [HY.out]; simp)
    have hbx := hK.box
    have hown0 := hK.own
    have hlow0 := hK.below
    obtain ⟨A4, c4, A5, c5, B9, m9, e9, rfl, rfl, rfl, _, _⟩ := hK.slices
    clear hK
    have hfin := (F.later hlow0).out.1
    go_wp2_with fail
    refine (sock_any S x A4 A5 B9 _ c4 _ c5 m9 e9 d7 W2 hbx).mono ?_
    rintro e W9 ⟨rfl, hb9⟩
    have hZ := (hb9.block _ (Array.getElem?_eq_some_iff.1 (F.later hlow0).out.2.2).1).trans (F.later hlow0).out.2.2
    have hown := Rep.own_below (Rep.low skR hown0 hsz) hb9
    replace hfin : Below w.heap.size w W9 := Later.trans hfin hb9
    clear hb9 hbx hown0 hlow0 F
    have hl9 := (Array.getElem?_eq_some_iff.1 hZ).1
    have z0 := var_cell hZ 0
    have zf0 := var_frozen hZ 0
    have z1 := var_cell hZ 1
    have zf1 := var_frozen hZ 1
    have z2 := var_cell hZ 2
    have zf2 := var_frozen hZ 2
    have z3 := var_cell hZ 3
    have zf3 := var_frozen hZ 3
    have z4 := var_cell hZ 4
    have zf4 := var_frozen hZ 4
    have z5 := var_cell hZ 5
    have zf5 := var_frozen hZ 5
    have z6 := var_cell hZ 6
    have zf6 := var_frozen hZ 6
    have z7 := var_cell hZ 7
    have zf7 := var_frozen hZ 7
    go_wp2_with fail
    refine bodyPost_ret (v := .tuple #[.agg #[.int .i64 x.id, .int .i64 x.kind, .int .i64 x.hold, .bool x.shut, .slice A4 x.inn.length c4, .slice A5 x.out.length c5, .int .i64 x.st, .int .i64 x.done], .bool false]) (by simp [results, Try.results34, go_sem, z0, z1, z2, z3, z4, z5, z6, z7]) rfl ?_
    rw [HP.out]
    refine ⟨_, ?fp1, rfl, Rep.low skR (base := w.heap.size + 1 + 1) ?own1 (by omega), ?low1⟩
    case low1 =>
      repeat (refine Below.setCell ?_ (by first | (simp; done) | (simp; omega)) _)
      exact hfin
    case own1 =>
      repeat (refine Rep.setLow ?_ (by first | (simp; done) | (simp; omega)) _)
      exact hown
  · have q1 := var_cell (F.later hK.below).out.2.1 1
    have q3 : W2.cell? ⟨w.heap.size, 3, none⟩ = some (.bool sh) := by have := var_cell (F.later hK.below).out.2.1 3; rw [← HSH.out]; exact this
    cases k2
    · skip
      have HP : Hid (ansP x = (x, false)) := Lib.hid (by unfold ansP; rw [if_neg (fun h => by have h1 := HK2.out; simp at h1; exact h1 h.2.1)])
      have hbx := hK.box
      have hown0 := hK.own
      have hlow0 := hK.below
      obtain ⟨A4, c4, A5, c5, B9, m9, e9, rfl, rfl, rfl, _, _⟩ := hK.slices
      clear hK
      have hfin := (F.later hlow0).out.1
      go_wp2_with fail
      refine (sock_any S x A4 A5 B9 _ c4 _ c5 m9 e9 d7 W2 hbx).mono ?_
      rintro e W9 ⟨rfl, hb9⟩
      have hZ := (hb9.block _ (Array.getElem?_eq_some_iff.1 (F.later hlow0).out.2.2).1).trans (F.later hlow0).out.2.2
      have hown := Rep.own_below (Rep.low skR hown0 hsz) hb9
      replace hfin : Below w.heap.size w W9 := Later.trans hfin hb9
      clear hb9 hbx hown0 hlow0 F
      have hl9 := (Array.getElem?_eq_some_iff.1 hZ).1
      have z0 := var_cell hZ 0
      have zf0 := var_frozen hZ 0
      have z1 := var_cell hZ 1
      have zf1 := var_frozen hZ 1
      have z2 := var_cell hZ 2
      have zf2 := var_frozen hZ 2
      have z3 := var_cell hZ 3
      have zf3 := var_frozen hZ 3
      have z4 := var_cell hZ 4
      have zf4 := var_frozen hZ 4
      have z5 := var_cell hZ 5
      have zf5 := var_frozen hZ 5
      have z6 := var_cell hZ 6
      have zf6 := var_frozen hZ 6
      have z7 := var_cell hZ 7
      have zf7 := var_frozen hZ 7
      go_wp2_with fail
      refine bodyPost_ret (v := .tuple #[.agg #[.int .i64 x.id, .int .i64 x.kind, .int .i64 x.hold, .bool x.shut, .slice A4 x.inn.length c4, .slice A5 x.out.length c5, .int .i64 x.st, .int .i64 x.done], .bool false]) (by simp [results, Try.results34, go_sem, z0, z1, z2, z3, z4, z5, z6, z7]) rfl ?_
      rw [HP.out]
      refine ⟨_, ?fp2, rfl, Rep.low skR (base := w.heap.size + 1 + 1) ?own2 (by omega), ?low2⟩
      case low2 =>
        repeat (refine Below.setCell ?_ (by first | (simp; done) | (simp; omega)) _)
        exact hfin
      case own2 =>
        repeat (refine Rep.setLow ?_ (by first | (simp; done) | (simp; omega)) _)
        exact hown
    · cases sh
      · go_wp2_with fail
        clear q1 q3
        have hk : x.kind = 2 := by have := HK2.out; simpa using this
        have HKK := Lib.hid hk
        obtain ⟨⟨⟨yid, yk, yh, ys, yi, yo, yst, yd⟩, ok⟩, hy9⟩ : ∃ p, ansC x = p := ⟨_, rfl⟩
        have HC := Lib.hid hy9
        refine (answer_box W2 hK HY.out hk hs).mono ?_
        rw [HC.out]
        rintro e1 W3 ⟨v4', rfl, hK⟩
        clear hk hy9
        have HP : Hid (ansP x = (⟨yid, yk, yh, ys, yi, yo, yst, yd⟩, ok)) := Lib.hid (by unfold ansP; rw [if_pos ⟨HY.out, HKK.out, HSH.out⟩, HC.out])
        have hbx := hK.box
        have hown0 := hK.own
        have hlow0 := hK.below
        obtain ⟨A4, c4, A5, c5, B9, m9, e9, rfl, rfl, rfl, _, _⟩ := hK.slices
        clear hK
        have hfin := (F.later hlow0).out.1
        go_wp2_with fail
        refine (sock_any S ⟨yid, yk, yh, ys, yi, yo, yst, yd⟩ A4 A5 B9 _ c4 _ c5 m9 e9 d7 W3 hbx).mono ?_
        rintro e W9 ⟨rfl, hb9⟩
        have hZ := (hb9.block _ (Array.getElem?_eq_some_iff.1 (F.later hlow0).out.2.2).1).trans (F.later hlow0).out.2.2
        have hown := Rep.own_below (Rep.low skR hown0 hsz) hb9
        replace hfin : Below w.heap.size w W9 := Later.trans hfin hb9
        clear hb9 hbx hown0 hlow0 F
        have hl9 := (Array.getElem?_eq_some_iff.1 hZ).1
        have z0 := var_cell hZ 0
        have zf0 := var_frozen hZ 0
        have z1 := var_cell hZ 1
        have zf1 := var_frozen hZ 1
        have z2 := var_cell hZ 2
        have zf2 := var_frozen hZ 2
        have z3 := var_cell hZ 3
        have zf3 := var_frozen hZ 3
        have z4 := var_cell hZ 4
        have zf4 := var_frozen hZ 4
        have z5 := var_cell hZ 5
        have zf5 := var_frozen hZ 5
        have z6 := var_cell hZ 6
        have zf6 := var_frozen hZ 6
        have z7 := var_cell hZ 7
        have zf7 := var_frozen hZ 7
        go_wp2_with fail
        refine bodyPost_ret (v := .tuple #[.agg #[.int .i64 yid, .int .i64 yk, .int .i64 yh, .bool ys, .slice A4 yi.length c4, .slice A5 yo.length c5, .int .i64 yst, .int .i64 yd], .bool ok]) (by simp [results, Try.results34, go_sem, z0, z1, z2, z3, z4, z5, z6, z7]) rfl ?_
        rw [HP.out]
        refine ⟨_, ?fp3, rfl, Rep.low skR (base := w.heap.size + 1 + 1) ?own3 (by omega), ?low3⟩
        case low3 =>
          repeat (refine Below.setCell ?_ (by first | (simp; done) | (simp; omega)) _)
          exact hfin
        case own3 =>
          repeat (refine Rep.setLow ?_ (by first | (simp; done) | (simp; omega)) _)
          exact hown
      · skip
        have HP : Hid (ansP x = (x, false)) := Lib.hid (by unfold ansP; rw [HSH.out]; simp)
        have hbx := hK.box
        have hown0 := hK.own
        have hlow0 := hK.below
        obtain ⟨A4, c4, A5, c5, B9, m9, e9, rfl, rfl, rfl, _, _⟩ := hK.slices
        clear hK
        have hfin := (F.later hlow0).out.1
        go_wp2_with fail
        refine (sock_any S x A4 A5 B9 _ c4 _ c5 m9 e9 d7 W2 hbx).mono ?_
        rintro e W9 ⟨rfl, hb9⟩
        have hZ := (hb9.block _ (Array.getElem?_eq_some_iff.1 (F.later hlow0).out.2.2).1).trans (F.later hlow0).out.2.2
        have hown := Rep.own_below (Rep.low skR hown0 hsz) hb9
        replace hfin : Below w.heap.size w W9 := Later.trans hfin hb9
        clear hb9 hbx hown0 hlow0 F
        have hl9 := (Array.getElem?_eq_some_iff.1 hZ).1
        have z0 := var_cell hZ 0
        have zf0 := var_frozen hZ 0
        have z1 := var_cell hZ 1
        have zf1 := var_frozen hZ 1
        have z2 := var_cell hZ 2
        have zf2 := var_frozen hZ 2
        have z3 := var_cell hZ 3
        have zf3 := var_frozen hZ 3
        have z4 := var_cell hZ 4
        have zf4 := var_frozen hZ 4
        have z5 := var_cell hZ 5
        have zf5 := var_frozen hZ 5
        have z6 := var_cell hZ 6
        have zf6 := var_frozen hZ 6
        have z7 := var_cell hZ 7
        have zf7 := var_frozen hZ 7
        go_wp2_with fail
        refine bodyPost_ret (v := .tuple #[.agg #[.int .i64 x.id, .int .i64 x.kind, .int .i64 x.hold, .bool x.shut, .slice A4 x.inn.length c4, .slice A5 x.out.length c5, .int .i64 x.st, .int .i64 x.done], .bool false]) (by simp [results, Try.results34, go_sem, z0, z1, z2, z3, z4, z5, z6, z7]) rfl ?_
        rw [HP.out]
        refine ⟨_, ?fp4, rfl, Rep.low skR (base := w.heap.size + 1 + 1) ?own4 (by omega), ?low4⟩
        case low4 =>
          repeat (refine Below.setCell ?_ (by first | (simp; done) | (simp; omega)) _)
          exact hfin
        case own4 =>
          repeat (refine Rep.setLow ?_ (by first | (simp; done) | (simp; omega)) _)
          exact hown
theorem keep_below {w w' : World} {base : Nat} {e : TypeId} {v : Value} {l : List UInt8} (h : w.ownsRow base e 1 v l.length (bys l)) (hb : Below w.heap.size w w') : Owns w' base e v l := Owns.keep h hb
/-- A socket with rows of its own. -/
def RetSkO (w : World) (x : Sk) (e : Ending) (w' : World) : Prop := ∃ A4 c4 A5 c5, e = .returned (.agg #[.int .i64 x.id, .int .i64 x.kind, .int .i64 x.hold, .bool x.shut, .slice A4 x.inn.length c4, .slice A5 x.out.length c5, .int .i64 x.st, .int .i64 x.done]) ∧ Owns w' w.heap.size 5 (.slice A4 x.inn.length c4) x.inn ∧ Owns w' w.heap.size 5 (.slice A5 x.out.length c5) x.out ∧ (∀ k, (Value.slice A4 x.inn.length c4).ownBlock = some k → (Value.slice A5 x.out.length c5).ownBlock ≠ some k) ∧ Below w.heap.size w w'
set_option maxHeartbeats 8000000 in
theorem l8Copy_any (cs : List Value) (x : Sk) (w : World) (h : skR.at_ w w.heap.size cs x) (hs : RoomSk x) :
    Calls Try.prog 80 #[.agg cs.toArray] w (RetSkO w x) := by
  obtain ⟨j0, hj0, hj1, hj2, hj3⟩ := info_parts Try.info8
  obtain ⟨A4, c4, A5, c5, rfl, _, hr4, _, hr5⟩ := sk_cells h
  obtain ⟨f4, f5⟩ := hs
  clear h
  have HW : Below w.heap.size w (((w.alloc (.cells #[.int .i64 x.id, .int .i64 x.kind, .int .i64 x.hold, .bool x.shut, .slice A4 x.inn.length c4, .slice A5 x.out.length c5, .int .i64 x.st, .int .i64 x.done] 25)).alloc (.cells #[.int .i64 0, .int .i64 0, .int .i64 0, .bool false, .slice none 0 0, .slice none 0 0, .int .i64 0, .int .i64 0] 25)).alloc (.cells #[.int .i64 x.id, .int .i64 x.kind, .int .i64 x.hold, .bool x.shut, .slice A4 x.inn.length c4, .slice A5 x.out.length c5, .int .i64 x.st, .int .i64 x.done] 25)) := Later.trans (Later.trans (Later.alloc w _) (Later.alloc _ _)) (Later.alloc _ _)
  have V : (((w.alloc (.cells #[.int .i64 x.id, .int .i64 x.kind, .int .i64 x.hold, .bool x.shut, .slice A4 x.inn.length c4, .slice A5 x.out.length c5, .int .i64 x.st, .int .i64 x.done] 25)).alloc (.cells #[.int .i64 0, .int .i64 0, .int .i64 0, .bool false, .slice none 0 0, .slice none 0 0, .int .i64 0, .int .i64 0] 25)).alloc (.cells #[.int .i64 x.id, .int .i64 x.kind, .int .i64 x.hold, .bool x.shut, .slice A4 x.inn.length c4, .slice A5 x.out.length c5, .int .i64 x.st, .int .i64 x.done] 25)).heap[w.heap.size + 1 + 1]? = some (.cells [.int .i64 x.id, .int .i64 x.kind, .int .i64 x.hold, .bool x.shut, .slice A4 x.inn.length c4, .slice A5 x.out.length c5, .int .i64 x.st, .int .i64 x.done].toArray 25 (0, 0)) := heap_alloc_new' _ _ (by simp)
  have Z : (((w.alloc (.cells #[.int .i64 x.id, .int .i64 x.kind, .int .i64 x.hold, .bool x.shut, .slice A4 x.inn.length c4, .slice A5 x.out.length c5, .int .i64 x.st, .int .i64 x.done] 25)).alloc (.cells #[.int .i64 0, .int .i64 0, .int .i64 0, .bool false, .slice none 0 0, .slice none 0 0, .int .i64 0, .int .i64 0] 25)).alloc (.cells #[.int .i64 x.id, .int .i64 x.kind, .int .i64 x.hold, .bool x.shut, .slice A4 x.inn.length c4, .slice A5 x.out.length c5, .int .i64 x.st, .int .i64 x.done] 25)).heap[w.heap.size + 1]? = some (.cells [.int .i64 0, .int .i64 0, .int .i64 0, .bool false, .slice none 0 0, .slice none 0 0, .int .i64 0, .int .i64 0].toArray 25 (0, 0)) := (Below.heap_alloc _ _ _ (by simp)).trans (heap_alloc_new' _ _ (by simp))
  have Q : (((w.alloc (.cells #[.int .i64 x.id, .int .i64 x.kind, .int .i64 x.hold, .bool x.shut, .slice A4 x.inn.length c4, .slice A5 x.out.length c5, .int .i64 x.st, .int .i64 x.done] 25)).alloc (.cells #[.int .i64 0, .int .i64 0, .int .i64 0, .bool false, .slice none 0 0, .slice none 0 0, .int .i64 0, .int .i64 0] 25)).alloc (.cells #[.int .i64 x.id, .int .i64 x.kind, .int .i64 x.hold, .bool x.shut, .slice A4 x.inn.length c4, .slice A5 x.out.length c5, .int .i64 x.st, .int .i64 x.done] 25)).heap[w.heap.size]? = some (.cells [.int .i64 x.id, .int .i64 x.kind, .int .i64 x.hold, .bool x.shut, .slice A4 x.inn.length c4, .slice A5 x.out.length c5, .int .i64 x.st, .int .i64 x.done].toArray 25 (0, 0)) := (Below.heap_alloc _ _ _ (by simp; omega)).trans ((Below.heap_alloc _ _ _ (by simp)).trans (heap_alloc_new w _))
  go_enter Try.func80, Try.ntmps80
  go_upto_region 2 with (fail)
  generalize ((w.alloc (.cells #[.int .i64 x.id, .int .i64 x.kind, .int .i64 x.hold, .bool x.shut, .slice A4 x.inn.length c4, .slice A5 x.out.length c5, .int .i64 x.st, .int .i64 x.done] 25)).alloc (.cells #[.int .i64 0, .int .i64 0, .int .i64 0, .bool false, .slice none 0 0, .slice none 0 0, .int .i64 0, .int .i64 0] 25)).alloc (.cells #[.int .i64 x.id, .int .i64 x.kind, .int .i64 x.hold, .bool x.shut, .slice A4 x.inn.length c4, .slice A5 x.out.length c5, .int .i64 x.st, .int .i64 x.done] 25) = W0 at HW V Z Q ⊢
  have hv0 : w.heap.size + 1 + 1 < W0.heap.size := (Array.getElem?_eq_some_iff.1 V).1
  have hz0 : w.heap.size + 1 < W0.heap.size := by omega
  have hq0 : w.heap.size < W0.heap.size := by omega
  have q4 := var_cell Q 4
  have o0 := Rep.lit_empty W0 5 1 (g := W0.heap.size) rfl
  have HA := Later.alloc W0 (.cells #[] 5)
  have HV := Lib.hid V
  have HZ := Lib.hid Z
  have HQ := Lib.hid Q
  clear V Z Q
  go_wp2_with (first
    | (at_builtin
       refine Rep.wpList_bytes _ W0 rfl (.tmp 5) (.tmp 7) _ rfl 5 j0 Try.underlying22 hj0 hj1 hj2 hj3 _ rfl W0.heap.size o0 (by simp) w.heap.size A4 c4 x.inn rfl ((hr4.below HW).alloc HW.size _) f4 ?_
       intro D4 d4 W1 o4 hg hv9
       refine Halt.go ?_)
    | fail)
  have hb := HA.grown hg HA.size hv9
  replace HV := Lib.hid ((hb.block _ hv0).trans HV.out)
  replace HZ := Lib.hid ((hb.block _ hz0).trans HZ.out)
  replace HQ := Lib.hid ((hb.block _ hq0).trans HQ.out)
  replace HW := HW.trans (hb.mono HW.size)
  have hs1 := hb.size
  have hv1 : w.heap.size + 1 + 1 < W1.heap.size := by omega
  have t4 := var_frozen HV.out 4
  have y4 := var_cell HV.out 4
  clear hg hv9 hb HA o0 q4
  refine Halt.mk ?_
  go_upto_region 3 with (fail)
  clear t4 y4
  have os := Rep.Only.setCell W1 (p := ⟨w.heap.size + 1 + 1, 4, none⟩) (fp := [w.heap.size + 1 + 1]) (by simp) (.slice D4 x.inn.length d4)
  replace HV := Lib.hid (var_set HV.out 4 (.slice D4 x.inn.length d4))
  replace HZ := Lib.hid ((os.block _ (by omega) (by simp)).trans HZ.out)
  replace HQ := Lib.hid ((os.block _ (by omega) (by simp; omega)).trans HQ.out)
  replace HW := HW.setCell (p := ⟨w.heap.size + 1 + 1, 4, none⟩) (by simp; omega) (.slice D4 x.inn.length d4)
  replace o4 := Rep.ownsRow_block o4 fun g hg9 => os.block g (o4.lt g (by simpa using hg9)).2 (by have := (o4.lt g (by simpa using hg9)).1; simp; omega)
  replace hs1 := Nat.le_trans hs1 os.size
  replace hv1 := Nat.lt_of_lt_of_le hv1 os.size
  clear os
  generalize (W1.setCell ⟨w.heap.size + 1 + 1, 4, none⟩ (.slice D4 x.inn.length d4)) = W2 at HV HZ HQ HW o4 hs1 hv1 ⊢
  have hz1 : w.heap.size + 1 < W2.heap.size := by omega
  have hq1 : w.heap.size < W2.heap.size := by omega
  have q5 := var_cell HQ.out 5
  have o1 := Rep.lit_empty W2 5 1 (g := W2.heap.size) rfl
  have HA := Later.alloc W2 (.cells #[] 5)
  have u4 : ∀ k, (Value.slice D4 x.inn.length d4).ownBlock = some k → k < W2.heap.size := fun k hk => (o4.lt k hk).2
  go_wp2_with (first
    | (at_builtin
       refine Rep.wpList_bytes _ W2 rfl (.tmp 10) (.tmp 12) _ rfl 5 j0 Try.underlying22 hj0 hj1 hj2 hj3 _ rfl W2.heap.size o1 (by simp) w.heap.size A5 c5 x.out rfl ((hr5.below HW).alloc HW.size _) f5 ?_
       intro D5 d5 W3 o5 hg hv9
       refine Halt.go ?_)
    | fail)
  have hb := HA.grown hg HA.size hv9
  replace HV := Lib.hid ((hb.block _ hv1).trans HV.out)
  replace HZ := Lib.hid ((hb.block _ hz1).trans HZ.out)
  replace HW := HW.trans (hb.mono HW.size)
  replace o4 := keep_below o4 hb
  have hs2 := hb.size
  have hv2 : w.heap.size + 1 + 1 < W3.heap.size := by omega
  have t5 := var_frozen HV.out 5
  have y5 := var_cell HV.out 5
  clear hg hv9 hb HA o1 q5 HQ
  refine Halt.mk ?_
  go_upto_region 4 with (fail)
  clear t5 y5
  have os := Rep.Only.setCell W3 (p := ⟨w.heap.size + 1 + 1, 5, none⟩) (fp := [w.heap.size + 1 + 1]) (by simp) (.slice D5 x.out.length d5)
  replace HV := Lib.hid (var_set HV.out 5 (.slice D5 x.out.length d5))
  replace HZ := Lib.hid ((os.block _ (by omega) (by simp)).trans HZ.out)
  replace HW := HW.setCell (p := ⟨w.heap.size + 1 + 1, 5, none⟩) (by simp; omega) (.slice D5 x.out.length d5)
  replace o4 := Rep.ownsRow_block o4 fun g hg9 => os.block g (o4.lt g (by simpa using hg9)).2 (by have := (o4.lt g (by simpa using hg9)).1; simp; omega)
  replace o5 := Rep.ownsRow_block o5 fun g hg9 => os.block g (o5.lt g (by simpa using hg9)).2 (by have := (o5.lt g (by simpa using hg9)).1; simp; omega)
  replace hv2 := Nat.lt_of_lt_of_le hv2 os.size
  clear os
  generalize (W3.setCell ⟨w.heap.size + 1 + 1, 5, none⟩ (.slice D5 x.out.length d5)) = W4 at HV HZ HW o4 o5 hv2 ⊢
  have v0 := var_cell HV.out 0
  have z0 := var_cell HZ.out 0
  have f0_ := var_frozen HZ.out 0
  have v1 := var_cell HV.out 1
  have z1 := var_cell HZ.out 1
  have f1_ := var_frozen HZ.out 1
  have v2 := var_cell HV.out 2
  have z2 := var_cell HZ.out 2
  have f2_ := var_frozen HZ.out 2
  have v3 := var_cell HV.out 3
  have z3 := var_cell HZ.out 3
  have f3_ := var_frozen HZ.out 3
  have v4 := var_cell HV.out 4
  have z4 := var_cell HZ.out 4
  have f4_ := var_frozen HZ.out 4
  have v5 := var_cell HV.out 5
  have z5 := var_cell HZ.out 5
  have f5_ := var_frozen HZ.out 5
  have v6 := var_cell HV.out 6
  have z6 := var_cell HZ.out 6
  have f6_ := var_frozen HZ.out 6
  have v7 := var_cell HV.out 7
  have z7 := var_cell HZ.out 7
  have f7_ := var_frozen HZ.out 7
  go_wp2_with fail
  refine bodyPost_ret (v := .agg #[.int .i64 x.id, .int .i64 x.kind, .int .i64 x.hold, .bool x.shut, .slice D4 x.inn.length d4, .slice D5 x.out.length d5, .int .i64 x.st, .int .i64 x.done]) (by simp [results, Try.results80, go_sem, z0, z1, z2, z3, z4, z5, z6, z7]) rfl ?_
  refine ⟨D4, d4, D5, d5, rfl, ?_, ?_, fun k h1 h2 => by have h3 := u4 k h1; have h4 := (o5.lt k h2).1; omega, ?_⟩
  · refine ownsRow_mono (base := w.heap.size + 1 + 1 + 1) ?_ (by omega)
    repeat (refine Owns.setLow ?_ (by first | (simp; done) | (simp; omega)) _)
    exact ownsRow_mono o4 (by omega)
  · refine ownsRow_mono (base := w.heap.size + 1 + 1 + 1) ?_ (by omega)
    repeat (refine Owns.setLow ?_ (by first | (simp; done) | (simp; omega)) _)
    exact ownsRow_mono o5 (by omega)
  · repeat (refine Below.setCell ?_ (by first | (simp; done) | (simp; omega)) _)
    exact HW
/-- A variable at block S: it holds x, its byte slices are v4 and v5; the world's variables that were there at w0 are as they were. -/
structure OB (w0 : World) (S : Nat) (x : Sk) (v4 v5 : Value) (W : World) : Prop where
  below : Below w0.heap.size w0 W
  box : W.heap[S]? = some (.cells #[.int .i64 x.id, .int .i64 x.kind, .int .i64 x.hold, .bool x.shut, v4, v5, .int .i64 x.st, .int .i64 x.done] 25 (0, 0))
  inn : Owns W w0.heap.size 5 v4 x.inn
  out : Owns W w0.heap.size 5 v5 x.out
  ap : ∀ k, v4.ownBlock = some k → v5.ownBlock ≠ some k
  lo : w0.heap.size ≤ S
  n4 : v4.ownBlock ≠ some S
  n5 : v5.ownBlock ≠ some S
section
variable {w0 W W' : World} {S : Nat} {x : Sk} {v4 v5 u : Value}
theorem OB.lt (h : OB w0 S x v4 v5 W) : S < W.heap.size := (Array.getElem?_eq_some_iff.1 h.box).1
theorem OB.later (h : OB w0 S x v4 v5 W) (hb : Below W.heap.size W W') : OB w0 S x v4 v5 W' :=
  ⟨Rep.Only.below h.below (Rep.only_of_below hb) h.below.size (fun g hg => by cases hg), (hb.block _ h.lt).trans h.box, Owns.keep h.inn hb, Owns.keep h.out hb, h.ap, h.lo, h.n4, h.n5⟩
instance : Keeps (OB w0 S x v4 v5) := ⟨fun hb h => h.later hb⟩
/-- A store into a number of the box. -/
theorem OB.put (h : OB w0 S x v4 v5 W) (i : Nat) (u : Value) (x' : Sk) (hi : x'.inn = x.inn) (ho : x'.out = x.out)
    (hb : (#[.int .i64 x.id, .int .i64 x.kind, .int .i64 x.hold, .bool x.shut, v4, v5, .int .i64 x.st, .int .i64 x.done] : Array Value).setIfInBounds i u = #[.int .i64 x'.id, .int .i64 x'.kind, .int .i64 x'.hold, .bool x'.shut, v4, v5, .int .i64 x'.st, .int .i64 x'.done]) : OB w0 S x' v4 v5 (W.setCell ⟨S, i, none⟩ u) := by
  have ho' := Rep.Only.setCell W (p := ⟨S, i, none⟩) (fp := [S]) (by simp) u
  refine ⟨Rep.Only.below h.below ho' h.below.size (fun g hg => by simp at hg; subst hg; exact h.lo), ?_, ?_, ?_, h.ap, h.lo, h.n4, h.n5⟩
  · rw [← hb]; exact var_set h.box i u
  · rw [hi]; exact Rep.ownsRow_block h.inn fun g hg => ho'.block g (h.inn.lt g (by simpa using hg)).2 (fun e => h.n4 (by simp at e; subst e; simpa using hg))
  · rw [ho]; exact Rep.ownsRow_block h.out fun g hg => ho'.block g (h.out.lt g (by simpa using hg)).2 (fun e => h.n5 (by simp at e; subst e; simpa using hg))
/-- The slice of what came in has grown. -/
theorem OB.grown4 (h : OB w0 S x v4 v5 W) {l : List UInt8} {v : Value} (hg : W.grownBy W' v4.ownBlock) (hl : Owns W' w0.heap.size 5 v l) (hat : v.ownBlock = v4.ownBlock ∨ v.ownBlock = some W.heap.size ∨ v.ownBlock = none) :
    OB w0 S { x with inn := l } v v5 (W'.setCell ⟨S, 4, none⟩ v) := by
  have hb : ∀ k, k < W.heap.size → v4.ownBlock ≠ some k → W'.heap[k]? = W.heap[k]? := fun k hk hn => hg.block k hk (fun e => hn e.symm)
  have hS := h.lt
  have hn4 : v.ownBlock ≠ some S := by
    rcases hat with e | e | e
    · rw [e]; exact h.n4
    · rw [e]; intro e2; injection e2 with e2; omega
    · rw [e]; intro e2; cases e2
  have ho' := Rep.Only.setCell W' (p := ⟨S, 4, none⟩) (fp := [S]) (by simp) v
  have hS' : S < W'.heap.size := Nat.lt_of_lt_of_le hS hg.size
  refine ⟨?_, ?_, ?_, ?_, ?_, h.lo, hn4, h.n5⟩
  · refine Rep.Only.below (h.below.grown hg h.below.size (fun k hk => (h.inn.lt k hk).1)) ho' (Nat.le_trans h.below.size hg.size) (fun g hg => by simp at hg; subst hg; exact h.lo)
  · exact var_set ((hb S hS h.n4).trans h.box) 4 v
  · exact Rep.ownsRow_block hl fun g hg2 => ho'.block g (hl.lt g (by simpa using hg2)).2 (fun e => hn4 (by simp at e; subst e; simpa using hg2))
  · have h5 : Owns W' w0.heap.size 5 v5 x.out := Rep.ownsRow_block h.out fun g hg2 => hb g (h.out.lt g (by simpa using hg2)).2 (fun e => h.ap g e (by simpa using hg2))
    exact Rep.ownsRow_block h5 fun g hg2 => ho'.block g (h5.lt g (by simpa using hg2)).2 (fun e => h.n5 (by simp at e; subst e; simpa using hg2))
  · intro k hk
    rcases hat with e | e | e
    · exact h.ap k (e ▸ hk)
    · intro e5; have := (h.out.lt k e5).2; rw [e] at hk; injection hk with hk; omega
    · rw [e] at hk; cases hk
end
theorem OB.own {w0 W : World} {S : Nat} {x : Sk} {v4 v5 : Value} (h : OB w0 S x v4 v5 W) : skR.own W w0.heap.size [.int .i64 x.id, .int .i64 x.kind, .int .i64 x.hold, .bool x.shut, v4, v5, .int .i64 x.st, .int .i64 x.done] x (v4.ownBlock.toList ++ (v5.ownBlock.toList ++ [])) := sk_own h.inn h.out (sk_apart2 h.ap)
set_option maxHeartbeats 16000000 in
theorem answerS_any (cs : List Value) (x : Sk) (w : World) (h : skR.at_ w w.heap.size cs x) (hs : RoomSk x) :
    Calls Try.prog 35 #[.agg cs.toArray] w (RetSkB w (ansP x)) := by
  obtain ⟨B4, e4, B5, e5, rfl, hc4, hr4, hc5, hr5⟩ := sk_cells h
  have F : All (fun w' => Below w.heap.size w w' ∧ (w'.heap[w.heap.size]? = some (.cells #[.int .i64 x.id, .int .i64 x.kind, .int .i64 x.hold, .bool x.shut, .slice B4 x.inn.length e4, .slice B5 x.out.length e5, .int .i64 x.st, .int .i64 x.done] 25 (0, 0))) ∧ w'.heap[w.heap.size + 1]? = some (.cells #[.int .i64 0, .int .i64 0, .int .i64 0, .bool false, .slice none 0 0, .slice none 0 0, .int .i64 0, .int .i64 0] 25 (0, 0))) ((w.alloc (.cells #[.int .i64 x.id, .int .i64 x.kind, .int .i64 x.hold, .bool x.shut, .slice B4 x.inn.length e4, .slice B5 x.out.length e5, .int .i64 x.st, .int .i64 x.done] 25)).alloc (.cells #[.int .i64 0, .int .i64 0, .int .i64 0, .bool false, .slice none 0 0, .slice none 0 0, .int .i64 0, .int .i64 0] 25)) := ⟨Later.trans (Later.alloc w _) (Later.alloc _ _), (Below.heap_alloc _ _ _ (by simp)).trans (heap_alloc_new w _), heap_alloc_new' _ _ (by simp)⟩
  have hsz1 : w.heap.size + 1 + 1 = ((w.alloc (.cells #[.int .i64 x.id, .int .i64 x.kind, .int .i64 x.hold, .bool x.shut, .slice B4 x.inn.length e4, .slice B5 x.out.length e5, .int .i64 x.st, .int .i64 x.done] 25)).alloc (.cells #[.int .i64 0, .int .i64 0, .int .i64 0, .bool false, .slice none 0 0, .slice none 0 0, .int .i64 0, .int .i64 0] 25)).heap.size := by simp
  have H0 := Lib.hid h
  have HR := Lib.hid hr5
  have hcap := hc5.1
  have hil := hs.1
  have hol := hs.2
  obtain ⟨i0, hi0, hz0, hz1, hz2⟩ := info_parts Try.info8
  obtain ⟨y, hy⟩ : ∃ y, skB x = y := ⟨_, rfl⟩
  have HY := Lib.hid hy
  obtain ⟨sh, hsh⟩ : ∃ y, x.shut = y := ⟨_, rfl⟩
  have HSH := Lib.hid hsh
  obtain ⟨k2, hk2⟩ : ∃ y, (x.kind != 2) = y := ⟨_, rfl⟩
  have HK2 := Lib.hid hk2
  clear h hr4 hr5 hc4 hc5 hy hsh
  go_enter Try.func35, Try.ntmps35
  go_wp2_with fail
  generalize ((w.alloc (.cells #[.int .i64 x.id, .int .i64 x.kind, .int .i64 x.hold, .bool x.shut, .slice B4 x.inn.length e4, .slice B5 x.out.length e5, .int .i64 x.st, .int .i64 x.done] 25)).alloc (.cells #[.int .i64 0, .int .i64 0, .int .i64 0, .bool false, .slice none 0 0, .slice none 0 0, .int .i64 0, .int .i64 0] 25)) = W0 at F hsz1 ⊢
  have hat : ∀ W, Below w.heap.size w W → skR.at_ W W.heap.size [.int .i64 x.id, .int .i64 x.kind, .int .i64 x.hold, .bool x.shut, .slice B4 x.inn.length e4, .slice B5 x.out.length e5, .int .i64 x.st, .int .i64 x.done] x := fun W hb => Rep.more skR (Rep.at_below H0.out hb) hb.size
  have HAT := Lib.hid hat
  clear hat
  refine (l8Copy_any [.int .i64 x.id, .int .i64 x.kind, .int .i64 x.hold, .bool x.shut, .slice B4 x.inn.length e4, .slice B5 x.out.length e5, .int .i64 x.st, .int .i64 x.done] x W0 (HAT.out _ F.out.1) hs).mono ?_
  rintro e1 W1 ⟨A4, c4, A5, c5, rfl, h4, h5, hap, hb⟩
  have hsz : w.heap.size + 1 + 1 ≤ W0.heap.size := by omega
  go_upto_region 2 with (fail)
  have hO : OB W0 W1.heap.size x (.slice A4 x.inn.length c4) (.slice A5 x.out.length c5) (W1.alloc (.cells #[.int .i64 x.id, .int .i64 x.kind, .int .i64 x.hold, .bool x.shut, .slice A4 x.inn.length c4, .slice A5 x.out.length c5, .int .i64 x.st, .int .i64 x.done] 25)) :=
    ⟨hb.alloc hb.size _, heap_alloc_new _ _, Owns.keep h4 (Later.alloc _ _), Owns.keep h5 (Later.alloc _ _), hap, hb.size, fun e => by have := (h4.lt _ e).2; omega, fun e => by have := (h5.lt _ e).2; omega⟩
  have hGl : w.heap.size + 1 + 1 ≤ W1.heap.size := Nat.le_trans hsz hb.size
  clear h4 h5 hap hb
  generalize W1.alloc (.cells #[.int .i64 x.id, .int .i64 x.kind, .int .i64 x.hold, .bool x.shut, .slice A4 x.inn.length c4, .slice A5 x.out.length c5, .int .i64 x.st, .int .i64 x.done] 25) = W2 at hO ⊢
  generalize W1.heap.size = G at hO hGl ⊢
  have q0 := var_cell (F.later hO.below).out.2.1 0
  have q1 := var_cell (F.later hO.below).out.2.1 1
  have q2 := var_cell (F.later hO.below).out.2.1 2
  have q3 := var_cell (F.later hO.below).out.2.1 3
  have q4 := var_cell (F.later hO.below).out.2.1 4
  have q5 := var_cell (F.later hO.below).out.2.1 5
  have q6 := var_cell (F.later hO.below).out.2.1 6
  have q7 := var_cell (F.later hO.below).out.2.1 7
  go_wp2_with fail
  refine (sockOkS_any [.int .i64 x.id, .int .i64 x.kind, .int .i64 x.hold, .bool x.shut, .slice B4 x.inn.length e4, .slice B5 x.out.length e5, .int .i64 x.st, .int .i64 x.done] x W2 (HAT.out _ (F.later hO.below).out.1)).mono ?_
  rw [HY.out]
  rintro e1 W3 ⟨rfl, hb⟩
  replace hO := hO.later hb
  clear q0 q1 q2 q3 q4 q5 q6 q7 hb
  cases y
  · skip
    have HP : Hid (ansP x = (x, false)) := Lib.hid (by unfold ansP; rw [HY.out]; simp)
    have hZ := (F.later hO.below).out.2.2
    have hown := Rep.low skR hO.own hsz
    have hfin := (F.later hO.below).out.1
    have hl9 := (Array.getElem?_eq_some_iff.1 hZ).1
    have hlG := hO.lt
    have z0 := var_cell hZ 0
    have zf0 := var_frozen hZ 0
    have b0 := var_cell hO.box 0
    have z1 := var_cell hZ 1
    have zf1 := var_frozen hZ 1
    have b1 := var_cell hO.box 1
    have z2 := var_cell hZ 2
    have zf2 := var_frozen hZ 2
    have b2 := var_cell hO.box 2
    have z3 := var_cell hZ 3
    have zf3 := var_frozen hZ 3
    have b3 := var_cell hO.box 3
    have z4 := var_cell hZ 4
    have zf4 := var_frozen hZ 4
    have b4 := var_cell hO.box 4
    have z5 := var_cell hZ 5
    have zf5 := var_frozen hZ 5
    have b5 := var_cell hO.box 5
    have z6 := var_cell hZ 6
    have zf6 := var_frozen hZ 6
    have b6 := var_cell hO.box 6
    have z7 := var_cell hZ 7
    have zf7 := var_frozen hZ 7
    have b7 := var_cell hO.box 7
    clear F hO
    go_wp2_with fail
    refine bodyPost_ret (v := .tuple #[.agg #[.int .i64 x.id, .int .i64 x.kind, .int .i64 x.hold, .bool x.shut, .slice A4 x.inn.length c4, .slice A5 x.out.length c5, .int .i64 x.st, .int .i64 x.done], .bool false]) (by simp [results, Try.results35, go_sem, z0, z1, z2, z3, z4, z5, z6, z7]) rfl ?_
    rw [HP.out]
    refine ⟨_, ?fp1, rfl, Rep.low skR (base := w.heap.size + 1 + 1) ?own1 (by omega), ?low1⟩
    case low1 =>
      repeat (refine Below.setCell ?_ (by first | (simp; done) | (simp; omega)) _)
      exact hfin
    case own1 =>
      repeat (refine Rep.setLow ?_ (by first | (simp; done) | (simp; omega)) _)
      exact hown
  · have q1 := var_cell (F.later hO.below).out.2.1 1
    have q3 : W3.cell? ⟨w.heap.size, 3, none⟩ = some (.bool sh) := by have := var_cell (F.later hO.below).out.2.1 3; rw [← HSH.out]; exact this
    cases k2
    · cases sh
      · have HKK : Hid (x.kind = 2) := Lib.hid (by have := HK2.out; simpa using this)
        obtain ⟨hst, d, hd, hdl, hdt⟩ := skB_line HY.out HKK.out
        obtain ⟨A', rs, qs⟩ := slice_readsF Try.underlying22 hi0 hz1 (A := B5) (n := x.out.length) (c := e5) (lo := d) .i64 hdl hcap
        have e1 : x.out.length - d = (x.out.drop d).length := List.length_drop.symm
        rw [e1] at rs qs
        obtain ⟨k, hk⟩ : ∃ k, e5 - d = k := ⟨_, rfl⟩
        have HCP : Hid ((x.out.drop d).length ≤ k) := Lib.hid (by rw [← e1, ← hk]; omega)
        have HML : Hid ((x.out.drop d).length ≤ 100000000) := Lib.hid (by rw [← e1]; omega)
        replace qs : ∀ {w : World} {B : Nat}, Reads w B 1 B5 x.out.length (bys x.out) → Reads w B 1 A' (x.out.drop d).length (bys (x.out.drop d)) := fun h => qs h
        rw [hk] at rs
        obtain ⟨⟨⟨fk, fs, fst⟩, fn, fc⟩, hp⟩ : ∃ p, getF (x.out.drop d) = p := ⟨_, rfl⟩
        have HPF := Lib.hid (show ansF x = (⟨fk, fs, fst⟩, fn, fc) by unfold ansF; rw [hdt, hp])
        have hfs : fs.size ≤ 1048576 := by have h9 := getF_small (x.out.drop d); rw [hp] at h9; exact h9
        have HGD : Hid (fc = 0 → ∃ n : Nat, fn = (n : Int) ∧ n ≤ 1048576 ∧ frB ⟨fk, fs, fst⟩ = true) := Lib.hid (fun hc => by
          obtain ⟨n, hn, _, hn2, _, hfr, _⟩ := getF_good (l := x.out.drop d) (by rw [hp]; exact hc)
          rw [hp] at hn hfr
          rw [← e1] at hn2
          exact ⟨n, hn, by omega, hfr⟩)
        obtain ⟨m, hm⟩ : ∃ m, x.out.drop d = m := ⟨_, rfl⟩
        rw [hm] at rs qs HCP HML hp
        have HG := Lib.hid hp
        have QS : Hid (∀ (w : World) (u : Unit), Reads w w.heap.size 1 B5 x.out.length (bys x.out) → Reads w w.heap.size 1 A' m.length (bys m)) := Lib.hid fun w _ h => qs h
        have HST := Lib.hid hst
        have HAC := Lib.hid (show ansP x = ansC x by unfold ansP; rw [if_pos ⟨HY.out, HKK.out, HSH.out⟩])
        have hdd : 0 ≤ x.done ∧ x.done ≤ 1048576 := by omega
        have q5 := var_cell (F.later hO.below).out.2.1 5
        have q7 : W3.cell? ⟨w.heap.size, 7, none⟩ = some (.int .i64 (d : Int)) := by have := var_cell (F.later hO.below).out.2.1 7; rw [← hd]; exact this
        have HD := Lib.hid hd
        clear qs hp hm hk e1 hdt hdl hst hd
        go_wp2_with fail
        refine (getFrameS_any A' k m W3 (QS.out _ () ((HR.out.below (F.later hO.below).out.1).more (F.later hO.below).out.1.size)) HML.out HCP.out).mono ?_
        rw [HG.out]
        rintro e1 W4 ⟨rfl, hb⟩
        replace hO := hO.later hb
        clear q1 q3 q5 q7 hb rs
        unfold frC
        go_upto_region 5 with (fail)
        have hO4lt := hO.lt
        have hV := heap_alloc_new W4 (.cells #[.int .i64 fk, .string fs, .int .i64 fst] 33)
        replace hO := hO.later (Later.alloc W4 (.cells #[.int .i64 fk, .string fs, .int .i64 fst] 33))
        have hVG : G ≠ W4.heap.size := by have := hO4lt; omega
        generalize W4.alloc (.cells #[.int .i64 fk, .string fs, .int .i64 fst] 33) = W5 at hO hV ⊢
        generalize W4.heap.size = V5 at hV hVG ⊢
        by_cases hc : fc = 0
        · obtain ⟨n, hn, hnl, hfr⟩ := HGD.out hc
          subst hc hn
          obtain ⟨a, b, hab, ha, hb, hx1, hx2, hx3, hx4, hx5⟩ := repL_two HST.out hfr
          clear hx1 hx2 hx3 hx4 hx5
          have HAB := Lib.hid hab
          clear hab hfr
          by_cases hk2' : fk = 2
          · subst hk2'
            obtain ⟨qw, hqw⟩ : ∃ q, wordQ fs = q := ⟨_, rfl⟩
            obtain ⟨st', hst'⟩ : ∃ s, nextS x.st qw = s := ⟨_, rfl⟩
            have HQW := Lib.hid hqw
            have HNS := Lib.hid hst'
            have HS : Hid (repS x.st ⟨2, fs, fst⟩ = st') := Lib.hid (by unfold repS; rw [if_pos rfl, HQW.out, HNS.out])
            have HAA : Hid (answerA x.st fs = [a, b]) := Lib.hid (by have h9 := HAB.out; unfold repL at h9; rw [if_pos rfl] at h9; exact h9)
            clear hqw hst'
            have q6 := var_cell (F.later hO.below).out.2.1 6
            have hpl := (Array.getElem?_eq_some_iff.1 (F.later hO.below).out.2.1).1
            have v0 := var_cell hV 0
            have v1 := var_cell hV 1
            have hvl := (Array.getElem?_eq_some_iff.1 hV).1
            go_wp2_with fail
            clear q6 v0 v1 hvl hpl
            replace hO := hO.later (Later.alloc W5 (.cells #[.int .i64 6, .string ⟨#[102, 111, 114, 109]⟩, .int .i64 0, .int .i64 5, .string ⟨#[]⟩, .int .i64 x.st] 33))
            replace hV := ((Later.alloc W5 (.cells #[.int .i64 6, .string ⟨#[102, 111, 114, 109]⟩, .int .i64 0, .int .i64 5, .string ⟨#[]⟩, .int .i64 x.st] 33)).block _ (Array.getElem?_eq_some_iff.1 hV).1).trans hV
            generalize W5.alloc (.cells #[.int .i64 6, .string ⟨#[102, 111, 114, 109]⟩, .int .i64 0, .int .i64 5, .string ⟨#[]⟩, .int .i64 x.st] 33) = W6 at hO hV ⊢
            have hOG := hO.lt
            refine (answerToS_any x.st fs W6 hfs).mono ?_
            rw [HAA.out]
            rintro e1 W7 ⟨A1, c1, rfl, o1, hb⟩
            replace hO := hO.later hb
            replace hV := (hb.block _ (Array.getElem?_eq_some_iff.1 hV).1).trans hV
            have hAt : Reads W7 W7.heap.size 3 A1 2 (flatFr [a, b]) := Reads.of_own o1
            have HAG : Hid (∀ ad, A1 = some ad → ad.block ≠ G) := Lib.hid (fun ad hA e => by have h1 := o1.lt ad.block (by rw [hA]; rfl); have h2 := hOG; omega)
            clear hb o1 hOG
            go_upto_region 10 with (fail)
            have TT : All (fun w' => (OB W0 G x (.slice A4 x.inn.length c4) (.slice A5 x.out.length c5) w' ∧ Reads w' w'.heap.size 3 A1 2 (flatFr [a, b])) ∧ (w'.heap[w.heap.size]? = some (.cells #[.int .i64 x.id, .int .i64 x.kind, .int .i64 x.hold, .bool x.shut, .slice B4 x.inn.length e4, .slice B5 x.out.length e5, .int .i64 x.st, .int .i64 x.done] 25 (0, 0))) ∧ (w'.heap[V5]? = some (.cells #[.int .i64 2, .string fs, .int .i64 fst] 33 (0, 0)))) W7 := ⟨⟨hO, hAt⟩, (F.later hO.below).out.2.1, hV⟩
            refine wp_region_open 7 (fun w' => (w'.heap[w.heap.size]? = some (.cells #[.int .i64 x.id, .int .i64 x.kind, .int .i64 x.hold, .bool x.shut, .slice B4 x.inn.length e4, .slice B5 x.out.length e5, .int .i64 x.st, .int .i64 x.done] 25 (0, 0))) ∧ (w'.heap[V5]? = some (.cells #[.int .i64 2, .string fs, .int .i64 fst] 33 (0, 0)))) (by kernel_rfl) ?_
            replace TT := TT.drew
            generalize W7.drew = W7 at TT ⊢
            clear hO hV hAt
            refine wpAnyL_readsG [0, 1, 2, 3] (fuel := 4) (by kernel_rfl) TT.out.2 ?_
            refine LexRG.yes rfl (by first | rfl | (simp [Region.wanted, yielded]; done)) ?_ (fun w' hw => ?_) ?_
            rotate_left
            focus (skip; clear hw; go_simp; (try exact rfl))
            try go_frame
            refine LexRG.yes rfl (by first | rfl | (simp [Region.wanted, yielded]; done)) ?_ (fun w' hw => ?_) ?_
            rotate_left
            focus (have g6 := var_cell hw.1 6; clear hw; go_simp; (try exact rfl))
            try go_frame
            refine LexRG.yes rfl (by first | rfl | (simp [Region.wanted, yielded]; done)) ?_ (fun w' hw => ?_) ?_
            rotate_left
            focus (skip; clear hw; go_simp; (try exact rfl))
            try go_frame
            refine LexRG.yes rfl (by first | rfl | (simp [Region.wanted, yielded]; done)) ?_ (fun w' hw => ?_) ?_
            rotate_left
            focus (have g1 := var_cell hw.2 1; clear hw; go_simp; (try exact rfl))
            try go_frame
            refine LexRG.nil ?_
            refine wpAnyL_one (i := 4) (by kernel_rfl) ?_
            refine lexA_get rfl ?_
            try go_frame
            go_wp2_with fail
            refine (wordOfS_any fs W7).mono ?_
            rw [HQW.out]
            rintro e w9 ⟨rfl, rfl⟩
            go_wp2_with fail
            refine ⟨fun _ => TT.out.2, ?_⟩
            refine wpAnyL_one (i := 5) (by kernel_rfl) ?_
            refine lexA_get rfl ?_
            try go_frame
            go_wp2_with fail
            refine (nextStS_any x.st qw W7).mono ?_
            rw [HNS.out]
            rintro e w9 ⟨rfl, rfl⟩
            go_wp2_with fail
            refine ⟨fun _ => TT.out.2, ?_⟩
            have hO := TT.out.1.1
            have y6 := var_cell hO.box 6
            have t6 := var_frozen hO.box 6
            have hGl2 := hO.lt
            refine wpAnyL_writes [6, 7] (by kernel_rfl) (LexW.cons rfl ?_)
            try go_frame
            go_wp2_with fail
            refine ⟨fun _ => TT.out.2, LexW.cons rfl ?_⟩
            try go_frame
            go_wp2_with fail
            refine ⟨fun h => absurd rfl h, LexW.nil ?_⟩
            try go_frame
            have hO2 : OB W0 G { x with st := st' } (.slice A4 x.inn.length c4) (.slice A5 x.out.length c5) (W7.setCell ⟨G, 6, none⟩ (.int .i64 st')) := hO.put 6 _ _ rfl rfl rfl
            have hAt : Reads (W7.setCell ⟨G, 6, none⟩ (.int .i64 st')) (W7.setCell ⟨G, 6, none⟩ (.int .i64 st')).heap.size 3 A1 2 (flatFr [a, b]) := by
              have h9 := TT.out.1.2
              obtain ⟨hl9, h9⟩ := h9
              refine ⟨hl9, fun hn => ?_⟩
              obtain ⟨ad, hA9, hb9, hc9⟩ := h9 hn
              refine ⟨ad, hA9, by simpa using hb9, fun j u hu => ?_⟩
              have hne : G ≠ ad.block := fun e => HAG.out ad hA9 e.symm
              exact (World.cell?_setCell_other _ _ _ _ (fun e => hne (by have := congrArg Addr.block e; rw [block_of_add] at this; exact this))).trans (hc9 j u hu)
            clear y6 t6 hGl2 hO TT
            generalize (W7.setCell ⟨G, 6, none⟩ (.int .i64 st')) = W8 at hO2 hAt ⊢
            obtain ⟨pa, hpa⟩ : ∃ l, putF a = l := ⟨_, rfl⟩
            obtain ⟨pb, hpb⟩ : ∃ l, putF b = l := ⟨_, rfl⟩
            have hla := putF_len a
            have hlb := putF_len b
            rw [hpa] at hla
            rw [hpb] at hlb
            have HPA := Lib.hid hpa
            have HPB := Lib.hid hpb
            clear hpa hpb
            go_upto_region 11 with (fail)
            obtain ⟨b9, off9, f0, hA9, hbl9, hx0, d0, d1, d2⟩ := frS_elem (w := W8) (A := A1) (xs := [a, b]) (k := 0) hAt (by simp)
            obtain ⟨b9', off9', f1, hA9', _, hx1, d3, d4, d5⟩ := frS_elem (w := W8) (A := A1) (xs := [a, b]) (k := 1) hAt (by simp)
            subst hA9
            injection hA9' with hA9'
            injection hA9' with hq1 hq2 _
            subst hq1 hq2
            simp only [List.getElem?_cons_zero, List.getElem?_cons_succ, Option.some.injEq] at hx0 hx1
            subst hx0 hx1
            have HCL : Hid (W8.cell? ⟨b9, off9, none⟩ = some (.int .i64 a.k) ∧ W8.cell? ⟨b9, off9 + 1, none⟩ = some (.string a.s) ∧ W8.cell? ⟨b9, off9 + 2, none⟩ = some (.int .i64 a.st) ∧ W8.cell? ⟨b9, off9 + 3, none⟩ = some (.int .i64 b.k) ∧ W8.cell? ⟨b9, off9 + 3 + 1, none⟩ = some (.string b.s) ∧ W8.cell? ⟨b9, off9 + 3 + 2, none⟩ = some (.int .i64 b.st)) := Lib.hid ⟨by simpa using d0, by simpa using d1, by simpa using d2, by simpa using d3, by simpa using d4, by simpa using d5⟩
            have TT : All (fun w' => Below W8.heap.size W8 w' ∧ (w'.cell? ⟨b9, off9, none⟩ = some (.int .i64 a.k) ∧ w'.cell? ⟨b9, off9 + 1, none⟩ = some (.string a.s) ∧ w'.cell? ⟨b9, off9 + 2, none⟩ = some (.int .i64 a.st) ∧ w'.cell? ⟨b9, off9 + 3, none⟩ = some (.int .i64 b.k) ∧ w'.cell? ⟨b9, off9 + 3 + 1, none⟩ = some (.string b.s) ∧ w'.cell? ⟨b9, off9 + 3 + 2, none⟩ = some (.int .i64 b.st))) W8 := ⟨Below.refl _ _, HCL.out⟩
            clear d0 d1 d2 d3 d4 d5 hAt HCL
            refine wp_region_open 100 (fun w' => w'.cell? ⟨b9, off9, none⟩ = some (.int .i64 a.k) ∧ w'.cell? ⟨b9, off9 + 1, none⟩ = some (.string a.s) ∧ w'.cell? ⟨b9, off9 + 2, none⟩ = some (.int .i64 a.st) ∧ w'.cell? ⟨b9, off9 + 3, none⟩ = some (.int .i64 b.k) ∧ w'.cell? ⟨b9, off9 + 3 + 1, none⟩ = some (.string b.s) ∧ w'.cell? ⟨b9, off9 + 3 + 2, none⟩ = some (.int .i64 b.st)) (by kernel_rfl) ?_
            replace TT := TT.drew
            have hO3 := hO2.later (Later.drew W8)
            replace TT : All (fun w' => Below W8.drew.heap.size W8.drew w' ∧ (w'.cell? ⟨b9, off9, none⟩ = some (.int .i64 a.k) ∧ w'.cell? ⟨b9, off9 + 1, none⟩ = some (.string a.s) ∧ w'.cell? ⟨b9, off9 + 2, none⟩ = some (.int .i64 a.st) ∧ w'.cell? ⟨b9, off9 + 3, none⟩ = some (.int .i64 b.k) ∧ w'.cell? ⟨b9, off9 + 3 + 1, none⟩ = some (.string b.s) ∧ w'.cell? ⟨b9, off9 + 3 + 2, none⟩ = some (.int .i64 b.st))) W8.drew := ⟨Below.refl _ _, TT.out.2⟩
            clear hO2
            replace hbl9 : b9 < W8.drew.heap.size := hbl9
            generalize W8.drew = W8 at TT hO3 hbl9 ⊢
            refine wpAnyL_readsG [0, 1, 2, 4, 5, 6] (fuel := 4) (by kernel_rfl) TT.out.2 ?_
            refine LexRG.yes rfl (by first | rfl | (simp [Region.wanted, yielded]; done)) ?_ (fun w' hw => ?_) ?_
            rotate_left
            focus (skip; clear hw; go_simp; (try exact rfl))
            try go_frame
            refine LexRG.yes rfl (by first | rfl | (simp [Region.wanted, yielded]; done)) ?_ (fun w' hw => ?_) ?_
            rotate_left
            focus (have hw2 := hw; obtain ⟨d0, d1, d2, d3, d4, d5⟩ := hw2; clear hw; go_simp; (try exact rfl))
            try go_frame
            refine LexRG.yes rfl (by first | rfl | (simp [Region.wanted, yielded]; done)) ?_ (fun w' hw => ?_) ?_
            rotate_left
            focus (have hw2 := hw; obtain ⟨d0, d1, d2, d3, d4, d5⟩ := hw2; clear hw; go_simp; (try exact rfl))
            try go_frame
            refine LexRG.yes rfl (by first | rfl | (simp [Region.wanted, yielded]; done)) ?_ (fun w' hw => ?_) ?_
            rotate_left
            focus (skip; clear hw; go_simp; (try exact rfl))
            try go_frame
            refine LexRG.yes rfl (by first | rfl | (simp [Region.wanted, yielded]; done)) ?_ (fun w' hw => ?_) ?_
            rotate_left
            focus (have hw2 := hw; obtain ⟨d0, d1, d2, d3, d4, d5⟩ := hw2; clear hw; go_simp; (try exact rfl))
            try go_frame
            refine LexRG.yes rfl (by first | rfl | (simp [Region.wanted, yielded]; done)) ?_ (fun w' hw => ?_) ?_
            rotate_left
            focus (have hw2 := hw; obtain ⟨d0, d1, d2, d3, d4, d5⟩ := hw2; clear hw; go_simp; (try exact rfl))
            try go_frame
            refine LexRG.nil ?_
            refine wpAnyL_one (i := 3) (by kernel_rfl) ?_
            refine lexA_get rfl ?_
            try go_frame
            go_wp2_with fail
            refine (putFrameS_any a W8 ha).mono ?_
            rintro e W9 ⟨va, rfl, oa, hb9⟩
            rw [HPA.out] at oa
            obtain ⟨Aa, ca, rfl, _⟩ := oa.shape
            replace TT := TT.later hb9
            clear hb9
            go_wp2_with fail
            refine ⟨fun _ => TT.out.2, ?_⟩
            refine wpAnyL_one (i := 7) (by kernel_rfl) ?_
            refine lexA_get rfl ?_
            try go_frame
            go_wp2_with fail
            refine (putFrameS_any b W9 hb).mono ?_
            rintro e W10 ⟨vb, rfl, ob, hb9⟩
            rw [HPB.out] at ob
            obtain ⟨Ab, cb, rfl, _, _, hrb, _⟩ := ob.shape
            replace TT := TT.later hb9
            replace oa := Owns.keep oa hb9
            clear hb9 ob
            go_wp2_with fail
            refine ⟨fun _ => TT.out.2, ?_⟩
            refine wpAnyL_one (i := 8) (by kernel_rfl) ?_
            refine lexA_get rfl ?_
            try go_frame
            go_wp2_with (first
              | (at_builtin
                 refine wpList_append_any _ rfl (.tmp 61) (.tmp 65) _ rfl W8.heap.size 5 i0 _ 1 1 Try.underlying22 hi0 hz0 hz1 hz2 rfl (by omega) (.slice Aa pa.length ca) pa.length (bys pa) rfl oa W10.heap.size Ab pb.length cb (bys pb) rfl hrb (bys_one _) (by simp only [maxLen]; omega) (by omega) TT.out.1.size ?_
                 intro v3 w3 hown3 hg3 hat3
                 refine Halt.go ?_)
              | fail)
            have hl3 : Owns w3 W8.heap.size 5 v3 (pa ++ pb) := by unfold Owns; rw [bys_append, List.length_append]; exact hown3
            have hbw3 : Below W8.heap.size W8 w3 := TT.out.1.grown hg3 TT.out.1.size (fun k hk => (oa.lt k hk).1)
            have hcl3 : w3.cell? ⟨b9, off9, none⟩ = some (.int .i64 a.k) ∧ w3.cell? ⟨b9, off9 + 1, none⟩ = some (.string a.s) ∧ w3.cell? ⟨b9, off9 + 2, none⟩ = some (.int .i64 a.st) ∧ w3.cell? ⟨b9, off9 + 3, none⟩ = some (.int .i64 b.k) ∧ w3.cell? ⟨b9, off9 + 3 + 1, none⟩ = some (.string b.s) ∧ w3.cell? ⟨b9, off9 + 3 + 2, none⟩ = some (.int .i64 b.st) := by
              obtain ⟨d0, d1, d2, d3, d4, d5⟩ := TT.out.2
              have hk9 : ∀ o, w3.cell? ⟨b9, o, none⟩ = W10.cell? ⟨b9, o, none⟩ := fun o => World.cell?_of_block (hg3.block b9 (Nat.lt_of_lt_of_le hbl9 TT.out.1.size) (fun e => by have := (oa.lt b9 e.symm).1; omega))
              exact ⟨(hk9 _).trans d0, (hk9 _).trans d1, (hk9 _).trans d2, (hk9 _).trans d3, (hk9 _).trans d4, (hk9 _).trans d5⟩
            clear hown3 hg3 hat3 hrb oa TT
            refine Halt.mk ?_
            go_wp2_with fail
            refine ⟨?_, ?_⟩
            · first | exact hcl3 | exact fun _ => hcl3
            refine wpAnyL_writes [9] (by kernel_rfl) (LexW.cons rfl ?_)
            try go_frame
            go_wp2_with fail
            refine ⟨fun _ => hcl3, LexW.nil ?_⟩
            try go_frame
            clear hcl3
            have HB : Hid (ansB x = pa ++ pb) := Lib.hid (by unfold ansB; rw [HPF.out, HAB.out, allB_two, HPA.out, HPB.out])
            have hll : (pa ++ pb).length ≤ 204 := by rw [List.length_append]; omega
            obtain ⟨P, hP⟩ : ∃ P, pa ++ pb = P := ⟨_, rfl⟩
            rw [hP] at hl3 HB hll
            replace hO3 := hO3.later hbw3
            have hPll : P.length ≤ 204 := hll
            obtain ⟨A3, c3, rfl, _, _, hr3, _⟩ := hl3.shape
            have hPl : pa.length + pb.length = P.length := by rw [← hP, List.length_append]
            try rw [hPl]
            clear hl3 hbw3 hP hPl hll
            have q4 := var_cell (F.later hO3.below).out.2.1 4
            by_cases h240 : x.inn.length + P.length ≤ 240
            · have g240 : ¬ ((240 : Int) - (x.inn.length : Int) < (P.length : Int)) := by omega
              have b4 := var_cell hO3.box 4
              go_wp2_with (first
                | (at_builtin
                   refine wpList_append_any _ rfl (.tmp 77) (.tmp 78) _ rfl W0.heap.size 5 i0 _ 1 1 Try.underlying22 hi0 hz0 hz1 hz2 rfl (by omega) (.slice A4 x.inn.length c4) x.inn.length (bys x.inn) rfl hO3.inn w3.heap.size A3 P.length c3 (bys P) rfl hr3 (bys_one P) (by simp only [maxLen]; omega) (by omega) hO3.below.size ?_
                   intro v6 w6 hown6 hg6 hat6
                   refine Halt.go ?_)
                | fail)
              have hl6 : Owns w6 W0.heap.size 5 v6 (x.inn ++ P) := by unfold Owns; rw [bys_append, List.length_append]; exact hown6
              have hbx := ((hg6.block G hO3.lt (fun e => hO3.n4 e.symm))).trans hO3.box
              have hK := hO3.grown4 hg6 hl6 (by rcases hat6 with e | e; exact .inl e; exact .inr (.inl e))
              obtain ⟨A6, c6, rfl, _⟩ := hl6.shape
              have hS3 : G < w6.heap.size := Nat.lt_of_lt_of_le hO3.lt hg6.size
              clear q4 hown6 hg6 hat6 hl6 hr3 hO3 b4
              refine Halt.mk ?_
              have y4 := var_cell hbx 4
              have t4 := var_frozen hbx 4
              rw [List.length_append] at hK
              try rw [List.length_append]
              go_upto_region 15 with (fail)
              clear y4 t4 hbx hS3
              generalize (w6.setCell ⟨G, 4, none⟩ (.slice A6 (x.inn.length + P.length) c6)) = W12 at hK ⊢
              have q7 := var_cell (F.later hK.below).out.2.1 7
              have y7 := var_cell hK.box 7
              have t7 := var_frozen hK.box 7
              have hS4 := hK.lt
              have hpl := (Array.getElem?_eq_some_iff.1 (F.later hK.below).out.2.1).1
              have hK2 : OB W0 G { x with inn := x.inn ++ P, st := st', done := x.done + (n : Int) } (.slice A6 (x.inn.length + P.length) c6) (.slice A5 x.out.length c5) (W12.setCell ⟨G, 7, none⟩ (.int .i64 (x.done + (n : Int)))) := hK.put 7 _ _ rfl rfl rfl
              clear hK
              go_upto_region 16 with (fail)
              clear q7 y7 t7 hS4 hpl
              generalize (W12.setCell ⟨G, 7, none⟩ (.int .i64 (x.done + (n : Int)))) = W13 at hK2 ⊢
              have HP : Hid (ansP x = ({ x with inn := x.inn ++ P, st := st', done := x.done + (n : Int) }, true)) := Lib.hid (by
                rw [HAC.out]
                unfold ansC
                rw [HPF.out, if_pos ⟨rfl, by rw [HB.out]; exact h240⟩, HB.out]
                show ({ x with inn := x.inn ++ P, st := repS x.st ⟨_, fs, fst⟩, done := x.done + (n : Int) }, true) = _
                rw [HS.out])
              have hZ := (F.later hK2.below).out.2.2
              have hown := Rep.low skR hK2.own hsz
              have hfin := (F.later hK2.below).out.1
              have hl9 := (Array.getElem?_eq_some_iff.1 hZ).1
              have hlG := hK2.lt
              have z0 := var_cell hZ 0
              have zf0 := var_frozen hZ 0
              have b0 := var_cell hK2.box 0
              have z1 := var_cell hZ 1
              have zf1 := var_frozen hZ 1
              have b1 := var_cell hK2.box 1
              have z2 := var_cell hZ 2
              have zf2 := var_frozen hZ 2
              have b2 := var_cell hK2.box 2
              have z3 := var_cell hZ 3
              have zf3 := var_frozen hZ 3
              have b3 := var_cell hK2.box 3
              have z4 := var_cell hZ 4
              have zf4 := var_frozen hZ 4
              have b4 := var_cell hK2.box 4
              have z5 := var_cell hZ 5
              have zf5 := var_frozen hZ 5
              have b5 := var_cell hK2.box 5
              have z6 := var_cell hZ 6
              have zf6 := var_frozen hZ 6
              have b6 := var_cell hK2.box 6
              have z7 := var_cell hZ 7
              have zf7 := var_frozen hZ 7
              have b7 := var_cell hK2.box 7
              clear F hK2
              go_wp2_with fail
              refine bodyPost_ret (v := .tuple #[.agg #[.int .i64 x.id, .int .i64 x.kind, .int .i64 x.hold, .bool x.shut, .slice A6 (x.inn.length + P.length) c6, .slice A5 x.out.length c5, .int .i64 st', .int .i64 (x.done + (n : Int))], .bool true]) (by simp [results, Try.results35, go_sem, z0, z1, z2, z3, z4, z5, z6, z7]) rfl ?_
              rw [HP.out]
              refine ⟨_, ?fp2, rfl, Rep.low skR (base := w.heap.size + 1 + 1) ?own2 (by omega), ?low2⟩
              case low2 =>
                repeat (refine Below.setCell ?_ (by first | (simp; done) | (simp; omega)) _)
                exact hfin
              case own2 =>
                repeat (refine Rep.setLow ?_ (by first | (simp; done) | (simp; omega)) _)
                exact hown
            · have g240 : ((240 : Int) - (x.inn.length : Int) < (P.length : Int)) := by omega
              have HP : Hid (ansP x = (x, false)) := Lib.hid (by rw [HAC.out]; unfold ansC; rw [if_neg (fun h => h240 (by rw [← HB.out]; exact h.2))])
              clear hr3
              have qq := q4
              clear q4
              have q0 := var_cell (F.later hO3.below).out.2.1 0
              have q1 := var_cell (F.later hO3.below).out.2.1 1
              have q2 := var_cell (F.later hO3.below).out.2.1 2
              have q3 := var_cell (F.later hO3.below).out.2.1 3
              have q4 := var_cell (F.later hO3.below).out.2.1 4
              have q5 := var_cell (F.later hO3.below).out.2.1 5
              have q6 := var_cell (F.later hO3.below).out.2.1 6
              have q7 := var_cell (F.later hO3.below).out.2.1 7
              go_wp2_with fail
              refine (l8Copy_any [.int .i64 x.id, .int .i64 x.kind, .int .i64 x.hold, .bool x.shut, .slice B4 x.inn.length e4, .slice B5 x.out.length e5, .int .i64 x.st, .int .i64 x.done] x w3 (HAT.out _ (F.later hO3.below).out.1) hs).mono ?_
              rintro e1 W14 ⟨A4', c4', A5', c5', rfl, h4, h5, hap, hb14⟩
              have hbb := (F.later hO3.below).later hb14
              have hZ := hbb.out.2.2
              have hl9 := (Array.getElem?_eq_some_iff.1 hZ).1
              have hfin := hbb.out.1
              have hsz3 : w.heap.size + 1 + 1 ≤ w3.heap.size := Nat.le_trans hsz hO3.below.size
              have hown := Rep.low skR (sk_own h4 h5 (sk_apart2 hap)) hsz3
              clear q0 q1 q2 q3 q4 q5 q6 q7 qq hbb hb14 h4 h5 hap
              have z0 := var_cell hZ 0
              have zf0 := var_frozen hZ 0
              have z1 := var_cell hZ 1
              have zf1 := var_frozen hZ 1
              have z2 := var_cell hZ 2
              have zf2 := var_frozen hZ 2
              have z3 := var_cell hZ 3
              have zf3 := var_frozen hZ 3
              have z4 := var_cell hZ 4
              have zf4 := var_frozen hZ 4
              have z5 := var_cell hZ 5
              have zf5 := var_frozen hZ 5
              have z6 := var_cell hZ 6
              have zf6 := var_frozen hZ 6
              have z7 := var_cell hZ 7
              have zf7 := var_frozen hZ 7
              go_wp2_with fail
              refine bodyPost_ret (v := .tuple #[.agg #[.int .i64 x.id, .int .i64 x.kind, .int .i64 x.hold, .bool x.shut, .slice A4' x.inn.length c4', .slice A5' x.out.length c5', .int .i64 x.st, .int .i64 x.done], .bool false]) (by simp [results, Try.results35, go_sem, z0, z1, z2, z3, z4, z5, z6, z7]) rfl ?_
              rw [HP.out]
              refine ⟨_, ?fp3, rfl, Rep.low skR (base := w.heap.size + 1 + 1) ?own3 (by omega), ?low3⟩
              case low3 =>
                repeat (refine Below.setCell ?_ (by first | (simp; done) | (simp; omega)) _)
                exact hfin
              case own3 =>
                repeat (refine Rep.setLow ?_ (by first | (simp; done) | (simp; omega)) _)
                exact hown
          · have HRL : Hid ([(⟨6, sForm, 0⟩ : Fr), ⟨5, ⟨#[]⟩, x.st⟩] = [a, b]) := Lib.hid (by have h9 := HAB.out; unfold repL at h9; rw [if_neg hk2'] at h9; exact h9)
            have hke : (fk == 2) = false := by simp [hk2']
            obtain ⟨st', hst'⟩ : ∃ s, x.st = s := ⟨_, rfl⟩
            have HS : Hid (repS x.st ⟨fk, fs, fst⟩ = st') := Lib.hid (by unfold repS; rw [if_neg hk2']; exact hst')
            have HST2 := Lib.hid hst'
            clear hst'
            have q6 := var_cell (F.later hO.below).out.2.1 6
            have hpl := (Array.getElem?_eq_some_iff.1 (F.later hO.below).out.2.1).1
            have v0 := var_cell hV 0
            have hvl := (Array.getElem?_eq_some_iff.1 hV).1
            go_upto_region 11 with (fail)
            clear q6 v0 hvl hpl
            have hO2 : OB W0 G { x with st := st' } (.slice A4 x.inn.length c4) (.slice A5 x.out.length c5) (W5.alloc (.cells #[.int .i64 6, .string ⟨#[102, 111, 114, 109]⟩, .int .i64 0, .int .i64 5, .string ⟨#[]⟩, .int .i64 x.st] 33)) := by rw [← HST2.out]; exact hO.later (Later.alloc W5 (.cells #[.int .i64 6, .string ⟨#[102, 111, 114, 109]⟩, .int .i64 0, .int .i64 5, .string ⟨#[]⟩, .int .i64 x.st] 33))
            have h9 := frS_lit W5 0 (Nat.zero_le _) ⟨6, sForm, 0⟩ ⟨5, ⟨#[]⟩, x.st⟩
            rw [HRL.out] at h9
            have hAt : Reads (W5.alloc (.cells #[.int .i64 6, .string ⟨#[102, 111, 114, 109]⟩, .int .i64 0, .int .i64 5, .string ⟨#[]⟩, .int .i64 x.st] 33)) (W5.alloc (.cells #[.int .i64 6, .string ⟨#[102, 111, 114, 109]⟩, .int .i64 0, .int .i64 5, .string ⟨#[]⟩, .int .i64 x.st] 33)).heap.size 3 (some ⟨W5.heap.size, 0, none⟩) 2 (flatFr [a, b]) := Reads.of_own h9
            clear h9 hO hV
            generalize W5.alloc (.cells #[.int .i64 6, .string ⟨#[102, 111, 114, 109]⟩, .int .i64 0, .int .i64 5, .string ⟨#[]⟩, .int .i64 x.st] 33) = W8 at hO2 hAt ⊢
            obtain ⟨A1, hA1⟩ : ∃ A1 : Option Addr, some (⟨W5.heap.size, 0, none⟩ : Addr) = A1 := ⟨_, rfl⟩
            rw [hA1] at hAt ⊢
            clear hA1
            obtain ⟨pa, hpa⟩ : ∃ l, putF a = l := ⟨_, rfl⟩
            obtain ⟨pb, hpb⟩ : ∃ l, putF b = l := ⟨_, rfl⟩
            have hla := putF_len a
            have hlb := putF_len b
            rw [hpa] at hla
            rw [hpb] at hlb
            have HPA := Lib.hid hpa
            have HPB := Lib.hid hpb
            clear hpa hpb
            go_upto_region 11 with (fail)
            obtain ⟨b9, off9, f0, hA9, hbl9, hx0, d0, d1, d2⟩ := frS_elem (w := W8) (A := A1) (xs := [a, b]) (k := 0) hAt (by simp)
            obtain ⟨b9', off9', f1, hA9', _, hx1, d3, d4, d5⟩ := frS_elem (w := W8) (A := A1) (xs := [a, b]) (k := 1) hAt (by simp)
            subst hA9
            injection hA9' with hA9'
            injection hA9' with hq1 hq2 _
            subst hq1 hq2
            simp only [List.getElem?_cons_zero, List.getElem?_cons_succ, Option.some.injEq] at hx0 hx1
            subst hx0 hx1
            have HCL : Hid (W8.cell? ⟨b9, off9, none⟩ = some (.int .i64 a.k) ∧ W8.cell? ⟨b9, off9 + 1, none⟩ = some (.string a.s) ∧ W8.cell? ⟨b9, off9 + 2, none⟩ = some (.int .i64 a.st) ∧ W8.cell? ⟨b9, off9 + 3, none⟩ = some (.int .i64 b.k) ∧ W8.cell? ⟨b9, off9 + 3 + 1, none⟩ = some (.string b.s) ∧ W8.cell? ⟨b9, off9 + 3 + 2, none⟩ = some (.int .i64 b.st)) := Lib.hid ⟨by simpa using d0, by simpa using d1, by simpa using d2, by simpa using d3, by simpa using d4, by simpa using d5⟩
            have TT : All (fun w' => Below W8.heap.size W8 w' ∧ (w'.cell? ⟨b9, off9, none⟩ = some (.int .i64 a.k) ∧ w'.cell? ⟨b9, off9 + 1, none⟩ = some (.string a.s) ∧ w'.cell? ⟨b9, off9 + 2, none⟩ = some (.int .i64 a.st) ∧ w'.cell? ⟨b9, off9 + 3, none⟩ = some (.int .i64 b.k) ∧ w'.cell? ⟨b9, off9 + 3 + 1, none⟩ = some (.string b.s) ∧ w'.cell? ⟨b9, off9 + 3 + 2, none⟩ = some (.int .i64 b.st))) W8 := ⟨Below.refl _ _, HCL.out⟩
            clear d0 d1 d2 d3 d4 d5 hAt HCL
            refine wp_region_open 100 (fun w' => w'.cell? ⟨b9, off9, none⟩ = some (.int .i64 a.k) ∧ w'.cell? ⟨b9, off9 + 1, none⟩ = some (.string a.s) ∧ w'.cell? ⟨b9, off9 + 2, none⟩ = some (.int .i64 a.st) ∧ w'.cell? ⟨b9, off9 + 3, none⟩ = some (.int .i64 b.k) ∧ w'.cell? ⟨b9, off9 + 3 + 1, none⟩ = some (.string b.s) ∧ w'.cell? ⟨b9, off9 + 3 + 2, none⟩ = some (.int .i64 b.st)) (by kernel_rfl) ?_
            replace TT := TT.drew
            have hO3 := hO2.later (Later.drew W8)
            replace TT : All (fun w' => Below W8.drew.heap.size W8.drew w' ∧ (w'.cell? ⟨b9, off9, none⟩ = some (.int .i64 a.k) ∧ w'.cell? ⟨b9, off9 + 1, none⟩ = some (.string a.s) ∧ w'.cell? ⟨b9, off9 + 2, none⟩ = some (.int .i64 a.st) ∧ w'.cell? ⟨b9, off9 + 3, none⟩ = some (.int .i64 b.k) ∧ w'.cell? ⟨b9, off9 + 3 + 1, none⟩ = some (.string b.s) ∧ w'.cell? ⟨b9, off9 + 3 + 2, none⟩ = some (.int .i64 b.st))) W8.drew := ⟨Below.refl _ _, TT.out.2⟩
            clear hO2
            replace hbl9 : b9 < W8.drew.heap.size := hbl9
            generalize W8.drew = W8 at TT hO3 hbl9 ⊢
            refine wpAnyL_readsG [0, 1, 2, 4, 5, 6] (fuel := 4) (by kernel_rfl) TT.out.2 ?_
            refine LexRG.yes rfl (by first | rfl | (simp [Region.wanted, yielded]; done)) ?_ (fun w' hw => ?_) ?_
            rotate_left
            focus (skip; clear hw; go_simp; (try exact rfl))
            try go_frame
            refine LexRG.yes rfl (by first | rfl | (simp [Region.wanted, yielded]; done)) ?_ (fun w' hw => ?_) ?_
            rotate_left
            focus (have hw2 := hw; obtain ⟨d0, d1, d2, d3, d4, d5⟩ := hw2; clear hw; go_simp; (try exact rfl))
            try go_frame
            refine LexRG.yes rfl (by first | rfl | (simp [Region.wanted, yielded]; done)) ?_ (fun w' hw => ?_) ?_
            rotate_left
            focus (have hw2 := hw; obtain ⟨d0, d1, d2, d3, d4, d5⟩ := hw2; clear hw; go_simp; (try exact rfl))
            try go_frame
            refine LexRG.yes rfl (by first | rfl | (simp [Region.wanted, yielded]; done)) ?_ (fun w' hw => ?_) ?_
            rotate_left
            focus (skip; clear hw; go_simp; (try exact rfl))
            try go_frame
            refine LexRG.yes rfl (by first | rfl | (simp [Region.wanted, yielded]; done)) ?_ (fun w' hw => ?_) ?_
            rotate_left
            focus (have hw2 := hw; obtain ⟨d0, d1, d2, d3, d4, d5⟩ := hw2; clear hw; go_simp; (try exact rfl))
            try go_frame
            refine LexRG.yes rfl (by first | rfl | (simp [Region.wanted, yielded]; done)) ?_ (fun w' hw => ?_) ?_
            rotate_left
            focus (have hw2 := hw; obtain ⟨d0, d1, d2, d3, d4, d5⟩ := hw2; clear hw; go_simp; (try exact rfl))
            try go_frame
            refine LexRG.nil ?_
            refine wpAnyL_one (i := 3) (by kernel_rfl) ?_
            refine lexA_get rfl ?_
            try go_frame
            go_wp2_with fail
            refine (putFrameS_any a W8 ha).mono ?_
            rintro e W9 ⟨va, rfl, oa, hb9⟩
            rw [HPA.out] at oa
            obtain ⟨Aa, ca, rfl, _⟩ := oa.shape
            replace TT := TT.later hb9
            clear hb9
            go_wp2_with fail
            refine ⟨fun _ => TT.out.2, ?_⟩
            refine wpAnyL_one (i := 7) (by kernel_rfl) ?_
            refine lexA_get rfl ?_
            try go_frame
            go_wp2_with fail
            refine (putFrameS_any b W9 hb).mono ?_
            rintro e W10 ⟨vb, rfl, ob, hb9⟩
            rw [HPB.out] at ob
            obtain ⟨Ab, cb, rfl, _, _, hrb, _⟩ := ob.shape
            replace TT := TT.later hb9
            replace oa := Owns.keep oa hb9
            clear hb9 ob
            go_wp2_with fail
            refine ⟨fun _ => TT.out.2, ?_⟩
            refine wpAnyL_one (i := 8) (by kernel_rfl) ?_
            refine lexA_get rfl ?_
            try go_frame
            go_wp2_with (first
              | (at_builtin
                 refine wpList_append_any _ rfl (.tmp 61) (.tmp 65) _ rfl W8.heap.size 5 i0 _ 1 1 Try.underlying22 hi0 hz0 hz1 hz2 rfl (by omega) (.slice Aa pa.length ca) pa.length (bys pa) rfl oa W10.heap.size Ab pb.length cb (bys pb) rfl hrb (bys_one _) (by simp only [maxLen]; omega) (by omega) TT.out.1.size ?_
                 intro v3 w3 hown3 hg3 hat3
                 refine Halt.go ?_)
              | fail)
            have hl3 : Owns w3 W8.heap.size 5 v3 (pa ++ pb) := by unfold Owns; rw [bys_append, List.length_append]; exact hown3
            have hbw3 : Below W8.heap.size W8 w3 := TT.out.1.grown hg3 TT.out.1.size (fun k hk => (oa.lt k hk).1)
            have hcl3 : w3.cell? ⟨b9, off9, none⟩ = some (.int .i64 a.k) ∧ w3.cell? ⟨b9, off9 + 1, none⟩ = some (.string a.s) ∧ w3.cell? ⟨b9, off9 + 2, none⟩ = some (.int .i64 a.st) ∧ w3.cell? ⟨b9, off9 + 3, none⟩ = some (.int .i64 b.k) ∧ w3.cell? ⟨b9, off9 + 3 + 1, none⟩ = some (.string b.s) ∧ w3.cell? ⟨b9, off9 + 3 + 2, none⟩ = some (.int .i64 b.st) := by
              obtain ⟨d0, d1, d2, d3, d4, d5⟩ := TT.out.2
              have hk9 : ∀ o, w3.cell? ⟨b9, o, none⟩ = W10.cell? ⟨b9, o, none⟩ := fun o => World.cell?_of_block (hg3.block b9 (Nat.lt_of_lt_of_le hbl9 TT.out.1.size) (fun e => by have := (oa.lt b9 e.symm).1; omega))
              exact ⟨(hk9 _).trans d0, (hk9 _).trans d1, (hk9 _).trans d2, (hk9 _).trans d3, (hk9 _).trans d4, (hk9 _).trans d5⟩
            clear hown3 hg3 hat3 hrb oa TT
            refine Halt.mk ?_
            go_wp2_with fail
            refine ⟨?_, ?_⟩
            · first | exact hcl3 | exact fun _ => hcl3
            refine wpAnyL_writes [9] (by kernel_rfl) (LexW.cons rfl ?_)
            try go_frame
            go_wp2_with fail
            refine ⟨fun _ => hcl3, LexW.nil ?_⟩
            try go_frame
            clear hcl3
            have HB : Hid (ansB x = pa ++ pb) := Lib.hid (by unfold ansB; rw [HPF.out, HAB.out, allB_two, HPA.out, HPB.out])
            have hll : (pa ++ pb).length ≤ 204 := by rw [List.length_append]; omega
            obtain ⟨P, hP⟩ : ∃ P, pa ++ pb = P := ⟨_, rfl⟩
            rw [hP] at hl3 HB hll
            replace hO3 := hO3.later hbw3
            have hPll : P.length ≤ 204 := hll
            obtain ⟨A3, c3, rfl, _, _, hr3, _⟩ := hl3.shape
            have hPl : pa.length + pb.length = P.length := by rw [← hP, List.length_append]
            try rw [hPl]
            clear hl3 hbw3 hP hPl hll
            have q4 := var_cell (F.later hO3.below).out.2.1 4
            by_cases h240 : x.inn.length + P.length ≤ 240
            · have g240 : ¬ ((240 : Int) - (x.inn.length : Int) < (P.length : Int)) := by omega
              have b4 := var_cell hO3.box 4
              go_wp2_with (first
                | (at_builtin
                   refine wpList_append_any _ rfl (.tmp 77) (.tmp 78) _ rfl W0.heap.size 5 i0 _ 1 1 Try.underlying22 hi0 hz0 hz1 hz2 rfl (by omega) (.slice A4 x.inn.length c4) x.inn.length (bys x.inn) rfl hO3.inn w3.heap.size A3 P.length c3 (bys P) rfl hr3 (bys_one P) (by simp only [maxLen]; omega) (by omega) hO3.below.size ?_
                   intro v6 w6 hown6 hg6 hat6
                   refine Halt.go ?_)
                | fail)
              have hl6 : Owns w6 W0.heap.size 5 v6 (x.inn ++ P) := by unfold Owns; rw [bys_append, List.length_append]; exact hown6
              have hbx := ((hg6.block G hO3.lt (fun e => hO3.n4 e.symm))).trans hO3.box
              have hK := hO3.grown4 hg6 hl6 (by rcases hat6 with e | e; exact .inl e; exact .inr (.inl e))
              obtain ⟨A6, c6, rfl, _⟩ := hl6.shape
              have hS3 : G < w6.heap.size := Nat.lt_of_lt_of_le hO3.lt hg6.size
              clear q4 hown6 hg6 hat6 hl6 hr3 hO3 b4
              refine Halt.mk ?_
              have y4 := var_cell hbx 4
              have t4 := var_frozen hbx 4
              rw [List.length_append] at hK
              try rw [List.length_append]
              go_upto_region 15 with (fail)
              clear y4 t4 hbx hS3
              generalize (w6.setCell ⟨G, 4, none⟩ (.slice A6 (x.inn.length + P.length) c6)) = W12 at hK ⊢
              have q7 := var_cell (F.later hK.below).out.2.1 7
              have y7 := var_cell hK.box 7
              have t7 := var_frozen hK.box 7
              have hS4 := hK.lt
              have hpl := (Array.getElem?_eq_some_iff.1 (F.later hK.below).out.2.1).1
              have hK2 : OB W0 G { x with inn := x.inn ++ P, st := st', done := x.done + (n : Int) } (.slice A6 (x.inn.length + P.length) c6) (.slice A5 x.out.length c5) (W12.setCell ⟨G, 7, none⟩ (.int .i64 (x.done + (n : Int)))) := hK.put 7 _ _ rfl rfl rfl
              clear hK
              go_upto_region 16 with (fail)
              clear q7 y7 t7 hS4 hpl
              generalize (W12.setCell ⟨G, 7, none⟩ (.int .i64 (x.done + (n : Int)))) = W13 at hK2 ⊢
              have HP : Hid (ansP x = ({ x with inn := x.inn ++ P, st := st', done := x.done + (n : Int) }, true)) := Lib.hid (by
                rw [HAC.out]
                unfold ansC
                rw [HPF.out, if_pos ⟨rfl, by rw [HB.out]; exact h240⟩, HB.out]
                show ({ x with inn := x.inn ++ P, st := repS x.st ⟨_, fs, fst⟩, done := x.done + (n : Int) }, true) = _
                rw [HS.out])
              have hZ := (F.later hK2.below).out.2.2
              have hown := Rep.low skR hK2.own hsz
              have hfin := (F.later hK2.below).out.1
              have hl9 := (Array.getElem?_eq_some_iff.1 hZ).1
              have hlG := hK2.lt
              have z0 := var_cell hZ 0
              have zf0 := var_frozen hZ 0
              have b0 := var_cell hK2.box 0
              have z1 := var_cell hZ 1
              have zf1 := var_frozen hZ 1
              have b1 := var_cell hK2.box 1
              have z2 := var_cell hZ 2
              have zf2 := var_frozen hZ 2
              have b2 := var_cell hK2.box 2
              have z3 := var_cell hZ 3
              have zf3 := var_frozen hZ 3
              have b3 := var_cell hK2.box 3
              have z4 := var_cell hZ 4
              have zf4 := var_frozen hZ 4
              have b4 := var_cell hK2.box 4
              have z5 := var_cell hZ 5
              have zf5 := var_frozen hZ 5
              have b5 := var_cell hK2.box 5
              have z6 := var_cell hZ 6
              have zf6 := var_frozen hZ 6
              have b6 := var_cell hK2.box 6
              have z7 := var_cell hZ 7
              have zf7 := var_frozen hZ 7
              have b7 := var_cell hK2.box 7
              clear F hK2
              go_wp2_with fail
              refine bodyPost_ret (v := .tuple #[.agg #[.int .i64 x.id, .int .i64 x.kind, .int .i64 x.hold, .bool x.shut, .slice A6 (x.inn.length + P.length) c6, .slice A5 x.out.length c5, .int .i64 st', .int .i64 (x.done + (n : Int))], .bool true]) (by simp [results, Try.results35, go_sem, z0, z1, z2, z3, z4, z5, z6, z7]) rfl ?_
              rw [HP.out]
              refine ⟨_, ?fp4, rfl, Rep.low skR (base := w.heap.size + 1 + 1) ?own4 (by omega), ?low4⟩
              case low4 =>
                repeat (refine Below.setCell ?_ (by first | (simp; done) | (simp; omega)) _)
                exact hfin
              case own4 =>
                repeat (refine Rep.setLow ?_ (by first | (simp; done) | (simp; omega)) _)
                exact hown
            · have g240 : ((240 : Int) - (x.inn.length : Int) < (P.length : Int)) := by omega
              have HP : Hid (ansP x = (x, false)) := Lib.hid (by rw [HAC.out]; unfold ansC; rw [if_neg (fun h => h240 (by rw [← HB.out]; exact h.2))])
              clear hr3
              have qq := q4
              clear q4
              have q0 := var_cell (F.later hO3.below).out.2.1 0
              have q1 := var_cell (F.later hO3.below).out.2.1 1
              have q2 := var_cell (F.later hO3.below).out.2.1 2
              have q3 := var_cell (F.later hO3.below).out.2.1 3
              have q4 := var_cell (F.later hO3.below).out.2.1 4
              have q5 := var_cell (F.later hO3.below).out.2.1 5
              have q6 := var_cell (F.later hO3.below).out.2.1 6
              have q7 := var_cell (F.later hO3.below).out.2.1 7
              go_wp2_with fail
              refine (l8Copy_any [.int .i64 x.id, .int .i64 x.kind, .int .i64 x.hold, .bool x.shut, .slice B4 x.inn.length e4, .slice B5 x.out.length e5, .int .i64 x.st, .int .i64 x.done] x w3 (HAT.out _ (F.later hO3.below).out.1) hs).mono ?_
              rintro e1 W14 ⟨A4', c4', A5', c5', rfl, h4, h5, hap, hb14⟩
              have hbb := (F.later hO3.below).later hb14
              have hZ := hbb.out.2.2
              have hl9 := (Array.getElem?_eq_some_iff.1 hZ).1
              have hfin := hbb.out.1
              have hsz3 : w.heap.size + 1 + 1 ≤ w3.heap.size := Nat.le_trans hsz hO3.below.size
              have hown := Rep.low skR (sk_own h4 h5 (sk_apart2 hap)) hsz3
              clear q0 q1 q2 q3 q4 q5 q6 q7 qq hbb hb14 h4 h5 hap
              have z0 := var_cell hZ 0
              have zf0 := var_frozen hZ 0
              have z1 := var_cell hZ 1
              have zf1 := var_frozen hZ 1
              have z2 := var_cell hZ 2
              have zf2 := var_frozen hZ 2
              have z3 := var_cell hZ 3
              have zf3 := var_frozen hZ 3
              have z4 := var_cell hZ 4
              have zf4 := var_frozen hZ 4
              have z5 := var_cell hZ 5
              have zf5 := var_frozen hZ 5
              have z6 := var_cell hZ 6
              have zf6 := var_frozen hZ 6
              have z7 := var_cell hZ 7
              have zf7 := var_frozen hZ 7
              go_wp2_with fail
              refine bodyPost_ret (v := .tuple #[.agg #[.int .i64 x.id, .int .i64 x.kind, .int .i64 x.hold, .bool x.shut, .slice A4' x.inn.length c4', .slice A5' x.out.length c5', .int .i64 x.st, .int .i64 x.done], .bool false]) (by simp [results, Try.results35, go_sem, z0, z1, z2, z3, z4, z5, z6, z7]) rfl ?_
              rw [HP.out]
              refine ⟨_, ?fp5, rfl, Rep.low skR (base := w.heap.size + 1 + 1) ?own5 (by omega), ?low5⟩
              case low5 =>
                repeat (refine Below.setCell ?_ (by first | (simp; done) | (simp; omega)) _)
                exact hfin
              case own5 =>
                repeat (refine Rep.setLow ?_ (by first | (simp; done) | (simp; omega)) _)
                exact hown
        · have hce : (fc != 0) = true := by simp [hc]
          have HP : Hid (ansP x = (x, false)) := Lib.hid (by rw [HAC.out]; unfold ansC; rw [HPF.out, if_neg (fun h => hc h.1)])
          have hZ := (F.later hO.below).out.2.2
          have hown := Rep.low skR hO.own hsz
          have hfin := (F.later hO.below).out.1
          have hl9 := (Array.getElem?_eq_some_iff.1 hZ).1
          have hlG := hO.lt
          have z0 := var_cell hZ 0
          have zf0 := var_frozen hZ 0
          have b0 := var_cell hO.box 0
          have z1 := var_cell hZ 1
          have zf1 := var_frozen hZ 1
          have b1 := var_cell hO.box 1
          have z2 := var_cell hZ 2
          have zf2 := var_frozen hZ 2
          have b2 := var_cell hO.box 2
          have z3 := var_cell hZ 3
          have zf3 := var_frozen hZ 3
          have b3 := var_cell hO.box 3
          have z4 := var_cell hZ 4
          have zf4 := var_frozen hZ 4
          have b4 := var_cell hO.box 4
          have z5 := var_cell hZ 5
          have zf5 := var_frozen hZ 5
          have b5 := var_cell hO.box 5
          have z6 := var_cell hZ 6
          have zf6 := var_frozen hZ 6
          have b6 := var_cell hO.box 6
          have z7 := var_cell hZ 7
          have zf7 := var_frozen hZ 7
          have b7 := var_cell hO.box 7
          clear F hO
          go_wp2_with fail
          refine bodyPost_ret (v := .tuple #[.agg #[.int .i64 x.id, .int .i64 x.kind, .int .i64 x.hold, .bool x.shut, .slice A4 x.inn.length c4, .slice A5 x.out.length c5, .int .i64 x.st, .int .i64 x.done], .bool false]) (by simp [results, Try.results35, go_sem, z0, z1, z2, z3, z4, z5, z6, z7]) rfl ?_
          rw [HP.out]
          refine ⟨_, ?fp6, rfl, Rep.low skR (base := w.heap.size + 1 + 1) ?own6 (by omega), ?low6⟩
          case low6 =>
            repeat (refine Below.setCell ?_ (by first | (simp; done) | (simp; omega)) _)
            exact hfin
          case own6 =>
            repeat (refine Rep.setLow ?_ (by first | (simp; done) | (simp; omega)) _)
            exact hown
      · skip
        have HP : Hid (ansP x = (x, false)) := Lib.hid (by unfold ansP; rw [HSH.out]; simp)
        have hZ := (F.later hO.below).out.2.2
        have hown := Rep.low skR hO.own hsz
        have hfin := (F.later hO.below).out.1
        have hl9 := (Array.getElem?_eq_some_iff.1 hZ).1
        have hlG := hO.lt
        have z0 := var_cell hZ 0
        have zf0 := var_frozen hZ 0
        have b0 := var_cell hO.box 0
        have z1 := var_cell hZ 1
        have zf1 := var_frozen hZ 1
        have b1 := var_cell hO.box 1
        have z2 := var_cell hZ 2
        have zf2 := var_frozen hZ 2
        have b2 := var_cell hO.box 2
        have z3 := var_cell hZ 3
        have zf3 := var_frozen hZ 3
        have b3 := var_cell hO.box 3
        have z4 := var_cell hZ 4
        have zf4 := var_frozen hZ 4
        have b4 := var_cell hO.box 4
        have z5 := var_cell hZ 5
        have zf5 := var_frozen hZ 5
        have b5 := var_cell hO.box 5
        have z6 := var_cell hZ 6
        have zf6 := var_frozen hZ 6
        have b6 := var_cell hO.box 6
        have z7 := var_cell hZ 7
        have zf7 := var_frozen hZ 7
        have b7 := var_cell hO.box 7
        clear F hO
        go_wp2_with fail
        refine bodyPost_ret (v := .tuple #[.agg #[.int .i64 x.id, .int .i64 x.kind, .int .i64 x.hold, .bool x.shut, .slice A4 x.inn.length c4, .slice A5 x.out.length c5, .int .i64 x.st, .int .i64 x.done], .bool false]) (by simp [results, Try.results35, go_sem, z0, z1, z2, z3, z4, z5, z6, z7]) rfl ?_
        rw [HP.out]
        refine ⟨_, ?fp7, rfl, Rep.low skR (base := w.heap.size + 1 + 1) ?own7 (by omega), ?low7⟩
        case low7 =>
          repeat (refine Below.setCell ?_ (by first | (simp; done) | (simp; omega)) _)
          exact hfin
        case own7 =>
          repeat (refine Rep.setLow ?_ (by first | (simp; done) | (simp; omega)) _)
          exact hown
    · skip
      have HP : Hid (ansP x = (x, false)) := Lib.hid (by unfold ansP; rw [if_neg (fun h => by have h1 := HK2.out; simp at h1; exact h1 h.2.1)])
      have hZ := (F.later hO.below).out.2.2
      have hown := Rep.low skR hO.own hsz
      have hfin := (F.later hO.below).out.1
      have hl9 := (Array.getElem?_eq_some_iff.1 hZ).1
      have hlG := hO.lt
      have z0 := var_cell hZ 0
      have zf0 := var_frozen hZ 0
      have b0 := var_cell hO.box 0
      have z1 := var_cell hZ 1
      have zf1 := var_frozen hZ 1
      have b1 := var_cell hO.box 1
      have z2 := var_cell hZ 2
      have zf2 := var_frozen hZ 2
      have b2 := var_cell hO.box 2
      have z3 := var_cell hZ 3
      have zf3 := var_frozen hZ 3
      have b3 := var_cell hO.box 3
      have z4 := var_cell hZ 4
      have zf4 := var_frozen hZ 4
      have b4 := var_cell hO.box 4
      have z5 := var_cell hZ 5
      have zf5 := var_frozen hZ 5
      have b5 := var_cell hO.box 5
      have z6 := var_cell hZ 6
      have zf6 := var_frozen hZ 6
      have b6 := var_cell hO.box 6
      have z7 := var_cell hZ 7
      have zf7 := var_frozen hZ 7
      have b7 := var_cell hO.box 7
      clear F hO
      go_wp2_with fail
      refine bodyPost_ret (v := .tuple #[.agg #[.int .i64 x.id, .int .i64 x.kind, .int .i64 x.hold, .bool x.shut, .slice A4 x.inn.length c4, .slice A5 x.out.length c5, .int .i64 x.st, .int .i64 x.done], .bool false]) (by simp [results, Try.results35, go_sem, z0, z1, z2, z3, z4, z5, z6, z7]) rfl ?_
      rw [HP.out]
      refine ⟨_, ?fp8, rfl, Rep.low skR (base := w.heap.size + 1 + 1) ?own8 (by omega), ?low8⟩
      case low8 =>
        repeat (refine Below.setCell ?_ (by first | (simp; done) | (simp; omega)) _)
        exact hfin
      case own8 =>
        repeat (refine Rep.setLow ?_ (by first | (simp; done) | (simp; omega)) _)
        exact hown
end Go.Proofs.Ytaigdioimldknaa
