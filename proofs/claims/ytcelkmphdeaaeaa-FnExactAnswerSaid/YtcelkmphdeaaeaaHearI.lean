/- The program's Hear, Tell, Eat, Peek. (By gen_l8i.py.) -/
import Derived.Test.YtcelkmphdeaaeaaSocketOf
import Derived.Test.YtcelkmphdeaaeaaSocketNx
import Derived.Test.YtcelkmphdeaaeaaSockI
import Derived.Test.YtcelkmphdeaaeaaFrames
namespace Go.Proofs.Ytcelkmphdeaaeaa
open Go.RowKit
set_option maxRecDepth 100000
set_option linter.unusedVariables false

def hearP (x : Sk) (b : List UInt8) : Sk × Bool := if skB x = true ∧ x.shut = false ∧ x.inn.length + b.length ≤ 240 then ({ x with inn := x.inn ++ b }, true) else (x, false)
def tellP (x : Sk) (f : Fr) : Sk := if skB x = true then { x with out := x.out ++ putF f } else x
/-- How many bytes the next frame takes. -/
def eatN (l : List UInt8) : Nat := (getF l).2.1.toNat
def eatP (x : Sk) : Sk := { x with inn := x.inn.drop (eatN x.inn) }
def peekP (x : Sk) : Fr × Int := if (getF x.inn).2.2 = 1 ∧ x.shut = true ∧ 0 < x.inn.length then (zeroFr, 2) else ((getF x.inn).1, (getF x.inn).2.2)
theorem eatN_le (l : List UInt8) : eatN l ≤ l.length ∧ (getF l).2.1 = (eatN l : Int) := by
  unfold eatN
  by_cases h : (getF l).2.2 = 0
  · obtain ⟨n, hn, h1, h2, _⟩ := getF_good h
    rw [hn]
    exact ⟨by simpa using h2, by simp⟩
  · obtain ⟨_, hn, _⟩ := getF_bad h
    rw [hn]
    simp

/-- A socket of the call's own and a bool come back. -/
def RetSkB (w : World) (p : Sk × Bool) (e : Ending) (w' : World) : Prop := ∃ cs fp, e = .returned (.tuple #[.agg cs.toArray, .bool p.2]) ∧ skR.own w' w.heap.size cs p.1 fp ∧ Below w.heap.size w w'
/-- A socket of the call's own comes back. -/
def RetSk1 (w : World) (x : Sk) (e : Ending) (w' : World) : Prop := ∃ cs fp, e = .returned (.agg cs.toArray) ∧ skR.own w' w.heap.size cs x fp ∧ Below w.heap.size w w'
theorem KB.own {w0 W : World} {S : Nat} {x : Sk} {v4 v5 o5 : Value} {d7 : Int} (h : KB w0 S x v4 v5 o5 d7 W) : skR.own W w0.heap.size [.int .i64 x.id, .int .i64 x.kind, .int .i64 x.hold, .bool x.shut, v4, v5, .int .i64 x.st, .int .i64 x.done] x (v4.ownBlock.toList ++ (v5.ownBlock.toList ++ [])) := sk_own h.inn h.out (sk_apart2 h.ap)

set_option maxHeartbeats 8000000 in
theorem hear_any (cs : List Value) (x : Sk) (B : Option Addr) (e : Nat) (b : List UInt8) (w : World) (h : skR.at_ w w.heap.size cs x) (hr : Reads w w.heap.size 1 B b.length (bys b)) (hs : RoomSk x) (hbl : b.length ≤ 1048576) :
    Calls Try.prog 16 #[.agg cs.toArray, .slice B b.length e] w (RetSkB w (hearP x b)) := by
  obtain ⟨B4, e4, B5, e5, rfl, hc4, hr4, hc5, hr5⟩ := sk_cells h
  have F : All (fun w' => Below w.heap.size w w' ∧ (w'.heap[w.heap.size]? = some (.cells #[.int .i64 x.id, .int .i64 x.kind, .int .i64 x.hold, .bool x.shut, .slice B4 x.inn.length e4, .slice B5 x.out.length e5, .int .i64 x.st, .int .i64 x.done] 25 (0, 0))) ∧ w'.heap[w.heap.size + 1]? = some (.cells #[.int .i64 0, .int .i64 0, .int .i64 0, .bool false, .slice none 0 0, .slice none 0 0, .int .i64 0, .int .i64 0] 25 (0, 0))) ((w.alloc (.cells #[.int .i64 x.id, .int .i64 x.kind, .int .i64 x.hold, .bool x.shut, .slice B4 x.inn.length e4, .slice B5 x.out.length e5, .int .i64 x.st, .int .i64 x.done] 25)).alloc (.cells #[.int .i64 0, .int .i64 0, .int .i64 0, .bool false, .slice none 0 0, .slice none 0 0, .int .i64 0, .int .i64 0] 25)) := ⟨Later.trans (Later.alloc w _) (Later.alloc _ _), (Below.heap_alloc _ _ _ (by simp)).trans (heap_alloc_new w _), heap_alloc_new' _ _ (by simp)⟩
  have hsz1 : w.heap.size + 1 + 1 = ((w.alloc (.cells #[.int .i64 x.id, .int .i64 x.kind, .int .i64 x.hold, .bool x.shut, .slice B4 x.inn.length e4, .slice B5 x.out.length e5, .int .i64 x.st, .int .i64 x.done] 25)).alloc (.cells #[.int .i64 0, .int .i64 0, .int .i64 0, .bool false, .slice none 0 0, .slice none 0 0, .int .i64 0, .int .i64 0] 25)).heap.size := by simp
  have HR := Lib.hid hr
  have H0 := Lib.hid h
  clear h hr hr4 hr5 hc4 hc5
  obtain ⟨y, hy⟩ : ∃ y, skB x = y := ⟨_, rfl⟩
  have HY := Lib.hid hy
  obtain ⟨sh, hsh⟩ : ∃ y, x.shut = y := ⟨_, rfl⟩
  have HSH := Lib.hid hsh
  clear hy hsh
  go_enter Try.func16, Try.ntmps16
  go_wp2_with fail
  generalize ((w.alloc (.cells #[.int .i64 x.id, .int .i64 x.kind, .int .i64 x.hold, .bool x.shut, .slice B4 x.inn.length e4, .slice B5 x.out.length e5, .int .i64 x.st, .int .i64 x.done] 25)).alloc (.cells #[.int .i64 0, .int .i64 0, .int .i64 0, .bool false, .slice none 0 0, .slice none 0 0, .int .i64 0, .int .i64 0] 25)) = W0 at F hsz1 ⊢
  have hat : ∀ W, Below w.heap.size w W → skR.at_ W W.heap.size [.int .i64 x.id, .int .i64 x.kind, .int .i64 x.hold, .bool x.shut, .slice B4 x.inn.length e4, .slice B5 x.out.length e5, .int .i64 x.st, .int .i64 x.done] x := fun W hb => Rep.more skR (Rep.at_below H0.out hb) hb.size
  have HAT := Lib.hid hat
  clear hat
  refine (socketOf_any [.int .i64 x.id, .int .i64 x.kind, .int .i64 x.hold, .bool x.shut, .slice B4 x.inn.length e4, .slice B5 x.out.length e5, .int .i64 x.st, .int .i64 x.done] x W0 (HAT.out _ F.out.1) hs).mono ?_
  rintro e1 W1 ⟨S, v4, v5, o5, d7, rfl, hK⟩
  have hsz : w.heap.size + 1 + 1 ≤ W0.heap.size := by omega
  have q0 := var_cell (F.later hK.below).out.2.1 0
  have q1 := var_cell (F.later hK.below).out.2.1 1
  have q2 := var_cell (F.later hK.below).out.2.1 2
  have q3 := var_cell (F.later hK.below).out.2.1 3
  have q4 := var_cell (F.later hK.below).out.2.1 4
  have q5 := var_cell (F.later hK.below).out.2.1 5
  have q6 := var_cell (F.later hK.below).out.2.1 6
  have q7 := var_cell (F.later hK.below).out.2.1 7
  go_wp2_with fail
  refine (sockOk_any [.int .i64 x.id, .int .i64 x.kind, .int .i64 x.hold, .bool x.shut, .slice B4 x.inn.length e4, .slice B5 x.out.length e5, .int .i64 x.st, .int .i64 x.done] x W1 (HAT.out _ (F.later hK.below).out.1)).mono ?_
  rw [HY.out]
  rintro e1 W2 ⟨rfl, hb⟩
  replace hK := hK.later hb
  clear q0 q1 q2 q3 q4 q5 q6 q7 hb
  cases y
  · skip
    have HP : Hid (hearP x b = (x, false)) := Lib.hid (by unfold hearP; rw [HY.out]; simp)
    have hbx := hK.box
    have hown0 := hK.own
    have hlow0 := hK.below
    obtain ⟨A4, c4, A5, c5, B9, m9, e9, rfl, rfl, rfl, _, _⟩ := hK.slices
    clear hK
    have hfin := (F.later hlow0).out.1
    go_wp2_with fail
    refine (sock_any S x A4 A5 B9 _ c4 _ c5 m9 e9 d7 W2 hbx).mono ?_
    rintro e W9 ⟨rfl, hb9⟩
    have hZ := (hb9.block _ (Array.getElem?_eq_some_iff.1 (F.later hlow0).out.2.2).1).trans (F.later hlow0).out.2.2
    have hown := Rep.own_below (Rep.low skR hown0 hsz) hb9
    replace hfin : Below w.heap.size w W9 := Later.trans hfin hb9
    clear hb9 hbx hown0 hlow0 F
    have hl9 := (Array.getElem?_eq_some_iff.1 hZ).1
    have z0 := var_cell hZ 0
    have zf0 := var_frozen hZ 0
    have z1 := var_cell hZ 1
    have zf1 := var_frozen hZ 1
    have z2 := var_cell hZ 2
    have zf2 := var_frozen hZ 2
    have z3 := var_cell hZ 3
    have zf3 := var_frozen hZ 3
    have z4 := var_cell hZ 4
    have zf4 := var_frozen hZ 4
    have z5 := var_cell hZ 5
    have zf5 := var_frozen hZ 5
    have z6 := var_cell hZ 6
    have zf6 := var_frozen hZ 6
    have z7 := var_cell hZ 7
    have zf7 := var_frozen hZ 7
    go_wp2_with fail
    refine bodyPost_ret (v := .tuple #[.agg #[.int .i64 x.id, .int .i64 x.kind, .int .i64 x.hold, .bool x.shut, .slice A4 x.inn.length c4, .slice A5 x.out.length c5, .int .i64 x.st, .int .i64 x.done], .bool false]) (by simp [results, Try.results16, go_sem, z0, z1, z2, z3, z4, z5, z6, z7]) rfl ?_
    rw [HP.out]
    refine ⟨_, ?fp1, rfl, Rep.low skR (base := w.heap.size + 1 + 1) ?own1 (by omega), ?low1⟩
    case low1 =>
      repeat (refine Below.setCell ?_ (by first | (simp; done) | (simp; omega)) _)
      exact hfin
    case own1 =>
      repeat (refine Rep.setLow ?_ (by first | (simp; done) | (simp; omega)) _)
      exact hown
  · have q3 : W2.cell? ⟨w.heap.size, 3, none⟩ = some (.bool sh) := by have := var_cell (F.later hK.below).out.2.1 3; rw [← HSH.out]; exact this
    cases sh
    · skip
      go_wp2_with fail
      clear q3
      refine (receive_any W2 hK B e b ((HR.out.below (F.later hK.below).out.1).more (F.later hK.below).out.1.size) (by have := hs.1; omega) hbl).mono ?_
      rintro e1 W3 (⟨h240, rfl, v4', hK⟩ | ⟨h240, rfl, rfl⟩)
      · skip
        have HP : Hid (hearP x b = ({ x with inn := x.inn ++ b }, true)) := Lib.hid (by unfold hearP; rw [if_pos ⟨HY.out, HSH.out, h240⟩])
        have hbx := hK.box
        have hown0 := hK.own
        have hlow0 := hK.below
        obtain ⟨A4, c4, A5, c5, B9, m9, e9, rfl, rfl, rfl, _, _⟩ := hK.slices
        clear hK
        have hfin := (F.later hlow0).out.1
        go_wp2_with fail
        refine (sock_any S { x with inn := x.inn ++ b } A4 A5 B9 _ c4 _ c5 m9 e9 d7 W3 hbx).mono ?_
        rintro e W9 ⟨rfl, hb9⟩
        have hZ := (hb9.block _ (Array.getElem?_eq_some_iff.1 (F.later hlow0).out.2.2).1).trans (F.later hlow0).out.2.2
        have hown := Rep.own_below (Rep.low skR hown0 hsz) hb9
        replace hfin : Below w.heap.size w W9 := Later.trans hfin hb9
        clear hb9 hbx hown0 hlow0 F
        have hl9 := (Array.getElem?_eq_some_iff.1 hZ).1
        have z0 := var_cell hZ 0
        have zf0 := var_frozen hZ 0
        have z1 := var_cell hZ 1
        have zf1 := var_frozen hZ 1
        have z2 := var_cell hZ 2
        have zf2 := var_frozen hZ 2
        have z3 := var_cell hZ 3
        have zf3 := var_frozen hZ 3
        have z4 := var_cell hZ 4
        have zf4 := var_frozen hZ 4
        have z5 := var_cell hZ 5
        have zf5 := var_frozen hZ 5
        have z6 := var_cell hZ 6
        have zf6 := var_frozen hZ 6
        have z7 := var_cell hZ 7
        have zf7 := var_frozen hZ 7
        go_wp2_with fail
        refine bodyPost_ret (v := .tuple #[.agg #[.int .i64 x.id, .int .i64 x.kind, .int .i64 x.hold, .bool x.shut, .slice A4 (x.inn ++ b).length c4, .slice A5 x.out.length c5, .int .i64 x.st, .int .i64 x.done], .bool true]) (by simp [results, Try.results16, go_sem, z0, z1, z2, z3, z4, z5, z6, z7]) rfl ?_
        rw [HP.out]
        refine ⟨_, ?fp2, rfl, Rep.low skR (base := w.heap.size + 1 + 1) ?own2 (by omega), ?low2⟩
        case low2 =>
          repeat (refine Below.setCell ?_ (by first | (simp; done) | (simp; omega)) _)
          exact hfin
        case own2 =>
          repeat (refine Rep.setLow ?_ (by first | (simp; done) | (simp; omega)) _)
          exact hown
      · skip
        have HP : Hid (hearP x b = (x, false)) := Lib.hid (by unfold hearP; rw [if_neg (fun h => h240 h.2.2)])
        have hbx := hK.box
        have hown0 := hK.own
        have hlow0 := hK.below
        obtain ⟨A4, c4, A5, c5, B9, m9, e9, rfl, rfl, rfl, _, _⟩ := hK.slices
        clear hK
        have hfin := (F.later hlow0).out.1
        go_wp2_with fail
        refine (sock_any S x A4 A5 B9 _ c4 _ c5 m9 e9 d7 W2 hbx).mono ?_
        rintro e W9 ⟨rfl, hb9⟩
        have hZ := (hb9.block _ (Array.getElem?_eq_some_iff.1 (F.later hlow0).out.2.2).1).trans (F.later hlow0).out.2.2
        have hown := Rep.own_below (Rep.low skR hown0 hsz) hb9
        replace hfin : Below w.heap.size w W9 := Later.trans hfin hb9
        clear hb9 hbx hown0 hlow0 F
        have hl9 := (Array.getElem?_eq_some_iff.1 hZ).1
        have z0 := var_cell hZ 0
        have zf0 := var_frozen hZ 0
        have z1 := var_cell hZ 1
        have zf1 := var_frozen hZ 1
        have z2 := var_cell hZ 2
        have zf2 := var_frozen hZ 2
        have z3 := var_cell hZ 3
        have zf3 := var_frozen hZ 3
        have z4 := var_cell hZ 4
        have zf4 := var_frozen hZ 4
        have z5 := var_cell hZ 5
        have zf5 := var_frozen hZ 5
        have z6 := var_cell hZ 6
        have zf6 := var_frozen hZ 6
        have z7 := var_cell hZ 7
        have zf7 := var_frozen hZ 7
        go_wp2_with fail
        refine bodyPost_ret (v := .tuple #[.agg #[.int .i64 x.id, .int .i64 x.kind, .int .i64 x.hold, .bool x.shut, .slice A4 x.inn.length c4, .slice A5 x.out.length c5, .int .i64 x.st, .int .i64 x.done], .bool false]) (by simp [results, Try.results16, go_sem, z0, z1, z2, z3, z4, z5, z6, z7]) rfl ?_
        rw [HP.out]
        refine ⟨_, ?fp3, rfl, Rep.low skR (base := w.heap.size + 1 + 1) ?own3 (by omega), ?low3⟩
        case low3 =>
          repeat (refine Below.setCell ?_ (by first | (simp; done) | (simp; omega)) _)
          exact hfin
        case own3 =>
          repeat (refine Rep.setLow ?_ (by first | (simp; done) | (simp; omega)) _)
          exact hown
    · skip
      have HP : Hid (hearP x b = (x, false)) := Lib.hid (by unfold hearP; rw [HSH.out]; simp)
      have hbx := hK.box
      have hown0 := hK.own
      have hlow0 := hK.below
      obtain ⟨A4, c4, A5, c5, B9, m9, e9, rfl, rfl, rfl, _, _⟩ := hK.slices
      clear hK
      have hfin := (F.later hlow0).out.1
      go_wp2_with fail
      refine (sock_any S x A4 A5 B9 _ c4 _ c5 m9 e9 d7 W2 hbx).mono ?_
      rintro e W9 ⟨rfl, hb9⟩
      have hZ := (hb9.block _ (Array.getElem?_eq_some_iff.1 (F.later hlow0).out.2.2).1).trans (F.later hlow0).out.2.2
      have hown := Rep.own_below (Rep.low skR hown0 hsz) hb9
      replace hfin : Below w.heap.size w W9 := Later.trans hfin hb9
      clear hb9 hbx hown0 hlow0 F
      have hl9 := (Array.getElem?_eq_some_iff.1 hZ).1
      have z0 := var_cell hZ 0
      have zf0 := var_frozen hZ 0
      have z1 := var_cell hZ 1
      have zf1 := var_frozen hZ 1
      have z2 := var_cell hZ 2
      have zf2 := var_frozen hZ 2
      have z3 := var_cell hZ 3
      have zf3 := var_frozen hZ 3
      have z4 := var_cell hZ 4
      have zf4 := var_frozen hZ 4
      have z5 := var_cell hZ 5
      have zf5 := var_frozen hZ 5
      have z6 := var_cell hZ 6
      have zf6 := var_frozen hZ 6
      have z7 := var_cell hZ 7
      have zf7 := var_frozen hZ 7
      go_wp2_with fail
      refine bodyPost_ret (v := .tuple #[.agg #[.int .i64 x.id, .int .i64 x.kind, .int .i64 x.hold, .bool x.shut, .slice A4 x.inn.length c4, .slice A5 x.out.length c5, .int .i64 x.st, .int .i64 x.done], .bool false]) (by simp [results, Try.results16, go_sem, z0, z1, z2, z3, z4, z5, z6, z7]) rfl ?_
      rw [HP.out]
      refine ⟨_, ?fp4, rfl, Rep.low skR (base := w.heap.size + 1 + 1) ?own4 (by omega), ?low4⟩
      case low4 =>
        repeat (refine Below.setCell ?_ (by first | (simp; done) | (simp; omega)) _)
        exact hfin
      case own4 =>
        repeat (refine Rep.setLow ?_ (by first | (simp; done) | (simp; omega)) _)
        exact hown

end Go.Proofs.Ytcelkmphdeaaeaa
