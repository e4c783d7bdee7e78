/- The model's Hear, Tell, Eat. (By gen_l8s.py.) -/
import Derived.Test.YtcelkmphdeaaeaaOutB
import Derived.Test.YtcelkmphdeaaeaaTellI
import Derived.Test.YtcelkmphdeaaeaaGetFrame
import Derived.Test.YtcelkmphdeaaeaaFrameS
namespace Go.Proofs.Ytcelkmphdeaaeaa
open Go.RowKit
set_option maxRecDepth 100000
set_option linter.unusedVariables false

set_option maxHeartbeats 8000000 in
theorem hearS_any (cs : List Value) (x : Sk) (B : Option Addr) (e : Nat) (b : List UInt8) (w : World) (h : skR.at_ w w.heap.size cs x) (hr : Reads w w.heap.size 1 B b.length (bys b)) (hs : RoomSk x) (hbl : b.length ≤ 1048576) :
    Calls Try.prog 17 #[.agg cs.toArray, .slice B b.length e] w (RetSkB w (hearP x b)) := by
  obtain ⟨B4, e4, B5, e5, rfl, hc4, hr4, hc5, hr5⟩ := sk_cells h
  have F : All (fun w' => Below w.heap.size w w' ∧ (w'.heap[w.heap.size]? = some (.cells #[.int .i64 x.id, .int .i64 x.kind, .int .i64 x.hold, .bool x.shut, .slice B4 x.inn.length e4, .slice B5 x.out.length e5, .int .i64 x.st, .int .i64 x.done] 25 (0, 0))) ∧ w'.heap[w.heap.size + 1]? = some (.cells #[.int .i64 0, .int .i64 0, .int .i64 0, .bool false, .slice none 0 0, .slice none 0 0, .int .i64 0, .int .i64 0] 25 (0, 0))) ((w.alloc (.cells #[.int .i64 x.id, .int .i64 x.kind, .int .i64 x.hold, .bool x.shut, .slice B4 x.inn.length e4, .slice B5 x.out.length e5, .int .i64 x.st, .int .i64 x.done] 25)).alloc (.cells #[.int .i64 0, .int .i64 0, .int .i64 0, .bool false, .slice none 0 0, .slice none 0 0, .int .i64 0, .int .i64 0] 25)) := ⟨Later.trans (Later.alloc w _) (Later.alloc _ _), (Below.heap_alloc _ _ _ (by simp)).trans (heap_alloc_new w _), heap_alloc_new' _ _ (by simp)⟩
  have hsz1 : w.heap.size + 1 + 1 = ((w.alloc (.cells #[.int .i64 x.id, .int .i64 x.kind, .int .i64 x.hold, .bool x.shut, .slice B4 x.inn.length e4, .slice B5 x.out.length e5, .int .i64 x.st, .int .i64 x.done] 25)).alloc (.cells #[.int .i64 0, .int .i64 0, .int .i64 0, .bool false, .slice none 0 0, .slice none 0 0, .int .i64 0, .int .i64 0] 25)).heap.size := by simp
  have H0 := Lib.hid h
  have HR := Lib.hid hr
  clear h hr hr4 hr5 hc4 hc5
  have hil := hs.1
  obtain ⟨i0, hi0, hz0, hz1, hz2⟩ := info_parts Try.info8
  obtain ⟨y, hy⟩ : ∃ y, skB x = y := ⟨_, rfl⟩
  have HY := Lib.hid hy
  obtain ⟨sh, hsh⟩ : ∃ y, x.shut = y := ⟨_, rfl⟩
  have HSH := Lib.hid hsh
  clear hy hsh
  go_enter Try.func17, Try.ntmps17
  go_wp2_with fail
  generalize ((w.alloc (.cells #[.int .i64 x.id, .int .i64 x.kind, .int .i64 x.hold, .bool x.shut, .slice B4 x.inn.length e4, .slice B5 x.out.length e5, .int .i64 x.st, .int .i64 x.done] 25)).alloc (.cells #[.int .i64 0, .int .i64 0, .int .i64 0, .bool false, .slice none 0 0, .slice none 0 0, .int .i64 0, .int .i64 0] 25)) = W0 at F hsz1 ⊢
  have hat : ∀ W, Below w.heap.size w W → skR.at_ W W.heap.size [.int .i64 x.id, .int .i64 x.kind, .int .i64 x.hold, .bool x.shut, .slice B4 x.inn.length e4, .slice B5 x.out.length e5, .int .i64 x.st, .int .i64 x.done] x := fun W hb => Rep.more skR (Rep.at_below H0.out hb) hb.size
  have HAT := Lib.hid hat
  clear hat
  refine (l8Copy_any [.int .i64 x.id, .int .i64 x.kind, .int .i64 x.hold, .bool x.shut, .slice B4 x.inn.length e4, .slice B5 x.out.length e5, .int .i64 x.st, .int .i64 x.done] x W0 (HAT.out _ F.out.1) hs).mono ?_
  rintro e1 W1 ⟨A4, c4, A5, c5, rfl, h4, h5, hap, hb⟩
  have hsz : w.heap.size + 1 + 1 ≤ W0.heap.size := by omega
  go_upto_region 2 with (fail)
  have hO : OB W0 W1.heap.size x (.slice A4 x.inn.length c4) (.slice A5 x.out.length c5) (W1.alloc (.cells #[.int .i64 x.id, .int .i64 x.kind, .int .i64 x.hold, .bool x.shut, .slice A4 x.inn.length c4, .slice A5 x.out.length c5, .int .i64 x.st, .int .i64 x.done] 25)) :=
    ⟨hb.alloc hb.size _, heap_alloc_new _ _, Owns.keep h4 (Later.alloc _ _), Owns.keep h5 (Later.alloc _ _), hap, hb.size, fun e => by have := (h4.lt _ e).2; omega, fun e => by have := (h5.lt _ e).2; omega⟩
  have hGl : w.heap.size + 1 + 1 ≤ W1.heap.size := Nat.le_trans hsz hb.size
  clear h4 h5 hap hb
  generalize W1.alloc (.cells #[.int .i64 x.id, .int .i64 x.kind, .int .i64 x.hold, .bool x.shut, .slice A4 x.inn.length c4, .slice A5 x.out.length c5, .int .i64 x.st, .int .i64 x.done] 25) = W2 at hO ⊢
  generalize W1.heap.size = G at hO hGl ⊢
  have q0 := var_cell (F.later hO.below).out.2.1 0
  have q1 := var_cell (F.later hO.below).out.2.1 1
  have q2 := var_cell (F.later hO.below).out.2.1 2
  have q3 := var_cell (F.later hO.below).out.2.1 3
  have q4 := var_cell (F.later hO.below).out.2.1 4
  have q5 := var_cell (F.later hO.below).out.2.1 5
  have q6 := var_cell (F.later hO.below).out.2.1 6
  have q7 := var_cell (F.later hO.below).out.2.1 7
  go_wp2_with fail
  refine (sockOkS_any [.int .i64 x.id, .int .i64 x.kind, .int .i64 x.hold, .bool x.shut, .slice B4 x.inn.length e4, .slice B5 x.out.length e5, .int .i64 x.st, .int .i64 x.done] x W2 (HAT.out _ (F.later hO.below).out.1)).mono ?_
  rw [HY.out]
  rintro e1 W3 ⟨rfl, hb⟩
  replace hO := hO.later hb
  clear q0 q1 q2 q3 q4 q5 q6 q7 hb
  cases y
  · skip
    have HP : Hid (hearP x b = (x, false)) := Lib.hid (by unfold hearP; rw [HY.out]; simp)
    have hZ := (F.later hO.below).out.2.2
    have hown := Rep.low skR hO.own hsz
    have hfin := (F.later hO.below).out.1
    have hl9 := (Array.getElem?_eq_some_iff.1 hZ).1
    have hlG := hO.lt
    have z0 := var_cell hZ 0
    have zf0 := var_frozen hZ 0
    have b0 := var_cell hO.box 0
    have z1 := var_cell hZ 1
    have zf1 := var_frozen hZ 1
    have b1 := var_cell hO.box 1
    have z2 := var_cell hZ 2
    have zf2 := var_frozen hZ 2
    have b2 := var_cell hO.box 2
    have z3 := var_cell hZ 3
    have zf3 := var_frozen hZ 3
    have b3 := var_cell hO.box 3
    have z4 := var_cell hZ 4
    have zf4 := var_frozen hZ 4
    have b4 := var_cell hO.box 4
    have z5 := var_cell hZ 5
    have zf5 := var_frozen hZ 5
    have b5 := var_cell hO.box 5
    have z6 := var_cell hZ 6
    have zf6 := var_frozen hZ 6
    have b6 := var_cell hO.box 6
    have z7 := var_cell hZ 7
    have zf7 := var_frozen hZ 7
    have b7 := var_cell hO.box 7
    clear F hO
    go_wp2_with fail
    refine bodyPost_ret (v := .tuple #[.agg #[.int .i64 x.id, .int .i64 x.kind, .int .i64 x.hold, .bool x.shut, .slice A4 x.inn.length c4, .slice A5 x.out.length c5, .int .i64 x.st, .int .i64 x.done], .bool false]) (by simp [results, Try.results17, go_sem, z0, z1, z2, z3, z4, z5, z6, z7]) rfl ?_
    rw [HP.out]
    refine ⟨_, ?fp1, rfl, Rep.low skR (base := w.heap.size + 1 + 1) ?own1 (by omega), ?low1⟩
    case low1 =>
      repeat (refine Below.setCell ?_ (by first | (simp; done) | (simp; omega)) _)
      exact hfin
    case own1 =>
      repeat (refine Rep.setLow ?_ (by first | (simp; done) | (simp; omega)) _)
      exact hown
  · have q3 : W3.cell? ⟨w.heap.size, 3, none⟩ = some (.bool sh) := by have := var_cell (F.later hO.below).out.2.1 3; rw [← HSH.out]; exact this
    have q4 := var_cell (F.later hO.below).out.2.1 4
    cases sh
    · by_cases h240 : x.inn.length + b.length ≤ 240
      · have g240 : ¬ ((240 : Int) - (x.inn.length : Int) < (b.length : Int)) := by omega
        have b4 := var_cell hO.box 4
        have HRW := (HR.out.below (F.later hO.below).out.1).more (F.later hO.below).out.1.size
        go_wp2_with (first
          | (at_builtin
             refine wpList_append_any _ rfl (.tmp 27) (.tmp 28) _ rfl W0.heap.size 5 i0 _ 1 1 Try.underlying22 hi0 hz0 hz1 hz2 rfl (by omega) (.slice A4 x.inn.length c4) x.inn.length (bys x.inn) rfl hO.inn W3.heap.size B b.length e (bys b) rfl HRW (bys_one b) (by simp only [maxLen]; omega) (by omega) hO.below.size ?_
             intro v3 w3 hown3 hg3 hat3
             refine Halt.go ?_)
          | fail)
        have hl3 : Owns w3 W0.heap.size 5 v3 (x.inn ++ b) := by unfold Owns; rw [bys_append, List.length_append]; exact hown3
        have hbx := ((hg3.block G hO.lt (fun e => hO.n4 e.symm))).trans hO.box
        have hK := hO.grown4 hg3 hl3 (by rcases hat3 with e | e; exact .inl e; exact .inr (.inl e))
        obtain ⟨A3, c3, rfl, _⟩ := hl3.shape
        have hS3 : G < w3.heap.size := Nat.lt_of_lt_of_le hO.lt hg3.size
        clear q3 q4 hown3 hg3 hat3 hl3 HRW hO b4
        refine Halt.mk ?_
        have y4 := var_cell hbx 4
        have t4 := var_frozen hbx 4
        rw [List.length_append] at hK
        try rw [List.length_append]
        go_upto_region 5 with (fail)
        clear y4 t4 hbx
        generalize (w3.setCell ⟨G, 4, none⟩ (.slice A3 (x.inn.length + b.length) c3)) = W4 at hK ⊢
        have HP : Hid (hearP x b = ({ x with inn := x.inn ++ b }, true)) := Lib.hid (by unfold hearP; rw [if_pos ⟨HY.out, HSH.out, h240⟩])
        have hZ := (F.later hK.below).out.2.2
        have hown := Rep.low skR hK.own hsz
        have hfin := (F.later hK.below).out.1
        have hl9 := (Array.getElem?_eq_some_iff.1 hZ).1
        have hlG := hK.lt
        have z0 := var_cell hZ 0
        have zf0 := var_frozen hZ 0
        have b0 := var_cell hK.box 0
        have z1 := var_cell hZ 1
        have zf1 := var_frozen hZ 1
        have b1 := var_cell hK.box 1
        have z2 := var_cell hZ 2
        have zf2 := var_frozen hZ 2
        have b2 := var_cell hK.box 2
        have z3 := var_cell hZ 3
        have zf3 := var_frozen hZ 3
        have b3 := var_cell hK.box 3
        have z4 := var_cell hZ 4
        have zf4 := var_frozen hZ 4
        have b4 := var_cell hK.box 4
        have z5 := var_cell hZ 5
        have zf5 := var_frozen hZ 5
        have b5 := var_cell hK.box 5
        have z6 := var_cell hZ 6
        have zf6 := var_frozen hZ 6
        have b6 := var_cell hK.box 6
        have z7 := var_cell hZ 7
        have zf7 := var_frozen hZ 7
        have b7 := var_cell hK.box 7
        clear F hK
        go_wp2_with fail
        refine bodyPost_ret (v := .tuple #[.agg #[.int .i64 x.id, .int .i64 x.kind, .int .i64 x.hold, .bool x.shut, .slice A3 (x.inn.length + b.length) c3, .slice A5 x.out.length c5, .int .i64 x.st, .int .i64 x.done], .bool true]) (by simp [results, Try.results17, go_sem, z0, z1, z2, z3, z4, z5, z6, z7]) rfl ?_
        rw [HP.out]
        refine ⟨_, ?fp2, rfl, Rep.low skR (base := w.heap.size + 1 + 1) ?own2 (by omega), ?low2⟩
        case low2 =>
          repeat (refine Below.setCell ?_ (by first | (simp; done) | (simp; omega)) _)
          exact hfin
        case own2 =>
          repeat (refine Rep.setLow ?_ (by first | (simp; done) | (simp; omega)) _)
          exact hown
      · have g240 : ((240 : Int) - (x.inn.length : Int) < (b.length : Int)) := by omega
        have HP : Hid (hearP x b = (x, false)) := Lib.hid (by unfold hearP; rw [if_neg (fun h => h240 h.2.2)])
        have hZ := (F.later hO.below).out.2.2
        have hown := Rep.low skR hO.own hsz
        have hfin := (F.later hO.below).out.1
        have hl9 := (Array.getElem?_eq_some_iff.1 hZ).1
        have hlG := hO.lt
        have z0 := var_cell hZ 0
        have zf0 := var_frozen hZ 0
        have b0 := var_cell hO.box 0
        have z1 := var_cell hZ 1
        have zf1 := var_frozen hZ 1
        have b1 := var_cell hO.box 1
        have z2 := var_cell hZ 2
        have zf2 := var_frozen hZ 2
        have b2 := var_cell hO.box 2
        have z3 := var_cell hZ 3
        have zf3 := var_frozen hZ 3
        have b3 := var_cell hO.box 3
        have z4 := var_cell hZ 4
        have zf4 := var_frozen hZ 4
        have b4 := var_cell hO.box 4
        have z5 := var_cell hZ 5
        have zf5 := var_frozen hZ 5
        have b5 := var_cell hO.box 5
        have z6 := var_cell hZ 6
        have zf6 := var_frozen hZ 6
        have b6 := var_cell hO.box 6
        have z7 := var_cell hZ 7
        have zf7 := var_frozen hZ 7
        have b7 := var_cell hO.box 7
        clear F hO
        go_wp2_with fail
        refine bodyPost_ret (v := .tuple #[.agg #[.int .i64 x.id, .int .i64 x.kind, .int .i64 x.hold, .bool x.shut, .slice A4 x.inn.length c4, .slice A5 x.out.length c5, .int .i64 x.st, .int .i64 x.done], .bool false]) (by simp [results, Try.results17, go_sem, z0, z1, z2, z3, z4, z5, z6, z7]) rfl ?_
        rw [HP.out]
        refine ⟨_, ?fp3, rfl, Rep.low skR (base := w.heap.size + 1 + 1) ?own3 (by omega), ?low3⟩
        case low3 =>
          repeat (refine Below.setCell ?_ (by first | (simp; done) | (simp; omega)) _)
          exact hfin
        case own3 =>
          repeat (refine Rep.setLow ?_ (by first | (simp; done) | (simp; omega)) _)
          exact hown
    · skip
      have HP : Hid (hearP x b = (x, false)) := Lib.hid (by unfold hearP; rw [HSH.out]; simp)
      have hZ := (F.later hO.below).out.2.2
      have hown := Rep.low skR hO.own hsz
      have hfin := (F.later hO.below).out.1
      have hl9 := (Array.getElem?_eq_some_iff.1 hZ).1
      have hlG := hO.lt
      have z0 := var_cell hZ 0
      have zf0 := var_frozen hZ 0
      have b0 := var_cell hO.box 0
      have z1 := var_cell hZ 1
      have zf1 := var_frozen hZ 1
      have b1 := var_cell hO.box 1
      have z2 := var_cell hZ 2
      have zf2 := var_frozen hZ 2
      have b2 := var_cell hO.box 2
      have z3 := var_cell hZ 3
      have zf3 := var_frozen hZ 3
      have b3 := var_cell hO.box 3
      have z4 := var_cell hZ 4
      have zf4 := var_frozen hZ 4
      have b4 := var_cell hO.box 4
      have z5 := var_cell hZ 5
      have zf5 := var_frozen hZ 5
      have b5 := var_cell hO.box 5
      have z6 := var_cell hZ 6
      have zf6 := var_frozen hZ 6
      have b6 := var_cell hO.box 6
      have z7 := var_cell hZ 7
      have zf7 := var_frozen hZ 7
      have b7 := var_cell hO.box 7
      clear F hO
      go_wp2_with fail
      refine bodyPost_ret (v := .tuple #[.agg #[.int .i64 x.id, .int .i64 x.kind, .int .i64 x.hold, .bool x.shut, .slice A4 x.inn.length c4, .slice A5 x.out.length c5, .int .i64 x.st, .int .i64 x.done], .bool false]) (by simp [results, Try.results17, go_sem, z0, z1, z2, z3, z4, z5, z6, z7]) rfl ?_
      rw [HP.out]
      refine ⟨_, ?fp4, rfl, Rep.low skR (base := w.heap.size + 1 + 1) ?own4 (by omega), ?low4⟩
      case low4 =>
        repeat (refine Below.setCell ?_ (by first | (simp; done) | (simp; omega)) _)
        exact hfin
      case own4 =>
        repeat (refine Rep.setLow ?_ (by first | (simp; done) | (simp; omega)) _)
        exact hown

set_option maxHeartbeats 8000000 in
theorem eatS_any (cs : List Value) (x : Sk) (w : World) (h : skR.at_ w w.heap.size cs x) (hs : RoomSk x) :
    Calls Try.prog 56 #[.agg cs.toArray] w (RetSk1 w (eatP x)) := by
  obtain ⟨B4, e4, B5, e5, rfl, hc4, hr4, hc5, hr5⟩ := sk_cells h
  have F : All (fun w' => Below w.heap.size w w' ∧ (w'.heap[w.heap.size]? = some (.cells #[.int .i64 x.id, .int .i64 x.kind, .int .i64 x.hold, .bool x.shut, .slice B4 x.inn.length e4, .slice B5 x.out.length e5, .int .i64 x.st, .int .i64 x.done] 25 (0, 0))) ∧ w'.heap[w.heap.size + 1]? = some (.cells #[.int .i64 0, .int .i64 0, .int .i64 0, .bool false, .slice none 0 0, .slice none 0 0, .int .i64 0, .int .i64 0] 25 (0, 0))) ((w.alloc (.cells #[.int .i64 x.id, .int .i64 x.kind, .int .i64 x.hold, .bool x.shut, .slice B4 x.inn.length e4, .slice B5 x.out.length e5, .int .i64 x.st, .int .i64 x.done] 25)).alloc (.cells #[.int .i64 0, .int .i64 0, .int .i64 0, .bool false, .slice none 0 0, .slice none 0 0, .int .i64 0, .int .i64 0] 25)) := ⟨Later.trans (Later.alloc w _) (Later.alloc _ _), (Below.heap_alloc _ _ _ (by simp)).trans (heap_alloc_new w _), heap_alloc_new' _ _ (by simp)⟩
  have hsz1 : w.heap.size + 1 + 1 = ((w.alloc (.cells #[.int .i64 x.id, .int .i64 x.kind, .int .i64 x.hold, .bool x.shut, .slice B4 x.inn.length e4, .slice B5 x.out.length e5, .int .i64 x.st, .int .i64 x.done] 25)).alloc (.cells #[.int .i64 0, .int .i64 0, .int .i64 0, .bool false, .slice none 0 0, .slice none 0 0, .int .i64 0, .int .i64 0] 25)).heap.size := by simp
  have H0 := Lib.hid h
  have HR := Lib.hid hr4
  have hcap := hc4.1
  have hil := hs.1
  obtain ⟨i0, hi0, hz0, hz1, hz2⟩ := info_parts Try.info8
  obtain ⟨hn1, hn2⟩ := eatN_le x.inn
  obtain ⟨n, hn⟩ : ∃ n, eatN x.inn = n := ⟨_, rfl⟩
  rw [hn] at hn1 hn2
  obtain ⟨⟨⟨fk, fs, fst⟩, fn, fc⟩, hp⟩ : ∃ p, getF x.inn = p := ⟨_, rfl⟩
  rw [hp] at hn2
  replace hn2 : fn = (n : Int) := hn2
  subst hn2
  have HBAD : Hid (fc ≠ 0 → n = 0) := Lib.hid (fun hc => by
    have h1 := (getF_bad (l := x.inn) (by rw [hp]; exact hc)).2.1
    rw [hp] at h1
    have h2 : (n : Int) = 0 := h1
    omega)
  obtain ⟨A', rs, qs⟩ := slice_readsF Try.underlying22 hi0 hz1 (A := B4) (n := x.inn.length) (c := e4) (lo := n) .i64 hn1 hcap
  have e1 : x.inn.length - n = (x.inn.drop n).length := List.length_drop.symm
  rw [e1] at rs qs
  obtain ⟨k, hk⟩ : ∃ k, e4 - n = k := ⟨_, rfl⟩
  replace qs : ∀ {w : World} {B : Nat}, Reads w B 1 B4 x.inn.length (bys x.inn) → Reads w B 1 A' (x.inn.drop n).length (bys (x.inn.drop n)) := fun h => qs h
  rw [hk] at rs
  have HP := Lib.hid (show eatP x = { x with inn := x.inn.drop n } by unfold eatP; rw [hn])
  have H00 : Hid (n = 0 → x.inn.drop n = x.inn) := Lib.hid (fun h => by rw [h]; rfl)
  have hml : (x.inn.drop n).length ≤ 1048576 := by rw [← e1]; omega
  obtain ⟨m, hm⟩ : ∃ m, x.inn.drop n = m := ⟨_, rfl⟩
  rw [hm] at rs qs HP H00 hml
  have QS : Hid (∀ (w : World) (u : Unit), Reads w w.heap.size 1 B4 x.inn.length (bys x.inn) → Reads w w.heap.size 1 A' m.length (bys m)) := Lib.hid fun w _ h => qs h
  have HG := Lib.hid hp
  have HN := Lib.hid hn1
  clear h hr4 hr5 hc4 hc5 hn hp hn1 hk hm qs e1
  go_enter Try.func56, Try.ntmps56
  go_wp2_with fail
  generalize ((w.alloc (.cells #[.int .i64 x.id, .int .i64 x.kind, .int .i64 x.hold, .bool x.shut, .slice B4 x.inn.length e4, .slice B5 x.out.length e5, .int .i64 x.st, .int .i64 x.done] 25)).alloc (.cells #[.int .i64 0, .int .i64 0, .int .i64 0, .bool false, .slice none 0 0, .slice none 0 0, .int .i64 0, .int .i64 0] 25)) = W0 at F hsz1 ⊢
  have hat : ∀ W, Below w.heap.size w W → skR.at_ W W.heap.size [.int .i64 x.id, .int .i64 x.kind, .int .i64 x.hold, .bool x.shut, .slice B4 x.inn.length e4, .slice B5 x.out.length e5, .int .i64 x.st, .int .i64 x.done] x := fun W hb => Rep.more skR (Rep.at_below H0.out hb) hb.size
  have HAT := Lib.hid hat
  clear hat
  refine (l8Copy_any [.int .i64 x.id, .int .i64 x.kind, .int .i64 x.hold, .bool x.shut, .slice B4 x.inn.length e4, .slice B5 x.out.length e5, .int .i64 x.st, .int .i64 x.done] x W0 (HAT.out _ F.out.1) hs).mono ?_
  rintro e1 W1 ⟨A4, c4, A5, c5, rfl, h4, h5, hap, hb⟩
  have hsz : w.heap.size + 1 + 1 ≤ W0.heap.size := by omega
  go_upto_region 2 with (fail)
  have hO : OB W0 W1.heap.size x (.slice A4 x.inn.length c4) (.slice A5 x.out.length c5) (W1.alloc (.cells #[.int .i64 x.id, .int .i64 x.kind, .int .i64 x.hold, .bool x.shut, .slice A4 x.inn.length c4, .slice A5 x.out.length c5, .int .i64 x.st, .int .i64 x.done] 25)) :=
    ⟨hb.alloc hb.size _, heap_alloc_new _ _, Owns.keep h4 (Later.alloc _ _), Owns.keep h5 (Later.alloc _ _), hap, hb.size, fun e => by have := (h4.lt _ e).2; omega, fun e => by have := (h5.lt _ e).2; omega⟩
  have hGl : w.heap.size + 1 + 1 ≤ W1.heap.size := Nat.le_trans hsz hb.size
  clear h4 h5 hap hb
  generalize W1.alloc (.cells #[.int .i64 x.id, .int .i64 x.kind, .int .i64 x.hold, .bool x.shut, .slice A4 x.inn.length c4, .slice A5 x.out.length c5, .int .i64 x.st, .int .i64 x.done] 25) = W2 at hO ⊢
  generalize W1.heap.size = G at hO hGl ⊢
  have q4 := var_cell (F.later hO.below).out.2.1 4
  go_wp2_with fail
  refine (getFrameS_any B4 e4 x.inn W2 ((HR.out.below (F.later hO.below).out.1).more (F.later hO.below).out.1.size) (by omega) hcap).mono ?_
  rw [HG.out]
  rintro e1 W3 ⟨rfl, hb⟩
  replace hO := hO.later hb
  clear q4 hb
  unfold frC
  go_upto_region 3 with (fail)
  replace hO := hO.later (Later.alloc W3 (.cells #[.int .i64 fk, .string fs, .int .i64 fst] 33))
  generalize W3.alloc (.cells #[.int .i64 fk, .string fs, .int .i64 fst] 33) = W4 at hO ⊢
  by_cases hc : fc = 0
  · have hce : (fc == 0) = true := by simp [hc]
    have o0 := Rep.lit_empty W4 5 1 (g := W4.heap.size) rfl
    have HA := Later.alloc W4 (.cells #[] 5)
    have hO4 := hO
    replace hO := hO.later HA
    have q4 := var_cell (F.later hO4.below).out.2.1 4
    have hpl : w.heap.size < W4.heap.size := (Array.getElem?_eq_some_iff.1 (F.later hO4.below).out.2.1).1
    have HRW := QS.out _ () ((HR.out.below (F.later hO.below).out.1).more (F.later hO.below).out.1.size)
    subst hc
    go_wp2_with (first
      | (at_builtin
         refine Rep.wpList_bytes _ W4 rfl (.tmp 18) (.tmp 22) _ rfl 5 i0 Try.underlying22 hi0 hz0 hz1 hz2 _ rfl W4.heap.size o0 (by simp) (W4.alloc (.cells #[] 5)).heap.size A' k m rfl HRW hml ?_
         intro D4 d4 W5 o4 hg hv9
         refine Halt.go ?_)
      | fail)
    have hb9 := HA.grown hg HA.size hv9
    have hO5 := hO4.later hb9
    have hbx := hO5.box
    have hG5 := hO5.lt
    have hlt4 : G < W4.heap.size := hO4.lt
    have os := Rep.Only.setCell W5 (p := ⟨G, 4, none⟩) (fp := [G]) (by simp) (.slice D4 m.length d4)
    have hK : OB W0 G { x with inn := m } (.slice D4 m.length d4) (.slice A5 x.out.length c5) (W5.setCell ⟨G, 4, none⟩ (.slice D4 m.length d4)) := by
      refine ⟨hO5.below.setCell (p := ⟨G, 4, none⟩) hO5.lo _, var_set hbx 4 _, ?_, ?_, ?_, hO5.lo, ?_, hO5.n5⟩
      · exact ownsRow_mono (Owns.setLow o4 (p := ⟨G, 4, none⟩) hlt4 _) hO4.below.size
      · exact Rep.ownsRow_block hO5.out fun g hg2 => os.block g (hO5.out.lt g (by simpa using hg2)).2 (fun e => hO5.n5 (by simp at e; subst e; simpa using hg2))
      · intro q h1 h2
        have := (o4.lt q h1).1
        have := (hO4.out.lt q h2).2
        omega
      · intro h1
        have := (o4.lt G h1).1
        omega
    clear hg hv9 hb9 HA o0 q4 HRW hO hO4 hO5 os o4 rs
    refine Halt.mk ?_
    have y4 := var_cell hbx 4
    have t4 := var_frozen hbx 4
    go_upto_region 5 with (fail)
    clear y4 t4 hbx
    generalize (W5.setCell ⟨G, 4, none⟩ (.slice D4 m.length d4)) = W6 at hK ⊢
    have hZ := (F.later hK.below).out.2.2
    have hown := Rep.low skR hK.own hsz
    have hfin := (F.later hK.below).out.1
    have hl9 := (Array.getElem?_eq_some_iff.1 hZ).1
    have hlG := hK.lt
    have z0 := var_cell hZ 0
    have zf0 := var_frozen hZ 0
    have b0 := var_cell hK.box 0
    have z1 := var_cell hZ 1
    have zf1 := var_frozen hZ 1
    have b1 := var_cell hK.box 1
    have z2 := var_cell hZ 2
    have zf2 := var_frozen hZ 2
    have b2 := var_cell hK.box 2
    have z3 := var_cell hZ 3
    have zf3 := var_frozen hZ 3
    have b3 := var_cell hK.box 3
    have z4 := var_cell hZ 4
    have zf4 := var_frozen hZ 4
    have b4 := var_cell hK.box 4
    have z5 := var_cell hZ 5
    have zf5 := var_frozen hZ 5
    have b5 := var_cell hK.box 5
    have z6 := var_cell hZ 6
    have zf6 := var_frozen hZ 6
    have b6 := var_cell hK.box 6
    have z7 := var_cell hZ 7
    have zf7 := var_frozen hZ 7
    have b7 := var_cell hK.box 7
    clear F hK
    go_wp2_with fail
    refine bodyPost_ret (v := .agg #[.int .i64 x.id, .int .i64 x.kind, .int .i64 x.hold, .bool x.shut, .slice D4 m.length d4, .slice A5 x.out.length c5, .int .i64 x.st, .int .i64 x.done]) (by simp [results, Try.results56, go_sem, z0, z1, z2, z3, z4, z5, z6, z7]) rfl ?_
    rw [HP.out]
    refine ⟨_, ?fp5, rfl, Rep.low skR (base := w.heap.size + 1 + 1) ?own5 (by omega), ?low5⟩
    case low5 =>
      repeat (refine Below.setCell ?_ (by first | (simp; done) | (simp; omega)) _)
      exact hfin
    case own5 =>
      repeat (refine Rep.setLow ?_ (by first | (simp; done) | (simp; omega)) _)
      exact hown
  · have hce : (fc == 0) = false := by simp [hc]
    have hn0 := HBAD.out hc
    have hm0 := H00.out hn0
    have HP2 := HP
    clear HP
    have HP : Hid (eatP x = x) := Lib.hid (HP2.out.trans (by rw [hm0]))
    clear HP2 hm0 hn0 rs
    have hZ := (F.later hO.below).out.2.2
    have hown := Rep.low skR hO.own hsz
    have hfin := (F.later hO.below).out.1
    have hl9 := (Array.getElem?_eq_some_iff.1 hZ).1
    have hlG := hO.lt
    have z0 := var_cell hZ 0
    have zf0 := var_frozen hZ 0
    have b0 := var_cell hO.box 0
    have z1 := var_cell hZ 1
    have zf1 := var_frozen hZ 1
    have b1 := var_cell hO.box 1
    have z2 := var_cell hZ 2
    have zf2 := var_frozen hZ 2
    have b2 := var_cell hO.box 2
    have z3 := var_cell hZ 3
    have zf3 := var_frozen hZ 3
    have b3 := var_cell hO.box 3
    have z4 := var_cell hZ 4
    have zf4 := var_frozen hZ 4
    have b4 := var_cell hO.box 4
    have z5 := var_cell hZ 5
    have zf5 := var_frozen hZ 5
    have b5 := var_cell hO.box 5
    have z6 := var_cell hZ 6
    have zf6 := var_frozen hZ 6
    have b6 := var_cell hO.box 6
    have z7 := var_cell hZ 7
    have zf7 := var_frozen hZ 7
    have b7 := var_cell hO.box 7
    clear F hO
    go_wp2_with fail
    refine bodyPost_ret (v := .agg #[.int .i64 x.id, .int .i64 x.kind, .int .i64 x.hold, .bool x.shut, .slice A4 x.inn.length c4, .slice A5 x.out.length c5, .int .i64 x.st, .int .i64 x.done]) (by simp [results, Try.results56, go_sem, z0, z1, z2, z3, z4, z5, z6, z7]) rfl ?_
    rw [HP.out]
    refine ⟨_, ?fp6, rfl, Rep.low skR (base := w.heap.size + 1 + 1) ?own6 (by omega), ?low6⟩
    case low6 =>
      repeat (refine Below.setCell ?_ (by first | (simp; done) | (simp; omega)) _)
      exact hfin
    case own6 =>
      repeat (refine Rep.setLow ?_ (by first | (simp; done) | (simp; omega)) _)
      exact hown

end Go.Proofs.Ytcelkmphdeaaeaa
