/- The model's Tell. (By gen_l8s.py.) -/
import Derived.Test.YtcelkmphdeaaeaaHearS
namespace Go.Proofs.Ytcelkmphdeaaeaa
open Go.RowKit
set_option maxRecDepth 100000
set_option linter.unusedVariables false


set_option maxHeartbeats 8000000 in
theorem tellS_any (cs : List Value) (x : Sk) (f : Fr) (w : World) (h : skR.at_ w w.heap.size cs x) (hs : RoomSk x) (hfs : f.s.size ≤ 1048576) :
    Calls Try.prog 58 #[.agg cs.toArray, .agg (frC f).toArray] w (RetSk1 w (tellP x f)) := by
  obtain ⟨B4, e4, B5, e5, rfl, hc4, hr4, hc5, hr5⟩ := sk_cells h
  obtain ⟨i0, hi0, hz0, hz1, hz2⟩ := info_parts Try.info8
  have hol := hs.2
  have F : All (fun w' => Below w.heap.size w w' ∧ (w'.heap[w.heap.size]? = some (.cells #[.int .i64 x.id, .int .i64 x.kind, .int .i64 x.hold, .bool x.shut, .slice B4 x.inn.length e4, .slice B5 x.out.length e5, .int .i64 x.st, .int .i64 x.done] 25 (0, 0)) ∧ w'.heap[w.heap.size + 1]? = some (.cells (frC f).toArray 33 (0, 0))) ∧ w'.heap[w.heap.size + 1 + 1]? = some (.cells #[.int .i64 0, .int .i64 0, .int .i64 0, .bool false, .slice none 0 0, .slice none 0 0, .int .i64 0, .int .i64 0] 25 (0, 0))) (((w.alloc (.cells #[.int .i64 x.id, .int .i64 x.kind, .int .i64 x.hold, .bool x.shut, .slice B4 x.inn.length e4, .slice B5 x.out.length e5, .int .i64 x.st, .int .i64 x.done] 25)).alloc (.cells (frC f).toArray 33)).alloc (.cells #[.int .i64 0, .int .i64 0, .int .i64 0, .bool false, .slice none 0 0, .slice none 0 0, .int .i64 0, .int .i64 0] 25)) := ⟨Later.trans (Later.trans (Later.alloc w _) (Later.alloc _ _)) (Later.alloc _ _), ⟨(Below.heap_alloc _ _ _ (by simp; omega)).trans ((Below.heap_alloc _ _ _ (by simp)).trans (heap_alloc_new w _)), (Below.heap_alloc _ _ _ (by simp)).trans (heap_alloc_new' _ _ (by simp))⟩, heap_alloc_new' _ _ (by simp)⟩
  have hsz1 : w.heap.size + 1 + 1 + 1 = (((w.alloc (.cells #[.int .i64 x.id, .int .i64 x.kind, .int .i64 x.hold, .bool x.shut, .slice B4 x.inn.length e4, .slice B5 x.out.length e5, .int .i64 x.st, .int .i64 x.done] 25)).alloc (.cells (frC f).toArray 33)).alloc (.cells #[.int .i64 0, .int .i64 0, .int .i64 0, .bool false, .slice none 0 0, .slice none 0 0, .int .i64 0, .int .i64 0] 25)).heap.size := by simp
  have H0 := Lib.hid h
  clear h hr4 hr5 hc4 hc5
  obtain ⟨y, hy⟩ : ∃ y, skB x = y := ⟨_, rfl⟩
  have HY := Lib.hid hy
  obtain ⟨P, hP⟩ : ∃ P, putF f = P := ⟨_, rfl⟩
  have HPF := Lib.hid hP
  have hPl : P.length ≤ 102 := by rw [← hP]; exact putF_len f
  clear hy hP
  unfold frC
  go_enter Try.func58, Try.ntmps58
  go_wp2_with fail
  replace F : All _ (((w.alloc (.cells #[.int .i64 x.id, .int .i64 x.kind, .int .i64 x.hold, .bool x.shut, .slice B4 x.inn.length e4, .slice B5 x.out.length e5, .int .i64 x.st, .int .i64 x.done] 25)).alloc (.cells #[.int .i64 f.k, .string f.s, .int .i64 f.st] 33)).alloc (.cells #[.int .i64 0, .int .i64 0, .int .i64 0, .bool false, .slice none 0 0, .slice none 0 0, .int .i64 0, .int .i64 0] 25)) := F
  replace hsz1 : w.heap.size + 1 + 1 + 1 = (((w.alloc (.cells #[.int .i64 x.id, .int .i64 x.kind, .int .i64 x.hold, .bool x.shut, .slice B4 x.inn.length e4, .slice B5 x.out.length e5, .int .i64 x.st, .int .i64 x.done] 25)).alloc (.cells #[.int .i64 f.k, .string f.s, .int .i64 f.st] 33)).alloc (.cells #[.int .i64 0, .int .i64 0, .int .i64 0, .bool false, .slice none 0 0, .slice none 0 0, .int .i64 0, .int .i64 0] 25)).heap.size := hsz1
  generalize (((w.alloc (.cells #[.int .i64 x.id, .int .i64 x.kind, .int .i64 x.hold, .bool x.shut, .slice B4 x.inn.length e4, .slice B5 x.out.length e5, .int .i64 x.st, .int .i64 x.done] 25)).alloc (.cells #[.int .i64 f.k, .string f.s, .int .i64 f.st] 33)).alloc (.cells #[.int .i64 0, .int .i64 0, .int .i64 0, .bool false, .slice none 0 0, .slice none 0 0, .int .i64 0, .int .i64 0] 25)) = W0 at F hsz1 ⊢
  have hat : ∀ W, Below w.heap.size w W → skR.at_ W W.heap.size [.int .i64 x.id, .int .i64 x.kind, .int .i64 x.hold, .bool x.shut, .slice B4 x.inn.length e4, .slice B5 x.out.length e5, .int .i64 x.st, .int .i64 x.done] x := fun W hb => Rep.more skR (Rep.at_below H0.out hb) hb.size
  have HAT := Lib.hid hat
  clear hat
  refine (l8Copy_any [.int .i64 x.id, .int .i64 x.kind, .int .i64 x.hold, .bool x.shut, .slice B4 x.inn.length e4, .slice B5 x.out.length e5, .int .i64 x.st, .int .i64 x.done] x W0 (HAT.out _ F.out.1) hs).mono ?_
  rintro e1 W1 ⟨A4, c4, A5, c5, rfl, h4, h5, hap, hb⟩
  have hsz : w.heap.size + 1 + 1 + 1 ≤ W0.heap.size := by omega
  go_upto_region 2 with (fail)
  have hO : OB W0 W1.heap.size x (.slice A4 x.inn.length c4) (.slice A5 x.out.length c5) (W1.alloc (.cells #[.int .i64 x.id, .int .i64 x.kind, .int .i64 x.hold, .bool x.shut, .slice A4 x.inn.length c4, .slice A5 x.out.length c5, .int .i64 x.st, .int .i64 x.done] 25)) :=
    ⟨hb.alloc hb.size _, heap_alloc_new _ _, Owns.keep h4 (Later.alloc _ _), Owns.keep h5 (Later.alloc _ _), hap, hb.size, fun e => by have := (h4.lt _ e).2; omega, fun e => by have := (h5.lt _ e).2; omega⟩
  have hGl : w.heap.size + 1 + 1 + 1 ≤ W1.heap.size := Nat.le_trans hsz hb.size
  clear h4 h5 hap hb
  generalize W1.alloc (.cells #[.int .i64 x.id, .int .i64 x.kind, .int .i64 x.hold, .bool x.shut, .slice A4 x.inn.length c4, .slice A5 x.out.length c5, .int .i64 x.st, .int .i64 x.done] 25) = W2 at hO ⊢
  generalize W1.heap.size = G at hO hGl ⊢
  have q0 := var_cell (F.later hO.below).out.2.1.1 0
  have q1 := var_cell (F.later hO.below).out.2.1.1 1
  have q2 := var_cell (F.later hO.below).out.2.1.1 2
  have q3 := var_cell (F.later hO.below).out.2.1.1 3
  have q4 := var_cell (F.later hO.below).out.2.1.1 4
  have q5 := var_cell (F.later hO.below).out.2.1.1 5
  have q6 := var_cell (F.later hO.below).out.2.1.1 6
  have q7 := var_cell (F.later hO.below).out.2.1.1 7
  go_wp2_with fail
  refine (sockOkS_any [.int .i64 x.id, .int .i64 x.kind, .int .i64 x.hold, .bool x.shut, .slice B4 x.inn.length e4, .slice B5 x.out.length e5, .int .i64 x.st, .int .i64 x.done] x W2 (HAT.out _ (F.later hO.below).out.1)).mono ?_
  rw [HY.out]
  rintro e1 W3 ⟨rfl, hb⟩
  replace hO := hO.later hb
  clear q0 q1 q2 q3 q4 q5 q6 q7 hb
  cases y
  · skip
    have HP : Hid (tellP x f = x) := Lib.hid (by unfold tellP; rw [HY.out]; simp)
    have hZ := (F.later hO.below).out.2.2
    have hown := Rep.low skR hO.own hsz
    have hfin := (F.later hO.below).out.1
    have hl9 := (Array.getElem?_eq_some_iff.1 hZ).1
    have hlG := hO.lt
    have z0 := var_cell hZ 0
    have zf0 := var_frozen hZ 0
    have b0 := var_cell hO.box 0
    have z1 := var_cell hZ 1
    have zf1 := var_frozen hZ 1
    have b1 := var_cell hO.box 1
    have z2 := var_cell hZ 2
    have zf2 := var_frozen hZ 2
    have b2 := var_cell hO.box 2
    have z3 := var_cell hZ 3
    have zf3 := var_frozen hZ 3
    have b3 := var_cell hO.box 3
    have z4 := var_cell hZ 4
    have zf4 := var_frozen hZ 4
    have b4 := var_cell hO.box 4
    have z5 := var_cell hZ 5
    have zf5 := var_frozen hZ 5
    have b5 := var_cell hO.box 5
    have z6 := var_cell hZ 6
    have zf6 := var_frozen hZ 6
    have b6 := var_cell hO.box 6
    have z7 := var_cell hZ 7
    have zf7 := var_frozen hZ 7
    have b7 := var_cell hO.box 7
    clear F hO
    go_wp2_with fail
    refine bodyPost_ret (v := .agg #[.int .i64 x.id, .int .i64 x.kind, .int .i64 x.hold, .bool x.shut, .slice A4 x.inn.length c4, .slice A5 x.out.length c5, .int .i64 x.st, .int .i64 x.done]) (by simp [results, Try.results58, go_sem, z0, z1, z2, z3, z4, z5, z6, z7]) rfl ?_
    rw [HP.out]
    refine ⟨_, ?fp7, rfl, Rep.low skR (base := w.heap.size + 1 + 1 + 1) ?own7 (by omega), ?low7⟩
    case low7 =>
      repeat (refine Below.setCell ?_ (by first | (simp; done) | (simp; omega)) _)
      exact hfin
    case own7 =>
      repeat (refine Rep.setLow ?_ (by first | (simp; done) | (simp; omega)) _)
      exact hown
  · go_upto_region 3 with (fail)
    replace hO := hO.later (Later.drew W3)
    refine wp_region_open 6 (fun w' => w'.heap[w.heap.size + 1]? = some (.cells (frC f).toArray 33 (0, 0)) ∧ w'.heap[G]? = some (.cells #[.int .i64 x.id, .int .i64 x.kind, .int .i64 x.hold, .bool x.shut, .slice A4 x.inn.length c4, .slice A5 x.out.length c5, .int .i64 x.st, .int .i64 x.done] 25 (0, 0))) (by kernel_rfl) ?_
    generalize W3.drew = W3 at hO ⊢
    refine wpAnyL_readsG [0, 1, 2] (fuel := 4) (by kernel_rfl) ⟨(F.later hO.below).out.2.1.2, hO.box⟩ ?_
    refine LexRG.yes rfl (by first | rfl | (simp [Region.wanted, yielded]; done)) ?_ (fun w' hw => ?_) ?_
    rotate_left
    focus (skip; clear hw; go_simp; (try exact rfl))
    try go_frame
    refine LexRG.yes rfl (by first | rfl | (simp [Region.wanted, yielded]; done)) ?_ (fun w' hw => ?_) ?_
    rotate_left
    focus (have g5 := var_cell hw.2 5; clear hw; go_simp; (try exact rfl))
    try go_frame
    refine LexRG.yes rfl (by first | rfl | (simp [Region.wanted, yielded]; done)) ?_ (fun w' hw => ?_) ?_
    rotate_left
    focus (obtain ⟨f0, f1, f2⟩ := fr_box hw.1; clear hw; go_simp; (try exact rfl))
    try go_frame
    refine LexRG.nil ?_
    refine wpAnyL_one (i := 3) (by kernel_rfl) ?_
    refine lexA_get rfl ?_
    try go_frame
    go_wp2_with fail
    refine (putFrameS_any f W3 hfs).mono ?_
    rintro e W4 ⟨v, rfl, oP, hb⟩
    rw [HPF.out] at oP
    obtain ⟨AP, cP, rfl, _, _, hrP, _⟩ := oP.shape
    replace hO := hO.later hb
    clear hb oP
    go_wp2_with fail
    refine ⟨fun _ => ⟨(F.later hO.below).out.2.1.2, hO.box⟩, ?_⟩
    refine wpAnyL_one (i := 4) (by kernel_rfl) ?_
    refine lexA_get rfl ?_
    try go_frame
    go_wp2_with (first
      | (at_builtin
         refine wpList_append_any _ rfl (.tmp 11) (.tmp 13) _ rfl W0.heap.size 5 i0 _ 1 1 Try.underlying22 hi0 hz0 hz1 hz2 rfl (by omega) (.slice A5 x.out.length c5) x.out.length (bys x.out) rfl hO.out W4.heap.size AP P.length cP (bys P) rfl hrP (bys_one P) (by simp only [maxLen]; omega) (by omega) hO.below.size ?_
         intro v3 w3 hown3 hg3 hat3
         refine Halt.go ?_)
      | fail)
    have hl3 : Owns w3 W0.heap.size 5 v3 (x.out ++ P) := by unfold Owns; rw [bys_append, List.length_append]; exact hown3
    have hbx := ((hg3.block G hO.lt (fun e => hO.n5 e.symm))).trans hO.box
    have hlow3 : Below W0.heap.size W0 w3 := hO.below.grown hg3 hO.below.size (fun k hk => (hO.out.lt k hk).1)
    have hfx := (F.later hlow3).out.2.1.2
    have hK := hO.grown5 hg3 hl3 (by rcases hat3 with e | e; exact .inl e; exact .inr (.inl e))
    have hS3 : G < w3.heap.size := Nat.lt_of_lt_of_le hO.lt hg3.size
    obtain ⟨A3, c3, rfl, _⟩ := hl3.shape
    clear hown3 hg3 hat3 hl3 hrP hO hlow3
    refine Halt.mk ?_
    go_wp2_with fail
    refine ⟨?_, ?_⟩
    · first | exact ⟨hfx, hbx⟩ | exact fun _ => ⟨hfx, hbx⟩
    have y5 := var_cell hbx 5
    have t5 := var_frozen hbx 5
    refine wpAnyL_writes [5, 6] (by kernel_rfl) (LexW.cons rfl ?_)
    try go_frame
    go_wp2_with fail
    refine ⟨?_, LexW.cons rfl ?_⟩
    · first | exact ⟨hfx, hbx⟩ | exact fun _ => ⟨hfx, hbx⟩
    try go_frame
    go_wp2_with fail
    refine ⟨fun h => absurd rfl h, LexW.nil ?_⟩
    try go_frame
    clear y5 t5 hbx hfx
    rw [List.length_append] at hK
    generalize (w3.setCell ⟨G, 5, none⟩ (.slice A3 (x.out.length + P.length) c3)) = W6 at hK ⊢
    have HP : Hid (tellP x f = { x with out := x.out ++ P }) := Lib.hid (by unfold tellP; rw [if_pos HY.out, HPF.out])
    have hZ := (F.later hK.below).out.2.2
    have hown := Rep.low skR hK.own hsz
    have hfin := (F.later hK.below).out.1
    have hl9 := (Array.getElem?_eq_some_iff.1 hZ).1
    have hlG := hK.lt
    have z0 := var_cell hZ 0
    have zf0 := var_frozen hZ 0
    have b0 := var_cell hK.box 0
    have z1 := var_cell hZ 1
    have zf1 := var_frozen hZ 1
    have b1 := var_cell hK.box 1
    have z2 := var_cell hZ 2
    have zf2 := var_frozen hZ 2
    have b2 := var_cell hK.box 2
    have z3 := var_cell hZ 3
    have zf3 := var_frozen hZ 3
    have b3 := var_cell hK.box 3
    have z4 := var_cell hZ 4
    have zf4 := var_frozen hZ 4
    have b4 := var_cell hK.box 4
    have z5 := var_cell hZ 5
    have zf5 := var_frozen hZ 5
    have b5 := var_cell hK.box 5
    have z6 := var_cell hZ 6
    have zf6 := var_frozen hZ 6
    have b6 := var_cell hK.box 6
    have z7 := var_cell hZ 7
    have zf7 := var_frozen hZ 7
    have b7 := var_cell hK.box 7
    clear F hK
    go_wp2_with fail
    refine bodyPost_ret (v := .agg #[.int .i64 x.id, .int .i64 x.kind, .int .i64 x.hold, .bool x.shut, .slice A4 x.inn.length c4, .slice A3 (x.out.length + P.length) c3, .int .i64 x.st, .int .i64 x.done]) (by simp [results, Try.results58, go_sem, z0, z1, z2, z3, z4, z5, z6, z7]) rfl ?_
    rw [HP.out]
    refine ⟨_, ?fp8, rfl, Rep.low skR (base := w.heap.size + 1 + 1 + 1) ?own8 (by omega), ?low8⟩
    case low8 =>
      repeat (refine Below.setCell ?_ (by first | (simp; done) | (simp; omega)) _)
      exact hfin
    case own8 =>
      repeat (refine Rep.setLow ?_ (by first | (simp; done) | (simp; omega)) _)
      exact hown

end Go.Proofs.Ytcelkmphdeaaeaa
