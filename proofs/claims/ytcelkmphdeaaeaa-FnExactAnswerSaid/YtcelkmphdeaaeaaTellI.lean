/- The program's Tell, Eat, Peek. (By gen_l8i.py.) -/
import Derived.Test.YtcelkmphdeaaeaaHearI
namespace Go.Proofs.Ytcelkmphdeaaeaa
open Go.RowKit
set_option maxRecDepth 100000
set_option linter.unusedVariables false

/-- 'l[lo:]' of bytes of the call's own: a window. -/
theorem win_drop {w : World} {base lo c : Nat} {A : Option Addr} {l : List UInt8} (h : Owns w base 5 (.slice A l.length c) l) (hlo : lo ≤ l.length) :
    ∃ A', (∀ w, (Instr.slice 22 (.slice A l.length c) (some (.int .i64 (lo : Int))) none none).run Try.prog w = .ok (.slice A' (l.drop lo).length (c - lo)) w) ∧
      (∀ W, Owns W base 5 (.slice A l.length c) l → Win W base 5 (.slice A' (l.drop lo).length (c - lo)) (l.drop lo)) ∧ (Value.slice A' (l.drop lo).length (c - lo)).ownBlock = (Value.slice A l.length c).ownBlock := by
  obtain ⟨i0, hi0, hz0, hz1, hz2⟩ := info_parts Try.info8
  obtain ⟨A1, c1, h1, hc, hm, _, _⟩ := h.shape
  injection h1 with e1 e2 e3
  subst e1 e3
  have hd : l.length - lo = (l.drop lo).length := List.length_drop.symm
  refine ⟨if c = lo then A else A.map (·.add lo), fun w => ?_, fun W hW => ?_, ?_⟩
  · have a3 : (0 : Int) ≤ lo := by omega
    have hz := sizeOf_run (P := Try.prog) (e := 5) w hi0
    rw [← hd]
    simp [Instr.slice, run_underlying Try.underlying22, Instr.sliceBounds, Instr.sliceBound, asIntOf, hlo, hz, hz1, go_sem]
  · rcases id hW.2 with ⟨hv, h0⟩ | ⟨g, cap, cur, hv, _⟩
    · injection hv with hv
      subst hv
      have hl : l.drop lo = [] := List.eq_nil_of_length_eq_zero (by omega)
      exact ⟨none, c - lo, by simp, by omega, by omega, .inl ⟨rfl, hl⟩⟩
    · injection hv with hv _ hcc
      subst hv hcc
      by_cases he : c = lo
      · rw [if_pos he]
        exact Win.cut (off := 0) hW (by omega) (by omega) (by omega) (fun j u hu => by have := (List.getElem?_eq_some_iff.1 hu).1; rw [bys_length] at this; omega)
      · rw [if_neg he]
        have ha : (Option.map (fun x => Addr.add x lo) (some (⟨g, 0, none⟩ : Addr))) = some ⟨g, lo, none⟩ := by simp [Addr.add]; intro h; omega
        rw [ha]
        exact Win.cut (off := lo) hW (by omega) (by omega) (by omega) (fun j u hu => by
          have : bys (l.drop lo) = (bys l).drop lo := by simp [bys, List.map_drop]
          rw [this, List.getElem?_drop] at hu
          exact hu)
  · cases A with
    | none => split <;> rfl
    | some a => split <;> simp [Value.ownBlock, block_of_add]


set_option maxHeartbeats 8000000 in
theorem tell_any (cs : List Value) (x : Sk) (f : Fr) (w : World) (h : skR.at_ w w.heap.size cs x) (hs : RoomSk x) (hfs : f.s.size ≤ 1048576) :
    Calls Try.prog 34 #[.agg cs.toArray, .agg (frC f).toArray] w (RetSk1 w (tellP x f)) := by
  obtain ⟨B4, e4, B5, e5, rfl, hc4, hr4, hc5, hr5⟩ := sk_cells h
  have F : All (fun w' => Below w.heap.size w w' ∧ (w'.heap[w.heap.size]? = some (.cells #[.int .i64 x.id, .int .i64 x.kind, .int .i64 x.hold, .bool x.shut, .slice B4 x.inn.length e4, .slice B5 x.out.length e5, .int .i64 x.st, .int .i64 x.done] 25 (0, 0)) ∧ w'.heap[w.heap.size + 1]? = some (.cells (frC f).toArray 33 (0, 0))) ∧ w'.heap[w.heap.size + 1 + 1]? = some (.cells #[.int .i64 0, .int .i64 0, .int .i64 0, .bool false, .slice none 0 0, .slice none 0 0, .int .i64 0, .int .i64 0] 25 (0, 0))) (((w.alloc (.cells #[.int .i64 x.id, .int .i64 x.kind, .int .i64 x.hold, .bool x.shut, .slice B4 x.inn.length e4, .slice B5 x.out.length e5, .int .i64 x.st, .int .i64 x.done] 25)).alloc (.cells (frC f).toArray 33)).alloc (.cells #[.int .i64 0, .int .i64 0, .int .i64 0, .bool false, .slice none 0 0, .slice none 0 0, .int .i64 0, .int .i64 0] 25)) := ⟨Later.trans (Later.trans (Later.alloc w _) (Later.alloc _ _)) (Later.alloc _ _), ⟨(Below.heap_alloc _ _ _ (by simp; omega)).trans ((Below.heap_alloc _ _ _ (by simp)).trans (heap_alloc_new w _)), (Below.heap_alloc _ _ _ (by simp)).trans (heap_alloc_new' _ _ (by simp))⟩, heap_alloc_new' _ _ (by simp)⟩
  have hsz1 : w.heap.size + 1 + 1 + 1 = (((w.alloc (.cells #[.int .i64 x.id, .int .i64 x.kind, .int .i64 x.hold, .bool x.shut, .slice B4 x.inn.length e4, .slice B5 x.out.length e5, .int .i64 x.st, .int .i64 x.done] 25)).alloc (.cells (frC f).toArray 33)).alloc (.cells #[.int .i64 0, .int .i64 0, .int .i64 0, .bool false, .slice none 0 0, .slice none 0 0, .int .i64 0, .int .i64 0] 25)).heap.size := by simp
  have H0 := Lib.hid h
  clear h hr4 hr5 hc4 hc5
  obtain ⟨y, hy⟩ : ∃ y, skB x = y := ⟨_, rfl⟩
  have HY := Lib.hid hy
  clear hy
  unfold frC
  go_enter Try.func34, Try.ntmps34
  go_wp2_with fail
  replace F : All _ (((w.alloc (.cells #[.int .i64 x.id, .int .i64 x.kind, .int .i64 x.hold, .bool x.shut, .slice B4 x.inn.length e4, .slice B5 x.out.length e5, .int .i64 x.st, .int .i64 x.done] 25)).alloc (.cells #[.int .i64 f.k, .string f.s, .int .i64 f.st] 33)).alloc (.cells #[.int .i64 0, .int .i64 0, .int .i64 0, .bool false, .slice none 0 0, .slice none 0 0, .int .i64 0, .int .i64 0] 25)) := F
  replace hsz1 : w.heap.size + 1 + 1 + 1 = (((w.alloc (.cells #[.int .i64 x.id, .int .i64 x.kind, .int .i64 x.hold, .bool x.shut, .slice B4 x.inn.length e4, .slice B5 x.out.length e5, .int .i64 x.st, .int .i64 x.done] 25)).alloc (.cells #[.int .i64 f.k, .string f.s, .int .i64 f.st] 33)).alloc (.cells #[.int .i64 0, .int .i64 0, .int .i64 0, .bool false, .slice none 0 0, .slice none 0 0, .int .i64 0, .int .i64 0] 25)).heap.size := hsz1
  generalize (((w.alloc (.cells #[.int .i64 x.id, .int .i64 x.kind, .int .i64 x.hold, .bool x.shut, .slice B4 x.inn.length e4, .slice B5 x.out.length e5, .int .i64 x.st, .int .i64 x.done] 25)).alloc (.cells #[.int .i64 f.k, .string f.s, .int .i64 f.st] 33)).alloc (.cells #[.int .i64 0, .int .i64 0, .int .i64 0, .bool false, .slice none 0 0, .slice none 0 0, .int .i64 0, .int .i64 0] 25)) = W0 at F hsz1 ⊢
  have hat : ∀ W, Below w.heap.size w W → skR.at_ W W.heap.size [.int .i64 x.id, .int .i64 x.kind, .int .i64 x.hold, .bool x.shut, .slice B4 x.inn.length e4, .slice B5 x.out.length e5, .int .i64 x.st, .int .i64 x.done] x := fun W hb => Rep.more skR (Rep.at_below H0.out hb) hb.size
  have HAT := Lib.hid hat
  clear hat
  refine (socketOf_any [.int .i64 x.id, .int .i64 x.kind, .int .i64 x.hold, .bool x.shut, .slice B4 x.inn.length e4, .slice B5 x.out.length e5, .int .i64 x.st, .int .i64 x.done] x W0 (HAT.out _ F.out.1) hs).mono ?_
  rintro e1 W1 ⟨S, v4, v5, o5, d7, rfl, hK⟩
  have hsz : w.heap.size + 1 + 1 + 1 ≤ W0.heap.size := by omega
  have q0 := var_cell (F.later hK.below).out.2.1.1 0
  have q1 := var_cell (F.later hK.below).out.2.1.1 1
  have q2 := var_cell (F.later hK.below).out.2.1.1 2
  have q3 := var_cell (F.later hK.below).out.2.1.1 3
  have q4 := var_cell (F.later hK.below).out.2.1.1 4
  have q5 := var_cell (F.later hK.below).out.2.1.1 5
  have q6 := var_cell (F.later hK.below).out.2.1.1 6
  have q7 := var_cell (F.later hK.below).out.2.1.1 7
  go_wp2_with fail
  refine (sockOk_any [.int .i64 x.id, .int .i64 x.kind, .int .i64 x.hold, .bool x.shut, .slice B4 x.inn.length e4, .slice B5 x.out.length e5, .int .i64 x.st, .int .i64 x.done] x W1 (HAT.out _ (F.later hK.below).out.1)).mono ?_
  rw [HY.out]
  rintro e1 W2 ⟨rfl, hb⟩
  replace hK := hK.later hb
  clear q0 q1 q2 q3 q4 q5 q6 q7 hb
  cases y
  · skip
    have HP : Hid (tellP x f = x) := Lib.hid (by unfold tellP; rw [HY.out]; simp)
    have hbx := hK.box
    have hown0 := hK.own
    have hlow0 := hK.below
    obtain ⟨A4, c4, A5, c5, B9, m9, e9, rfl, rfl, rfl, _, _⟩ := hK.slices
    clear hK
    have hfin := (F.later hlow0).out.1
    go_wp2_with fail
    refine (sock_any S x A4 A5 B9 _ c4 _ c5 m9 e9 d7 W2 hbx).mono ?_
    rintro e W9 ⟨rfl, hb9⟩
    have hZ := (hb9.block _ (Array.getElem?_eq_some_iff.1 (F.later hlow0).out.2.2).1).trans (F.later hlow0).out.2.2
    have hown := Rep.own_below (Rep.low skR hown0 hsz) hb9
    replace hfin : Below w.heap.size w W9 := Later.trans hfin hb9
    clear hb9 hbx hown0 hlow0 F
    have hl9 := (Array.getElem?_eq_some_iff.1 hZ).1
    have z0 := var_cell hZ 0
    have zf0 := var_frozen hZ 0
    have z1 := var_cell hZ 1
    have zf1 := var_frozen hZ 1
    have z2 := var_cell hZ 2
    have zf2 := var_frozen hZ 2
    have z3 := var_cell hZ 3
    have zf3 := var_frozen hZ 3
    have z4 := var_cell hZ 4
    have zf4 := var_frozen hZ 4
    have z5 := var_cell hZ 5
    have zf5 := var_frozen hZ 5
    have z6 := var_cell hZ 6
    have zf6 := var_frozen hZ 6
    have z7 := var_cell hZ 7
    have zf7 := var_frozen hZ 7
    go_wp2_with fail
    refine bodyPost_ret (v := .agg #[.int .i64 x.id, .int .i64 x.kind, .int .i64 x.hold, .bool x.shut, .slice A4 x.inn.length c4, .slice A5 x.out.length c5, .int .i64 x.st, .int .i64 x.done]) (by simp [results, Try.results34, go_sem, z0, z1, z2, z3, z4, z5, z6, z7]) rfl ?_
    rw [HP.out]
    refine ⟨_, ?fp5, rfl, Rep.low skR (base := w.heap.size + 1 + 1 + 1) ?own5 (by omega), ?low5⟩
    case low5 =>
      repeat (refine Below.setCell ?_ (by first | (simp; done) | (simp; omega)) _)
      exact hfin
    case own5 =>
      repeat (refine Rep.setLow ?_ (by first | (simp; done) | (simp; omega)) _)
      exact hown
  · go_upto_region 3 with (fail)
    replace hK := hK.later (Later.drew W2)
    refine wp_region_open 100 (fun w' => w'.heap[w.heap.size + 1]? = some (.cells (frC f).toArray 33 (0, 0))) (by kernel_rfl) ?_
    generalize W2.drew = W2 at hK ⊢
    refine wpAnyL_readsG [0, 1, 2, 3] (fuel := 1) (by kernel_rfl) (F.later hK.below).out.2.1.2 ?_
    refine LexRG.yes rfl (by first | rfl | (simp [Region.wanted, yielded]; done)) ?_ (fun w' hw => ?_) ?_
    rotate_left
    focus (skip; clear hw; go_simp; (try exact rfl))
    try go_frame
    refine LexRG.yes rfl (by first | rfl | (simp [Region.wanted, yielded]; done)) ?_ (fun w' hw => ?_) ?_
    rotate_left
    focus (skip; clear hw; go_simp; (try exact rfl))
    try go_frame
    refine LexRG.yes rfl (by first | rfl | (simp [Region.wanted, yielded]; done)) ?_ (fun w' hw => ?_) ?_
    rotate_left
    focus (skip; clear hw; go_simp; (try exact rfl))
    try go_frame
    refine LexRG.yes rfl (by first | rfl | (simp [Region.wanted, yielded]; done)) ?_ (fun w' hw => ?_) ?_
    rotate_left
    focus (obtain ⟨f0, f1, f2⟩ := fr_box hw; clear hw; go_simp; (try exact rfl))
    try go_frame
    refine LexRG.nil ?_
    refine wpAnyL_writes [4] (by kernel_rfl) (LexW.cons rfl ?_)
    try go_frame
    go_wp2_with fail
    refine (send_any f W2 hK (by have := hs.2; omega) hfs).mono ?_
    rintro e1 W3 ⟨rfl, v5', hK⟩
    go_wp2_with fail
    refine ⟨fun _ => (F.later hK.below).out.2.1.2, LexW.nil ?_⟩
    try go_frame
    have HP : Hid (tellP x f = { x with out := x.out ++ putF f }) := Lib.hid (by unfold tellP; rw [if_pos HY.out])
    have hbx := hK.box
    have hown0 := hK.own
    have hlow0 := hK.below
    obtain ⟨A4, c4, A5, c5, B9, m9, e9, rfl, rfl, rfl, _, _⟩ := hK.slices
    clear hK
    have hfin := (F.later hlow0).out.1
    go_wp2_with fail
    refine (sock_any S { x with out := x.out ++ putF f } A4 A5 B9 _ c4 _ c5 m9 e9 d7 W3 hbx).mono ?_
    rintro e W9 ⟨rfl, hb9⟩
    have hZ := (hb9.block _ (Array.getElem?_eq_some_iff.1 (F.later hlow0).out.2.2).1).trans (F.later hlow0).out.2.2
    have hown := Rep.own_below (Rep.low skR hown0 hsz) hb9
    replace hfin : Below w.heap.size w W9 := Later.trans hfin hb9
    clear hb9 hbx hown0 hlow0 F
    have hl9 := (Array.getElem?_eq_some_iff.1 hZ).1
    have z0 := var_cell hZ 0
    have zf0 := var_frozen hZ 0
    have z1 := var_cell hZ 1
    have zf1 := var_frozen hZ 1
    have z2 := var_cell hZ 2
    have zf2 := var_frozen hZ 2
    have z3 := var_cell hZ 3
    have zf3 := var_frozen hZ 3
    have z4 := var_cell hZ 4
    have zf4 := var_frozen hZ 4
    have z5 := var_cell hZ 5
    have zf5 := var_frozen hZ 5
    have z6 := var_cell hZ 6
    have zf6 := var_frozen hZ 6
    have z7 := var_cell hZ 7
    have zf7 := var_frozen hZ 7
    go_wp2_with fail
    refine bodyPost_ret (v := .agg #[.int .i64 x.id, .int .i64 x.kind, .int .i64 x.hold, .bool x.shut, .slice A4 x.inn.length c4, .slice A5 (x.out ++ putF f).length c5, .int .i64 x.st, .int .i64 x.done]) (by simp [results, Try.results34, go_sem, z0, z1, z2, z3, z4, z5, z6, z7]) rfl ?_
    rw [HP.out]
    refine ⟨_, ?fp6, rfl, Rep.low skR (base := w.heap.size + 1 + 1 + 1) ?own6 (by omega), ?low6⟩
    case low6 =>
      repeat (refine Below.setCell ?_ (by first | (simp; done) | (simp; omega)) _)
      exact hfin
    case own6 =>
      repeat (refine Rep.setLow ?_ (by first | (simp; done) | (simp; omega)) _)
      exact hown

set_option maxHeartbeats 8000000 in
theorem eat_any (cs : List Value) (x : Sk) (w : World) (h : skR.at_ w w.heap.size cs x) (hs : RoomSk x) :
    Calls Try.prog 19 #[.agg cs.toArray] w (RetSk1 w (eatP x)) := by
  obtain ⟨B4, e4, B5, e5, rfl, hc4, hr4, hc5, hr5⟩ := sk_cells h
  have F : All (fun w' => Below w.heap.size w w' ∧ (w'.heap[w.heap.size]? = some (.cells #[.int .i64 x.id, .int .i64 x.kind, .int .i64 x.hold, .bool x.shut, .slice B4 x.inn.length e4, .slice B5 x.out.length e5, .int .i64 x.st, .int .i64 x.done] 25 (0, 0))) ∧ w'.heap[w.heap.size + 1]? = some (.cells #[.int .i64 0, .int .i64 0, .int .i64 0, .bool false, .slice none 0 0, .slice none 0 0, .int .i64 0, .int .i64 0] 25 (0, 0))) ((w.alloc (.cells #[.int .i64 x.id, .int .i64 x.kind, .int .i64 x.hold, .bool x.shut, .slice B4 x.inn.length e4, .slice B5 x.out.length e5, .int .i64 x.st, .int .i64 x.done] 25)).alloc (.cells #[.int .i64 0, .int .i64 0, .int .i64 0, .bool false, .slice none 0 0, .slice none 0 0, .int .i64 0, .int .i64 0] 25)) := ⟨Later.trans (Later.alloc w _) (Later.alloc _ _), (Below.heap_alloc _ _ _ (by simp)).trans (heap_alloc_new w _), heap_alloc_new' _ _ (by simp)⟩
  have hsz1 : w.heap.size + 1 + 1 = ((w.alloc (.cells #[.int .i64 x.id, .int .i64 x.kind, .int .i64 x.hold, .bool x.shut, .slice B4 x.inn.length e4, .slice B5 x.out.length e5, .int .i64 x.st, .int .i64 x.done] 25)).alloc (.cells #[.int .i64 0, .int .i64 0, .int .i64 0, .bool false, .slice none 0 0, .slice none 0 0, .int .i64 0, .int .i64 0] 25)).heap.size := by simp
  have HR := Lib.hid hr4
  have H0 := Lib.hid h
  have hcap := hc4.1
  have HI := Lib.hid hs.1
  obtain ⟨hn1, hn2⟩ := eatN_le x.inn
  obtain ⟨n, hn⟩ : ∃ n, eatN x.inn = n := ⟨_, rfl⟩
  rw [hn] at hn1 hn2
  obtain ⟨⟨⟨fk, fs, fst⟩, fn, fc⟩, hp⟩ : ∃ p, getF x.inn = p := ⟨_, rfl⟩
  rw [hp] at hn2
  replace hn2 : fn = (n : Int) := hn2
  subst hn2
  have HP := Lib.hid (show eatP x = { x with inn := x.inn.drop n } by unfold eatP; rw [hn])
  have HG := Lib.hid hp
  have HN := Lib.hid hn1
  clear h hr4 hr5 hc4 hc5 hn hp hn1
  go_enter Try.func19, Try.ntmps19
  go_wp2_with fail
  generalize ((w.alloc (.cells #[.int .i64 x.id, .int .i64 x.kind, .int .i64 x.hold, .bool x.shut, .slice B4 x.inn.length e4, .slice B5 x.out.length e5, .int .i64 x.st, .int .i64 x.done] 25)).alloc (.cells #[.int .i64 0, .int .i64 0, .int .i64 0, .bool false, .slice none 0 0, .slice none 0 0, .int .i64 0, .int .i64 0] 25)) = W0 at F hsz1 ⊢
  have hat : ∀ W, Below w.heap.size w W → skR.at_ W W.heap.size [.int .i64 x.id, .int .i64 x.kind, .int .i64 x.hold, .bool x.shut, .slice B4 x.inn.length e4, .slice B5 x.out.length e5, .int .i64 x.st, .int .i64 x.done] x := fun W hb => Rep.more skR (Rep.at_below H0.out hb) hb.size
  have HAT := Lib.hid hat
  clear hat
  refine (socketOf_any [.int .i64 x.id, .int .i64 x.kind, .int .i64 x.hold, .bool x.shut, .slice B4 x.inn.length e4, .slice B5 x.out.length e5, .int .i64 x.st, .int .i64 x.done] x W0 (HAT.out _ F.out.1) hs).mono ?_
  rintro e1 W1 ⟨S, v4, v5, o5, d7, rfl, hK⟩
  have hsz : w.heap.size + 1 + 1 ≤ W0.heap.size := by omega
  have q4 := var_cell (F.later hK.below).out.2.1 4
  go_wp2_with fail
  refine (getFrame_any B4 e4 x.inn W1 ((HR.out.below (F.later hK.below).out.1).more (F.later hK.below).out.1.size) (by have := HI.out; omega) hcap).mono ?_
  rw [HG.out]
  rintro e1 W2 ⟨rfl, hb⟩
  replace hK := hK.later hb
  clear q4 hb
  unfold frC
  go_upto_region 3 with (fail)
  replace hK := hK.later (Later.alloc W2 (.cells #[.int .i64 fk, .string fs, .int .i64 fst] 33))
  generalize W2.alloc (.cells #[.int .i64 fk, .string fs, .int .i64 fst] 33) = W3 at hK ⊢
  obtain ⟨A4, c4, A5, c5, B9, m9, e9, rfl, rfl, rfl, hc4, hc5⟩ := hK.slices
  obtain ⟨A', rs, cut, ob⟩ := win_drop hK.inn HN.out
  have HW := Lib.hid (cut W3 hK.inn)
  have HOB := Lib.hid ob
  obtain ⟨m, hm⟩ : ∃ m, x.inn.drop n = m := ⟨_, rfl⟩
  rw [hm] at rs HW HOB HP
  obtain ⟨c', hc'⟩ : ∃ c', c4 - n = c' := ⟨_, rfl⟩
  rw [hc'] at rs HW HOB
  clear hm hc' cut ob
  have k6 := var_cell hK.box 6
  have kf := var_frozen hK.box 6
  have hS := hK.lt
  go_upto_region 4 with (fail)
  clear rs k6 kf
  have hbx := var_set hK.box 6 (.slice A' m.length c')
  have ho' := Rep.Only.setCell W3 (p := ⟨S, 6, none⟩) (fp := [S]) (by simp) (.slice A' m.length c')
  have hin : Win (W3.setCell ⟨S, 6, none⟩ (.slice A' m.length c')) W0.heap.size 5 (.slice A' m.length c') m := HW.out.block fun g hg => ho'.block g (HW.out.lt g (by simpa using hg)).2 (fun e => hK.n4 (by rw [← HOB.out]; simp at e; subst e; simpa using hg))
  have hout : Owns (W3.setCell ⟨S, 6, none⟩ (.slice A' m.length c')) W0.heap.size 5 (.slice A5 x.out.length c5) x.out := Rep.ownsRow_block hK.out fun g hg => ho'.block g (hK.out.lt g (by simpa using hg)).2 (fun e => hK.n5 (by simp at e; subst e; simpa using hg))
  have hown0 := sk_ownW (x := { x with inn := m }) hin (Owns.win hout) (sk_apart2 fun k h1 h2 => hK.ap k (by rw [← HOB.out]; exact h1) h2)
  have hlow0 : Below W0.heap.size W0 (W3.setCell ⟨S, 6, none⟩ (.slice A' m.length c')) := hK.below.setCell (p := ⟨S, 6, none⟩) hK.lo _
  clear hin hout HW HOB ho' hK
  generalize (W3.setCell ⟨S, 6, none⟩ (.slice A' m.length c')) = W4 at hbx hown0 hlow0 ⊢
  have hfin := (F.later hlow0).out.1
  go_wp2_with fail
  refine (sock_any S { x with inn := m } A' A5 B9 _ c' _ c5 m9 e9 d7 W4 hbx).mono ?_
  rintro e W9 ⟨rfl, hb9⟩
  have hZ := (hb9.block _ (Array.getElem?_eq_some_iff.1 (F.later hlow0).out.2.2).1).trans (F.later hlow0).out.2.2
  have hown := Rep.own_below (Rep.low skR hown0 hsz) hb9
  replace hfin : Below w.heap.size w W9 := Later.trans hfin hb9
  clear hb9 hbx hown0 hlow0 F
  have hl9 := (Array.getElem?_eq_some_iff.1 hZ).1
  have z0 := var_cell hZ 0
  have zf0 := var_frozen hZ 0
  have z1 := var_cell hZ 1
  have zf1 := var_frozen hZ 1
  have z2 := var_cell hZ 2
  have zf2 := var_frozen hZ 2
  have z3 := var_cell hZ 3
  have zf3 := var_frozen hZ 3
  have z4 := var_cell hZ 4
  have zf4 := var_frozen hZ 4
  have z5 := var_cell hZ 5
  have zf5 := var_frozen hZ 5
  have z6 := var_cell hZ 6
  have zf6 := var_frozen hZ 6
  have z7 := var_cell hZ 7
  have zf7 := var_frozen hZ 7
  go_wp2_with fail
  refine bodyPost_ret (v := .agg #[.int .i64 x.id, .int .i64 x.kind, .int .i64 x.hold, .bool x.shut, .slice A' m.length c', .slice A5 x.out.length c5, .int .i64 x.st, .int .i64 x.done]) (by simp [results, Try.results19, go_sem, z0, z1, z2, z3, z4, z5, z6, z7]) rfl ?_
  rw [HP.out]
  refine ⟨_, ?fp7, rfl, Rep.low skR (base := w.heap.size + 1 + 1) ?own7 (by omega), ?low7⟩
  case low7 =>
    repeat (refine Below.setCell ?_ (by first | (simp; done) | (simp; omega)) _)
    exact hfin
  case own7 =>
    repeat (refine Rep.setLow ?_ (by first | (simp; done) | (simp; omega)) _)
    exact hown

end Go.Proofs.Ytcelkmphdeaaeaa
