/- The walk of the exact law of Apply. -/
import Derived.Test.YtdapnhahccpebaaDoorApplyI
import Derived.Test.YtdapnhahccpebaaDoorFnExactKnownOk
import Derived.Test.YtdapnhahccpebaaDoorFnExactRecOk
namespace Go.Proofs.YtdapnhahccpebaaDoor
open Go.RowKit
set_option maxRecDepth 100000
set_option linter.unusedVariables false

instance Keeps.boxed (g : Nat) (o : Obj) : Keeps (fun w => g < w.heap.size ∧ Hid (w.heap[g]? = some o)) := inferInstance

set_option maxRecDepth 100000 in
set_option maxHeartbeats 40000000 in
theorem walk_FnExactApply (w : World) (cs0 : List Value) (x0 : Known) (w0 : knownR.at_ w w.heap.size cs0 x0) (k0 : OkKnown x0) (cs1 : List Value) (x1 : Rec) (w1 : recR.at_ w w.heap.size cs1 x1) (k1 : OkRec x1) (hg : Given w) :
    Calls Tryd.prog 10 #[.agg cs0.toArray, .agg cs1.toArray] w fun e w' => e = .returned (.bool true) ∧ Below w.heap.size w w' := by
  obtain rfl := known_cells w0
  obtain rfl := rec_cells w1
  have S : All (fun w' => Below w.heap.size w w' ∧ Given w' ∧ Hid (w'.heap[w.heap.size]? = some (.cells (knownC x0).toArray 65 (0, 0))) ∧ Hid (w'.heap[w.heap.size + 1]? = some (.cells (recC x1).toArray 53 (0, 0)))) ((w.alloc (.cells #[.int .i64 x0.gen, .string x0.text, .int .i64 x0.pGen, .string x0.pText, .int .i64 x0.epoch, .int .i64 x0.owner] 65)).alloc (.cells #[.int .i64 x1.kind, .int .i64 x1.n, .int .i64 x1.owner, .string x1.text] 53)) := by
    have hb : Below w.heap.size w ((w.alloc (.cells #[.int .i64 x0.gen, .string x0.text, .int .i64 x0.pGen, .string x0.pText, .int .i64 x0.epoch, .int .i64 x0.owner] 65)).alloc (.cells #[.int .i64 x1.kind, .int .i64 x1.n, .int .i64 x1.owner, .string x1.text] 53)) := ((Below.refl _ _).alloc (Nat.le_refl _) _).alloc (by simp) _
    refine ⟨hb, Keeps.keeps (F := Given) hb hg, Lib.hid ?_, Lib.hid ?_⟩
    · rw [Below.heap_alloc _ _ _ (by simp)]; exact heap_alloc_new w _
    · exact heap_alloc_new' _ _ (by simp)
  clear w0 w1 hg
  obtain ⟨p, b, hp⟩ : ∃ p b, applyP x0 x1 = (p, b) := ⟨_, _, rfl⟩
  have HP := Lib.hid hp
  have hbb : (b != b) = false := by simp
  have hk := ok_known k0
  have hr := ok_rec k1
  clear hp k0 k1
  show Calls Tryd.prog 10 #[.agg #[.int .i64 x0.gen, .string x0.text, .int .i64 x0.pGen, .string x0.pText, .int .i64 x0.epoch, .int .i64 x0.owner], .agg #[.int .i64 x1.kind, .int .i64 x1.n, .int .i64 x1.owner, .string x1.text]] w _
  go_enter Tryd.func10, Tryd.ntmps10
  go_wp2_with fail
  generalize (w.alloc (.cells #[.int .i64 x0.gen, .string x0.text, .int .i64 x0.pGen, .string x0.pText, .int .i64 x0.epoch, .int .i64 x0.owner] 65)).alloc (.cells #[.int .i64 x1.kind, .int .i64 x1.n, .int .i64 x1.owner, .string x1.text] 53) = W at S ⊢
  refine (szKnown_room x0 1048576 W hk.1 hk.2 (by omega)).mono ?_
  rintro e W1 ⟨⟨z, hz, hf, rfl⟩ | rfl, hb⟩
  rotate_left
  · replace S := S.later hb
    clear hb
    go_wp2_with fail
    go_ret
    exact ⟨rfl, S.out.1⟩
  replace S := S.later hb
  clear hb
  obtain ⟨d0, d1, d2, d3⟩ := rec_box S.out.2.2.2.out
  go_wp2_with fail
  clear d0 d1 d2 d3
  refine (szRec_room x1 z W1 hr (by omega)).mono ?_
  rintro e W3 ⟨⟨z2, hz2, hf3, rfl⟩ | rfl, hb⟩
  rotate_left
  · replace S := S.later hb
    clear hb
    go_wp2_with fail
    go_ret
    exact ⟨rfl, S.out.1⟩
  replace S := S.later hb
  clear hb
  go_wp2_with fail
  refine wp_region_open 100 (fun w' => Below W3.heap.size W3 w') (by kernel_rfl) ?_
  have hb1 := Later.drew W3
  refine wpAnyL_reads [0, 2] (fuel := 9) (by kernel_rfl) hb1 ?_
  iterate 2 (refine LexR.cons rfl ?_ (fun w' hw => ?_) ?_; rotate_left; focus (have hS := S.later hw; obtain ⟨c0, c1, c2, c3, c4, c5⟩ := known_box hS.out.2.2.1.out; obtain ⟨d0, d1, d2, d3⟩ := rec_box hS.out.2.2.2.out; clear hS; go_simp; (try exact rfl)); (try go_frame))
  refine LexR.nil ?_
  replace hb1 : Below W3.heap.size W3 W3.drew := hb1
  generalize W3.drew = V2 at hb1 ⊢
  refine wpAnyL_two (i := 1) (j := 8) (by kernel_rfl) ?_ ?_
  · refine lexA_get rfl ?_
    try go_frame
    go_wp2_with fail
    refine (toKnown_any x0 _).mono ?_
    rintro e V3 ⟨rfl, hb4⟩
    replace hb4 : Below W3.heap.size W3 V3 := Later.trans hb1 hb4
    clear hb1
    go_wp2_with fail
    refine ⟨fun _ => hb4, ?_⟩
    refine wpAnyL_two (i := 3) (j := 8) (by kernel_rfl) ?_ ?_
    · refine lexA_get rfl ?_
      try go_frame
      go_wp2_with fail
      refine (toRec_any x1 _).mono ?_
      rintro e V5 ⟨rfl, hb6⟩
      replace hb6 : Below W3.heap.size W3 V5 := Later.trans hb4 hb6
      clear hb4
      go_wp2_with fail
      refine ⟨fun _ => hb6, ?_⟩
      refine wpAnyL_two (i := 4) (j := 8) (by kernel_rfl) ?_ ?_
      · refine lexA_get rfl ?_
        try go_frame
        go_wp2_with fail
        refine (applyS_any x0 x1 _).mono ?_
        rw [HP.out]
        rintro e V7 ⟨rfl, hb8⟩
        replace hb8 : Below W3.heap.size W3 V7 := Later.trans hb6 hb8
        clear hb6
        unfold knownC
        go_wp2_with fail
        refine ⟨fun _ => hb8, ?_⟩
        refine wpAnyL_reads [5, 6, 7] (fuel := 3) (by kernel_rfl) hb8 ?_
        iterate 3 (refine LexR.cons rfl ?_ (fun w' hw => ?_) ?_; rotate_left; focus (go_simp; (try exact rfl)); (try go_frame))
        refine LexR.nil ?_
        refine wpAnyL_one (i := 8) (by kernel_rfl) ?_
        refine lexA_get rfl ?_
        try go_frame
        go_wp2_with fail
        have hb12 := hb8.alloc hb8.size (.cells #[.int .i64 0, .string ⟨#[]⟩, .int .i64 0, .string ⟨#[]⟩, .int .i64 0, .int .i64 0] 39)
        have hG11 : V7.heap.size < (V7.alloc (.cells #[.int .i64 0, .string ⟨#[]⟩, .int .i64 0, .string ⟨#[]⟩, .int .i64 0, .int .i64 0] 39)).heap.size ∧ Hid ((V7.alloc (.cells #[.int .i64 0, .string ⟨#[]⟩, .int .i64 0, .string ⟨#[]⟩, .int .i64 0, .int .i64 0] 39)).heap[V7.heap.size]? = some (.cells #[.int .i64 0, .string ⟨#[]⟩, .int .i64 0, .string ⟨#[]⟩, .int .i64 0, .int .i64 0] 39 (0, 0))) := ⟨by simp, Lib.hid (heap_alloc_new V7 _)⟩
        have g9l := hb8.size
        refine ⟨fun _ => hb12, ?_⟩
        generalize V7.alloc (.cells #[.int .i64 0, .string ⟨#[]⟩, .int .i64 0, .string ⟨#[]⟩, .int .i64 0, .int .i64 0] 39) = V10 at hb12 hG11 ⊢
        generalize V7.heap.size = g9 at hG11 g9l ⊢
        clear hb8
        obtain ⟨g9h, g9v⟩ := hG11
        have g9b : V10.heap[g9]? = some (.cells (knownC knownZero).toArray 39 (0, 0)) := g9v.out
        obtain ⟨e0, e1, e2, e3, e4, e5⟩ := known_box g9b
        have f0 := fun i => var_frozen g9b i
        have hb14 : Below W3.heap.size W3 (World.setCell (World.setCell (World.setCell (World.setCell (World.setCell (World.setCell V10 ⟨g9, 0, none⟩ (.int .i64 p.gen)) ⟨g9, 1, none⟩ (.string p.text)) ⟨g9, 2, none⟩ (.int .i64 p.pGen)) ⟨g9, 3, none⟩ (.string p.pText)) ⟨g9, 4, none⟩ (.int .i64 p.epoch)) ⟨g9, 5, none⟩ (.int .i64 p.owner)) := ((((((hb12.setCell (p := ⟨g9, 0, none⟩) g9l (.int .i64 p.gen)).setCell (p := ⟨g9, 1, none⟩) g9l (.string p.text)).setCell (p := ⟨g9, 2, none⟩) g9l (.int .i64 p.pGen)).setCell (p := ⟨g9, 3, none⟩) g9l (.string p.pText)).setCell (p := ⟨g9, 4, none⟩) g9l (.int .i64 p.epoch)).setCell (p := ⟨g9, 5, none⟩) g9l (.int .i64 p.owner))
        have hv15 : (g9 < (World.setCell (World.setCell (World.setCell (World.setCell (World.setCell (World.setCell V10 ⟨g9, 0, none⟩ (.int .i64 p.gen)) ⟨g9, 1, none⟩ (.string p.text)) ⟨g9, 2, none⟩ (.int .i64 p.pGen)) ⟨g9, 3, none⟩ (.string p.pText)) ⟨g9, 4, none⟩ (.int .i64 p.epoch)) ⟨g9, 5, none⟩ (.int .i64 p.owner)).heap.size ∧ Hid ((World.setCell (World.setCell (World.setCell (World.setCell (World.setCell (World.setCell V10 ⟨g9, 0, none⟩ (.int .i64 p.gen)) ⟨g9, 1, none⟩ (.string p.text)) ⟨g9, 2, none⟩ (.int .i64 p.pGen)) ⟨g9, 3, none⟩ (.string p.pText)) ⟨g9, 4, none⟩ (.int .i64 p.epoch)) ⟨g9, 5, none⟩ (.int .i64 p.owner)).heap[g9]? = some (.cells (knownC p).toArray 39 (0, 0)))) := ⟨by simp; exact g9h, Lib.hid (var_set (var_set (var_set (var_set (var_set (var_set g9b 0 (.int .i64 p.gen)) 1 (.string p.text)) 2 (.int .i64 p.pGen)) 3 (.string p.pText)) 4 (.int .i64 p.epoch)) 5 (.int .i64 p.owner))⟩
        refine wpAnyL_one (i := 9) (by kernel_rfl) ?_
        refine lexA_get rfl ?_
        try go_frame
        go_wp2_with fail
        refine ⟨fun _ => hb14, ?_⟩
        clear e0 e1 e2 e3 e4 e5 f0 g9b g9v g9h g9l hb12
        generalize (World.setCell (World.setCell (World.setCell (World.setCell (World.setCell (World.setCell V10 ⟨g9, 0, none⟩ (.int .i64 p.gen)) ⟨g9, 1, none⟩ (.string p.text)) ⟨g9, 2, none⟩ (.int .i64 p.pGen)) ⟨g9, 3, none⟩ (.string p.pText)) ⟨g9, 4, none⟩ (.int .i64 p.epoch)) ⟨g9, 5, none⟩ (.int .i64 p.owner)) = X13 at hb14 hv15 ⊢
        refine wpAnyL_writes [10] (by kernel_rfl) (LexW.cons rfl ?_)
        try go_frame
        go_wp2_with fail
        refine ⟨fun _ => hb14, LexW.nil ?_⟩
        have S16q := (S.later hb14).out
        have S16 : All (fun w' => Below w.heap.size w w' ∧ Given w' ∧ Hid (w'.heap[w.heap.size]? = some (.cells (knownC x0).toArray 65 (0, 0))) ∧ Hid (w'.heap[w.heap.size + 1]? = some (.cells (recC x1).toArray 53 (0, 0))) ∧ (g9 < w'.heap.size ∧ Hid (w'.heap[g9]? = some (.cells (knownC p).toArray 39 (0, 0))))) X13 := ⟨S16q.1, S16q.2.1, S16q.2.2.1, S16q.2.2.2, hv15⟩
        clear S16q hb14 hv15
        go_wp2_with fail
        refine wp_region_open 100 (fun w' => Below X13.heap.size X13 w') (by kernel_rfl) ?_
        have hb17 := Later.drew X13
        refine wpAnyL_reads [0, 2] (fuel := 9) (by kernel_rfl) hb17 ?_
        iterate 2 (refine LexR.cons rfl ?_ (fun w' hw => ?_) ?_; rotate_left; focus (have hS := S16.later hw; obtain ⟨c0, c1, c2, c3, c4, c5⟩ := known_box hS.out.2.2.1.out; obtain ⟨d0, d1, d2, d3⟩ := rec_box hS.out.2.2.2.1.out; clear hS; go_simp; (try exact rfl)); (try go_frame))
        refine LexR.nil ?_
        replace hb17 : Below X13.heap.size X13 X13.drew := hb17
        generalize X13.drew = V18 at hb17 ⊢
        refine wpAnyL_two (i := 1) (j := 8) (by kernel_rfl) ?_ ?_
        · refine lexA_get rfl ?_
          try go_frame
          go_wp2_with fail
          refine (toKnown_any x0 _).mono ?_
          rintro e V19 ⟨rfl, hb20⟩
          replace hb20 : Below X13.heap.size X13 V19 := Later.trans hb17 hb20
          clear hb17
          go_wp2_with fail
          refine ⟨fun _ => hb20, ?_⟩
          refine wpAnyL_two (i := 3) (j := 8) (by kernel_rfl) ?_ ?_
          · refine lexA_get rfl ?_
            try go_frame
            go_wp2_with fail
            refine (toRec_any x1 _).mono ?_
            rintro e V21 ⟨rfl, hb22⟩
            replace hb22 : Below X13.heap.size X13 V21 := Later.trans hb20 hb22
            clear hb20
            go_wp2_with fail
            refine ⟨fun _ => hb22, ?_⟩
            refine wpAnyL_two (i := 4) (j := 8) (by kernel_rfl) ?_ ?_
            · refine lexA_get rfl ?_
              try go_frame
              go_wp2_with fail
              refine (applyI_any x0 x1 _ ((S16.later hb22)).out.2.1 hf.1 hf.2 hf3).mono ?_
              rw [HP.out]
              rintro e V23 ⟨rfl, hb24⟩
              replace hb24 : Below X13.heap.size X13 V23 := Later.trans hb22 hb24
              clear hb22
              unfold knownC
              go_wp2_with fail
              refine ⟨fun _ => hb24, ?_⟩
              refine wpAnyL_reads [5, 6, 7] (fuel := 3) (by kernel_rfl) hb24 ?_
              iterate 3 (refine LexR.cons rfl ?_ (fun w' hw => ?_) ?_; rotate_left; focus (go_simp; (try exact rfl)); (try go_frame))
              refine LexR.nil ?_
              refine wpAnyL_one (i := 8) (by kernel_rfl) ?_
              refine lexA_get rfl ?_
              try go_frame
              go_wp2_with fail
              have hb28 := hb24.alloc hb24.size (.cells #[.int .i64 0, .string ⟨#[]⟩, .int .i64 0, .string ⟨#[]⟩, .int .i64 0, .int .i64 0] 39)
              have hG27 : V23.heap.size < (V23.alloc (.cells #[.int .i64 0, .string ⟨#[]⟩, .int .i64 0, .string ⟨#[]⟩, .int .i64 0, .int .i64 0] 39)).heap.size ∧ Hid ((V23.alloc (.cells #[.int .i64 0, .string ⟨#[]⟩, .int .i64 0, .string ⟨#[]⟩, .int .i64 0, .int .i64 0] 39)).heap[V23.heap.size]? = some (.cells #[.int .i64 0, .string ⟨#[]⟩, .int .i64 0, .string ⟨#[]⟩, .int .i64 0, .int .i64 0] 39 (0, 0))) := ⟨by simp, Lib.hid (heap_alloc_new V23 _)⟩
              have g25l := hb24.size
              refine ⟨fun _ => hb28, ?_⟩
              generalize V23.alloc (.cells #[.int .i64 0, .string ⟨#[]⟩, .int .i64 0, .string ⟨#[]⟩, .int .i64 0, .int .i64 0] 39) = V26 at hb28 hG27 ⊢
              generalize V23.heap.size = g25 at hG27 g25l ⊢
              clear hb24
              obtain ⟨g25h, g25v⟩ := hG27
              have g25b : V26.heap[g25]? = some (.cells (knownC knownZero).toArray 39 (0, 0)) := g25v.out
              obtain ⟨e0, e1, e2, e3, e4, e5⟩ := known_box g25b
              have f0 := fun i => var_frozen g25b i
              have hb30 : Below X13.heap.size X13 (World.setCell (World.setCell (World.setCell (World.setCell (World.setCell (World.setCell V26 ⟨g25, 0, none⟩ (.int .i64 p.gen)) ⟨g25, 1, none⟩ (.string p.text)) ⟨g25, 2, none⟩ (.int .i64 p.pGen)) ⟨g25, 3, none⟩ (.string p.pText)) ⟨g25, 4, none⟩ (.int .i64 p.epoch)) ⟨g25, 5, none⟩ (.int .i64 p.owner)) := ((((((hb28.setCell (p := ⟨g25, 0, none⟩) g25l (.int .i64 p.gen)).setCell (p := ⟨g25, 1, none⟩) g25l (.string p.text)).setCell (p := ⟨g25, 2, none⟩) g25l (.int .i64 p.pGen)).setCell (p := ⟨g25, 3, none⟩) g25l (.string p.pText)).setCell (p := ⟨g25, 4, none⟩) g25l (.int .i64 p.epoch)).setCell (p := ⟨g25, 5, none⟩) g25l (.int .i64 p.owner))
              have hv31 : (g25 < (World.setCell (World.setCell (World.setCell (World.setCell (World.setCell (World.setCell V26 ⟨g25, 0, none⟩ (.int .i64 p.gen)) ⟨g25, 1, none⟩ (.string p.text)) ⟨g25, 2, none⟩ (.int .i64 p.pGen)) ⟨g25, 3, none⟩ (.string p.pText)) ⟨g25, 4, none⟩ (.int .i64 p.epoch)) ⟨g25, 5, none⟩ (.int .i64 p.owner)).heap.size ∧ Hid ((World.setCell (World.setCell (World.setCell (World.setCell (World.setCell (World.setCell V26 ⟨g25, 0, none⟩ (.int .i64 p.gen)) ⟨g25, 1, none⟩ (.string p.text)) ⟨g25, 2, none⟩ (.int .i64 p.pGen)) ⟨g25, 3, none⟩ (.string p.pText)) ⟨g25, 4, none⟩ (.int .i64 p.epoch)) ⟨g25, 5, none⟩ (.int .i64 p.owner)).heap[g25]? = some (.cells (knownC p).toArray 39 (0, 0)))) := ⟨by simp; exact g25h, Lib.hid (var_set (var_set (var_set (var_set (var_set (var_set g25b 0 (.int .i64 p.gen)) 1 (.string p.text)) 2 (.int .i64 p.pGen)) 3 (.string p.pText)) 4 (.int .i64 p.epoch)) 5 (.int .i64 p.owner))⟩
              refine wpAnyL_one (i := 9) (by kernel_rfl) ?_
              refine lexA_get rfl ?_
              try go_frame
              go_wp2_with fail
              refine ⟨fun _ => hb30, ?_⟩
              clear e0 e1 e2 e3 e4 e5 f0 g25b g25v g25h g25l hb28
              generalize (World.setCell (World.setCell (World.setCell (World.setCell (World.setCell (World.setCell V26 ⟨g25, 0, none⟩ (.int .i64 p.gen)) ⟨g25, 1, none⟩ (.string p.text)) ⟨g25, 2, none⟩ (.int .i64 p.pGen)) ⟨g25, 3, none⟩ (.string p.pText)) ⟨g25, 4, none⟩ (.int .i64 p.epoch)) ⟨g25, 5, none⟩ (.int .i64 p.owner)) = X29 at hb30 hv31 ⊢
              refine wpAnyL_writes [10] (by kernel_rfl) (LexW.cons rfl ?_)
              try go_frame
              go_wp2_with fail
              refine ⟨fun _ => hb30, LexW.nil ?_⟩
              have S32q := (S16.later hb30).out
              have S32 : All (fun w' => Below w.heap.size w w' ∧ Given w' ∧ Hid (w'.heap[w.heap.size]? = some (.cells (knownC x0).toArray 65 (0, 0))) ∧ Hid (w'.heap[w.heap.size + 1]? = some (.cells (recC x1).toArray 53 (0, 0))) ∧ (g9 < w'.heap.size ∧ Hid (w'.heap[g9]? = some (.cells (knownC p).toArray 39 (0, 0)))) ∧ (g25 < w'.heap.size ∧ Hid (w'.heap[g25]? = some (.cells (knownC p).toArray 39 (0, 0))))) X29 := ⟨S32q.1, S32q.2.1, S32q.2.2.1, S32q.2.2.2.1, S32q.2.2.2.2, hv31⟩
              clear S32q hb30 hv31
              obtain ⟨a0, a1, a2, a3, a4, a5⟩ := known_box S32.out.2.2.2.2.1.2.out
              obtain ⟨b0, b1, b2, b3, b4, b5⟩ := known_box S32.out.2.2.2.2.2.2.out
              go_wp2_with fail
              clear a0 a1 a2 a3 a4 a5 b0 b1 b2 b3 b4 b5
              refine (eqKnown_same p X29).mono ?_
              rintro e Y ⟨rfl, hb⟩
              replace S32 := S32.later hb
              clear hb
              go_wp2_with fail
              go_ret
              exact ⟨rfl, S32.out.1⟩
            · refine lexA_get rfl ?_
              try go_frame
              go_wp2_with fail
              have hb36 := hb22.alloc hb22.size (.cells #[.int .i64 0, .string ⟨#[]⟩, .int .i64 0, .string ⟨#[]⟩, .int .i64 0, .int .i64 0] 39)
              have hG35 : V21.heap.size < (V21.alloc (.cells #[.int .i64 0, .string ⟨#[]⟩, .int .i64 0, .string ⟨#[]⟩, .int .i64 0, .int .i64 0] 39)).heap.size ∧ Hid ((V21.alloc (.cells #[.int .i64 0, .string ⟨#[]⟩, .int .i64 0, .string ⟨#[]⟩, .int .i64 0, .int .i64 0] 39)).heap[V21.heap.size]? = some (.cells #[.int .i64 0, .string ⟨#[]⟩, .int .i64 0, .string ⟨#[]⟩, .int .i64 0, .int .i64 0] 39 (0, 0))) := ⟨by simp, Lib.hid (heap_alloc_new V21 _)⟩
              have g33l := hb22.size
              refine ⟨fun _ => hb36, ?_⟩
              generalize V21.alloc (.cells #[.int .i64 0, .string ⟨#[]⟩, .int .i64 0, .string ⟨#[]⟩, .int .i64 0, .int .i64 0] 39) = V34 at hb36 hG35 ⊢
              generalize V21.heap.size = g33 at hG35 g33l ⊢
              clear hb22
              refine wpAnyL_one (i := 4) (by kernel_rfl) ?_
              refine lexA_get rfl ?_
              try go_frame
              go_wp2_with fail
              refine (applyI_any x0 x1 _ ((S16.later hb36)).out.2.1 hf.1 hf.2 hf3).mono ?_
              rw [HP.out]
              rintro e V37 ⟨rfl, hb38⟩
              replace hG35 := Keeps.keeps (F := fun w' => g33 < w'.heap.size ∧ Hid (w'.heap[g33]? = some (.cells #[.int .i64 0, .string ⟨#[]⟩, .int .i64 0, .string ⟨#[]⟩, .int .i64 0, .int .i64 0] 39 (0, 0)))) hb38 hG35
              replace hb38 : Below X13.heap.size X13 V37 := Later.trans hb36 hb38
              clear hb36
              unfold knownC
              go_wp2_with fail
              refine ⟨fun _ => hb38, ?_⟩
              refine wpAnyL_reads [5, 6, 7] (fuel := 2) (by kernel_rfl) hb38 ?_
              iterate 3 (refine LexR.cons rfl ?_ (fun w' hw => ?_) ?_; rotate_left; focus (go_simp; (try exact rfl)); (try go_frame))
              refine LexR.nil ?_
              obtain ⟨g33h, g33v⟩ := hG35
              have g33b : V37.heap[g33]? = some (.cells (knownC knownZero).toArray 39 (0, 0)) := g33v.out
              obtain ⟨e0, e1, e2, e3, e4, e5⟩ := known_box g33b
              have f0 := fun i => var_frozen g33b i
              have hb40 : Below X13.heap.size X13 (World.setCell (World.setCell (World.setCell (World.setCell (World.setCell (World.setCell V37 ⟨g33, 0, none⟩ (.int .i64 p.gen)) ⟨g33, 1, none⟩ (.string p.text)) ⟨g33, 2, none⟩ (.int .i64 p.pGen)) ⟨g33, 3, none⟩ (.string p.pText)) ⟨g33, 4, none⟩ (.int .i64 p.epoch)) ⟨g33, 5, none⟩ (.int .i64 p.owner)) := ((((((hb38.setCell (p := ⟨g33, 0, none⟩) g33l (.int .i64 p.gen)).setCell (p := ⟨g33, 1, none⟩) g33l (.string p.text)).setCell (p := ⟨g33, 2, none⟩) g33l (.int .i64 p.pGen)).setCell (p := ⟨g33, 3, none⟩) g33l (.string p.pText)).setCell (p := ⟨g33, 4, none⟩) g33l (.int .i64 p.epoch)).setCell (p := ⟨g33, 5, none⟩) g33l (.int .i64 p.owner))
              have hv41 : (g33 < (World.setCell (World.setCell (World.setCell (World.setCell (World.setCell (World.setCell V37 ⟨g33, 0, none⟩ (.int .i64 p.gen)) ⟨g33, 1, none⟩ (.string p.text)) ⟨g33, 2, none⟩ (.int .i64 p.pGen)) ⟨g33, 3, none⟩ (.string p.pText)) ⟨g33, 4, none⟩ (.int .i64 p.epoch)) ⟨g33, 5, none⟩ (.int .i64 p.owner)).heap.size ∧ Hid ((World.setCell (World.setCell (World.setCell (World.setCell (World.setCell (World.setCell V37 ⟨g33, 0, none⟩ (.int .i64 p.gen)) ⟨g33, 1, none⟩ (.string p.text)) ⟨g33, 2, none⟩ (.int .i64 p.pGen)) ⟨g33, 3, none⟩ (.string p.pText)) ⟨g33, 4, none⟩ (.int .i64 p.epoch)) ⟨g33, 5, none⟩ (.int .i64 p.owner)).heap[g33]? = some (.cells (knownC p).toArray 39 (0, 0)))) := ⟨by simp; exact g33h, Lib.hid (var_set (var_set (var_set (var_set (var_set (var_set g33b 0 (.int .i64 p.gen)) 1 (.string p.text)) 2 (.int .i64 p.pGen)) 3 (.string p.pText)) 4 (.int .i64 p.epoch)) 5 (.int .i64 p.owner))⟩
              refine wpAnyL_one (i := 9) (by kernel_rfl) ?_
              refine lexA_get rfl ?_
              try go_frame
              go_wp2_with fail
              refine ⟨fun _ => hb40, ?_⟩
              clear e0 e1 e2 e3 e4 e5 f0 g33b g33v g33h g33l hb38
              generalize (World.setCell (World.setCell (World.setCell (World.setCell (World.setCell (World.setCell V37 ⟨g33, 0, none⟩ (.int .i64 p.gen)) ⟨g33, 1, none⟩ (.string p.text)) ⟨g33, 2, none⟩ (.int .i64 p.pGen)) ⟨g33, 3, none⟩ (.string p.pText)) ⟨g33, 4, none⟩ (.int .i64 p.epoch)) ⟨g33, 5, none⟩ (.int .i64 p.owner)) = X39 at hb40 hv41 ⊢
              refine wpAnyL_writes [10] (by kernel_rfl) (LexW.cons rfl ?_)
              try go_frame
              go_wp2_with fail
              refine ⟨fun _ => hb40, LexW.nil ?_⟩
              have S42q := (S16.later hb40).out
              have S42 : All (fun w' => Below w.heap.size w w' ∧ Given w' ∧ Hid (w'.heap[w.heap.size]? = some (.cells (knownC x0).toArray 65 (0, 0))) ∧ Hid (w'.heap[w.heap.size + 1]? = some (.cells (recC x1).toArray 53 (0, 0))) ∧ (g9 < w'.heap.size ∧ Hid (w'.heap[g9]? = some (.cells (knownC p).toArray 39 (0, 0)))) ∧ (g33 < w'.heap.size ∧ Hid (w'.heap[g33]? = some (.cells (knownC p).toArray 39 (0, 0))))) X39 := ⟨S42q.1, S42q.2.1, S42q.2.2.1, S42q.2.2.2.1, S42q.2.2.2.2, hv41⟩
              clear S42q hb40 hv41
              obtain ⟨a0, a1, a2, a3, a4, a5⟩ := known_box S42.out.2.2.2.2.1.2.out
              obtain ⟨b0, b1, b2, b3, b4, b5⟩ := known_box S42.out.2.2.2.2.2.2.out
              go_wp2_with fail
              clear a0 a1 a2 a3 a4 a5 b0 b1 b2 b3 b4 b5
              refine (eqKnown_same p X39).mono ?_
              rintro e Y ⟨rfl, hb⟩
              replace S42 := S42.later hb
              clear hb
              go_wp2_with fail
              go_ret
              exact ⟨rfl, S42.out.1⟩
          · refine lexA_get rfl ?_
            try go_frame
            go_wp2_with fail
            have hb46 := hb20.alloc hb20.size (.cells #[.int .i64 0, .string ⟨#[]⟩, .int .i64 0, .string ⟨#[]⟩, .int .i64 0, .int .i64 0] 39)
            have hG45 : V19.heap.size < (V19.alloc (.cells #[.int .i64 0, .string ⟨#[]⟩, .int .i64 0, .string ⟨#[]⟩, .int .i64 0, .int .i64 0] 39)).heap.size ∧ Hid ((V19.alloc (.cells #[.int .i64 0, .string ⟨#[]⟩, .int .i64 0, .string ⟨#[]⟩, .int .i64 0, .int .i64 0] 39)).heap[V19.heap.size]? = some (.cells #[.int .i64 0, .string ⟨#[]⟩, .int .i64 0, .string ⟨#[]⟩, .int .i64 0, .int .i64 0] 39 (0, 0))) := ⟨by simp, Lib.hid (heap_alloc_new V19 _)⟩
            have g43l := hb20.size
            refine ⟨fun _ => hb46, ?_⟩
            generalize V19.alloc (.cells #[.int .i64 0, .string ⟨#[]⟩, .int .i64 0, .string ⟨#[]⟩, .int .i64 0, .int .i64 0] 39) = V44 at hb46 hG45 ⊢
            generalize V19.heap.size = g43 at hG45 g43l ⊢
            clear hb20
            refine wpAnyL_one (i := 3) (by kernel_rfl) ?_
            refine lexA_get rfl ?_
            try go_frame
            go_wp2_with fail
            refine (toRec_any x1 _).mono ?_
            rintro e V47 ⟨rfl, hb48⟩
            replace hG45 := Keeps.keeps (F := fun w' => g43 < w'.heap.size ∧ Hid (w'.heap[g43]? = some (.cells #[.int .i64 0, .string ⟨#[]⟩, .int .i64 0, .string ⟨#[]⟩, .int .i64 0, .int .i64 0] 39 (0, 0)))) hb48 hG45
            replace hb48 : Below X13.heap.size X13 V47 := Later.trans hb46 hb48
            clear hb46
            go_wp2_with fail
            refine ⟨fun _ => hb48, ?_⟩
            refine wpAnyL_one (i := 4) (by kernel_rfl) ?_
            refine lexA_get rfl ?_
            try go_frame
            go_wp2_with fail
            refine (applyI_any x0 x1 _ ((S16.later hb48)).out.2.1 hf.1 hf.2 hf3).mono ?_
            rw [HP.out]
            rintro e V49 ⟨rfl, hb50⟩
            replace hG45 := Keeps.keeps (F := fun w' => g43 < w'.heap.size ∧ Hid (w'.heap[g43]? = some (.cells #[.int .i64 0, .string ⟨#[]⟩, .int .i64 0, .string ⟨#[]⟩, .int .i64 0, .int .i64 0] 39 (0, 0)))) hb50 hG45
            replace hb50 : Below X13.heap.size X13 V49 := Later.trans hb48 hb50
            clear hb48
            unfold knownC
            go_wp2_with fail
            refine ⟨fun _ => hb50, ?_⟩
            refine wpAnyL_reads [5, 6, 7] (fuel := 2) (by kernel_rfl) hb50 ?_
            iterate 3 (refine LexR.cons rfl ?_ (fun w' hw => ?_) ?_; rotate_left; focus (go_simp; (try exact rfl)); (try go_frame))
            refine LexR.nil ?_
            obtain ⟨g43h, g43v⟩ := hG45
            have g43b : V49.heap[g43]? = some (.cells (knownC knownZero).toArray 39 (0, 0)) := g43v.out
            obtain ⟨e0, e1, e2, e3, e4, e5⟩ := known_box g43b
            have f0 := fun i => var_frozen g43b i
            have hb52 : Below X13.heap.size X13 (World.setCell (World.setCell (World.setCell (World.setCell (World.setCell (World.setCell V49 ⟨g43, 0, none⟩ (.int .i64 p.gen)) ⟨g43, 1, none⟩ (.string p.text)) ⟨g43, 2, none⟩ (.int .i64 p.pGen)) ⟨g43, 3, none⟩ (.string p.pText)) ⟨g43, 4, none⟩ (.int .i64 p.epoch)) ⟨g43, 5, none⟩ (.int .i64 p.owner)) := ((((((hb50.setCell (p := ⟨g43, 0, none⟩) g43l (.int .i64 p.gen)).setCell (p := ⟨g43, 1, none⟩) g43l (.string p.text)).setCell (p := ⟨g43, 2, none⟩) g43l (.int .i64 p.pGen)).setCell (p := ⟨g43, 3, none⟩) g43l (.string p.pText)).setCell (p := ⟨g43, 4, none⟩) g43l (.int .i64 p.epoch)).setCell (p := ⟨g43, 5, none⟩) g43l (.int .i64 p.owner))
            have hv53 : (g43 < (World.setCell (World.setCell (World.setCell (World.setCell (World.setCell (World.setCell V49 ⟨g43, 0, none⟩ (.int .i64 p.gen)) ⟨g43, 1, none⟩ (.string p.text)) ⟨g43, 2, none⟩ (.int .i64 p.pGen)) ⟨g43, 3, none⟩ (.string p.pText)) ⟨g43, 4, none⟩ (.int .i64 p.epoch)) ⟨g43, 5, none⟩ (.int .i64 p.owner)).heap.size ∧ Hid ((World.setCell (World.setCell (World.setCell (World.setCell (World.setCell (World.setCell V49 ⟨g43, 0, none⟩ (.int .i64 p.gen)) ⟨g43, 1, none⟩ (.string p.text)) ⟨g43, 2, none⟩ (.int .i64 p.pGen)) ⟨g43, 3, none⟩ (.string p.pText)) ⟨g43, 4, none⟩ (.int .i64 p.epoch)) ⟨g43, 5, none⟩ (.int .i64 p.owner)).heap[g43]? = some (.cells (knownC p).toArray 39 (0, 0)))) := ⟨by simp; exact g43h, Lib.hid (var_set (var_set (var_set (var_set (var_set (var_set g43b 0 (.int .i64 p.gen)) 1 (.string p.text)) 2 (.int .i64 p.pGen)) 3 (.string p.pText)) 4 (.int .i64 p.epoch)) 5 (.int .i64 p.owner))⟩
            refine wpAnyL_one (i := 9) (by kernel_rfl) ?_
            refine lexA_get rfl ?_
            try go_frame
            go_wp2_with fail
            refine ⟨fun _ => hb52, ?_⟩
            clear e0 e1 e2 e3 e4 e5 f0 g43b g43v g43h g43l hb50
            generalize (World.setCell (World.setCell (World.setCell (World.setCell (World.setCell (World.setCell V49 ⟨g43, 0, none⟩ (.int .i64 p.gen)) ⟨g43, 1, none⟩ (.string p.text)) ⟨g43, 2, none⟩ (.int .i64 p.pGen)) ⟨g43, 3, none⟩ (.string p.pText)) ⟨g43, 4, none⟩ (.int .i64 p.epoch)) ⟨g43, 5, none⟩ (.int .i64 p.owner)) = X51 at hb52 hv53 ⊢
            refine wpAnyL_writes [10] (by kernel_rfl) (LexW.cons rfl ?_)
            try go_frame
            go_wp2_with fail
            refine ⟨fun _ => hb52, LexW.nil ?_⟩
            have S54q := (S16.later hb52).out
            have S54 : All (fun w' => Below w.heap.size w w' ∧ Given w' ∧ Hid (w'.heap[w.heap.size]? = some (.cells (knownC x0).toArray 65 (0, 0))) ∧ Hid (w'.heap[w.heap.size + 1]? = some (.cells (recC x1).toArray 53 (0, 0))) ∧ (g9 < w'.heap.size ∧ Hid (w'.heap[g9]? = some (.cells (knownC p).toArray 39 (0, 0)))) ∧ (g43 < w'.heap.size ∧ Hid (w'.heap[g43]? = some (.cells (knownC p).toArray 39 (0, 0))))) X51 := ⟨S54q.1, S54q.2.1, S54q.2.2.1, S54q.2.2.2.1, S54q.2.2.2.2, hv53⟩
            clear S54q hb52 hv53
            obtain ⟨a0, a1, a2, a3, a4, a5⟩ := known_box S54.out.2.2.2.2.1.2.out
            obtain ⟨b0, b1, b2, b3, b4, b5⟩ := known_box S54.out.2.2.2.2.2.2.out
            go_wp2_with fail
            clear a0 a1 a2 a3 a4 a5 b0 b1 b2 b3 b4 b5
            refine (eqKnown_same p X51).mono ?_
            rintro e Y ⟨rfl, hb⟩
            replace S54 := S54.later hb
            clear hb
            go_wp2_with fail
            go_ret
            exact ⟨rfl, S54.out.1⟩
        · refine lexA_get rfl ?_
          try go_frame
          go_wp2_with fail
          have hb58 := hb17.alloc hb17.size (.cells #[.int .i64 0, .string ⟨#[]⟩, .int .i64 0, .string ⟨#[]⟩, .int .i64 0, .int .i64 0] 39)
          have hG57 : V18.heap.size < (V18.alloc (.cells #[.int .i64 0, .string ⟨#[]⟩, .int .i64 0, .string ⟨#[]⟩, .int .i64 0, .int .i64 0] 39)).heap.size ∧ Hid ((V18.alloc (.cells #[.int .i64 0, .string ⟨#[]⟩, .int .i64 0, .string ⟨#[]⟩, .int .i64 0, .int .i64 0] 39)).heap[V18.heap.size]? = some (.cells #[.int .i64 0, .string ⟨#[]⟩, .int .i64 0, .string ⟨#[]⟩, .int .i64 0, .int .i64 0] 39 (0, 0))) := ⟨by simp, Lib.hid (heap_alloc_new V18 _)⟩
          have g55l := hb17.size
          refine ⟨fun _ => hb58, ?_⟩
          generalize V18.alloc (.cells #[.int .i64 0, .string ⟨#[]⟩, .int .i64 0, .string ⟨#[]⟩, .int .i64 0, .int .i64 0] 39) = V56 at hb58 hG57 ⊢
          generalize V18.heap.size = g55 at hG57 g55l ⊢
          clear hb17
          refine wpAnyL_one (i := 1) (by kernel_rfl) ?_
          refine lexA_get rfl ?_
          try go_frame
          go_wp2_with fail
          refine (toKnown_any x0 _).mono ?_
          rintro e V59 ⟨rfl, hb60⟩
          replace hG57 := Keeps.keeps (F := fun w' => g55 < w'.heap.size ∧ Hid (w'.heap[g55]? = some (.cells #[.int .i64 0, .string ⟨#[]⟩, .int .i64 0, .string ⟨#[]⟩, .int .i64 0, .int .i64 0] 39 (0, 0)))) hb60 hG57
          replace hb60 : Below X13.heap.size X13 V59 := Later.trans hb58 hb60
          clear hb58
          go_wp2_with fail
          refine ⟨fun _ => hb60, ?_⟩
          refine wpAnyL_one (i := 3) (by kernel_rfl) ?_
          refine lexA_get rfl ?_
          try go_frame
          go_wp2_with fail
          refine (toRec_any x1 _).mono ?_
          rintro e V61 ⟨rfl, hb62⟩
          replace hG57 := Keeps.keeps (F := fun w' => g55 < w'.heap.size ∧ Hid (w'.heap[g55]? = some (.cells #[.int .i64 0, .string ⟨#[]⟩, .int .i64 0, .string ⟨#[]⟩, .int .i64 0, .int .i64 0] 39 (0, 0)))) hb62 hG57
          replace hb62 : Below X13.heap.size X13 V61 := Later.trans hb60 hb62
          clear hb60
          go_wp2_with fail
          refine ⟨fun _ => hb62, ?_⟩
          refine wpAnyL_one (i := 4) (by kernel_rfl) ?_
          refine lexA_get rfl ?_
          try go_frame
          go_wp2_with fail
          refine (applyI_any x0 x1 _ ((S16.later hb62)).out.2.1 hf.1 hf.2 hf3).mono ?_
          rw [HP.out]
          rintro e V63 ⟨rfl, hb64⟩
          replace hG57 := Keeps.keeps (F := fun w' => g55 < w'.heap.size ∧ Hid (w'.heap[g55]? = some (.cells #[.int .i64 0, .string ⟨#[]⟩, .int .i64 0, .string ⟨#[]⟩, .int .i64 0, .int .i64 0] 39 (0, 0)))) hb64 hG57
          replace hb64 : Below X13.heap.size X13 V63 := Later.trans hb62 hb64
          clear hb62
          unfold knownC
          go_wp2_with fail
          refine ⟨fun _ => hb64, ?_⟩
          refine wpAnyL_reads [5, 6, 7] (fuel := 2) (by kernel_rfl) hb64 ?_
          iterate 3 (refine LexR.cons rfl ?_ (fun w' hw => ?_) ?_; rotate_left; focus (go_simp; (try exact rfl)); (try go_frame))
          refine LexR.nil ?_
          obtain ⟨g55h, g55v⟩ := hG57
          have g55b : V63.heap[g55]? = some (.cells (knownC knownZero).toArray 39 (0, 0)) := g55v.out
          obtain ⟨e0, e1, e2, e3, e4, e5⟩ := known_box g55b
          have f0 := fun i => var_frozen g55b i
          have hb66 : Below X13.heap.size X13 (World.setCell (World.setCell (World.setCell (World.setCell (World.setCell (World.setCell V63 ⟨g55, 0, none⟩ (.int .i64 p.gen)) ⟨g55, 1, none⟩ (.string p.text)) ⟨g55, 2, none⟩ (.int .i64 p.pGen)) ⟨g55, 3, none⟩ (.string p.pText)) ⟨g55, 4, none⟩ (.int .i64 p.epoch)) ⟨g55, 5, none⟩ (.int .i64 p.owner)) := ((((((hb64.setCell (p := ⟨g55, 0, none⟩) g55l (.int .i64 p.gen)).setCell (p := ⟨g55, 1, none⟩) g55l (.string p.text)).setCell (p := ⟨g55, 2, none⟩) g55l (.int .i64 p.pGen)).setCell (p := ⟨g55, 3, none⟩) g55l (.string p.pText)).setCell (p := ⟨g55, 4, none⟩) g55l (.int .i64 p.epoch)).setCell (p := ⟨g55, 5, none⟩) g55l (.int .i64 p.owner))
          have hv67 : (g55 < (World.setCell (World.setCell (World.setCell (World.setCell (World.setCell (World.setCell V63 ⟨g55, 0, none⟩ (.int .i64 p.gen)) ⟨g55, 1, none⟩ (.string p.text)) ⟨g55, 2, none⟩ (.int .i64 p.pGen)) ⟨g55, 3, none⟩ (.string p.pText)) ⟨g55, 4, none⟩ (.int .i64 p.epoch)) ⟨g55, 5, none⟩ (.int .i64 p.owner)).heap.size ∧ Hid ((World.setCell (World.setCell (World.setCell (World.setCell (World.setCell (World.setCell V63 ⟨g55, 0, none⟩ (.int .i64 p.gen)) ⟨g55, 1, none⟩ (.string p.text)) ⟨g55, 2, none⟩ (.int .i64 p.pGen)) ⟨g55, 3, none⟩ (.string p.pText)) ⟨g55, 4, none⟩ (.int .i64 p.epoch)) ⟨g55, 5, none⟩ (.int .i64 p.owner)).heap[g55]? = some (.cells (knownC p).toArray 39 (0, 0)))) := ⟨by simp; exact g55h, Lib.hid (var_set (var_set (var_set (var_set (var_set (var_set g55b 0 (.int .i64 p.gen)) 1 (.string p.text)) 2 (.int .i64 p.pGen)) 3 (.string p.pText)) 4 (.int .i64 p.epoch)) 5 (.int .i64 p.owner))⟩
          refine wpAnyL_one (i := 9) (by kernel_rfl) ?_
          refine lexA_get rfl ?_
          try go_frame
          go_wp2_with fail
          refine ⟨fun _ => hb66, ?_⟩
          clear e0 e1 e2 e3 e4 e5 f0 g55b g55v g55h g55l hb64
          generalize (World.setCell (World.setCell (World.setCell (World.setCell (World.setCell (World.setCell V63 ⟨g55, 0, none⟩ (.int .i64 p.gen)) ⟨g55, 1, none⟩ (.string p.text)) ⟨g55, 2, none⟩ (.int .i64 p.pGen)) ⟨g55, 3, none⟩ (.string p.pText)) ⟨g55, 4, none⟩ (.int .i64 p.epoch)) ⟨g55, 5, none⟩ (.int .i64 p.owner)) = X65 at hb66 hv67 ⊢
          refine wpAnyL_writes [10] (by kernel_rfl) (LexW.cons rfl ?_)
          try go_frame
          go_wp2_with fail
          refine ⟨fun _ => hb66, LexW.nil ?_⟩
          have S68q := (S16.later hb66).out
          have S68 : All (fun w' => Below w.heap.size w w' ∧ Given w' ∧ Hid (w'.heap[w.heap.size]? = some (.cells (knownC x0).toArray 65 (0, 0))) ∧ Hid (w'.heap[w.heap.size + 1]? = some (.cells (recC x1).toArray 53 (0, 0))) ∧ (g9 < w'.heap.size ∧ Hid (w'.heap[g9]? = some (.cells (knownC p).toArray 39 (0, 0)))) ∧ (g55 < w'.heap.size ∧ Hid (w'.heap[g55]? = some (.cells (knownC p).toArray 39 (0, 0))))) X65 := ⟨S68q.1, S68q.2.1, S68q.2.2.1, S68q.2.2.2.1, S68q.2.2.2.2, hv67⟩
          clear S68q hb66 hv67
          obtain ⟨a0, a1, a2, a3, a4, a5⟩ := known_box S68.out.2.2.2.2.1.2.out
          obtain ⟨b0, b1, b2, b3, b4, b5⟩ := known_box S68.out.2.2.2.2.2.2.out
          go_wp2_with fail
          clear a0 a1 a2 a3 a4 a5 b0 b1 b2 b3 b4 b5
          refine (eqKnown_same p X65).mono ?_
          rintro e Y ⟨rfl, hb⟩
          replace S68 := S68.later hb
          clear hb
          go_wp2_with fail
          go_ret
          exact ⟨rfl, S68.out.1⟩
      · refine lexA_get rfl ?_
        try go_frame
        go_wp2_with fail
        have hb72 := hb6.alloc hb6.size (.cells #[.int .i64 0, .string ⟨#[]⟩, .int .i64 0, .string ⟨#[]⟩, .int .i64 0, .int .i64 0] 39)
        have hG71 : V5.heap.size < (V5.alloc (.cells #[.int .i64 0, .string ⟨#[]⟩, .int .i64 0, .string ⟨#[]⟩, .int .i64 0, .int .i64 0] 39)).heap.size ∧ Hid ((V5.alloc (.cells #[.int .i64 0, .string ⟨#[]⟩, .int .i64 0, .string ⟨#[]⟩, .int .i64 0, .int .i64 0] 39)).heap[V5.heap.size]? = some (.cells #[.int .i64 0, .string ⟨#[]⟩, .int .i64 0, .string ⟨#[]⟩, .int .i64 0, .int .i64 0] 39 (0, 0))) := ⟨by simp, Lib.hid (heap_alloc_new V5 _)⟩
        have g69l := hb6.size
        refine ⟨fun _ => hb72, ?_⟩
        generalize V5.alloc (.cells #[.int .i64 0, .string ⟨#[]⟩, .int .i64 0, .string ⟨#[]⟩, .int .i64 0, .int .i64 0] 39) = V70 at hb72 hG71 ⊢
        generalize V5.heap.size = g69 at hG71 g69l ⊢
        clear hb6
        refine wpAnyL_one (i := 4) (by kernel_rfl) ?_
        refine lexA_get rfl ?_
        try go_frame
        go_wp2_with fail
        refine (applyS_any x0 x1 _).mono ?_
        rw [HP.out]
        rintro e V73 ⟨rfl, hb74⟩
        replace hG71 := Keeps.keeps (F := fun w' => g69 < w'.heap.size ∧ Hid (w'.heap[g69]? = some (.cells #[.int .i64 0, .string ⟨#[]⟩, .int .i64 0, .string ⟨#[]⟩, .int .i64 0, .int .i64 0] 39 (0, 0)))) hb74 hG71
        replace hb74 : Below W3.heap.size W3 V73 := Later.trans hb72 hb74
        clear hb72
        unfold knownC
        go_wp2_with fail
        refine ⟨fun _ => hb74, ?_⟩
        refine wpAnyL_reads [5, 6, 7] (fuel := 2) (by kernel_rfl) hb74 ?_
        iterate 3 (refine LexR.cons rfl ?_ (fun w' hw => ?_) ?_; rotate_left; focus (go_simp; (try exact rfl)); (try go_frame))
        refine LexR.nil ?_
        obtain ⟨g69h, g69v⟩ := hG71
        have g69b : V73.heap[g69]? = some (.cells (knownC knownZero).toArray 39 (0, 0)) := g69v.out
        obtain ⟨e0, e1, e2, e3, e4, e5⟩ := known_box g69b
        have f0 := fun i => var_frozen g69b i
        have hb76 : Below W3.heap.size W3 (World.setCell (World.setCell (World.setCell (World.setCell (World.setCell (World.setCell V73 ⟨g69, 0, none⟩ (.int .i64 p.gen)) ⟨g69, 1, none⟩ (.string p.text)) ⟨g69, 2, none⟩ (.int .i64 p.pGen)) ⟨g69, 3, none⟩ (.string p.pText)) ⟨g69, 4, none⟩ (.int .i64 p.epoch)) ⟨g69, 5, none⟩ (.int .i64 p.owner)) := ((((((hb74.setCell (p := ⟨g69, 0, none⟩) g69l (.int .i64 p.gen)).setCell (p := ⟨g69, 1, none⟩) g69l (.string p.text)).setCell (p := ⟨g69, 2, none⟩) g69l (.int .i64 p.pGen)).setCell (p := ⟨g69, 3, none⟩) g69l (.string p.pText)).setCell (p := ⟨g69, 4, none⟩) g69l (.int .i64 p.epoch)).setCell (p := ⟨g69, 5, none⟩) g69l (.int .i64 p.owner))
        have hv77 : (g69 < (World.setCell (World.setCell (World.setCell (World.setCell (World.setCell (World.setCell V73 ⟨g69, 0, none⟩ (.int .i64 p.gen)) ⟨g69, 1, none⟩ (.string p.text)) ⟨g69, 2, none⟩ (.int .i64 p.pGen)) ⟨g69, 3, none⟩ (.string p.pText)) ⟨g69, 4, none⟩ (.int .i64 p.epoch)) ⟨g69, 5, none⟩ (.int .i64 p.owner)).heap.size ∧ Hid ((World.setCell (World.setCell (World.setCell (World.setCell (World.setCell (World.setCell V73 ⟨g69, 0, none⟩ (.int .i64 p.gen)) ⟨g69, 1, none⟩ (.string p.text)) ⟨g69, 2, none⟩ (.int .i64 p.pGen)) ⟨g69, 3, none⟩ (.string p.pText)) ⟨g69, 4, none⟩ (.int .i64 p.epoch)) ⟨g69, 5, none⟩ (.int .i64 p.owner)).heap[g69]? = some (.cells (knownC p).toArray 39 (0, 0)))) := ⟨by simp; exact g69h, Lib.hid (var_set (var_set (var_set (var_set (var_set (var_set g69b 0 (.int .i64 p.gen)) 1 (.string p.text)) 2 (.int .i64 p.pGen)) 3 (.string p.pText)) 4 (.int .i64 p.epoch)) 5 (.int .i64 p.owner))⟩
        refine wpAnyL_one (i := 9) (by kernel_rfl) ?_
        refine lexA_get rfl ?_
        try go_frame
        go_wp2_with fail
        refine ⟨fun _ => hb76, ?_⟩
        clear e0 e1 e2 e3 e4 e5 f0 g69b g69v g69h g69l hb74
        generalize (World.setCell (World.setCell (World.setCell (World.setCell (World.setCell (World.setCell V73 ⟨g69, 0, none⟩ (.int .i64 p.gen)) ⟨g69, 1, none⟩ (.string p.text)) ⟨g69, 2, none⟩ (.int .i64 p.pGen)) ⟨g69, 3, none⟩ (.string p.pText)) ⟨g69, 4, none⟩ (.int .i64 p.epoch)) ⟨g69, 5, none⟩ (.int .i64 p.owner)) = X75 at hb76 hv77 ⊢
        refine wpAnyL_writes [10] (by kernel_rfl) (LexW.cons rfl ?_)
        try go_frame
        go_wp2_with fail
        refine ⟨fun _ => hb76, LexW.nil ?_⟩
        have S78q := (S.later hb76).out
        have S78 : All (fun w' => Below w.heap.size w w' ∧ Given w' ∧ Hid (w'.heap[w.heap.size]? = some (.cells (knownC x0).toArray 65 (0, 0))) ∧ Hid (w'.heap[w.heap.size + 1]? = some (.cells (recC x1).toArray 53 (0, 0))) ∧ (g69 < w'.heap.size ∧ Hid (w'.heap[g69]? = some (.cells (knownC p).toArray 39 (0, 0))))) X75 := ⟨S78q.1, S78q.2.1, S78q.2.2.1, S78q.2.2.2, hv77⟩
        clear S78q hb76 hv77
        go_wp2_with fail
        refine wp_region_open 100 (fun w' => Below X75.heap.size X75 w') (by kernel_rfl) ?_
        have hb79 := Later.drew X75
        refine wpAnyL_reads [0, 2] (fuel := 9) (by kernel_rfl) hb79 ?_
        iterate 2 (refine LexR.cons rfl ?_ (fun w' hw => ?_) ?_; rotate_left; focus (have hS := S78.later hw; obtain ⟨c0, c1, c2, c3, c4, c5⟩ := known_box hS.out.2.2.1.out; obtain ⟨d0, d1, d2, d3⟩ := rec_box hS.out.2.2.2.1.out; clear hS; go_simp; (try exact rfl)); (try go_frame))
        refine LexR.nil ?_
        replace hb79 : Below X75.heap.size X75 X75.drew := hb79
        generalize X75.drew = V80 at hb79 ⊢
        refine wpAnyL_two (i := 1) (j := 8) (by kernel_rfl) ?_ ?_
        · refine lexA_get rfl ?_
          try go_frame
          go_wp2_with fail
          refine (toKnown_any x0 _).mono ?_
          rintro e V81 ⟨rfl, hb82⟩
          replace hb82 : Below X75.heap.size X75 V81 := Later.trans hb79 hb82
          clear hb79
          go_wp2_with fail
          refine ⟨fun _ => hb82, ?_⟩
          refine wpAnyL_two (i := 3) (j := 8) (by kernel_rfl) ?_ ?_
          · refine lexA_get rfl ?_
            try go_frame
            go_wp2_with fail
            refine (toRec_any x1 _).mono ?_
            rintro e V83 ⟨rfl, hb84⟩
            replace hb84 : Below X75.heap.size X75 V83 := Later.trans hb82 hb84
            clear hb82
            go_wp2_with fail
            refine ⟨fun _ => hb84, ?_⟩
            refine wpAnyL_two (i := 4) (j := 8) (by kernel_rfl) ?_ ?_
            · refine lexA_get rfl ?_
              try go_frame
              go_wp2_with fail
              refine (applyI_any x0 x1 _ ((S78.later hb84)).out.2.1 hf.1 hf.2 hf3).mono ?_
              rw [HP.out]
              rintro e V85 ⟨rfl, hb86⟩
              replace hb86 : Below X75.heap.size X75 V85 := Later.trans hb84 hb86
              clear hb84
              unfold knownC
              go_wp2_with fail
              refine ⟨fun _ => hb86, ?_⟩
              refine wpAnyL_reads [5, 6, 7] (fuel := 3) (by kernel_rfl) hb86 ?_
              iterate 3 (refine LexR.cons rfl ?_ (fun w' hw => ?_) ?_; rotate_left; focus (go_simp; (try exact rfl)); (try go_frame))
              refine LexR.nil ?_
              refine wpAnyL_one (i := 8) (by kernel_rfl) ?_
              refine lexA_get rfl ?_
              try go_frame
              go_wp2_with fail
              have hb90 := hb86.alloc hb86.size (.cells #[.int .i64 0, .string ⟨#[]⟩, .int .i64 0, .string ⟨#[]⟩, .int .i64 0, .int .i64 0] 39)
              have hG89 : V85.heap.size < (V85.alloc (.cells #[.int .i64 0, .string ⟨#[]⟩, .int .i64 0, .string ⟨#[]⟩, .int .i64 0, .int .i64 0] 39)).heap.size ∧ Hid ((V85.alloc (.cells #[.int .i64 0, .string ⟨#[]⟩, .int .i64 0, .string ⟨#[]⟩, .int .i64 0, .int .i64 0] 39)).heap[V85.heap.size]? = some (.cells #[.int .i64 0, .string ⟨#[]⟩, .int .i64 0, .string ⟨#[]⟩, .int .i64 0, .int .i64 0] 39 (0, 0))) := ⟨by simp, Lib.hid (heap_alloc_new V85 _)⟩
              have g87l := hb86.size
              refine ⟨fun _ => hb90, ?_⟩
              generalize V85.alloc (.cells #[.int .i64 0, .string ⟨#[]⟩, .int .i64 0, .string ⟨#[]⟩, .int .i64 0, .int .i64 0] 39) = V88 at hb90 hG89 ⊢
              generalize V85.heap.size = g87 at hG89 g87l ⊢
              clear hb86
              obtain ⟨g87h, g87v⟩ := hG89
              have g87b : V88.heap[g87]? = some (.cells (knownC knownZero).toArray 39 (0, 0)) := g87v.out
              obtain ⟨e0, e1, e2, e3, e4, e5⟩ := known_box g87b
              have f0 := fun i => var_frozen g87b i
              have hb92 : Below X75.heap.size X75 (World.setCell (World.setCell (World.setCell (World.setCell (World.setCell (World.setCell V88 ⟨g87, 0, none⟩ (.int .i64 p.gen)) ⟨g87, 1, none⟩ (.string p.text)) ⟨g87, 2, none⟩ (.int .i64 p.pGen)) ⟨g87, 3, none⟩ (.string p.pText)) ⟨g87, 4, none⟩ (.int .i64 p.epoch)) ⟨g87, 5, none⟩ (.int .i64 p.owner)) := ((((((hb90.setCell (p := ⟨g87, 0, none⟩) g87l (.int .i64 p.gen)).setCell (p := ⟨g87, 1, none⟩) g87l (.string p.text)).setCell (p := ⟨g87, 2, none⟩) g87l (.int .i64 p.pGen)).setCell (p := ⟨g87, 3, none⟩) g87l (.string p.pText)).setCell (p := ⟨g87, 4, none⟩) g87l (.int .i64 p.epoch)).setCell (p := ⟨g87, 5, none⟩) g87l (.int .i64 p.owner))
              have hv93 : (g87 < (World.setCell (World.setCell (World.setCell (World.setCell (World.setCell (World.setCell V88 ⟨g87, 0, none⟩ (.int .i64 p.gen)) ⟨g87, 1, none⟩ (.string p.text)) ⟨g87, 2, none⟩ (.int .i64 p.pGen)) ⟨g87, 3, none⟩ (.string p.pText)) ⟨g87, 4, none⟩ (.int .i64 p.epoch)) ⟨g87, 5, none⟩ (.int .i64 p.owner)).heap.size ∧ Hid ((World.setCell (World.setCell (World.setCell (World.setCell (World.setCell (World.setCell V88 ⟨g87, 0, none⟩ (.int .i64 p.gen)) ⟨g87, 1, none⟩ (.string p.text)) ⟨g87, 2, none⟩ (.int .i64 p.pGen)) ⟨g87, 3, none⟩ (.string p.pText)) ⟨g87, 4, none⟩ (.int .i64 p.epoch)) ⟨g87, 5, none⟩ (.int .i64 p.owner)).heap[g87]? = some (.cells (knownC p).toArray 39 (0, 0)))) := ⟨by simp; exact g87h, Lib.hid (var_set (var_set (var_set (var_set (var_set (var_set g87b 0 (.int .i64 p.gen)) 1 (.string p.text)) 2 (.int .i64 p.pGen)) 3 (.string p.pText)) 4 (.int .i64 p.epoch)) 5 (.int .i64 p.owner))⟩
              refine wpAnyL_one (i := 9) (by kernel_rfl) ?_
              refine lexA_get rfl ?_
              try go_frame
              go_wp2_with fail
              refine ⟨fun _ => hb92, ?_⟩
              clear e0 e1 e2 e3 e4 e5 f0 g87b g87v g87h g87l hb90
              generalize (World.setCell (World.setCell (World.setCell (World.setCell (World.setCell (World.setCell V88 ⟨g87, 0, none⟩ (.int .i64 p.gen)) ⟨g87, 1, none⟩ (.string p.text)) ⟨g87, 2, none⟩ (.int .i64 p.pGen)) ⟨g87, 3, none⟩ (.string p.pText)) ⟨g87, 4, none⟩ (.int .i64 p.epoch)) ⟨g87, 5, none⟩ (.int .i64 p.owner)) = X91 at hb92 hv93 ⊢
              refine wpAnyL_writes [10] (by kernel_rfl) (LexW.cons rfl ?_)
              try go_frame
              go_wp2_with fail
              refine ⟨fun _ => hb92, LexW.nil ?_⟩
              have S94q := (S78.later hb92).out
              have S94 : All (fun w' => Below w.heap.size w w' ∧ Given w' ∧ Hid (w'.heap[w.heap.size]? = some (.cells (knownC x0).toArray 65 (0, 0))) ∧ Hid (w'.heap[w.heap.size + 1]? = some (.cells (recC x1).toArray 53 (0, 0))) ∧ (g69 < w'.heap.size ∧ Hid (w'.heap[g69]? = some (.cells (knownC p).toArray 39 (0, 0)))) ∧ (g87 < w'.heap.size ∧ Hid (w'.heap[g87]? = some (.cells (knownC p).toArray 39 (0, 0))))) X91 := ⟨S94q.1, S94q.2.1, S94q.2.2.1, S94q.2.2.2.1, S94q.2.2.2.2, hv93⟩
              clear S94q hb92 hv93
              obtain ⟨a0, a1, a2, a3, a4, a5⟩ := known_box S94.out.2.2.2.2.1.2.out
              obtain ⟨b0, b1, b2, b3, b4, b5⟩ := known_box S94.out.2.2.2.2.2.2.out
              go_wp2_with fail
              clear a0 a1 a2 a3 a4 a5 b0 b1 b2 b3 b4 b5
              refine (eqKnown_same p X91).mono ?_
              rintro e Y ⟨rfl, hb⟩
              replace S94 := S94.later hb
              clear hb
              go_wp2_with fail
              go_ret
              exact ⟨rfl, S94.out.1⟩
            · refine lexA_get rfl ?_
              try go_frame
              go_wp2_with fail
              have hb98 := hb84.alloc hb84.size (.cells #[.int .i64 0, .string ⟨#[]⟩, .int .i64 0, .string ⟨#[]⟩, .int .i64 0, .int .i64 0] 39)
              have hG97 : V83.heap.size < (V83.alloc (.cells #[.int .i64 0, .string ⟨#[]⟩, .int .i64 0, .string ⟨#[]⟩, .int .i64 0, .int .i64 0] 39)).heap.size ∧ Hid ((V83.alloc (.cells #[.int .i64 0, .string ⟨#[]⟩, .int .i64 0, .string ⟨#[]⟩, .int .i64 0, .int .i64 0] 39)).heap[V83.heap.size]? = some (.cells #[.int .i64 0, .string ⟨#[]⟩, .int .i64 0, .string ⟨#[]⟩, .int .i64 0, .int .i64 0] 39 (0, 0))) := ⟨by simp, Lib.hid (heap_alloc_new V83 _)⟩
              have g95l := hb84.size
              refine ⟨fun _ => hb98, ?_⟩
              generalize V83.alloc (.cells #[.int .i64 0, .string ⟨#[]⟩, .int .i64 0, .string ⟨#[]⟩, .int .i64 0, .int .i64 0] 39) = V96 at hb98 hG97 ⊢
              generalize V83.heap.size = g95 at hG97 g95l ⊢
              clear hb84
              refine wpAnyL_one (i := 4) (by kernel_rfl) ?_
              refine lexA_get rfl ?_
              try go_frame
              go_wp2_with fail
              refine (applyI_any x0 x1 _ ((S78.later hb98)).out.2.1 hf.1 hf.2 hf3).mono ?_
              rw [HP.out]
              rintro e V99 ⟨rfl, hb100⟩
              replace hG97 := Keeps.keeps (F := fun w' => g95 < w'.heap.size ∧ Hid (w'.heap[g95]? = some (.cells #[.int .i64 0, .string ⟨#[]⟩, .int .i64 0, .string ⟨#[]⟩, .int .i64 0, .int .i64 0] 39 (0, 0)))) hb100 hG97
              replace hb100 : Below X75.heap.size X75 V99 := Later.trans hb98 hb100
              clear hb98
              unfold knownC
              go_wp2_with fail
              refine ⟨fun _ => hb100, ?_⟩
              refine wpAnyL_reads [5, 6, 7] (fuel := 2) (by kernel_rfl) hb100 ?_
              iterate 3 (refine LexR.cons rfl ?_ (fun w' hw => ?_) ?_; rotate_left; focus (go_simp; (try exact rfl)); (try go_frame))
              refine LexR.nil ?_
              obtain ⟨g95h, g95v⟩ := hG97
              have g95b : V99.heap[g95]? = some (.cells (knownC knownZero).toArray 39 (0, 0)) := g95v.out
              obtain ⟨e0, e1, e2, e3, e4, e5⟩ := known_box g95b
              have f0 := fun i => var_frozen g95b i
              have hb102 : Below X75.heap.size X75 (World.setCell (World.setCell (World.setCell (World.setCell (World.setCell (World.setCell V99 ⟨g95, 0, none⟩ (.int .i64 p.gen)) ⟨g95, 1, none⟩ (.string p.text)) ⟨g95, 2, none⟩ (.int .i64 p.pGen)) ⟨g95, 3, none⟩ (.string p.pText)) ⟨g95, 4, none⟩ (.int .i64 p.epoch)) ⟨g95, 5, none⟩ (.int .i64 p.owner)) := ((((((hb100.setCell (p := ⟨g95, 0, none⟩) g95l (.int .i64 p.gen)).setCell (p := ⟨g95, 1, none⟩) g95l (.string p.text)).setCell (p := ⟨g95, 2, none⟩) g95l (.int .i64 p.pGen)).setCell (p := ⟨g95, 3, none⟩) g95l (.string p.pText)).setCell (p := ⟨g95, 4, none⟩) g95l (.int .i64 p.epoch)).setCell (p := ⟨g95, 5, none⟩) g95l (.int .i64 p.owner))
              have hv103 : (g95 < (World.setCell (World.setCell (World.setCell (World.setCell (World.setCell (World.setCell V99 ⟨g95, 0, none⟩ (.int .i64 p.gen)) ⟨g95, 1, none⟩ (.string p.text)) ⟨g95, 2, none⟩ (.int .i64 p.pGen)) ⟨g95, 3, none⟩ (.string p.pText)) ⟨g95, 4, none⟩ (.int .i64 p.epoch)) ⟨g95, 5, none⟩ (.int .i64 p.owner)).heap.size ∧ Hid ((World.setCell (World.setCell (World.setCell (World.setCell (World.setCell (World.setCell V99 ⟨g95, 0, none⟩ (.int .i64 p.gen)) ⟨g95, 1, none⟩ (.string p.text)) ⟨g95, 2, none⟩ (.int .i64 p.pGen)) ⟨g95, 3, none⟩ (.string p.pText)) ⟨g95, 4, none⟩ (.int .i64 p.epoch)) ⟨g95, 5, none⟩ (.int .i64 p.owner)).heap[g95]? = some (.cells (knownC p).toArray 39 (0, 0)))) := ⟨by simp; exact g95h, Lib.hid (var_set (var_set (var_set (var_set (var_set (var_set g95b 0 (.int .i64 p.gen)) 1 (.string p.text)) 2 (.int .i64 p.pGen)) 3 (.string p.pText)) 4 (.int .i64 p.epoch)) 5 (.int .i64 p.owner))⟩
              refine wpAnyL_one (i := 9) (by kernel_rfl) ?_
              refine lexA_get rfl ?_
              try go_frame
              go_wp2_with fail
              refine ⟨fun _ => hb102, ?_⟩
              clear e0 e1 e2 e3 e4 e5 f0 g95b g95v g95h g95l hb100
              generalize (World.setCell (World.setCell (World.setCell (World.setCell (World.setCell (World.setCell V99 ⟨g95, 0, none⟩ (.int .i64 p.gen)) ⟨g95, 1, none⟩ (.string p.text)) ⟨g95, 2, none⟩ (.int .i64 p.pGen)) ⟨g95, 3, none⟩ (.string p.pText)) ⟨g95, 4, none⟩ (.int .i64 p.epoch)) ⟨g95, 5, none⟩ (.int .i64 p.owner)) = X101 at hb102 hv103 ⊢
              refine wpAnyL_writes [10] (by kernel_rfl) (LexW.cons rfl ?_)
              try go_frame
              go_wp2_with fail
              refine ⟨fun _ => hb102, LexW.nil ?_⟩
              have S104q := (S78.later hb102).out
              have S104 : All (fun w' => Below w.heap.size w w' ∧ Given w' ∧ Hid (w'.heap[w.heap.size]? = some (.cells (knownC x0).toArray 65 (0, 0))) ∧ Hid (w'.heap[w.heap.size + 1]? = some (.cells (recC x1).toArray 53 (0, 0))) ∧ (g69 < w'.heap.size ∧ Hid (w'.heap[g69]? = some (.cells (knownC p).toArray 39 (0, 0)))) ∧ (g95 < w'.heap.size ∧ Hid (w'.heap[g95]? = some (.cells (knownC p).toArray 39 (0, 0))))) X101 := ⟨S104q.1, S104q.2.1, S104q.2.2.1, S104q.2.2.2.1, S104q.2.2.2.2, hv103⟩
              clear S104q hb102 hv103
              obtain ⟨a0, a1, a2, a3, a4, a5⟩ := known_box S104.out.2.2.2.2.1.2.out
              obtain ⟨b0, b1, b2, b3, b4, b5⟩ := known_box S104.out.2.2.2.2.2.2.out
              go_wp2_with fail
              clear a0 a1 a2 a3 a4 a5 b0 b1 b2 b3 b4 b5
              refine (eqKnown_same p X101).mono ?_
              rintro e Y ⟨rfl, hb⟩
              replace S104 := S104.later hb
              clear hb
              go_wp2_with fail
              go_ret
              exact ⟨rfl, S104.out.1⟩
          · refine lexA_get rfl ?_
            try go_frame
            go_wp2_with fail
            have hb108 := hb82.alloc hb82.size (.cells #[.int .i64 0, .string ⟨#[]⟩, .int .i64 0, .string ⟨#[]⟩, .int .i64 0, .int .i64 0] 39)
            have hG107 : V81.heap.size < (V81.alloc (.cells #[.int .i64 0, .string ⟨#[]⟩, .int .i64 0, .string ⟨#[]⟩, .int .i64 0, .int .i64 0] 39)).heap.size ∧ Hid ((V81.alloc (.cells #[.int .i64 0, .string ⟨#[]⟩, .int .i64 0, .string ⟨#[]⟩, .int .i64 0, .int .i64 0] 39)).heap[V81.heap.size]? = some (.cells #[.int .i64 0, .string ⟨#[]⟩, .int .i64 0, .string ⟨#[]⟩, .int .i64 0, .int .i64 0] 39 (0, 0))) := ⟨by simp, Lib.hid (heap_alloc_new V81 _)⟩
            have g105l := hb82.size
            refine ⟨fun _ => hb108, ?_⟩
            generalize V81.alloc (.cells #[.int .i64 0, .string ⟨#[]⟩, .int .i64 0, .string ⟨#[]⟩, .int .i64 0, .int .i64 0] 39) = V106 at hb108 hG107 ⊢
            generalize V81.heap.size = g105 at hG107 g105l ⊢
            clear hb82
            refine wpAnyL_one (i := 3) (by kernel_rfl) ?_
            refine lexA_get rfl ?_
            try go_frame
            go_wp2_with fail
            refine (toRec_any x1 _).mono ?_
            rintro e V109 ⟨rfl, hb110⟩
            replace hG107 := Keeps.keeps (F := fun w' => g105 < w'.heap.size ∧ Hid (w'.heap[g105]? = some (.cells #[.int .i64 0, .string ⟨#[]⟩, .int .i64 0, .string ⟨#[]⟩, .int .i64 0, .int .i64 0] 39 (0, 0)))) hb110 hG107
            replace hb110 : Below X75.heap.size X75 V109 := Later.trans hb108 hb110
            clear hb108
            go_wp2_with fail
            refine ⟨fun _ => hb110, ?_⟩
            refine wpAnyL_one (i := 4) (by kernel_rfl) ?_
            refine lexA_get rfl ?_
            try go_frame
            go_wp2_with fail
            refine (applyI_any x0 x1 _ ((S78.later hb110)).out.2.1 hf.1 hf.2 hf3).mono ?_
            rw [HP.out]
            rintro e V111 ⟨rfl, hb112⟩
            replace hG107 := Keeps.keeps (F := fun w' => g105 < w'.heap.size ∧ Hid (w'.heap[g105]? = some (.cells #[.int .i64 0, .string ⟨#[]⟩, .int .i64 0, .string ⟨#[]⟩, .int .i64 0, .int .i64 0] 39 (0, 0)))) hb112 hG107
            replace hb112 : Below X75.heap.size X75 V111 := Later.trans hb110 hb112
            clear hb110
            unfold knownC
            go_wp2_with fail
            refine ⟨fun _ => hb112, ?_⟩
            refine wpAnyL_reads [5, 6, 7] (fuel := 2) (by kernel_rfl) hb112 ?_
            iterate 3 (refine LexR.cons rfl ?_ (fun w' hw => ?_) ?_; rotate_left; focus (go_simp; (try exact rfl)); (try go_frame))
            refine LexR.nil ?_
            obtain ⟨g105h, g105v⟩ := hG107
            have g105b : V111.heap[g105]? = some (.cells (knownC knownZero).toArray 39 (0, 0)) := g105v.out
            obtain ⟨e0, e1, e2, e3, e4, e5⟩ := known_box g105b
            have f0 := fun i => var_frozen g105b i
            have hb114 : Below X75.heap.size X75 (World.setCell (World.setCell (World.setCell (World.setCell (World.setCell (World.setCell V111 ⟨g105, 0, none⟩ (.int .i64 p.gen)) ⟨g105, 1, none⟩ (.string p.text)) ⟨g105, 2, none⟩ (.int .i64 p.pGen)) ⟨g105, 3, none⟩ (.string p.pText)) ⟨g105, 4, none⟩ (.int .i64 p.epoch)) ⟨g105, 5, none⟩ (.int .i64 p.owner)) := ((((((hb112.setCell (p := ⟨g105, 0, none⟩) g105l (.int .i64 p.gen)).setCell (p := ⟨g105, 1, none⟩) g105l (.string p.text)).setCell (p := ⟨g105, 2, none⟩) g105l (.int .i64 p.pGen)).setCell (p := ⟨g105, 3, none⟩) g105l (.string p.pText)).setCell (p := ⟨g105, 4, none⟩) g105l (.int .i64 p.epoch)).setCell (p := ⟨g105, 5, none⟩) g105l (.int .i64 p.owner))
            have hv115 : (g105 < (World.setCell (World.setCell (World.setCell (World.setCell (World.setCell (World.setCell V111 ⟨g105, 0, none⟩ (.int .i64 p.gen)) ⟨g105, 1, none⟩ (.string p.text)) ⟨g105, 2, none⟩ (.int .i64 p.pGen)) ⟨g105, 3, none⟩ (.string p.pText)) ⟨g105, 4, none⟩ (.int .i64 p.epoch)) ⟨g105, 5, none⟩ (.int .i64 p.owner)).heap.size ∧ Hid ((World.setCell (World.setCell (World.setCell (World.setCell (World.setCell (World.setCell V111 ⟨g105, 0, none⟩ (.int .i64 p.gen)) ⟨g105, 1, none⟩ (.string p.text)) ⟨g105, 2, none⟩ (.int .i64 p.pGen)) ⟨g105, 3, none⟩ (.string p.pText)) ⟨g105, 4, none⟩ (.int .i64 p.epoch)) ⟨g105, 5, none⟩ (.int .i64 p.owner)).heap[g105]? = some (.cells (knownC p).toArray 39 (0, 0)))) := ⟨by simp; exact g105h, Lib.hid (var_set (var_set (var_set (var_set (var_set (var_set g105b 0 (.int .i64 p.gen)) 1 (.string p.text)) 2 (.int .i64 p.pGen)) 3 (.string p.pText)) 4 (.int .i64 p.epoch)) 5 (.int .i64 p.owner))⟩
            refine wpAnyL_one (i := 9) (by kernel_rfl) ?_
            refine lexA_get rfl ?_
            try go_frame
            go_wp2_with fail
            refine ⟨fun _ => hb114, ?_⟩
            clear e0 e1 e2 e3 e4 e5 f0 g105b g105v g105h g105l hb112
            generalize (World.setCell (World.setCell (World.setCell (World.setCell (World.setCell (World.setCell V111 ⟨g105, 0, none⟩ (.int .i64 p.gen)) ⟨g105, 1, none⟩ (.string p.text)) ⟨g105, 2, none⟩ (.int .i64 p.pGen)) ⟨g105, 3, none⟩ (.string p.pText)) ⟨g105, 4, none⟩ (.int .i64 p.epoch)) ⟨g105, 5, none⟩ (.int .i64 p.owner)) = X113 at hb114 hv115 ⊢
            refine wpAnyL_writes [10] (by kernel_rfl) (LexW.cons rfl ?_)
            try go_frame
            go_wp2_with fail
            refine ⟨fun _ => hb114, LexW.nil ?_⟩
            have S116q := (S78.later hb114).out
            have S116 : All (fun w' => Below w.heap.size w w' ∧ Given w' ∧ Hid (w'.heap[w.heap.size]? = some (.cells (knownC x0).toArray 65 (0, 0))) ∧ Hid (w'.heap[w.heap.size + 1]? = some (.cells (recC x1).toArray 53 (0, 0))) ∧ (g69 < w'.heap.size ∧ Hid (w'.heap[g69]? = some (.cells (knownC p).toArray 39 (0, 0)))) ∧ (g105 < w'.heap.size ∧ Hid (w'.heap[g105]? = some (.cells (knownC p).toArray 39 (0, 0))))) X113 := ⟨S116q.1, S116q.2.1, S116q.2.2.1, S116q.2.2.2.1, S116q.2.2.2.2, hv115⟩
            clear S116q hb114 hv115
            obtain ⟨a0, a1, a2, a3, a4, a5⟩ := known_box S116.out.2.2.2.2.1.2.out
            obtain ⟨b0, b1, b2, b3, b4, b5⟩ := known_box S116.out.2.2.2.2.2.2.out
            go_wp2_with fail
            clear a0 a1 a2 a3 a4 a5 b0 b1 b2 b3 b4 b5
            refine (eqKnown_same p X113).mono ?_
            rintro e Y ⟨rfl, hb⟩
            replace S116 := S116.later hb
            clear hb
            go_wp2_with fail
            go_ret
            exact ⟨rfl, S116.out.1⟩
        · refine lexA_get rfl ?_
          try go_frame
          go_wp2_with fail
          have hb120 := hb79.alloc hb79.size (.cells #[.int .i64 0, .string ⟨#[]⟩, .int .i64 0, .string ⟨#[]⟩, .int .i64 0, .int .i64 0] 39)
          have hG119 : V80.heap.size < (V80.alloc (.cells #[.int .i64 0, .string ⟨#[]⟩, .int .i64 0, .string ⟨#[]⟩, .int .i64 0, .int .i64 0] 39)).heap.size ∧ Hid ((V80.alloc (.cells #[.int .i64 0, .string ⟨#[]⟩, .int .i64 0, .string ⟨#[]⟩, .int .i64 0, .int .i64 0] 39)).heap[V80.heap.size]? = some (.cells #[.int .i64 0, .string ⟨#[]⟩, .int .i64 0, .string ⟨#[]⟩, .int .i64 0, .int .i64 0] 39 (0, 0))) := ⟨by simp, Lib.hid (heap_alloc_new V80 _)⟩
          have g117l := hb79.size
          refine ⟨fun _ => hb120, ?_⟩
          generalize V80.alloc (.cells #[.int .i64 0, .string ⟨#[]⟩, .int .i64 0, .string ⟨#[]⟩, .int .i64 0, .int .i64 0] 39) = V118 at hb120 hG119 ⊢
          generalize V80.heap.size = g117 at hG119 g117l ⊢
          clear hb79
          refine wpAnyL_one (i := 1) (by kernel_rfl) ?_
          refine lexA_get rfl ?_
          try go_frame
          go_wp2_with fail
          refine (toKnown_any x0 _).mono ?_
          rintro e V121 ⟨rfl, hb122⟩
          replace hG119 := Keeps.keeps (F := fun w' => g117 < w'.heap.size ∧ Hid (w'.heap[g117]? = some (.cells #[.int .i64 0, .string ⟨#[]⟩, .int .i64 0, .string ⟨#[]⟩, .int .i64 0, .int .i64 0] 39 (0, 0)))) hb122 hG119
          replace hb122 : Below X75.heap.size X75 V121 := Later.trans hb120 hb122
          clear hb120
          go_wp2_with fail
          refine ⟨fun _ => hb122, ?_⟩
          refine wpAnyL_one (i := 3) (by kernel_rfl) ?_
          refine lexA_get rfl ?_
          try go_frame
          go_wp2_with fail
          refine (toRec_any x1 _).mono ?_
          rintro e V123 ⟨rfl, hb124⟩
          replace hG119 := Keeps.keeps (F := fun w' => g117 < w'.heap.size ∧ Hid (w'.heap[g117]? = some (.cells #[.int .i64 0, .string ⟨#[]⟩, .int .i64 0, .string ⟨#[]⟩, .int .i64 0, .int .i64 0] 39 (0, 0)))) hb124 hG119
          replace hb124 : Below X75.heap.size X75 V123 := Later.trans hb122 hb124
          clear hb122
          go_wp2_with fail
          refine ⟨fun _ => hb124, ?_⟩
          refine wpAnyL_one (i := 4) (by kernel_rfl) ?_
          refine lexA_get rfl ?_
          try go_frame
          go_wp2_with fail
          refine (applyI_any x0 x1 _ ((S78.later hb124)).out.2.1 hf.1 hf.2 hf3).mono ?_
          rw [HP.out]
          rintro e V125 ⟨rfl, hb126⟩
          replace hG119 := Keeps.keeps (F := fun w' => g117 < w'.heap.size ∧ Hid (w'.heap[g117]? = some (.cells #[.int .i64 0, .string ⟨#[]⟩, .int .i64 0, .string ⟨#[]⟩, .int .i64 0, .int .i64 0] 39 (0, 0)))) hb126 hG119
          replace hb126 : Below X75.heap.size X75 V125 := Later.trans hb124 hb126
          clear hb124
          unfold knownC
          go_wp2_with fail
          refine ⟨fun _ => hb126, ?_⟩
          refine wpAnyL_reads [5, 6, 7] (fuel := 2) (by kernel_rfl) hb126 ?_
          iterate 3 (refine LexR.cons rfl ?_ (fun w' hw => ?_) ?_; rotate_left; focus (go_simp; (try exact rfl)); (try go_frame))
          refine LexR.nil ?_
          obtain ⟨g117h, g117v⟩ := hG119
          have g117b : V125.heap[g117]? = some (.cells (knownC knownZero).toArray 39 (0, 0)) := g117v.out
          obtain ⟨e0, e1, e2, e3, e4, e5⟩ := known_box g117b
          have f0 := fun i => var_frozen g117b i
          have hb128 : Below X75.heap.size X75 (World.setCell (World.setCell (World.setCell (World.setCell (World.setCell (World.setCell V125 ⟨g117, 0, none⟩ (.int .i64 p.gen)) ⟨g117, 1, none⟩ (.string p.text)) ⟨g117, 2, none⟩ (.int .i64 p.pGen)) ⟨g117, 3, none⟩ (.string p.pText)) ⟨g117, 4, none⟩ (.int .i64 p.epoch)) ⟨g117, 5, none⟩ (.int .i64 p.owner)) := ((((((hb126.setCell (p := ⟨g117, 0, none⟩) g117l (.int .i64 p.gen)).setCell (p := ⟨g117, 1, none⟩) g117l (.string p.text)).setCell (p := ⟨g117, 2, none⟩) g117l (.int .i64 p.pGen)).setCell (p := ⟨g117, 3, none⟩) g117l (.string p.pText)).setCell (p := ⟨g117, 4, none⟩) g117l (.int .i64 p.epoch)).setCell (p := ⟨g117, 5, none⟩) g117l (.int .i64 p.owner))
          have hv129 : (g117 < (World.setCell (World.setCell (World.setCell (World.setCell (World.setCell (World.setCell V125 ⟨g117, 0, none⟩ (.int .i64 p.gen)) ⟨g117, 1, none⟩ (.string p.text)) ⟨g117, 2, none⟩ (.int .i64 p.pGen)) ⟨g117, 3, none⟩ (.string p.pText)) ⟨g117, 4, none⟩ (.int .i64 p.epoch)) ⟨g117, 5, none⟩ (.int .i64 p.owner)).heap.size ∧ Hid ((World.setCell (World.setCell (World.setCell (World.setCell (World.setCell (World.setCell V125 ⟨g117, 0, none⟩ (.int .i64 p.gen)) ⟨g117, 1, none⟩ (.string p.text)) ⟨g117, 2, none⟩ (.int .i64 p.pGen)) ⟨g117, 3, none⟩ (.string p.pText)) ⟨g117, 4, none⟩ (.int .i64 p.epoch)) ⟨g117, 5, none⟩ (.int .i64 p.owner)).heap[g117]? = some (.cells (knownC p).toArray 39 (0, 0)))) := ⟨by simp; exact g117h, Lib.hid (var_set (var_set (var_set (var_set (var_set (var_set g117b 0 (.int .i64 p.gen)) 1 (.string p.text)) 2 (.int .i64 p.pGen)) 3 (.string p.pText)) 4 (.int .i64 p.epoch)) 5 (.int .i64 p.owner))⟩
          refine wpAnyL_one (i := 9) (by kernel_rfl) ?_
          refine lexA_get rfl ?_
          try go_frame
          go_wp2_with fail
          refine ⟨fun _ => hb128, ?_⟩
          clear e0 e1 e2 e3 e4 e5 f0 g117b g117v g117h g117l hb126
          generalize (World.setCell (World.setCell (World.setCell (World.setCell (World.setCell (World.setCell V125 ⟨g117, 0, none⟩ (.int .i64 p.gen)) ⟨g117, 1, none⟩ (.string p.text)) ⟨g117, 2, none⟩ (.int .i64 p.pGen)) ⟨g117, 3, none⟩ (.string p.pText)) ⟨g117, 4, none⟩ (.int .i64 p.epoch)) ⟨g117, 5, none⟩ (.int .i64 p.owner)) = X127 at hb128 hv129 ⊢
          refine wpAnyL_writes [10] (by kernel_rfl) (LexW.cons rfl ?_)
          try go_frame
          go_wp2_with fail
          refine ⟨fun _ => hb128, LexW.nil ?_⟩
          have S130q := (S78.later hb128).out
          have S130 : All (fun w' => Below w.heap.size w w' ∧ Given w' ∧ Hid (w'.heap[w.heap.size]? = some (.cells (knownC x0).toArray 65 (0, 0))) ∧ Hid (w'.heap[w.heap.size + 1]? = some (.cells (recC x1).toArray 53 (0, 0))) ∧ (g69 < w'.heap.size ∧ Hid (w'.heap[g69]? = some (.cells (knownC p).toArray 39 (0, 0)))) ∧ (g117 < w'.heap.size ∧ Hid (w'.heap[g117]? = some (.cells (knownC p).toArray 39 (0, 0))))) X127 := ⟨S130q.1, S130q.2.1, S130q.2.2.1, S130q.2.2.2.1, S130q.2.2.2.2, hv129⟩
          clear S130q hb128 hv129
          obtain ⟨a0, a1, a2, a3, a4, a5⟩ := known_box S130.out.2.2.2.2.1.2.out
          obtain ⟨b0, b1, b2, b3, b4, b5⟩ := known_box S130.out.2.2.2.2.2.2.out
          go_wp2_with fail
          clear a0 a1 a2 a3 a4 a5 b0 b1 b2 b3 b4 b5
          refine (eqKnown_same p X127).mono ?_
          rintro e Y ⟨rfl, hb⟩
          replace S130 := S130.later hb
          clear hb
          go_wp2_with fail
          go_ret
          exact ⟨rfl, S130.out.1⟩
    · refine lexA_get rfl ?_
      try go_frame
      go_wp2_with fail
      have hb134 := hb4.alloc hb4.size (.cells #[.int .i64 0, .string ⟨#[]⟩, .int .i64 0, .string ⟨#[]⟩, .int .i64 0, .int .i64 0] 39)
      have hG133 : V3.heap.size < (V3.alloc (.cells #[.int .i64 0, .string ⟨#[]⟩, .int .i64 0, .string ⟨#[]⟩, .int .i64 0, .int .i64 0] 39)).heap.size ∧ Hid ((V3.alloc (.cells #[.int .i64 0, .string ⟨#[]⟩, .int .i64 0, .string ⟨#[]⟩, .int .i64 0, .int .i64 0] 39)).heap[V3.heap.size]? = some (.cells #[.int .i64 0, .string ⟨#[]⟩, .int .i64 0, .string ⟨#[]⟩, .int .i64 0, .int .i64 0] 39 (0, 0))) := ⟨by simp, Lib.hid (heap_alloc_new V3 _)⟩
      have g131l := hb4.size
      refine ⟨fun _ => hb134, ?_⟩
      generalize V3.alloc (.cells #[.int .i64 0, .string ⟨#[]⟩, .int .i64 0, .string ⟨#[]⟩, .int .i64 0, .int .i64 0] 39) = V132 at hb134 hG133 ⊢
      generalize V3.heap.size = g131 at hG133 g131l ⊢
      clear hb4
      refine wpAnyL_one (i := 3) (by kernel_rfl) ?_
      refine lexA_get rfl ?_
      try go_frame
      go_wp2_with fail
      refine (toRec_any x1 _).mono ?_
      rintro e V135 ⟨rfl, hb136⟩
      replace hG133 := Keeps.keeps (F := fun w' => g131 < w'.heap.size ∧ Hid (w'.heap[g131]? = some (.cells #[.int .i64 0, .string ⟨#[]⟩, .int .i64 0, .string ⟨#[]⟩, .int .i64 0, .int .i64 0] 39 (0, 0)))) hb136 hG133
      replace hb136 : Below W3.heap.size W3 V135 := Later.trans hb134 hb136
      clear hb134
      go_wp2_with fail
      refine ⟨fun _ => hb136, ?_⟩
      refine wpAnyL_one (i := 4) (by kernel_rfl) ?_
      refine lexA_get rfl ?_
      try go_frame
      go_wp2_with fail
      refine (applyS_any x0 x1 _).mono ?_
      rw [HP.out]
      rintro e V137 ⟨rfl, hb138⟩
      replace hG133 := Keeps.keeps (F := fun w' => g131 < w'.heap.size ∧ Hid (w'.heap[g131]? = some (.cells #[.int .i64 0, .string ⟨#[]⟩, .int .i64 0, .string ⟨#[]⟩, .int .i64 0, .int .i64 0] 39 (0, 0)))) hb138 hG133
      replace hb138 : Below W3.heap.size W3 V137 := Later.trans hb136 hb138
      clear hb136
      unfold knownC
      go_wp2_with fail
      refine ⟨fun _ => hb138, ?_⟩
      refine wpAnyL_reads [5, 6, 7] (fuel := 2) (by kernel_rfl) hb138 ?_
      iterate 3 (refine LexR.cons rfl ?_ (fun w' hw => ?_) ?_; rotate_left; focus (go_simp; (try exact rfl)); (try go_frame))
      refine LexR.nil ?_
      obtain ⟨g131h, g131v⟩ := hG133
      have g131b : V137.heap[g131]? = some (.cells (knownC knownZero).toArray 39 (0, 0)) := g131v.out
      obtain ⟨e0, e1, e2, e3, e4, e5⟩ := known_box g131b
      have f0 := fun i => var_frozen g131b i
      have hb140 : Below W3.heap.size W3 (World.setCell (World.setCell (World.setCell (World.setCell (World.setCell (World.setCell V137 ⟨g131, 0, none⟩ (.int .i64 p.gen)) ⟨g131, 1, none⟩ (.string p.text)) ⟨g131, 2, none⟩ (.int .i64 p.pGen)) ⟨g131, 3, none⟩ (.string p.pText)) ⟨g131, 4, none⟩ (.int .i64 p.epoch)) ⟨g131, 5, none⟩ (.int .i64 p.owner)) := ((((((hb138.setCell (p := ⟨g131, 0, none⟩) g131l (.int .i64 p.gen)).setCell (p := ⟨g131, 1, none⟩) g131l (.string p.text)).setCell (p := ⟨g131, 2, none⟩) g131l (.int .i64 p.pGen)).setCell (p := ⟨g131, 3, none⟩) g131l (.string p.pText)).setCell (p := ⟨g131, 4, none⟩) g131l (.int .i64 p.epoch)).setCell (p := ⟨g131, 5, none⟩) g131l (.int .i64 p.owner))
      have hv141 : (g131 < (World.setCell (World.setCell (World.setCell (World.setCell (World.setCell (World.setCell V137 ⟨g131, 0, none⟩ (.int .i64 p.gen)) ⟨g131, 1, none⟩ (.string p.text)) ⟨g131, 2, none⟩ (.int .i64 p.pGen)) ⟨g131, 3, none⟩ (.string p.pText)) ⟨g131, 4, none⟩ (.int .i64 p.epoch)) ⟨g131, 5, none⟩ (.int .i64 p.owner)).heap.size ∧ Hid ((World.setCell (World.setCell (World.setCell (World.setCell (World.setCell (World.setCell V137 ⟨g131, 0, none⟩ (.int .i64 p.gen)) ⟨g131, 1, none⟩ (.string p.text)) ⟨g131, 2, none⟩ (.int .i64 p.pGen)) ⟨g131, 3, none⟩ (.string p.pText)) ⟨g131, 4, none⟩ (.int .i64 p.epoch)) ⟨g131, 5, none⟩ (.int .i64 p.owner)).heap[g131]? = some (.cells (knownC p).toArray 39 (0, 0)))) := ⟨by simp; exact g131h, Lib.hid (var_set (var_set (var_set (var_set (var_set (var_set g131b 0 (.int .i64 p.gen)) 1 (.string p.text)) 2 (.int .i64 p.pGen)) 3 (.string p.pText)) 4 (.int .i64 p.epoch)) 5 (.int .i64 p.owner))⟩
      refine wpAnyL_one (i := 9) (by kernel_rfl) ?_
      refine lexA_get rfl ?_
      try go_frame
      go_wp2_with fail
      refine ⟨fun _ => hb140, ?_⟩
      clear e0 e1 e2 e3 e4 e5 f0 g131b g131v g131h g131l hb138
      generalize (World.setCell (World.setCell (World.setCell (World.setCell (World.setCell (World.setCell V137 ⟨g131, 0, none⟩ (.int .i64 p.gen)) ⟨g131, 1, none⟩ (.string p.text)) ⟨g131, 2, none⟩ (.int .i64 p.pGen)) ⟨g131, 3, none⟩ (.string p.pText)) ⟨g131, 4, none⟩ (.int .i64 p.epoch)) ⟨g131, 5, none⟩ (.int .i64 p.owner)) = X139 at hb140 hv141 ⊢
      refine wpAnyL_writes [10] (by kernel_rfl) (LexW.cons rfl ?_)
      try go_frame
      go_wp2_with fail
      refine ⟨fun _ => hb140, LexW.nil ?_⟩
      have S142q := (S.later hb140).out
      have S142 : All (fun w' => Below w.heap.size w w' ∧ Given w' ∧ Hid (w'.heap[w.heap.size]? = some (.cells (knownC x0).toArray 65 (0, 0))) ∧ Hid (w'.heap[w.heap.size + 1]? = some (.cells (recC x1).toArray 53 (0, 0))) ∧ (g131 < w'.heap.size ∧ Hid (w'.heap[g131]? = some (.cells (knownC p).toArray 39 (0, 0))))) X139 := ⟨S142q.1, S142q.2.1, S142q.2.2.1, S142q.2.2.2, hv141⟩
      clear S142q hb140 hv141
      go_wp2_with fail
      refine wp_region_open 100 (fun w' => Below X139.heap.size X139 w') (by kernel_rfl) ?_
      have hb143 := Later.drew X139
      refine wpAnyL_reads [0, 2] (fuel := 9) (by kernel_rfl) hb143 ?_
      iterate 2 (refine LexR.cons rfl ?_ (fun w' hw => ?_) ?_; rotate_left; focus (have hS := S142.later hw; obtain ⟨c0, c1, c2, c3, c4, c5⟩ := known_box hS.out.2.2.1.out; obtain ⟨d0, d1, d2, d3⟩ := rec_box hS.out.2.2.2.1.out; clear hS; go_simp; (try exact rfl)); (try go_frame))
      refine LexR.nil ?_
      replace hb143 : Below X139.heap.size X139 X139.drew := hb143
      generalize X139.drew = V144 at hb143 ⊢
      refine wpAnyL_two (i := 1) (j := 8) (by kernel_rfl) ?_ ?_
      · refine lexA_get rfl ?_
        try go_frame
        go_wp2_with fail
        refine (toKnown_any x0 _).mono ?_
        rintro e V145 ⟨rfl, hb146⟩
        replace hb146 : Below X139.heap.size X139 V145 := Later.trans hb143 hb146
        clear hb143
        go_wp2_with fail
        refine ⟨fun _ => hb146, ?_⟩
        refine wpAnyL_two (i := 3) (j := 8) (by kernel_rfl) ?_ ?_
        · refine lexA_get rfl ?_
          try go_frame
          go_wp2_with fail
          refine (toRec_any x1 _).mono ?_
          rintro e V147 ⟨rfl, hb148⟩
          replace hb148 : Below X139.heap.size X139 V147 := Later.trans hb146 hb148
          clear hb146
          go_wp2_with fail
          refine ⟨fun _ => hb148, ?_⟩
          refine wpAnyL_two (i := 4) (j := 8) (by kernel_rfl) ?_ ?_
          · refine lexA_get rfl ?_
            try go_frame
            go_wp2_with fail
            refine (applyI_any x0 x1 _ ((S142.later hb148)).out.2.1 hf.1 hf.2 hf3).mono ?_
            rw [HP.out]
            rintro e V149 ⟨rfl, hb150⟩
            replace hb150 : Below X139.heap.size X139 V149 := Later.trans hb148 hb150
            clear hb148
            unfold knownC
            go_wp2_with fail
            refine ⟨fun _ => hb150, ?_⟩
            refine wpAnyL_reads [5, 6, 7] (fuel := 3) (by kernel_rfl) hb150 ?_
            iterate 3 (refine LexR.cons rfl ?_ (fun w' hw => ?_) ?_; rotate_left; focus (go_simp; (try exact rfl)); (try go_frame))
            refine LexR.nil ?_
            refine wpAnyL_one (i := 8) (by kernel_rfl) ?_
            refine lexA_get rfl ?_
            try go_frame
            go_wp2_with fail
            have hb154 := hb150.alloc hb150.size (.cells #[.int .i64 0, .string ⟨#[]⟩, .int .i64 0, .string ⟨#[]⟩, .int .i64 0, .int .i64 0] 39)
            have hG153 : V149.heap.size < (V149.alloc (.cells #[.int .i64 0, .string ⟨#[]⟩, .int .i64 0, .string ⟨#[]⟩, .int .i64 0, .int .i64 0] 39)).heap.size ∧ Hid ((V149.alloc (.cells #[.int .i64 0, .string ⟨#[]⟩, .int .i64 0, .string ⟨#[]⟩, .int .i64 0, .int .i64 0] 39)).heap[V149.heap.size]? = some (.cells #[.int .i64 0, .string ⟨#[]⟩, .int .i64 0, .string ⟨#[]⟩, .int .i64 0, .int .i64 0] 39 (0, 0))) := ⟨by simp, Lib.hid (heap_alloc_new V149 _)⟩
            have g151l := hb150.size
            refine ⟨fun _ => hb154, ?_⟩
            generalize V149.alloc (.cells #[.int .i64 0, .string ⟨#[]⟩, .int .i64 0, .string ⟨#[]⟩, .int .i64 0, .int .i64 0] 39) = V152 at hb154 hG153 ⊢
            generalize V149.heap.size = g151 at hG153 g151l ⊢
            clear hb150
            obtain ⟨g151h, g151v⟩ := hG153
            have g151b : V152.heap[g151]? = some (.cells (knownC knownZero).toArray 39 (0, 0)) := g151v.out
            obtain ⟨e0, e1, e2, e3, e4, e5⟩ := known_box g151b
            have f0 := fun i => var_frozen g151b i
            have hb156 : Below X139.heap.size X139 (World.setCell (World.setCell (World.setCell (World.setCell (World.setCell (World.setCell V152 ⟨g151, 0, none⟩ (.int .i64 p.gen)) ⟨g151, 1, none⟩ (.string p.text)) ⟨g151, 2, none⟩ (.int .i64 p.pGen)) ⟨g151, 3, none⟩ (.string p.pText)) ⟨g151, 4, none⟩ (.int .i64 p.epoch)) ⟨g151, 5, none⟩ (.int .i64 p.owner)) := ((((((hb154.setCell (p := ⟨g151, 0, none⟩) g151l (.int .i64 p.gen)).setCell (p := ⟨g151, 1, none⟩) g151l (.string p.text)).setCell (p := ⟨g151, 2, none⟩) g151l (.int .i64 p.pGen)).setCell (p := ⟨g151, 3, none⟩) g151l (.string p.pText)).setCell (p := ⟨g151, 4, none⟩) g151l (.int .i64 p.epoch)).setCell (p := ⟨g151, 5, none⟩) g151l (.int .i64 p.owner))
            have hv157 : (g151 < (World.setCell (World.setCell (World.setCell (World.setCell (World.setCell (World.setCell V152 ⟨g151, 0, none⟩ (.int .i64 p.gen)) ⟨g151, 1, none⟩ (.string p.text)) ⟨g151, 2, none⟩ (.int .i64 p.pGen)) ⟨g151, 3, none⟩ (.string p.pText)) ⟨g151, 4, none⟩ (.int .i64 p.epoch)) ⟨g151, 5, none⟩ (.int .i64 p.owner)).heap.size ∧ Hid ((World.setCell (World.setCell (World.setCell (World.setCell (World.setCell (World.setCell V152 ⟨g151, 0, none⟩ (.int .i64 p.gen)) ⟨g151, 1, none⟩ (.string p.text)) ⟨g151, 2, none⟩ (.int .i64 p.pGen)) ⟨g151, 3, none⟩ (.string p.pText)) ⟨g151, 4, none⟩ (.int .i64 p.epoch)) ⟨g151, 5, none⟩ (.int .i64 p.owner)).heap[g151]? = some (.cells (knownC p).toArray 39 (0, 0)))) := ⟨by simp; exact g151h, Lib.hid (var_set (var_set (var_set (var_set (var_set (var_set g151b 0 (.int .i64 p.gen)) 1 (.string p.text)) 2 (.int .i64 p.pGen)) 3 (.string p.pText)) 4 (.int .i64 p.epoch)) 5 (.int .i64 p.owner))⟩
            refine wpAnyL_one (i := 9) (by kernel_rfl) ?_
            refine lexA_get rfl ?_
            try go_frame
            go_wp2_with fail
            refine ⟨fun _ => hb156, ?_⟩
            clear e0 e1 e2 e3 e4 e5 f0 g151b g151v g151h g151l hb154
            generalize (World.setCell (World.setCell (World.setCell (World.setCell (World.setCell (World.setCell V152 ⟨g151, 0, none⟩ (.int .i64 p.gen)) ⟨g151, 1, none⟩ (.string p.text)) ⟨g151, 2, none⟩ (.int .i64 p.pGen)) ⟨g151, 3, none⟩ (.string p.pText)) ⟨g151, 4, none⟩ (.int .i64 p.epoch)) ⟨g151, 5, none⟩ (.int .i64 p.owner)) = X155 at hb156 hv157 ⊢
            refine wpAnyL_writes [10] (by kernel_rfl) (LexW.cons rfl ?_)
            try go_frame
            go_wp2_with fail
            refine ⟨fun _ => hb156, LexW.nil ?_⟩
            have S158q := (S142.later hb156).out
            have S158 : All (fun w' => Below w.heap.size w w' ∧ Given w' ∧ Hid (w'.heap[w.heap.size]? = some (.cells (knownC x0).toArray 65 (0, 0))) ∧ Hid (w'.heap[w.heap.size + 1]? = some (.cells (recC x1).toArray 53 (0, 0))) ∧ (g131 < w'.heap.size ∧ Hid (w'.heap[g131]? = some (.cells (knownC p).toArray 39 (0, 0)))) ∧ (g151 < w'.heap.size ∧ Hid (w'.heap[g151]? = some (.cells (knownC p).toArray 39 (0, 0))))) X155 := ⟨S158q.1, S158q.2.1, S158q.2.2.1, S158q.2.2.2.1, S158q.2.2.2.2, hv157⟩
            clear S158q hb156 hv157
            obtain ⟨a0, a1, a2, a3, a4, a5⟩ := known_box S158.out.2.2.2.2.1.2.out
            obtain ⟨b0, b1, b2, b3, b4, b5⟩ := known_box S158.out.2.2.2.2.2.2.out
            go_wp2_with fail
            clear a0 a1 a2 a3 a4 a5 b0 b1 b2 b3 b4 b5
            refine (eqKnown_same p X155).mono ?_
            rintro e Y ⟨rfl, hb⟩
            replace S158 := S158.later hb
            clear hb
            go_wp2_with fail
            go_ret
            exact ⟨rfl, S158.out.1⟩
          · refine lexA_get rfl ?_
            try go_frame
            go_wp2_with fail
            have hb162 := hb148.alloc hb148.size (.cells #[.int .i64 0, .string ⟨#[]⟩, .int .i64 0, .string ⟨#[]⟩, .int .i64 0, .int .i64 0] 39)
            have hG161 : V147.heap.size < (V147.alloc (.cells #[.int .i64 0, .string ⟨#[]⟩, .int .i64 0, .string ⟨#[]⟩, .int .i64 0, .int .i64 0] 39)).heap.size ∧ Hid ((V147.alloc (.cells #[.int .i64 0, .string ⟨#[]⟩, .int .i64 0, .string ⟨#[]⟩, .int .i64 0, .int .i64 0] 39)).heap[V147.heap.size]? = some (.cells #[.int .i64 0, .string ⟨#[]⟩, .int .i64 0, .string ⟨#[]⟩, .int .i64 0, .int .i64 0] 39 (0, 0))) := ⟨by simp, Lib.hid (heap_alloc_new V147 _)⟩
            have g159l := hb148.size
            refine ⟨fun _ => hb162, ?_⟩
            generalize V147.alloc (.cells #[.int .i64 0, .string ⟨#[]⟩, .int .i64 0, .string ⟨#[]⟩, .int .i64 0, .int .i64 0] 39) = V160 at hb162 hG161 ⊢
            generalize V147.heap.size = g159 at hG161 g159l ⊢
            clear hb148
            refine wpAnyL_one (i := 4) (by kernel_rfl) ?_
            refine lexA_get rfl ?_
            try go_frame
            go_wp2_with fail
            refine (applyI_any x0 x1 _ ((S142.later hb162)).out.2.1 hf.1 hf.2 hf3).mono ?_
            rw [HP.out]
            rintro e V163 ⟨rfl, hb164⟩
            replace hG161 := Keeps.keeps (F := fun w' => g159 < w'.heap.size ∧ Hid (w'.heap[g159]? = some (.cells #[.int .i64 0, .string ⟨#[]⟩, .int .i64 0, .string ⟨#[]⟩, .int .i64 0, .int .i64 0] 39 (0, 0)))) hb164 hG161
            replace hb164 : Below X139.heap.size X139 V163 := Later.trans hb162 hb164
            clear hb162
            unfold knownC
            go_wp2_with fail
            refine ⟨fun _ => hb164, ?_⟩
            refine wpAnyL_reads [5, 6, 7] (fuel := 2) (by kernel_rfl) hb164 ?_
            iterate 3 (refine LexR.cons rfl ?_ (fun w' hw => ?_) ?_; rotate_left; focus (go_simp; (try exact rfl)); (try go_frame))
            refine LexR.nil ?_
            obtain ⟨g159h, g159v⟩ := hG161
            have g159b : V163.heap[g159]? = some (.cells (knownC knownZero).toArray 39 (0, 0)) := g159v.out
            obtain ⟨e0, e1, e2, e3, e4, e5⟩ := known_box g159b
            have f0 := fun i => var_frozen g159b i
            have hb166 : Below X139.heap.size X139 (World.setCell (World.setCell (World.setCell (World.setCell (World.setCell (World.setCell V163 ⟨g159, 0, none⟩ (.int .i64 p.gen)) ⟨g159, 1, none⟩ (.string p.text)) ⟨g159, 2, none⟩ (.int .i64 p.pGen)) ⟨g159, 3, none⟩ (.string p.pText)) ⟨g159, 4, none⟩ (.int .i64 p.epoch)) ⟨g159, 5, none⟩ (.int .i64 p.owner)) := ((((((hb164.setCell (p := ⟨g159, 0, none⟩) g159l (.int .i64 p.gen)).setCell (p := ⟨g159, 1, none⟩) g159l (.string p.text)).setCell (p := ⟨g159, 2, none⟩) g159l (.int .i64 p.pGen)).setCell (p := ⟨g159, 3, none⟩) g159l (.string p.pText)).setCell (p := ⟨g159, 4, none⟩) g159l (.int .i64 p.epoch)).setCell (p := ⟨g159, 5, none⟩) g159l (.int .i64 p.owner))
            have hv167 : (g159 < (World.setCell (World.setCell (World.setCell (World.setCell (World.setCell (World.setCell V163 ⟨g159, 0, none⟩ (.int .i64 p.gen)) ⟨g159, 1, none⟩ (.string p.text)) ⟨g159, 2, none⟩ (.int .i64 p.pGen)) ⟨g159, 3, none⟩ (.string p.pText)) ⟨g159, 4, none⟩ (.int .i64 p.epoch)) ⟨g159, 5, none⟩ (.int .i64 p.owner)).heap.size ∧ Hid ((World.setCell (World.setCell (World.setCell (World.setCell (World.setCell (World.setCell V163 ⟨g159, 0, none⟩ (.int .i64 p.gen)) ⟨g159, 1, none⟩ (.string p.text)) ⟨g159, 2, none⟩ (.int .i64 p.pGen)) ⟨g159, 3, none⟩ (.string p.pText)) ⟨g159, 4, none⟩ (.int .i64 p.epoch)) ⟨g159, 5, none⟩ (.int .i64 p.owner)).heap[g159]? = some (.cells (knownC p).toArray 39 (0, 0)))) := ⟨by simp; exact g159h, Lib.hid (var_set (var_set (var_set (var_set (var_set (var_set g159b 0 (.int .i64 p.gen)) 1 (.string p.text)) 2 (.int .i64 p.pGen)) 3 (.string p.pText)) 4 (.int .i64 p.epoch)) 5 (.int .i64 p.owner))⟩
            refine wpAnyL_one (i := 9) (by kernel_rfl) ?_
            refine lexA_get rfl ?_
            try go_frame
            go_wp2_with fail
            refine ⟨fun _ => hb166, ?_⟩
            clear e0 e1 e2 e3 e4 e5 f0 g159b g159v g159h g159l hb164
            generalize (World.setCell (World.setCell (World.setCell (World.setCell (World.setCell (World.setCell V163 ⟨g159, 0, none⟩ (.int .i64 p.gen)) ⟨g159, 1, none⟩ (.string p.text)) ⟨g159, 2, none⟩ (.int .i64 p.pGen)) ⟨g159, 3, none⟩ (.string p.pText)) ⟨g159, 4, none⟩ (.int .i64 p.epoch)) ⟨g159, 5, none⟩ (.int .i64 p.owner)) = X165 at hb166 hv167 ⊢
            refine wpAnyL_writes [10] (by kernel_rfl) (LexW.cons rfl ?_)
            try go_frame
            go_wp2_with fail
            refine ⟨fun _ => hb166, LexW.nil ?_⟩
            have S168q := (S142.later hb166).out
            have S168 : All (fun w' => Below w.heap.size w w' ∧ Given w' ∧ Hid (w'.heap[w.heap.size]? = some (.cells (knownC x0).toArray 65 (0, 0))) ∧ Hid (w'.heap[w.heap.size + 1]? = some (.cells (recC x1).toArray 53 (0, 0))) ∧ (g131 < w'.heap.size ∧ Hid (w'.heap[g131]? = some (.cells (knownC p).toArray 39 (0, 0)))) ∧ (g159 < w'.heap.size ∧ Hid (w'.heap[g159]? = some (.cells (knownC p).toArray 39 (0, 0))))) X165 := ⟨S168q.1, S168q.2.1, S168q.2.2.1, S168q.2.2.2.1, S168q.2.2.2.2, hv167⟩
            clear S168q hb166 hv167
            obtain ⟨a0, a1, a2, a3, a4, a5⟩ := known_box S168.out.2.2.2.2.1.2.out
            obtain ⟨b0, b1, b2, b3, b4, b5⟩ := known_box S168.out.2.2.2.2.2.2.out
            go_wp2_with fail
            clear a0 a1 a2 a3 a4 a5 b0 b1 b2 b3 b4 b5
            refine (eqKnown_same p X165).mono ?_
            rintro e Y ⟨rfl, hb⟩
            replace S168 := S168.later hb
            clear hb
            go_wp2_with fail
            go_ret
            exact ⟨rfl, S168.out.1⟩
        · refine lexA_get rfl ?_
          try go_frame
          go_wp2_with fail
          have hb172 := hb146.alloc hb146.size (.cells #[.int .i64 0, .string ⟨#[]⟩, .int .i64 0, .string ⟨#[]⟩, .int .i64 0, .int .i64 0] 39)
          have hG171 : V145.heap.size < (V145.alloc (.cells #[.int .i64 0, .string ⟨#[]⟩, .int .i64 0, .string ⟨#[]⟩, .int .i64 0, .int .i64 0] 39)).heap.size ∧ Hid ((V145.alloc (.cells #[.int .i64 0, .string ⟨#[]⟩, .int .i64 0, .string ⟨#[]⟩, .int .i64 0, .int .i64 0] 39)).heap[V145.heap.size]? = some (.cells #[.int .i64 0, .string ⟨#[]⟩, .int .i64 0, .string ⟨#[]⟩, .int .i64 0, .int .i64 0] 39 (0, 0))) := ⟨by simp, Lib.hid (heap_alloc_new V145 _)⟩
          have g169l := hb146.size
          refine ⟨fun _ => hb172, ?_⟩
          generalize V145.alloc (.cells #[.int .i64 0, .string ⟨#[]⟩, .int .i64 0, .string ⟨#[]⟩, .int .i64 0, .int .i64 0] 39) = V170 at hb172 hG171 ⊢
          generalize V145.heap.size = g169 at hG171 g169l ⊢
          clear hb146
          refine wpAnyL_one (i := 3) (by kernel_rfl) ?_
          refine lexA_get rfl ?_
          try go_frame
          go_wp2_with fail
          refine (toRec_any x1 _).mono ?_
          rintro e V173 ⟨rfl, hb174⟩
          replace hG171 := Keeps.keeps (F := fun w' => g169 < w'.heap.size ∧ Hid (w'.heap[g169]? = some (.cells #[.int .i64 0, .string ⟨#[]⟩, .int .i64 0, .string ⟨#[]⟩, .int .i64 0, .int .i64 0] 39 (0, 0)))) hb174 hG171
          replace hb174 : Below X139.heap.size X139 V173 := Later.trans hb172 hb174
          clear hb172
          go_wp2_with fail
          refine ⟨fun _ => hb174, ?_⟩
          refine wpAnyL_one (i := 4) (by kernel_rfl) ?_
          refine lexA_get rfl ?_
          try go_frame
          go_wp2_with fail
          refine (applyI_any x0 x1 _ ((S142.later hb174)).out.2.1 hf.1 hf.2 hf3).mono ?_
          rw [HP.out]
          rintro e V175 ⟨rfl, hb176⟩
          replace hG171 := Keeps.keeps (F := fun w' => g169 < w'.heap.size ∧ Hid (w'.heap[g169]? = some (.cells #[.int .i64 0, .string ⟨#[]⟩, .int .i64 0, .string ⟨#[]⟩, .int .i64 0, .int .i64 0] 39 (0, 0)))) hb176 hG171
          replace hb176 : Below X139.heap.size X139 V175 := Later.trans hb174 hb176
          clear hb174
          unfold knownC
          go_wp2_with fail
          refine ⟨fun _ => hb176, ?_⟩
          refine wpAnyL_reads [5, 6, 7] (fuel := 2) (by kernel_rfl) hb176 ?_
          iterate 3 (refine LexR.cons rfl ?_ (fun w' hw => ?_) ?_; rotate_left; focus (go_simp; (try exact rfl)); (try go_frame))
          refine LexR.nil ?_
          obtain ⟨g169h, g169v⟩ := hG171
          have g169b : V175.heap[g169]? = some (.cells (knownC knownZero).toArray 39 (0, 0)) := g169v.out
          obtain ⟨e0, e1, e2, e3, e4, e5⟩ := known_box g169b
          have f0 := fun i => var_frozen g169b i
          have hb178 : Below X139.heap.size X139 (World.setCell (World.setCell (World.setCell (World.setCell (World.setCell (World.setCell V175 ⟨g169, 0, none⟩ (.int .i64 p.gen)) ⟨g169, 1, none⟩ (.string p.text)) ⟨g169, 2, none⟩ (.int .i64 p.pGen)) ⟨g169, 3, none⟩ (.string p.pText)) ⟨g169, 4, none⟩ (.int .i64 p.epoch)) ⟨g169, 5, none⟩ (.int .i64 p.owner)) := ((((((hb176.setCell (p := ⟨g169, 0, none⟩) g169l (.int .i64 p.gen)).setCell (p := ⟨g169, 1, none⟩) g169l (.string p.text)).setCell (p := ⟨g169, 2, none⟩) g169l (.int .i64 p.pGen)).setCell (p := ⟨g169, 3, none⟩) g169l (.string p.pText)).setCell (p := ⟨g169, 4, none⟩) g169l (.int .i64 p.epoch)).setCell (p := ⟨g169, 5, none⟩) g169l (.int .i64 p.owner))
          have hv179 : (g169 < (World.setCell (World.setCell (World.setCell (World.setCell (World.setCell (World.setCell V175 ⟨g169, 0, none⟩ (.int .i64 p.gen)) ⟨g169, 1, none⟩ (.string p.text)) ⟨g169, 2, none⟩ (.int .i64 p.pGen)) ⟨g169, 3, none⟩ (.string p.pText)) ⟨g169, 4, none⟩ (.int .i64 p.epoch)) ⟨g169, 5, none⟩ (.int .i64 p.owner)).heap.size ∧ Hid ((World.setCell (World.setCell (World.setCell (World.setCell (World.setCell (World.setCell V175 ⟨g169, 0, none⟩ (.int .i64 p.gen)) ⟨g169, 1, none⟩ (.string p.text)) ⟨g169, 2, none⟩ (.int .i64 p.pGen)) ⟨g169, 3, none⟩ (.string p.pText)) ⟨g169, 4, none⟩ (.int .i64 p.epoch)) ⟨g169, 5, none⟩ (.int .i64 p.owner)).heap[g169]? = some (.cells (knownC p).toArray 39 (0, 0)))) := ⟨by simp; exact g169h, Lib.hid (var_set (var_set (var_set (var_set (var_set (var_set g169b 0 (.int .i64 p.gen)) 1 (.string p.text)) 2 (.int .i64 p.pGen)) 3 (.string p.pText)) 4 (.int .i64 p.epoch)) 5 (.int .i64 p.owner))⟩
          refine wpAnyL_one (i := 9) (by kernel_rfl) ?_
          refine lexA_get rfl ?_
          try go_frame
          go_wp2_with fail
          refine ⟨fun _ => hb178, ?_⟩
          clear e0 e1 e2 e3 e4 e5 f0 g169b g169v g169h g169l hb176
          generalize (World.setCell (World.setCell (World.setCell (World.setCell (World.setCell (World.setCell V175 ⟨g169, 0, none⟩ (.int .i64 p.gen)) ⟨g169, 1, none⟩ (.string p.text)) ⟨g169, 2, none⟩ (.int .i64 p.pGen)) ⟨g169, 3, none⟩ (.string p.pText)) ⟨g169, 4, none⟩ (.int .i64 p.epoch)) ⟨g169, 5, none⟩ (.int .i64 p.owner)) = X177 at hb178 hv179 ⊢
          refine wpAnyL_writes [10] (by kernel_rfl) (LexW.cons rfl ?_)
          try go_frame
          go_wp2_with fail
          refine ⟨fun _ => hb178, LexW.nil ?_⟩
          have S180q := (S142.later hb178).out
          have S180 : All (fun w' => Below w.heap.size w w' ∧ Given w' ∧ Hid (w'.heap[w.heap.size]? = some (.cells (knownC x0).toArray 65 (0, 0))) ∧ Hid (w'.heap[w.heap.size + 1]? = some (.cells (recC x1).toArray 53 (0, 0))) ∧ (g131 < w'.heap.size ∧ Hid (w'.heap[g131]? = some (.cells (knownC p).toArray 39 (0, 0)))) ∧ (g169 < w'.heap.size ∧ Hid (w'.heap[g169]? = some (.cells (knownC p).toArray 39 (0, 0))))) X177 := ⟨S180q.1, S180q.2.1, S180q.2.2.1, S180q.2.2.2.1, S180q.2.2.2.2, hv179⟩
          clear S180q hb178 hv179
          obtain ⟨a0, a1, a2, a3, a4, a5⟩ := known_box S180.out.2.2.2.2.1.2.out
          obtain ⟨b0, b1, b2, b3, b4, b5⟩ := known_box S180.out.2.2.2.2.2.2.out
          go_wp2_with fail
          clear a0 a1 a2 a3 a4 a5 b0 b1 b2 b3 b4 b5
          refine (eqKnown_same p X177).mono ?_
          rintro e Y ⟨rfl, hb⟩
          replace S180 := S180.later hb
          clear hb
          go_wp2_with fail
          go_ret
          exact ⟨rfl, S180.out.1⟩
      · refine lexA_get rfl ?_
        try go_frame
        go_wp2_with fail
        have hb184 := hb143.alloc hb143.size (.cells #[.int .i64 0, .string ⟨#[]⟩, .int .i64 0, .string ⟨#[]⟩, .int .i64 0, .int .i64 0] 39)
        have hG183 : V144.heap.size < (V144.alloc (.cells #[.int .i64 0, .string ⟨#[]⟩, .int .i64 0, .string ⟨#[]⟩, .int .i64 0, .int .i64 0] 39)).heap.size ∧ Hid ((V144.alloc (.cells #[.int .i64 0, .string ⟨#[]⟩, .int .i64 0, .string ⟨#[]⟩, .int .i64 0, .int .i64 0] 39)).heap[V144.heap.size]? = some (.cells #[.int .i64 0, .string ⟨#[]⟩, .int .i64 0, .string ⟨#[]⟩, .int .i64 0, .int .i64 0] 39 (0, 0))) := ⟨by simp, Lib.hid (heap_alloc_new V144 _)⟩
        have g181l := hb143.size
        refine ⟨fun _ => hb184, ?_⟩
        generalize V144.alloc (.cells #[.int .i64 0, .string ⟨#[]⟩, .int .i64 0, .string ⟨#[]⟩, .int .i64 0, .int .i64 0] 39) = V182 at hb184 hG183 ⊢
        generalize V144.heap.size = g181 at hG183 g181l ⊢
        clear hb143
        refine wpAnyL_one (i := 1) (by kernel_rfl) ?_
        refine lexA_get rfl ?_
        try go_frame
        go_wp2_with fail
        refine (toKnown_any x0 _).mono ?_
        rintro e V185 ⟨rfl, hb186⟩
        replace hG183 := Keeps.keeps (F := fun w' => g181 < w'.heap.size ∧ Hid (w'.heap[g181]? = some (.cells #[.int .i64 0, .string ⟨#[]⟩, .int .i64 0, .string ⟨#[]⟩, .int .i64 0, .int .i64 0] 39 (0, 0)))) hb186 hG183
        replace hb186 : Below X139.heap.size X139 V185 := Later.trans hb184 hb186
        clear hb184
        go_wp2_with fail
        refine ⟨fun _ => hb186, ?_⟩
        refine wpAnyL_one (i := 3) (by kernel_rfl) ?_
        refine lexA_get rfl ?_
        try go_frame
        go_wp2_with fail
        refine (toRec_any x1 _).mono ?_
        rintro e V187 ⟨rfl, hb188⟩
        replace hG183 := Keeps.keeps (F := fun w' => g181 < w'.heap.size ∧ Hid (w'.heap[g181]? = some (.cells #[.int .i64 0, .string ⟨#[]⟩, .int .i64 0, .string ⟨#[]⟩, .int .i64 0, .int .i64 0] 39 (0, 0)))) hb188 hG183
        replace hb188 : Below X139.heap.size X139 V187 := Later.trans hb186 hb188
        clear hb186
        go_wp2_with fail
        refine ⟨fun _ => hb188, ?_⟩
        refine wpAnyL_one (i := 4) (by kernel_rfl) ?_
        refine lexA_get rfl ?_
        try go_frame
        go_wp2_with fail
        refine (applyI_any x0 x1 _ ((S142.later hb188)).out.2.1 hf.1 hf.2 hf3).mono ?_
        rw [HP.out]
        rintro e V189 ⟨rfl, hb190⟩
        replace hG183 := Keeps.keeps (F := fun w' => g181 < w'.heap.size ∧ Hid (w'.heap[g181]? = some (.cells #[.int .i64 0, .string ⟨#[]⟩, .int .i64 0, .string ⟨#[]⟩, .int .i64 0, .int .i64 0] 39 (0, 0)))) hb190 hG183
        replace hb190 : Below X139.heap.size X139 V189 := Later.trans hb188 hb190
        clear hb188
        unfold knownC
        go_wp2_with fail
        refine ⟨fun _ => hb190, ?_⟩
        refine wpAnyL_reads [5, 6, 7] (fuel := 2) (by kernel_rfl) hb190 ?_
        iterate 3 (refine LexR.cons rfl ?_ (fun w' hw => ?_) ?_; rotate_left; focus (go_simp; (try exact rfl)); (try go_frame))
        refine LexR.nil ?_
        obtain ⟨g181h, g181v⟩ := hG183
        have g181b : V189.heap[g181]? = some (.cells (knownC knownZero).toArray 39 (0, 0)) := g181v.out
        obtain ⟨e0, e1, e2, e3, e4, e5⟩ := known_box g181b
        have f0 := fun i => var_frozen g181b i
        have hb192 : Below X139.heap.size X139 (World.setCell (World.setCell (World.setCell (World.setCell (World.setCell (World.setCell V189 ⟨g181, 0, none⟩ (.int .i64 p.gen)) ⟨g181, 1, none⟩ (.string p.text)) ⟨g181, 2, none⟩ (.int .i64 p.pGen)) ⟨g181, 3, none⟩ (.string p.pText)) ⟨g181, 4, none⟩ (.int .i64 p.epoch)) ⟨g181, 5, none⟩ (.int .i64 p.owner)) := ((((((hb190.setCell (p := ⟨g181, 0, none⟩) g181l (.int .i64 p.gen)).setCell (p := ⟨g181, 1, none⟩) g181l (.string p.text)).setCell (p := ⟨g181, 2, none⟩) g181l (.int .i64 p.pGen)).setCell (p := ⟨g181, 3, none⟩) g181l (.string p.pText)).setCell (p := ⟨g181, 4, none⟩) g181l (.int .i64 p.epoch)).setCell (p := ⟨g181, 5, none⟩) g181l (.int .i64 p.owner))
        have hv193 : (g181 < (World.setCell (World.setCell (World.setCell (World.setCell (World.setCell (World.setCell V189 ⟨g181, 0, none⟩ (.int .i64 p.gen)) ⟨g181, 1, none⟩ (.string p.text)) ⟨g181, 2, none⟩ (.int .i64 p.pGen)) ⟨g181, 3, none⟩ (.string p.pText)) ⟨g181, 4, none⟩ (.int .i64 p.epoch)) ⟨g181, 5, none⟩ (.int .i64 p.owner)).heap.size ∧ Hid ((World.setCell (World.setCell (World.setCell (World.setCell (World.setCell (World.setCell V189 ⟨g181, 0, none⟩ (.int .i64 p.gen)) ⟨g181, 1, none⟩ (.string p.text)) ⟨g181, 2, none⟩ (.int .i64 p.pGen)) ⟨g181, 3, none⟩ (.string p.pText)) ⟨g181, 4, none⟩ (.int .i64 p.epoch)) ⟨g181, 5, none⟩ (.int .i64 p.owner)).heap[g181]? = some (.cells (knownC p).toArray 39 (0, 0)))) := ⟨by simp; exact g181h, Lib.hid (var_set (var_set (var_set (var_set (var_set (var_set g181b 0 (.int .i64 p.gen)) 1 (.string p.text)) 2 (.int .i64 p.pGen)) 3 (.string p.pText)) 4 (.int .i64 p.epoch)) 5 (.int .i64 p.owner))⟩
        refine wpAnyL_one (i := 9) (by kernel_rfl) ?_
        refine lexA_get rfl ?_
        try go_frame
        go_wp2_with fail
        refine ⟨fun _ => hb192, ?_⟩
        clear e0 e1 e2 e3 e4 e5 f0 g181b g181v g181h g181l hb190
        generalize (World.setCell (World.setCell (World.setCell (World.setCell (World.setCell (World.setCell V189 ⟨g181, 0, none⟩ (.int .i64 p.gen)) ⟨g181, 1, none⟩ (.string p.text)) ⟨g181, 2, none⟩ (.int .i64 p.pGen)) ⟨g181, 3, none⟩ (.string p.pText)) ⟨g181, 4, none⟩ (.int .i64 p.epoch)) ⟨g181, 5, none⟩ (.int .i64 p.owner)) = X191 at hb192 hv193 ⊢
        refine wpAnyL_writes [10] (by kernel_rfl) (LexW.cons rfl ?_)
        try go_frame
        go_wp2_with fail
        refine ⟨fun _ => hb192, LexW.nil ?_⟩
        have S194q := (S142.later hb192).out
        have S194 : All (fun w' => Below w.heap.size w w' ∧ Given w' ∧ Hid (w'.heap[w.heap.size]? = some (.cells (knownC x0).toArray 65 (0, 0))) ∧ Hid (w'.heap[w.heap.size + 1]? = some (.cells (recC x1).toArray 53 (0, 0))) ∧ (g131 < w'.heap.size ∧ Hid (w'.heap[g131]? = some (.cells (knownC p).toArray 39 (0, 0)))) ∧ (g181 < w'.heap.size ∧ Hid (w'.heap[g181]? = some (.cells (knownC p).toArray 39 (0, 0))))) X191 := ⟨S194q.1, S194q.2.1, S194q.2.2.1, S194q.2.2.2.1, S194q.2.2.2.2, hv193⟩
        clear S194q hb192 hv193
        obtain ⟨a0, a1, a2, a3, a4, a5⟩ := known_box S194.out.2.2.2.2.1.2.out
        obtain ⟨b0, b1, b2, b3, b4, b5⟩ := known_box S194.out.2.2.2.2.2.2.out
        go_wp2_with fail
        clear a0 a1 a2 a3 a4 a5 b0 b1 b2 b3 b4 b5
        refine (eqKnown_same p X191).mono ?_
        rintro e Y ⟨rfl, hb⟩
        replace S194 := S194.later hb
        clear hb
        go_wp2_with fail
        go_ret
        exact ⟨rfl, S194.out.1⟩
  · refine lexA_get rfl ?_
    try go_frame
    go_wp2_with fail
    have hb198 := hb1.alloc hb1.size (.cells #[.int .i64 0, .string ⟨#[]⟩, .int .i64 0, .string ⟨#[]⟩, .int .i64 0, .int .i64 0] 39)
    have hG197 : V2.heap.size < (V2.alloc (.cells #[.int .i64 0, .string ⟨#[]⟩, .int .i64 0, .string ⟨#[]⟩, .int .i64 0, .int .i64 0] 39)).heap.size ∧ Hid ((V2.alloc (.cells #[.int .i64 0, .string ⟨#[]⟩, .int .i64 0, .string ⟨#[]⟩, .int .i64 0, .int .i64 0] 39)).heap[V2.heap.size]? = some (.cells #[.int .i64 0, .string ⟨#[]⟩, .int .i64 0, .string ⟨#[]⟩, .int .i64 0, .int .i64 0] 39 (0, 0))) := ⟨by simp, Lib.hid (heap_alloc_new V2 _)⟩
    have g195l := hb1.size
    refine ⟨fun _ => hb198, ?_⟩
    generalize V2.alloc (.cells #[.int .i64 0, .string ⟨#[]⟩, .int .i64 0, .string ⟨#[]⟩, .int .i64 0, .int .i64 0] 39) = V196 at hb198 hG197 ⊢
    generalize V2.heap.size = g195 at hG197 g195l ⊢
    clear hb1
    refine wpAnyL_one (i := 1) (by kernel_rfl) ?_
    refine lexA_get rfl ?_
    try go_frame
    go_wp2_with fail
    refine (toKnown_any x0 _).mono ?_
    rintro e V199 ⟨rfl, hb200⟩
    replace hG197 := Keeps.keeps (F := fun w' => g195 < w'.heap.size ∧ Hid (w'.heap[g195]? = some (.cells #[.int .i64 0, .string ⟨#[]⟩, .int .i64 0, .string ⟨#[]⟩, .int .i64 0, .int .i64 0] 39 (0, 0)))) hb200 hG197
    replace hb200 : Below W3.heap.size W3 V199 := Later.trans hb198 hb200
    clear hb198
    go_wp2_with fail
    refine ⟨fun _ => hb200, ?_⟩
    refine wpAnyL_one (i := 3) (by kernel_rfl) ?_
    refine lexA_get rfl ?_
    try go_frame
    go_wp2_with fail
    refine (toRec_any x1 _).mono ?_
    rintro e V201 ⟨rfl, hb202⟩
    replace hG197 := Keeps.keeps (F := fun w' => g195 < w'.heap.size ∧ Hid (w'.heap[g195]? = some (.cells #[.int .i64 0, .string ⟨#[]⟩, .int .i64 0, .string ⟨#[]⟩, .int .i64 0, .int .i64 0] 39 (0, 0)))) hb202 hG197
    replace hb202 : Below W3.heap.size W3 V201 := Later.trans hb200 hb202
    clear hb200
    go_wp2_with fail
    refine ⟨fun _ => hb202, ?_⟩
    refine wpAnyL_one (i := 4) (by kernel_rfl) ?_
    refine lexA_get rfl ?_
    try go_frame
    go_wp2_with fail
    refine (applyS_any x0 x1 _).mono ?_
    rw [HP.out]
    rintro e V203 ⟨rfl, hb204⟩
    replace hG197 := Keeps.keeps (F := fun w' => g195 < w'.heap.size ∧ Hid (w'.heap[g195]? = some (.cells #[.int .i64 0, .string ⟨#[]⟩, .int .i64 0, .string ⟨#[]⟩, .int .i64 0, .int .i64 0] 39 (0, 0)))) hb204 hG197
    replace hb204 : Below W3.heap.size W3 V203 := Later.trans hb202 hb204
    clear hb202
    unfold knownC
    go_wp2_with fail
    refine ⟨fun _ => hb204, ?_⟩
    refine wpAnyL_reads [5, 6, 7] (fuel := 2) (by kernel_rfl) hb204 ?_
    iterate 3 (refine LexR.cons rfl ?_ (fun w' hw => ?_) ?_; rotate_left; focus (go_simp; (try exact rfl)); (try go_frame))
    refine LexR.nil ?_
    obtain ⟨g195h, g195v⟩ := hG197
    have g195b : V203.heap[g195]? = some (.cells (knownC knownZero).toArray 39 (0, 0)) := g195v.out
    obtain ⟨e0, e1, e2, e3, e4, e5⟩ := known_box g195b
    have f0 := fun i => var_frozen g195b i
    have hb206 : Below W3.heap.size W3 (World.setCell (World.setCell (World.setCell (World.setCell (World.setCell (World.setCell V203 ⟨g195, 0, none⟩ (.int .i64 p.gen)) ⟨g195, 1, none⟩ (.string p.text)) ⟨g195, 2, none⟩ (.int .i64 p.pGen)) ⟨g195, 3, none⟩ (.string p.pText)) ⟨g195, 4, none⟩ (.int .i64 p.epoch)) ⟨g195, 5, none⟩ (.int .i64 p.owner)) := ((((((hb204.setCell (p := ⟨g195, 0, none⟩) g195l (.int .i64 p.gen)).setCell (p := ⟨g195, 1, none⟩) g195l (.string p.text)).setCell (p := ⟨g195, 2, none⟩) g195l (.int .i64 p.pGen)).setCell (p := ⟨g195, 3, none⟩) g195l (.string p.pText)).setCell (p := ⟨g195, 4, none⟩) g195l (.int .i64 p.epoch)).setCell (p := ⟨g195, 5, none⟩) g195l (.int .i64 p.owner))
    have hv207 : (g195 < (World.setCell (World.setCell (World.setCell (World.setCell (World.setCell (World.setCell V203 ⟨g195, 0, none⟩ (.int .i64 p.gen)) ⟨g195, 1, none⟩ (.string p.text)) ⟨g195, 2, none⟩ (.int .i64 p.pGen)) ⟨g195, 3, none⟩ (.string p.pText)) ⟨g195, 4, none⟩ (.int .i64 p.epoch)) ⟨g195, 5, none⟩ (.int .i64 p.owner)).heap.size ∧ Hid ((World.setCell (World.setCell (World.setCell (World.setCell (World.setCell (World.setCell V203 ⟨g195, 0, none⟩ (.int .i64 p.gen)) ⟨g195, 1, none⟩ (.string p.text)) ⟨g195, 2, none⟩ (.int .i64 p.pGen)) ⟨g195, 3, none⟩ (.string p.pText)) ⟨g195, 4, none⟩ (.int .i64 p.epoch)) ⟨g195, 5, none⟩ (.int .i64 p.owner)).heap[g195]? = some (.cells (knownC p).toArray 39 (0, 0)))) := ⟨by simp; exact g195h, Lib.hid (var_set (var_set (var_set (var_set (var_set (var_set g195b 0 (.int .i64 p.gen)) 1 (.string p.text)) 2 (.int .i64 p.pGen)) 3 (.string p.pText)) 4 (.int .i64 p.epoch)) 5 (.int .i64 p.owner))⟩
    refine wpAnyL_one (i := 9) (by kernel_rfl) ?_
    refine lexA_get rfl ?_
    try go_frame
    go_wp2_with fail
    refine ⟨fun _ => hb206, ?_⟩
    clear e0 e1 e2 e3 e4 e5 f0 g195b g195v g195h g195l hb204
    generalize (World.setCell (World.setCell (World.setCell (World.setCell (World.setCell (World.setCell V203 ⟨g195, 0, none⟩ (.int .i64 p.gen)) ⟨g195, 1, none⟩ (.string p.text)) ⟨g195, 2, none⟩ (.int .i64 p.pGen)) ⟨g195, 3, none⟩ (.string p.pText)) ⟨g195, 4, none⟩ (.int .i64 p.epoch)) ⟨g195, 5, none⟩ (.int .i64 p.owner)) = X205 at hb206 hv207 ⊢
    refine wpAnyL_writes [10] (by kernel_rfl) (LexW.cons rfl ?_)
    try go_frame
    go_wp2_with fail
    refine ⟨fun _ => hb206, LexW.nil ?_⟩
    have S208q := (S.later hb206).out
    have S208 : All (fun w' => Below w.heap.size w w' ∧ Given w' ∧ Hid (w'.heap[w.heap.size]? = some (.cells (knownC x0).toArray 65 (0, 0))) ∧ Hid (w'.heap[w.heap.size + 1]? = some (.cells (recC x1).toArray 53 (0, 0))) ∧ (g195 < w'.heap.size ∧ Hid (w'.heap[g195]? = some (.cells (knownC p).toArray 39 (0, 0))))) X205 := ⟨S208q.1, S208q.2.1, S208q.2.2.1, S208q.2.2.2, hv207⟩
    clear S208q hb206 hv207
    go_wp2_with fail
    refine wp_region_open 100 (fun w' => Below X205.heap.size X205 w') (by kernel_rfl) ?_
    have hb209 := Later.drew X205
    refine wpAnyL_reads [0, 2] (fuel := 9) (by kernel_rfl) hb209 ?_
    iterate 2 (refine LexR.cons rfl ?_ (fun w' hw => ?_) ?_; rotate_left; focus (have hS := S208.later hw; obtain ⟨c0, c1, c2, c3, c4, c5⟩ := known_box hS.out.2.2.1.out; obtain ⟨d0, d1, d2, d3⟩ := rec_box hS.out.2.2.2.1.out; clear hS; go_simp; (try exact rfl)); (try go_frame))
    refine LexR.nil ?_
    replace hb209 : Below X205.heap.size X205 X205.drew := hb209
    generalize X205.drew = V210 at hb209 ⊢
    refine wpAnyL_two (i := 1) (j := 8) (by kernel_rfl) ?_ ?_
    · refine lexA_get rfl ?_
      try go_frame
      go_wp2_with fail
      refine (toKnown_any x0 _).mono ?_
      rintro e V211 ⟨rfl, hb212⟩
      replace hb212 : Below X205.heap.size X205 V211 := Later.trans hb209 hb212
      clear hb209
      go_wp2_with fail
      refine ⟨fun _ => hb212, ?_⟩
      refine wpAnyL_two (i := 3) (j := 8) (by kernel_rfl) ?_ ?_
      · refine lexA_get rfl ?_
        try go_frame
        go_wp2_with fail
        refine (toRec_any x1 _).mono ?_
        rintro e V213 ⟨rfl, hb214⟩
        replace hb214 : Below X205.heap.size X205 V213 := Later.trans hb212 hb214
        clear hb212
        go_wp2_with fail
        refine ⟨fun _ => hb214, ?_⟩
        refine wpAnyL_two (i := 4) (j := 8) (by kernel_rfl) ?_ ?_
        · refine lexA_get rfl ?_
          try go_frame
          go_wp2_with fail
          refine (applyI_any x0 x1 _ ((S208.later hb214)).out.2.1 hf.1 hf.2 hf3).mono ?_
          rw [HP.out]
          rintro e V215 ⟨rfl, hb216⟩
          replace hb216 : Below X205.heap.size X205 V215 := Later.trans hb214 hb216
          clear hb214
          unfold knownC
          go_wp2_with fail
          refine ⟨fun _ => hb216, ?_⟩
          refine wpAnyL_reads [5, 6, 7] (fuel := 3) (by kernel_rfl) hb216 ?_
          iterate 3 (refine LexR.cons rfl ?_ (fun w' hw => ?_) ?_; rotate_left; focus (go_simp; (try exact rfl)); (try go_frame))
          refine LexR.nil ?_
          refine wpAnyL_one (i := 8) (by kernel_rfl) ?_
          refine lexA_get rfl ?_
          try go_frame
          go_wp2_with fail
          have hb220 := hb216.alloc hb216.size (.cells #[.int .i64 0, .string ⟨#[]⟩, .int .i64 0, .string ⟨#[]⟩, .int .i64 0, .int .i64 0] 39)
          have hG219 : V215.heap.size < (V215.alloc (.cells #[.int .i64 0, .string ⟨#[]⟩, .int .i64 0, .string ⟨#[]⟩, .int .i64 0, .int .i64 0] 39)).heap.size ∧ Hid ((V215.alloc (.cells #[.int .i64 0, .string ⟨#[]⟩, .int .i64 0, .string ⟨#[]⟩, .int .i64 0, .int .i64 0] 39)).heap[V215.heap.size]? = some (.cells #[.int .i64 0, .string ⟨#[]⟩, .int .i64 0, .string ⟨#[]⟩, .int .i64 0, .int .i64 0] 39 (0, 0))) := ⟨by simp, Lib.hid (heap_alloc_new V215 _)⟩
          have g217l := hb216.size
          refine ⟨fun _ => hb220, ?_⟩
          generalize V215.alloc (.cells #[.int .i64 0, .string ⟨#[]⟩, .int .i64 0, .string ⟨#[]⟩, .int .i64 0, .int .i64 0] 39) = V218 at hb220 hG219 ⊢
          generalize V215.heap.size = g217 at hG219 g217l ⊢
          clear hb216
          obtain ⟨g217h, g217v⟩ := hG219
          have g217b : V218.heap[g217]? = some (.cells (knownC knownZero).toArray 39 (0, 0)) := g217v.out
          obtain ⟨e0, e1, e2, e3, e4, e5⟩ := known_box g217b
          have f0 := fun i => var_frozen g217b i
          have hb222 : Below X205.heap.size X205 (World.setCell (World.setCell (World.setCell (World.setCell (World.setCell (World.setCell V218 ⟨g217, 0, none⟩ (.int .i64 p.gen)) ⟨g217, 1, none⟩ (.string p.text)) ⟨g217, 2, none⟩ (.int .i64 p.pGen)) ⟨g217, 3, none⟩ (.string p.pText)) ⟨g217, 4, none⟩ (.int .i64 p.epoch)) ⟨g217, 5, none⟩ (.int .i64 p.owner)) := ((((((hb220.setCell (p := ⟨g217, 0, none⟩) g217l (.int .i64 p.gen)).setCell (p := ⟨g217, 1, none⟩) g217l (.string p.text)).setCell (p := ⟨g217, 2, none⟩) g217l (.int .i64 p.pGen)).setCell (p := ⟨g217, 3, none⟩) g217l (.string p.pText)).setCell (p := ⟨g217, 4, none⟩) g217l (.int .i64 p.epoch)).setCell (p := ⟨g217, 5, none⟩) g217l (.int .i64 p.owner))
          have hv223 : (g217 < (World.setCell (World.setCell (World.setCell (World.setCell (World.setCell (World.setCell V218 ⟨g217, 0, none⟩ (.int .i64 p.gen)) ⟨g217, 1, none⟩ (.string p.text)) ⟨g217, 2, none⟩ (.int .i64 p.pGen)) ⟨g217, 3, none⟩ (.string p.pText)) ⟨g217, 4, none⟩ (.int .i64 p.epoch)) ⟨g217, 5, none⟩ (.int .i64 p.owner)).heap.size ∧ Hid ((World.setCell (World.setCell (World.setCell (World.setCell (World.setCell (World.setCell V218 ⟨g217, 0, none⟩ (.int .i64 p.gen)) ⟨g217, 1, none⟩ (.string p.text)) ⟨g217, 2, none⟩ (.int .i64 p.pGen)) ⟨g217, 3, none⟩ (.string p.pText)) ⟨g217, 4, none⟩ (.int .i64 p.epoch)) ⟨g217, 5, none⟩ (.int .i64 p.owner)).heap[g217]? = some (.cells (knownC p).toArray 39 (0, 0)))) := ⟨by simp; exact g217h, Lib.hid (var_set (var_set (var_set (var_set (var_set (var_set g217b 0 (.int .i64 p.gen)) 1 (.string p.text)) 2 (.int .i64 p.pGen)) 3 (.string p.pText)) 4 (.int .i64 p.epoch)) 5 (.int .i64 p.owner))⟩
          refine wpAnyL_one (i := 9) (by kernel_rfl) ?_
          refine lexA_get rfl ?_
          try go_frame
          go_wp2_with fail
          refine ⟨fun _ => hb222, ?_⟩
          clear e0 e1 e2 e3 e4 e5 f0 g217b g217v g217h g217l hb220
          generalize (World.setCell (World.setCell (World.setCell (World.setCell (World.setCell (World.setCell V218 ⟨g217, 0, none⟩ (.int .i64 p.gen)) ⟨g217, 1, none⟩ (.string p.text)) ⟨g217, 2, none⟩ (.int .i64 p.pGen)) ⟨g217, 3, none⟩ (.string p.pText)) ⟨g217, 4, none⟩ (.int .i64 p.epoch)) ⟨g217, 5, none⟩ (.int .i64 p.owner)) = X221 at hb222 hv223 ⊢
          refine wpAnyL_writes [10] (by kernel_rfl) (LexW.cons rfl ?_)
          try go_frame
          go_wp2_with fail
          refine ⟨fun _ => hb222, LexW.nil ?_⟩
          have S224q := (S208.later hb222).out
          have S224 : All (fun w' => Below w.heap.size w w' ∧ Given w' ∧ Hid (w'.heap[w.heap.size]? = some (.cells (knownC x0).toArray 65 (0, 0))) ∧ Hid (w'.heap[w.heap.size + 1]? = some (.cells (recC x1).toArray 53 (0, 0))) ∧ (g195 < w'.heap.size ∧ Hid (w'.heap[g195]? = some (.cells (knownC p).toArray 39 (0, 0)))) ∧ (g217 < w'.heap.size ∧ Hid (w'.heap[g217]? = some (.cells (knownC p).toArray 39 (0, 0))))) X221 := ⟨S224q.1, S224q.2.1, S224q.2.2.1, S224q.2.2.2.1, S224q.2.2.2.2, hv223⟩
          clear S224q hb222 hv223
          obtain ⟨a0, a1, a2, a3, a4, a5⟩ := known_box S224.out.2.2.2.2.1.2.out
          obtain ⟨b0, b1, b2, b3, b4, b5⟩ := known_box S224.out.2.2.2.2.2.2.out
          go_wp2_with fail
          clear a0 a1 a2 a3 a4 a5 b0 b1 b2 b3 b4 b5
          refine (eqKnown_same p X221).mono ?_
          rintro e Y ⟨rfl, hb⟩
          replace S224 := S224.later hb
          clear hb
          go_wp2_with fail
          go_ret
          exact ⟨rfl, S224.out.1⟩
        · refine lexA_get rfl ?_
          try go_frame
          go_wp2_with fail
          have hb228 := hb214.alloc hb214.size (.cells #[.int .i64 0, .string ⟨#[]⟩, .int .i64 0, .string ⟨#[]⟩, .int .i64 0, .int .i64 0] 39)
          have hG227 : V213.heap.size < (V213.alloc (.cells #[.int .i64 0, .string ⟨#[]⟩, .int .i64 0, .string ⟨#[]⟩, .int .i64 0, .int .i64 0] 39)).heap.size ∧ Hid ((V213.alloc (.cells #[.int .i64 0, .string ⟨#[]⟩, .int .i64 0, .string ⟨#[]⟩, .int .i64 0, .int .i64 0] 39)).heap[V213.heap.size]? = some (.cells #[.int .i64 0, .string ⟨#[]⟩, .int .i64 0, .string ⟨#[]⟩, .int .i64 0, .int .i64 0] 39 (0, 0))) := ⟨by simp, Lib.hid (heap_alloc_new V213 _)⟩
          have g225l := hb214.size
          refine ⟨fun _ => hb228, ?_⟩
          generalize V213.alloc (.cells #[.int .i64 0, .string ⟨#[]⟩, .int .i64 0, .string ⟨#[]⟩, .int .i64 0, .int .i64 0] 39) = V226 at hb228 hG227 ⊢
          generalize V213.heap.size = g225 at hG227 g225l ⊢
          clear hb214
          refine wpAnyL_one (i := 4) (by kernel_rfl) ?_
          refine lexA_get rfl ?_
          try go_frame
          go_wp2_with fail
          refine (applyI_any x0 x1 _ ((S208.later hb228)).out.2.1 hf.1 hf.2 hf3).mono ?_
          rw [HP.out]
          rintro e V229 ⟨rfl, hb230⟩
          replace hG227 := Keeps.keeps (F := fun w' => g225 < w'.heap.size ∧ Hid (w'.heap[g225]? = some (.cells #[.int .i64 0, .string ⟨#[]⟩, .int .i64 0, .string ⟨#[]⟩, .int .i64 0, .int .i64 0] 39 (0, 0)))) hb230 hG227
          replace hb230 : Below X205.heap.size X205 V229 := Later.trans hb228 hb230
          clear hb228
          unfold knownC
          go_wp2_with fail
          refine ⟨fun _ => hb230, ?_⟩
          refine wpAnyL_reads [5, 6, 7] (fuel := 2) (by kernel_rfl) hb230 ?_
          iterate 3 (refine LexR.cons rfl ?_ (fun w' hw => ?_) ?_; rotate_left; focus (go_simp; (try exact rfl)); (try go_frame))
          refine LexR.nil ?_
          obtain ⟨g225h, g225v⟩ := hG227
          have g225b : V229.heap[g225]? = some (.cells (knownC knownZero).toArray 39 (0, 0)) := g225v.out
          obtain ⟨e0, e1, e2, e3, e4, e5⟩ := known_box g225b
          have f0 := fun i => var_frozen g225b i
          have hb232 : Below X205.heap.size X205 (World.setCell (World.setCell (World.setCell (World.setCell (World.setCell (World.setCell V229 ⟨g225, 0, none⟩ (.int .i64 p.gen)) ⟨g225, 1, none⟩ (.string p.text)) ⟨g225, 2, none⟩ (.int .i64 p.pGen)) ⟨g225, 3, none⟩ (.string p.pText)) ⟨g225, 4, none⟩ (.int .i64 p.epoch)) ⟨g225, 5, none⟩ (.int .i64 p.owner)) := ((((((hb230.setCell (p := ⟨g225, 0, none⟩) g225l (.int .i64 p.gen)).setCell (p := ⟨g225, 1, none⟩) g225l (.string p.text)).setCell (p := ⟨g225, 2, none⟩) g225l (.int .i64 p.pGen)).setCell (p := ⟨g225, 3, none⟩) g225l (.string p.pText)).setCell (p := ⟨g225, 4, none⟩) g225l (.int .i64 p.epoch)).setCell (p := ⟨g225, 5, none⟩) g225l (.int .i64 p.owner))
          have hv233 : (g225 < (World.setCell (World.setCell (World.setCell (World.setCell (World.setCell (World.setCell V229 ⟨g225, 0, none⟩ (.int .i64 p.gen)) ⟨g225, 1, none⟩ (.string p.text)) ⟨g225, 2, none⟩ (.int .i64 p.pGen)) ⟨g225, 3, none⟩ (.string p.pText)) ⟨g225, 4, none⟩ (.int .i64 p.epoch)) ⟨g225, 5, none⟩ (.int .i64 p.owner)).heap.size ∧ Hid ((World.setCell (World.setCell (World.setCell (World.setCell (World.setCell (World.setCell V229 ⟨g225, 0, none⟩ (.int .i64 p.gen)) ⟨g225, 1, none⟩ (.string p.text)) ⟨g225, 2, none⟩ (.int .i64 p.pGen)) ⟨g225, 3, none⟩ (.string p.pText)) ⟨g225, 4, none⟩ (.int .i64 p.epoch)) ⟨g225, 5, none⟩ (.int .i64 p.owner)).heap[g225]? = some (.cells (knownC p).toArray 39 (0, 0)))) := ⟨by simp; exact g225h, Lib.hid (var_set (var_set (var_set (var_set (var_set (var_set g225b 0 (.int .i64 p.gen)) 1 (.string p.text)) 2 (.int .i64 p.pGen)) 3 (.string p.pText)) 4 (.int .i64 p.epoch)) 5 (.int .i64 p.owner))⟩
          refine wpAnyL_one (i := 9) (by kernel_rfl) ?_
          refine lexA_get rfl ?_
          try go_frame
          go_wp2_with fail
          refine ⟨fun _ => hb232, ?_⟩
          clear e0 e1 e2 e3 e4 e5 f0 g225b g225v g225h g225l hb230
          generalize (World.setCell (World.setCell (World.setCell (World.setCell (World.setCell (World.setCell V229 ⟨g225, 0, none⟩ (.int .i64 p.gen)) ⟨g225, 1, none⟩ (.string p.text)) ⟨g225, 2, none⟩ (.int .i64 p.pGen)) ⟨g225, 3, none⟩ (.string p.pText)) ⟨g225, 4, none⟩ (.int .i64 p.epoch)) ⟨g225, 5, none⟩ (.int .i64 p.owner)) = X231 at hb232 hv233 ⊢
          refine wpAnyL_writes [10] (by kernel_rfl) (LexW.cons rfl ?_)
          try go_frame
          go_wp2_with fail
          refine ⟨fun _ => hb232, LexW.nil ?_⟩
          have S234q := (S208.later hb232).out
          have S234 : All (fun w' => Below w.heap.size w w' ∧ Given w' ∧ Hid (w'.heap[w.heap.size]? = some (.cells (knownC x0).toArray 65 (0, 0))) ∧ Hid (w'.heap[w.heap.size + 1]? = some (.cells (recC x1).toArray 53 (0, 0))) ∧ (g195 < w'.heap.size ∧ Hid (w'.heap[g195]? = some (.cells (knownC p).toArray 39 (0, 0)))) ∧ (g225 < w'.heap.size ∧ Hid (w'.heap[g225]? = some (.cells (knownC p).toArray 39 (0, 0))))) X231 := ⟨S234q.1, S234q.2.1, S234q.2.2.1, S234q.2.2.2.1, S234q.2.2.2.2, hv233⟩
          clear S234q hb232 hv233
          obtain ⟨a0, a1, a2, a3, a4, a5⟩ := known_box S234.out.2.2.2.2.1.2.out
          obtain ⟨b0, b1, b2, b3, b4, b5⟩ := known_box S234.out.2.2.2.2.2.2.out
          go_wp2_with fail
          clear a0 a1 a2 a3 a4 a5 b0 b1 b2 b3 b4 b5
          refine (eqKnown_same p X231).mono ?_
          rintro e Y ⟨rfl, hb⟩
          replace S234 := S234.later hb
          clear hb
          go_wp2_with fail
          go_ret
          exact ⟨rfl, S234.out.1⟩
      · refine lexA_get rfl ?_
        try go_frame
        go_wp2_with fail
        have hb238 := hb212.alloc hb212.size (.cells #[.int .i64 0, .string ⟨#[]⟩, .int .i64 0, .string ⟨#[]⟩, .int .i64 0, .int .i64 0] 39)
        have hG237 : V211.heap.size < (V211.alloc (.cells #[.int .i64 0, .string ⟨#[]⟩, .int .i64 0, .string ⟨#[]⟩, .int .i64 0, .int .i64 0] 39)).heap.size ∧ Hid ((V211.alloc (.cells #[.int .i64 0, .string ⟨#[]⟩, .int .i64 0, .string ⟨#[]⟩, .int .i64 0, .int .i64 0] 39)).heap[V211.heap.size]? = some (.cells #[.int .i64 0, .string ⟨#[]⟩, .int .i64 0, .string ⟨#[]⟩, .int .i64 0, .int .i64 0] 39 (0, 0))) := ⟨by simp, Lib.hid (heap_alloc_new V211 _)⟩
        have g235l := hb212.size
        refine ⟨fun _ => hb238, ?_⟩
        generalize V211.alloc (.cells #[.int .i64 0, .string ⟨#[]⟩, .int .i64 0, .string ⟨#[]⟩, .int .i64 0, .int .i64 0] 39) = V236 at hb238 hG237 ⊢
        generalize V211.heap.size = g235 at hG237 g235l ⊢
        clear hb212
        refine wpAnyL_one (i := 3) (by kernel_rfl) ?_
        refine lexA_get rfl ?_
        try go_frame
        go_wp2_with fail
        refine (toRec_any x1 _).mono ?_
        rintro e V239 ⟨rfl, hb240⟩
        replace hG237 := Keeps.keeps (F := fun w' => g235 < w'.heap.size ∧ Hid (w'.heap[g235]? = some (.cells #[.int .i64 0, .string ⟨#[]⟩, .int .i64 0, .string ⟨#[]⟩, .int .i64 0, .int .i64 0] 39 (0, 0)))) hb240 hG237
        replace hb240 : Below X205.heap.size X205 V239 := Later.trans hb238 hb240
        clear hb238
        go_wp2_with fail
        refine ⟨fun _ => hb240, ?_⟩
        refine wpAnyL_one (i := 4) (by kernel_rfl) ?_
        refine lexA_get rfl ?_
        try go_frame
        go_wp2_with fail
        refine (applyI_any x0 x1 _ ((S208.later hb240)).out.2.1 hf.1 hf.2 hf3).mono ?_
        rw [HP.out]
        rintro e V241 ⟨rfl, hb242⟩
        replace hG237 := Keeps.keeps (F := fun w' => g235 < w'.heap.size ∧ Hid (w'.heap[g235]? = some (.cells #[.int .i64 0, .string ⟨#[]⟩, .int .i64 0, .string ⟨#[]⟩, .int .i64 0, .int .i64 0] 39 (0, 0)))) hb242 hG237
        replace hb242 : Below X205.heap.size X205 V241 := Later.trans hb240 hb242
        clear hb240
        unfold knownC
        go_wp2_with fail
        refine ⟨fun _ => hb242, ?_⟩
        refine wpAnyL_reads [5, 6, 7] (fuel := 2) (by kernel_rfl) hb242 ?_
        iterate 3 (refine LexR.cons rfl ?_ (fun w' hw => ?_) ?_; rotate_left; focus (go_simp; (try exact rfl)); (try go_frame))
        refine LexR.nil ?_
        obtain ⟨g235h, g235v⟩ := hG237
        have g235b : V241.heap[g235]? = some (.cells (knownC knownZero).toArray 39 (0, 0)) := g235v.out
        obtain ⟨e0, e1, e2, e3, e4, e5⟩ := known_box g235b
        have f0 := fun i => var_frozen g235b i
        have hb244 : Below X205.heap.size X205 (World.setCell (World.setCell (World.setCell (World.setCell (World.setCell (World.setCell V241 ⟨g235, 0, none⟩ (.int .i64 p.gen)) ⟨g235, 1, none⟩ (.string p.text)) ⟨g235, 2, none⟩ (.int .i64 p.pGen)) ⟨g235, 3, none⟩ (.string p.pText)) ⟨g235, 4, none⟩ (.int .i64 p.epoch)) ⟨g235, 5, none⟩ (.int .i64 p.owner)) := ((((((hb242.setCell (p := ⟨g235, 0, none⟩) g235l (.int .i64 p.gen)).setCell (p := ⟨g235, 1, none⟩) g235l (.string p.text)).setCell (p := ⟨g235, 2, none⟩) g235l (.int .i64 p.pGen)).setCell (p := ⟨g235, 3, none⟩) g235l (.string p.pText)).setCell (p := ⟨g235, 4, none⟩) g235l (.int .i64 p.epoch)).setCell (p := ⟨g235, 5, none⟩) g235l (.int .i64 p.owner))
        have hv245 : (g235 < (World.setCell (World.setCell (World.setCell (World.setCell (World.setCell (World.setCell V241 ⟨g235, 0, none⟩ (.int .i64 p.gen)) ⟨g235, 1, none⟩ (.string p.text)) ⟨g235, 2, none⟩ (.int .i64 p.pGen)) ⟨g235, 3, none⟩ (.string p.pText)) ⟨g235, 4, none⟩ (.int .i64 p.epoch)) ⟨g235, 5, none⟩ (.int .i64 p.owner)).heap.size ∧ Hid ((World.setCell (World.setCell (World.setCell (World.setCell (World.setCell (World.setCell V241 ⟨g235, 0, none⟩ (.int .i64 p.gen)) ⟨g235, 1, none⟩ (.string p.text)) ⟨g235, 2, none⟩ (.int .i64 p.pGen)) ⟨g235, 3, none⟩ (.string p.pText)) ⟨g235, 4, none⟩ (.int .i64 p.epoch)) ⟨g235, 5, none⟩ (.int .i64 p.owner)).heap[g235]? = some (.cells (knownC p).toArray 39 (0, 0)))) := ⟨by simp; exact g235h, Lib.hid (var_set (var_set (var_set (var_set (var_set (var_set g235b 0 (.int .i64 p.gen)) 1 (.string p.text)) 2 (.int .i64 p.pGen)) 3 (.string p.pText)) 4 (.int .i64 p.epoch)) 5 (.int .i64 p.owner))⟩
        refine wpAnyL_one (i := 9) (by kernel_rfl) ?_
        refine lexA_get rfl ?_
        try go_frame
        go_wp2_with fail
        refine ⟨fun _ => hb244, ?_⟩
        clear e0 e1 e2 e3 e4 e5 f0 g235b g235v g235h g235l hb242
        generalize (World.setCell (World.setCell (World.setCell (World.setCell (World.setCell (World.setCell V241 ⟨g235, 0, none⟩ (.int .i64 p.gen)) ⟨g235, 1, none⟩ (.string p.text)) ⟨g235, 2, none⟩ (.int .i64 p.pGen)) ⟨g235, 3, none⟩ (.string p.pText)) ⟨g235, 4, none⟩ (.int .i64 p.epoch)) ⟨g235, 5, none⟩ (.int .i64 p.owner)) = X243 at hb244 hv245 ⊢
        refine wpAnyL_writes [10] (by kernel_rfl) (LexW.cons rfl ?_)
        try go_frame
        go_wp2_with fail
        refine ⟨fun _ => hb244, LexW.nil ?_⟩
        have S246q := (S208.later hb244).out
        have S246 : All (fun w' => Below w.heap.size w w' ∧ Given w' ∧ Hid (w'.heap[w.heap.size]? = some (.cells (knownC x0).toArray 65 (0, 0))) ∧ Hid (w'.heap[w.heap.size + 1]? = some (.cells (recC x1).toArray 53 (0, 0))) ∧ (g195 < w'.heap.size ∧ Hid (w'.heap[g195]? = some (.cells (knownC p).toArray 39 (0, 0)))) ∧ (g235 < w'.heap.size ∧ Hid (w'.heap[g235]? = some (.cells (knownC p).toArray 39 (0, 0))))) X243 := ⟨S246q.1, S246q.2.1, S246q.2.2.1, S246q.2.2.2.1, S246q.2.2.2.2, hv245⟩
        clear S246q hb244 hv245
        obtain ⟨a0, a1, a2, a3, a4, a5⟩ := known_box S246.out.2.2.2.2.1.2.out
        obtain ⟨b0, b1, b2, b3, b4, b5⟩ := known_box S246.out.2.2.2.2.2.2.out
        go_wp2_with fail
        clear a0 a1 a2 a3 a4 a5 b0 b1 b2 b3 b4 b5
        refine (eqKnown_same p X243).mono ?_
        rintro e Y ⟨rfl, hb⟩
        replace S246 := S246.later hb
        clear hb
        go_wp2_with fail
        go_ret
        exact ⟨rfl, S246.out.1⟩
    · refine lexA_get rfl ?_
      try go_frame
      go_wp2_with fail
      have hb250 := hb209.alloc hb209.size (.cells #[.int .i64 0, .string ⟨#[]⟩, .int .i64 0, .string ⟨#[]⟩, .int .i64 0, .int .i64 0] 39)
      have hG249 : V210.heap.size < (V210.alloc (.cells #[.int .i64 0, .string ⟨#[]⟩, .int .i64 0, .string ⟨#[]⟩, .int .i64 0, .int .i64 0] 39)).heap.size ∧ Hid ((V210.alloc (.cells #[.int .i64 0, .string ⟨#[]⟩, .int .i64 0, .string ⟨#[]⟩, .int .i64 0, .int .i64 0] 39)).heap[V210.heap.size]? = some (.cells #[.int .i64 0, .string ⟨#[]⟩, .int .i64 0, .string ⟨#[]⟩, .int .i64 0, .int .i64 0] 39 (0, 0))) := ⟨by simp, Lib.hid (heap_alloc_new V210 _)⟩
      have g247l := hb209.size
      refine ⟨fun _ => hb250, ?_⟩
      generalize V210.alloc (.cells #[.int .i64 0, .string ⟨#[]⟩, .int .i64 0, .string ⟨#[]⟩, .int .i64 0, .int .i64 0] 39) = V248 at hb250 hG249 ⊢
      generalize V210.heap.size = g247 at hG249 g247l ⊢
      clear hb209
      refine wpAnyL_one (i := 1) (by kernel_rfl) ?_
      refine lexA_get rfl ?_
      try go_frame
      go_wp2_with fail
      refine (toKnown_any x0 _).mono ?_
      rintro e V251 ⟨rfl, hb252⟩
      replace hG249 := Keeps.keeps (F := fun w' => g247 < w'.heap.size ∧ Hid (w'.heap[g247]? = some (.cells #[.int .i64 0, .string ⟨#[]⟩, .int .i64 0, .string ⟨#[]⟩, .int .i64 0, .int .i64 0] 39 (0, 0)))) hb252 hG249
      replace hb252 : Below X205.heap.size X205 V251 := Later.trans hb250 hb252
      clear hb250
      go_wp2_with fail
      refine ⟨fun _ => hb252, ?_⟩
      refine wpAnyL_one (i := 3) (by kernel_rfl) ?_
      refine lexA_get rfl ?_
      try go_frame
      go_wp2_with fail
      refine (toRec_any x1 _).mono ?_
      rintro e V253 ⟨rfl, hb254⟩
      replace hG249 := Keeps.keeps (F := fun w' => g247 < w'.heap.size ∧ Hid (w'.heap[g247]? = some (.cells #[.int .i64 0, .string ⟨#[]⟩, .int .i64 0, .string ⟨#[]⟩, .int .i64 0, .int .i64 0] 39 (0, 0)))) hb254 hG249
      replace hb254 : Below X205.heap.size X205 V253 := Later.trans hb252 hb254
      clear hb252
      go_wp2_with fail
      refine ⟨fun _ => hb254, ?_⟩
      refine wpAnyL_one (i := 4) (by kernel_rfl) ?_
      refine lexA_get rfl ?_
      try go_frame
      go_wp2_with fail
      refine (applyI_any x0 x1 _ ((S208.later hb254)).out.2.1 hf.1 hf.2 hf3).mono ?_
      rw [HP.out]
      rintro e V255 ⟨rfl, hb256⟩
      replace hG249 := Keeps.keeps (F := fun w' => g247 < w'.heap.size ∧ Hid (w'.heap[g247]? = some (.cells #[.int .i64 0, .string ⟨#[]⟩, .int .i64 0, .string ⟨#[]⟩, .int .i64 0, .int .i64 0] 39 (0, 0)))) hb256 hG249
      replace hb256 : Below X205.heap.size X205 V255 := Later.trans hb254 hb256
      clear hb254
      unfold knownC
      go_wp2_with fail
      refine ⟨fun _ => hb256, ?_⟩
      refine wpAnyL_reads [5, 6, 7] (fuel := 2) (by kernel_rfl) hb256 ?_
      iterate 3 (refine LexR.cons rfl ?_ (fun w' hw => ?_) ?_; rotate_left; focus (go_simp; (try exact rfl)); (try go_frame))
      refine LexR.nil ?_
      obtain ⟨g247h, g247v⟩ := hG249
      have g247b : V255.heap[g247]? = some (.cells (knownC knownZero).toArray 39 (0, 0)) := g247v.out
      obtain ⟨e0, e1, e2, e3, e4, e5⟩ := known_box g247b
      have f0 := fun i => var_frozen g247b i
      have hb258 : Below X205.heap.size X205 (World.setCell (World.setCell (World.setCell (World.setCell (World.setCell (World.setCell V255 ⟨g247, 0, none⟩ (.int .i64 p.gen)) ⟨g247, 1, none⟩ (.string p.text)) ⟨g247, 2, none⟩ (.int .i64 p.pGen)) ⟨g247, 3, none⟩ (.string p.pText)) ⟨g247, 4, none⟩ (.int .i64 p.epoch)) ⟨g247, 5, none⟩ (.int .i64 p.owner)) := ((((((hb256.setCell (p := ⟨g247, 0, none⟩) g247l (.int .i64 p.gen)).setCell (p := ⟨g247, 1, none⟩) g247l (.string p.text)).setCell (p := ⟨g247, 2, none⟩) g247l (.int .i64 p.pGen)).setCell (p := ⟨g247, 3, none⟩) g247l (.string p.pText)).setCell (p := ⟨g247, 4, none⟩) g247l (.int .i64 p.epoch)).setCell (p := ⟨g247, 5, none⟩) g247l (.int .i64 p.owner))
      have hv259 : (g247 < (World.setCell (World.setCell (World.setCell (World.setCell (World.setCell (World.setCell V255 ⟨g247, 0, none⟩ (.int .i64 p.gen)) ⟨g247, 1, none⟩ (.string p.text)) ⟨g247, 2, none⟩ (.int .i64 p.pGen)) ⟨g247, 3, none⟩ (.string p.pText)) ⟨g247, 4, none⟩ (.int .i64 p.epoch)) ⟨g247, 5, none⟩ (.int .i64 p.owner)).heap.size ∧ Hid ((World.setCell (World.setCell (World.setCell (World.setCell (World.setCell (World.setCell V255 ⟨g247, 0, none⟩ (.int .i64 p.gen)) ⟨g247, 1, none⟩ (.string p.text)) ⟨g247, 2, none⟩ (.int .i64 p.pGen)) ⟨g247, 3, none⟩ (.string p.pText)) ⟨g247, 4, none⟩ (.int .i64 p.epoch)) ⟨g247, 5, none⟩ (.int .i64 p.owner)).heap[g247]? = some (.cells (knownC p).toArray 39 (0, 0)))) := ⟨by simp; exact g247h, Lib.hid (var_set (var_set (var_set (var_set (var_set (var_set g247b 0 (.int .i64 p.gen)) 1 (.string p.text)) 2 (.int .i64 p.pGen)) 3 (.string p.pText)) 4 (.int .i64 p.epoch)) 5 (.int .i64 p.owner))⟩
      refine wpAnyL_one (i := 9) (by kernel_rfl) ?_
      refine lexA_get rfl ?_
      try go_frame
      go_wp2_with fail
      refine ⟨fun _ => hb258, ?_⟩
      clear e0 e1 e2 e3 e4 e5 f0 g247b g247v g247h g247l hb256
      generalize (World.setCell (World.setCell (World.setCell (World.setCell (World.setCell (World.setCell V255 ⟨g247, 0, none⟩ (.int .i64 p.gen)) ⟨g247, 1, none⟩ (.string p.text)) ⟨g247, 2, none⟩ (.int .i64 p.pGen)) ⟨g247, 3, none⟩ (.string p.pText)) ⟨g247, 4, none⟩ (.int .i64 p.epoch)) ⟨g247, 5, none⟩ (.int .i64 p.owner)) = X257 at hb258 hv259 ⊢
      refine wpAnyL_writes [10] (by kernel_rfl) (LexW.cons rfl ?_)
      try go_frame
      go_wp2_with fail
      refine ⟨fun _ => hb258, LexW.nil ?_⟩
      have S260q := (S208.later hb258).out
      have S260 : All (fun w' => Below w.heap.size w w' ∧ Given w' ∧ Hid (w'.heap[w.heap.size]? = some (.cells (knownC x0).toArray 65 (0, 0))) ∧ Hid (w'.heap[w.heap.size + 1]? = some (.cells (recC x1).toArray 53 (0, 0))) ∧ (g195 < w'.heap.size ∧ Hid (w'.heap[g195]? = some (.cells (knownC p).toArray 39 (0, 0)))) ∧ (g247 < w'.heap.size ∧ Hid (w'.heap[g247]? = some (.cells (knownC p).toArray 39 (0, 0))))) X257 := ⟨S260q.1, S260q.2.1, S260q.2.2.1, S260q.2.2.2.1, S260q.2.2.2.2, hv259⟩
      clear S260q hb258 hv259
      obtain ⟨a0, a1, a2, a3, a4, a5⟩ := known_box S260.out.2.2.2.2.1.2.out
      obtain ⟨b0, b1, b2, b3, b4, b5⟩ := known_box S260.out.2.2.2.2.2.2.out
      go_wp2_with fail
      clear a0 a1 a2 a3 a4 a5 b0 b1 b2 b3 b4 b5
      refine (eqKnown_same p X257).mono ?_
      rintro e Y ⟨rfl, hb⟩
      replace S260 := S260.later hb
      clear hb
      go_wp2_with fail
      go_ret
      exact ⟨rfl, S260.out.1⟩

end Go.Proofs.YtdapnhahccpebaaDoor
