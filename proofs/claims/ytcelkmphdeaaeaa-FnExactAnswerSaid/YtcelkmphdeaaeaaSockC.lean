/- A socket of the model, copied. (By gen_l8copy.py.) -/
import Derived.Test.YtcelkmphdeaaeaaNSock
import Derived.Test.YtcelkmphdeaaeaaRet
import Derived.Test.YtcelkmphdeaaeaaHalt
import Derived.Deep.Cut
namespace Go.Proofs.Ytcelkmphdeaaeaa
open Go.RowKit
set_option maxRecDepth 100000
set_option linter.unusedVariables false

-- (by gen_l8copy.py)
theorem keep_below {w w' : World} {base : Nat} {e : TypeId} {v : Value} {l : List UInt8} (h : w.ownsRow base e 1 v l.length (bys l)) (hb : Below w.heap.size w w') : Owns w' base e v l := Owns.keep h hb
theorem keep_row {w w' : World} {base : Nat} {e : TypeId} {v : Value} {l : List UInt8} {G : Nat} (h : Owns w base e v l) (hG : G < base) (u : Value) (i : Nat) (hw : w' = w.setCell ⟨G, i, none⟩ u) : Owns w' base e v l := by
  subst hw
  exact Rep.ownsRow_block h fun g hg => heap_setCell_other _ _ _ _ (by have := (h.lt g (by simpa using hg)).1; simp; omega)

/-- A socket with rows of its own. -/
def RetSkO (w : World) (x : Sk) (e : Ending) (w' : World) : Prop := ∃ A4 c4 A5 c5, e = .returned (.agg #[.int .i64 x.id, .int .i64 x.kind, .int .i64 x.hold, .bool x.shut, .slice A4 x.inn.length c4, .slice A5 x.out.length c5, .int .i64 x.st, .int .i64 x.done]) ∧ Owns w' w.heap.size 5 (.slice A4 x.inn.length c4) x.inn ∧ Owns w' w.heap.size 5 (.slice A5 x.out.length c5) x.out ∧ (∀ k, (Value.slice A4 x.inn.length c4).ownBlock = some k → (Value.slice A5 x.out.length c5).ownBlock ≠ some k) ∧ Below w.heap.size w w'

set_option maxHeartbeats 8000000 in
theorem l8Copy_any (cs : List Value) (x : Sk) (w : World) (h : skR.at_ w w.heap.size cs x) (hs : RoomSk x) :
    Calls Try.prog 69 #[.agg cs.toArray] w (RetSkO w x) := by
  obtain ⟨j0, hj0, hj1, hj2, hj3⟩ := info_parts Try.info8
  obtain ⟨A4, c4, A5, c5, rfl, _, hr4, _, hr5⟩ := sk_cells h
  obtain ⟨f4, f5⟩ := hs
  clear h
  have HW : Below w.heap.size w (((w.alloc (.cells #[.int .i64 x.id, .int .i64 x.kind, .int .i64 x.hold, .bool x.shut, .slice A4 x.inn.length c4, .slice A5 x.out.length c5, .int .i64 x.st, .int .i64 x.done] 25)).alloc (.cells #[.int .i64 0, .int .i64 0, .int .i64 0, .bool false, .slice none 0 0, .slice none 0 0, .int .i64 0, .int .i64 0] 25)).alloc (.cells #[.int .i64 x.id, .int .i64 x.kind, .int .i64 x.hold, .bool x.shut, .slice A4 x.inn.length c4, .slice A5 x.out.length c5, .int .i64 x.st, .int .i64 x.done] 25)) := Later.trans (Later.trans (Later.alloc w _) (Later.alloc _ _)) (Later.alloc _ _)
  have V : (((w.alloc (.cells #[.int .i64 x.id, .int .i64 x.kind, .int .i64 x.hold, .bool x.shut, .slice A4 x.inn.length c4, .slice A5 x.out.length c5, .int .i64 x.st, .int .i64 x.done] 25)).alloc (.cells #[.int .i64 0, .int .i64 0, .int .i64 0, .bool false, .slice none 0 0, .slice none 0 0, .int .i64 0, .int .i64 0] 25)).alloc (.cells #[.int .i64 x.id, .int .i64 x.kind, .int .i64 x.hold, .bool x.shut, .slice A4 x.inn.length c4, .slice A5 x.out.length c5, .int .i64 x.st, .int .i64 x.done] 25)).heap[w.heap.size + 1 + 1]? = some (.cells [.int .i64 x.id, .int .i64 x.kind, .int .i64 x.hold, .bool x.shut, .slice A4 x.inn.length c4, .slice A5 x.out.length c5, .int .i64 x.st, .int .i64 x.done].toArray 25 (0, 0)) := heap_alloc_new' _ _ (by simp)
  have Z : (((w.alloc (.cells #[.int .i64 x.id, .int .i64 x.kind, .int .i64 x.hold, .bool x.shut, .slice A4 x.inn.length c4, .slice A5 x.out.length c5, .int .i64 x.st, .int .i64 x.done] 25)).alloc (.cells #[.int .i64 0, .int .i64 0, .int .i64 0, .bool false, .slice none 0 0, .slice none 0 0, .int .i64 0, .int .i64 0] 25)).alloc (.cells #[.int .i64 x.id, .int .i64 x.kind, .int .i64 x.hold, .bool x.shut, .slice A4 x.inn.length c4, .slice A5 x.out.length c5, .int .i64 x.st, .int .i64 x.done] 25)).heap[w.heap.size + 1]? = some (.cells [.int .i64 0, .int .i64 0, .int .i64 0, .bool false, .slice none 0 0, .slice none 0 0, .int .i64 0, .int .i64 0].toArray 25 (0, 0)) := (Below.heap_alloc _ _ _ (by simp)).trans (heap_alloc_new' _ _ (by simp))
  have Q : (((w.alloc (.cells #[.int .i64 x.id, .int .i64 x.kind, .int .i64 x.hold, .bool x.shut, .slice A4 x.inn.length c4, .slice A5 x.out.length c5, .int .i64 x.st, .int .i64 x.done] 25)).alloc (.cells #[.int .i64 0, .int .i64 0, .int .i64 0, .bool false, .slice none 0 0, .slice none 0 0, .int .i64 0, .int .i64 0] 25)).alloc (.cells #[.int .i64 x.id, .int .i64 x.kind, .int .i64 x.hold, .bool x.shut, .slice A4 x.inn.length c4, .slice A5 x.out.length c5, .int .i64 x.st, .int .i64 x.done] 25)).heap[w.heap.size]? = some (.cells [.int .i64 x.id, .int .i64 x.kind, .int .i64 x.hold, .bool x.shut, .slice A4 x.inn.length c4, .slice A5 x.out.length c5, .int .i64 x.st, .int .i64 x.done].toArray 25 (0, 0)) := (Below.heap_alloc _ _ _ (by simp; omega)).trans ((Below.heap_alloc _ _ _ (by simp)).trans (heap_alloc_new w _))
  go_enter Try.func69, Try.ntmps69
  go_upto_region 2 with (fail)
  generalize ((w.alloc (.cells #[.int .i64 x.id, .int .i64 x.kind, .int .i64 x.hold, .bool x.shut, .slice A4 x.inn.length c4, .slice A5 x.out.length c5, .int .i64 x.st, .int .i64 x.done] 25)).alloc (.cells #[.int .i64 0, .int .i64 0, .int .i64 0, .bool false, .slice none 0 0, .slice none 0 0, .int .i64 0, .int .i64 0] 25)).alloc (.cells #[.int .i64 x.id, .int .i64 x.kind, .int .i64 x.hold, .bool x.shut, .slice A4 x.inn.length c4, .slice A5 x.out.length c5, .int .i64 x.st, .int .i64 x.done] 25) = W0 at HW V Z Q ⊢
  have hv0 : w.heap.size + 1 + 1 < W0.heap.size := (Array.getElem?_eq_some_iff.1 V).1
  have hz0 : w.heap.size + 1 < W0.heap.size := by omega
  have hq0 : w.heap.size < W0.heap.size := by omega
  have q4 := var_cell Q 4
  have o0 := Rep.lit_empty W0 5 1 (g := W0.heap.size) rfl
  have HA := Later.alloc W0 (.cells #[] 5)
  have HV := Lib.hid V
  have HZ := Lib.hid Z
  have HQ := Lib.hid Q
  clear V Z Q
  go_wp2_with (first
    | (at_builtin
       refine Rep.wpList_bytes _ W0 rfl (.tmp 5) (.tmp 7) _ rfl 5 j0 Try.underlying22 hj0 hj1 hj2 hj3 _ rfl W0.heap.size o0 (by simp) w.heap.size A4 c4 x.inn rfl ((hr4.below HW).alloc HW.size _) f4 ?_
       intro D4 d4 W1 o4 hg hv9
       refine Halt.go ?_)
    | fail)
  have hb := HA.grown hg HA.size hv9
  replace HV := Lib.hid ((hb.block _ hv0).trans HV.out)
  replace HZ := Lib.hid ((hb.block _ hz0).trans HZ.out)
  replace HQ := Lib.hid ((hb.block _ hq0).trans HQ.out)
  replace HW := HW.trans (hb.mono HW.size)
  have hs1 := hb.size
  have hv1 : w.heap.size + 1 + 1 < W1.heap.size := by omega
  have t4 := var_frozen HV.out 4
  have y4 := var_cell HV.out 4
  clear hg hv9 hb HA o0 q4
  refine Halt.mk ?_
  go_upto_region 3 with (fail)
  clear t4 y4
  have os := Rep.Only.setCell W1 (p := ⟨w.heap.size + 1 + 1, 4, none⟩) (fp := [w.heap.size + 1 + 1]) (by simp) (.slice D4 x.inn.length d4)
  replace HV := Lib.hid (var_set HV.out 4 (.slice D4 x.inn.length d4))
  replace HZ := Lib.hid ((os.block _ (by omega) (by simp)).trans HZ.out)
  replace HQ := Lib.hid ((os.block _ (by omega) (by simp; omega)).trans HQ.out)
  replace HW := HW.setCell (p := ⟨w.heap.size + 1 + 1, 4, none⟩) (by simp; omega) (.slice D4 x.inn.length d4)
  replace o4 := Rep.ownsRow_block o4 fun g hg9 => os.block g (o4.lt g (by simpa using hg9)).2 (by have := (o4.lt g (by simpa using hg9)).1; simp; omega)
  replace hs1 := Nat.le_trans hs1 os.size
  replace hv1 := Nat.lt_of_lt_of_le hv1 os.size
  clear os
  generalize (W1.setCell ⟨w.heap.size + 1 + 1, 4, none⟩ (.slice D4 x.inn.length d4)) = W2 at HV HZ HQ HW o4 hs1 hv1 ⊢
  have hz1 : w.heap.size + 1 < W2.heap.size := by omega
  have hq1 : w.heap.size < W2.heap.size := by omega
  have q5 := var_cell HQ.out 5
  have o1 := Rep.lit_empty W2 5 1 (g := W2.heap.size) rfl
  have HA := Later.alloc W2 (.cells #[] 5)
  have u4 : ∀ k, (Value.slice D4 x.inn.length d4).ownBlock = some k → k < W2.heap.size := fun k hk => (o4.lt k hk).2
  go_wp2_with (first
    | (at_builtin
       refine Rep.wpList_bytes _ W2 rfl (.tmp 10) (.tmp 12) _ rfl 5 j0 Try.underlying22 hj0 hj1 hj2 hj3 _ rfl W2.heap.size o1 (by simp) w.heap.size A5 c5 x.out rfl ((hr5.below HW).alloc HW.size _) f5 ?_
       intro D5 d5 W3 o5 hg hv9
       refine Halt.go ?_)
    | fail)
  have hb := HA.grown hg HA.size hv9
  replace HV := Lib.hid ((hb.block _ hv1).trans HV.out)
  replace HZ := Lib.hid ((hb.block _ hz1).trans HZ.out)
  replace HW := HW.trans (hb.mono HW.size)
  replace o4 := keep_below o4 hb
  have hs2 := hb.size
  have hv2 : w.heap.size + 1 + 1 < W3.heap.size := by omega
  have t5 := var_frozen HV.out 5
  have y5 := var_cell HV.out 5
  clear hg hv9 hb HA o1 q5 HQ
  refine Halt.mk ?_
  go_upto_region 4 with (fail)
  clear t5 y5
  have os := Rep.Only.setCell W3 (p := ⟨w.heap.size + 1 + 1, 5, none⟩) (fp := [w.heap.size + 1 + 1]) (by simp) (.slice D5 x.out.length d5)
  replace HV := Lib.hid (var_set HV.out 5 (.slice D5 x.out.length d5))
  replace HZ := Lib.hid ((os.block _ (by omega) (by simp)).trans HZ.out)
  replace HW := HW.setCell (p := ⟨w.heap.size + 1 + 1, 5, none⟩) (by simp; omega) (.slice D5 x.out.length d5)
  replace o4 := Rep.ownsRow_block o4 fun g hg9 => os.block g (o4.lt g (by simpa using hg9)).2 (by have := (o4.lt g (by simpa using hg9)).1; simp; omega)
  replace o5 := Rep.ownsRow_block o5 fun g hg9 => os.block g (o5.lt g (by simpa using hg9)).2 (by have := (o5.lt g (by simpa using hg9)).1; simp; omega)
  replace hv2 := Nat.lt_of_lt_of_le hv2 os.size
  clear os
  generalize (W3.setCell ⟨w.heap.size + 1 + 1, 5, none⟩ (.slice D5 x.out.length d5)) = W4 at HV HZ HW o4 o5 hv2 ⊢
  have v0 := var_cell HV.out 0
  have z0 := var_cell HZ.out 0
  have f0_ := var_frozen HZ.out 0
  have v1 := var_cell HV.out 1
  have z1 := var_cell HZ.out 1
  have f1_ := var_frozen HZ.out 1
  have v2 := var_cell HV.out 2
  have z2 := var_cell HZ.out 2
  have f2_ := var_frozen HZ.out 2
  have v3 := var_cell HV.out 3
  have z3 := var_cell HZ.out 3
  have f3_ := var_frozen HZ.out 3
  have v4 := var_cell HV.out 4
  have z4 := var_cell HZ.out 4
  have f4_ := var_frozen HZ.out 4
  have v5 := var_cell HV.out 5
  have z5 := var_cell HZ.out 5
  have f5_ := var_frozen HZ.out 5
  have v6 := var_cell HV.out 6
  have z6 := var_cell HZ.out 6
  have f6_ := var_frozen HZ.out 6
  have v7 := var_cell HV.out 7
  have z7 := var_cell HZ.out 7
  have f7_ := var_frozen HZ.out 7
  go_wp2_with fail
  refine bodyPost_ret (v := .agg #[.int .i64 x.id, .int .i64 x.kind, .int .i64 x.hold, .bool x.shut, .slice D4 x.inn.length d4, .slice D5 x.out.length d5, .int .i64 x.st, .int .i64 x.done]) (by simp [results, Try.results69, go_sem, z0, z1, z2, z3, z4, z5, z6, z7]) rfl ?_
  refine ⟨D4, d4, D5, d5, rfl, ?_, ?_, fun k h1 h2 => by have h3 := u4 k h1; have h4 := (o5.lt k h2).1; omega, ?_⟩
  · refine ownsRow_mono (base := w.heap.size + 1 + 1 + 1) ?_ (by omega)
    repeat (refine Owns.setLow ?_ (by first | (simp; done) | (simp; omega)) _)
    exact ownsRow_mono o4 (by omega)
  · refine ownsRow_mono (base := w.heap.size + 1 + 1 + 1) ?_ (by omega)
    repeat (refine Owns.setLow ?_ (by first | (simp; done) | (simp; omega)) _)
    exact ownsRow_mono o5 (by omega)
  · repeat (refine Below.setCell ?_ (by first | (simp; done) | (simp; omega)) _)
    exact HW

end Go.Proofs.Ytcelkmphdeaaeaa
