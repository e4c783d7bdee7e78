/- Free of the model. (By gen_l8f.py.) -/
import Derived.Test.YtcelkmphdeaaeaaOutB
import Derived.Test.YtcelkmphdeaaeaaNLSock
import Derived.Test.YtcelkmphdeaaeaaSocksS
namespace Go.Proofs.Ytcelkmphdeaaeaa
open Go.RowKit
set_option maxRecDepth 100000
set_option linter.unusedVariables false

def clr (a b : Int) : Int := bits .andNot .i64 a b
def freeX (id hold : Int) (x : Sk) : Option Sk := if x.id = id ∧ inI hold 1 3 = true then (if clr x.hold hold = 0 then none else some { x with hold := clr x.hold hold }) else some x
def freeP (xs : List Sk) (id hold : Int) : List Sk := xs.filterMap (freeX id hold)
theorem free_some {xs ys : List Sk} {k : Nat} {id hold : Int} {x y : Sk} (h : ys = freeP (xs.take k) id hold) (hx : xs[k]? = some x) (hf : freeX id hold x = some y) : ys ++ [y] = freeP (xs.take (k + 1)) id hold := by
  unfold freeP at *
  rw [Rep.take_get hx, List.filterMap_append, ← h]
  simp [hf]
theorem free_none {xs ys : List Sk} {k : Nat} {id hold : Int} {x : Sk} (h : ys = freeP (xs.take k) id hold) (hx : xs[k]? = some x) (hf : freeX id hold x = none) : ys = freeP (xs.take (k + 1)) id hold := by
  unfold freeP at *
  rw [Rep.take_get hx, List.filterMap_append, ← h]
  simp [hf]
theorem freeP_len (xs : List Sk) (id hold : Int) : (freeP xs id hold).length ≤ xs.length := List.length_filterMap_le _ _
theorem one_of8 {a b c d e f g h : Value} (ha : a.oneCell' = true) (hb : b.oneCell' = true) (hc : c.oneCell' = true) (hd : d.oneCell' = true) (he : e.oneCell' = true) (hf : f.oneCell' = true) (hg : g.oneCell' = true) (hh : h.oneCell' = true) : ∀ u ∈ [a, b, c, d, e, f, g, h], u.oneCell' = true := by
  intro u hu
  simp only [List.mem_cons, List.not_mem_nil, or_false] at hu
  rcases hu with rfl | rfl | rfl | rfl | rfl | rfl | rfl | rfl <;> assumption

/-- A row of sockets that grows. -/
structure SR (w0 : World) (v : Value) (ys : List Sk) (W : World) : Prop where
  below : Below w0.heap.size w0 W
  own : ∃ fp, Rep.OwnRows skR 25 W w0.heap.size v ys fp
theorem SR.later {w0 W W' : World} {v : Value} {ys : List Sk} (h : SR w0 v ys W) (hb : Below W.heap.size W W') : SR w0 v ys W' := by
  obtain ⟨fp, ho⟩ := h.own
  exact ⟨Later.trans h.below hb, fp, ho.of_below hb⟩
theorem SR.new (w0 W : World) (hb : Below w0.heap.size w0 W) : SR w0 (.slice (some ⟨W.heap.size, 0, none⟩) 0 0) [] (W.alloc (.cells #[] 25)) :=
  ⟨hb.alloc hb.size _, _, [], [], World.ownsRow_lit W #[] 0 hb.size (by simp) (by simp), rfl, fun i x f h => by simp at h, rfl, by simp [Value.ownBlock]⟩
/-- A socket and a list come back. -/
def RetFree (w : World) (ys : List Sk) (e : Ending) (w' : World) : Prop := ∃ A c fp, e = .returned (.slice A ys.length c) ∧ Rep.OwnRows skR 25 w' w.heap.size (.slice A ys.length c) ys fp ∧ Below w.heap.size w w'

set_option maxHeartbeats 16000000 in
theorem freeS_any (A : Option Addr) (c : Nat) (xs : List Sk) (id hold : Int) (w : World) (h : Rep.RowsAt skR w w.heap.size A xs.length xs) (hs : RoomSkS xs) :
    Calls Try.prog 27 #[.slice A xs.length c, .int .i64 id, .int .i64 hold] w (RetFree w (freeP xs id hold)) := by
  obtain ⟨m0, hm0, hm1, hm2, hm3⟩ := info_parts Try.infoSkB
  have HM := Lib.hid hs
  have hn := hs.1
  obtain ⟨ci, hci⟩ : ∃ b, inI hold 1 3 = b := ⟨_, rfl⟩
  have HCI := Lib.hid hci
  clear hs hci
  have S0 := SR.new w w (Below.refl _ _)
  go_enter Try.func27, Try.ntmps27
  go_wp2
  go_loopw [7, 8] (fun q i wr => ∃ (k : Nat) (ys : List Sk) (v : Value), k ≤ xs.length ∧ i = .int .i64 k ∧ v = q ∧ Hid (ys = freeP (xs.take k) id hold) ∧ SR w v ys wr) (fun _ i _ => xs.length - (intOf i).toNat)
  case atStart => exact ⟨0, [], _, by omega, rfl, rfl, Lib.hid (by simp [freeP]), S0⟩
  case round =>
    obtain ⟨k, ys, v, hk, rfl, rfl, HQ, SRW⟩ := hrel
    clear S0
    have hyn : ys.length ≤ 1048576 := by rw [HQ.out]; have h1 := freeP_len (xs.take k) id hold; rw [List.length_take] at h1; omega
    by_cases hlt : k < xs.length
    · obtain ⟨b, off, x, B4, e4, B5, e5, rfl, hbl, hx, ⟨e0, e1, e2, e3, e4', e5', e6, e7⟩, hc4, hr4, hc5, hr5⟩ := sk_elem (h.keep fun p hp => SRW.below.cell hp) hlt
      have hat := sk_at hc4 (hr4.more SRW.below.size) hc5 (hr5.more SRW.below.size)
      have hrx := HM.out.2 x (List.mem_of_getElem? hx)
      have HX := Lib.hid hx
      clear hx hr4 hr5 hc4 hc5
      go_wp2_with fail
      clear e0 e1 e2 e3 e4' e5' e6 e7
      refine (l8Copy_any [.int .i64 x.id, .int .i64 x.kind, .int .i64 x.hold, .bool x.shut, .slice B4 x.inn.length e4, .slice B5 x.out.length e5, .int .i64 x.st, .int .i64 x.done] x wr hat hrx).mono ?_
      rintro e1 W1 ⟨A4, c4, A5, c5, rfl, h4, h5, hap, hb⟩
      go_upto_region 6 with (fail)
      have hO : OB wr W1.heap.size x (.slice A4 x.inn.length c4) (.slice A5 x.out.length c5) (W1.alloc (.cells #[.int .i64 x.id, .int .i64 x.kind, .int .i64 x.hold, .bool x.shut, .slice A4 x.inn.length c4, .slice A5 x.out.length c5, .int .i64 x.st, .int .i64 x.done] 25)) :=
        ⟨hb.alloc hb.size _, heap_alloc_new _ _, Owns.keep h4 (Later.alloc _ _), Owns.keep h5 (Later.alloc _ _), hap, hb.size, fun e => by have := (h4.lt _ e).2; omega, fun e => by have := (h5.lt _ e).2; omega⟩
      clear h4 h5 hap hb hat
      generalize W1.alloc (.cells #[.int .i64 x.id, .int .i64 x.kind, .int .i64 x.hold, .bool x.shut, .slice A4 x.inn.length c4, .slice A5 x.out.length c5, .int .i64 x.st, .int .i64 x.done] 25) = W2 at hO ⊢
      generalize W1.heap.size = G at hO ⊢
      have hwz := SRW.below.size
      obtain ⟨ce, hce⟩ : ∃ b, (x.id == id) = b := ⟨_, rfl⟩
      have HCE := Lib.hid hce
      have hG := hO.lt
      have b0 := var_cell hO.box 0
      have b1 := var_cell hO.box 1
      have b2 := var_cell hO.box 2
      have b3 := var_cell hO.box 3
      have b4 := var_cell hO.box 4
      have b5 := var_cell hO.box 5
      have b6 := var_cell hO.box 6
      have b7 := var_cell hO.box 7
      cases ce
      · have hf : freeX id hold x = some x := by unfold freeX; rw [if_neg (fun h => by have := HCE.out; simp at this; exact this h.1)]
        have HF := Lib.hid hf
        have hbw := Later.of hO.below
        have hown := hO.own
        clear hf
        obtain ⟨fp, hrow⟩ := SRW.own
        have hfl := Lib.hid hrow.lt
        replace hrow := hrow.of_below hbw
        have hyo := Rep.own_below (Rep.low skR hown hwz) (Later.alloc W2 (.cells #[.int .i64 x.id, .int .i64 x.kind, .int .i64 x.hold, .bool x.shut, .slice A4 x.inn.length c4, .slice A5 x.out.length c5, .int .i64 x.st, .int .i64 x.done] 25))
        have hyl := Lib.hid (Rep.lt skR hown)
        replace hrow := hrow.alloc (.cells #[.int .i64 x.id, .int .i64 x.kind, .int .i64 x.hold, .bool x.shut, .slice A4 x.inn.length c4, .slice A5 x.out.length c5, .int .i64 x.st, .int .i64 x.done] 25)
        have hnew := reads_lit W2 #[.int .i64 x.id, .int .i64 x.kind, .int .i64 x.hold, .bool x.shut, .slice A4 x.inn.length c4, .slice A5 x.out.length c5, .int .i64 x.st, .int .i64 x.done] 8 1 25 (g := W2.heap.size) rfl rfl (by simp [maxLen])
        have hwl : w.heap.size ≤ W2.heap.size := Nat.le_trans SRW.below.size hbw.size
        have hbA : Below w.heap.size w (W2.alloc (.cells #[.int .i64 x.id, .int .i64 x.kind, .int .i64 x.hold, .bool x.shut, .slice A4 x.inn.length c4, .slice A5 x.out.length c5, .int .i64 x.st, .int .i64 x.done] 25)) := Later.trans (Later.trans SRW.below hbw) (Later.alloc _ _)
        go_wp2_with (first
          | (at_builtin
             refine Rep.wpList_push _ rfl (.tmp 38) (.tmp 40) _ rfl skR w.heap.size 25 m0 _ 96 Try.underlying36 hm0 hm1 hm2 hm3 rfl (by decide) v ys fp rfl hrow _ 1 _ x _ rfl hnew (one_of8 rfl rfl rfl rfl rfl rfl rfl rfl) hyo (fun g hg hg' => by have h1 := (hyl.out g hg).1; have h2 := (hfl.out g hg').2; omega) (by simp only [maxLen]; omega) (by omega) hbA.size ?_
             intro A9 c9 w9 fp9 hown9 hg9 hf9 hv9
             refine Halt.go ?_)
          | fail)
        have SR9 : SR w (.slice A9 (ys.length + 1) c9) (ys ++ [x]) w9 := ⟨hbA.grown hg9 hbA.size (fun k hk => (hv9 k hk).1), fp9, hown9⟩
        have HQ9 := Lib.hid (free_some HQ.out HX.out HF.out)
        clear hown9 hg9 hf9 hv9 hrow hyo hyl hfl hnew hbA
        refine Halt.mk ?_
        go_wp2_with fail
        go_roundw
        case rel => exact ⟨k + 1, _, _, by omega, by go_num, rfl, HQ9, SR9⟩
        case measure => simp [intOf]; omega
      · cases ci
        · have hf : freeX id hold x = some x := by unfold freeX; rw [HCI.out]; simp
          have HF := Lib.hid hf
          have hbw := Later.of hO.below
          have hown := hO.own
          clear hf
          go_upto_region 6 with (fail)
          go_wp2_with fail
          refine (l1In_b HCI.out W2).mono ?_
          rintro e w' ⟨rfl, rfl⟩
          skip
          obtain ⟨fp, hrow⟩ := SRW.own
          have hfl := Lib.hid hrow.lt
          replace hrow := hrow.of_below hbw
          have hyo := Rep.own_below (Rep.low skR hown hwz) (Later.alloc W2 (.cells #[.int .i64 x.id, .int .i64 x.kind, .int .i64 x.hold, .bool x.shut, .slice A4 x.inn.length c4, .slice A5 x.out.length c5, .int .i64 x.st, .int .i64 x.done] 25))
          have hyl := Lib.hid (Rep.lt skR hown)
          replace hrow := hrow.alloc (.cells #[.int .i64 x.id, .int .i64 x.kind, .int .i64 x.hold, .bool x.shut, .slice A4 x.inn.length c4, .slice A5 x.out.length c5, .int .i64 x.st, .int .i64 x.done] 25)
          have hnew := reads_lit W2 #[.int .i64 x.id, .int .i64 x.kind, .int .i64 x.hold, .bool x.shut, .slice A4 x.inn.length c4, .slice A5 x.out.length c5, .int .i64 x.st, .int .i64 x.done] 8 1 25 (g := W2.heap.size) rfl rfl (by simp [maxLen])
          have hwl : w.heap.size ≤ W2.heap.size := Nat.le_trans SRW.below.size hbw.size
          have hbA : Below w.heap.size w (W2.alloc (.cells #[.int .i64 x.id, .int .i64 x.kind, .int .i64 x.hold, .bool x.shut, .slice A4 x.inn.length c4, .slice A5 x.out.length c5, .int .i64 x.st, .int .i64 x.done] 25)) := Later.trans (Later.trans SRW.below hbw) (Later.alloc _ _)
          go_wp2_with (first
            | (at_builtin
               refine Rep.wpList_push _ rfl (.tmp 38) (.tmp 40) _ rfl skR w.heap.size 25 m0 _ 96 Try.underlying36 hm0 hm1 hm2 hm3 rfl (by decide) v ys fp rfl hrow _ 1 _ x _ rfl hnew (one_of8 rfl rfl rfl rfl rfl rfl rfl rfl) hyo (fun g hg hg' => by have h1 := (hyl.out g hg).1; have h2 := (hfl.out g hg').2; omega) (by simp only [maxLen]; omega) (by omega) hbA.size ?_
               intro A9 c9 w9 fp9 hown9 hg9 hf9 hv9
               refine Halt.go ?_)
            | fail)
          have SR9 : SR w (.slice A9 (ys.length + 1) c9) (ys ++ [x]) w9 := ⟨hbA.grown hg9 hbA.size (fun k hk => (hv9 k hk).1), fp9, hown9⟩
          have HQ9 := Lib.hid (free_some HQ.out HX.out HF.out)
          clear hown9 hg9 hf9 hv9 hrow hyo hyl hfl hnew hbA
          refine Halt.mk ?_
          go_wp2_with fail
          go_roundw
          case rel => exact ⟨k + 1, _, _, by omega, by go_num, rfl, HQ9, SR9⟩
          case measure => simp [intOf]; omega
        · have HID : Hid (x.id = id) := Lib.hid (by have := HCE.out; simpa using this)
          have tf := var_frozen hO.box 2
          go_wp2_with fail
          refine (l1In_b HCI.out W2).mono ?_
          rintro e w' ⟨rfl, rfl⟩
          go_upto_region 8 with (fail)
          clear tf b0 b1 b2 b3 b4 b5 b6 b7
          obtain ⟨H, hH⟩ : ∃ H, bits BinOp.andNot IntKind.i64 x.hold hold = H := ⟨_, rfl⟩
          have HH := Lib.hid (show clr x.hold hold = H from hH)
          rw [hH]
          have hO2 : OB wr G { x with hold := H } (.slice A4 x.inn.length c4) (.slice A5 x.out.length c5) (W2.setCell ⟨G, 2, none⟩ (.int .i64 H)) := hO.put 2 _ _ rfl rfl rfl
          clear hH hO hce
          generalize (W2.setCell ⟨G, 2, none⟩ (.int .i64 H)) = W3 at hO2 ⊢
          have hG2 := hO2.lt
          have hbw := Later.of hO2.below
          have HX1 : Hid (freeX id hold x = if H = 0 then none else some { x with hold := H }) := Lib.hid (by unfold freeX; rw [if_pos ⟨HID.out, HCI.out⟩, HH.out])
          have b2 := var_cell hO2.box 2
          by_cases h0 : H = 0
          · have h00 : (H == 0) = true := by simp [h0]
            have HQ9 := Lib.hid (free_none HQ.out HX.out (by rw [HX1.out, if_pos h0]))
            have SR9 := SRW.later hbw
            clear HX1 hO2
            subst h0
            go_wp2_with fail
            go_roundw
            case rel => exact ⟨k + 1, _, _, by omega, by go_num, rfl, HQ9, SR9⟩
            case measure => simp [intOf]; omega
          · have h00 : (H == 0) = false := by simp [h0]
            have HF : Hid (freeX id hold x = some { x with hold := H }) := Lib.hid (by rw [HX1.out, if_neg h0])
            have hown : skR.own W3 wr.heap.size [.int .i64 x.id, .int .i64 x.kind, .int .i64 H, .bool x.shut, .slice A4 x.inn.length c4, .slice A5 x.out.length c5, .int .i64 x.st, .int .i64 x.done] ({ x with hold := H } : Sk) _ := hO2.own
            clear HX1
            have b0 := var_cell hO2.box 0
            have b1 := var_cell hO2.box 1
            have b3 := var_cell hO2.box 3
            have b4 := var_cell hO2.box 4
            have b5 := var_cell hO2.box 5
            have b6 := var_cell hO2.box 6
            have b7 := var_cell hO2.box 7
            obtain ⟨fp, hrow⟩ := SRW.own
            have hfl := Lib.hid hrow.lt
            replace hrow := hrow.of_below hbw
            have hyo := Rep.own_below (Rep.low skR hown hwz) (Later.alloc W3 (.cells #[.int .i64 x.id, .int .i64 x.kind, .int .i64 H, .bool x.shut, .slice A4 x.inn.length c4, .slice A5 x.out.length c5, .int .i64 x.st, .int .i64 x.done] 25))
            have hyl := Lib.hid (Rep.lt skR hown)
            replace hrow := hrow.alloc (.cells #[.int .i64 x.id, .int .i64 x.kind, .int .i64 H, .bool x.shut, .slice A4 x.inn.length c4, .slice A5 x.out.length c5, .int .i64 x.st, .int .i64 x.done] 25)
            have hnew := reads_lit W3 #[.int .i64 x.id, .int .i64 x.kind, .int .i64 H, .bool x.shut, .slice A4 x.inn.length c4, .slice A5 x.out.length c5, .int .i64 x.st, .int .i64 x.done] 8 1 25 (g := W3.heap.size) rfl rfl (by simp [maxLen])
            have hwl : w.heap.size ≤ W3.heap.size := Nat.le_trans SRW.below.size hbw.size
            have hbA : Below w.heap.size w (W3.alloc (.cells #[.int .i64 x.id, .int .i64 x.kind, .int .i64 H, .bool x.shut, .slice A4 x.inn.length c4, .slice A5 x.out.length c5, .int .i64 x.st, .int .i64 x.done] 25)) := Later.trans (Later.trans SRW.below hbw) (Later.alloc _ _)
            go_wp2_with (first
              | (at_builtin
                 refine Rep.wpList_push _ rfl (.tmp 38) (.tmp 40) _ rfl skR w.heap.size 25 m0 _ 96 Try.underlying36 hm0 hm1 hm2 hm3 rfl (by decide) v ys fp rfl hrow _ 1 _ ({ x with hold := H } : Sk) _ rfl hnew (one_of8 rfl rfl rfl rfl rfl rfl rfl rfl) hyo (fun g hg hg' => by have h1 := (hyl.out g hg).1; have h2 := (hfl.out g hg').2; omega) (by simp only [maxLen]; omega) (by omega) hbA.size ?_
                 intro A9 c9 w9 fp9 hown9 hg9 hf9 hv9
                 refine Halt.go ?_)
              | fail)
            have SR9 : SR w (.slice A9 (ys.length + 1) c9) (ys ++ [({ x with hold := H } : Sk)]) w9 := ⟨hbA.grown hg9 hbA.size (fun k hk => (hv9 k hk).1), fp9, hown9⟩
            have HQ9 := Lib.hid (free_some HQ.out HX.out HF.out)
            clear hown9 hg9 hf9 hv9 hrow hyo hyl hfl hnew hbA
            refine Halt.mk ?_
            go_wp2_with fail
            go_roundw
            case rel => exact ⟨k + 1, _, _, by omega, by go_num, rfl, HQ9, SR9⟩
            case measure => simp [intOf]; omega
    · have he : k = xs.length := by omega
      subst he
      obtain ⟨fp, ho⟩ := SRW.own
      obtain ⟨A9, c9, rfl, _, _, _⟩ := ho.reads
      have hq : ys = freeP xs id hold := by have h9 := HQ.out; rw [List.take_length] at h9; exact h9
      have hlow := SRW.below
      clear HQ SRW hyn
      have HQ := Lib.hid hq
      clear hq
      go_wp2
      go_ret
      rw [← HQ.out]
      exact ⟨A9, c9, fp, rfl, ho, hlow⟩

end Go.Proofs.Ytcelkmphdeaaeaa
