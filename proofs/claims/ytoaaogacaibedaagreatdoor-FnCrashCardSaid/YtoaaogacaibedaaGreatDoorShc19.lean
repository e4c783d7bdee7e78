/- What the theorem needs, out of many texts. -/
import Derived.Test.YtoaaogacaibedaaGreatDoorShc10
import Derived.Test.YtoaaogacaibedaaGreatDoorShc12
import Derived.Test.YtoaaogacaibedaaGreatDoorShc16
import Derived.Test.YtoaaogacaibedaaGreatDoorShc18
namespace Go.Proofs.YtoaaogacaibedaaGreatDoor
open Go.RowKit Go.Maps
set_option maxRecDepth 2000000
set_option linter.unusedVariables false
def keepOf (k : Int) : Int := if 0 ≤ k ∧ k ≤ 1073741823 then k else 0
theorem keepOf_yes {k : Int} (h : 0 ≤ k ∧ k ≤ 1073741823) : keepOf k = k := if_pos h
theorem keepOf_no {k : Int} (h : ¬ (0 ≤ k ∧ k ≤ 1073741823)) : keepOf k = 0 := if_neg h
def bitOf (kb : Int) (k : Nat) : Bool := kb.toNat.testBit k
def keyB (cache : List Wr) (kb : Int) (k : Nat) (i : Int) : Bool := bitOf kb k && key cache k i
theorem idx_okB (d : Disk) (kb : Int) (k : Nat) (hk : k ≤ d.cache.length) : IdxOk d (idxC (keyB d.cache kb) k) := by
 intro i j h
 obtain ⟨h1, h2⟩ := idxC_lt h
 obtain ⟨x, hx⟩ := Rep.getElem?_of_lt (xs := d.cache) rfl (show j < d.cache.length by omega)
 unfold keyB at h2
 rw [key_eq hx] at h2
 exact ⟨x, hx, by simp at h2; exact h2.2⟩
noncomputable def fallDisk (d : Disk) (keep : Int) : Disk :=
 @ite _ (DiskGood d) (Classical.propDecidable _) ⟨flushSecs d (idxC (keyB d.cache (keepOf keep)) d.cache.length), [], -1, false⟩ d
theorem fallDisk_no {d : Disk} (keep : Int) (h : ¬ DiskGood d) : fallDisk d keep = d := by unfold fallDisk; exact @if_neg _ (Classical.propDecidable _) h _ _ _
theorem fallDisk_go {d : Disk} (keep : Int) (h : DiskGood d) : fallDisk d keep = ⟨flushSecs d (idxC (keyB d.cache (keepOf keep)) d.cache.length), [], -1, false⟩ := by
 unfold fallDisk
 exact @if_pos _ (Classical.propDecidable _) h _ _ _
end Go.Proofs.YtoaaogacaibedaaGreatDoor
namespace Go.Proofs.YtoaaogacaibedaaGreatDoor
open Go.Lib
theorem i64_and1 (n : Int) : bits .and .i64 n 1 = n % 2 := by
 have hm : (BitVec.ofInt 64 1).toNat = 2 ^ 1 - 1 := by decide
 have key : (BitVec.ofInt 64 n &&& BitVec.ofInt 64 1).toNat = (n % ((2 ^ 64 : Nat) : Int)).toNat % 2 ^ 1 := by
  rw [BitVec.toNat_and, BitVec.toNat_ofInt, hm, Nat.and_two_pow_sub_one_eq_mod]
 show IntKind.i64.wrap ((BitVec.ofInt 64 n &&& BitVec.ofInt 64 1).toNat : Nat) = n % 2
 rw [key, IntKind.wrap_i64]
 omega
theorem bit_nat (a k : Nat) : (((a : Int) / 2 ^ k) % 2 == 1) = a.testBit k := by
 rw [Nat.testBit_eq_decide_div_mod_eq, show ((2 : Int) ^ k) = ((2 ^ k : Nat) : Int) by simp, ← Int.natCast_ediv]
 generalize a / 2 ^ k = b
 by_cases h : b % 2 = 1
 ·rw [decide_eq_true h]; simp; omega
 ·rw [decide_eq_false h]; simp; omega
theorem bit_walk {kb : Int} {k : Nat} (h0 : 0 ≤ kb) (_ : kb ≤ 1073741823) (_ : k < 30) : (bits .and .i64 (kb / 2 ^ k) 1 == 1) = bitOf kb k := by
 obtain ⟨a, rfl⟩ := Int.eq_ofNat_of_zero_le h0
 rw [i64_and1, bit_nat]
 rfl
end Go.Proofs.YtoaaogacaibedaaGreatDoor
namespace Go.Proofs.YtoaaogacaibedaaGreatDoor
open Go.RowKit Go.Maps
set_option maxRecDepth 2000000
set_option linter.unusedVariables false
theorem MapIs.mono {w : World} {mb m : Nat} {cells : List Value} {idx : Int → Option Nat} (h : MapIs w mb m cells idx) {m' : Nat} (hm : m ≤ m') : MapIs w mb m' cells idx := by
 obtain ⟨D, ho, hD, hi⟩ := h
 exact ⟨D, ho.mono hm, hD, hi⟩
set_option maxRecDepth 100000 in
set_option maxHeartbeats 2000000 in
theorem driveRestart_any (g mb m base gs c : Nat) (B : Option Addr) (c' : Nat) (f : Int) (dn : Bool) (d : Disk) (keep : Int) (sc cc : List Value) (fps fcs : List (List Nat)) (idx : Int → Option Nat) (w : World)
  (hv : w.heap[g]? = some (.cells #[.slice (some ⟨gs, 0, none⟩) d.secs.length c, .slice B d.cache.length c', .int .i64 f, .bool dn, .map (some mb)] 106 (0, 0)))
  (hm : MapIs w mb m cc idx) (hM : Mid w base (.slice (some ⟨gs, 0, none⟩) d.secs.length c) (.slice B d.cache.length c') d sc cc fps fcs (fun _ => none)) (hk : KeysOk d) (hf : d.secs.length ≤ 1048576)
  (hg1 : ∀ a, a ∈ ((Value.slice (some ⟨gs, 0, none⟩) d.secs.length c).ownBlock.toList ++ fps.flatten) ++ ((Value.slice B d.cache.length c').ownBlock.toList ++ fcs.flatten) → a ≠ g ∧ a ≠ mb) (hgm : g ≠ mb)
  (h30 : d.cache.length ≤ 30) (hk0 : 0 ≤ keep) (hk1 : keep ≤ 1073741823) :
  Calls Tryz.prog 64 #[.pointer (some ⟨g, 0, none⟩), .int .i64 keep] w fun e w' => e = .returned (.tuple #[]) ∧ Hid (w'.heap[g]? = some (.cells #[.slice (some ⟨gs, 0, none⟩) d.secs.length c, .slice none 0 0, .int .i64 (-1), .bool false, .map (some mb)] 106 (0, 0))) ∧
   Mid w' base (.slice (some ⟨gs, 0, none⟩) d.secs.length c) (.slice B d.cache.length c') d sc cc fps fcs (idxC (keyB d.cache keep) d.cache.length) ∧ Rep.Only w w' [g, mb, gs] := by
 have c4 : w.cell? ⟨g, 4, none⟩ = some (.map (some mb)) := var_cell hv 4
 have hgl : g < w.heap.size := World.block_lt_of_cell? w ⟨g, 4, none⟩ c4
 have hml := hm.lt
 have hgsm := hg1 gs (by simp [Value.ownBlock])
 have LT := Lib.hid hM.lts
 have HG1 := Lib.hid hg1
 have HK := Lib.hid hk
 obtain ⟨w5, hrun, hm5, ht5⟩ := run_clear hm
 have hg5 := ht5.grown
 have V5 := Lib.hid ((hg5.block g hgl (by simp; omega)).trans hv)
 have hM5 := hM.kept (w' := w5) (fun a ha => hg5.block a (LT.out a ha).2 (by have := (HG1.out a ha).2; simp; omega))
 have hO5 : Rep.Only w w5 [g, mb, gs] := Rep.Only.of_grown hg5 (fun a ha => by injection ha with ha; simp [ha])
 have e51 : w5.cell? ⟨g, 1, none⟩ = some (.slice B d.cache.length c') := var_cell V5.out 1
 have hm5' := hm5.weak (idx' := idxC (keyB d.cache keep) 0) (fun _ => rfl)
 have hgs5 : gs < w.heap.size := (LT.out gs (by simp [Value.ownBlock])).2
 clear hg5 ht5 hM hm hg1 hk hv hm5
 go_enter Tryz.func64, Tryz.ntmps64
 go_wp2_with fail
 go_loopw [16] (fun i wr => ∃ k : Nat, k ≤ d.cache.length ∧ i = .int .i64 k ∧ Hid (wr.heap[g]? = some (.cells #[.slice (some ⟨gs, 0, none⟩) d.secs.length c, .slice B d.cache.length c', .int .i64 f, .bool dn, .map (some mb)] 106 (0, 0))) ∧
   MapIs wr mb k cc (idxC (keyB d.cache keep) k) ∧ Mid wr base (.slice (some ⟨gs, 0, none⟩) d.secs.length c) (.slice B d.cache.length c') d sc cc fps fcs (fun _ => none) ∧ Rep.Only w wr [g, mb, gs]) (fun i _ => d.cache.length - (intOf i).toNat)
 case atStart => exact ⟨0, by omega, rfl, V5, hm5', hM5, hO5⟩
 case round =>
  obtain ⟨k, hkl, rfl, vo, hmr, hM, hO⟩ := hrel
  clear hrun V5 hm5' hM5 hO5 e51 c4
  have hz := hO.size
  by_cases hlt : k < d.cache.length
  ·obtain ⟨b, off, A2, c2, x, rfl, hbl, hx, e0, e1, hgd⟩ := hM.elem hlt
   obtain ⟨hx0, hx1⟩ := HK.out x (List.mem_of_getElem? hx)
   have hwx : (Lit.int .i64 x.n).wf = true := WalkArith.wf_i64 (by omega)
   have hkx := Lib.hid (key_eq hx)
   have HG := Lib.hid hgd
   clear hgd hx hx0 hx1
   have i1 : (0 : Int) ≤ (k : Int) := by omega
   have i2 : (k : Int) < (d.cache.length : Int) := by omega
   have HBITS := Lib.hid (bit_walk hk0 hk1 (show k < 30 by omega))
   have hvw := heap_alloc_new wr (.cells #[.int .i64 x.n, .slice A2 x.b.length c2] 100)
   have hkA : ∀ a, a < wr.heap.size → (wr.alloc (.cells #[.int .i64 x.n, .slice A2 x.b.length c2] 100)).heap[a]? = wr.heap[a]? := fun a ha => Below.heap_alloc wr _ a ha
   have hOA : Rep.Only w (wr.alloc (.cells #[.int .i64 x.n, .slice A2 x.b.length c2] 100)) [g, mb, gs] := hO.trans ((Rep.only_alloc wr _).mono (by simp))
   have hzA : (wr.alloc (.cells #[.int .i64 x.n, .slice A2 x.b.length c2] 100)).heap.size = wr.heap.size + 1 := by simp
   rcases hbit : bitOf keep k with _ | _
   ·have hbw := HBITS.out.trans hbit
    have HB9 := Lib.hid hbit
    clear hbit
    go_wp2_with fail
    generalize hgw : wr.alloc (.cells #[.int .i64 x.n, .slice A2 x.b.length c2] 100) = wa at hkA hvw hOA hzA ⊢
    clear hgw e0 e1
    have vA := Lib.hid ((hkA g (by omega)).trans vo.out)
    have mA := ((hmr.of_block (w' := wa) (hkA mb (by omega))).mono (show k ≤ k + 1 by omega)).weak (idx' := idxC (keyB d.cache keep) (k + 1)) (fun i => by
     show _ = (if keyB d.cache keep k i = true then some k else idxC (keyB d.cache keep) k i)
     rw [show keyB d.cache keep k i = false from by unfold keyB; rw [HB9.out]; rfl]; rfl)
    have hMA := hM.kept (w' := wa) (fun a ha => hkA a (by have := (LT.out a ha).2; omega))
    clear hkA hvw
    go_roundw
    case rel => exact ⟨k + 1, by omega, by go_num, vA, mA, hMA, hOA⟩
    case measure => simp [intOf]; omega
   ·have hbw := HBITS.out.trans hbit
    have HB9 := Lib.hid hbit
    clear hbit
    go_wp2_with fail
    generalize hgw : wr.alloc (.cells #[.int .i64 x.n, .slice A2 x.b.length c2] 100) = wa at hkA hvw hOA hzA ⊢
    clear hgw e0 e1
    have vA := Lib.hid ((hkA g (by omega)).trans vo.out)
    have mA := hmr.of_block (w' := wa) (hkA mb (by omega))
    have hMA := hM.kept (w' := wa) (fun a ha => hkA a (by have := (LT.out a ha).2; omega))
    have eM : wa.cell? ⟨g, 4, none⟩ = some (.map (some mb)) := var_cell vA.out 4
    have eN : wa.cell? ⟨wr.heap.size, 0, none⟩ = some (.int .i64 x.n) := var_cell hvw 0
    have eB : wa.cell? ⟨wr.heap.size, 1, none⟩ = some (.slice A2 x.b.length c2) := var_cell hvw 1
    obtain ⟨D, ho, hD, hi⟩ := mA
    have HI := Lib.hid hi
    clear hi hkA hvw
    refine wp_region_lex' 8 [0, 1, 2, 3, 4, 5, 6, 7] [8] (fun w' => w'.cell? ⟨g, 4, none⟩ = some (.map (some mb)) ∧ w'.cell? ⟨wr.heap.size, 0, none⟩ = some (.int .i64 x.n) ∧ w'.cell? ⟨wr.heap.size, 1, none⟩ = some (.slice A2 x.b.length c2)) (by kernel_rfl) (by kernel_rfl) ⟨eM, eN, eB⟩ ?_
    iterate 8 (refine LexR.cons rfl ?_ (fun w' hw => ?_) ?_; rotate_left; focus (obtain ⟨e1, e2, e3⟩ := hw; go_simp; (try exact rfl)); (try go_frame))
    refine LexR.nil (LexW.cons rfl ?_)
    go_frame
    have hkm : k < maxLen := by simp only [maxLen]; omega
    refine mapPut wa.drew rfl (.tmp 29) (.tmp 31) (.tmp 33) rfl mb k D rfl ho.drew hkm x.n (.slice A2 x.b.length c2) rfl rfl hwx ?_
    intro w3 hown3 hturn3
    refine ⟨fun h => absurd rfl h, LexW.nil ?_⟩
    have hg3 := hturn3.grown
    rw [← HG.out] at hown3
    have hM3 := (MapIs.put (k := k) hwx hD HI.out hown3).weak (idx' := idxC (keyB d.cache keep) (k + 1)) (fun i => by
     show (if x.n = i then some k else idxC (keyB d.cache keep) k i) = (if keyB d.cache keep k i = true then some k else idxC (keyB d.cache keep) k i)
     rw [show keyB d.cache keep k i = (x.n == i) from by unfold keyB; rw [HB9.out, hkx.out i]; rfl]
     by_cases he : x.n = i
     ·rw [if_pos he, if_pos (by simpa using he)]
     ·rw [if_neg he, if_neg (by simpa using he)])
    have hzd : wa.drew.heap.size = wa.heap.size := rfl
    have V3 := Lib.hid ((hg3.block g (by omega) (by simp; omega)).trans vA.out)
    have hMM3 := (hMA.kept (w' := wa.drew) (fun _ _ => rfl)).kept (w' := w3) (fun a ha => hg3.block a (by have := (LT.out a ha).2; omega) (by have := (HG1.out a ha).2; simp; omega))
    have hO3 : Rep.Only w w3 [g, mb, gs] := (hOA.trans ((Rep.only_drew wa).mono (by simp))).trans (Rep.Only.of_grown hg3 (fun a ha => by injection ha with ha; simp [ha]))
    clear hg3 hturn3 hown3 hMA hOA eM eN eB
    go_wp2_with fail
    go_roundw
    case rel => exact ⟨k + 1, by omega, by go_num, V3, hM3, hMM3, hO3⟩
    case measure => simp [intOf]; omega
  ·have he : k = d.cache.length := by omega
   subst he
   go_wp2_with fail
   refine (driveFlush_any g mb d.cache.length base gs c B c' (.int .i64 f) (.bool dn) d sc cc fps fcs _ wr vo.out hmr hM (idx_okB d keep _ (Nat.le_refl _)) HK.out hf HG1.out hgm).mono ?_
   rintro e w2 ⟨rfl, v2, hM2, ho2⟩
   have e22 : w2.cell? ⟨g, 2, none⟩ = some (.int .i64 f) := var_cell v2.out 2
   have e23 : w2.cell? ⟨g, 3, none⟩ = some (.bool dn) := var_cell v2.out 3
   have q2 := var_frozen v2.out 2
   have q3 := var_frozen v2.out 3
   go_wp2_with fail
   go_end0
   exact ⟨rfl, Lib.hid (var_set (var_set v2.out 3 (.bool false)) 2 (.int .i64 (-1))), (hM2.kept (fun a ha => heap_setCell_other w2 ⟨g, 3, none⟩ a _ (by have := (HG1.out a ha).1; simp; omega))).kept (fun a ha => heap_setCell_other _ _ _ _ (by have := (HG1.out a ha).1; simp; omega)),
    ((hO.trans ho2).trans (Rep.Only.setCell w2 (by simp) _)).trans (Rep.Only.setCell _ (by simp) _)⟩
set_option maxRecDepth 100000 in
set_option maxHeartbeats 4000000 in
theorem fallDisk_any (cs : List Value) (d : Disk) (keep : Int) (w : World) (h : diskR.at_ w w.heap.size cs d) (hf : Fits d) (hwn : (Lit.int .i64 keep).wf = true) :
  Calls Tryz.prog 19 #[.agg cs.toArray, .int .i64 keep] w (RetDisk w (fallDisk d keep)) := by
 obtain ⟨Ad, cd, Bd, ed, rfl⟩ := disk_at_shape h
 have Td := h
 clear h
 have HBw := Below.refl w.heap.size w
 obtain ⟨y, hy⟩ : ∃ y, diskOk d = y := ⟨_, rfl⟩
 have HOK := Lib.hid hy
 clear hy
 have f1 := hf.1
 have f3 := hf.2.2.1
 go_enter Tryz.func19, Tryz.ntmps19
 go_wp2_with fail
 have ho := Rep.only_alloc w (.cells #[.slice Ad d.secs.length cd, .slice Bd d.cache.length ed, .int .i64 d.fuse, .bool d.down] 27)
 have hv := heap_alloc_new w (.cells #[.slice Ad d.secs.length cd, .slice Bd d.cache.length ed, .int .i64 d.fuse, .bool d.down] 27)
 have hs : (w.alloc (.cells #[.slice Ad d.secs.length cd, .slice Bd d.cache.length ed, .int .i64 d.fuse, .bool d.down] 27)).heap.size = w.heap.size + 1 := by simp
 generalize hgW : w.alloc (.cells #[.slice Ad d.secs.length cd, .slice Bd d.cache.length ed, .int .i64 d.fuse, .bool d.down] 27) = W1 at ho hv hs ⊢
 clear hgW
 have SW1 : w.heap.size ≤ W1.heap.size := ho.size
 have HBW1 := Rep.Only.below HBw ho (by omega) (fun a ha => by cases ha)
 replace Td := Rep.at_only Td ho (by omega) (fun a ha => by cases ha)
 clear HBw
 have Vd := Lib.hid hv
 clear hv ho
 have ZW1 : w.heap.size < W1.heap.size := by omega
 have EW1 := Lib.hid hs
 clear hs
 have ho := Rep.only_alloc W1 (.cells #[.slice none 0 0, .slice none 0 0, .int .i64 0, .bool false] 27)
 have hv := heap_alloc_new' W1 (.cells #[.slice none 0 0, .slice none 0 0, .int .i64 0, .bool false] 27) (n := w.heap.size + 1) (by have := EW1.out; omega)
 have hs : (W1.alloc (.cells #[.slice none 0 0, .slice none 0 0, .int .i64 0, .bool false] 27)).heap.size = W1.heap.size + 1 := by simp
 generalize hgW : W1.alloc (.cells #[.slice none 0 0, .slice none 0 0, .int .i64 0, .bool false] 27) = W2 at ho hv hs ⊢
 clear hgW
 have SW2 : W1.heap.size ≤ W2.heap.size := ho.size
 have HBW2 := Rep.Only.below HBW1 ho (by omega) (fun a ha => by cases ha)
 replace Td := Rep.at_only Td ho (by omega) (fun a ha => by cases ha)
 replace Vd := Rep.var_only Vd ho (by omega) (fun hb => by cases hb)
 clear HBW1
 have Vr := Lib.hid hv
 clear hv ho
 have ZW2 : W1.heap.size < W2.heap.size := by omega
 have YW2 : w.heap.size + 1 < W2.heap.size := by have := EW1.out; omega
 have EW2 := Lib.hid hs
 clear hs
 refine (copyDisk_any [.slice Ad d.secs.length cd, .slice Bd d.cache.length ed, .int .i64 d.fuse, .bool d.down] d W2 (Rep.more diskR Td (by omega)) hf).mono ?_
 rintro e W3 ⟨cs, fp4, rfl, Oo, hb⟩
 obtain ⟨A5, c6, B7, d8, rfl⟩ := disk_own_shape Oo
 have ho := Rep.only_of_below hb
 have L9 := Lib.hid (Rep.lt diskR Oo)
 clear hb
 have SW3 : W2.heap.size ≤ W3.heap.size := ho.size
 have HBW3 := Rep.Only.below HBW2 ho (by omega) (fun a ha => by cases ha)
 replace Td := Rep.at_only Td ho (by omega) (fun a ha => by cases ha)
 replace Vd := Rep.var_only Vd ho (by omega) (fun hb => by cases hb)
 replace Vr := Rep.var_only Vr ho (by omega) (fun hb => by cases hb)
 clear HBW2
 clear ho
 have qd_0 : W3.cell? ⟨w.heap.size, 0, none⟩ = some (.slice Ad d.secs.length cd) := var_cell Vd.out 0
 have qd_1 : W3.cell? ⟨w.heap.size, 1, none⟩ = some (.slice Bd d.cache.length ed) := var_cell Vd.out 1
 have qd_2 : W3.cell? ⟨w.heap.size, 2, none⟩ = some (.int .i64 d.fuse) := var_cell Vd.out 2
 have qd_3 : W3.cell? ⟨w.heap.size, 3, none⟩ = some (.bool d.down) := var_cell Vd.out 3
 have ld : w.heap.size < W3.heap.size := by omega
 go_wp2_with fail
 clear qd_0 qd_1 qd_2 qd_3 ld
 have ho := Rep.only_alloc W3 (.cells #[.slice A5 d.secs.length c6, .slice B7 d.cache.length d8, .int .i64 d.fuse, .bool d.down] 27)
 have hv := heap_alloc_new W3 (.cells #[.slice A5 d.secs.length c6, .slice B7 d.cache.length d8, .int .i64 d.fuse, .bool d.down] 27)
 have hs : (W3.alloc (.cells #[.slice A5 d.secs.length c6, .slice B7 d.cache.length d8, .int .i64 d.fuse, .bool d.down] 27)).heap.size = W3.heap.size + 1 := by simp
 generalize hgW : W3.alloc (.cells #[.slice A5 d.secs.length c6, .slice B7 d.cache.length d8, .int .i64 d.fuse, .bool d.down] 27) = W10 at ho hv hs ⊢
 clear hgW
 have SW10 : W3.heap.size ≤ W10.heap.size := ho.size
 have HBW10 := Rep.Only.below HBW3 ho (by omega) (fun a ha => by cases ha)
 replace Td := Rep.at_only Td ho (by omega) (fun a ha => by cases ha)
 replace Oo := Rep.own_only Oo ho (fun a ha hb => by cases hb)
 replace Vd := Rep.var_only Vd ho (by omega) (fun hb => by cases hb)
 replace Vr := Rep.var_only Vr ho (by omega) (fun hb => by cases hb)
 clear HBW3
 have Vo := Lib.hid hv
 clear hv ho
 have ZW10 : W3.heap.size < W10.heap.size := by omega
 have EW10 := Lib.hid hs
 clear hs
 refine (diskOk_any [.slice Ad d.secs.length cd, .slice Bd d.cache.length ed, .int .i64 d.fuse, .bool d.down] d W10 (Rep.more diskR Td (by omega)) hf).mono ?_
 rintro e W11 ⟨rfl, hb⟩
 rw [HOK.out]
 have ho := Rep.only_of_below hb
 clear hb
 have SW11 : W10.heap.size ≤ W11.heap.size := ho.size
 have HBW11 := Rep.Only.below HBW10 ho (by omega) (fun a ha => by cases ha)
 replace Td := Rep.at_only Td ho (by omega) (fun a ha => by cases ha)
 replace Oo := Rep.own_only Oo ho (fun a ha hb => by cases hb)
 replace Vd := Rep.var_only Vd ho (by omega) (fun hb => by cases hb)
 replace Vr := Rep.var_only Vr ho (by omega) (fun hb => by cases hb)
 replace Vo := Rep.var_only Vo ho (by omega) (fun hb => by cases hb)
 clear HBW10
 clear ho
 cases y with
 | false =>
  have HR := Lib.hid (fallDisk_no keep (fun hh => diskOk_bad HOK.out hh))
  have qo_0 : W11.cell? ⟨W3.heap.size, 0, none⟩ = some (.slice A5 d.secs.length c6) := var_cell Vo.out 0
  have qo_1 : W11.cell? ⟨W3.heap.size, 1, none⟩ = some (.slice B7 d.cache.length d8) := var_cell Vo.out 1
  have qo_2 : W11.cell? ⟨W3.heap.size, 2, none⟩ = some (.int .i64 d.fuse) := var_cell Vo.out 2
  have qo_3 : W11.cell? ⟨W3.heap.size, 3, none⟩ = some (.bool d.down) := var_cell Vo.out 3
  have lo : W3.heap.size < W11.heap.size := by omega
  have qd_0 : W11.cell? ⟨w.heap.size, 0, none⟩ = some (.slice Ad d.secs.length cd) := var_cell Vd.out 0
  have qd_1 : W11.cell? ⟨w.heap.size, 1, none⟩ = some (.slice Bd d.cache.length ed) := var_cell Vd.out 1
  have qd_2 : W11.cell? ⟨w.heap.size, 2, none⟩ = some (.int .i64 d.fuse) := var_cell Vd.out 2
  have qd_3 : W11.cell? ⟨w.heap.size, 3, none⟩ = some (.bool d.down) := var_cell Vd.out 3
  have ld : w.heap.size < W11.heap.size := by omega
  have qr_0 : W11.cell? ⟨w.heap.size + 1, 0, none⟩ = some (.slice none 0 0) := var_cell Vr.out 0
  have qr_1 : W11.cell? ⟨w.heap.size + 1, 1, none⟩ = some (.slice none 0 0) := var_cell Vr.out 1
  have qr_2 : W11.cell? ⟨w.heap.size + 1, 2, none⟩ = some (.int .i64 0) := var_cell Vr.out 2
  have qr_3 : W11.cell? ⟨w.heap.size + 1, 3, none⟩ = some (.bool false) := var_cell Vr.out 3
  have lr : w.heap.size + 1 < W11.heap.size := by omega
  have fr_0 := var_frozen Vr.out 0
  have fr_1 := var_frozen Vr.out 1
  have fr_2 := var_frozen Vr.out 2
  have fr_3 := var_frozen Vr.out 3
  go_wp2_with fail
  refine bodyPost_ret (v := .agg #[.slice A5 d.secs.length c6, .slice B7 d.cache.length d8, .int .i64 d.fuse, .bool d.down]) (by simp [results, Tryz.results19, go_sem, qr_0, qr_1, qr_2, qr_3]) rfl ⟨_, fp4, rfl, ?_, ?_⟩
  ·rw [HR.out]; refine diskR.low (base := W2.heap.size) ?_ (by omega)
   repeat (refine Rep.setLow ?_ (by first | (simp; done) | (simp; omega)) _)
   exact Oo
  ·repeat (refine Below.setCell ?_ (by first | (simp; done) | (simp; omega)) _)
   exact HBW11
 | true =>
  have hg := diskOk_good HOK.out
  have h30 : d.cache.length ≤ 30 := hg.1.2.2
  have HR := Lib.hid (fallDisk_go keep hg)
  obtain ⟨u1, u2, ff, fc, hcs, ho1, ho2, hfp, hnd⟩ := disk_inv Oo
  have e1 : u1 = .slice A5 d.secs.length c6 := by injection hcs with h1 _; exact h1.symm
  have e2 : u2 = .slice B7 d.cache.length d8 := by injection hcs with _ h2; injection h2 with h2 _; exact h2.symm
  subst e1 e2
  clear hcs
  have HN := Lib.hid hnd
  have HFP := Lib.hid hfp
  clear hnd hfp Oo
  have LS := Lib.hid (fun a ha => L9.out a (by rw [HFP.out]; exact List.mem_append_left _ ha))
  have LC := Lib.hid (fun a ha => L9.out a (by rw [HFP.out]; exact List.mem_append_right _ ha))
  have hin : (0 ≤ keep ∧ keep ≤ 1073741823) ∨ keep < 0 ∨ (0 ≤ keep ∧ 1073741823 < keep) := by omega
  rcases hin with hin | hin | hin
  ·have HIN := Lib.hid hin
   have j1 : 0 ≤ keep := hin.1
   have j2 : keep ≤ 1073741823 := hin.2
   have HKB : Hid (keepOf keep = keep) := Lib.hid (keepOf_yes hin)
   clear hin
   obtain ⟨sc, cells, fps, fcs, hff, hfc, hM⟩ := Mid.start ho1 ho2 (by rw [← HFP.out]; exact HN.out)
   have LM := Lib.hid (fun a (ha : a ∈ ((Value.slice A5 d.secs.length c6).ownBlock.toList ++ fps.flatten) ++ ((Value.slice B7 d.cache.length d8).ownBlock.toList ++ fcs.flatten)) => (show W2.heap.size ≤ a ∧ a < W3.heap.size from by rcases List.mem_append.1 ha with h | h; exact LS.out a (by rw [hff]; exact h); exact LC.out a (by rw [hfc]; exact h)))
   have hl1 : 1 ≤ d.secs.length := hg.1.1
   have f40 : d.secs.length ≤ 40 := hg.1.2.1
   have HKO : Hid (KeysOk d) := Lib.hid (fun x hx => ⟨(hg.2.2.1 x hx).1, (hg.2.2.1 x hx).2.1⟩)
   obtain ⟨gs, hgs, hgs1, _⟩ := hM.block hl1
   subst hgs
   have hrd : Reads W11 W11.heap.size 2 B7 d.cache.length cells := Reads.of_own hM.crow
   have HE := Lib.hid (fun i x (hx : d.cache[i]? = some x) => (show wrR.at_ W11 W11.heap.size (Rep.seg 2 i cells) x from by obtain ⟨f, hf⟩ := Rep.getElem?_of_lt (xs := fcs) rfl (show i < fcs.length by rw [hM.clen]; exact (List.getElem?_eq_some_iff.1 hx).1); exact Rep.reads wrR (hM.cache i x f hx hf)))
   have HW := Lib.hid (wf_key hg)
   clear hg hff hfc
   have qo_0 : W11.cell? ⟨W3.heap.size, 0, none⟩ = some (.slice (some ⟨gs, 0, none⟩) d.secs.length c6) := var_cell Vo.out 0
   have qo_1 : W11.cell? ⟨W3.heap.size, 1, none⟩ = some (.slice B7 d.cache.length d8) := var_cell Vo.out 1
   have qo_2 : W11.cell? ⟨W3.heap.size, 2, none⟩ = some (.int .i64 d.fuse) := var_cell Vo.out 2
   have qo_3 : W11.cell? ⟨W3.heap.size, 3, none⟩ = some (.bool d.down) := var_cell Vo.out 3
   have lo : W3.heap.size < W11.heap.size := by omega
   have qd_0 : W11.cell? ⟨w.heap.size, 0, none⟩ = some (.slice Ad d.secs.length cd) := var_cell Vd.out 0
   have qd_1 : W11.cell? ⟨w.heap.size, 1, none⟩ = some (.slice Bd d.cache.length ed) := var_cell Vd.out 1
   have qd_2 : W11.cell? ⟨w.heap.size, 2, none⟩ = some (.int .i64 d.fuse) := var_cell Vd.out 2
   have qd_3 : W11.cell? ⟨w.heap.size, 3, none⟩ = some (.bool d.down) := var_cell Vd.out 3
   have ld : w.heap.size < W11.heap.size := by omega
   go_wp2_with fail
   clear qo_0 qo_1 qo_2 qo_3 lo qd_0 qd_1 qd_2 qd_3 ld
   have hD := driveOf_any (some ⟨gs, 0, none⟩) B7 c6 d8 d cells W11 hrd HE.out f3 HW.out
   refine hD.mono ?_
   clear hD
   rintro e W12 ⟨gd, mb, rfl, vd, hmd, hb, hgd1, hgd2, hgd3⟩
   have ho := Rep.only_of_below hb
   replace hM := hM.kept (fun a ha => hb.block a (by have := (LM.out a ha).2; omega))
   replace ho1 := ho1.of_below hb
   replace ho2 := ho2.of_below hb
   clear hb hrd HE
   have SW12 : W11.heap.size ≤ W12.heap.size := ho.size
   have HBW12 := Rep.Only.below HBW11 ho (by omega) (fun a ha => by cases ha)
   replace Td := Rep.at_only Td ho (by omega) (fun a ha => by cases ha)
   replace Vd := Rep.var_only Vd ho (by omega) (fun hb => by cases hb)
   replace Vr := Rep.var_only Vr ho (by omega) (fun hb => by cases hb)
   replace Vo := Rep.var_only Vo ho (by omega) (fun hb => by cases hb)
   clear HBW11
   clear ho
   have Vd2 := Lib.hid vd
   clear vd
   have hgl : gd < W12.heap.size := World.block_lt_of_cell? _ ⟨gd, 0, none⟩ (var_cell Vd2.out 0)
   have hml := hmd.lt
   rw [HKB.out] at HR
   go_wp2_with fail
   refine (driveRestart_any gd mb d.cache.length W2.heap.size gs c6 B7 d8 d.fuse d.down d keep sc cells fps fcs _ W12 Vd2.out hmd hM HKO.out f1 (fun a ha => by have := (LM.out a ha).2; constructor <;> omega) hgd3 h30 j1 j2).mono ?_
   rintro e W13 ⟨rfl, Vd3, hM3, ho⟩
   have hgs2 : gs < W11.heap.size := by have := (LM.out gs (by simp [Value.ownBlock])).2; omega
   have LF := Lib.hid (fun a (ha : a ∈ [gd, mb, gs]) => (by simp at ha; omega : W2.heap.size ≤ a ∧ a < W12.heap.size))
   have SW13 : W12.heap.size ≤ W13.heap.size := ho.size
   have HBW13 := Rep.Only.below HBW12 ho (by omega) (fun a ha => by have := (LF.out a ha).1; omega)
   replace Td := Rep.at_only Td ho (by omega) (fun a ha => by have := (LF.out a ha).1; omega)
   replace Vd := Rep.var_only Vd ho (by omega) (fun hb => by have := LF.out _ hb; omega)
   replace Vr := Rep.var_only Vr ho (by omega) (fun hb => by have := LF.out _ hb; omega)
   clear HBW12
   clear ho LF
   obtain ⟨fp9, hfl, hmem⟩ := hM3.done (idx_okB d keep _ (Nat.le_refl _))
   clear hM3 hmem hM
   have d0 : W13.cell? ⟨gd, 0, none⟩ = some (.slice (some ⟨gs, 0, none⟩) d.secs.length c6) := var_cell Vd3.out 0
   have d1 : W13.cell? ⟨gd, 1, none⟩ = some (.slice none 0 0) := var_cell Vd3.out 1
   have d2 : W13.cell? ⟨gd, 2, none⟩ = some (.int .i64 (-1)) := var_cell Vd3.out 2
   have d3 : W13.cell? ⟨gd, 3, none⟩ = some (.bool false) := var_cell Vd3.out 3
   have hl7 := flushSecs_length d (idxC (keyB d.cache keep) d.cache.length)
   have qr_0 : W13.cell? ⟨w.heap.size + 1, 0, none⟩ = some (.slice none 0 0) := var_cell Vr.out 0
   have qr_1 : W13.cell? ⟨w.heap.size + 1, 1, none⟩ = some (.slice none 0 0) := var_cell Vr.out 1
   have qr_2 : W13.cell? ⟨w.heap.size + 1, 2, none⟩ = some (.int .i64 0) := var_cell Vr.out 2
   have qr_3 : W13.cell? ⟨w.heap.size + 1, 3, none⟩ = some (.bool false) := var_cell Vr.out 3
   have lr : w.heap.size + 1 < W13.heap.size := by omega
   have fr_0 := var_frozen Vr.out 0
   have fr_1 := var_frozen Vr.out 1
   have fr_2 := var_frozen Vr.out 2
   have fr_3 := var_frozen Vr.out 3
   go_wp2_with fail
   refine bodyPost_ret (v := .agg #[.slice (some ⟨gs, 0, none⟩) d.secs.length c6, .slice none 0 0, .int .i64 (-1), .bool false]) (by simp [results, Tryz.results19, go_sem, qr_0, qr_1, qr_2, qr_3]) rfl ⟨_, fp9 ++ [], rfl, ?_, ?_⟩
   ·rw [HR.out]; refine diskR.low (base := W2.heap.size) ?_ (by omega)
    repeat (refine Rep.setLow ?_ (by first | (simp; done) | (simp; omega)) _)
    exact disk_own2 (d := ⟨flushSecs d (idxC (keyB d.cache keep) d.cache.length), [], -1, false⟩) hfl (nil_cache _ _ _) (by simpa using Rep.nodup secsR (w := W13) (base := W2.heap.size) (cs := [.slice (some ⟨gs, 0, none⟩) d.secs.length c6]) ⟨_, rfl, hfl⟩)
   ·repeat (refine Below.setCell ?_ (by first | (simp; done) | (simp; omega)) _)
    exact HBW13
  ·have HIN := Lib.hid hin
   have j1 : keep < 0 := hin
   have HKB : Hid (keepOf keep = 0) := Lib.hid (keepOf_no (by omega))
   clear hin
   obtain ⟨sc, cells, fps, fcs, hff, hfc, hM⟩ := Mid.start ho1 ho2 (by rw [← HFP.out]; exact HN.out)
   have LM := Lib.hid (fun a (ha : a ∈ ((Value.slice A5 d.secs.length c6).ownBlock.toList ++ fps.flatten) ++ ((Value.slice B7 d.cache.length d8).ownBlock.toList ++ fcs.flatten)) => (show W2.heap.size ≤ a ∧ a < W3.heap.size from by rcases List.mem_append.1 ha with h | h; exact LS.out a (by rw [hff]; exact h); exact LC.out a (by rw [hfc]; exact h)))
   have hl1 : 1 ≤ d.secs.length := hg.1.1
   have f40 : d.secs.length ≤ 40 := hg.1.2.1
   have HKO : Hid (KeysOk d) := Lib.hid (fun x hx => ⟨(hg.2.2.1 x hx).1, (hg.2.2.1 x hx).2.1⟩)
   obtain ⟨gs, hgs, hgs1, _⟩ := hM.block hl1
   subst hgs
   have hrd : Reads W11 W11.heap.size 2 B7 d.cache.length cells := Reads.of_own hM.crow
   have HE := Lib.hid (fun i x (hx : d.cache[i]? = some x) => (show wrR.at_ W11 W11.heap.size (Rep.seg 2 i cells) x from by obtain ⟨f, hf⟩ := Rep.getElem?_of_lt (xs := fcs) rfl (show i < fcs.length by rw [hM.clen]; exact (List.getElem?_eq_some_iff.1 hx).1); exact Rep.reads wrR (hM.cache i x f hx hf)))
   have HW := Lib.hid (wf_key hg)
   clear hg hff hfc
   have qo_0 : W11.cell? ⟨W3.heap.size, 0, none⟩ = some (.slice (some ⟨gs, 0, none⟩) d.secs.length c6) := var_cell Vo.out 0
   have qo_1 : W11.cell? ⟨W3.heap.size, 1, none⟩ = some (.slice B7 d.cache.length d8) := var_cell Vo.out 1
   have qo_2 : W11.cell? ⟨W3.heap.size, 2, none⟩ = some (.int .i64 d.fuse) := var_cell Vo.out 2
   have qo_3 : W11.cell? ⟨W3.heap.size, 3, none⟩ = some (.bool d.down) := var_cell Vo.out 3
   have lo : W3.heap.size < W11.heap.size := by omega
   have qd_0 : W11.cell? ⟨w.heap.size, 0, none⟩ = some (.slice Ad d.secs.length cd) := var_cell Vd.out 0
   have qd_1 : W11.cell? ⟨w.heap.size, 1, none⟩ = some (.slice Bd d.cache.length ed) := var_cell Vd.out 1
   have qd_2 : W11.cell? ⟨w.heap.size, 2, none⟩ = some (.int .i64 d.fuse) := var_cell Vd.out 2
   have qd_3 : W11.cell? ⟨w.heap.size, 3, none⟩ = some (.bool d.down) := var_cell Vd.out 3
   have ld : w.heap.size < W11.heap.size := by omega
   go_wp2_with fail
   clear qo_0 qo_1 qo_2 qo_3 lo qd_0 qd_1 qd_2 qd_3 ld
   have hD := driveOf_any (some ⟨gs, 0, none⟩) B7 c6 d8 d cells W11 hrd HE.out f3 HW.out
   refine hD.mono ?_
   clear hD
   rintro e W14 ⟨gd, mb, rfl, vd, hmd, hb, hgd1, hgd2, hgd3⟩
   have ho := Rep.only_of_below hb
   replace hM := hM.kept (fun a ha => hb.block a (by have := (LM.out a ha).2; omega))
   replace ho1 := ho1.of_below hb
   replace ho2 := ho2.of_below hb
   clear hb hrd HE
   have SW14 : W11.heap.size ≤ W14.heap.size := ho.size
   have HBW14 := Rep.Only.below HBW11 ho (by omega) (fun a ha => by cases ha)
   replace Td := Rep.at_only Td ho (by omega) (fun a ha => by cases ha)
   replace Vd := Rep.var_only Vd ho (by omega) (fun hb => by cases hb)
   replace Vr := Rep.var_only Vr ho (by omega) (fun hb => by cases hb)
   replace Vo := Rep.var_only Vo ho (by omega) (fun hb => by cases hb)
   clear HBW11
   clear ho
   have Vd2 := Lib.hid vd
   clear vd
   have hgl : gd < W14.heap.size := World.block_lt_of_cell? _ ⟨gd, 0, none⟩ (var_cell Vd2.out 0)
   have hml := hmd.lt
   rw [HKB.out] at HR
   go_wp2_with fail
   refine (driveRestart_any gd mb d.cache.length W2.heap.size gs c6 B7 d8 d.fuse d.down d 0 sc cells fps fcs _ W14 Vd2.out hmd hM HKO.out f1 (fun a ha => by have := (LM.out a ha).2; constructor <;> omega) hgd3 h30 (by omega) (by omega)).mono ?_
   rintro e W15 ⟨rfl, Vd3, hM3, ho⟩
   have hgs2 : gs < W11.heap.size := by have := (LM.out gs (by simp [Value.ownBlock])).2; omega
   have LF := Lib.hid (fun a (ha : a ∈ [gd, mb, gs]) => (by simp at ha; omega : W2.heap.size ≤ a ∧ a < W14.heap.size))
   have SW15 : W14.heap.size ≤ W15.heap.size := ho.size
   have HBW15 := Rep.Only.below HBW14 ho (by omega) (fun a ha => by have := (LF.out a ha).1; omega)
   replace Td := Rep.at_only Td ho (by omega) (fun a ha => by have := (LF.out a ha).1; omega)
   replace Vd := Rep.var_only Vd ho (by omega) (fun hb => by have := LF.out _ hb; omega)
   replace Vr := Rep.var_only Vr ho (by omega) (fun hb => by have := LF.out _ hb; omega)
   clear HBW14
   clear ho LF
   obtain ⟨fp9, hfl, hmem⟩ := hM3.done (idx_okB d 0 _ (Nat.le_refl _))
   clear hM3 hmem hM
   have d0 : W15.cell? ⟨gd, 0, none⟩ = some (.slice (some ⟨gs, 0, none⟩) d.secs.length c6) := var_cell Vd3.out 0
   have d1 : W15.cell? ⟨gd, 1, none⟩ = some (.slice none 0 0) := var_cell Vd3.out 1
   have d2 : W15.cell? ⟨gd, 2, none⟩ = some (.int .i64 (-1)) := var_cell Vd3.out 2
   have d3 : W15.cell? ⟨gd, 3, none⟩ = some (.bool false) := var_cell Vd3.out 3
   have hl7 := flushSecs_length d (idxC (keyB d.cache 0) d.cache.length)
   have qr_0 : W15.cell? ⟨w.heap.size + 1, 0, none⟩ = some (.slice none 0 0) := var_cell Vr.out 0
   have qr_1 : W15.cell? ⟨w.heap.size + 1, 1, none⟩ = some (.slice none 0 0) := var_cell Vr.out 1
   have qr_2 : W15.cell? ⟨w.heap.size + 1, 2, none⟩ = some (.int .i64 0) := var_cell Vr.out 2
   have qr_3 : W15.cell? ⟨w.heap.size + 1, 3, none⟩ = some (.bool false) := var_cell Vr.out 3
   have lr : w.heap.size + 1 < W15.heap.size := by omega
   have fr_0 := var_frozen Vr.out 0
   have fr_1 := var_frozen Vr.out 1
   have fr_2 := var_frozen Vr.out 2
   have fr_3 := var_frozen Vr.out 3
   go_wp2_with fail
   refine bodyPost_ret (v := .agg #[.slice (some ⟨gs, 0, none⟩) d.secs.length c6, .slice none 0 0, .int .i64 (-1), .bool false]) (by simp [results, Tryz.results19, go_sem, qr_0, qr_1, qr_2, qr_3]) rfl ⟨_, fp9 ++ [], rfl, ?_, ?_⟩
   ·rw [HR.out]; refine diskR.low (base := W2.heap.size) ?_ (by omega)
    repeat (refine Rep.setLow ?_ (by first | (simp; done) | (simp; omega)) _)
    exact disk_own2 (d := ⟨flushSecs d (idxC (keyB d.cache 0) d.cache.length), [], -1, false⟩) hfl (nil_cache _ _ _) (by simpa using Rep.nodup secsR (w := W15) (base := W2.heap.size) (cs := [.slice (some ⟨gs, 0, none⟩) d.secs.length c6]) ⟨_, rfl, hfl⟩)
   ·repeat (refine Below.setCell ?_ (by first | (simp; done) | (simp; omega)) _)
    exact HBW15
  ·have HIN := Lib.hid hin
   have j1 : 0 ≤ keep := hin.1
   have j2 : 1073741823 < keep := hin.2
   have HKB : Hid (keepOf keep = 0) := Lib.hid (keepOf_no (by omega))
   clear hin
   obtain ⟨sc, cells, fps, fcs, hff, hfc, hM⟩ := Mid.start ho1 ho2 (by rw [← HFP.out]; exact HN.out)
   have LM := Lib.hid (fun a (ha : a ∈ ((Value.slice A5 d.secs.length c6).ownBlock.toList ++ fps.flatten) ++ ((Value.slice B7 d.cache.length d8).ownBlock.toList ++ fcs.flatten)) => (show W2.heap.size ≤ a ∧ a < W3.heap.size from by rcases List.mem_append.1 ha with h | h; exact LS.out a (by rw [hff]; exact h); exact LC.out a (by rw [hfc]; exact h)))
   have hl1 : 1 ≤ d.secs.length := hg.1.1
   have f40 : d.secs.length ≤ 40 := hg.1.2.1
   have HKO : Hid (KeysOk d) := Lib.hid (fun x hx => ⟨(hg.2.2.1 x hx).1, (hg.2.2.1 x hx).2.1⟩)
   obtain ⟨gs, hgs, hgs1, _⟩ := hM.block hl1
   subst hgs
   have hrd : Reads W11 W11.heap.size 2 B7 d.cache.length cells := Reads.of_own hM.crow
   have HE := Lib.hid (fun i x (hx : d.cache[i]? = some x) => (show wrR.at_ W11 W11.heap.size (Rep.seg 2 i cells) x from by obtain ⟨f, hf⟩ := Rep.getElem?_of_lt (xs := fcs) rfl (show i < fcs.length by rw [hM.clen]; exact (List.getElem?_eq_some_iff.1 hx).1); exact Rep.reads wrR (hM.cache i x f hx hf)))
   have HW := Lib.hid (wf_key hg)
   clear hg hff hfc
   have qo_0 : W11.cell? ⟨W3.heap.size, 0, none⟩ = some (.slice (some ⟨gs, 0, none⟩) d.secs.length c6) := var_cell Vo.out 0
   have qo_1 : W11.cell? ⟨W3.heap.size, 1, none⟩ = some (.slice B7 d.cache.length d8) := var_cell Vo.out 1
   have qo_2 : W11.cell? ⟨W3.heap.size, 2, none⟩ = some (.int .i64 d.fuse) := var_cell Vo.out 2
   have qo_3 : W11.cell? ⟨W3.heap.size, 3, none⟩ = some (.bool d.down) := var_cell Vo.out 3
   have lo : W3.heap.size < W11.heap.size := by omega
   have qd_0 : W11.cell? ⟨w.heap.size, 0, none⟩ = some (.slice Ad d.secs.length cd) := var_cell Vd.out 0
   have qd_1 : W11.cell? ⟨w.heap.size, 1, none⟩ = some (.slice Bd d.cache.length ed) := var_cell Vd.out 1
   have qd_2 : W11.cell? ⟨w.heap.size, 2, none⟩ = some (.int .i64 d.fuse) := var_cell Vd.out 2
   have qd_3 : W11.cell? ⟨w.heap.size, 3, none⟩ = some (.bool d.down) := var_cell Vd.out 3
   have ld : w.heap.size < W11.heap.size := by omega
   go_wp2_with fail
   clear qo_0 qo_1 qo_2 qo_3 lo qd_0 qd_1 qd_2 qd_3 ld
   have hD := driveOf_any (some ⟨gs, 0, none⟩) B7 c6 d8 d cells W11 hrd HE.out f3 HW.out
   refine hD.mono ?_
   clear hD
   rintro e W16 ⟨gd, mb, rfl, vd, hmd, hb, hgd1, hgd2, hgd3⟩
   have ho := Rep.only_of_below hb
   replace hM := hM.kept (fun a ha => hb.block a (by have := (LM.out a ha).2; omega))
   replace ho1 := ho1.of_below hb
   replace ho2 := ho2.of_below hb
   clear hb hrd HE
   have SW16 : W11.heap.size ≤ W16.heap.size := ho.size
   have HBW16 := Rep.Only.below HBW11 ho (by omega) (fun a ha => by cases ha)
   replace Td := Rep.at_only Td ho (by omega) (fun a ha => by cases ha)
   replace Vd := Rep.var_only Vd ho (by omega) (fun hb => by cases hb)
   replace Vr := Rep.var_only Vr ho (by omega) (fun hb => by cases hb)
   replace Vo := Rep.var_only Vo ho (by omega) (fun hb => by cases hb)
   clear HBW11
   clear ho
   have Vd2 := Lib.hid vd
   clear vd
   have hgl : gd < W16.heap.size := World.block_lt_of_cell? _ ⟨gd, 0, none⟩ (var_cell Vd2.out 0)
   have hml := hmd.lt
   rw [HKB.out] at HR
   go_wp2_with fail
   refine (driveRestart_any gd mb d.cache.length W2.heap.size gs c6 B7 d8 d.fuse d.down d 0 sc cells fps fcs _ W16 Vd2.out hmd hM HKO.out f1 (fun a ha => by have := (LM.out a ha).2; constructor <;> omega) hgd3 h30 (by omega) (by omega)).mono ?_
   rintro e W17 ⟨rfl, Vd3, hM3, ho⟩
   have hgs2 : gs < W11.heap.size := by have := (LM.out gs (by simp [Value.ownBlock])).2; omega
   have LF := Lib.hid (fun a (ha : a ∈ [gd, mb, gs]) => (by simp at ha; omega : W2.heap.size ≤ a ∧ a < W16.heap.size))
   have SW17 : W16.heap.size ≤ W17.heap.size := ho.size
   have HBW17 := Rep.Only.below HBW16 ho (by omega) (fun a ha => by have := (LF.out a ha).1; omega)
   replace Td := Rep.at_only Td ho (by omega) (fun a ha => by have := (LF.out a ha).1; omega)
   replace Vd := Rep.var_only Vd ho (by omega) (fun hb => by have := LF.out _ hb; omega)
   replace Vr := Rep.var_only Vr ho (by omega) (fun hb => by have := LF.out _ hb; omega)
   clear HBW16
   clear ho LF
   obtain ⟨fp9, hfl, hmem⟩ := hM3.done (idx_okB d 0 _ (Nat.le_refl _))
   clear hM3 hmem hM
   have d0 : W17.cell? ⟨gd, 0, none⟩ = some (.slice (some ⟨gs, 0, none⟩) d.secs.length c6) := var_cell Vd3.out 0
   have d1 : W17.cell? ⟨gd, 1, none⟩ = some (.slice none 0 0) := var_cell Vd3.out 1
   have d2 : W17.cell? ⟨gd, 2, none⟩ = some (.int .i64 (-1)) := var_cell Vd3.out 2
   have d3 : W17.cell? ⟨gd, 3, none⟩ = some (.bool false) := var_cell Vd3.out 3
   have hl7 := flushSecs_length d (idxC (keyB d.cache 0) d.cache.length)
   have qr_0 : W17.cell? ⟨w.heap.size + 1, 0, none⟩ = some (.slice none 0 0) := var_cell Vr.out 0
   have qr_1 : W17.cell? ⟨w.heap.size + 1, 1, none⟩ = some (.slice none 0 0) := var_cell Vr.out 1
   have qr_2 : W17.cell? ⟨w.heap.size + 1, 2, none⟩ = some (.int .i64 0) := var_cell Vr.out 2
   have qr_3 : W17.cell? ⟨w.heap.size + 1, 3, none⟩ = some (.bool false) := var_cell Vr.out 3
   have lr : w.heap.size + 1 < W17.heap.size := by omega
   have fr_0 := var_frozen Vr.out 0
   have fr_1 := var_frozen Vr.out 1
   have fr_2 := var_frozen Vr.out 2
   have fr_3 := var_frozen Vr.out 3
   go_wp2_with fail
   refine bodyPost_ret (v := .agg #[.slice (some ⟨gs, 0, none⟩) d.secs.length c6, .slice none 0 0, .int .i64 (-1), .bool false]) (by simp [results, Tryz.results19, go_sem, qr_0, qr_1, qr_2, qr_3]) rfl ⟨_, fp9 ++ [], rfl, ?_, ?_⟩
   ·rw [HR.out]; refine diskR.low (base := W2.heap.size) ?_ (by omega)
    repeat (refine Rep.setLow ?_ (by first | (simp; done) | (simp; omega)) _)
    exact disk_own2 (d := ⟨flushSecs d (idxC (keyB d.cache 0) d.cache.length), [], -1, false⟩) hfl (nil_cache _ _ _) (by simpa using Rep.nodup secsR (w := W17) (base := W2.heap.size) (cs := [.slice (some ⟨gs, 0, none⟩) d.secs.length c6]) ⟨_, rfl, hfl⟩)
   ·repeat (refine Below.setCell ?_ (by first | (simp; done) | (simp; omega)) _)
    exact HBW17
end Go.Proofs.YtoaaogacaibedaaGreatDoor
namespace Go.Proofs.YtoaaogacaibedaaGreatDoor
open Go.RowKit
set_option maxRecDepth 2000000
set_option linter.unusedVariables false
theorem writeSec_rep (cs : List Value) (d : Disk) (n : Int) (cs2 : List Value) (b : List UInt8) (w : World) (h : diskR.at_ w w.heap.size cs d) (h2 : byR.at_ w w.heap.size cs2 b) (hf : Fits d) (hw : (Lit.int .i64 n).wf = true) (hb : FitsB b) :
  Calls Tryz.prog 51 #[.agg cs.toArray, .int .i64 n, cs2.headD undef] w (RetDisk w (writeSec d n b)) := writeSec_any cs cs2 d n b w h h2 hf hb hw
theorem syncDisk_rep (cs : List Value) (d : Disk) (w : World) (h : diskR.at_ w w.heap.size cs d) (hf : Fits d) :
  Calls Tryz.prog 50 #[.agg cs.toArray] w (RetDisk w (syncDisk d)) := syncDisk_any cs d w h hf
def atP (g p : Int) : Int := 2 + 18 * (g % 2) + p
theorem atP_wf {g p : Int} (h1 : 1 ≤ g) (h2 : g ≤ 60000) (h3 : 0 ≤ p) (h4 : p ≤ 18) : (Lit.int .i64 (atP g p)).wf = true := by
 have e : 0 ≤ atP g p ∧ atP g p ≤ 1000 := by unfold atP; omega
 exact WalkArith.wf_i64 (by omega)
noncomputable def stepB (d : Disk) (g : Int) (i : Nat) : Bool := (getP (readSec d (atP g i))).2 && (((getP (readSec d (atP g i))).1.1 == g) && ((getP (readSec d (atP g i))).1.2.1 == (i : Int)))
noncomputable def stepRec (d : Disk) (g : Int) (i : Nat) : Rec := (getP (readSec d (atP g i))).1.2.2
noncomputable def replayFrom (d : Disk) (g : Int) : Nat → Nat → Known → Known × Nat
 | 0, i, k => (k, i)
 | n + 1, i, k => if stepB d g i = true ∧ (applyP k (stepRec d g i)).2 = true then replayFrom d g n (i + 1) (applyP k (stepRec d g i)).1 else (k, i)
noncomputable def replayP (d : Disk) (g : Int) : Known × Nat := if inI g 1 60000 = true then replayFrom d g 18 0 knownZero else (knownZero, 0)
theorem replay_go {d : Disk} {g : Int} {n i : Nat} {k : Known} (h : stepB d g i = true) (h2 : (applyP k (stepRec d g i)).2 = true) : replayFrom d g (n + 1) i k = replayFrom d g n (i + 1) (applyP k (stepRec d g i)).1 := by
 show (if _ then _ else _) = _
 rw [if_pos ⟨h, h2⟩]
theorem replay_no {d : Disk} {g : Int} {n i : Nat} {k : Known} (h : stepB d g i = false) : replayFrom d g (n + 1) i k = (k, i) := by
 show (if _ then _ else _) = _
 rw [if_neg (fun h9 => by rw [h] at h9; cases h9.1)]
theorem replay_no2 {d : Disk} {g : Int} {n i : Nat} {k : Known} (h : (applyP k (stepRec d g i)).2 = false) : replayFrom d g (n + 1) i k = (k, i) := by
 show (if _ then _ else _) = _
 rw [if_neg (fun h9 => by rw [h] at h9; cases h9.2)]
structure Jour where
 k : Known
 g : Int
 place : Int
def jourZero : Jour := ⟨knownZero, 0, 0⟩
set_option maxHeartbeats 1000000 in
theorem l5At_any (g p : Int) (w : World) (hg : 0 ≤ g ∧ g ≤ 1000000) (hp : 0 ≤ p ∧ p ≤ 1000000) : Calls Tryz.prog 43 #[.int .i64 g, .int .i64 p] w fun e w' => e = .returned (.int .i64 (atP g p)) ∧ w = w' := by
 obtain ⟨g1, g2⟩ := hg
 obtain ⟨p1, p2⟩ := hp
 have h0 : 0 ≤ g % 2 := by omega
 have h1 : g % 2 ≤ 1 := by omega
 have ht : g.tmod 2 = g % 2 := Int.tmod_eq_emod_of_nonneg g1
 go_enter Tryz.func43, Tryz.ntmps43
 go_wp2
 go_ret
 exact ⟨rfl, rfl⟩
end Go.Proofs.YtoaaogacaibedaaGreatDoor
namespace Go.Proofs.YtoaaogacaibedaaGreatDoor
open Go.RowKit
set_option maxRecDepth 100000
structure Cur (w : World) (lo g : Nat) (A : Option Addr) (n c : Nat) (code : List UInt8) : Prop where
 from_ : lo ≤ g
 rd : Reads w lo 1 A n (bys code)
 blk : ∃ (i : Nat) (h : Int), i ≤ n ∧ -9223372036854775808 ≤ h ∧ h ≤ 9223372036854775807 ∧ w.heap[g]? = some (.cells #[.slice A n c, .int .i64 i, .int .i64 h] 120 (0, 0))
theorem blk_cell {w : World} {g t : Nat} {cs : Array Value} (h : w.heap[g]? = some (.cells cs t (0, 0))) (i : Nat) : w.cell? ⟨g, i, none⟩ = cs[i]? := cell_of_row w g i cs t (0, 0) h
theorem blk_frozen {w : World} {g t : Nat} {cs : Array Value} (h : w.heap[g]? = some (.cells cs t (0, 0))) (i : Nat) : w.frozen? ⟨g, i, none⟩ = false := by simp [World.frozen?, h]
theorem blk_set {w : World} {g t : Nat} {cs : Array Value} (h : w.heap[g]? = some (.cells cs t (0, 0))) (i : Nat) (u : Value) : (w.setCell ⟨g, i, none⟩ u).heap[g]? = some (.cells (cs.setIfInBounds i u) t (0, 0)) := by
 simp [World.setCell, Array.getElem?_modify, h]
theorem grown_set (w : World) (g i : Nat) (u : Value) : w.grownBy (w.setCell ⟨g, i, none⟩ u) (some g) :=
 ⟨rfl, rfl, rfl, by simp, fun k _ hk => heap_setCell_other w ⟨g, i, none⟩ k u (fun e => hk (by simp [e]))⟩
theorem grown_drewN (w : World) (n : Nat) (row : Option Nat) : w.grownBy (w.drewN n) row := ⟨rfl, rfl, rfl, Nat.le_refl _, fun _ _ _ => rfl⟩
theorem Cur.keep {w w' : World} {lo g : Nat} {A : Option Addr} {n c : Nat} {code : List UInt8} (h : Cur w lo g A n c code) {row : Option Nat} (hg : w.grownBy w' row) (hne : some g ≠ row) (hr : ∀ k, row = some k → lo ≤ k) : Cur w' lo g A n c code := by
 obtain ⟨hlo, hrd, i, hh, hi, h1, h2, hb⟩ := h
 have hlt : g < w.heap.size := World.block_lt_of_cell? w ⟨g, 0, none⟩ (blk_cell hb 0)
 exact ⟨hlo, hrd.grown hg (by omega) hr, i, hh, hi, h1, h2, by rw [hg.block g hlt hne]; exact hb⟩
theorem Cur.lt {w : World} {lo g : Nat} {A : Option Addr} {n c : Nat} {code : List UInt8} (h : Cur w lo g A n c code) : g < w.heap.size := by
 obtain ⟨_, _, i, hh, _, _, _, hb⟩ := h
 exact World.block_lt_of_cell? w ⟨g, 0, none⟩ (blk_cell hb 0)
theorem wrap64_bd (x : Int) : -9223372036854775808 ≤ wrap64 x ∧ wrap64 x ≤ 9223372036854775807 := by unfold wrap64; omega
set_option maxHeartbeats 1000000 in
theorem l1Byte_any (lo g : Nat) (A : Option Addr) (n c : Nat) (code : List UInt8) (w : World) (h : Cur w lo g A n c code) (hn : n ≤ 140737488351232) :
  Calls Tryz.prog 110 #[.pointer (some ⟨g, 0, none⟩)] w fun e w' => ∃ x : Int, 0 ≤ x ∧ x ≤ 255 ∧ e = .returned (.int .i64 x) ∧ Cur w' lo g A n c code ∧ w.grownBy w' (some g) := by
 obtain ⟨hlo, hrd, i, hh, hi, hb1, hb2, hblk⟩ := h
 have hc0 : w.cell? ⟨g, 0, none⟩ = some (.slice A n c) := blk_cell hblk 0
 have hc1 : w.cell? ⟨g, 1, none⟩ = some (.int .i64 i) := blk_cell hblk 1
 have hc2 : w.cell? ⟨g, 2, none⟩ = some (.int .i64 hh) := blk_cell hblk 2
 have hf0 := blk_frozen hblk 1
 have hf2 := blk_frozen hblk 2
 have hlt0 : g < w.heap.size := World.block_lt_of_cell? w ⟨g, 0, none⟩ hc0
 have HB := Lib.hid hblk
 clear hblk
 go_enter Tryz.func110, Tryz.ntmps110
 go_wp2
 generalize hH : wrap64 (wrap64 (hh * 6364136223846793005) + 1442695040888963407) = H
 have hH1 : -9223372036854775808 ≤ H ∧ H ≤ 9223372036854775807 := by rw [← hH]; exact wrap64_bd _
 obtain ⟨hH2, hH3⟩ := hH1
 clear hH
 have hset := blk_set HB.out 2 (.int .i64 H)
 have hgr := grown_set w g 2 (.int .i64 H)
 generalize hW : w.setCell ⟨g, 2, none⟩ (.int .i64 H) = W1
 rw [hW] at hset hgr
 clear hW
 have hset' : W1.heap[g]? = some (.cells #[.slice A n c, .int .i64 i, .int .i64 H] 120 (0, 0)) := hset
 have hrd1 := hrd.grown hgr (by omega) (fun k hk => by injection hk with hk; omega)
 clear hc0 hc1 hc2 hf0 hf2 hrd hset HB
 have hc0 : W1.cell? ⟨g, 0, none⟩ = some (.slice A n c) := blk_cell hset' 0
 have hc1 : W1.cell? ⟨g, 1, none⟩ = some (.int .i64 i) := blk_cell hset' 1
 have hc2 : W1.cell? ⟨g, 2, none⟩ = some (.int .i64 H) := blk_cell hset' 2
 have hf1 := blk_frozen hset' 1
 have HB := Lib.hid hset'
 have HG := Lib.hid hgr
 have hand := i64_and255
 clear hset' hgr
 by_cases hlt : i < n
 ·obtain ⟨b, off, u, rfl, _, _, hcell⟩ := hrd1.byte hlt
  have hu := u.toNat_lt
  have hu' : u.toNat < 256 := hu
  clear hu
  have i1 : (0 : Int) ≤ (i : Int) := by omega
  have i2 : (i : Int) < (n : Int) := by omega
  go_quiet (fail)
  generalize hx : bits BinOp.xor IntKind.i64 (H / 8589934592) (H / 140737488355328) % 256 = x0
  have hx1 : 0 ≤ x0 ∧ x0 < 256 := by rw [← hx]; omega
  obtain ⟨hx2, hx3⟩ := hx1
  clear hx
  go_wp2
  go_quiet (fail)
  go_wp2
  go_quiet (fail)
  go_wp2
  go_ret
  refine ⟨(x0 + u.toNat) % 256, by omega, by omega, rfl, ⟨hlo, (hrd1.drewN _).setCell hlo _, i + 1, H, by omega, hH2, hH3, ?_⟩, HG.out.trans ((grown_drewN _ _ _).trans (grown_set _ _ _ _))⟩
  exact blk_set (w := W1.drewN _) HB.out 1 _
 ·go_quiet (fail)
  generalize hx : bits BinOp.xor IntKind.i64 (H / 8589934592) (H / 140737488355328) % 256 = x0
  have hx1 : 0 ≤ x0 ∧ x0 < 256 := by rw [← hx]; omega
  obtain ⟨hx2, hx3⟩ := hx1
  clear hx
  go_wp2
  go_quiet (fail)
  go_wp2
  go_ret
  exact ⟨x0, by omega, by omega, rfl, ⟨hlo, hrd1, i, H, by omega, hH2, hH3, HB.out⟩, HG.out.trans ((grown_drewN _ _ _).trans (grown_drewN _ _ _))⟩
set_option maxHeartbeats 1000000 in
theorem l1Below_any (lo g : Nat) (A : Option Addr) (n c : Nat) (code : List UInt8) (m : Nat) (w : World) (h : Cur w lo g A n c code) (hn : n ≤ 140737488351232) (hm : m ≤ 1000000000) (hm0 : 0 < m) :
  Calls Tryz.prog 58 #[.pointer (some ⟨g, 0, none⟩), .int .i64 m] w fun e w' => ∃ x : Nat, x < m ∧ e = .returned (.int .i64 x) ∧ Cur w' lo g A n c code ∧ w.grownBy w' (some g) := by
 by_cases h256 : m ≤ 256
 ·go_enter Tryz.func58, Tryz.ntmps58
  go_wp2_with fail
  refine (l1Byte_any lo g A n c code w h hn).mono ?_
  rintro e w1 ⟨x, hx0, hx1, rfl, hc, hg⟩
  go_wp2_with fail
  go_ret
  obtain ⟨xn, rfl⟩ := Int.eq_ofNat_of_zero_le hx0
  exact ⟨xn % m, Nat.mod_lt _ hm0, rfl, hc, hg⟩
 ·go_enter Tryz.func58, Tryz.ntmps58
  go_wp2_with fail
  refine (l1Byte_any lo g A n c code w h hn).mono ?_
  rintro e w1 ⟨x, hx0, hx1, rfl, hc, hg⟩
  go_wp2_with fail
  refine (l1Byte_any lo g A n c code w1 hc hn).mono ?_
  rintro e w2 ⟨y, hy0, hy1, rfl, hc2, hg2⟩
  go_wp2_with fail
  refine (l1Byte_any lo g A n c code w2 hc2 hn).mono ?_
  rintro e w3 ⟨z, hz0, hz1, rfl, hc3, hg3⟩
  obtain ⟨xn, rfl⟩ := Int.eq_ofNat_of_zero_le hx0
  obtain ⟨yn, rfl⟩ := Int.eq_ofNat_of_zero_le hy0
  obtain ⟨zn, rfl⟩ := Int.eq_ofNat_of_zero_le hz0
  go_wp2_with fail
  go_ret
  exact ⟨(xn * 65536 + yn * 256 + zn) % m, Nat.mod_lt _ hm0, rfl, hc3, hg.trans (hg2.trans hg3)⟩
set_option maxRecDepth 100000 in
set_option maxHeartbeats 1000000 in
theorem l1New_any (A : Option Addr) (c : Nat) (code : List UInt8) (w : World) (h : Reads w w.heap.size 1 A code.length (bys code)) (hn : code.length ≤ 1048576) :
  Calls Tryz.prog 31 #[.slice A code.length c] w fun e w' => ∃ g, e = .returned (.pointer (some ⟨g, 0, none⟩)) ∧ Cur w' w.heap.size g A code.length c code ∧ Below w.heap.size w w' := by
 go_enter Tryz.func31, Tryz.ntmps31
 go_wp2
 go_loop [3, 4] (fun h i => ∃ (k : Nat) (q : Int), k ≤ code.length ∧ i = .int .i64 k ∧ h = .int .i64 q ∧ 0 ≤ q ∧ q < 1073741824) (fun _ i => code.length - (intOf i).toNat)
 case atStart => exact ⟨0, 128871 + (code.length : Int), by omega, rfl, rfl, by omega, by omega⟩
 case round =>
  obtain ⟨k, q, hk, rfl, rfl, hq0, hq1⟩ := hrel
  by_cases hlt : k < code.length
  ·by_cases h4 : (k : Int) < 4000
   ·obtain ⟨b, off, u, rfl, _, _, hcell⟩ := h.byte hlt
    have hu : u.toNat < 256 := u.toNat_lt
    have hmask := i64_and30
    go_wp2
    go_round
    case rel => exact ⟨k + 1, _, by omega, by go_num, rfl, by omega, by omega⟩
    case measure => simp [intOf]; omega
   ·go_wp2
    go_ret
    exact ⟨w.heap.size, rfl, ⟨Nat.le_refl _, h.alloc (Nat.le_refl _) _, 0, q, by omega, by omega, by omega, heap_alloc_new w _⟩, (Below.refl _ _).alloc (Nat.le_refl _) _⟩
  ·go_wp2
   go_ret
   exact ⟨w.heap.size, rfl, ⟨Nat.le_refl _, h.alloc (Nat.le_refl _) _, 0, q, by omega, by omega, by omega, heap_alloc_new w _⟩, (Below.refl _ _).alloc (Nat.le_refl _) _⟩
set_option maxHeartbeats 400000 in
theorem l1Int_any (lo g L : Nat) (A : Option Addr) (n c : Nat) (code : List UInt8) (zs : List Int) (w : World) (h : Cur w lo g A n c code) (hn : n ≤ 140737488351232) (hz0 : 0 < zs.length) (hz : zs.length ≤ 1000)
  (hL : w.heap[L]? = some (.cells (zs.map (Value.int .i64)).toArray 3 (0, 0))) (hne : L ≠ g) :
  Calls Tryz.prog 56 #[.pointer (some ⟨g, 0, none⟩), .slice (some ⟨L, 0, none⟩) zs.length zs.length] w fun e w' => ∃ z : Int, z ∈ zs ∧ e = .returned (.int .i64 z) ∧ Cur w' lo g A n c code ∧ w.grownBy w' (some g) := by
 have hLlt : L < w.heap.size := (Array.getElem?_eq_some_iff.1 hL).1
 have HL := Lib.hid hL
 clear hL
 go_enter Tryz.func56, Tryz.ntmps56
 go_wp2_with fail
 refine (l1Below_any lo g A n c code zs.length w h hn (by omega) hz0).mono ?_
 rintro e w1 ⟨x, hx, rfl, hc, hg⟩
 have hblk : w1.heap[L]? = some (.cells (zs.map (Value.int .i64)).toArray 3 (0, 0)) := (hg.block L hLlt (by simpa using hne)).trans HL.out
 have hcell : w1.cell? ⟨L, x, none⟩ = some (.int .i64 zs[x]) := by
  rw [blk_cell hblk x]
  simp [hx]
 have hmem : zs[x] ∈ zs := List.getElem_mem hx
 generalize zs[x] = z at hcell hmem
 have i1 : (0 : Int) ≤ (x : Int) := by omega
 have i2 : (x : Int) < (zs.length : Int) := by omega
 have HM := Lib.hid hmem
 clear hmem hblk
 go_wp2_with fail
 go_ret
 exact ⟨z, HM.out, rfl, hc, hg⟩
set_option maxHeartbeats 400000 in
theorem l1Str_any (lo g L : Nat) (A : Option Addr) (n c : Nat) (code : List UInt8) (ss : List ByteArray) (w : World) (h : Cur w lo g A n c code) (hn : n ≤ 140737488351232) (hz0 : 0 < ss.length) (hz : ss.length ≤ 1000)
  (hL : w.heap[L]? = some (.cells (ss.map Value.string).toArray 9 (0, 0))) (hne : L ≠ g) :
  Calls Tryz.prog 128 #[.pointer (some ⟨g, 0, none⟩), .slice (some ⟨L, 0, none⟩) ss.length ss.length] w fun e w' => ∃ s : ByteArray, s ∈ ss ∧ e = .returned (.string s) ∧ Cur w' lo g A n c code ∧ w.grownBy w' (some g) := by
 have hLlt : L < w.heap.size := (Array.getElem?_eq_some_iff.1 hL).1
 have HL := Lib.hid hL
 clear hL
 go_enter Tryz.func128, Tryz.ntmps128
 go_wp2_with fail
 refine (l1Below_any lo g A n c code ss.length w h hn (by omega) hz0).mono ?_
 rintro e w1 ⟨x, hx, rfl, hc, hg⟩
 have hblk : w1.heap[L]? = some (.cells (ss.map Value.string).toArray 9 (0, 0)) := (hg.block L hLlt (by simpa using hne)).trans HL.out
 have hcell : w1.cell? ⟨L, x, none⟩ = some (.string ss[x]) := by
  rw [blk_cell hblk x]
  simp [hx]
 have hmem : ss[x] ∈ ss := List.getElem_mem hx
 generalize ss[x] = z at hcell hmem
 have i1 : (0 : Int) ≤ (x : Int) := by omega
 have i2 : (x : Int) < (ss.length : Int) := by omega
 have HM := Lib.hid hmem
 clear hmem hblk
 go_wp2_with fail
 go_ret
 exact ⟨z, HM.out, rfl, hc, hg⟩
theorem Cur.alloc {w : World} {lo g : Nat} {A : Option Addr} {n c : Nat} {code : List UInt8} (h : Cur w lo g A n c code) (o : Obj) : Cur (w.alloc o) lo g A n c code :=
 h.keep (World.grownBy_alloc w o none) (by simp) (fun k hk => by cases hk)
end Go.Proofs.YtoaaogacaibedaaGreatDoor
namespace Go.Proofs.YtoaaogacaibedaaGreatDoor
open Go.RowKit
set_option maxRecDepth 100000
set_option linter.unusedVariables false
theorem Cur.only {w w' : World} {lo g : Nat} {A : Option Addr} {n c : Nat} {code : List UInt8} (h : Cur w lo g A n c code) {fp : List Nat} (ho : Rep.Only w w' fp) (hg : g ∉ fp) (hf : ∀ a, a ∈ fp → lo ≤ a) : Cur w' lo g A n c code := by
 have hlt := h.lt
 obtain ⟨hlo, hrd, i, hh, hi, h1, h2, hb⟩ := h
 refine ⟨hlo, hrd.keep fun p hp => World.cell?_of_block (ho.block p.block (by omega) (fun e => by have := hf _ e; omega)), i, hh, hi, h1, h2, ?_⟩
 rw [ho.block g hlt hg]
 exact hb
theorem Cur.drew {w : World} {lo g : Nat} {A : Option Addr} {n c : Nat} {code : List UInt8} (h : Cur w lo g A n c code) : Cur w.drew lo g A n c code := h.only (Rep.only_drew w) (by simp) (fun a ha => by cases ha)
theorem only_g {w w' : World} {g : Nat} (h : w.grownBy w' (some g)) : Rep.Only w w' [g] := Rep.Only.of_grown h (fun a ha => by injection ha with ha; simp [ha])
def RetInt (w : World) (lo g : Nat) (A : Option Addr) (n c : Nat) (code : List UInt8) (zs : List Int) (e : Ending) (w' : World) : Prop :=
 ∃ z, z ∈ zs ∧ e = .returned (.int .i64 z) ∧ Cur w' lo g A n c code ∧ Rep.Only w w' [g]
theorem draw_int (lo g : Nat) (A : Option Addr) (n c : Nat) (code : List UInt8) (zs : List Int) (w : World) (h : Cur w lo g A n c code) (hn : n ≤ 140737488351232) (hz0 : 0 < zs.length) (hz : zs.length ≤ 1000) :
  Calls Tryz.prog 56 #[.pointer (some ⟨g, 0, none⟩), .slice (some ⟨w.heap.size, 0, none⟩) zs.length zs.length] (w.alloc (.cells (zs.map (Value.int .i64)).toArray 3)) (RetInt w lo g A n c code zs) := by
 refine (l1Int_any lo g w.heap.size A n c code zs _ (h.only (Rep.only_alloc w _) (by simp) (fun a ha => by cases ha)) hn hz0 hz (heap_alloc_new w _) (by have := h.lt; omega)).mono ?_
 rintro e w' ⟨z, hm, rfl, hc, hg⟩
 exact ⟨z, hm, rfl, hc, ((Rep.only_alloc w _).mono (by simp) : Rep.Only w _ [g]).trans (only_g hg)⟩
def RetStr (w : World) (lo g : Nat) (A : Option Addr) (n c : Nat) (code : List UInt8) (ss : List ByteArray) (e : Ending) (w' : World) : Prop :=
 ∃ z, z ∈ ss ∧ e = .returned (.string z) ∧ Cur w' lo g A n c code ∧ Rep.Only w w' [g]
theorem draw_str (lo g : Nat) (A : Option Addr) (n c : Nat) (code : List UInt8) (ss : List ByteArray) (w : World) (h : Cur w lo g A n c code) (hn : n ≤ 140737488351232) (hz0 : 0 < ss.length) (hz : ss.length ≤ 1000) :
  Calls Tryz.prog 128 #[.pointer (some ⟨g, 0, none⟩), .slice (some ⟨w.heap.size, 0, none⟩) ss.length ss.length] (w.alloc (.cells (ss.map Value.string).toArray 9)) (RetStr w lo g A n c code ss) := by
 refine (l1Str_any lo g w.heap.size A n c code ss _ (h.only (Rep.only_alloc w _) (by simp) (fun a ha => by cases ha)) hn hz0 hz (heap_alloc_new w _) (by have := h.lt; omega)).mono ?_
 rintro e w' ⟨z, hm, rfl, hc, hg⟩
 exact ⟨z, hm, rfl, hc, ((Rep.only_alloc w _).mono (by simp) : Rep.Only w _ [g]).trans (only_g hg)⟩
end Go.Proofs.YtoaaogacaibedaaGreatDoor
