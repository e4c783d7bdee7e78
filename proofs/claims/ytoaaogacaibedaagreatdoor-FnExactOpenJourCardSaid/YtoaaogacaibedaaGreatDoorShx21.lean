/- What the theorem needs, out of many texts. -/
import Derived.Test.YtoaaogacaibedaaGreatDoorShx20
namespace Go.Proofs.YtoaaogacaibedaaGreatDoor
open Go.RowKit
set_option maxRecDepth 2000000
set_option linter.unusedVariables false
def fuseAfter (f : Int) : Int := if 0 < f then f - 1 else f
set_option maxHeartbeats 1000000 in
theorem l2Fuse_zero (g : Nat) (a b : Value) (dn : Bool) (w : World) (hv : w.heap[g]? = some (.cells #[a, b, .int .i64 0, .bool dn] 27 (0, 0))) :
  Calls Tryz.prog 93 #[.pointer (some ⟨g, 0, none⟩)] w fun e w' => e = .returned (.bool false) ∧ Hid (w'.heap[g]? = some (.cells #[a, b, .int .i64 (-1), .bool true] 27 (0, 0))) ∧ Rep.Only w w' [g] := by
 have c2 : w.cell? ⟨g, 2, none⟩ = some (.int .i64 0) := var_cell hv 2
 have c3 : w.cell? ⟨g, 3, none⟩ = some (.bool dn) := var_cell hv 3
 have q2 := var_frozen hv 2
 have q3 := var_frozen hv 3
 have HV := Lib.hid hv
 clear hv
 go_enter Tryz.func93, Tryz.ntmps93
 go_wp2
 go_ret
 exact ⟨rfl, Lib.hid (var_set (var_set HV.out 3 (.bool true)) 2 (.int .i64 (-1))), (Rep.Only.setCell w (by simp) _).trans (Rep.Only.setCell _ (by simp) _)⟩
set_option maxHeartbeats 1000000 in
theorem l2Fuse_go (g : Nat) (a b : Value) (f : Int) (dn : Bool) (w : World) (hv : w.heap[g]? = some (.cells #[a, b, .int .i64 f, .bool dn] 27 (0, 0))) (h0 : f ≠ 0) (h1 : -1 ≤ f) (h2 : f ≤ 1000) :
  Calls Tryz.prog 93 #[.pointer (some ⟨g, 0, none⟩)] w fun e w' => e = .returned (.bool true) ∧ Hid (w'.heap[g]? = some (.cells #[a, b, .int .i64 (fuseAfter f), .bool dn] 27 (0, 0))) ∧ Rep.Only w w' [g] := by
 have c2 : w.cell? ⟨g, 2, none⟩ = some (.int .i64 f) := var_cell hv 2
 have q2 := var_frozen hv 2
 have HV := Lib.hid hv
 have hne : (f == 0) = false := by simpa using h0
 clear hv h0
 by_cases hp : 0 < f
 ·have hp' : f > 0 := hp
  have HF := Lib.hid (show fuseAfter f = f - 1 by unfold fuseAfter; rw [if_pos hp])
  go_enter Tryz.func93, Tryz.ntmps93
  go_wp2
  go_ret
  exact ⟨rfl, Lib.hid (by rw [HF.out]; exact var_set HV.out 2 (.int .i64 (f - 1))), Rep.Only.setCell w (by simp) _⟩
 ·have HF := Lib.hid (show fuseAfter f = f by unfold fuseAfter; rw [if_neg hp])
  go_enter Tryz.func93, Tryz.ntmps93
  go_wp2
  go_ret
  exact ⟨rfl, Lib.hid (by rw [HF.out]; exact HV.out), Rep.Only.refl _ _⟩
set_option maxHeartbeats 1000000 in
theorem powered_zero (g : Nat) (a b m : Value) (dn : Bool) (w : World) (hv : w.heap[g]? = some (.cells #[a, b, .int .i64 0, .bool dn, m] 106 (0, 0))) :
  Calls Tryz.prog 137 #[.pointer (some ⟨g, 0, none⟩)] w fun e w' => e = .returned (.bool false) ∧ Hid (w'.heap[g]? = some (.cells #[a, b, .int .i64 (-1), .bool true, m] 106 (0, 0))) ∧ Rep.Only w w' [g] := by
 have c2 : w.cell? ⟨g, 2, none⟩ = some (.int .i64 0) := var_cell hv 2
 have c3 : w.cell? ⟨g, 3, none⟩ = some (.bool dn) := var_cell hv 3
 have q2 := var_frozen hv 2
 have q3 := var_frozen hv 3
 have HV := Lib.hid hv
 clear hv
 go_enter Tryz.func137, Tryz.ntmps137
 go_wp2
 go_ret
 exact ⟨rfl, Lib.hid (var_set (var_set HV.out 3 (.bool true)) 2 (.int .i64 (-1))), (Rep.Only.setCell w (by simp) _).trans (Rep.Only.setCell _ (by simp) _)⟩
set_option maxHeartbeats 1000000 in
theorem powered_go (g : Nat) (a b m : Value) (f : Int) (dn : Bool) (w : World) (hv : w.heap[g]? = some (.cells #[a, b, .int .i64 f, .bool dn, m] 106 (0, 0))) (h0 : f ≠ 0) (h1 : -1 ≤ f) (h2 : f ≤ 1000) :
  Calls Tryz.prog 137 #[.pointer (some ⟨g, 0, none⟩)] w fun e w' => e = .returned (.bool true) ∧ Hid (w'.heap[g]? = some (.cells #[a, b, .int .i64 (fuseAfter f), .bool dn, m] 106 (0, 0))) ∧ Rep.Only w w' [g] := by
 have c2 : w.cell? ⟨g, 2, none⟩ = some (.int .i64 f) := var_cell hv 2
 have q2 := var_frozen hv 2
 have HV := Lib.hid hv
 have hne : (f == 0) = false := by simpa using h0
 clear hv h0
 by_cases hp : 0 < f
 ·have hp' : f > 0 := hp
  have HF := Lib.hid (show fuseAfter f = f - 1 by unfold fuseAfter; rw [if_pos hp])
  go_enter Tryz.func137, Tryz.ntmps137
  go_wp2
  go_ret
  exact ⟨rfl, Lib.hid (by rw [HF.out]; exact var_set HV.out 2 (.int .i64 (f - 1))), Rep.Only.setCell w (by simp) _⟩
 ·have HF := Lib.hid (show fuseAfter f = f by unfold fuseAfter; rw [if_neg hp])
  go_enter Tryz.func137, Tryz.ntmps137
  go_wp2
  go_ret
  exact ⟨rfl, Lib.hid (by rw [HF.out]; exact HV.out), Rep.Only.refl _ _⟩
theorem disk_own2 {w : World} {base : Nat} {v v' : Value} {d : Disk} {f f' : List Nat} (h : Rep.OwnRows byR 22 w base v d.secs f) (h' : Rep.OwnRows wrR 100 w base v' d.cache f') (hn : (f ++ f').Nodup) :
  diskR.own w base [v, v', .int .i64 d.fuse, .bool d.down] d (f ++ f') :=
 ⟨f, f', ⟨v, rfl, h⟩, ⟨f', [], ⟨v', rfl, h'⟩, ⟨[], [], ⟨rfl, rfl⟩, ⟨rfl, rfl⟩, rfl, by simp⟩, by simp, by simpa using (List.nodup_append.1 hn).2.1⟩, by simp, hn⟩
def WriteGood (d : Disk) (n : Int) (b : List UInt8) : Prop := DiskGood d ∧ d.down = false ∧ InSec d n ∧ b.length ≤ 160 ∧ d.cache.length ≠ 30
noncomputable def writeSec (d : Disk) (n : Int) (b : List UInt8) : Disk :=
 @ite _ (WriteGood d n b) (Classical.propDecidable _) (if d.fuse = 0 then ⟨d.secs, d.cache, -1, true⟩ else ⟨d.secs, d.cache ++ [⟨n, b⟩], fuseAfter d.fuse, d.down⟩) d
theorem writeSec_no {d : Disk} {n : Int} {b : List UInt8} (h : ¬ WriteGood d n b) : writeSec d n b = d := by unfold writeSec; exact @if_neg _ (Classical.propDecidable _) h _ _ _
theorem writeSec_zero {d : Disk} {n : Int} {b : List UInt8} (h : WriteGood d n b) (h0 : d.fuse = 0) : writeSec d n b = ⟨d.secs, d.cache, -1, true⟩ := by
 unfold writeSec
 rw [@if_pos _ (Classical.propDecidable _) h, if_pos h0]
theorem writeSec_go {d : Disk} {n : Int} {b : List UInt8} (h : WriteGood d n b) (h0 : d.fuse ≠ 0) : writeSec d n b = ⟨d.secs, d.cache ++ [⟨n, b⟩], fuseAfter d.fuse, d.down⟩ := by
 unfold writeSec
 rw [@if_pos _ (Classical.propDecidable _) h, if_neg h0]
theorem fits_writeSec {d : Disk} (h : Fits d) (n : Int) {b : List UInt8} (hb : b.length ≤ 1048576) : Fits (writeSec d n b) := by
 by_cases hg : WriteGood d n b
 ·by_cases h0 : d.fuse = 0
  ·rw [writeSec_zero hg h0]; exact h
  ·rw [writeSec_go hg h0]
   refine ⟨h.1, h.2.1, by have := hg.1.1.2.2; simp; omega, fun x hx => ?_⟩
   rw [List.mem_append] at hx
   rcases hx with hx | hx
   ·exact h.2.2.2 x hx
   ·simp at hx; subst hx; exact hb
 ·rw [writeSec_no hg]; exact h
end Go.Proofs.YtoaaogacaibedaaGreatDoor
namespace Go.Proofs.YtoaaogacaibedaaGreatDoor
open Go.RowKit Go.Maps
set_option linter.unusedVariables false
set_option maxHeartbeats 1000000 in
theorem driveWrite_zero (g : Nat) (vs vc vm : Value) (dn : Bool) (n : Int) (vb : Value) (w : World) (hv : w.heap[g]? = some (.cells #[vs, vc, .int .i64 0, .bool dn, vm] 106 (0, 0))) :
  Calls Tryz.prog 104 #[.pointer (some ⟨g, 0, none⟩), .int .i64 n, vb] w fun e w' => e = .returned (.tuple #[]) ∧ Hid (w'.heap[g]? = some (.cells #[vs, vc, .int .i64 (-1), .bool true, vm] 106 (0, 0))) ∧ Rep.Only w w' [g] := by
 have HV := Lib.hid hv
 clear hv
 go_enter Tryz.func104, Tryz.ntmps104
 go_wp2_with fail
 refine (powered_zero g vs vc vm dn w HV.out).mono ?_
 rintro e w1 ⟨rfl, vv, ho⟩
 go_wp2_with fail
 refine bodyPost_ret (results_none rfl _ _ _) rfl ⟨rfl, vv, ho⟩
set_option maxRecDepth 100000 in
set_option maxHeartbeats 2000000 in
theorem driveWrite_go (g mb m base B : Nat) (vs : Value) (A : Option Addr) (c : Nat) (cache : List Wr) (fc : List Nat) (f : Int) (dn : Bool) (n : Int) (Ab : Option Addr) (cb : Nat) (b : List UInt8) (cells : List Value) (idx : Int → Option Nat) (w : World)
  (hv : w.heap[g]? = some (.cells #[vs, .slice A cache.length c, .int .i64 f, .bool dn, .map (some mb)] 106 (0, 0))) (hm : MapIs w mb m cells idx) (hm30 : m ≤ 1048576)
  (hown : Rep.OwnRows wrR 100 w base (.slice A cache.length c) cache fc) (hgc : g ∉ fc) (hmc : mb ∉ fc) (hgm : g ≠ mb) (hrb : Reads w B 1 Ab b.length (bys b)) (hB1 : B ≤ g) (hB2 : B ≤ base) (hB3 : B ≤ mb) (hbs : base ≤ w.heap.size)
  (h0 : f ≠ 0) (h1 : -1 ≤ f) (h2 : f ≤ 1000) (hfb : b.length ≤ 1048576) (hcl : cache.length ≤ 1048576) (hn : (Lit.int .i64 n).wf = true) :
  Calls Tryz.prog 104 #[.pointer (some ⟨g, 0, none⟩), .int .i64 n, .slice Ab b.length cb] w fun e w' => ∃ A4 c4 fp4, e = .returned (.tuple #[]) ∧ Hid (w'.heap[g]? = some (.cells #[vs, .slice A4 (cache.length + 1) c4, .int .i64 (fuseAfter f), .bool dn, .map (some mb)] 106 (0, 0))) ∧
   Rep.OwnRows wrR 100 w' base (.slice A4 (cache.length + 1) c4) (cache ++ [⟨n, b⟩]) fp4 ∧ Hid (∀ a, a ∈ fp4 → a ∈ fc ∨ w.heap.size ≤ a) ∧ Rep.Only w w' (g :: mb :: fc) := by
 obtain ⟨m0, hm0, hm1, hm2, hm3⟩ := info_parts Tryz.info42
 have HV := Lib.hid hv
 have hgl : g < w.heap.size := World.block_lt_of_cell? w ⟨g, 0, none⟩ (var_cell hv 0)
 have hml := hm.lt
 have hlc := Lib.hid (fun a ha => hown.lt a ha)
 clear hv
 go_enter Tryz.func104, Tryz.ntmps104
 go_wp2_with fail
 refine (powered_go g vs (.slice A cache.length c) (.map (some mb)) f dn w HV.out h0 h1 h2).mono ?_
 rintro e w1 ⟨rfl, V1, ho⟩
 have hz1 := ho.size
 have hown1 := hown.kept (w' := w1) (fun a ha => ho.block a (hlc.out a ha).2 (by simp; rintro rfl; exact hgc ha))
 have hm1' := hm.of_block (w' := w1) (ho.block mb hml (by simp; omega))
 have hrb1 : Reads w1 B 1 Ab b.length (bys b) := hrb.keep fun p hp => World.cell?_of_block (ho.block p.block (by omega) (by simp; omega))
 have hO1 : Rep.Only w w1 (g :: mb :: fc) := ho.mono (by simp)
 clear ho hown hm hrb HV
 go_wp2_with fail
 refine (bclone_any Ab cb b w1 (hrb1.more (by omega)) hfb).mono ?_
 rintro e w2 ⟨A3, c3, rfl, hown3, hb3⟩
 have hz2 := hb3.size
 have V2 := Lib.hid ((hb3.block g (by omega)).trans V1.out)
 have hown2 := hown1.of_below hb3
 have hm2' := hm1'.of_block (w' := w2) (hb3.block mb (by omega))
 have hO2 : Rep.Only w w2 (g :: mb :: fc) := hO1.trans ((Rep.only_of_below hb3).mono (by simp))
 clear hb3 hown1 hm1' hO1 V1
 go_wp2_with fail
 have ho := Rep.only_alloc w2 (.cells #[.int .i64 n, .slice A3 b.length c3] 100)
 have hvw := heap_alloc_new w2 (.cells #[.int .i64 n, .slice A3 b.length c3] 100)
 have hzA : w2.heap.size + 1 ≤ (w2.alloc (.cells #[.int .i64 n, .slice A3 b.length c3] 100)).heap.size := by simp
 have hownA := hown2.alloc (.cells #[.int .i64 n, .slice A3 b.length c3] 100)
 have hown3A : Owns (w2.alloc (.cells #[.int .i64 n, .slice A3 b.length c3] 100)) w1.heap.size 5 (.slice A3 b.length c3) b := hown3.alloc _
 generalize hgw : w2.alloc (.cells #[.int .i64 n, .slice A3 b.length c3] 100) = wa at ho hvw hzA hownA hown3A ⊢
 clear hgw
 have VA := Lib.hid ((ho.block g (by omega) (by simp)).trans V2.out)
 have hmA := hm2'.of_block (w' := wa) (ho.block mb (by omega) (by simp))
 have hOA : Rep.Only w wa (g :: mb :: fc) := hO2.trans (ho.mono (by simp))
 have hl3 := Lib.hid (fun a ha => hown3A.lt a ha)
 clear ho hown2 hm2' hO2 V2 hown3
 have eC : wa.cell? ⟨g, 1, none⟩ = some (.slice A cache.length c) := var_cell VA.out 1
 have eN : wa.cell? ⟨w2.heap.size, 0, none⟩ = some (.int .i64 n) := var_cell hvw 0
 have eB : wa.cell? ⟨w2.heap.size, 1, none⟩ = some (.slice A3 b.length c3) := var_cell hvw 1
 refine wp_region_lex' 12 [0, 1, 2, 3, 4, 5, 6] [7, 8, 9, 10, 11, 12] (fun w' => w'.cell? ⟨g, 1, none⟩ = some (.slice A cache.length c) ∧ w'.cell? ⟨w2.heap.size, 0, none⟩ = some (.int .i64 n) ∧ w'.cell? ⟨w2.heap.size, 1, none⟩ = some (.slice A3 b.length c3)) (by kernel_rfl) (by kernel_rfl) ⟨eC, eN, eB⟩ ?_
 iterate 7 (refine LexR.cons rfl ?_ (fun w' hw => ?_) ?_; rotate_left; focus (obtain ⟨e1, e2, e3⟩ := hw; go_simp; (try exact rfl)))
 refine LexR.nil (LexW.cons rfl ?_)
 try go_frame
 go_wp2_with fail
 have hk4 : ∀ a, a < wa.heap.size → ((wa.alloc (.cells #[.int .i64 n, .slice A3 b.length c3] 100)).drew).heap[a]? = wa.heap[a]? := fun a ha => Below.heap_alloc wa _ a ha
 have hSa := Lib.hid (show (wa.alloc (.cells #[.int .i64 n, .slice A3 b.length c3] 100)).cell? ⟨g, 1, none⟩ = some (.slice A cache.length c) ∧ (wa.alloc (.cells #[.int .i64 n, .slice A3 b.length c3] 100)).cell? ⟨w2.heap.size, 0, none⟩ = some (.int .i64 n) ∧ (wa.alloc (.cells #[.int .i64 n, .slice A3 b.length c3] 100)).cell? ⟨w2.heap.size, 1, none⟩ = some (.slice A3 b.length c3) from
  ⟨(World.cell?_of_block (Below.heap_alloc wa _ g (by omega))).trans eC, (World.cell?_of_block (Below.heap_alloc wa _ w2.heap.size (by omega))).trans eN, (World.cell?_of_block (Below.heap_alloc wa _ w2.heap.size (by omega))).trans eB⟩)
 have hown4 := hownA.kept (w' := (wa.alloc (.cells #[.int .i64 n, .slice A3 b.length c3] 100)).drew) (fun a ha => hk4 a (by have := (hlc.out a ha).2; omega))
 have hel : wrR.own ((wa.alloc (.cells #[.int .i64 n, .slice A3 b.length c3] 100)).drew) base [.int .i64 n, .slice A3 b.length c3] ⟨n, b⟩ ((Value.slice A3 b.length c3).ownBlock.toList) := wr_own (x := ⟨n, b⟩) ((ownsRow_mono hown3A (by omega)).alloc _)
 have hnew : Reads ((wa.alloc (.cells #[.int .i64 n, .slice A3 b.length c3] 100)).drew) ((wa.alloc (.cells #[.int .i64 n, .slice A3 b.length c3] 100)).drew).heap.size 2 (some ⟨wa.heap.size, 0, none⟩) 1 [.int .i64 n, .slice A3 b.length c3] := reads_lit wa #[.int .i64 n, .slice A3 b.length c3] 2 1 100 (g := wa.heap.size) rfl rfl (by simp [maxLen])
 have hzB : wa.heap.size + 1 ≤ ((wa.alloc (.cells #[.int .i64 n, .slice A3 b.length c3] 100)).drew).heap.size := by simp
 have hOB : Rep.Only w ((wa.alloc (.cells #[.int .i64 n, .slice A3 b.length c3] 100)).drew) (g :: mb :: fc) := (hOA.trans ((Rep.only_alloc wa _).mono (by simp))).trans ((Rep.only_drew _).mono (by simp))
 refine ⟨(by first | exact hSa.out | exact fun _ => hSa.out), LexW.cons rfl ?_⟩
 try go_frame
 refine Rep.wpList_push _ rfl (.tmp 19) (.tmp 21) _ rfl wrR base 100 m0 _ 32 Tryz.underlying25 hm0 hm1 hm2 hm3 rfl (by decide) (.slice A cache.length c) cache fc rfl hown4 _ 1 _ ⟨n, b⟩ _ rfl hnew (one_of2 rfl rfl) hel (fun a ha ha' => by have h1 := (hl3.out a (by simpa using ha)).1; have h2 := (hlc.out a ha').2; omega) (by simp only [maxLen]; omega) (by omega) (by omega) ?_
 intro A4 c4 w4 fp4 hown5 hg4 hf4 hv4
 have hO4 : Rep.Only w w4 (g :: mb :: fc) := hOB.trans (Rep.Only.of_grown hg4 (fun a ha => by have := (hv4 a ha).2; simp [this]))
 have hz4 : wa.heap.size + 1 ≤ w4.heap.size := by have := hg4.size; omega
 have hk5 : ∀ a, a < wa.heap.size → a ∉ fc → w4.heap[a]? = wa.heap[a]? := fun a ha hn => (hg4.block a (by omega) (fun e => hn (hv4 a e.symm).2)).trans (hk4 a ha)
 have hwn : w2.heap.size ∉ fc := fun h => by have := (hlc.out _ h).2; omega
 have V4 := Lib.hid ((hk5 g (by omega) hgc).trans VA.out)
 have vw4 := (hk5 w2.heap.size (by omega) hwn).trans hvw
 have hm4 := hmA.of_block (w' := w4) (hk5 mb (by omega) hmc)
 have hfin : Hid (∀ a, a ∈ fp4 → a ∈ fc ∨ w.heap.size ≤ a) := Lib.hid (fun a ha => by
  rcases hf4 a ha with h | h | h
  ·exact .inl h
  ·exact .inr (by have := (hl3.out a (by simpa using h)).1; omega)
  ·exact .inr (by omega))
 have hS5 := Lib.hid (show w4.cell? ⟨g, 1, none⟩ = some (.slice A cache.length c) ∧ w4.cell? ⟨w2.heap.size, 0, none⟩ = some (.int .i64 n) ∧ w4.cell? ⟨w2.heap.size, 1, none⟩ = some (.slice A3 b.length c3) from ⟨var_cell V4.out 1, var_cell vw4 0, var_cell vw4 1⟩)
 have hlt5 := Lib.hid (fun a ha => hown5.lt a ha)
 have hg5 : g ∉ fp4 := fun h => by
  rcases hf4 g h with h | h | h
  ·exact hgc h
  ·have := (hl3.out g (by simpa using h)).1; omega
  ·omega
 have hmb5 : mb ∉ fp4 := fun h => by
  rcases hf4 mb h with h | h | h
  ·exact hmc h
  ·have := (hl3.out mb (by simpa using h)).1; omega
  ·omega
 clear hg4 hf4 hv4 hk4 hk5 hnew hel hSa hown4 hOA hOB hownA hmA VA
 refine ⟨(by first | exact hS5.out | exact fun _ => hS5.out), LexW.cons rfl ?_⟩
 try go_frame
 go_wp2_with fail
 refine ⟨(by first | exact hS5.out | exact fun _ => hS5.out), LexW.cons rfl ?_⟩
 try go_frame
 go_wp2_with fail
 refine ⟨(by first | exact hS5.out | exact fun _ => hS5.out), LexW.cons rfl ?_⟩
 try go_frame
 go_wp2_with fail
 refine ⟨(by first | exact hS5.out | exact fun _ => hS5.out), LexW.cons rfl ?_⟩
 have c2q := hS5.out.1
 have q2 : w4.frozen? ⟨g, 1, none⟩ = false := var_frozen V4.out 1
 try go_frame
 go_wp2_with fail
 refine ⟨fun h => absurd rfl h, LexW.nil ?_⟩
 clear c2q q2 hS5
 have V5 := Lib.hid (var_set V4.out 1 (.slice A4 (cache.length + 1) c4))
 have hO5 : Rep.Only w (w4.setCell ⟨g, 1, none⟩ (.slice A4 (cache.length + 1) c4)) (g :: mb :: fc) := hO4.trans (Rep.Only.setCell w4 (by simp) _)
 have hown6 := hown5.kept (w' := w4.setCell ⟨g, 1, none⟩ (.slice A4 (cache.length + 1) c4)) (fun a ha => heap_setCell_other _ _ _ _ (fun e => hg5 ((show a = g from e) ▸ ha)))
 have hm6 := hm4.of_block (w' := w4.setCell ⟨g, 1, none⟩ (.slice A4 (cache.length + 1) c4)) (heap_setCell_other _ _ _ _ (by simp; omega))
 have vw6 := (heap_setCell_other w4 ⟨g, 1, none⟩ w2.heap.size (.slice A4 (cache.length + 1) c4) (by simp; omega)).trans vw4
 have hz6 : w4.heap.size ≤ (w4.setCell ⟨g, 1, none⟩ (.slice A4 (cache.length + 1) c4)).heap.size := by simp
 generalize hgw5 : w4.setCell ⟨g, 1, none⟩ (.slice A4 (cache.length + 1) c4) = w5 at V5 hO5 hown6 hm6 vw6 hz6 ⊢
 clear hgw5 hown5 hm4 vw4 V4 hO4
 go_wp2_with fail
 have eM : w5.cell? ⟨g, 4, none⟩ = some (.map (some mb)) := var_cell V5.out 4
 have eV : w5.cell? ⟨w2.heap.size, 1, none⟩ = some (.slice A3 b.length c3) := var_cell vw6 1
 obtain ⟨D, hoD, hD, hiD⟩ := hm6
 clear hiD
 refine wp_region_lex' 7 [0, 1, 2, 3, 4, 5, 6] [7] (fun w' => w'.cell? ⟨g, 4, none⟩ = some (.map (some mb)) ∧ w'.cell? ⟨w2.heap.size, 1, none⟩ = some (.slice A3 b.length c3)) (by kernel_rfl) (by kernel_rfl) ⟨eM, eV⟩ ?_
 iterate 7 (refine LexR.cons rfl ?_ (fun w' hw => ?_) ?_; rotate_left; focus (obtain ⟨e1, e2⟩ := hw; go_simp; (try exact rfl)))
 refine LexR.nil (LexW.cons rfl ?_)
 go_frame
 refine mapPut w5.drew rfl (.tmp 29) (.tmp 30) (.tmp 32) rfl mb m D rfl hoD.drew (by simp only [maxLen]; omega) n (.slice A3 b.length c3) rfl rfl hn ?_
 intro w6 hown7 hturn
 refine ⟨fun h => absurd rfl h, LexW.nil ?_⟩
 have hg6 := hturn.grown
 have hO6 : Rep.Only w w6 (g :: mb :: fc) := (hO5.trans ((Rep.only_drew w5).mono (by simp))).trans (Rep.Only.of_grown hg6 (fun a ha => by injection ha with ha; simp [ha]))
 have hkk : ∀ a, a < w5.heap.size → a ≠ mb → w6.heap[a]? = w5.heap[a]? := fun a ha hne => hg6.block a ha (fun e => hne (by injection e))
 have V6 := Lib.hid ((hkk g (by omega) hgm).trans V5.out)
 have hown8 := hown6.kept (w' := w6) (fun a ha => hkk a (hown6.lt a ha).2 (fun e => hmb5 (e ▸ ha)))
 clear hg6 hturn hkk
 go_wp2_with fail
 go_end0
 exact ⟨rfl, A4, c4, V6, fp4, hown8, hfin, hO6⟩
end Go.Proofs.YtoaaogacaibedaaGreatDoor
