/- Format of the model. -/
import Derived.Test.YtoaaogacaibedaaHead
import Derived.Test.YtoaaogacaibedaaFallRep
namespace Go.Proofs.Ytoaaogacaibedaa
open Go.RowKit
set_option linter.unusedVariables false

noncomputable def formatP : Disk := syncDisk (writeSec (diskNew 38) 1 (headL 1 0))
theorem fits_format : Fits formatP := fits_syncDisk (fits_writeSec (fits_diskNew 38) 1 (by have := headL_len 1 0; omega))
theorem formatS_rep (w : World) : Calls Try.prog 20 #[] w (RetDiskAt w formatP) := by
  have hb0 := Later.alloc w (.cells #[.slice none 0 0, .slice none 0 0, .int .i64 0, .bool false] 37)
  have hz0 := heap_alloc_new w (.cells #[.slice none 0 0, .slice none 0 0, .int .i64 0, .bool false] 37)
  go_enter Try.func20, Try.ntmps20
  go_wp2_with fail
  have S : All (fun w' => Below w.heap.size w w' ∧ Hid (w'.heap[w.heap.size]? = some (.cells #[.slice none 0 0, .slice none 0 0, .int .i64 0, .bool false] 37 (0, 0)))) (w.alloc (.cells #[.slice none 0 0, .slice none 0 0, .int .i64 0, .bool false] 37)) := ⟨hb0, Lib.hid hz0⟩
  clear hb0 hz0
  generalize w.alloc (.cells #[.slice none 0 0, .slice none 0 0, .int .i64 0, .bool false] 37) = W0 at S ⊢
  refine (diskNewS_any 38 W0).mono ?_
  obtain ⟨d1, hd1⟩ : ∃ d, diskNew 38 = d := ⟨_, rfl⟩
  have HF1 := Lib.hid (show Fits d1 by rw [← hd1]; exact fits_diskNew 38)
  rw [hd1]
  have HD1 := Lib.hid hd1
  clear hd1
  rintro e1 W1 ⟨cs1, fp1, rfl, O1, hb⟩
  obtain ⟨A1, c1, B1, f1, rfl⟩ := disk_own_shape O1
  have T1 := Rep.reads diskR O1
  replace S := S.later hb
  clear hb O1
  go_wp2_with fail
  refine (headOfS_any 1 0 W1).mono ?_
  have hpl := headL_len 1 0
  obtain ⟨l3, hl3⟩ : ∃ l, headL 1 0 = l := ⟨_, rfl⟩
  rw [hl3] at hpl ⊢
  have HL3 := Lib.hid hl3
  clear hl3
  rintro e2 W2 ⟨v2, rfl, o2, hb⟩
  obtain ⟨A5, c5, rfl, hk5, hm5, r5, _⟩ := o2.shape
  replace S := S.later hb
  replace T1 := Keeps.keeps (F := fun w' => diskR.at_ w' w'.heap.size [.slice A1 d1.secs.length c1, .slice B1 d1.cache.length f1, .int .i64 d1.fuse, .bool d1.down] d1) hb T1
  clear hb o2
  go_wp2_with fail
  refine (writeSecS_any [.slice A1 d1.secs.length c1, .slice B1 d1.cache.length f1, .int .i64 d1.fuse, .bool d1.down] [.slice A5 l3.length c5] d1 1 l3 W2 T1 ⟨A5, c5, rfl, ⟨hk5, hm5⟩, r5⟩ HF1.out (by omega) (by decide)).mono ?_
  obtain ⟨d2, hd2⟩ : ∃ d, writeSec d1 1 l3 = d := ⟨_, rfl⟩
  have HF2 := Lib.hid (show Fits d2 by rw [← hd2]; exact fits_writeSec HF1.out _ (by omega))
  rw [hd2]
  have HD2 := Lib.hid hd2
  clear hd2
  rintro e3 W3 ⟨cs3, fp3, rfl, O3, hb⟩
  obtain ⟨A3, c3, B3, f3, rfl⟩ := disk_own_shape O3
  have T3 := Rep.reads diskR O3
  replace S := S.later hb
  clear hb O3 T1 r5 hpl
  go_wp2_with fail
  refine (syncDiskS_any [.slice A3 d2.secs.length c3, .slice B3 d2.cache.length f3, .int .i64 d2.fuse, .bool d2.down] d2 W3 T3 HF2.out).mono ?_
  obtain ⟨d3, hd3⟩ : ∃ d, syncDisk d2 = d := ⟨_, rfl⟩
  rw [hd3]
  have HANS := Lib.hid (show formatP = d3 by unfold formatP; rw [HD1.out, HL3.out, HD2.out, hd3])
  clear hd3 T3
  rintro e4 W4 ⟨cs4, fp4, rfl, O4, hb⟩
  obtain ⟨A4, c4, B4, f4, rfl⟩ := disk_own_shape O4
  have hlt : w.heap.size < W3.heap.size := (Array.getElem?_eq_some_iff.1 S.out.2.out).1
  replace S := S.later hb
  have ho : Rep.Only W4 ((((W4.setCell ⟨w.heap.size, 0, none⟩ (.slice A4 d3.secs.length c4)).setCell ⟨w.heap.size, 1, none⟩ (.slice B4 d3.cache.length f4)).setCell ⟨w.heap.size, 2, none⟩ (.int .i64 d3.fuse)).setCell ⟨w.heap.size, 3, none⟩ (.bool d3.down)) [w.heap.size] :=
    (((Rep.Only.setCell W4 (p := ⟨w.heap.size, 0, none⟩) (by simp) _).trans (Rep.Only.setCell _ (p := ⟨w.heap.size, 1, none⟩) (by simp) _)).trans (Rep.Only.setCell _ (p := ⟨w.heap.size, 2, none⟩) (by simp) _)).trans (Rep.Only.setCell _ (p := ⟨w.heap.size, 3, none⟩) (by simp) _)
  have O5 := Rep.own_only (R := diskR) O4 ho (fun a ha hm => by have := (Rep.lt diskR O4 a ha).1; simp at hm; omega)
  have HRET := Lib.hid (show RetDiskAt w d3 (.returned (.agg #[.slice A4 d3.secs.length c4, .slice B4 d3.cache.length f4, .int .i64 d3.fuse, .bool d3.down])) _ from ⟨[.slice A4 d3.secs.length c4, .slice B4 d3.cache.length f4, .int .i64 d3.fuse, .bool d3.down], rfl, Rep.reads diskR O5, Rep.Only.below S.out.1 ho S.out.1.size (fun a ha => by simp at ha; omega)⟩)
  have z0 := var_cell S.out.2.out 0
  have z1 := var_cell S.out.2.out 1
  have z2 := var_cell S.out.2.out 2
  have z3 := var_cell S.out.2.out 3
  have zf0 := var_frozen S.out.2.out 0
  have zf1 := var_frozen S.out.2.out 1
  have zf2 := var_frozen S.out.2.out 2
  have zf3 := var_frozen S.out.2.out 3
  have hl4 : w.heap.size < W4.heap.size := (Array.getElem?_eq_some_iff.1 S.out.2.out).1
  clear S hb O4 O5 ho
  go_wp2_with fail
  exact bodyPost_ret (v := .agg #[.slice A4 d3.secs.length c4, .slice B4 d3.cache.length f4, .int .i64 d3.fuse, .bool d3.down]) (by simp [results, Try.results20, go_sem, z0, z1, z2, z3]) rfl (by rw [HANS.out]; exact HRET.out)

end Go.Proofs.Ytoaaogacaibedaa
