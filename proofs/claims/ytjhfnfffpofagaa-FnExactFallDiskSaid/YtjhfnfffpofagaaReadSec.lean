/- ReadSec whole, of the program and of the model. -/
import Derived.Test.YtjhfnfffpofagaaRead
namespace Go.Proofs.Ytjhfnfffpofagaa
open Go.RowKit Go.Maps
set_option linter.unusedVariables false

theorem at_mk {w : World} {B : Nat} {A A' : Option Addr} {c c' : Nat} {d : Disk} (hc : d.secs.length ≤ c ∧ c ≤ maxLen) (hc' : d.cache.length ≤ c' ∧ c' ≤ maxLen) (hr : Rep.RowsAt byR w B A d.secs.length d.secs) (hr' : Rep.RowsAt wrR w B A' d.cache.length d.cache) :
    diskR.at_ w B [.slice A d.secs.length c, .slice A' d.cache.length c', .int .i64 d.fuse, .bool d.down] d := ⟨⟨A, c, rfl, hc, hr⟩, ⟨A', c', rfl, hc', hr'⟩, rfl, rfl⟩

theorem wf_key {d : Disk} (h : DiskGood d) : ∀ x, x ∈ d.cache → (Lit.int .i64 x.n).wf = true := fun x hx => by
  have h1 := h.2.2.1 x hx
  have h2 := h.1.2.1
  obtain ⟨a, b, _⟩ := h1
  exact WalkArith.wf_i64 (by omega)

set_option maxRecDepth 100000 in
set_option maxHeartbeats 2000000 in
theorem readSec_any (cs : List Value) (d : Disk) (n : Int) (w : World) (h : diskR.at_ w w.heap.size cs d) (hf : Fits d) :
    Calls Try.prog 19 #[.agg cs.toArray, .int .i64 n] w (RetBytes w (readSec d n)) := by
  obtain ⟨A, c, A', c', rfl, hc, hc', hr, hr'⟩ := disk_cells h
  obtain ⟨y, hy⟩ : ∃ y, diskOk d = y := ⟨_, rfl⟩
  have HOK := Lib.hid hy
  clear hy
  go_enter Try.func19, Try.ntmps19
  go_wp2_with fail
  have hW1 : Below w.heap.size w (w.alloc (.cells #[.slice A d.secs.length c, .slice A' d.cache.length c', .int .i64 d.fuse, .bool d.down] 27)) := (Below.refl w.heap.size w).alloc (Nat.le_refl _) _
  have v0 := heap_alloc_new w (.cells #[.slice A d.secs.length c, .slice A' d.cache.length c', .int .i64 d.fuse, .bool d.down] 27)
  have hz : w.heap.size < (w.alloc (.cells #[.slice A d.secs.length c, .slice A' d.cache.length c', .int .i64 d.fuse, .bool d.down] 27)).heap.size := by simp
  generalize hgW : w.alloc (.cells #[.slice A d.secs.length c, .slice A' d.cache.length c', .int .i64 d.fuse, .bool d.down] 27) = W1 at hW1 v0 hz ⊢
  clear hgW
  refine (diskOk_any _ d W1 (Rep.more diskR (Rep.at_below h hW1) hW1.size) hf).mono ?_
  rintro e w2 ⟨rfl, hb2⟩
  rw [HOK.out]
  have hW2 := hW1.trans (hb2.mono hW1.size)
  have V2 := Lib.hid ((hb2.block w.heap.size hz).trans v0)
  have hz2 : w.heap.size < w2.heap.size := by have := hb2.size; omega
  clear hb2 hW1 v0 hz
  have c0 : w2.cell? ⟨w.heap.size, 0, none⟩ = some (.slice A d.secs.length c) := var_cell V2.out 0
  have c1 : w2.cell? ⟨w.heap.size, 1, none⟩ = some (.slice A' d.cache.length c') := var_cell V2.out 1
  have c2 : w2.cell? ⟨w.heap.size, 2, none⟩ = some (.int .i64 d.fuse) := var_cell V2.out 2
  have c3 : w2.cell? ⟨w.heap.size, 3, none⟩ = some (.bool d.down) := var_cell V2.out 3
  have hat2 := Rep.more diskR (Rep.at_below h hW2) hW2.size
  cases y with
  | false =>
    have HR := Lib.hid (readSec_no (n := n) (fun hh => diskOk_bad HOK.out hh.1))
    go_wp2
    go_ret
    exact ⟨some ⟨w2.heap.size, 0, none⟩, 0, by rw [HR.out]; rfl, by rw [HR.out]; exact own_shift (Rep.lit_empty w2 _ _ rfl) (by omega), hW2.alloc hW2.size _⟩
  | true =>
    have hg := diskOk_good HOK.out
    by_cases hin : InSec d n
    · have HR := Lib.hid (readSec_yes hg hin)
      go_wp2_with fail
      refine (hasSec_yes _ d n w2 hat2 hin.1 hin.2).mono ?_
      rintro e w3 ⟨rfl, hb3⟩
      have hW3 := hW2.trans (hb3.mono hW2.size)
      obtain ⟨hcc, hff⟩ := bcell hb3
      obtain ⟨_, cells, hrd, hel⟩ := hr'
      have hel3 := fun i x hx => Rep.more wrR (Rep.at_below (hel i x hx) hW3) hW3.size
      have HE := Lib.hid hel3
      clear hel hel3 hb3
      go_wp2_with fail
      refine (driveOf_any A A' c c' d cells w3 ((hrd.below hW3).more hW3.size) HE.out hf.2.2.1 (wf_key hg)).mono ?_
      rintro e w4 ⟨g, mb, rfl, hv4, hm4, hb4, hg1, hg2, hg3⟩
      have hW4 := hW3.trans (hb4.mono hW3.size)
      clear hcc hff
      go_wp2_with fail
      refine (driveRead_any g mb d.cache.length A c (.slice A' d.cache.length c') d cells n w4 hv4 hm4 ((hr.keep fun p hp => hW4.cell hp).more hW4.size) (by have := hrd.1; exact this) (fun i x hx => Rep.more wrR (Rep.at_below (HE.out i x hx) hb4) hb4.size) hin hf).mono ?_
      rintro e w5 ⟨A3, c3', rfl, hown5, hb5⟩
      go_wp2
      go_ret
      exact ⟨A3, c3', by rw [HR.out]; rfl, by rw [HR.out]; exact ownsRow_mono hown5 hW4.size, hW4.trans (hb5.mono hW4.size)⟩
    · have HR := Lib.hid (readSec_no (n := n) (d := d) (fun hh => hin hh.2))
      go_wp2_with fail
      refine (hasSec_no _ d n w2 hat2 hin).mono ?_
      rintro e w3 ⟨rfl, hb3⟩
      have hW3 := hW2.trans (hb3.mono hW2.size)
      go_wp2
      go_ret
      exact ⟨some ⟨w3.heap.size, 0, none⟩, 0, by rw [HR.out]; rfl, by rw [HR.out]; exact own_shift (Rep.lit_empty w3 _ _ rfl) (by have := hW3.size; omega), hW3.alloc hW3.size _⟩

end Go.Proofs.Ytjhfnfffpofagaa
