/- ReadSec of the model. -/
import Derived.Test.YtjhfnfffpofagaaReadSec
namespace Go.Proofs.Ytjhfnfffpofagaa
open Go.RowKit Go.Maps
set_option linter.unusedVariables false

set_option maxRecDepth 100000 in
set_option maxHeartbeats 2000000 in
theorem readSecS_any (cs : List Value) (d : Disk) (n : Int) (w : World) (h : diskR.at_ w w.heap.size cs d) (hf : Fits d) :
    Calls Try.prog 33 #[.agg cs.toArray, .int .i64 n] w (RetBytes w (readSec d n)) := by
  obtain ⟨A, c, A', c', rfl, hc, hc', hr, hr'⟩ := disk_cells h
  obtain ⟨j0, hj0, hj1, hj2, hj3⟩ := info_parts Try.info8
  obtain ⟨y, hy⟩ : ∃ y, diskOk d = y := ⟨_, rfl⟩
  have HOK := Lib.hid hy
  clear hy
  go_enter Try.func33, Try.ntmps33
  go_wp2_with fail
  have hW1 : Below w.heap.size w (w.alloc (.cells #[.slice A d.secs.length c, .slice A' d.cache.length c', .int .i64 d.fuse, .bool d.down] 27)) := (Below.refl w.heap.size w).alloc (Nat.le_refl _) _
  have v0 := heap_alloc_new w (.cells #[.slice A d.secs.length c, .slice A' d.cache.length c', .int .i64 d.fuse, .bool d.down] 27)
  have hz : w.heap.size < (w.alloc (.cells #[.slice A d.secs.length c, .slice A' d.cache.length c', .int .i64 d.fuse, .bool d.down] 27)).heap.size := by simp
  generalize hgW : w.alloc (.cells #[.slice A d.secs.length c, .slice A' d.cache.length c', .int .i64 d.fuse, .bool d.down] 27) = W1 at hW1 v0 hz ⊢
  clear hgW
  refine (diskOkS_any _ d W1 (Rep.more diskR (Rep.at_below h hW1) hW1.size) hf).mono ?_
  rintro e w2 ⟨rfl, hb2⟩
  rw [HOK.out]
  have hW2 := hW1.trans (hb2.mono hW1.size)
  have V2 := Lib.hid ((hb2.block w.heap.size hz).trans v0)
  have hz2 : w.heap.size < w2.heap.size := by have := hb2.size; omega
  clear hb2 hW1 v0 hz
  have c0 : w2.cell? ⟨w.heap.size, 0, none⟩ = some (.slice A d.secs.length c) := var_cell V2.out 0
  have c1 : w2.cell? ⟨w.heap.size, 1, none⟩ = some (.slice A' d.cache.length c') := var_cell V2.out 1
  have f1 := hf.1
  have f3 := hf.2.2.1
  cases y with
  | false =>
    have HR := Lib.hid (readSec_no (n := n) (fun hh => diskOk_bad HOK.out hh.1))
    go_wp2
    go_ret
    exact ⟨some ⟨w2.heap.size, 0, none⟩, 0, by rw [HR.out]; rfl, by rw [HR.out]; exact own_shift (Rep.lit_empty w2 _ _ rfl) (by omega), hW2.alloc hW2.size _⟩
  | true =>
    have hg := diskOk_good HOK.out
    by_cases hin : 0 ≤ n ∧ n ≤ (d.secs.length : Int) - 1
    · have HR := Lib.hid (readSec_yes (n := n) hg ⟨hin.1, by omega⟩)
      obtain ⟨nn, rfl⟩ := Int.eq_ofNat_of_zero_le hin.1
      obtain ⟨b, off, A2, c2, l, rfl, hbl, hx, hcell, hlc, hrl⟩ := secs_elem (hr.keep fun p hp => hW2.cell hp) (show nn < d.secs.length by omega)
      have h0 : readTo d nn 0 = l := readTo_miss rfl hx
      have hl0 : l.length ≤ 1048576 := hf.2.1 l (List.mem_of_getElem? hx)
      have H0 := Lib.hid h0
      obtain ⟨_, cells, hrd, hel⟩ := hr'
      have hel2 := fun i x hx => Rep.at_below (hel i x hx) hW2
      have hrd2 := hrd.below hW2
      have HE := Lib.hid hel2
      obtain ⟨hq1, hq2⟩ := id hin
      have hin' := Lib.hid hin
      clear hel hel2 hx h0 hrd hin
      have i1 : (0 : Int) ≤ (nn : Int) := by omega
      have i2 : (nn : Int) < (d.secs.length : Int) := by omega
      go_wp2_with fail
      refine (l1In_yes _ hin'.out.1 hin'.out.2).mono ?_
      rintro e w3 ⟨rfl, rfl⟩
      go_wp2_with fail
      go_loop [5, 6] (fun q i => ∃ (k : Nat) (A3 : Option Addr) (c3 : Nat) (m : List UInt8), k ≤ d.cache.length ∧ i = .int .i64 k ∧ q = .slice A3 m.length c3 ∧ Hid (readTo d nn k = m) ∧ Reads w2 w.heap.size 1 A3 m.length (bys m) ∧ m.length ≤ 1048576) (fun _ i => d.cache.length - (intOf i).toNat)
      case atStart => exact ⟨0, A2, c2, l, by omega, rfl, rfl, H0, hrl, hl0⟩
      case round =>
        obtain ⟨k, A3, c3, m, hk, rfl, rfl, hm, hrm, hml⟩ := hrel
        by_cases hlt : k < d.cache.length
        · obtain ⟨x, hx⟩ := Rep.getElem?_of_lt (xs := d.cache) rfl hlt
          have hkx := Lib.hid (key_eq hx)
          have hxl : x.b.length ≤ 1048576 := hf.2.2.2 x (List.mem_of_getElem? hx)
          have HX := Lib.hid hx
          obtain ⟨A4, c4, hseg, hgd, _, hr4⟩ := wr_seg (HE.out k x hx) (by have := hrd2.1; rw [this]; show 2 * k + 1 < d.cache.length * 2; omega)
          obtain ⟨b', off', rfl, hbl', hcell'⟩ := reads_cells hrd2 hlt (by decide)
          rw [show wrR.size = 2 from rfl, hseg] at hcell'
          have e0 : w2.cell? ⟨b', off' + k * 2, none⟩ = some (.int .i64 x.n) := hcell' 0 _ rfl
          have e1 : w2.cell? ⟨b', off' + k * 2 + 1, none⟩ = some (.slice A4 x.b.length c4) := hcell' 1 _ rfl
          clear hcell' hseg hgd hx
          have j1 : (0 : Int) ≤ (k : Int) := by omega
          have j2 : (k : Int) < (d.cache.length : Int) := by omega
          have e5 : idxC (key d.cache) (k + 1) nn = if key d.cache k nn = true then some k else idxC (key d.cache) k nn := rfl
          have E5 := Lib.hid e5
          clear e5
          by_cases hh : x.n = (nn : Int)
          · have g1 : (x.n == (nn : Int)) = true := by simpa using hh
            have hnew := Lib.hid (readTo_hit (d := d) (n := (nn : Int)) (k := k + 1) (j := k) (x := x) (by rw [E5.out, hkx.out, if_pos g1]) HX.out)
            have HH := Lib.hid hh
            clear hh
            go_wp2
            go_round
            case rel => exact ⟨k + 1, A4, c4, x.b, by omega, by go_num, rfl, hnew, hr4, hxl⟩
            case measure => simp [intOf]; omega
          · have g1 : (x.n == (nn : Int)) = false := by simpa using hh
            have hnew : Hid (readTo d nn (k + 1) = m) := Lib.hid (by
              rw [← hm.out]
              unfold readTo
              rw [E5.out, hkx.out, if_neg (by simp [g1])])
            clear hh
            go_wp2
            go_round
            case rel => exact ⟨k + 1, A3, c3, m, by omega, by go_num, rfl, hnew, hrm, hml⟩
            case measure => simp [intOf]; omega
        · have he : k = d.cache.length := by omega
          subst he
          go_wp2_with (at_builtin
                       go_must (refine Rep.wpList_bytes _ w2 rfl (.tmp 46) (.tmp 47) _ rfl 5 j0 Try.underlying22 hj0 hj1 hj2 hj3 _ rfl w2.heap.size (Rep.lit_empty w2 _ _ rfl) (by simp) w.heap.size A3 c3 m rfl (hrm.alloc hW2.size _) hml ?_)
                       intro A5 c5 w5 hown5 hg5 hv5)
          go_ret
          exact ⟨A5, c5, by rw [HR.out, hm.out]; rfl, by rw [HR.out, hm.out]; exact ownsRow_mono hown5 hW2.size, (hW2.alloc hW2.size _).grown hg5 (by simp; omega) (fun k hk => by have := hv5 k hk; omega)⟩
    · have HR := Lib.hid (readSec_no (n := n) (d := d) (fun hh => hin ⟨hh.2.1, by have := hh.2.2; omega⟩))
      have hin' := Lib.hid hin
      clear hin
      go_wp2_with fail
      refine (l1In_no _ hin'.out).mono ?_
      rintro e w3 ⟨rfl, rfl⟩
      go_wp2
      go_ret
      exact ⟨some ⟨w2.heap.size, 0, none⟩, 0, by rw [HR.out]; rfl, by rw [HR.out]; exact own_shift (Rep.lit_empty w2 _ _ rfl) (by omega), hW2.alloc hW2.size _⟩

end Go.Proofs.Ytjhfnfffpofagaa
