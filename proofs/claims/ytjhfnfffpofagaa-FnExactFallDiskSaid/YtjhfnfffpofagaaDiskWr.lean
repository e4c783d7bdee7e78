/- Copies of structs that hold byte slices. -/
import Derived.Test.YtjhfnfffpofagaaDiskCopy
namespace Go.Proofs.Ytjhfnfffpofagaa
open Go.RowKit
set_option linter.unusedVariables false

theorem bcell {W w1 : World} (hb : Below W.heap.size W w1) : (∀ b o, b < W.heap.size → w1.cell? ⟨b, o, none⟩ = W.cell? ⟨b, o, none⟩) ∧ (∀ b o, b < W.heap.size → w1.frozen? ⟨b, o, none⟩ = W.frozen? ⟨b, o, none⟩) :=
  ⟨fun b o h => hb.cell (p := ⟨b, o, none⟩) h, fun b o h => hb.frozen (p := ⟨b, o, none⟩) h⟩

/-- The same, behind a step that has only made memory. -/
theorem gcell {W w1 : World} (hg : W.grownBy w1 none) : (∀ b o, b < W.heap.size → w1.cell? ⟨b, o, none⟩ = W.cell? ⟨b, o, none⟩) ∧ (∀ b o, b < W.heap.size → w1.frozen? ⟨b, o, none⟩ = W.frozen? ⟨b, o, none⟩) :=
  bcell ((Below.refl _ _).grown hg (Nat.le_refl _) (fun _ hk => by cases hk))

theorem Owns.setLow {w : World} {base : Nat} {e : TypeId} {v : Value} {l : List UInt8} (h : Owns w base e v l) {p : Addr} (hp : p.block < base) (u : Value) : Owns (w.setCell p u) base e v l :=
  Rep.ownsRow_block h fun g hg => heap_setCell_other _ _ _ _ (by have := (h.lt g (by simpa using hg)).1; omega)

set_option maxHeartbeats 1000000 in
theorem toWr_any (n : Int) (A : Option Addr) (c : Nat) (l : List UInt8) (w : World) (h : Reads w w.heap.size 1 A l.length (bys l)) (hn : l.length ≤ 1048576) :
    Calls Try.prog 75 #[.agg #[.int .i64 n, .slice A l.length c]] w fun e w' => ∃ v, e = .returned (.agg #[.int .i64 n, v]) ∧ Owns w' w.heap.size 5 v l ∧ Below w.heap.size w w' := by
  go_enter Try.func75, Try.ntmps75
  go_wp2_with fail
  refine (toByteS_any A c l _ ((((h.alloc (Nat.le_refl _) _).alloc (by simp) _).alloc (by simp; omega) _).more (by simp; omega)) (by omega)).mono ?_
  rintro e w2 ⟨v2, rfl, hown2, hb2⟩
  obtain ⟨A2, c2, rfl, _, _, _, _⟩ := hown2.shape
  obtain ⟨hc, hf⟩ := bcell hb2
  have hz : w.heap.size + 1 + 1 < w2.heap.size := by have := hb2.size; simp at this; omega
  go_wp2_with fail
  refine bodyPost_ret (v := .agg #[.int .i64 n, .slice A2 l.length c2]) (by simp [results, Try.results75, go_sem, hc]) rfl ⟨_, rfl, ?_, ?_⟩
  · exact ownsRow_mono (((hown2.setLow (by simp) _).setLow (by simp) _).setLow (by simp) _) (by simp; omega)
  · exact (((((((Below.refl _ _).alloc (Nat.le_refl _) _).alloc (by simp) _).alloc (by simp; omega) _).trans (hb2.mono (by simp; omega))).setCell (by simp; omega) _).setCell (by simp) _).setCell (by simp) _

/-- An element of a slice of writes. -/
theorem wr_elem {w : World} {B n k : Nat} {A : Option Addr} {xs : List Wr} (h : Rep.RowsAt wrR w B A n xs) (hk : k < n) :
    ∃ b off A' c x, A = some ⟨b, off, none⟩ ∧ b < B ∧ xs[k]? = some x ∧ w.cell? ⟨b, off + k * 2, none⟩ = some (.int .i64 x.n) ∧ w.cell? ⟨b, off + k * 2 + 1, none⟩ = some (.slice A' x.b.length c) ∧ (x.b.length ≤ c ∧ c ≤ maxLen) ∧ Reads w B 1 A' x.b.length (bys x.b) := by
  obtain ⟨b, off, c, x, hA, hb, hx, h2, hcell⟩ := h.elem hk (show 0 < 2 by omega)
  have h2' := h2
  obtain ⟨h3, A', c', h4, hc, hr⟩ := h2'
  have hl : c.length = 2 := Rep.len wrR h2
  match c, hl with
  | [u, v], _ =>
    replace h3 : [u] = [.int .i64 x.n] := h3
    replace h4 : [v] = [.slice A' x.b.length c'] := h4
    injection h3 with h3
    injection h4 with h4
    subst h3 h4
    exact ⟨b, off, A', c', x, hA, hb, hx, by have := hcell 0 _ rfl; rwa [show wrR.size = 2 from rfl] at this, by have := hcell 1 _ rfl; rwa [show wrR.size = 2 from rfl, ← Nat.add_assoc] at this, hc, hr⟩


theorem wr_own {w : World} {base : Nat} {v : Value} {x : Wr} (h : Owns w base 5 v x.b) : wrR.own w base [.int .i64 x.n, v] x v.ownBlock.toList :=
  ⟨[], v.ownBlock.toList, ⟨rfl, rfl⟩, ⟨v, rfl, h, rfl⟩, rfl, Rep.nodup_toList _⟩

theorem Try.info42 : (Try.prog.info? 42).map (fun i => (i.zero, i.size, i.bytes)) = some (some (.agg #[.int .i64 0, .slice none 0 0]), 2, 32) := by kernel_rfl

set_option maxHeartbeats 1000000 in
theorem toWrS_any (A : Option Addr) (c : Nat) (xs : List Wr) (w : World) (h : Rep.RowsAt wrR w w.heap.size A xs.length xs) (hn : xs.length ≤ 1048576) (hm : ∀ x, x ∈ xs → x.b.length ≤ 1048576) :
    Calls Try.prog 64 #[.slice A xs.length c] w fun e w' => ∃ v fp, e = .returned v ∧ Rep.OwnRows wrR 42 w' w.heap.size v xs fp ∧ Below w.heap.size w w' := by
  obtain ⟨i0, hi0, hz0, hz1, hz2⟩ := info_parts Try.info42
  go_enter Try.func64, Try.ntmps64
  go_wp2_with (at_make; refine wpList_make_full _ rfl _ _ _ rfl w.heap.size 42 i0 _ 2 Try.underlying25 hi0 hz0 hz1 _ _ _ _ xs.length rfl rfl rfl rfl (by rw [hz2]; omega) (by simp only [maxLen]; omega) (Nat.le_refl _) ?_; intro w1 hown1 hg1)
  have hb1 : Below w.heap.size w w1 := (Below.refl _ _).grown hg1 (Nat.le_refl _) (fun _ hk => by cases hk)
  have hz : Rep.OwnRows wrR 42 w1 w.heap.size (.slice (some ⟨w.heap.size, 0, none⟩) xs.length xs.length) (halfL ⟨0, []⟩ xs 0) [w.heap.size] := by
    rw [halfL_zero]
    exact rows_zero wrR _ w1 _ _ _ ⟨0, []⟩ [.int .i64 0, .slice none 0 0] _ hown1 (Rep.seg_made #[.int .i64 0, .slice none 0 0] _) (fun w => ⟨[], [], ⟨rfl, rfl⟩, ⟨_, rfl, ⟨by simp [bys], .inl ⟨rfl, rfl⟩⟩, rfl⟩, rfl, by simp⟩)
  clear hown1 hg1
  go_loopw [4] (fun i wr => ∃ (k : Nat) (fp : List Nat), k ≤ xs.length ∧ i = .int .i64 k ∧ Below w.heap.size w wr ∧ Rep.OwnRows wrR 42 wr w.heap.size (.slice (some ⟨w.heap.size, 0, none⟩) xs.length xs.length) (halfL ⟨0, []⟩ xs k) fp) (fun i _ => xs.length - (intOf i).toNat)
  case atStart => exact ⟨0, _, by omega, rfl, hb1, hz⟩
  case round =>
    obtain ⟨k, fp, hk, rfl, hb, hown⟩ := hrel
    clear hz hb1
    by_cases hlt : k < xs.length
    · obtain ⟨b, off, A', c', x, rfl, hbl, hx, hcell, hcell', hlc, hr⟩ := wr_elem (h.keep fun p hp => hb.cell hp) hlt
      have hll : x.b.length ≤ 1048576 := hm x (List.mem_of_getElem? hx)
      have HX := Lib.hid hx
      clear hx
      go_wp2_with fail
      refine (toWr_any x.n A' c' x.b wr (hr.more hb.size) (by omega)).mono ?_
      rintro e w2 ⟨v2, rfl, hown2, hb2⟩
      obtain ⟨A2, c2, rfl, _, _, _, _⟩ := hown2.shape
      have hlh : (halfL (⟨0, []⟩ : Wr) xs k).length = xs.length := halfL_length _ _ _ hk
      have hown3 := hown.of_below hb2
      obtain ⟨⟨u0, hcl⟩, hfr, _, hgl⟩ := hown3.there (k * 2) (by rw [hlh]; show k * 2 < xs.length * 2; omega)
      obtain ⟨⟨u1, hcl1⟩, hfr1, _, _⟩ := hown3.there (k * 2 + 1) (by rw [hlh]; show k * 2 + 1 < xs.length * 2; omega)
      go_wp2_with fail
      obtain ⟨fp', hput⟩ := hown3.store (k := k) (x := x) [.int .i64 x.n, .slice A2 x.b.length c2] hlh hlt rfl (wr_own hown2) hb.size (fun g hg => (hown.lt g hg).2)
      rw [halfL_set _ HX.out] at hput
      have hB3 := Rep.setRow_below (g := w.heap.size) (k * 2) [.int .i64 x.n, .slice A2 x.b.length c2] (hb.trans (hb2.mono hb.size)) (Nat.le_refl _)
      go_roundw
      case rel => exact ⟨k + 1, fp', by omega, by go_num, hB3, hput⟩
      case measure => simp [intOf]; omega
    · have he : k = xs.length := by omega
      subst he
      rw [halfL_all] at hown
      go_wp2
      go_ret
      exact ⟨_, _, rfl, hown, hb⟩
end Go.Proofs.Ytjhfnfffpofagaa
