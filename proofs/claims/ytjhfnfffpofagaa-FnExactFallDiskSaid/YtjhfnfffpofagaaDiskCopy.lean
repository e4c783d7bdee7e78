/- The types of chapter 2 and the copies that the exact laws make. -/
import Derived.Test.YtjhfnfffpofagaaRepRow
namespace Go.Proofs.Ytjhfnfffpofagaa
open Go.RowKit
set_option linter.unusedVariables false

structure Wr where
  n : Int
  b : List UInt8
structure Disk where
  secs : List (List UInt8)
  cache : List Wr
  fuse : Int
  down : Bool

def byR : Rep (List UInt8) := Rep.bytes 5
def wrR : Rep Wr := (Rep.int.pair byR).iso (fun x => (x.n, x.b)) (fun p => ⟨p.1, p.2⟩)
def secsR : Rep (List (List UInt8)) := Rep.rows 22 byR
def cacheR : Rep (List Wr) := Rep.rows 42 wrR
def diskR : Rep Disk := (secsR.pair (cacheR.pair (Rep.int.pair Rep.bool))).iso (fun d => (d.secs, d.cache, d.fuse, d.down)) (fun p => ⟨p.1, p.2.1, p.2.2.1, p.2.2.2⟩)

theorem Try.info22 : (Try.prog.info? 22).map (fun i => (i.zero, i.size, i.bytes)) = some (some (.slice none 0 0), 1, 24) := by kernel_rfl

/-- An element of a slice of byte slices. -/
theorem secs_elem {w : World} {B n k : Nat} {A : Option Addr} {xs : List (List UInt8)} (h : Rep.RowsAt byR w B A n xs) (hk : k < n) :
    ∃ b off A' c l, A = some ⟨b, off, none⟩ ∧ b < B ∧ xs[k]? = some l ∧ w.cell? ⟨b, off + k, none⟩ = some (.slice A' l.length c) ∧ (l.length ≤ c ∧ c ≤ maxLen) ∧ Reads w B 1 A' l.length (bys l) := by
  obtain ⟨b, off, c, l, hA, hb, hx, ⟨A', c', rfl, hc, hr⟩, hcell⟩ := h.elem hk (show 0 < 1 by omega)
  have := hcell 0 _ rfl
  exact ⟨b, off, A', c', l, hA, hb, hx, by simpa [byR, Rep.bytes] using this, hc, hr⟩

/-- The first k elements are copied, the others are still zero. -/
def halfL {α : Type} (z : α) (xs : List α) (k : Nat) : List α := xs.take k ++ List.replicate (xs.length - k) z
theorem halfL_length {α : Type} (z : α) (xs : List α) (k : Nat) (h : k ≤ xs.length) : (halfL z xs k).length = xs.length := by simp [halfL]; omega
theorem halfL_zero {α : Type} (z : α) (xs : List α) : halfL z xs 0 = List.replicate xs.length z := by simp [halfL]
theorem halfL_all {α : Type} (z : α) (xs : List α) : halfL z xs xs.length = xs := by simp [halfL]
theorem halfL_set {α : Type} (z : α) {xs : List α} {k : Nat} {x : α} (h : xs[k]? = some x) : (halfL z xs k).set k x = halfL z xs (k + 1) := by
  have hk : k < xs.length := (List.getElem?_eq_some_iff.1 h).1
  have e : xs.length - k = (xs.length - (k + 1)) + 1 := by omega
  unfold halfL
  rw [Rep.take_get h, e, List.replicate_succ, List.set_append_right _ _ (by simp; omega)]
  have : k - (xs.take k).length = 0 := by simp; omega
  rw [this]
  simp

theorem rows_zero {α : Type} (R : Rep α) (e : TypeId) (w : World) (base n : Nat) (v : Value) (z : α) (c : List Value) (cells : List Value) (h : w.ownsRow base e R.size v n cells) (hc : ∀ i, i < n → Rep.seg R.size i cells = c) (hz : ∀ w, R.own w base c z []) :
    Rep.OwnRows R e w base v (List.replicate n z) v.ownBlock.toList := by
  refine ⟨cells, List.replicate n [], by simpa using h, by simp, ?_, by simp, Rep.nodup_toList _⟩
  intro i x f hx hf
  rw [List.getElem?_replicate] at hx hf
  split at hx
  · rename_i hi
    rw [if_pos hi] at hf
    injection hx with hx
    injection hf with hf
    subst hx hf
    rw [hc i hi]
    exact hz w
  · cases hx

set_option maxHeartbeats 1000000 in
theorem toByteSS_any (A : Option Addr) (c : Nat) (xs : List (List UInt8)) (w : World) (h : Rep.RowsAt byR w w.heap.size A xs.length xs) (hn : xs.length ≤ 1048576) (hm : ∀ l, l ∈ xs → l.length ≤ 1048576) :
    Calls Try.prog 63 #[.slice A xs.length c] w fun e w' => ∃ v fp, e = .returned v ∧ Rep.OwnRows byR 22 w' w.heap.size v xs fp ∧ Below w.heap.size w w' := by
  obtain ⟨i0, hi0, hz0, hz1, hz2⟩ := info_parts Try.info22
  go_enter Try.func63, Try.ntmps63
  go_wp2_with (at_make; refine wpList_make_full _ rfl _ _ _ rfl w.heap.size 22 i0 _ 1 Try.underlying24 hi0 hz0 hz1 _ _ _ _ xs.length rfl rfl rfl rfl (by rw [hz2]; omega) (by simp only [maxLen]; omega) (Nat.le_refl _) ?_; intro w1 hown1 hg1)
  have hb1 : Below w.heap.size w w1 := (Below.refl _ _).grown hg1 (Nat.le_refl _) (fun _ hk => by cases hk)
  have hz : Rep.OwnRows byR 22 w1 w.heap.size (.slice (some ⟨w.heap.size, 0, none⟩) xs.length xs.length) (halfL [] xs 0) [w.heap.size] := by
    rw [halfL_zero]
    exact rows_zero byR _ w1 _ _ _ [] [.slice none 0 0] _ hown1 (Rep.seg_made #[.slice none 0 0] _) (fun w => ⟨_, rfl, ⟨by simp [bys], .inl ⟨rfl, rfl⟩⟩, rfl⟩)
  clear hown1 hg1
  go_loopw [4] (fun i wr => ∃ (k : Nat) (fp : List Nat), k ≤ xs.length ∧ i = .int .i64 k ∧ Below w.heap.size w wr ∧ Rep.OwnRows byR 22 wr w.heap.size (.slice (some ⟨w.heap.size, 0, none⟩) xs.length xs.length) (halfL [] xs k) fp) (fun i _ => xs.length - (intOf i).toNat)
  case atStart => exact ⟨0, _, by omega, rfl, hb1, hz⟩
  case round =>
    obtain ⟨k, fp, hk, rfl, hb, hown⟩ := hrel
    clear hz hb1
    by_cases hlt : k < xs.length
    · obtain ⟨b, off, A', c', l, rfl, hbl, hx, hcell, hlc, hr⟩ := secs_elem (h.keep fun p hp => hb.cell hp) hlt
      have hll : l.length ≤ 1048576 := hm l (List.mem_of_getElem? hx)
      have HX := Lib.hid hx
      clear hx
      go_wp2_with fail
      refine (toByteS_any A' c' l wr (hr.more hb.size) (by omega)).mono ?_
      rintro e w2 ⟨v2, rfl, hown2, hb2⟩
      obtain ⟨A2, c2, rfl, _, _, _, _⟩ := hown2.shape
      have hlh : (halfL [] xs k).length = xs.length := halfL_length _ _ _ hk
      have hown3 := hown.of_below hb2
      obtain ⟨⟨u0, hcl⟩, hfr, _, hgl⟩ := hown3.there k (by rw [hlh]; show k < xs.length * 1; omega)
      go_wp2_with fail
      obtain ⟨fp', hput⟩ := hown3.store (k := k) (x := l) [.slice A2 l.length c2] hlh hlt rfl ⟨_, rfl, hown2, rfl⟩ hb.size (fun g hg => (hown.lt g hg).2)
      rw [halfL_set [] HX.out, show k * byR.size = k from Nat.mul_one k] at hput
      have hB3 := Rep.setRow_below (g := w.heap.size) k [.slice A2 l.length c2] (hb.trans (hb2.mono hb.size)) (Nat.le_refl _)
      go_roundw
      case rel => exact ⟨k + 1, fp', by omega, by go_num, hB3, hput⟩
      case measure => simp [intOf]; omega
    · have he : k = xs.length := by omega
      subst he
      rw [halfL_all] at hown
      go_wp2
      go_ret
      exact ⟨_, _, rfl, hown, hb⟩
end Go.Proofs.Ytjhfnfffpofagaa
