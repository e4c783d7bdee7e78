/- A disk that came in: how great it is, its copy. -/
import Derived.Test.YtjhfnfffpofagaaDiskEq
namespace Go.Proofs.Ytjhfnfffpofagaa
open Go.RowKit
set_option linter.unusedVariables false

def AllWr (xs : List Wr) (k : Nat) : Prop := ∀ l, l ∈ xs.take k → l.b.length ≤ 1048576
theorem AllWr.zero (xs : List Wr) : AllWr xs 0 := by intro l hl; simp at hl
theorem AllWr.succ {xs : List Wr} {k : Nat} {l : Wr} (h : AllWr xs k) (hx : xs[k]? = some l) (hl : l.b.length ≤ 1048576) : AllWr xs (k + 1) := by
  intro m hm
  rw [Rep.take_get hx, List.mem_append] at hm
  rcases hm with hm | hm
  · exact h m hm
  · simp at hm; subst hm; exact hl
theorem AllWr.all {xs : List Wr} (h : AllWr xs xs.length) : ∀ l, l ∈ xs → l.b.length ≤ 1048576 := fun l hl => h l (by simpa using hl)

/-- What a count of the room that is left says, where the count makes memory. -/
def RoomB (bound : Prop) (left : Nat) (w : World) (e : Ending) (w' : World) : Prop := ((∃ z : Nat, z ≤ left ∧ bound ∧ e = .returned (.int .i64 z)) ∨ e = .returned (.int .i64 (-1))) ∧ Below w.heap.size w w'

set_option maxHeartbeats 1000000 in
theorem szWrS_room (A : Option Addr) (c : Nat) (xs : List Wr) (left : Nat) (w : World) (h : Rep.RowsAt wrR w w.heap.size A xs.length xs) (hn : xs.length ≤ 9223372036854775807) (hl : left ≤ 1048576) :
    Calls Try.prog 62 #[.slice A xs.length c, .int .i64 left] w (RoomB (xs.length ≤ 1048576 ∧ ∀ l, l ∈ xs → l.b.length ≤ 1048576) left w) := by
  by_cases h1 : xs.length ≤ left
  · have h' : ¬ ((left : Int) - (xs.length : Int) < 0) := by omega
    obtain ⟨z0, hz0, hz1⟩ : ∃ z : Nat, (left : Int) - (xs.length : Int) = z ∧ z ≤ left := ⟨left - xs.length, by omega, by omega⟩
    have HZ := Lib.hid hz0
    clear hz0
    go_enter Try.func62, Try.ntmps62
    go_wp2
    go_loopw [1, 5] (fun q i wr => ∃ k z : Nat, k ≤ xs.length ∧ i = .int .i64 k ∧ z ≤ left ∧ q = .int .i64 z ∧ AllWr xs k ∧ Below w.heap.size w wr) (fun _ i _ => xs.length - (intOf i).toNat)
    case atStart => exact ⟨0, z0, by omega, rfl, hz1, by rw [HZ.out], AllWr.zero xs, Below.refl _ _⟩
    case round =>
      obtain ⟨k, z, hk, rfl, hz, rfl, hall, hb⟩ := hrel
      by_cases hlt : k < xs.length
      · obtain ⟨b, off, A', c', x, rfl, hbl, hx, hcell1, hcell2, hlc, hr⟩ := wr_elem (h.keep fun p hp => hb.cell hp) hlt
        have hll : x.b.length ≤ 9223372036854775807 := Nat.le_trans hlc.1 hlc.2
        have HX := Lib.hid hx
        clear hx
        go_wp2_with fail
        refine (szWr_room x.n A' c' x.b.length z wr (by omega) (by omega)).mono ?_
        rintro e w' ⟨⟨z', hz', hbd, rfl⟩ | rfl, hb2⟩
        · have hb3 := hb.trans (hb2.mono hb.size)
          go_wp2_with fail
          go_roundw
          case rel => exact ⟨k + 1, z', by omega, by go_num, by omega, rfl, hall.succ HX.out hbd, hb3⟩
          case measure => simp [intOf]; omega
        · have hb3 := hb.trans (hb2.mono hb.size)
          go_wp2_with fail
          go_ret
          exact ⟨.inr rfl, hb3⟩
      · have he : k = xs.length := by omega
        subst he
        go_wp2
        go_ret
        exact ⟨.inl ⟨z, hz, ⟨by omega, hall.all⟩, rfl⟩, hb⟩
  · go_enter Try.func62, Try.ntmps62
    go_wp2
    go_ret
    exact ⟨.inr rfl, Below.refl _ _⟩

set_option maxHeartbeats 1000000 in
theorem szDisk_room (cs : List Value) (d : Disk) (left : Nat) (w : World) (h : diskR.at_ w w.heap.size cs d) (hl : left ≤ 1048576) :
    Calls Try.prog 31 #[.agg cs.toArray, .int .i64 left] w (RoomB (Fits d) left w) := by
  obtain ⟨A, c, A', c', rfl, hc, hc', hr, hr'⟩ := disk_cells h
  have f1 : d.secs.length ≤ 9223372036854775807 := Nat.le_trans hc.1 hc.2
  have f3 : d.cache.length ≤ 9223372036854775807 := Nat.le_trans hc'.1 hc'.2
  clear h hc hc'
  go_enter Try.func31, Try.ntmps31
  go_wp2_with fail
  refine (szByteSS_room A c d.secs left _ ?_ f1 hl).mono ?_
  · exact (hr.keep fun p hp => World.cell?_alloc_lt _ _ p hp).more (by simp)
  rintro e1 w1 ⟨⟨z, hz, hbd, rfl⟩ | rfl, rfl⟩
  · have HB := Lib.hid hbd
    clear hbd
    go_wp2_with fail
    refine (szWrS_room A' c' d.cache z _ ?_ f3 (by omega)).mono ?_
    · exact (hr'.keep fun p hp => World.cell?_alloc_lt _ _ p hp).more (by simp)
    rintro e2 w2 ⟨⟨z2, hz2, hbd2, rfl⟩ | rfl, hb2⟩
    · have HB2 := Lib.hid hbd2
      clear hbd2
      have hW := ((Below.refl w.heap.size w).alloc (Nat.le_refl _) _).trans (hb2.mono (by simp))
      go_wp2_with fail
      go_ret
      exact ⟨.inl ⟨z2, by omega, ⟨HB.out.1, HB.out.2, HB2.out.1, HB2.out.2⟩, rfl⟩, hW⟩
    · have hW := ((Below.refl w.heap.size w).alloc (Nat.le_refl _) _).trans (hb2.mono (by simp))
      go_wp2_with fail
      go_ret
      exact ⟨.inr rfl, hW⟩
  · go_wp2_with fail
    go_ret
    exact ⟨.inr rfl, (Below.refl _ _).alloc (Nat.le_refl _) _⟩

/-- A disk of the call's own. -/
def OwnDisk (w : World) (base : Nat) (v : Value) (d : Disk) (fp : List Nat) : Prop := ∃ cs, v = .agg cs.toArray ∧ diskR.own w base cs d fp

theorem disk_own {w : World} {base B : Nat} {v v' : Value} {d : Disk} {f f' : List Nat} (h : Rep.OwnRows byR 22 w base v d.secs f) (h' : Rep.OwnRows wrR 42 w B v' d.cache f') (hB : base ≤ B) (hf : ∀ g, g ∈ f → g < B) :
    diskR.own w base [v, v', .int .i64 d.fuse, .bool d.down] d (f ++ f') := by
  have hn1 : f.Nodup := Rep.nodup secsR (w := w) (base := base) (cs := [v]) (x := d.secs) ⟨v, rfl, h⟩
  have hn2 : f'.Nodup := Rep.nodup cacheR (w := w) (base := B) (cs := [v']) (x := d.cache) ⟨v', rfl, h'⟩
  refine ⟨f, f', ⟨v, rfl, h⟩, ⟨f', [], ⟨v', rfl, h'.low hB⟩, ⟨[], [], ⟨rfl, rfl⟩, ⟨rfl, rfl⟩, rfl, by simp⟩, by simp, by simpa using hn2⟩, by simp, ?_⟩
  exact Rep.nodup_append_of hn1 hn2 fun a ha ha' => by have := hf a ha; have := (h'.lt a ha').1; omega

set_option maxHeartbeats 1000000 in
theorem toDisk_any (cs : List Value) (d : Disk) (w : World) (h : diskR.at_ w w.heap.size cs d) (hs : Fits d) :
    Calls Try.prog 32 #[.agg cs.toArray] w fun e w' => ∃ v fp, e = .returned v ∧ OwnDisk w' w.heap.size v d fp ∧ Below w.heap.size w w' := by
  obtain ⟨A, c, A', c', rfl, _, _, hr, hr'⟩ := disk_cells h
  obtain ⟨f1, f2, f3, f4⟩ := hs
  have F2 := Lib.hid f2
  have F4 := Lib.hid f4
  clear f2 f4 h
  go_enter Try.func32, Try.ntmps32
  go_wp2_with fail
  have hW0 := ((((Below.refl w.heap.size w).alloc (Nat.le_refl _) (.cells #[.slice A d.secs.length c, .slice A' d.cache.length c', .int .i64 d.fuse, .bool d.down] 48)).alloc (by simp) (.cells #[.slice none 0 0, .slice none 0 0, .int .i64 0, .bool false] 27)).alloc (by simp; omega) (.cells #[.slice none 0 0, .slice none 0 0, .int .i64 0, .bool false] 27))
  refine (toByteSS_any A c d.secs _ ((hr.keep fun p hp => hW0.cell hp).more hW0.size) f1 F2.out).mono ?_
  rintro e1 w1 ⟨v1, fp1, rfl, hown1, hb1⟩
  have hW1 := hW0.trans (hb1.mono hW0.size)
  clear hW0
  obtain ⟨A1, c1, rfl, _, _, _⟩ := hown1.reads
  obtain ⟨hc, hf⟩ := bcell hb1
  have hz : w.heap.size + 1 + 1 < w1.heap.size := by have := hb1.size; simp at this; omega
  have hz0 : w.heap.size < w1.heap.size := by omega
  have hz1 : w.heap.size + 1 < w1.heap.size := by omega
  go_wp2_with fail
  have hW2 : Below w.heap.size w (w1.setCell ⟨w.heap.size + 1 + 1, 0, none⟩ (.slice A1 d.secs.length c1)) := hW1.setCell (by simp; omega) _
  refine (toWrS_any A' c' d.cache _ ((hr'.keep fun p hp => hW2.cell hp).more hW2.size) f3 F4.out).mono ?_
  rintro e2 w2 ⟨v2, fp2, rfl, hown2, hb2⟩
  have hW3 := hW2.trans (hb2.mono hW2.size)
  obtain ⟨A2, c2, rfl, _, _, _⟩ := hown2.reads
  have hown1' : Rep.OwnRows byR 22 w2 (w.heap.size + 1 + 1 + 1) (.slice A1 d.secs.length c1) d.secs fp1 := by
    refine (((hown1.low (base' := w.heap.size + 1 + 1 + 1) (by simp)).kept (w' := w1.setCell ⟨w.heap.size + 1 + 1, 0, none⟩ (.slice A1 d.secs.length c1)) fun g hg => heap_setCell_other _ _ _ _ ?_)).of_below hb2
    have := (hown1.lt g hg).1
    simp at this ⊢
    omega
  have hlt1 : ∀ g, g ∈ fp1 → g < w1.heap.size := fun g hg => (hown1.lt g hg).2
  obtain ⟨hc', hf'⟩ := bcell hb2
  have hz2 : w1.heap.size ≤ w2.heap.size := by have := hb2.size; simpa using this
  go_wp2_with fail
  refine bodyPost_ret (v := .agg #[.slice A1 d.secs.length c1, .slice A2 d.cache.length c2, .int .i64 d.fuse, .bool d.down]) (by simp [results, Try.results32, go_sem, hc, hc', hz1]) rfl ⟨_, fp1 ++ fp2, rfl, ⟨_, rfl, ?_⟩, ?_⟩
  · refine diskR.low (base := w.heap.size + 1 + 1 + 1) ?_ (by omega)
    repeat (refine Rep.setLow ?_ (by first | (simp; done) | (simp; omega)) _)
    exact disk_own hown1' hown2 (by simp; omega) (fun g hg => by have := hlt1 g hg; simpa using this)
  · repeat (refine Below.setCell ?_ (by first | (simp; done) | (simp; omega)) _)
    exact hW3

end Go.Proofs.Ytjhfnfffpofagaa
