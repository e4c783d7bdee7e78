/- Marks of a disk, and marks that are found again. -/
import Derived.Test.YtjhfnfffpofagaaDiskMark
namespace Go.Proofs.Ytjhfnfffpofagaa
open Go.RowKit
set_option linter.unusedVariables false

set_option maxHeartbeats 400000 in
theorem markWrS_any (v : Value) (k0 : Nat) (xs : List Wr) (fp : List Nat) (w : World) (base : Nat) (h : Rep.OwnRows wrR 42 w base v xs fp) (hn : xs.length ≤ 1048576) (hm : ∀ l, l ∈ xs → l.b.length ≤ 1048576) (hk0 : k0 ≤ 4398046511104) :
    Calls Try.prog 58 #[v, .int .i64 k0] w fun e w' => e = .returned (.int .i64 (k0 + Rep.cntL wrR xs : Nat)) ∧ Rep.OwnRows wrR 42 w' base v (Rep.mkL wrR k0 xs) fp ∧ Rep.Only w w' fp := by
  obtain ⟨cells, fps, ho, hr⟩ := id h
  rcases ho.2 with ⟨rfl, h0⟩ | ⟨g, cap, cur, rfl, _⟩
  · have hl : xs = [] := List.eq_nil_of_length_eq_zero h0
    subst hl
    clear h0 ho hr
    go_enter Try.func58, Try.ntmps58
    go_wp2
    refine wp_loop_rounds 1 ?_
    rw [rounds_succ]
    go_wp2
    go_ret
    exact ⟨rfl, h, Rep.Only.refl _ _⟩
  · exact markWrS_row g cap k0 xs fp w base h hn hm hk0 (Nat.le_trans (cnt_cache hn hm) (by omega))

/-- A disk of the call's own: its parts. -/
theorem disk_inv {w : World} {base : Nat} {cs : List Value} {d : Disk} {fp : List Nat} (h : diskR.own w base cs d fp) :
    ∃ v v' f f', cs = [v, v', .int .i64 d.fuse, .bool d.down] ∧ Rep.OwnRows byR 22 w base v d.secs f ∧ Rep.OwnRows wrR 42 w base v' d.cache f' ∧ fp = f ++ f' ∧ fp.Nodup := by
  have hl : cs.length = 4 := Rep.len diskR (Rep.reads diskR h)
  obtain ⟨f, f', ⟨v, h1, ho⟩, ⟨g, g', ⟨v', h2, ho'⟩, ⟨q, q', ⟨h3, hq⟩, ⟨h4, hq'⟩, hqq, _⟩, hgg, _⟩, hff, hn⟩ := h
  match cs, hl with
  | [a, b, e, u], _ =>
    replace h1 : [a] = [v] := h1
    replace h2 : [b] = [v'] := h2
    replace h3 : [e] = [.int .i64 d.fuse] := h3
    replace h4 : [u] = [.bool d.down] := h4
    injection h1 with h1
    injection h2 with h2
    injection h3 with h3
    injection h4 with h4
    subst h1 h2 h3 h4 hq hq'
    refine ⟨a, b, f, g, rfl, ho, ho', ?_, hn⟩
    rw [hff, hgg, hqq]
    simp

/-- The disk with its slices marked. -/
def markD (k : Nat) (d : Disk) : Disk := ⟨Rep.mkL byR k d.secs, Rep.mkL wrR (k + Rep.cntL byR d.secs) d.cache, d.fuse, d.down⟩
def cntD (d : Disk) : Nat := Rep.cntL byR d.secs + Rep.cntL wrR d.cache
theorem cntD_le {d : Disk} (h : Fits d) : cntD d ≤ 3298534883328 := by
  have h1 := cnt_secs h.1 h.2.1
  have h2 := cnt_cache h.2.2.1 h.2.2.2
  unfold cntD
  omega

set_option maxHeartbeats 1000000 in
theorem markDisk_any (cs : List Value) (k0 : Nat) (d : Disk) (fp : List Nat) (w : World) (base : Nat) (h : diskR.own w base cs d fp) (hs : Fits d) (hk0 : k0 ≤ 1048576) :
    Calls Try.prog 29 #[.agg cs.toArray, .int .i64 k0] w fun e w' => e = .returned (.int .i64 (k0 + cntD d : Nat)) ∧ diskR.own w' base cs (markD k0 d) fp ∧ Rep.Only w w' fp := by
  obtain ⟨v, v', f, f', rfl, h1, h2, rfl, hnd⟩ := disk_inv h
  obtain ⟨s1, s2, s3, s4⟩ := hs
  have hd := cntD_le ⟨s1, s2, s3, s4⟩
  have c1 := cnt_secs s1 s2
  have c2 := cnt_cache s3 s4
  have S2 := Lib.hid s2
  have S4 := Lib.hid s4
  have HN := Lib.hid hnd
  clear s2 s4 hnd h
  obtain ⟨A, c, rfl, _, _, _⟩ := h1.reads
  obtain ⟨A', c', rfl, _, _, _⟩ := h2.reads
  have hlt1 : ∀ g, g ∈ f → g < w.heap.size := fun g hg => (h1.lt g hg).2
  have hlt2 : ∀ g, g ∈ f' → g < w.heap.size := fun g hg => (h2.lt g hg).2
  have H1 := Lib.hid hlt1
  have H2 := Lib.hid hlt2
  clear hlt1 hlt2
  go_enter Try.func29, Try.ntmps29
  go_wp2_with fail
  have ha : ∀ (o : Obj) (g : Nat), g < w.heap.size → (w.alloc o).heap[g]? = w.heap[g]? := fun o g hg => Below.heap_alloc w o g hg
  have HA := Lib.hid ha
  clear ha
  refine (markByteSS_any (.slice A d.secs.length c) k0 d.secs f _ base (h1.kept fun g hg => HA.out _ g (H1.out g hg)) s1 S2.out (by omega)).mono ?_
  rintro e1 w1 ⟨rfl, hm1, ho1⟩
  obtain ⟨m, hm, hmb⟩ : ∃ m : Nat, m = k0 + Rep.cntL byR d.secs ∧ m ≤ 1099512676352 := ⟨_, rfl, by omega⟩
  rw [← hm]
  have HM := Lib.hid hm
  clear hm
  have hdis : ∀ g, g ∈ f' → g ∉ f := fun g hg hg' => (List.nodup_append.1 HN.out).2.2 g hg' g hg rfl
  have hD := Lib.hid hdis
  clear hdis
  have hcB : ∀ o, w1.cell? ⟨w.heap.size, o, none⟩ = (w.alloc (.cells #[.slice A d.secs.length c, .slice A' d.cache.length c', .int .i64 d.fuse, .bool d.down] 27)).cell? ⟨w.heap.size, o, none⟩ := fun o =>
    World.cell?_of_block (ho1.block w.heap.size (by simp) (fun hg => by have := H1.out _ hg; omega))
  have hm2 : Rep.OwnRows wrR 42 w1 base (.slice A' d.cache.length c') d.cache f' := (h2.kept fun g hg => HA.out _ g (H2.out g hg)).kept fun g hg => ho1.block g (by have := H2.out g hg; simp; omega) (hD.out g hg)
  go_wp2_with fail
  refine (markWrS_any (.slice A' d.cache.length c') m d.cache f' w1 base hm2 s3 S4.out (by omega)).mono ?_
  rintro e2 w2 ⟨rfl, hm3, ho2⟩
  clear hcB
  go_wp2_with fail
  go_ret
  refine ⟨by rw [HM.out]; exact congrArg (fun z : Nat => Ending.returned (.int .i64 (z : Int))) (by unfold cntD; omega), ⟨f, f', ⟨_, rfl, ?_⟩, ⟨f', [], ⟨_, rfl, by rw [HM.out] at hm3; exact hm3⟩, ⟨[], [], ⟨rfl, rfl⟩, ⟨rfl, rfl⟩, rfl, by simp⟩, by simp, ?_⟩, rfl, HN.out⟩, ?_⟩
  · exact hm1.kept fun g hg => ho2.block g (hm1.lt g hg).2 (fun hg' => hD.out g hg' hg)
  · exact (List.nodup_append.1 HN.out).2.1
  · have h0 : Rep.Only w (w.alloc (.cells #[.slice A d.secs.length c, .slice A' d.cache.length c', .int .i64 d.fuse, .bool d.down] 27)) (f ++ f') := ⟨rfl, rfl, rfl, by simp, fun k hk _ => HA.out _ k hk⟩
    exact h0.trans ((ho1.mono (by simp +contextual)).trans (ho2.mono (by simp +contextual)))

set_option maxHeartbeats 1000000 in
theorem heldByteSS_any (A : Option Addr) (c k0 : Nat) (xs : List (List UInt8)) (w : World) (h : Rep.RowsAt byR w w.heap.size A xs.length (Rep.mkL byR k0 xs)) (hn : xs.length ≤ 1048576) (hm : ∀ l, l ∈ xs → l.length ≤ 1048576) (hk0 : k0 ≤ 4398046511104) :
    Calls Try.prog 59 #[.slice A xs.length c, .int .i64 k0] w fun e w' => e = .returned (.int .i64 (k0 + Rep.cntL byR xs : Nat)) ∧ w = w' := by
  have hcnt := cnt_secs hn hm
  have HM := Lib.hid hm
  clear hm
  go_enter Try.func59, Try.ntmps59
  go_wp2
  go_loop [1, 5] (fun q i => ∃ k m : Nat, k ≤ xs.length ∧ i = .int .i64 k ∧ q = .int .i64 m ∧ Hid (m = k0 + Rep.cntL byR (xs.take k))) (fun _ i => xs.length - (intOf i).toNat)
  case atStart => exact ⟨0, k0, by omega, rfl, rfl, Lib.hid (by simp [Rep.cntL])⟩
  case round =>
    obtain ⟨k, m, hk, rfl, rfl, hm⟩ := hrel
    have hkc := Rep.cntL_le byR xs k
    have hm1 : m ≤ 8796093022208 := by have := hm.out; omega
    by_cases hlt : k < xs.length
    · obtain ⟨l, hx⟩ := Rep.getElem?_of_lt (xs := xs) rfl hlt
      have hll := HM.out l (List.mem_of_getElem? hx)
      have HX := Lib.hid hx
      clear hx
      obtain ⟨b, off, A', c', l', rfl, hbl, hx', hcell, hlc, hr⟩ := secs_elem h hlt
      obtain rfl : marks m l.length = l' := by rw [Rep.mkL_get byR HX.out] at hx'; injection hx' with hx'; rw [hm.out]; exact hx'
      have HN := Lib.hid (Rep.cntL_succ byR HX.out)
      rw [marks_length] at hcell hr
      clear hx'
      go_wp2_with fail
      refine (heldByteS_any A' c' m l.length w hr (by omega) (by omega)).mono ?_
      rintro e w' ⟨rfl, rfl⟩
      have hneg : ¬ ((m : Int) + (l.length : Int) < 0) := by omega
      go_wp2_with fail
      go_round
      case rel => exact ⟨k + 1, m + l.length, by omega, by go_num, by go_num, Lib.hid (by rw [HN.out, hm.out]; show _ = k0 + (_ + l.length); omega)⟩
      case measure => simp [intOf]; omega
    · have he : k = xs.length := by omega
      subst he
      have HT : Hid (xs.take xs.length = xs) := Lib.hid List.take_length
      go_wp2
      go_ret
      exact ⟨by rw [hm.out, HT.out]; rfl, rfl⟩

set_option maxHeartbeats 1000000 in
theorem heldWrS_any (A : Option Addr) (c k0 : Nat) (xs : List Wr) (w : World) (h : Rep.RowsAt wrR w w.heap.size A xs.length (Rep.mkL wrR k0 xs)) (hn : xs.length ≤ 1048576) (hm : ∀ l, l ∈ xs → l.b.length ≤ 1048576) (hk0 : k0 ≤ 4398046511104) :
    Calls Try.prog 60 #[.slice A xs.length c, .int .i64 k0] w fun e w' => e = .returned (.int .i64 (k0 + Rep.cntL wrR xs : Nat)) ∧ w = w' := by
  have hcnt := cnt_cache hn hm
  have HM := Lib.hid hm
  clear hm
  go_enter Try.func60, Try.ntmps60
  go_wp2
  go_loop [1, 5] (fun q i => ∃ k m : Nat, k ≤ xs.length ∧ i = .int .i64 k ∧ q = .int .i64 m ∧ Hid (m = k0 + Rep.cntL wrR (xs.take k))) (fun _ i => xs.length - (intOf i).toNat)
  case atStart => exact ⟨0, k0, by omega, rfl, rfl, Lib.hid (by simp [Rep.cntL])⟩
  case round =>
    obtain ⟨k, m, hk, rfl, rfl, hm⟩ := hrel
    have hkc := Rep.cntL_le wrR xs k
    have hm1 : m ≤ 8796093022208 := by have := hm.out; omega
    by_cases hlt : k < xs.length
    · obtain ⟨l, hx⟩ := Rep.getElem?_of_lt (xs := xs) rfl hlt
      have hll := HM.out l (List.mem_of_getElem? hx)
      have HX := Lib.hid hx
      clear hx
      obtain ⟨b, off, A', c', l', rfl, hbl, hx', hcell1, hcell2, hlc, hr⟩ := wr_elem h hlt
      obtain rfl : (⟨(m : Int), marks (m + 1) l.b.length⟩ : Wr) = l' := by rw [Rep.mkL_get wrR HX.out] at hx'; injection hx' with hx'; rw [hm.out]; exact hx'
      have HN := Lib.hid (Rep.cntL_succ wrR HX.out)
      replace hr : Reads w w.heap.size 1 A' l.b.length (bys (marks (m + 1) l.b.length)) := by simpa [marks_length] using hr
      replace hcell2 : w.cell? ⟨b, off + k * 2 + 1, none⟩ = some (.slice A' l.b.length c') := by simpa [marks_length] using hcell2
      replace hcell1 : w.cell? ⟨b, off + k * 2, none⟩ = some (.int .i64 (m : Int)) := hcell1
      have hmm : ((m : Int) != (m : Int)) = false := by simp
      clear hx'
      go_wp2_with fail
      refine (heldByteS_any A' c' (m + 1) l.b.length w hr (by omega) (by omega)).mono ?_
      rintro e w' ⟨rfl, rfl⟩
      have hneg : ¬ ((m : Int) + 1 + (l.b.length : Int) < 0) := by omega
      go_wp2_with fail
      go_round
      case rel => exact ⟨k + 1, m + 1 + l.b.length, by omega, by go_num, by go_num, Lib.hid (by rw [HN.out, hm.out]; show _ = k0 + (_ + (1 + l.b.length)); omega)⟩
      case measure => simp [intOf]; omega
    · have he : k = xs.length := by omega
      subst he
      have HT : Hid (xs.take xs.length = xs) := Lib.hid List.take_length
      go_wp2
      go_ret
      exact ⟨by rw [hm.out, HT.out]; rfl, rfl⟩

set_option maxHeartbeats 1000000 in
theorem heldDisk_any (cs : List Value) (k0 : Nat) (d : Disk) (w : World) (h : diskR.at_ w w.heap.size cs (markD k0 d)) (hs : Fits d) (hk0 : k0 ≤ 1048576) :
    Calls Try.prog 30 #[.agg cs.toArray, .int .i64 k0] w fun e w' => e = .returned (.int .i64 (k0 + cntD d : Nat)) ∧ Below w.heap.size w w' := by
  obtain ⟨A, c, A', c', rfl, _, _, h1, h2⟩ := disk_cells h
  replace h1 : Rep.RowsAt byR w w.heap.size A d.secs.length (Rep.mkL byR k0 d.secs) := by simpa [markD, Rep.mkL_length] using h1
  replace h2 : Rep.RowsAt wrR w w.heap.size A' d.cache.length (Rep.mkL wrR (k0 + Rep.cntL byR d.secs) d.cache) := by simpa [markD, Rep.mkL_length] using h2
  obtain ⟨s1, s2, s3, s4⟩ := hs
  have c1 := cnt_secs s1 s2
  have c2 := cnt_cache s3 s4
  have S2 := Lib.hid s2
  have S4 := Lib.hid s4
  clear s2 s4 h
  have e1 : (markD k0 d).secs.length = d.secs.length := Rep.mkL_length _ _ _
  have e2 : (markD k0 d).cache.length = d.cache.length := Rep.mkL_length _ _ _
  have e3 : (markD k0 d).fuse = d.fuse := rfl
  have e4 : (markD k0 d).down = d.down := rfl
  rw [e1, e2, e3, e4]
  clear e1 e2 e3 e4
  go_enter Try.func30, Try.ntmps30
  go_wp2_with fail
  refine (heldByteSS_any A c k0 d.secs _ ((h1.keep fun p hp => World.cell?_alloc_lt _ _ p hp).more (by simp)) s1 S2.out (by omega)).mono ?_
  rintro e1 w1 ⟨rfl, rfl⟩
  obtain ⟨m, hm, hmb⟩ : ∃ m : Nat, m = k0 + Rep.cntL byR d.secs ∧ m ≤ 1099512676352 := ⟨_, rfl, by omega⟩
  rw [← hm] at h2 ⊢
  have HM := Lib.hid hm
  clear hm
  have hneg : ¬ ((m : Int) < 0) := by omega
  go_wp2_with fail
  refine (heldWrS_any A' c' m d.cache _ ((h2.keep fun p hp => World.cell?_alloc_lt _ _ p hp).more (by simp)) s3 S4.out (by omega)).mono ?_
  rintro e2 w2 ⟨rfl, rfl⟩
  have hneg2 : ¬ ((m : Int) + (Rep.cntL wrR d.cache : Int) < 0) := by omega
  go_wp2_with fail
  go_ret
  exact ⟨by rw [HM.out]; exact congrArg (fun z : Nat => Ending.returned (.int .i64 (z : Int))) (by unfold cntD; omega), (Below.refl _ _).alloc (Nat.le_refl _) _⟩

end Go.Proofs.Ytjhfnfffpofagaa
