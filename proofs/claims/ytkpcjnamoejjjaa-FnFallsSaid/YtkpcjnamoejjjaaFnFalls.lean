/- The walk of FnFalls. -/
import Derived.Test.YtkpcjnamoejjjaaDrawWS
import Derived.Test.YtkpcjnamoejjjaaSameDisk
import Derived.Test.YtkpcjnamoejjjaaDiskFacts2
import Derived.Deep.RegionHeld3
import Derived.Deep.Cut
namespace Go.Proofs.Ytkpcjnamoejjjaa
open Go.RowKit Go.Maps
set_option linter.unusedVariables false

theorem rows_of {w : World} {B : Nat} {A A' : Option Addr} {c c' : Nat} {u v : Value} {d : Disk} (h : diskR.at_ w B [.slice A d.secs.length c, .slice A' d.cache.length c', u, v] d) : Rep.RowsAt byR w B A d.secs.length d.secs ∧ Rep.RowsAt wrR w B A' d.cache.length d.cache := by
  obtain ⟨A1, c1, A2, c2, he, _, _, h1, h2⟩ := disk_cells h
  injection he with he1 he
  injection he with he2 _
  injection he1 with he1 _ _
  injection he2 with he2 _ _
  subst he1 he2
  exact ⟨h1, h2⟩
theorem same_val (A B : Option Addr) (c c' M M' : Nat) (a b : List UInt8) (w : World) (h : Reads w M 1 A a.length (bys a)) (h' : Reads w M' 1 B b.length (bys b)) :
    Calls Try.prog 15 #[.slice A a.length c, .slice B b.length c'] w fun e w' => e = .returned (.bool (a == b)) ∧ ∃ n, w' = w.drewN n :=
  (same_any A B c c' M M' a b w h h').mono fun _ _ ⟨h1, h2⟩ => ⟨h1, 0, h2⟩

theorem fall_idem {ss : List (List UInt8)} (h : DiskGood (⟨ss, [], -1, false⟩ : Disk)) (k : Int) : fallDisk (⟨ss, [], -1, false⟩ : Disk) k = (⟨ss, [], -1, false⟩ : Disk) := by
  rw [fallDisk_go k h]
  congr 1
  exact flush_nil _ _ _ _

/-- What is known of the memory once x = FallDisk(d, k) and the second disk lie there. -/
def FW (w : World) (D X E : Nat) (d : Disk) (ss : List (List UInt8)) (q : Disk) (A1 B1 A2 B2 A3 B3 : Option Addr) (c1 e1 c2 e2 c3 e3 : Nat) (w' : World) : Prop :=
  (Below w.heap.size w w' ∧ D < w'.heap.size ∧ X < w'.heap.size ∧ E < w'.heap.size) ∧ diskR.at_ w' w'.heap.size [.slice A1 d.secs.length c1, .slice B1 d.cache.length e1, .int .i64 d.fuse, .bool d.down] d ∧
  diskR.at_ w' w'.heap.size [.slice A2 ss.length c2, .slice B2 0 e2, .int .i64 (-1), .bool false] (⟨ss, [], -1, false⟩ : Disk) ∧ diskR.at_ w' w'.heap.size [.slice A3 q.secs.length c3, .slice B3 q.cache.length e3, .int .i64 q.fuse, .bool q.down] q ∧
  Hid (w'.heap[D]? = some (.cells #[.slice A1 d.secs.length c1, .slice B1 d.cache.length e1, .int .i64 d.fuse, .bool d.down] 27 (0, 0))) ∧
  Hid (w'.heap[X]? = some (.cells #[.slice A2 ss.length c2, .slice B2 0 e2, .int .i64 (-1), .bool false] 27 (0, 0))) ∧
  Hid (w'.heap[E]? = some (.cells #[.slice A3 q.secs.length c3, .slice B3 q.cache.length e3, .int .i64 q.fuse, .bool q.down] 27 (0, 0)))
instance FW.keeps (w : World) (D X E : Nat) (d : Disk) (ss : List (List UInt8)) (q : Disk) (A1 B1 A2 B2 A3 B3 : Option Addr) (c1 e1 c2 e2 c3 e3 : Nat) : Keeps (FW w D X E d ss q A1 B1 A2 B2 A3 B3 c1 e1 c2 e2 c3 e3) := by
  unfold FW
  infer_instance
theorem FW.cd {w : World} {D X E : Nat} {d : Disk} {ss : List (List UInt8)} {q : Disk} {A1 B1 A2 B2 A3 B3 : Option Addr} {c1 e1 c2 e2 c3 e3 : Nat} {w' : World} (h : FW w D X E d ss q A1 B1 A2 B2 A3 B3 c1 e1 c2 e2 c3 e3 w') : w'.cell? ⟨D, 0, none⟩ = some (.slice A1 d.secs.length c1) ∧ w'.cell? ⟨D, 1, none⟩ = some (.slice B1 d.cache.length e1) ∧ w'.cell? ⟨D, 2, none⟩ = some (.int .i64 d.fuse) ∧ w'.cell? ⟨D, 3, none⟩ = some (.bool d.down) := by
  obtain ⟨_, _, _, _, h1, h2, h3⟩ := h
  exact ⟨var_cell h1.out 0, var_cell h1.out 1, var_cell h1.out 2, var_cell h1.out 3⟩
theorem FW.cx {w : World} {D X E : Nat} {d : Disk} {ss : List (List UInt8)} {q : Disk} {A1 B1 A2 B2 A3 B3 : Option Addr} {c1 e1 c2 e2 c3 e3 : Nat} {w' : World} (h : FW w D X E d ss q A1 B1 A2 B2 A3 B3 c1 e1 c2 e2 c3 e3 w') : w'.cell? ⟨X, 0, none⟩ = some (.slice A2 ss.length c2) ∧ w'.cell? ⟨X, 1, none⟩ = some (.slice B2 0 e2) ∧ w'.cell? ⟨X, 2, none⟩ = some (.int .i64 (-1)) ∧ w'.cell? ⟨X, 3, none⟩ = some (.bool false) := by
  obtain ⟨_, _, _, _, h1, h2, h3⟩ := h
  exact ⟨var_cell h2.out 0, var_cell h2.out 1, var_cell h2.out 2, var_cell h2.out 3⟩
theorem FW.ce {w : World} {D X E : Nat} {d : Disk} {ss : List (List UInt8)} {q : Disk} {A1 B1 A2 B2 A3 B3 : Option Addr} {c1 e1 c2 e2 c3 e3 : Nat} {w' : World} (h : FW w D X E d ss q A1 B1 A2 B2 A3 B3 c1 e1 c2 e2 c3 e3 w') : w'.cell? ⟨E, 0, none⟩ = some (.slice A3 q.secs.length c3) ∧ w'.cell? ⟨E, 1, none⟩ = some (.slice B3 q.cache.length e3) ∧ w'.cell? ⟨E, 2, none⟩ = some (.int .i64 q.fuse) ∧ w'.cell? ⟨E, 3, none⟩ = some (.bool q.down) := by
  obtain ⟨_, _, _, _, h1, h2, h3⟩ := h
  exact ⟨var_cell h3.out 0, var_cell h3.out 1, var_cell h3.out 2, var_cell h3.out 3⟩

/-- Is the sector's content s one of those that it may have: the old one, t, or one of the first k cached ones? -/
def okTo (cache : List Wr) (i : Int) (s t : List UInt8) : Nat → Bool
  | 0 => s == t
  | k + 1 => okTo cache i s t k || (match cache[k]? with | some y => y.n == i && s == y.b | none => false)
theorem okTo_mono {cache : List Wr} {i : Int} {s t : List UInt8} {j : Nat} : ∀ k, j ≤ k → okTo cache i s t j = true → okTo cache i s t k = true := by
  intro k
  induction k with
  | zero => intro h h1; obtain rfl : j = 0 := by omega
            exact h1
  | succ k ih =>
    intro h h1
    rcases Nat.lt_or_ge k j with h2 | h2
    · obtain rfl : j = k + 1 := by omega
      exact h1
    · unfold okTo
      rw [ih h2 h1]
      rfl
theorem okTo_hit {cache : List Wr} {i : Int} {s t : List UInt8} {j : Nat} {y : Wr} (hy : cache[j]? = some y) (hn : y.n = i) (hs : s = y.b) : okTo cache i s t cache.length = true := by
  have hj : j < cache.length := (List.getElem?_eq_some_iff.1 hy).1
  refine okTo_mono (j := j + 1) cache.length hj ?_
  simp [okTo, hy, hn, hs]
theorem okTo_all {d : Disk} {kb : Int} {i : Nat} {s t : List UInt8} (hs : s = secAt d (idxC (keyB d.cache kb) d.cache.length) i) (ht : d.secs[i]? = some t) : okTo d.cache (i : Int) s t d.cache.length = true := by
  rcases secAt_from (idx_okB d kb _ (Nat.le_refl _)) i with h | ⟨y, hm, hn, hb⟩
  · refine okTo_mono (j := 0) _ (Nat.zero_le _) ?_
    have : s = t := by rw [hs, h, List.getD_eq_getElem?_getD, ht]; rfl
    simp [okTo, this]
  · obtain ⟨j, hj, hy⟩ := List.mem_iff_getElem.1 hm
    exact okTo_hit (y := y) (by rw [List.getElem?_eq_getElem hj, hy]) hn (by rw [hs, hb])

set_option maxRecDepth 100000 in
set_option maxHeartbeats 4000000 in
theorem walk_FnFalls (a0 : Option Addr) (len0 cap0 : Nat) (z0 : List Int) (w : World) (w0 : IsRow .u8 w a0 len0 cap0 z0) :
    Calls Try.prog 4 #[.slice a0 len0 cap0] w fun e w' => e = .returned (.bool true) ∧ Below w.heap.size w w' := by
  obtain ⟨code, rfl, _, hr⟩ := w0.reads
  clear w0
  by_cases hbig : (1048576 : Int) < code.length
  · go_enter Try.func4, Try.ntmps4
    go_wp2
    go_ret
    exact ⟨rfl, Below.refl _ _⟩
  · have hn : code.length ≤ 1048576 := by omega
    go_enter Try.func4, Try.ntmps4
    go_wp2_with (first | (go_at_call 8; go_in) | fail)
    refine (drawDisk_any a0 cap0 code w hr hn).mono ?_
    rintro e W1 ⟨d, cs, rfl, hgood, Td, hb⟩
    obtain ⟨A1, c1, B1, e1, rfl⟩ := disk_at_shape Td
    have hf := good_fits hgood
    have hb30 := hgood.1.2.2
    have hb40 := hgood.1.2.1
    have S : All (fun w' => Below w.heap.size w w' ∧ Reads w' w'.heap.size 1 a0 code.length (bys code) ∧ diskR.at_ w' w'.heap.size [.slice A1 d.secs.length c1, .slice B1 d.cache.length e1, .int .i64 d.fuse, .bool d.down] d) W1 := ⟨hb, (hr.below hb).more hb.size, Td⟩
    clear hb Td hr
    go_wp2_with fail
    have S2 := S.alloc (.cells #[.slice A1 d.secs.length c1, .slice B1 d.cache.length e1, .int .i64 d.fuse, .bool d.down] 27)
    have hv := heap_alloc_new W1 (.cells #[.slice A1 d.secs.length c1, .slice B1 d.cache.length e1, .int .i64 d.fuse, .bool d.down] 27)
    have hs : W1.heap.size + 1 ≤ (W1.alloc (.cells #[.slice A1 d.secs.length c1, .slice B1 d.cache.length e1, .int .i64 d.fuse, .bool d.down] 27)).heap.size := by simp
    generalize hgW : W1.alloc (.cells #[.slice A1 d.secs.length c1, .slice B1 d.cache.length e1, .int .i64 d.fuse, .bool d.down] 27) = W2 at S2 hv hs ⊢
    clear hgW
    have hD : W1.heap.size < W2.heap.size := by omega
    clear hs S
    generalize W1.heap.size = D at hv hD ⊢
    have S : All (fun w' => (Below w.heap.size w w' ∧ Reads w' w'.heap.size 1 a0 code.length (bys code) ∧ diskR.at_ w' w'.heap.size [.slice A1 d.secs.length c1, .slice B1 d.cache.length e1, .int .i64 d.fuse, .bool d.down] d) ∧ D < w'.heap.size ∧ Hid (w'.heap[D]? = some (.cells #[.slice A1 d.secs.length c1, .slice B1 d.cache.length e1, .int .i64 d.fuse, .bool d.down] 27 (0, 0)))) W2 := ⟨S2.out, hD, Lib.hid hv⟩
    clear S2 hv hD
    refine (at_any a0 cap0 _ code 2 W2 S.out.1.2.1 (by omega) hn).mono ?_
    rintro e W3 ⟨⟨k, rfl, hk⟩, rfl⟩
    have p0 : W3.cell? ⟨D, 0, none⟩ = some (.slice A1 d.secs.length c1) := var_cell S.out.2.2.out 0
    have p1 : W3.cell? ⟨D, 1, none⟩ = some (.slice B1 d.cache.length e1) := var_cell S.out.2.2.out 1
    have p2 : W3.cell? ⟨D, 2, none⟩ = some (.int .i64 d.fuse) := var_cell S.out.2.2.out 2
    have p3 : W3.cell? ⟨D, 3, none⟩ = some (.bool d.down) := var_cell S.out.2.2.out 3
    have z1 := S.out.2.1
    go_wp2_with fail
    clear p0 p1 p2 p3 z1
    refine (fallDisk_rep _ d (k : Int) W3 S.out.1.2.2 hf (wf_i64 (by omega) (by omega))).mono ?_
    rintro e W4 ⟨cs, fp, rfl, Ox, hb⟩
    have Tx := Rep.reads diskR Ox
    have hxg := good_fallDisk hgood (k : Int)
    rw [fallDisk_go _ hgood] at Tx hxg
    obtain ⟨ss, hss⟩ : ∃ ss : List (List UInt8), flushSecs d (idxC (keyB d.cache (keepOf (k : Int))) d.cache.length) = ss := ⟨_, rfl⟩
    rw [hss] at Tx hxg
    have hsl : ss.length = d.secs.length := by rw [← hss, flushSecs_length]
    have hsec : ∀ (i : Nat) (s t : List UInt8), ss[i]? = some s → d.secs[i]? = some t → okTo d.cache (i : Int) s t d.cache.length = true := by
      intro i s t hs ht
      refine okTo_all (kb := keepOf (k : Int)) ?_ ht
      have hi : i < d.secs.length := (List.getElem?_eq_some_iff.1 ht).1
      have := flush_get (d := d) (idx := idxC (keyB d.cache (keepOf (k : Int))) d.cache.length) hi
      rw [hss, List.getD_eq_getElem?_getD, hs] at this
      exact this
    have HSEC := Lib.hid hsec
    have HSL := Lib.hid hsl
    have hfx := good_fits hxg
    have HXG := Lib.hid hxg
    clear hss hsec hsl Ox hxg
    obtain ⟨A2, c2, B2, e2, hcs⟩ := disk_at_shape Tx
    replace hcs : cs = [.slice A2 ss.length c2, .slice B2 0 e2, .int .i64 (-1), .bool false] := hcs
    subst hcs
    replace S := S.later hb
    clear hb
    go_wp2_with fail
    have S2 := S.alloc (.cells #[.slice A2 ss.length c2, .slice B2 0 e2, .int .i64 (-1), .bool false] 27)
    have hv := heap_alloc_new W4 (.cells #[.slice A2 ss.length c2, .slice B2 0 e2, .int .i64 (-1), .bool false] 27)
    have hs : W4.heap.size + 1 ≤ (W4.alloc (.cells #[.slice A2 ss.length c2, .slice B2 0 e2, .int .i64 (-1), .bool false] 27)).heap.size := by simp
    generalize hgW : W4.alloc (.cells #[.slice A2 ss.length c2, .slice B2 0 e2, .int .i64 (-1), .bool false] 27) = W5 at S2 hv hs ⊢
    have Tx5 := Rep.more diskR (Rep.at_only Tx (Rep.Only.of_grown (World.grownBy_alloc W4 (.cells #[.slice A2 ss.length c2, .slice B2 0 e2, .int .i64 (-1), .bool false] 27) none) (fun a ha => by cases ha) : Rep.Only W4 (W4.alloc (.cells #[.slice A2 ss.length c2, .slice B2 0 e2, .int .i64 (-1), .bool false] 27)) []) (Nat.le_refl _) (fun a ha => by cases ha)) (show W4.heap.size ≤ (W4.alloc (.cells #[.slice A2 ss.length c2, .slice B2 0 e2, .int .i64 (-1), .bool false] 27)).heap.size by simp)
    rw [hgW] at Tx5
    clear hgW
    have hX : W4.heap.size < W5.heap.size := by omega
    clear hs S Tx
    generalize W4.heap.size = X at hv hX ⊢
    have S : All (fun w' => ((Below w.heap.size w w' ∧ Reads w' w'.heap.size 1 a0 code.length (bys code) ∧ diskR.at_ w' w'.heap.size [.slice A1 d.secs.length c1, .slice B1 d.cache.length e1, .int .i64 d.fuse, .bool d.down] d) ∧ D < w'.heap.size ∧ Hid (w'.heap[D]? = some (.cells #[.slice A1 d.secs.length c1, .slice B1 d.cache.length e1, .int .i64 d.fuse, .bool d.down] 27 (0, 0)))) ∧
        X < w'.heap.size ∧ diskR.at_ w' w'.heap.size [.slice A2 ss.length c2, .slice B2 0 e2, .int .i64 (-1), .bool false] (⟨ss, [], -1, false⟩ : Disk) ∧ Hid (w'.heap[X]? = some (.cells #[.slice A2 ss.length c2, .slice B2 0 e2, .int .i64 (-1), .bool false] 27 (0, 0)))) W5 := ⟨S2.out, hX, Tx5, Lib.hid hv⟩
    clear S2 hv hX Tx5
    refine (drawFall_any a0 cap0 code W5 S.out.1.1.2.1 hn).mono ?_
    rintro e W6 ⟨q, cs, m, rfl, hany, Tq, hm, hb⟩
    obtain ⟨A3, c3, B3, e3, rfl⟩ := disk_at_shape Tq
    replace S := S.later hb
    clear hb
    have hfq := hany.1
    have hwm := wf_i64 (n := m) (by omega) (by omega)
    clear hany hm
    go_wp2_with fail
    have S2 := S.alloc (.cells #[.slice A3 q.secs.length c3, .slice B3 q.cache.length e3, .int .i64 q.fuse, .bool q.down] 27)
    have hv := heap_alloc_new W6 (.cells #[.slice A3 q.secs.length c3, .slice B3 q.cache.length e3, .int .i64 q.fuse, .bool q.down] 27)
    have hs : W6.heap.size + 1 ≤ (W6.alloc (.cells #[.slice A3 q.secs.length c3, .slice B3 q.cache.length e3, .int .i64 q.fuse, .bool q.down] 27)).heap.size := by simp
    generalize hgW : W6.alloc (.cells #[.slice A3 q.secs.length c3, .slice B3 q.cache.length e3, .int .i64 q.fuse, .bool q.down] 27) = W7 at S2 hv hs ⊢
    have Tq7 := Rep.more diskR (Rep.at_only Tq (Rep.Only.of_grown (World.grownBy_alloc W6 (.cells #[.slice A3 q.secs.length c3, .slice B3 q.cache.length e3, .int .i64 q.fuse, .bool q.down] 27) none) (fun a ha => by cases ha) : Rep.Only W6 (W6.alloc (.cells #[.slice A3 q.secs.length c3, .slice B3 q.cache.length e3, .int .i64 q.fuse, .bool q.down] 27)) []) (Nat.le_refl _) (fun a ha => by cases ha)) (show W6.heap.size ≤ (W6.alloc (.cells #[.slice A3 q.secs.length c3, .slice B3 q.cache.length e3, .int .i64 q.fuse, .bool q.down] 27)).heap.size by simp)
    rw [hgW] at Tq7
    clear hgW
    have hE : W6.heap.size < W7.heap.size := by omega
    clear hs S Tq
    generalize W6.heap.size = E at hv hE ⊢
    have S : All (FW w D X E d ss q A1 B1 A2 B2 A3 B3 c1 e1 c2 e2 c3 e3) W7 := ⟨⟨S2.out.1.1.1, S2.out.1.2.1, S2.out.2.1, hE⟩, S2.out.1.1.2.2, S2.out.2.2.1, Tq7, S2.out.1.2.2, S2.out.2.2.2, Lib.hid hv⟩
    clear S2 hv hE Tq7
    have hfm := fits_fallDisk hfq m
    obtain ⟨v, hv⟩ : ∃ v, fallDisk q m = v := ⟨_, rfl⟩
    rw [hv] at hfm
    have HV := Lib.hid hv
    clear hv
    have SD := S.drew
    go_region_held3 (fun w' => (w'.cell? ⟨E, 0, none⟩ = some (.slice A3 q.secs.length c3) ∧ w'.cell? ⟨E, 1, none⟩ = some (.slice B3 q.cache.length e3) ∧ w'.cell? ⟨E, 2, none⟩ = some (.int .i64 q.fuse) ∧ w'.cell? ⟨E, 3, none⟩ = some (.bool q.down)) ∧ w'.cell? ⟨X, 0, none⟩ = some (.slice A2 ss.length c2) ∧ w'.cell? ⟨X, 1, none⟩ = some (.slice B2 0 e2) ∧ w'.cell? ⟨X, 2, none⟩ = some (.int .i64 (-1)) ∧ w'.cell? ⟨X, 3, none⟩ = some (.bool false)) ((have hq := And.intro S.out.ce S.out.cx; exact hq)) (first
      | (go_at_call 17
         refine (fallDisk_rep _ q m _ SD.out.2.2.2.1 hfq hwm).mono ?_
         rintro e W8 ⟨cs, fp8, rfl, O8, hb⟩
         rw [HV.out] at O8
         have T8 := Rep.reads diskR O8
         obtain ⟨A4, c4, B4, e4, rfl⟩ := disk_at_shape T8
         replace S := SD.later hb
         clear SD hb O8)
      | (go_at_call 22
         refine (fallDiskS_rep _ q m _ S.out.2.2.2.1 hfq hwm).mono ?_
         rintro e W9 ⟨cs, rfl, T9, hb⟩
         rw [HV.out] at T9
         obtain ⟨A5, c5, B5, e5, rfl⟩ := disk_at_shape T9
         replace T8 := Keeps.keeps (F := fun w' => diskR.at_ w' w'.heap.size [.slice A4 v.secs.length c4, .slice B4 v.cache.length e4, .int .i64 v.fuse, .bool v.down] v) hb T8
         replace S := S.later hb
         clear hb)
      | (go_at_call 13
         refine (sameDisk_same _ _ v _ T8 T9 hfm).mono ?_
         rintro e W10 ⟨rfl, hb⟩
         replace S := S.later hb
         clear hb T8 T9))
    go_wp2_with fail
    go_loopw [8] (fun i wr => ∃ k : Nat, k ≤ d.secs.length ∧ i = .int .i64 k ∧ All (FW w D X E d ss q A1 B1 A2 B2 A3 B3 c1 e1 c2 e2 c3 e3) wr) (fun i _ => d.secs.length - (intOf i).toNat)
    case atStart => exact ⟨0, by omega, rfl, S⟩
    case round =>
      clear S
      obtain ⟨k, hk, rfl, S⟩ := hrel
      obtain ⟨p0, p1, p2, p3⟩ := S.out.cd
      obtain ⟨r0, r1, r2, r3⟩ := S.out.cx
      obtain ⟨z0, z1, z2, z3⟩ := S.out.1
      by_cases hlt : k < d.secs.length
      · have hrx := (rows_of (d := (⟨ss, [], -1, false⟩ : Disk)) S.out.2.2.1).1
        have hrd := (rows_of S.out.2.1).1
        have hks : k < ss.length := by have := HSL.out; omega
        obtain ⟨b, off, A5, c5, s, rfl, hbl, hs, hcell, hlc, hr1⟩ := secs_elem hrx hks
        obtain ⟨b', off', A6, c6, t, rfl, hbl', ht, hcell', hlc', hr2⟩ := secs_elem hrd hlt
        have HOK := Lib.hid (HSEC.out k s t hs ht)
        have i1 : (0 : Int) ≤ (k : Int) := by omega
        have i2 : (k : Int) < (d.secs.length : Int) := by omega
        have i3 : (k : Int) < (ss.length : Int) := by omega
        have SQ : All (fun w' => FW w D X E d ss q (some ⟨b', off', none⟩) B1 (some ⟨b, off, none⟩) B2 A3 B3 c1 e1 c2 e2 c3 e3 w' ∧ w'.cell? ⟨b, off + k, none⟩ = some (.slice A5 s.length c5) ∧ Reads w' w'.heap.size 1 A5 s.length (bys s)) wr := ⟨S.out, hcell, hr1⟩
        clear hs ht hrx hrd
        go_wp2_with fail
        go_quiet ((go_at_call 15; exact Calls.quiet_of (same_val _ _ _ _ _ _ s t _ hr1 hr2)))
        replace SQ := SQ.later (Later.drewN _ nq)
        generalize wr.drewN nq = wq at SQ ⊢
        clear p0 p1 p2 p3 r0 r1 r2 r3 z0 z1 z2 z3 hcell hcell' hr1 hr2 hbl hbl' hlc hlc' S
        obtain ⟨wo, rfl⟩ : ∃ wo : World, wo = wr := ⟨_, rfl⟩
        go_wp2_with fail
        go_loopw [9, 10] (fun u j wr => ∃ m : Nat, m ≤ d.cache.length ∧ j = .int .i64 m ∧ u = .bool (okTo d.cache (k : Int) s t m) ∧ All (fun w' => FW w D X E d ss q (some ⟨b', off', none⟩) B1 (some ⟨b, off, none⟩) B2 A3 B3 c1 e1 c2 e2 c3 e3 w' ∧ w'.cell? ⟨b, off + k, none⟩ = some (.slice A5 s.length c5) ∧ Reads w' w'.heap.size 1 A5 s.length (bys s)) wr) (fun _ j _ => d.cache.length - (intOf j).toNat)
        case atStart => exact ⟨0, by omega, rfl, rfl, SQ⟩
        case round =>
          clear SQ
          obtain ⟨m, hm, rfl, rfl, SQ⟩ := hrel
          obtain ⟨p0, p1, p2, p3⟩ := SQ.out.1.cd
          obtain ⟨r0, r1, r2, r3⟩ := SQ.out.1.cx
          obtain ⟨z0, z1, z2, z3⟩ := SQ.out.1.1
          have hcell := SQ.out.2.1
          have hr1 := SQ.out.2.2
          by_cases hlm : m < d.cache.length
          · have hrc := (rows_of SQ.out.1.2.1).2
            obtain ⟨b3, off3, A7, c7, y, rfl, hbl, hy, hcell1, hcell2, hlc, hr3⟩ := wr_elem hrc hlm
            have i4 : (0 : Int) ≤ (m : Int) := by omega
            have i5 : (m : Int) < (d.cache.length : Int) := by omega
            have HY := Lib.hid (show okTo d.cache (k : Int) s t (m + 1) = (okTo d.cache (k : Int) s t m || (y.n == (k : Int) && s == y.b)) by simp [okTo, hy])
            obtain ⟨o, ho⟩ : ∃ o, okTo d.cache (k : Int) s t m = o := ⟨_, rfl⟩
            rw [ho]
            clear hy hrc
            cases o
            · by_cases hyn : y.n = (k : Int)
              · have hyb : (y.n == (k : Int)) = true := by simpa using hyn
                have HB := Lib.hid (show okTo d.cache (k : Int) s t (m + 1) = (s == y.b) by rw [HY.out, ho, hyb]; simp)
                clear ho hyn
                go_wp2_with fail
                go_quiet ((go_at_call 15; exact Calls.quiet_of (same_val _ _ _ _ _ _ s y.b _ hr1 hr3)))
                replace SQ := SQ.later (Later.drewN _ nq)
                go_wp2_with fail
                go_roundw
                case rel => exact ⟨m + 1, by omega, by go_num, by rw [HB.out], SQ⟩
                case measure => simp [intOf]; omega
              · have hyb : (y.n == (k : Int)) = false := by simpa using hyn
                have HB := Lib.hid (show okTo d.cache (k : Int) s t (m + 1) = false by rw [HY.out, ho, hyb]; simp)
                clear ho hyn
                go_wp2_with fail
                go_quiet (fail)
                replace SQ := SQ.later (Later.drewN _ nq)
                go_wp2_with fail
                go_roundw
                case rel => exact ⟨m + 1, by omega, by go_num, by rw [HB.out], SQ⟩
                case measure => simp [intOf]; omega
            · have HB := Lib.hid (show okTo d.cache (k : Int) s t (m + 1) = true by rw [HY.out, ho]; simp)
              clear ho
              go_wp2_with fail
              go_quiet (fail)
              replace SQ := SQ.later (Later.drewN _ nq)
              go_wp2_with fail
              go_roundw
              case rel => exact ⟨m + 1, by omega, by go_num, by rw [HB.out], SQ⟩
              case measure => simp [intOf]; omega
          · have he : m = d.cache.length := by omega
            subst he
            rw [HOK.out]
            clear r0 r1 r2 r3 hcell hr1
            go_wp2_with fail
            go_roundw
            case rel => exact ⟨k + 1, by omega, by go_num, ⟨SQ.out.1⟩⟩
            case measure => simp [intOf]; omega
      · have he : k = d.secs.length := by omega
        subst he
        have hid := fall_idem HXG.out 255
        have HI := Lib.hid hid
        clear hid
        go_wp2_with fail
        clear p0 p1 p2 p3 r0 r1 r2 r3 z0 z1 z2 z3
        have SD := S.drew
        go_region_held3 (fun w' => w'.cell? ⟨X, 0, none⟩ = some (.slice A2 ss.length c2) ∧ w'.cell? ⟨X, 1, none⟩ = some (.slice B2 0 e2) ∧ w'.cell? ⟨X, 2, none⟩ = some (.int .i64 (-1)) ∧ w'.cell? ⟨X, 3, none⟩ = some (.bool false)) ((have hq := S.out.cx; exact hq)) (first
          | (go_at_call 17
             refine (fallDisk_rep [.slice A2 ss.length c2, .slice B2 0 e2, .int .i64 (-1), .bool false] (⟨ss, [], -1, false⟩ : Disk) 255 _ SD.out.2.2.1 hfx (by decide)).mono ?_
             rw [HI.out]
             rintro e W11 ⟨cs, fp8, rfl, O8, hb⟩
             have T8 := Rep.reads diskR O8
             obtain ⟨A8, c8, B8, e8, hcs⟩ := disk_at_shape T8
             replace hcs : cs = [.slice A8 ss.length c8, .slice B8 0 e8, .int .i64 (-1), .bool false] := hcs
             subst hcs
             replace S := SD.later hb
             clear SD hb O8)
          | (go_at_call 13
             refine (sameDisk_same [.slice A8 ss.length c8, .slice B8 0 e8, .int .i64 (-1), .bool false] [.slice A2 ss.length c2, .slice B2 0 e2, .int .i64 (-1), .bool false] (⟨ss, [], -1, false⟩ : Disk) _ T8 S.out.2.2.1 hfx).mono ?_
             rintro e W12 ⟨rfl, hb⟩
             replace S := S.later hb
             clear hb T8)
          | (go_at_call 11
             refine (diskOk_rep [.slice A2 ss.length c2, .slice B2 0 e2, .int .i64 (-1), .bool false] (⟨ss, [], -1, false⟩ : Disk) _ S.out.2.2.1 hfx).mono ?_
             rw [diskOk_yes HXG.out]
             rintro e W13 ⟨rfl, hb⟩
             replace S := S.later hb
             clear hb))
        go_wp2_with fail
        go_ret
        exact ⟨rfl, S.out.1.1⟩

end Go.Proofs.Ytkpcjnamoejjjaa
