/- The walk of FnDisks. -/
import Derived.Test.YtkpcjnamoejjjaaDrawWS
import Derived.Test.YtkpcjnamoejjjaaSameDisk
import Derived.Test.YtkpcjnamoejjjaaDiskFacts2
import Derived.Deep.RegionHeld3
import Derived.Deep.Cut
namespace Go.Proofs.Ytkpcjnamoejjjaa
open Go.RowKit Go.Maps
set_option linter.unusedVariables false

theorem at_cells {w : World} {D : Nat} {a b c d : Value} (h : Hid (w.heap[D]? = some (.cells #[a, b, c, d] 27 (0, 0)))) : w.cell? ⟨D, 0, none⟩ = some a ∧ w.cell? ⟨D, 1, none⟩ = some b ∧ w.cell? ⟨D, 2, none⟩ = some c ∧ w.cell? ⟨D, 3, none⟩ = some d :=
  ⟨var_cell h.out 0, var_cell h.out 1, var_cell h.out 2, var_cell h.out 3⟩

theorem reads_of {w : World} {B : Nat} {A : Option Addr} {c : Nat} {l : List UInt8} (h : byR.at_ w B [.slice A l.length c] l) : Reads w B 1 A l.length (bys l) := by
  obtain ⟨A', c', he, _, hr⟩ := h
  injection he with he _
  injection he with he _ _
  subst he
  exact hr

/-- What is known of the memory once x = WriteSec(d, n, b) lies there. -/
def DW (w : World) (D X : Nat) (d x : Disk) (A A1 B1 A2 B2 : Option Addr) (c c1 e1 c2 e2 : Nat) (l : List UInt8) (w' : World) : Prop :=
  (Below w.heap.size w w' ∧ D < w'.heap.size ∧ X < w'.heap.size) ∧ diskR.at_ w' w'.heap.size [.slice A1 d.secs.length c1, .slice B1 d.cache.length e1, .int .i64 d.fuse, .bool d.down] d ∧ byR.at_ w' w'.heap.size [.slice A l.length c] l ∧
  diskR.at_ w' w'.heap.size [.slice A2 x.secs.length c2, .slice B2 x.cache.length e2, .int .i64 x.fuse, .bool x.down] x ∧
  Hid (w'.heap[D]? = some (.cells #[.slice A1 d.secs.length c1, .slice B1 d.cache.length e1, .int .i64 d.fuse, .bool d.down] 27 (0, 0))) ∧
  Hid (w'.heap[X]? = some (.cells #[.slice A2 x.secs.length c2, .slice B2 x.cache.length e2, .int .i64 x.fuse, .bool x.down] 27 (0, 0)))
instance DW.keeps (w : World) (D X : Nat) (d x : Disk) (A A1 B1 A2 B2 : Option Addr) (c c1 e1 c2 e2 : Nat) (l : List UInt8) : Keeps (DW w D X d x A A1 B1 A2 B2 c c1 e1 c2 e2 l) := by
  unfold DW
  infer_instance
theorem DW.cells {w w' : World} {D X : Nat} {d x : Disk} {A A1 B1 A2 B2 : Option Addr} {c c1 e1 c2 e2 : Nat} {l : List UInt8} (h : DW w D X d x A A1 B1 A2 B2 c c1 e1 c2 e2 l w') :
    w'.cell? ⟨D, 0, none⟩ = some (.slice A1 d.secs.length c1) ∧ w'.cell? ⟨D, 1, none⟩ = some (.slice B1 d.cache.length e1) ∧ w'.cell? ⟨D, 2, none⟩ = some (.int .i64 d.fuse) ∧ w'.cell? ⟨D, 3, none⟩ = some (.bool d.down) ∧
    w'.cell? ⟨X, 0, none⟩ = some (.slice A2 x.secs.length c2) ∧ w'.cell? ⟨X, 1, none⟩ = some (.slice B2 x.cache.length e2) ∧ w'.cell? ⟨X, 2, none⟩ = some (.int .i64 x.fuse) ∧ w'.cell? ⟨X, 3, none⟩ = some (.bool x.down) := by
  obtain ⟨_, _, _, _, h1, h2⟩ := h
  exact ⟨var_cell h1.out 0, var_cell h1.out 1, var_cell h1.out 2, var_cell h1.out 3, var_cell h2.out 0, var_cell h2.out 1, var_cell h2.out 2, var_cell h2.out 3⟩

set_option maxRecDepth 100000 in
set_option maxHeartbeats 4000000 in
theorem walk_FnDisks (a0 : Option Addr) (len0 cap0 : Nat) (z0 : List Int) (w : World) (w0 : IsRow .u8 w a0 len0 cap0 z0) :
    Calls Try.prog 3 #[.slice a0 len0 cap0] w fun e w' => e = .returned (.bool true) ∧ Below w.heap.size w w' := by
  obtain ⟨code, rfl, _, hr⟩ := w0.reads
  clear w0
  by_cases hbig : (1048576 : Int) < code.length
  · go_enter Try.func3, Try.ntmps3
    go_wp2
    go_ret
    exact ⟨rfl, Below.refl _ _⟩
  · have hn : code.length ≤ 1048576 := by omega
    go_enter Try.func3, Try.ntmps3
    go_wp2_with (first | (go_at_call 8; go_in) | fail)
    refine (drawWS_any a0 cap0 code w hr hn).mono ?_
    rintro e W1 ⟨d, cs, n, A, c, l, rfl, hany, Td, hn5, Tb, hl, hb⟩
    clear hr
    obtain ⟨A1, c1, B1, e1, rfl⟩ := disk_at_shape Td
    obtain ⟨n1, n2⟩ := hn5
    have hf := hany.1
    have S : All (fun w' => Below w.heap.size w w' ∧ diskR.at_ w' w'.heap.size [.slice A1 d.secs.length c1, .slice B1 d.cache.length e1, .int .i64 d.fuse, .bool d.down] d ∧ byR.at_ w' w'.heap.size [.slice A l.length c] l) W1 := ⟨hb, Td, Tb⟩
    clear hb Td Tb
    go_wp2_with fail
    have S2 := S.alloc (.cells #[.slice A1 d.secs.length c1, .slice B1 d.cache.length e1, .int .i64 d.fuse, .bool d.down] 27)
    have hv := heap_alloc_new W1 (.cells #[.slice A1 d.secs.length c1, .slice B1 d.cache.length e1, .int .i64 d.fuse, .bool d.down] 27)
    have hs : W1.heap.size + 1 ≤ (W1.alloc (.cells #[.slice A1 d.secs.length c1, .slice B1 d.cache.length e1, .int .i64 d.fuse, .bool d.down] 27)).heap.size := by simp
    generalize hgW : W1.alloc (.cells #[.slice A1 d.secs.length c1, .slice B1 d.cache.length e1, .int .i64 d.fuse, .bool d.down] 27) = W2 at S2 hv hs ⊢
    clear hgW S
    have hD : W1.heap.size < W2.heap.size := by omega
    clear hs
    generalize W1.heap.size = D at hv hD ⊢
    have S : All (fun w' => (Below w.heap.size w w' ∧ diskR.at_ w' w'.heap.size [.slice A1 d.secs.length c1, .slice B1 d.cache.length e1, .int .i64 d.fuse, .bool d.down] d ∧ byR.at_ w' w'.heap.size [.slice A l.length c] l) ∧ Hid (w'.heap[D]? = some (.cells #[.slice A1 d.secs.length c1, .slice B1 d.cache.length e1, .int .i64 d.fuse, .bool d.down] 27 (0, 0)))) W2 := ⟨S2.out, Lib.hid hv⟩
    clear S2 hv
    have hwn := wf_i64 (n := n) (by omega) (by omega)
    refine (writeSec_rep _ d n [.slice A l.length c] l W2 S.out.1.2.1 S.out.1.2.2 hf hwn (by unfold FitsB; omega)).mono ?_
    rintro e W3 ⟨cs, fp, rfl, Ox, hb⟩
    obtain ⟨A2, c2, B2, e2, rfl⟩ := disk_own_shape Ox
    have Tx := Rep.reads diskR Ox
    have hfx := fits_writeSec hf n (b := l) (by omega)
    have S3 := S.later hb
    have hD3 : D < W3.heap.size := Nat.lt_of_lt_of_le hD hb.size
    obtain ⟨x, hx⟩ : ∃ x, writeSec d n l = x := ⟨_, rfl⟩
    rw [hx] at Tx hfx
    simp only [hx]
    have HX := Lib.hid hx
    clear hb Ox S hx hD
    go_wp2_with fail
    have S4 := S3.alloc (.cells #[.slice A2 x.secs.length c2, .slice B2 x.cache.length e2, .int .i64 x.fuse, .bool x.down] 27)
    have Tx4 := Rep.more diskR (Rep.at_alloc Tx (Nat.le_refl _) (.cells #[.slice A2 x.secs.length c2, .slice B2 x.cache.length e2, .int .i64 x.fuse, .bool x.down] 27)) (show W3.heap.size ≤ (W3.alloc (.cells #[.slice A2 x.secs.length c2, .slice B2 x.cache.length e2, .int .i64 x.fuse, .bool x.down] 27)).heap.size by simp)
    have hv := heap_alloc_new W3 (.cells #[.slice A2 x.secs.length c2, .slice B2 x.cache.length e2, .int .i64 x.fuse, .bool x.down] 27)
    have hs : W3.heap.size + 1 ≤ (W3.alloc (.cells #[.slice A2 x.secs.length c2, .slice B2 x.cache.length e2, .int .i64 x.fuse, .bool x.down] 27)).heap.size := by simp
    generalize hgW : W3.alloc (.cells #[.slice A2 x.secs.length c2, .slice B2 x.cache.length e2, .int .i64 x.fuse, .bool x.down] 27) = W4 at S4 Tx4 hv hs ⊢
    clear hgW S3 Tx
    have hX : W3.heap.size < W4.heap.size := by omega
    have hDX : D < W3.heap.size := hD3
    clear hs hD3
    generalize W3.heap.size = X at hv hX hDX ⊢
    have S : All (DW w D X d x A A1 B1 A2 B2 c c1 e1 c2 e2 l) W4 := ⟨⟨S4.out.1.1, by omega, hX⟩, S4.out.1.2.1, S4.out.1.2.2, Tx4, S4.out.2, Lib.hid hv⟩
    clear S4 Tx4 hv hX hDX
    obtain ⟨y, hy⟩ : ∃ y, diskOk d = y := ⟨_, rfl⟩
    have hyy : (y != y) = false := by simp
    have HY := Lib.hid hy
    clear hy
    have SD := S.drew
    go_region_held3 (fun w' => w'.cell? ⟨D, 0, none⟩ = some (.slice A1 d.secs.length c1) ∧ w'.cell? ⟨D, 1, none⟩ = some (.slice B1 d.cache.length e1) ∧ w'.cell? ⟨D, 2, none⟩ = some (.int .i64 d.fuse) ∧ w'.cell? ⟨D, 3, none⟩ = some (.bool d.down) ∧ w'.cell? ⟨X, 0, none⟩ = some (.slice A2 x.secs.length c2) ∧ w'.cell? ⟨X, 1, none⟩ = some (.slice B2 x.cache.length e2) ∧ w'.cell? ⟨X, 2, none⟩ = some (.int .i64 x.fuse) ∧ w'.cell? ⟨X, 3, none⟩ = some (.bool x.down)) (exact S.out.cells) (first
      | (go_at_call 11
         refine (diskOk_rep _ d _ SD.out.2.1 hf).mono ?_
         rintro e W5 ⟨rfl, hb⟩
         rw [HY.out]
         replace S := SD.later hb
         clear SD hb)
      | (go_at_call 12
         refine (diskOkS_rep _ d _ S.out.2.1 hf).mono ?_
         rintro e W6 ⟨rfl, hb⟩
         rw [HY.out]
         replace S := S.later hb
         clear hb)
      | (go_at_call 14
         refine (writeSecS_rep _ d n [.slice A l.length c] l _ S.out.2.1 S.out.2.2.1 hf hwn (by unfold FitsB; omega)).mono ?_
         rintro e W7 ⟨cs, rfl, T7, hb⟩
         rw [HX.out] at T7
         obtain ⟨A3, c3, B3, e3, rfl⟩ := disk_at_shape T7
         replace S := S.later hb
         clear hb)
      | (go_at_call 13
         refine (sameDisk_same _ _ x _ S.out.2.2.2.1 T7 hfx).mono ?_
         rintro e W8 ⟨rfl, hb⟩
         replace S := S.later hb
         clear hb T7))
    obtain ⟨p0, p1, p2, p3, r0, r1, r2, r3⟩ := S.out.cells
    obtain ⟨z1, z2, z3⟩ := S.out.1
    go_wp2_with fail
    clear p0 p1 p2 p3 r0 r1 r2 r3 z1 z2 z3
    refine (diskOk_rep _ d _ S.out.2.1 hf).mono ?_
    rintro e W9 ⟨rfl, hb⟩
    rw [HY.out]
    replace S := S.later hb
    clear hb hyy
    have split : y = false ∨ (y = true ∧ d.down = true) ∨ (y = true ∧ d.down = false ∧ n < 0) ∨ (y = true ∧ d.down = false ∧ 0 ≤ n ∧ (d.secs.length : Int) ≤ n) ∨ (y = true ∧ d.down = false ∧ 0 ≤ n ∧ n < (d.secs.length : Int) ∧ (160 : Int) < (l.length : Int)) ∨
        (y = true ∧ d.down = false ∧ 0 ≤ n ∧ n < (d.secs.length : Int) ∧ (l.length : Int) ≤ 160 ∧ ((d.cache.length : Int) == 30) = true) ∨ (y = true ∧ d.down = false ∧ 0 ≤ n ∧ n < (d.secs.length : Int) ∧ (l.length : Int) ≤ 160 ∧ ((d.cache.length : Int) == 30) = false) := by
      cases y <;> cases d.down <;> simp
      omega
    rcases split with rfl | ⟨rfl, hdn⟩ | ⟨rfl, hdn, h3⟩ | ⟨rfl, hdn, h3, h4⟩ | ⟨rfl, hdn, h3, h4, h5⟩ | ⟨rfl, hdn, h3, h4, h5, h6⟩ | ⟨rfl, hdn, h3, h4, h5, h6⟩
    · have hxd : x = d := by
        rw [← HX.out]
        refine writeSec_no fun hg => ?_
        obtain ⟨⟨⟨g1, g2, g3⟩, g4, g5, g6, g7⟩, g8, g9, g10, g11⟩ := hg
        first
          | (have := HY.out; rw [diskOk_yes ⟨⟨g1, g2, g3⟩, g4, g5, g6, g7⟩] at this; exact absurd this (by decide))
          | (rw [hdn] at g8; exact absurd g8 (by decide))
          | (obtain ⟨g9, g12⟩ := g9; omega)
          | omega
          | (simp at h6; omega)
      have T1 := S.out.2.1
      have T2 := S.out.2.2.2.1
      clear HX
      subst hxd
      obtain ⟨p0, p1, p2, p3, r0, r1, r2, r3⟩ := S.out.cells
      obtain ⟨z1, z2, z3⟩ := S.out.1
      go_wp2_with fail
      refine (sameDisk_same _ _ x _ T2 T1 hf).mono ?_
      rintro e W9 ⟨rfl, hb⟩
      replace S := S.later hb
      clear p0 p1 p2 p3 r0 r1 r2 r3 T1 T2 z1 z2 z3 hb
      go_wp2_with fail
      go_ret
      exact ⟨rfl, S.out.1.1⟩
    · have hxd : x = d := by
        rw [← HX.out]
        refine writeSec_no fun hg => ?_
        obtain ⟨⟨⟨g1, g2, g3⟩, g4, g5, g6, g7⟩, g8, g9, g10, g11⟩ := hg
        first
          | (have := HY.out; rw [diskOk_yes ⟨⟨g1, g2, g3⟩, g4, g5, g6, g7⟩] at this; exact absurd this (by decide))
          | (rw [hdn] at g8; exact absurd g8 (by decide))
          | (obtain ⟨g9, g12⟩ := g9; omega)
          | omega
          | (simp at h6; omega)
      have T1 := S.out.2.1
      have T2 := S.out.2.2.2.1
      clear HX
      subst hxd
      obtain ⟨p0, p1, p2, p3, r0, r1, r2, r3⟩ := S.out.cells
      obtain ⟨z1, z2, z3⟩ := S.out.1
      rw [hdn] at T1 T2
      go_wp2_with fail
      refine (sameDisk_same _ _ x _ T2 T1 hf).mono ?_
      rintro e W9 ⟨rfl, hb⟩
      replace S := S.later hb
      clear p0 p1 p2 p3 r0 r1 r2 r3 T1 T2 z1 z2 z3 hb
      go_wp2_with fail
      go_ret
      exact ⟨rfl, S.out.1.1⟩
    · have hxd : x = d := by
        rw [← HX.out]
        refine writeSec_no fun hg => ?_
        obtain ⟨⟨⟨g1, g2, g3⟩, g4, g5, g6, g7⟩, g8, g9, g10, g11⟩ := hg
        first
          | (have := HY.out; rw [diskOk_yes ⟨⟨g1, g2, g3⟩, g4, g5, g6, g7⟩] at this; exact absurd this (by decide))
          | (rw [hdn] at g8; exact absurd g8 (by decide))
          | (obtain ⟨g9, g12⟩ := g9; omega)
          | omega
          | (simp at h6; omega)
      have T1 := S.out.2.1
      have T2 := S.out.2.2.2.1
      clear HX
      subst hxd
      obtain ⟨p0, p1, p2, p3, r0, r1, r2, r3⟩ := S.out.cells
      obtain ⟨z1, z2, z3⟩ := S.out.1
      rw [hdn] at T1 T2
      go_wp2_with fail
      refine (sameDisk_same _ _ x _ T2 T1 hf).mono ?_
      rintro e W9 ⟨rfl, hb⟩
      replace S := S.later hb
      clear p0 p1 p2 p3 r0 r1 r2 r3 T1 T2 z1 z2 z3 hb
      go_wp2_with fail
      go_ret
      exact ⟨rfl, S.out.1.1⟩
    · have hxd : x = d := by
        rw [← HX.out]
        refine writeSec_no fun hg => ?_
        obtain ⟨⟨⟨g1, g2, g3⟩, g4, g5, g6, g7⟩, g8, g9, g10, g11⟩ := hg
        first
          | (have := HY.out; rw [diskOk_yes ⟨⟨g1, g2, g3⟩, g4, g5, g6, g7⟩] at this; exact absurd this (by decide))
          | (rw [hdn] at g8; exact absurd g8 (by decide))
          | (obtain ⟨g9, g12⟩ := g9; omega)
          | omega
          | (simp at h6; omega)
      have T1 := S.out.2.1
      have T2 := S.out.2.2.2.1
      clear HX
      subst hxd
      obtain ⟨p0, p1, p2, p3, r0, r1, r2, r3⟩ := S.out.cells
      obtain ⟨z1, z2, z3⟩ := S.out.1
      rw [hdn] at T1 T2
      go_wp2_with fail
      refine (sameDisk_same _ _ x _ T2 T1 hf).mono ?_
      rintro e W9 ⟨rfl, hb⟩
      replace S := S.later hb
      clear p0 p1 p2 p3 r0 r1 r2 r3 T1 T2 z1 z2 z3 hb
      go_wp2_with fail
      go_ret
      exact ⟨rfl, S.out.1.1⟩
    · have hxd : x = d := by
        rw [← HX.out]
        refine writeSec_no fun hg => ?_
        obtain ⟨⟨⟨g1, g2, g3⟩, g4, g5, g6, g7⟩, g8, g9, g10, g11⟩ := hg
        first
          | (have := HY.out; rw [diskOk_yes ⟨⟨g1, g2, g3⟩, g4, g5, g6, g7⟩] at this; exact absurd this (by decide))
          | (rw [hdn] at g8; exact absurd g8 (by decide))
          | (obtain ⟨g9, g12⟩ := g9; omega)
          | omega
          | (simp at h6; omega)
      have T1 := S.out.2.1
      have T2 := S.out.2.2.2.1
      clear HX
      subst hxd
      obtain ⟨p0, p1, p2, p3, r0, r1, r2, r3⟩ := S.out.cells
      obtain ⟨z1, z2, z3⟩ := S.out.1
      rw [hdn] at T1 T2
      go_wp2_with fail
      refine (sameDisk_same _ _ x _ T2 T1 hf).mono ?_
      rintro e W9 ⟨rfl, hb⟩
      replace S := S.later hb
      clear p0 p1 p2 p3 r0 r1 r2 r3 T1 T2 z1 z2 z3 hb
      go_wp2_with fail
      go_ret
      exact ⟨rfl, S.out.1.1⟩
    · have hxd : x = d := by
        rw [← HX.out]
        refine writeSec_no fun hg => ?_
        obtain ⟨⟨⟨g1, g2, g3⟩, g4, g5, g6, g7⟩, g8, g9, g10, g11⟩ := hg
        first
          | (have := HY.out; rw [diskOk_yes ⟨⟨g1, g2, g3⟩, g4, g5, g6, g7⟩] at this; exact absurd this (by decide))
          | (rw [hdn] at g8; exact absurd g8 (by decide))
          | (obtain ⟨g9, g12⟩ := g9; omega)
          | omega
          | (simp at h6; omega)
      have T1 := S.out.2.1
      have T2 := S.out.2.2.2.1
      clear HX
      subst hxd
      obtain ⟨p0, p1, p2, p3, r0, r1, r2, r3⟩ := S.out.cells
      obtain ⟨z1, z2, z3⟩ := S.out.1
      rw [hdn] at T1 T2
      go_wp2_with fail
      refine (sameDisk_same _ _ x _ T2 T1 hf).mono ?_
      rintro e W9 ⟨rfl, hb⟩
      replace S := S.later hb
      clear p0 p1 p2 p3 r0 r1 r2 r3 T1 T2 z1 z2 z3 hb
      go_wp2_with fail
      go_ret
      exact ⟨rfl, S.out.1.1⟩
    · have hg : WriteGood d n l := ⟨diskOk_good HY.out, hdn, ⟨h3, h4⟩, by omega, by simp at h6; omega⟩
      have hins : InSec d n := ⟨h3, h4⟩
      have HG := Lib.hid hg
      obtain ⟨p0, p1, p2, p3, r0, r1, r2, r3⟩ := S.out.cells
      obtain ⟨z1, z2, z3⟩ := S.out.1
      have HDN := Lib.hid hdn
      have i5 : ¬ ((160 : Int) < (l.length : Int)) := by omega
      have i3 : ¬ (n < 0) := by omega
      have i4 : ¬ ((d.secs.length : Int) ≤ n) := by omega
      go_upto_region 9 with (fail)
      clear p0 p1 p2 p3 r0 r1 r2 r3 z1 z2 z3 hdn h6 i5 i3 i4 hg
      by_cases h0 : d.fuse = 0
      · have hz : (d.fuse == 0) = true := by simpa using h0
        have hxe : x = ⟨d.secs, d.cache, -1, true⟩ := by rw [← HX.out]; exact writeSec_zero HG.out h0
        clear h0 HX
        subst hxe
        have T1 := S.out.2.1
        have hrs := readSec_same d (-1) true HG.out.1 (by omega) (by omega) n hins
        have hL := fits_read d hf n
        generalize hLd : readSec d n = L at hrs hL
        have HLx := Lib.hid hrs
        have HLd := Lib.hid hLd
        clear hrs hLd
        have HC := Lib.hid (show ∀ w', DW w D X d ⟨d.secs, d.cache, -1, true⟩ A A1 B1 A2 B2 c c1 e1 c2 e2 l w' → w'.cell? ⟨D, 0, none⟩ = some (.slice A1 d.secs.length c1) ∧ w'.cell? ⟨D, 1, none⟩ = some (.slice B1 d.cache.length e1) ∧ w'.cell? ⟨D, 2, none⟩ = some (.int .i64 d.fuse) ∧ w'.cell? ⟨D, 3, none⟩ = some (.bool d.down) ∧ w'.cell? ⟨X, 0, none⟩ = some (.slice A2 d.secs.length c2) ∧ w'.cell? ⟨X, 1, none⟩ = some (.slice B2 d.cache.length e2) ∧ w'.cell? ⟨X, 2, none⟩ = some (.int .i64 (-1)) ∧ w'.cell? ⟨X, 3, none⟩ = some (.bool true) from fun w' h => h.cells)
        obtain ⟨p0, p1, p2, p3, r0, r1, r2, r3⟩ := HC.out _ S.out
        obtain ⟨z1, z2, z3⟩ := S.out.1
        go_wp2_with fail
        clear p0 p1 p2 p3 r0 r1 r2 r3 z1 z2 z3 T1
        have SD := S.drew
        go_region_held3 (fun w' => w'.cell? ⟨D, 0, none⟩ = some (.slice A1 d.secs.length c1) ∧ w'.cell? ⟨D, 1, none⟩ = some (.slice B1 d.cache.length e1) ∧ w'.cell? ⟨D, 2, none⟩ = some (.int .i64 d.fuse) ∧ w'.cell? ⟨D, 3, none⟩ = some (.bool d.down) ∧ w'.cell? ⟨X, 0, none⟩ = some (.slice A2 d.secs.length c2) ∧ w'.cell? ⟨X, 1, none⟩ = some (.slice B2 d.cache.length e2) ∧ w'.cell? ⟨X, 2, none⟩ = some (.int .i64 (-1)) ∧ w'.cell? ⟨X, 3, none⟩ = some (.bool true)) ((have hq := HC.out _ S.out; exact hq)) (first
          | (go_at_call 16
             refine (readSec_rep [.slice A2 d.secs.length c2, .slice B2 d.cache.length e2, .int .i64 (-1), .bool true] ⟨d.secs, d.cache, -1, true⟩ n _ SD.out.2.2.2.1 hfx hwn).mono ?_
             rw [HLx.out]
             rintro e W10 ⟨Ax, cx, fpx, rfl, Ox, hb⟩
             have Tq := Rep.reads byR Ox
             replace S := SD.later hb
             clear SD hb Ox)
          | (go_at_call 16
             refine (readSec_rep [.slice A1 d.secs.length c1, .slice B1 d.cache.length e1, .int .i64 d.fuse, .bool d.down] d n _ S.out.2.1 hf hwn).mono ?_
             rw [HLd.out]
             rintro e W11 ⟨Ay, cy, fpy, rfl, Oy, hb⟩
             have Ty := Rep.reads byR Oy
             replace Tq := Keeps.keeps (F := fun w' => byR.at_ w' w'.heap.size [.slice Ax L.length cx] L) hb Tq
             replace S := S.later hb
             clear hb Oy)
          | (go_at_call 15
             refine (same_self Ax Ay cx cy _ _ L _ (reads_of Tq) (reads_of Ty)).mono ?_
             rintro e W12 ⟨rfl, nq, rfl⟩))
        replace S := S.later (Later.drewN _ nq)
        go_wp2_with fail
        go_ret
        exact ⟨rfl, S.out.1.1⟩
      · have hz : (d.fuse == 0) = false := by simpa using h0
        have hxe : x = ⟨d.secs, d.cache ++ [⟨n, l⟩], fuseAfter d.fuse, d.down⟩ := by rw [← HX.out]; exact writeSec_go HG.out h0
        have hgx : DiskGood x := by rw [← HX.out]; exact good_write HG.out
        have hdx : x.down = false := by rw [hxe]; exact HDN.out
        have hsx : x.secs = d.secs := by rw [hxe]
        have hix : InSec x n := by unfold InSec; rw [hsx]; exact hins
        have hpush : ∀ i, InSec d i → readSec x i = if n = i then l else readSec d i := by rw [← HX.out]; exact fun i hi => readSec_push HG.out h0 i hi
        have hsync : x.fuse ≠ 0 → readSec (fallDisk (syncDisk x) 0) n = readSec x n := fun hx0 => readSec_synced hgx hdx hx0 n hix
        have hn0 : readSec x n = l := by rw [hpush n hins, if_pos rfl]
        have hfs := fits_syncDisk hfx
        have hfy := fits_fallDisk hfs 0
        have HP := Lib.hid hpush
        have HSY := Lib.hid hsync
        have HN0 := Lib.hid hn0
        have HGX := Lib.hid hgx
        clear hpush hsync hn0 hgx hdx hsx hix hxe h0 HX
        obtain ⟨p0, p1, p2, p3, r0, r1, r2, r3⟩ := S.out.cells
        obtain ⟨z1, z2, z3⟩ := S.out.1
        go_wp2_with fail
        clear p0 p1 p2 p3 r0 r1 r2 r3 z1 z2 z3 hz
        refine (syncDisk_rep _ x _ S.out.2.2.2.1 hfx).mono ?_
        rintro e W10 ⟨cs, fps, rfl, Os, hb⟩
        have Ts := Rep.reads diskR Os
        replace S := S.later hb
        clear hb Os
        obtain ⟨A3, c3, B3, e3, rfl⟩ := disk_at_shape Ts
        go_wp2_with fail
        refine (fallDisk_rep _ (syncDisk x) 0 _ Ts hfs (by decide)).mono ?_
        rintro e W11 ⟨cs, fps, rfl, Oy, hb⟩
        have Ty := Rep.reads diskR Oy
        replace S := S.later hb
        clear hb Oy Ts
        obtain ⟨A4, c4, B4, e4, rfl⟩ := disk_at_shape Ty
        generalize hye : fallDisk (syncDisk x) 0 = v at Ty hfy
        have HV := Lib.hid hye
        clear hye
        go_upto_region 12 with (fail)
        have S2 := S.alloc (.cells #[.slice A4 v.secs.length c4, .slice B4 v.cache.length e4, .int .i64 v.fuse, .bool v.down] 27)
        have Ty2 := Rep.more diskR (Rep.at_alloc Ty (Nat.le_refl _) (.cells #[.slice A4 v.secs.length c4, .slice B4 v.cache.length e4, .int .i64 v.fuse, .bool v.down] 27)) (show W11.heap.size ≤ (W11.alloc (.cells #[.slice A4 v.secs.length c4, .slice B4 v.cache.length e4, .int .i64 v.fuse, .bool v.down] 27)).heap.size by simp)
        have hv := heap_alloc_new W11 (.cells #[.slice A4 v.secs.length c4, .slice B4 v.cache.length e4, .int .i64 v.fuse, .bool v.down] 27)
        have hY : W11.heap.size < (W11.alloc (.cells #[.slice A4 v.secs.length c4, .slice B4 v.cache.length e4, .int .i64 v.fuse, .bool v.down] 27)).heap.size := by simp
        generalize hgW : W11.alloc (.cells #[.slice A4 v.secs.length c4, .slice B4 v.cache.length e4, .int .i64 v.fuse, .bool v.down] 27) = W12 at S2 Ty2 hv hY ⊢
        clear hgW S Ty
        generalize W11.heap.size = Y at hv hY ⊢
        have S : All (fun w' => DW w D X d x A A1 B1 A2 B2 c c1 e1 c2 e2 l w' ∧ Y < w'.heap.size ∧ diskR.at_ w' w'.heap.size [.slice A4 v.secs.length c4, .slice B4 v.cache.length e4, .int .i64 v.fuse, .bool v.down] v ∧
            Hid (w'.heap[Y]? = some (.cells #[.slice A4 v.secs.length c4, .slice B4 v.cache.length e4, .int .i64 v.fuse, .bool v.down] 27 (0, 0)))) W12 := ⟨S2.out, hY, Ty2, Lib.hid hv⟩
        clear S2 Ty2 hv hY
        go_wp2_with fail
        go_loopw [8] (fun i wr => ∃ k : Nat, k ≤ d.secs.length ∧ i = .int .i64 k ∧ All (fun w' => DW w D X d x A A1 B1 A2 B2 c c1 e1 c2 e2 l w' ∧ Y < w'.heap.size ∧ diskR.at_ w' w'.heap.size [.slice A4 v.secs.length c4, .slice B4 v.cache.length e4, .int .i64 v.fuse, .bool v.down] v ∧
            Hid (w'.heap[Y]? = some (.cells #[.slice A4 v.secs.length c4, .slice B4 v.cache.length e4, .int .i64 v.fuse, .bool v.down] 27 (0, 0)))) wr) (fun i _ => d.secs.length - (intOf i).toNat)
        case atStart => exact ⟨0, by omega, rfl, S⟩
        case round =>
          clear S
          obtain ⟨k, hk, rfl, S⟩ := hrel
          obtain ⟨p0, p1, p2, p3, r0, r1, r2, r3⟩ := S.out.1.cells
          obtain ⟨z1, z2, z3⟩ := S.out.1.1
          by_cases hlt : k < d.secs.length
          · have i1 : (k : Int) < (d.secs.length : Int) := by omega
            have hik : InSec d (k : Int) := ⟨by omega, i1⟩
            have hwk := wf_i64 (n := (k : Int)) (by omega) (by have := hf.1; omega)
            have hk2 := hf.1
            go_wp2_with fail
            clear p0 p1 p2 p3 r0 r1 r2 r3 z1 z2 z3 i1
            have SD := S.drew
            by_cases hkn : (k : Int) = n
            · have hkb : ((k : Int) != n) = false := by simpa using hkn
              clear hkn
              go_quiet (fail)
              replace S := S.later (Later.drewN _ nq)
              clear SD
              go_wp2_with fail
              go_roundw
              case rel => exact ⟨k + 1, by omega, by go_num, S⟩
              case measure => simp [intOf]; omega
            · have hkb : ((k : Int) != n) = true := by simpa using hkn
              have hrd : readSec x (k : Int) = readSec d (k : Int) := by rw [HP.out _ hik, if_neg (fun e => hkn e.symm)]
              have hL := fits_read d hf (k : Int)
              generalize hLd : readSec d (k : Int) = L at hrd hL
              have HLx := Lib.hid hrd
              have HLd := Lib.hid hLd
              clear hrd hLd hkn
              go_region_held3 (fun w' => w'.cell? ⟨D, 0, none⟩ = some (.slice A1 d.secs.length c1) ∧ w'.cell? ⟨D, 1, none⟩ = some (.slice B1 d.cache.length e1) ∧ w'.cell? ⟨D, 2, none⟩ = some (.int .i64 d.fuse) ∧ w'.cell? ⟨D, 3, none⟩ = some (.bool d.down) ∧ w'.cell? ⟨X, 0, none⟩ = some (.slice A2 x.secs.length c2) ∧ w'.cell? ⟨X, 1, none⟩ = some (.slice B2 x.cache.length e2) ∧ w'.cell? ⟨X, 2, none⟩ = some (.int .i64 x.fuse) ∧ w'.cell? ⟨X, 3, none⟩ = some (.bool x.down)) ((have hq := S.out.1.cells; exact hq)) (first
                | (go_at_call 16
                   refine (readSec_rep [.slice A2 x.secs.length c2, .slice B2 x.cache.length e2, .int .i64 x.fuse, .bool x.down] x (k : Int) _ SD.out.1.2.2.2.1 hfx hwk).mono ?_
                   rw [HLx.out]
                   rintro e W13 ⟨Ax, cx, fpx, rfl, Ox, hb⟩
                   have Tq := Rep.reads byR Ox
                   replace S := SD.later hb
                   clear SD hb Ox)
                | (go_at_call 16
                   refine (readSec_rep [.slice A1 d.secs.length c1, .slice B1 d.cache.length e1, .int .i64 d.fuse, .bool d.down] d (k : Int) _ S.out.1.2.1 hf hwk).mono ?_
                   rw [HLd.out]
                   rintro e W14 ⟨Ay, cy, fpy, rfl, Oy, hb⟩
                   have Ty := Rep.reads byR Oy
                   replace Tq := Keeps.keeps (F := fun w' => byR.at_ w' w'.heap.size [.slice Ax L.length cx] L) hb Tq
                   replace S := S.later hb
                   clear hb Oy)
                | (go_at_call 15
                   refine (same_self Ax Ay cx cy _ _ L _ (reads_of Tq) (reads_of Ty)).mono ?_
                   rintro e W15 ⟨rfl, nq, rfl⟩))
              replace S := S.later (Later.drewN _ nq)
              clear Tq Ty
              go_wp2_with fail
              go_roundw
              case rel => exact ⟨k + 1, by omega, by go_num, S⟩
              case measure => simp [intOf]; omega
          · have he : k = d.secs.length := by omega
            subst he
            have q0 : wr.cell? ⟨Y, 0, none⟩ = some (.slice A4 v.secs.length c4) := var_cell S.out.2.2.2.out 0
            have q1 : wr.cell? ⟨Y, 1, none⟩ = some (.slice B4 v.cache.length e4) := var_cell S.out.2.2.2.out 1
            have q2 : wr.cell? ⟨Y, 2, none⟩ = some (.int .i64 v.fuse) := var_cell S.out.2.2.2.out 2
            have q3 : wr.cell? ⟨Y, 3, none⟩ = some (.bool v.down) := var_cell S.out.2.2.2.out 3
            have zY := S.out.2.1
            go_wp2_with fail
            clear p0 p1 p2 p3 r0 r1 r2 r3 z1 z2 z3 q0 q1 q2 q3 zY
            refine (readSec_rep [.slice A2 x.secs.length c2, .slice B2 x.cache.length e2, .int .i64 x.fuse, .bool x.down] x n _ S.out.1.2.2.2.1 hfx hwn).mono ?_
            rw [HN0.out]
            rintro e W16 ⟨Ax, cx, fpx, rfl, Ox, hb⟩
            have Tq := Rep.reads byR Ox
            replace S := S.later hb
            clear hb Ox
            obtain ⟨p0, p1, p2, p3, r0, r1, r2, r3⟩ := S.out.1.cells
            obtain ⟨z1, z2, z3⟩ := S.out.1.1
            go_wp2_with fail
            clear p0 p1 p2 p3 r0 r1 r2 r3 z1 z2 z3
            refine (same_self Ax A cx c _ _ l _ (reads_of Tq) (reads_of S.out.1.2.2.1)).mono ?_
            rintro e W17 ⟨rfl, nq, rfl⟩
            replace S := S.later (Later.drewN _ nq)
            clear Tq
            generalize W16.drewN nq = W17 at S ⊢
            by_cases hx0 : x.fuse = 0
            · have hxb : (x.fuse == 0) = true := by simpa using hx0
              clear hx0
              obtain ⟨p0, p1, p2, p3, r0, r1, r2, r3⟩ := S.out.1.cells
              obtain ⟨z1, z2, z3⟩ := S.out.1.1
              go_wp2_with fail
              clear p0 p1 p2 p3 r0 r1 r2 r3 z1 z2 z3
              refine (diskOk_rep [.slice A2 x.secs.length c2, .slice B2 x.cache.length e2, .int .i64 x.fuse, .bool x.down] x _ S.out.1.2.2.2.1 hfx).mono ?_
              rw [diskOk_yes HGX.out]
              rintro e W18 ⟨rfl, hb⟩
              replace S := S.later hb
              clear hb
              go_wp2_with fail
              go_ret
              exact ⟨rfl, S.out.1.1.1⟩
            · have hxb : (x.fuse == 0) = false := by simpa using hx0
              have hy := HSY.out hx0
              rw [HN0.out, HV.out] at hy
              have HYN := Lib.hid hy
              clear hx0 hy
              obtain ⟨p0, p1, p2, p3, r0, r1, r2, r3⟩ := S.out.1.cells
              obtain ⟨z1, z2, z3⟩ := S.out.1.1
              have q0 : W17.cell? ⟨Y, 0, none⟩ = some (.slice A4 v.secs.length c4) := var_cell S.out.2.2.2.out 0
              have q1 : W17.cell? ⟨Y, 1, none⟩ = some (.slice B4 v.cache.length e4) := var_cell S.out.2.2.2.out 1
              have q2 : W17.cell? ⟨Y, 2, none⟩ = some (.int .i64 v.fuse) := var_cell S.out.2.2.2.out 2
              have q3 : W17.cell? ⟨Y, 3, none⟩ = some (.bool v.down) := var_cell S.out.2.2.2.out 3
              have zY := S.out.2.1
              go_wp2_with fail
              clear p0 p1 p2 p3 r0 r1 r2 r3 z1 z2 z3 q0 q1 q2 q3 zY
              refine (readSec_rep [.slice A4 v.secs.length c4, .slice B4 v.cache.length e4, .int .i64 v.fuse, .bool v.down] v n _ S.out.2.2.1 hfy hwn).mono ?_
              rw [HYN.out]
              rintro e W18 ⟨Ay, cy, fpy, rfl, Oy, hb⟩
              have Tq := Rep.reads byR Oy
              replace S := S.later hb
              clear hb Oy
              go_wp2_with fail
              refine (same_self Ay A cy c _ _ l _ (reads_of Tq) (reads_of S.out.1.2.2.1)).mono ?_
              rintro e W19 ⟨rfl, nq, rfl⟩
              replace S := S.later (Later.drewN _ nq)
              clear Tq
              generalize W18.drewN nq = W19 at S ⊢
              obtain ⟨p0, p1, p2, p3, r0, r1, r2, r3⟩ := S.out.1.cells
              obtain ⟨z1, z2, z3⟩ := S.out.1.1
              go_wp2_with fail
              clear p0 p1 p2 p3 r0 r1 r2 r3 z1 z2 z3
              refine (diskOk_rep [.slice A2 x.secs.length c2, .slice B2 x.cache.length e2, .int .i64 x.fuse, .bool x.down] x _ S.out.1.2.2.2.1 hfx).mono ?_
              rw [diskOk_yes HGX.out]
              rintro e W20 ⟨rfl, hb⟩
              replace S := S.later hb
              clear hb
              go_wp2_with fail
              go_ret
              exact ⟨rfl, S.out.1.1.1⟩

end Go.Proofs.Ytkpcjnamoejjjaa
