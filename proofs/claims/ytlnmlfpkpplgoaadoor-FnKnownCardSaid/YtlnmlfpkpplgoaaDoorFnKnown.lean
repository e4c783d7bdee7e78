/- The walk of FnKnown. -/
import Derived.Test.YtlnmlfpkpplgoaaDoorDrawKnown
import Derived.Test.YtlnmlfpkpplgoaaDoorRecsOf
import Derived.Deep.CutRange
namespace Go.Proofs.YtlnmlfpkpplgoaaDoor
open Go.RowKit Go.Maps
set_option maxRecDepth 100000
set_option linter.unusedVariables false

theorem recsL_small {k : Known} (h : SmallK k) : ∀ r, r ∈ recsL k → r.text.size ≤ 100 := by
  obtain ⟨ht, hp⟩ := h
  intro r hr
  unfold recsL at hr
  rcases List.mem_append.1 hr with h1 | h1
  · unfold recsG at h1
    split at h1
    · cases h1
    · simp only [List.mem_cons, List.not_mem_nil, or_false] at h1
      rcases h1 with rfl | rfl
      · exact ht
      · show (0 : Nat) ≤ 100; omega
  · rcases List.mem_append.1 h1 with h1 | h1
    · unfold recsP at h1
      split at h1
      · cases h1
      · simp only [List.mem_cons, List.not_mem_nil, or_false] at h1
        subst h1
        exact hp
    · unfold recsE at h1
      split at h1
      · cases h1
      · simp only [List.mem_cons, List.not_mem_nil, or_false] at h1
        subst h1
        show (0 : Nat) ≤ 100; omega
theorem chain_at {x k : Known} {xs : List Rec} {j : Nat} {r : Rec} (h : chainP x (xs.drop j) = some k) (hr : xs[j]? = some r) : (applyP x r).2 = true ∧ recB r = true ∧ chainP (applyP x r).1 (xs.drop (j + 1)) = some k := by
  obtain ⟨hj, rfl⟩ := List.getElem?_eq_some_iff.1 hr
  rw [List.drop_eq_getElem_cons hj] at h
  exact chain_cons h

/-- The state that is drawn, what its records are, what they have made so far. -/
structure FK (w : World) (D3 : Nat) (k : Known) (A4 : Option Addr) (xs : List Rec) (D5 : Nat) (x : Known) (W : World) : Prop where
  below : Below w.heap.size w W
  kbox : W.heap[D3]? = some (.cells (knownC k).toArray 25 (0, 0))
  xbox : W.heap[D5]? = some (.cells (knownC x).toArray 25 (0, 0))
  recs : Reads W D5 4 A4 xs.length (flatR xs)
  d3 : w.heap.size ≤ D3
  d35 : D3 < D5
section
variable {w W W' : World} {D3 D5 : Nat} {k x y : Known} {A4 : Option Addr} {xs : List Rec}
theorem FK.lt (h : FK w D3 k A4 xs D5 x W) : D5 < W.heap.size := (Array.getElem?_eq_some_iff.1 h.xbox).1
theorem FK.later (h : FK w D3 k A4 xs D5 x W) (hb : Below W.heap.size W W') : FK w D3 k A4 xs D5 x W' :=
  ⟨Later.trans h.below hb, (hb.block _ (Nat.lt_trans h.d35 h.lt)).trans h.kbox, (hb.block _ h.lt).trans h.xbox, h.recs.below (hb.mono (Nat.le_of_lt h.lt)), h.d3, h.d35⟩
instance FK.keeps (w : World) (D3 D5 : Nat) (k x : Known) (A4 : Option Addr) (xs : List Rec) : Keeps (fun W => FK w D3 k A4 xs D5 x W) := ⟨fun h x => x.later h⟩
theorem FK.recsAt (h : FK w D3 k A4 xs D5 x W) : RecsAt W A4 xs := h.recs.more (Nat.le_of_lt h.lt)
theorem FK.beside {E : Nat} (h : FK w D3 k A4 xs D5 x W) (ho : Rep.Only W W' [E]) (hE : D5 < E) : FK w D3 k A4 xs D5 x W' := by
  have h1 := h.lt
  have h2 := h.d35
  have h3 := h.d3
  exact ⟨Rep.Only.below h.below ho h.below.size (fun a ha => by simp at ha; omega), (ho.block _ (by omega) (by simp; omega)).trans h.kbox, (ho.block _ h1 (by simp; omega)).trans h.xbox, h.recs.keep (fun p hp => World.cell?_of_block (ho.block p.block (by omega) (by simp; omega))), h3, h2⟩
theorem FK.putX (h : FK w D3 k A4 xs D5 x W) (a : Int) (b : ByteArray) (p : Int) (q : ByteArray) (e f : Int) : FK w D3 k A4 xs D5 ⟨a, b, p, q, e, f⟩ ((((((W.setCell ⟨D5, 0, none⟩ (.int .i64 a)).setCell ⟨D5, 1, none⟩ (.string b)).setCell ⟨D5, 2, none⟩ (.int .i64 p)).setCell ⟨D5, 3, none⟩ (.string q)).setCell ⟨D5, 4, none⟩ (.int .i64 e)).setCell ⟨D5, 5, none⟩ (.int .i64 f)) := by
  have ho := putK6_only W D5 a b p q e f
  have h1 := h.lt
  have h2 := h.d35
  have h3 := h.d3
  exact ⟨Rep.Only.below h.below ho h.below.size (fun a ha => by simp at ha; omega), (ho.block _ (by omega) (by simp; omega)).trans h.kbox, setK6_box h.xbox a b p q e f, h.recs.keep (fun p hp => World.cell?_of_block (ho.block p.block (by omega) (by simp; omega))), h3, h2⟩
end

set_option maxRecDepth 100000 in
set_option maxHeartbeats 16000000 in
theorem walk_FnKnown (a0 : Option Addr) (len0 cap0 : Nat) (z0 : List Int) (w : World) (w0 : IsRow .u8 w a0 len0 cap0 z0) (hg : Given w) :
    Calls Tryd.prog 3 #[.slice a0 len0 cap0] w fun e w' => e = .returned (.bool true) ∧ Below w.heap.size w w' := by
  obtain ⟨code, rfl, _, hr⟩ := w0.reads
  clear w0
  by_cases hbig : (1048576 : Int) < code.length
  · go_enter Tryd.func3, Tryd.ntmps3
    go_wp2_with (first | (go_at_call 4; go_in) | fail)
    go_ret
    exact ⟨rfl, Below.refl _ _⟩
  · have hn : code.length ≤ 1048576 := by omega
    have HG := Lib.hid hg
    have HR := Lib.hid hr
    clear hg hr
    go_enter Tryd.func3, Tryd.ntmps3
    go_wp2_with (first | (go_at_call 4; go_in) | fail)
    refine (drawKnown_any a0 cap0 code w HR.out hn).mono ?_
    rintro e W1 ⟨⟨ka, kb, kp, kq, ke, kf⟩, rfl, hgood, hb1⟩
    have HGD := Lib.hid hgood
    have hsm := good_sizes hgood
    replace hsm : kb.size ≤ 100 ∧ kq.size ≤ 100 := hsm
    have HSM := Lib.hid hsm
    have HCH := Lib.hid (recs_chain hgood)
    clear hgood hsm
    have K2 : Hid (Below w.heap.size w (W1.alloc (.cells #[.int .i64 ka, .string kb, .int .i64 kp, .string kq, .int .i64 ke, .int .i64 kf] 25)) ∧ (W1.alloc (.cells #[.int .i64 ka, .string kb, .int .i64 kp, .string kq, .int .i64 ke, .int .i64 kf] 25)).heap[W1.heap.size]? = some (.cells (knownC ⟨ka, kb, kp, kq, ke, kf⟩).toArray 25 (0, 0)) ∧ w.heap.size ≤ W1.heap.size) := Lib.hid ⟨Later.trans hb1 (Later.alloc W1 _), heap_alloc_new W1 _, hb1.size⟩
    clear hb1
    go_wp2_with fail
    generalize W1.alloc (.cells #[.int .i64 ka, .string kb, .int .i64 kp, .string kq, .int .i64 ke, .int .i64 kf] 25) = W2 at K2 ⊢
    generalize W1.heap.size = D3 at K2 ⊢
    refine (recsOfI_any ⟨ka, kb, kp, kq, ke, kf⟩ W2).mono ?_
    obtain ⟨xs, hxs⟩ : ∃ xs, recsL ⟨ka, kb, kp, kq, ke, kf⟩ = xs := ⟨_, rfl⟩
    have hxl : xs.length ≤ 4 := by rw [← hxs]; exact recsL_len _
    have HXS := Lib.hid (show ∀ r, r ∈ xs → r.text.size ≤ 100 by rw [← hxs]; exact recsL_small HSM.out)
    rw [hxs] at HCH ⊢
    clear hxs
    rintro e W3 ⟨A4, c4, rfl, o4, hb3⟩
    have F : FK w D3 ⟨ka, kb, kp, kq, ke, kf⟩ A4 xs W3.heap.size knownZero (W3.alloc (.cells #[.int .i64 0, .string ⟨#[]⟩, .int .i64 0, .string ⟨#[]⟩, .int .i64 0, .int .i64 0] 25)) :=
      ⟨Later.trans (Later.trans K2.out.1 hb3) (Later.alloc W3 _), (Below.heap_alloc W3 _ _ (Nat.lt_of_lt_of_le (Array.getElem?_eq_some_iff.1 K2.out.2.1).1 hb3.size)).trans ((hb3.block _ (Array.getElem?_eq_some_iff.1 K2.out.2.1).1).trans K2.out.2.1), heap_alloc_new W3 _, (Reads.of_own o4).alloc (Nat.le_refl _) _, K2.out.2.2, Nat.lt_of_lt_of_le (Array.getElem?_eq_some_iff.1 K2.out.2.1).1 hb3.size⟩
    clear o4 hb3 K2
    go_wp2_with fail
    generalize W3.alloc (.cells #[.int .i64 0, .string ⟨#[]⟩, .int .i64 0, .string ⟨#[]⟩, .int .i64 0, .int .i64 0] 25) = W4 at F ⊢
    generalize W3.heap.size = D5 at F ⊢
    go_loopw [6] (fun i wr => ∃ (j : Nat) (x : Known), j ≤ xs.length ∧ i = .int .i64 j ∧ Hid (KG x) ∧ Hid (chainP x (xs.drop j) = some ⟨ka, kb, kp, kq, ke, kf⟩) ∧ FK w D3 ⟨ka, kb, kp, kq, ke, kf⟩ A4 xs D5 x wr) (fun i _ => xs.length - (intOf i).toNat)
    case atStart => exact ⟨0, knownZero, by omega, rfl, Lib.hid zero_good, HCH, F⟩
    case round =>
      clear F HCH
      obtain ⟨j, ⟨xa, xb, xp, xq, xe, xf⟩, hj, rfl, hxg, hxc, F⟩ := hrel
      by_cases hlt : j < xs.length
      · obtain ⟨b, off, ⟨rk, rn, ro, rt⟩, rfl, hbl, hx, c0, c1, c2, c3⟩ := recs_elem F.recsAt hlt
        have i0 : (0 : Int) ≤ (j : Int) := by omega
        have i1 : (j : Int) < (xs.length : Int) := by omega
        obtain ⟨ha, hrb, hch⟩ := chain_at hxc.out hx
        go_upto_region 9 with (fail)
        obtain ⟨⟨⟨ya, yb, yp, yq, ye, yf⟩, ok⟩, hp⟩ : ∃ p, applyP ⟨xa, xb, xp, xq, xe, xf⟩ ⟨rk, rn, ro, rt⟩ = p := ⟨_, rfl⟩
        have HP := Lib.hid hp
        rw [hp] at ha hch
        replace ha : ok = true := ha
        subst ha
        have HC := Lib.hid hch
        have HYG := Lib.hid (show KG ⟨ya, yb, yp, yq, ye, yf⟩ by have h9 := apply_good (r := ⟨rk, rn, ro, rt⟩) hxg.out; rw [hp] at h9; exact h9)
        have HRB := Lib.hid hrb
        have HRT := Lib.hid (show rt.size ≤ 1048576 by have := HXS.out _ (List.mem_of_getElem? hx); replace this : rt.size ≤ 100 := this; omega)
        have HXZ := Lib.hid (show xb.size ≤ 1048576 ∧ xq.size ≤ 1048576 by have := good_sizes hxg.out; replace this : xb.size ≤ 100 ∧ xq.size ≤ 100 := this; omega)
        have HX := Lib.hid hx
        clear hp hch hrb hx hxc hxg
        go_cut [7, 8] from 28 to 46 (fun v7 v8 W' => ∃ E, v7 = .pointer (some ⟨E, 0, none⟩) ∧ v8 = .bool true ∧ FK w D3 ⟨ka, kb, kp, kq, ke, kf⟩ (some ⟨b, off, none⟩) xs D5 ⟨xa, xb, xp, xq, xe, xf⟩ W' ∧ Hid (W'.heap[E]? = some (.cells (knownC ⟨ya, yb, yp, yq, ye, yf⟩).toArray 25 (0, 0))) ∧ D5 < E)
        case first =>
          rename_i J K1 hJ hK
          have S : All (fun w' => (FK w D3 ⟨ka, kb, kp, kq, ke, kf⟩ (some ⟨b, off, none⟩) xs D5 ⟨xa, xb, xp, xq, xe, xf⟩ w' ∧ b < w'.heap.size) ∧ w'.heap[D5]? = some (.cells (knownC ⟨xa, xb, xp, xq, xe, xf⟩).toArray 25 (0, 0)) ∧ w'.cell? ⟨b, off + j * 4, none⟩ = some (.int .i64 rk) ∧ w'.cell? ⟨b, off + j * 4 + 1, none⟩ = some (.int .i64 rn) ∧ w'.cell? ⟨b, off + j * 4 + 2, none⟩ = some (.int .i64 ro) ∧ w'.cell? ⟨b, off + j * 4 + 3, none⟩ = some (.string rt)) wr := ⟨⟨F, hbl⟩, F.xbox, c0, c1, c2, c3⟩
          clear F c0 c1 c2 c3
          refine wp_region_open 11 (fun w' => w'.heap[D5]? = some (.cells (knownC ⟨xa, xb, xp, xq, xe, xf⟩).toArray 25 (0, 0)) ∧ w'.cell? ⟨b, off + j * 4, none⟩ = some (.int .i64 rk) ∧ w'.cell? ⟨b, off + j * 4 + 1, none⟩ = some (.int .i64 rn) ∧ w'.cell? ⟨b, off + j * 4 + 2, none⟩ = some (.int .i64 ro) ∧ w'.cell? ⟨b, off + j * 4 + 3, none⟩ = some (.string rt)) (by kernel_rfl) ?_
          replace S := S.drew
          refine wpAnyL_reads [0, 1, 2, 3, 4] (fuel := 7) (by kernel_rfl) S.out.2 ?_
          iterate 5 (refine LexR.cons rfl ?_ (fun w' hw => ?_) ?_; rotate_left; focus (obtain ⟨hw1, e1, e2, e3, e4⟩ := hw; obtain ⟨d0, d1, d2, d3, d4, d5⟩ := known_box (r := ⟨xa, xb, xp, xq, xe, xf⟩) hw1; go_simp; (try exact rfl)); (try go_frame))
          refine LexR.nil ?_
          generalize wr.drew = V0 at S ⊢
          refine wpAnyL_two (i := 5) (j := 9) (by kernel_rfl) ?_ ?_
          · refine lexA_get rfl ?_
            try go_frame
            go_wp2_with fail
            refine (applyI_any ⟨xa, xb, xp, xq, xe, xf⟩ ⟨rk, rn, ro, rt⟩ V0 (Keeps.keeps (F := Given) S.out.1.1.below HG.out) HXZ.out.1 HXZ.out.2 HRT.out).mono ?_
            rw [HP.out]
            rintro e V2 hret
            obtain ⟨rfl, hb⟩ := hret.lit
            replace S := S.later hb
            clear hret hb
            go_wp2_with fail
            refine ⟨fun _ => S.out.2, ?_⟩
            refine wpAnyL_reads [6, 7, 8] (fuel := 3) (by kernel_rfl) S.out.2 ?_
            iterate 3 (refine LexR.cons rfl ?_ (fun w' hw => ?_) ?_; rotate_left; focus (clear hw; go_simp; (try exact rfl)); (try go_frame))
            refine LexR.nil (wpAnyL_writes [9, 10, 11] (by kernel_rfl) (LexW.cons rfl ?_))
            try go_frame
            go_wp2_with fail
            have hDE := S.out.1.1.lt
            have hbE := S.out.1.2
            have HV := heap_alloc_new V2 (.cells #[.int .i64 0, .string ⟨#[]⟩, .int .i64 0, .string ⟨#[]⟩, .int .i64 0, .int .i64 0] 25)
            replace S := S.alloc (.cells #[.int .i64 0, .string ⟨#[]⟩, .int .i64 0, .string ⟨#[]⟩, .int .i64 0, .int .i64 0] 25)
            have hEl : V2.heap.size < (V2.alloc (.cells #[.int .i64 0, .string ⟨#[]⟩, .int .i64 0, .string ⟨#[]⟩, .int .i64 0, .int .i64 0] 25)).heap.size := by simp
            generalize V2.alloc (.cells #[.int .i64 0, .string ⟨#[]⟩, .int .i64 0, .string ⟨#[]⟩, .int .i64 0, .int .i64 0] 25) = V3 at S HV hEl ⊢
            generalize V2.heap.size = E at hDE hbE HV hEl ⊢
            refine ⟨fun _ => S.out.2, LexW.cons rfl ?_⟩
            try go_frame
            obtain ⟨z0, z1, z2, z3, z4, z5⟩ := known_box (r := knownZero) HV
            have zf0 := var_frozen HV 0
            have zf1 := var_frozen HV 1
            have zf2 := var_frozen HV 2
            have zf3 := var_frozen HV 3
            have zf4 := var_frozen HV 4
            have zf5 := var_frozen HV 5
            have ho := putK6_only V3 E ya yb yp yq ye yf
            have F2 := S.out.1.1.beside ho hDE
            have HE2 := setK6_box (k0 := knownZero) HV ya yb yp yq ye yf
            have C2 : (((((((V3.setCell ⟨E, 0, none⟩ (.int .i64 ya)).setCell ⟨E, 1, none⟩ (.string yb)).setCell ⟨E, 2, none⟩ (.int .i64 yp)).setCell ⟨E, 3, none⟩ (.string yq)).setCell ⟨E, 4, none⟩ (.int .i64 ye)).setCell ⟨E, 5, none⟩ (.int .i64 yf))).heap[D5]? = some (.cells (knownC ⟨xa, xb, xp, xq, xe, xf⟩).toArray 25 (0, 0)) ∧ (((((((V3.setCell ⟨E, 0, none⟩ (.int .i64 ya)).setCell ⟨E, 1, none⟩ (.string yb)).setCell ⟨E, 2, none⟩ (.int .i64 yp)).setCell ⟨E, 3, none⟩ (.string yq)).setCell ⟨E, 4, none⟩ (.int .i64 ye)).setCell ⟨E, 5, none⟩ (.int .i64 yf))).cell? ⟨b, off + j * 4, none⟩ = some (.int .i64 rk) ∧ (((((((V3.setCell ⟨E, 0, none⟩ (.int .i64 ya)).setCell ⟨E, 1, none⟩ (.string yb)).setCell ⟨E, 2, none⟩ (.int .i64 yp)).setCell ⟨E, 3, none⟩ (.string yq)).setCell ⟨E, 4, none⟩ (.int .i64 ye)).setCell ⟨E, 5, none⟩ (.int .i64 yf))).cell? ⟨b, off + j * 4 + 1, none⟩ = some (.int .i64 rn) ∧ (((((((V3.setCell ⟨E, 0, none⟩ (.int .i64 ya)).setCell ⟨E, 1, none⟩ (.string yb)).setCell ⟨E, 2, none⟩ (.int .i64 yp)).setCell ⟨E, 3, none⟩ (.string yq)).setCell ⟨E, 4, none⟩ (.int .i64 ye)).setCell ⟨E, 5, none⟩ (.int .i64 yf))).cell? ⟨b, off + j * 4 + 2, none⟩ = some (.int .i64 ro) ∧ (((((((V3.setCell ⟨E, 0, none⟩ (.int .i64 ya)).setCell ⟨E, 1, none⟩ (.string yb)).setCell ⟨E, 2, none⟩ (.int .i64 yp)).setCell ⟨E, 3, none⟩ (.string yq)).setCell ⟨E, 4, none⟩ (.int .i64 ye)).setCell ⟨E, 5, none⟩ (.int .i64 yf))).cell? ⟨b, off + j * 4 + 3, none⟩ = some (.string rt) := ⟨F2.xbox, (ho.cell (Nat.lt_trans hbE hEl) (by simp; omega)).trans S.out.2.2.1, (ho.cell (Nat.lt_trans hbE hEl) (by simp; omega)).trans S.out.2.2.2.1, (ho.cell (Nat.lt_trans hbE hEl) (by simp; omega)).trans S.out.2.2.2.2.1, (ho.cell (Nat.lt_trans hbE hEl) (by simp; omega)).trans S.out.2.2.2.2.2⟩
            clear ho S HV
            go_wp2_with fail
            generalize ((((((V3.setCell ⟨E, 0, none⟩ (.int .i64 ya)).setCell ⟨E, 1, none⟩ (.string yb)).setCell ⟨E, 2, none⟩ (.int .i64 yp)).setCell ⟨E, 3, none⟩ (.string yq)).setCell ⟨E, 4, none⟩ (.int .i64 ye)).setCell ⟨E, 5, none⟩ (.int .i64 yf)) = V4 at F2 HE2 C2 ⊢
            refine ⟨fun _ => C2, LexW.cons rfl ?_⟩
            clear z0 z1 z2 z3 z4 z5 zf0 zf1 zf2 zf3 zf4 zf5 C2
            try go_frame
            go_wp2_with fail
            refine ⟨fun h => absurd rfl h, LexW.nil (hK _ _ (Met.intro (hJ _ _ ?_)))⟩
            (repeat apply Exists.intro)
            refine ⟨?rel, rfl⟩
            case rel => exact ⟨E, rfl, rfl, F2, Lib.hid HE2, hDE⟩
          · refine lexA_get rfl ?_
            try go_frame
            go_wp2_with fail
            have hDE := S.out.1.1.lt
            have hbE := S.out.1.2
            have HV := heap_alloc_new V0 (.cells #[.int .i64 0, .string ⟨#[]⟩, .int .i64 0, .string ⟨#[]⟩, .int .i64 0, .int .i64 0] 25)
            replace S := S.alloc (.cells #[.int .i64 0, .string ⟨#[]⟩, .int .i64 0, .string ⟨#[]⟩, .int .i64 0, .int .i64 0] 25)
            generalize V0.alloc (.cells #[.int .i64 0, .string ⟨#[]⟩, .int .i64 0, .string ⟨#[]⟩, .int .i64 0, .int .i64 0] 25) = V1 at S HV ⊢
            generalize V0.heap.size = E at hDE hbE HV ⊢
            refine ⟨by first | exact S.out.2 | exact fun _ => S.out.2, ?_⟩
            refine wpAnyL_one (i := 5) (by kernel_rfl) ?_
            refine lexA_get rfl ?_
            try go_frame
            go_wp2_with fail
            refine (applyI_any ⟨xa, xb, xp, xq, xe, xf⟩ ⟨rk, rn, ro, rt⟩ V1 (Keeps.keeps (F := Given) S.out.1.1.below HG.out) HXZ.out.1 HXZ.out.2 HRT.out).mono ?_
            rw [HP.out]
            rintro e V3 hret
            obtain ⟨rfl, hb⟩ := hret.lit
            replace S := S.later hb
            replace HV := (hb.block _ (Array.getElem?_eq_some_iff.1 HV).1).trans HV
            have hEl : E < V3.heap.size := (Array.getElem?_eq_some_iff.1 HV).1
            clear hret hb
            go_wp2_with fail
            refine ⟨fun _ => S.out.2, ?_⟩
            refine wpAnyL_reads [6, 7, 8] (fuel := 2) (by kernel_rfl) S.out.2 ?_
            iterate 3 (refine LexR.cons rfl ?_ (fun w' hw => ?_) ?_; rotate_left; focus (clear hw; go_simp; (try exact rfl)); (try go_frame))
            refine LexR.nil (wpAnyL_writes [10, 11] (by kernel_rfl) (LexW.cons rfl ?_))
            try go_frame
            obtain ⟨z0, z1, z2, z3, z4, z5⟩ := known_box (r := knownZero) HV
            have zf0 := var_frozen HV 0
            have zf1 := var_frozen HV 1
            have zf2 := var_frozen HV 2
            have zf3 := var_frozen HV 3
            have zf4 := var_frozen HV 4
            have zf5 := var_frozen HV 5
            have ho := putK6_only V3 E ya yb yp yq ye yf
            have F2 := S.out.1.1.beside ho hDE
            have HE2 := setK6_box (k0 := knownZero) HV ya yb yp yq ye yf
            have C2 : (((((((V3.setCell ⟨E, 0, none⟩ (.int .i64 ya)).setCell ⟨E, 1, none⟩ (.string yb)).setCell ⟨E, 2, none⟩ (.int .i64 yp)).setCell ⟨E, 3, none⟩ (.string yq)).setCell ⟨E, 4, none⟩ (.int .i64 ye)).setCell ⟨E, 5, none⟩ (.int .i64 yf))).heap[D5]? = some (.cells (knownC ⟨xa, xb, xp, xq, xe, xf⟩).toArray 25 (0, 0)) ∧ (((((((V3.setCell ⟨E, 0, none⟩ (.int .i64 ya)).setCell ⟨E, 1, none⟩ (.string yb)).setCell ⟨E, 2, none⟩ (.int .i64 yp)).setCell ⟨E, 3, none⟩ (.string yq)).setCell ⟨E, 4, none⟩ (.int .i64 ye)).setCell ⟨E, 5, none⟩ (.int .i64 yf))).cell? ⟨b, off + j * 4, none⟩ = some (.int .i64 rk) ∧ (((((((V3.setCell ⟨E, 0, none⟩ (.int .i64 ya)).setCell ⟨E, 1, none⟩ (.string yb)).setCell ⟨E, 2, none⟩ (.int .i64 yp)).setCell ⟨E, 3, none⟩ (.string yq)).setCell ⟨E, 4, none⟩ (.int .i64 ye)).setCell ⟨E, 5, none⟩ (.int .i64 yf))).cell? ⟨b, off + j * 4 + 1, none⟩ = some (.int .i64 rn) ∧ (((((((V3.setCell ⟨E, 0, none⟩ (.int .i64 ya)).setCell ⟨E, 1, none⟩ (.string yb)).setCell ⟨E, 2, none⟩ (.int .i64 yp)).setCell ⟨E, 3, none⟩ (.string yq)).setCell ⟨E, 4, none⟩ (.int .i64 ye)).setCell ⟨E, 5, none⟩ (.int .i64 yf))).cell? ⟨b, off + j * 4 + 2, none⟩ = some (.int .i64 ro) ∧ (((((((V3.setCell ⟨E, 0, none⟩ (.int .i64 ya)).setCell ⟨E, 1, none⟩ (.string yb)).setCell ⟨E, 2, none⟩ (.int .i64 yp)).setCell ⟨E, 3, none⟩ (.string yq)).setCell ⟨E, 4, none⟩ (.int .i64 ye)).setCell ⟨E, 5, none⟩ (.int .i64 yf))).cell? ⟨b, off + j * 4 + 3, none⟩ = some (.string rt) := ⟨F2.xbox, (ho.cell (Nat.lt_trans hbE hEl) (by simp; omega)).trans S.out.2.2.1, (ho.cell (Nat.lt_trans hbE hEl) (by simp; omega)).trans S.out.2.2.2.1, (ho.cell (Nat.lt_trans hbE hEl) (by simp; omega)).trans S.out.2.2.2.2.1, (ho.cell (Nat.lt_trans hbE hEl) (by simp; omega)).trans S.out.2.2.2.2.2⟩
            clear ho S HV
            go_wp2_with fail
            generalize ((((((V3.setCell ⟨E, 0, none⟩ (.int .i64 ya)).setCell ⟨E, 1, none⟩ (.string yb)).setCell ⟨E, 2, none⟩ (.int .i64 yp)).setCell ⟨E, 3, none⟩ (.string yq)).setCell ⟨E, 4, none⟩ (.int .i64 ye)).setCell ⟨E, 5, none⟩ (.int .i64 yf)) = V4 at F2 HE2 C2 ⊢
            refine ⟨fun _ => C2, LexW.cons rfl ?_⟩
            clear z0 z1 z2 z3 z4 z5 zf0 zf1 zf2 zf3 zf4 zf5 C2
            try go_frame
            go_wp2_with fail
            refine ⟨fun h => absurd rfl h, LexW.nil (hK _ _ (Met.intro (hJ _ _ ?_)))⟩
            (repeat apply Exists.intro)
            refine ⟨?rel, rfl⟩
            case rel => exact ⟨E, rfl, rfl, F2, Lib.hid HE2, hDE⟩
        case rest =>
          clear F c0 c1 c2 c3
          obtain ⟨E, rfl, rfl, F, hE, hDE⟩ := hcut
          obtain ⟨b', off', r', he', hbl, hx', c0, c1, c2, c3⟩ := recs_elem F.recsAt hlt
          injection he' with he'
          injection he' with he1 he2
          subst he1 he2
          obtain rfl : (⟨rk, rn, ro, rt⟩ : Rec) = r' := by have := HX.out; rw [hx'] at this; injection this with this; exact this.symm
          clear hx'
          go_wp2_with fail
          refine (recOkI_any ⟨rk, rn, ro, rt⟩ wc (Keeps.keeps (F := Given) F.below HG.out) HRT.out).mono ?_
          rintro e W9 ⟨rfl, hb⟩
          rw [HRB.out]
          replace F := F.later hb
          replace hE := Keeps.keeps (F := fun w' => Hid (w'.heap[E]? = some (.cells (knownC ⟨ya, yb, yp, yq, ye, yf⟩).toArray 25 (0, 0)))) hb hE
          clear hb c0 c1 c2 c3
          obtain ⟨d0, d1, d2, d3, d4, d5⟩ := known_box (r := ⟨xa, xb, xp, xq, xe, xf⟩) F.xbox
          obtain ⟨e0, e1, e2, e3, e4, e5⟩ := known_box (r := ⟨ya, yb, yp, yq, ye, yf⟩) hE.out
          have df0 := var_frozen F.xbox 0
          have df1 := var_frozen F.xbox 1
          have df2 := var_frozen F.xbox 2
          have df3 := var_frozen F.xbox 3
          have df4 := var_frozen F.xbox 4
          have df5 := var_frozen F.xbox 5
          have hDl := F.lt
          have hEl : E < W9.heap.size := (Array.getElem?_eq_some_iff.1 hE.out).1
          have F2 := F.putX ya yb yp yq ye yf
          clear F
          go_wp2_with fail
          go_roundw
          case rel => exact ⟨j + 1, ⟨ya, yb, yp, yq, ye, yf⟩, by omega, by go_num, HYG, HC, F2⟩
          case measure => simp [intOf]; omega
      · have he : j = xs.length := by omega
        subst he
        obtain ⟨rfl, rfl, rfl, rfl, rfl, rfl⟩ : xa = ka ∧ xb = kb ∧ xp = kp ∧ xq = kq ∧ xe = ke ∧ xf = kf := by
          have h9 := hxc.out
          rw [List.drop_length] at h9
          injection h9 with h9
          injection h9 with h1 h2 h3 h4 h5 h6
          exact ⟨h1, h2, h3, h4, h5, h6⟩
        clear hxc HXS hj hlt
        go_upto_region 13 with (fail)
        have HRC := Lib.hid (HR.out.below F.below)
        go_wp2_with fail
        refine (drawApply_any a0 cap0 code wr (HRC.out.more F.below.size) hn).mono ?_
        rintro e W10 ⟨⟨aa, ab, ap, aq, ae, af⟩, ⟨rk, rn, ro, rt⟩, rfl, hsa, hsr, hb⟩
        replace F := F.later hb
        clear hb
        have F0 : All (fun w' => FK w D3 ⟨xa, xb, xp, xq, xe, xf⟩ A4 xs D5 ⟨xa, xb, xp, xq, xe, xf⟩ w') W10 := ⟨F⟩
        have S : All (fun w' => FK w D3 ⟨xa, xb, xp, xq, xe, xf⟩ A4 xs D5 ⟨xa, xb, xp, xq, xe, xf⟩ w' ∧ Hid (w'.heap[W10.heap.size]? = some (.cells (knownC ⟨aa, ab, ap, aq, ae, af⟩).toArray 25 (0, 0))) ∧ Hid (w'.heap[W10.heap.size + 1]? = some (.cells (recC ⟨rk, rn, ro, rt⟩).toArray 32 (0, 0)))) ((W10.alloc (.cells #[.int .i64 aa, .string ab, .int .i64 ap, .string aq, .int .i64 ae, .int .i64 af] 25)).alloc (.cells #[.int .i64 rk, .int .i64 rn, .int .i64 ro, .string rt] 32)) := ⟨((F0.alloc _).alloc _).out, Lib.hid ((Below.heap_alloc _ _ _ (by simp)).trans (heap_alloc_new W10 _)), Lib.hid (heap_alloc_new' _ _ (by simp))⟩
        have hl : W10.heap.size + 1 < ((W10.alloc (.cells #[.int .i64 aa, .string ab, .int .i64 ap, .string aq, .int .i64 ae, .int .i64 af] 25)).alloc (.cells #[.int .i64 rk, .int .i64 rn, .int .i64 ro, .string rt] 32)).heap.size := by simp
        clear F0 F
        go_upto_region 14 with (fail)
        generalize (W10.alloc (.cells #[.int .i64 aa, .string ab, .int .i64 ap, .string aq, .int .i64 ae, .int .i64 af] 25)).alloc (.cells #[.int .i64 rk, .int .i64 rn, .int .i64 ro, .string rt] 32) = W11 at S hl ⊢
        generalize W10.heap.size = DA at S hl ⊢
        obtain ⟨⟨⟨ba, bb, bp, bq, be, bf⟩, ok⟩, hp⟩ : ∃ p, applyP ⟨aa, ab, ap, aq, ae, af⟩ ⟨rk, rn, ro, rt⟩ = p := ⟨_, rfl⟩
        have HP := Lib.hid hp
        clear hp
        have HSA := Lib.hid (show ab.size ≤ 1048576 ∧ aq.size ≤ 1048576 by replace hsa : ab.size ≤ 100 ∧ aq.size ≤ 100 := hsa; omega)
        have HSR := Lib.hid (show rt.size ≤ 1048576 by replace hsr : rt.size ≤ 100 := hsr; omega)
        clear hsa hsr
        obtain ⟨d0, d1, d2, d3, d4, d5⟩ := known_box (r := ⟨aa, ab, ap, aq, ae, af⟩) S.out.2.1.out
        obtain ⟨e0, e1, e2, e3⟩ := rec_box (r := ⟨rk, rn, ro, rt⟩) S.out.2.2.out
        go_wp2_with fail
        clear d0 d1 d2 d3 d4 d5 e0 e1 e2 e3
        refine (applyI_any ⟨aa, ab, ap, aq, ae, af⟩ ⟨rk, rn, ro, rt⟩ W11 (Keeps.keeps (F := Given) S.out.1.below HG.out) HSA.out.1 HSA.out.2 HSR.out).mono ?_
        rw [HP.out]
        rintro e W12 hret
        obtain ⟨rfl, hb⟩ := hret.lit
        replace S := S.later hb
        have hl2 := Nat.lt_of_lt_of_le hl hb.size
        clear hret hb hl
        have S2 : All (fun w' => (FK w D3 ⟨xa, xb, xp, xq, xe, xf⟩ A4 xs D5 ⟨xa, xb, xp, xq, xe, xf⟩ w' ∧ Hid (w'.heap[DA]? = some (.cells (knownC ⟨aa, ab, ap, aq, ae, af⟩).toArray 25 (0, 0))) ∧ Hid (w'.heap[DA + 1]? = some (.cells (recC ⟨rk, rn, ro, rt⟩).toArray 32 (0, 0)))) ∧ Hid (w'.heap[W12.heap.size]? = some (.cells (knownC ⟨ba, bb, bp, bq, be, bf⟩).toArray 25 (0, 0)))) (W12.alloc (.cells #[.int .i64 ba, .string bb, .int .i64 bp, .string bq, .int .i64 be, .int .i64 bf] 25)) := ⟨(S.alloc _).out, Lib.hid (heap_alloc_new W12 _)⟩
        have hl3 : DA + 1 < (W12.alloc (.cells #[.int .i64 ba, .string bb, .int .i64 bp, .string bq, .int .i64 be, .int .i64 bf] 25)).heap.size := by simp; omega
        have hl4 : W12.heap.size < (W12.alloc (.cells #[.int .i64 ba, .string bb, .int .i64 bp, .string bq, .int .i64 be, .int .i64 bf] 25)).heap.size := by simp
        clear S hl2
        go_upto_region 15 with (fail)
        generalize W12.alloc (.cells #[.int .i64 ba, .string bb, .int .i64 bp, .string bq, .int .i64 be, .int .i64 bf] 25) = W13 at S2 hl3 hl4 ⊢
        generalize W12.heap.size = DB at S2 hl4 ⊢
        obtain ⟨d0, d1, d2, d3, d4, d5⟩ := known_box (r := ⟨aa, ab, ap, aq, ae, af⟩) S2.out.1.2.1.out
        obtain ⟨e0, e1, e2, e3⟩ := rec_box (r := ⟨rk, rn, ro, rt⟩) S2.out.1.2.2.out
        go_wp2_with fail
        clear d0 d1 d2 d3 d4 d5 e0 e1 e2 e3
        refine (applyS_any ⟨aa, ab, ap, aq, ae, af⟩ ⟨rk, rn, ro, rt⟩ W13).mono ?_
        rw [HP.out]
        rintro e W14 hret
        obtain ⟨rfl, hb⟩ := hret.lit
        replace S2 := S2.later hb
        replace hl3 := Nat.lt_of_lt_of_le hl3 hb.size
        replace hl4 := Nat.lt_of_lt_of_le hl4 hb.size
        clear hret hb
        have S3 : All (fun w' => ((FK w D3 ⟨xa, xb, xp, xq, xe, xf⟩ A4 xs D5 ⟨xa, xb, xp, xq, xe, xf⟩ w' ∧ Hid (w'.heap[DA]? = some (.cells (knownC ⟨aa, ab, ap, aq, ae, af⟩).toArray 25 (0, 0))) ∧ Hid (w'.heap[DA + 1]? = some (.cells (recC ⟨rk, rn, ro, rt⟩).toArray 32 (0, 0)))) ∧ Hid (w'.heap[DB]? = some (.cells (knownC ⟨ba, bb, bp, bq, be, bf⟩).toArray 25 (0, 0)))) ∧ Hid (w'.heap[W14.heap.size]? = some (.cells (knownC ⟨ba, bb, bp, bq, be, bf⟩).toArray 25 (0, 0)))) (W14.alloc (.cells #[.int .i64 ba, .string bb, .int .i64 bp, .string bq, .int .i64 be, .int .i64 bf] 25)) := ⟨(S2.alloc _).out, Lib.hid (heap_alloc_new W14 _)⟩
        have hl5 : DA + 1 < (W14.alloc (.cells #[.int .i64 ba, .string bb, .int .i64 bp, .string bq, .int .i64 be, .int .i64 bf] 25)).heap.size := by simp; omega
        have hl6 : DB < (W14.alloc (.cells #[.int .i64 ba, .string bb, .int .i64 bp, .string bq, .int .i64 be, .int .i64 bf] 25)).heap.size := by simp; omega
        have hl7 : W14.heap.size < (W14.alloc (.cells #[.int .i64 ba, .string bb, .int .i64 bp, .string bq, .int .i64 be, .int .i64 bf] 25)).heap.size := by simp
        clear S2 hl3 hl4
        go_upto_region 16 with (fail)
        generalize W14.alloc (.cells #[.int .i64 ba, .string bb, .int .i64 bp, .string bq, .int .i64 be, .int .i64 bf] 25) = W15 at S3 hl5 hl6 hl7 ⊢
        generalize W14.heap.size = DC at S3 hl7 ⊢
        have oo : (ok != ok) = false := by simp
        obtain ⟨b0, b1, b2, b3, b4, b5⟩ := known_box (r := ⟨ba, bb, bp, bq, be, bf⟩) S3.out.1.2.out
        obtain ⟨c0, c1, c2, c3, c4', c5⟩ := known_box (r := ⟨ba, bb, bp, bq, be, bf⟩) S3.out.2.out
        have G1 := fun a b w => known_guard .neq a b ⟨ba, bb, bp, bq, be, bf⟩ ⟨ba, bb, bp, bq, be, bf⟩ w
        have G2 := fun w => known_equal ⟨ba, bb, bp, bq, be, bf⟩ ⟨ba, bb, bp, bq, be, bf⟩ w
        rw [knownEqB_self] at G2
        unfold knownC at G1 G2
        go_upto_region 18 with (fail)
        clear b0 b1 b2 b3 b4 b5 c0 c1 c2 c3 c4' c5 G1 G2 oo
        have HKX := Lib.hid (knownB_iff.2 hxg.out)
        have HXM := Lib.hid (show xb.size ≤ 1048576 ∧ xq.size ≤ 1048576 by have := HSM.out; omega)
        obtain ⟨ya, hya⟩ : ∃ y, knownB ⟨aa, ab, ap, aq, ae, af⟩ = y := ⟨_, rfl⟩
        have HKA := Lib.hid hya
        have yy : (ya == ya) = true := by simp
        clear hya
        have G1 := fun a b w => known_guard .eql a b ⟨xa, xb, xp, xq, xe, xf⟩ ⟨xa, xb, xp, xq, xe, xf⟩ w
        have G2 := fun w => known_equal ⟨xa, xb, xp, xq, xe, xf⟩ ⟨xa, xb, xp, xq, xe, xf⟩ w
        rw [knownEqB_self] at G2
        unfold knownC at G1 G2
        cases ok
        · have hba := apply_no HP.out
          injection hba with h1 h2 h3 h4 h5 h6
          subst h1 h2 h3 h4 h5 h6
          have G3 := fun a b w => known_guard .eql a b ⟨ba, bb, bp, bq, be, bf⟩ ⟨ba, bb, bp, bq, be, bf⟩ w
          have G4 := fun w => known_equal ⟨ba, bb, bp, bq, be, bf⟩ ⟨ba, bb, bp, bq, be, bf⟩ w
          rw [knownEqB_self] at G4
          unfold knownC at G3 G4
          have T : All (fun w' => Below w.heap.size w w' ∧ (w'.heap[D5]? = some (.cells (knownC ⟨xa, xb, xp, xq, xe, xf⟩).toArray 25 (0, 0)) ∧ w'.heap[D3]? = some (.cells (knownC ⟨xa, xb, xp, xq, xe, xf⟩).toArray 25 (0, 0)) ∧ w'.heap[DA]? = some (.cells (knownC ⟨ba, bb, bp, bq, be, bf⟩).toArray 25 (0, 0)) ∧ w'.heap[DB]? = some (.cells (knownC ⟨ba, bb, bp, bq, be, bf⟩).toArray 25 (0, 0)) ∧ w'.heap[DA + 1]? = some (.cells (recC ⟨rk, rn, ro, rt⟩).toArray 32 (0, 0)))) W15 := ⟨S3.out.1.1.1.below, S3.out.1.1.1.xbox, S3.out.1.1.1.kbox, S3.out.1.1.2.1.out, S3.out.1.2.out, S3.out.1.1.2.2.out⟩
          clear S3 hl5 hl6 hl7
          refine wp_region_open 68 (fun w' => w'.heap[D5]? = some (.cells (knownC ⟨xa, xb, xp, xq, xe, xf⟩).toArray 25 (0, 0)) ∧ w'.heap[D3]? = some (.cells (knownC ⟨xa, xb, xp, xq, xe, xf⟩).toArray 25 (0, 0)) ∧ w'.heap[DA]? = some (.cells (knownC ⟨ba, bb, bp, bq, be, bf⟩).toArray 25 (0, 0)) ∧ w'.heap[DB]? = some (.cells (knownC ⟨ba, bb, bp, bq, be, bf⟩).toArray 25 (0, 0)) ∧ w'.heap[DA + 1]? = some (.cells (recC ⟨rk, rn, ro, rt⟩).toArray 32 (0, 0))) (by kernel_rfl) ?_
          replace T := T.drew
          refine wpAnyL_readsG [0, 1, 2, 3, 4] (fuel := 64) (by kernel_rfl) T.out.2 ?_
          refine LexRG.yes rfl (by first | rfl | (simp [Region.wanted, yielded]; done)) ?_ (fun w' hw => ?_) ?_
          rotate_left
          focus (obtain ⟨hw1, hw2, hw3, hw4, hw5⟩ := hw; obtain ⟨d0, d1, d2, d3, d4, d5⟩ := known_box (r := ⟨xa, xb, xp, xq, xe, xf⟩) hw1; clear hw1 hw2 hw3 hw4 hw5; go_simp; (try exact rfl))
          try go_frame
          refine LexRG.yes rfl (by first | rfl | (simp [Region.wanted, yielded]; done)) ?_ (fun w' hw => ?_) ?_
          rotate_left
          focus (obtain ⟨hw1, hw2, hw3, hw4, hw5⟩ := hw; obtain ⟨d0, d1, d2, d3, d4, d5⟩ := known_box (r := ⟨xa, xb, xp, xq, xe, xf⟩) hw2; clear hw1 hw2 hw3 hw4 hw5; go_simp; (try exact rfl))
          try go_frame
          refine LexRG.yes rfl (by first | rfl | (simp [Region.wanted, yielded]; done)) ?_ (fun w' hw => ?_) ?_
          rotate_left
          focus (clear hw; go_simp; (try exact rfl))
          try go_frame
          refine LexRG.yes rfl (by first | rfl | (simp [Region.wanted, yielded]; done)) ?_ (fun w' hw => ?_) ?_
          rotate_left
          focus (clear hw; go_simp; (try exact rfl))
          try go_frame
          refine LexRG.yes rfl (by first | rfl | (simp [Region.wanted, yielded]; done)) ?_ (fun w' hw => ?_) ?_
          rotate_left
          focus (obtain ⟨hw1, hw2, hw3, hw4, hw5⟩ := hw; obtain ⟨d0, d1, d2, d3, d4, d5⟩ := known_box (r := ⟨xa, xb, xp, xq, xe, xf⟩) hw2; clear hw1 hw2 hw3 hw4 hw5; go_simp; (try exact rfl))
          try go_frame
          refine LexRG.nil ?_
          refine wpAnyL_one (i := 5) (by kernel_rfl) ?_
          refine lexA_get rfl ?_
          try go_frame
          go_wp2_with fail
          refine (knownOkI_any ⟨xa, xb, xp, xq, xe, xf⟩ W15.drew (Keeps.keeps (F := Given) T.out.1 HG.out) HXM.out.1 HXM.out.2).mono ?_
          rintro e V1 ⟨rfl, hb⟩
          rw [HKX.out]
          replace T := T.later hb
          clear hb
          go_wp2_with fail
          refine ⟨fun _ => T.out.2, ?_⟩
          refine wpAnyL_readsG [6, 7, 8, 9, 10, 11] (fuel := 57) (by kernel_rfl) T.out.2 ?_
          refine LexRG.yes rfl (by first | rfl | (simp [Region.wanted, yielded]; done)) ?_ (fun w' hw => ?_) ?_
          rotate_left
          focus (clear hw; go_simp; (try exact rfl))
          try go_frame
          refine LexRG.yes rfl (by first | rfl | (simp [Region.wanted, yielded]; done)) ?_ (fun w' hw => ?_) ?_
          rotate_left
          focus (clear hw; go_simp; (try exact rfl))
          try go_frame
          refine LexRG.yes rfl (by first | rfl | (simp [Region.wanted, yielded]; done)) ?_ (fun w' hw => ?_) ?_
          rotate_left
          focus (clear hw; go_simp; (try exact rfl))
          try go_frame
          refine LexRG.yes rfl (by first | rfl | (simp [Region.wanted, yielded]; done)) ?_ (fun w' hw => ?_) ?_
          rotate_left
          focus (clear hw; go_simp; (try exact rfl))
          try go_frame
          refine LexRG.yes rfl (by first | rfl | (simp [Region.wanted, yielded]; done)) ?_ (fun w' hw => ?_) ?_
          rotate_left
          focus (clear hw; go_simp; (try exact rfl))
          try go_frame
          refine LexRG.no rfl (by first | rfl | (simp [Region.wanted, yielded]; done)) ?_
          try go_frame
          refine LexRG.nil ?_
          refine wpAnyL_one (i := 12) (by kernel_rfl) ?_
          refine lexA_get rfl ?_
          try go_frame
          go_wp2_with fail
          refine ⟨fun _ => T.out.2, ?_⟩
          refine wpAnyL_readsG [13, 14, 15, 16, 17, 18, 19, 20, 21, 22, 23, 24, 25, 26, 27, 28, 29, 30, 31, 32, 33, 34, 35, 36, 37, 38, 39, 40, 41, 42, 43, 44, 45, 46, 47, 48, 49, 50, 51, 52, 53, 54, 55, 56, 57, 58, 59, 60, 61, 62, 64] (fuel := 5) (by kernel_rfl) T.out.2 ?_
          refine LexRG.no rfl (by first | rfl | (simp [Region.wanted, yielded]; done)) ?_
          try go_frame
          refine LexRG.no rfl (by first | rfl | (simp [Region.wanted, yielded]; done)) ?_
          try go_frame
          refine LexRG.no rfl (by first | rfl | (simp [Region.wanted, yielded]; done)) ?_
          try go_frame
          refine LexRG.no rfl (by first | rfl | (simp [Region.wanted, yielded]; done)) ?_
          try go_frame
          refine LexRG.no rfl (by first | rfl | (simp [Region.wanted, yielded]; done)) ?_
          try go_frame
          refine LexRG.no rfl (by first | rfl | (simp [Region.wanted, yielded]; done)) ?_
          try go_frame
          refine LexRG.no rfl (by first | rfl | (simp [Region.wanted, yielded]; done)) ?_
          try go_frame
          refine LexRG.no rfl (by first | rfl | (simp [Region.wanted, yielded]; done)) ?_
          try go_frame
          refine LexRG.no rfl (by first | rfl | (simp [Region.wanted, yielded]; done)) ?_
          try go_frame
          refine LexRG.no rfl (by first | rfl | (simp [Region.wanted, yielded]; done)) ?_
          try go_frame
          refine LexRG.no rfl (by first | rfl | (simp [Region.wanted, yielded]; done)) ?_
          try go_frame
          refine LexRG.no rfl (by first | rfl | (simp [Region.wanted, yielded]; done)) ?_
          try go_frame
          refine LexRG.no rfl (by first | rfl | (simp [Region.wanted, yielded]; done)) ?_
          try go_frame
          refine LexRG.no rfl (by first | rfl | (simp [Region.wanted, yielded]; done)) ?_
          try go_frame
          refine LexRG.no rfl (by first | rfl | (simp [Region.wanted, yielded]; done)) ?_
          try go_frame
          refine LexRG.no rfl (by first | rfl | (simp [Region.wanted, yielded]; done)) ?_
          try go_frame
          refine LexRG.no rfl (by first | rfl | (simp [Region.wanted, yielded]; done)) ?_
          try go_frame
          refine LexRG.no rfl (by first | rfl | (simp [Region.wanted, yielded]; done)) ?_
          try go_frame
          refine LexRG.no rfl (by first | rfl | (simp [Region.wanted, yielded]; done)) ?_
          try go_frame
          refine LexRG.no rfl (by first | rfl | (simp [Region.wanted, yielded]; done)) ?_
          try go_frame
          refine LexRG.no rfl (by first | rfl | (simp [Region.wanted, yielded]; done)) ?_
          try go_frame
          refine LexRG.no rfl (by first | rfl | (simp [Region.wanted, yielded]; done)) ?_
          try go_frame
          refine LexRG.no rfl (by first | rfl | (simp [Region.wanted, yielded]; done)) ?_
          try go_frame
          refine LexRG.no rfl (by first | rfl | (simp [Region.wanted, yielded]; done)) ?_
          try go_frame
          refine LexRG.no rfl (by first | rfl | (simp [Region.wanted, yielded]; done)) ?_
          try go_frame
          refine LexRG.no rfl (by first | rfl | (simp [Region.wanted, yielded]; done)) ?_
          try go_frame
          refine LexRG.no rfl (by first | rfl | (simp [Region.wanted, yielded]; done)) ?_
          try go_frame
          refine LexRG.no rfl (by first | rfl | (simp [Region.wanted, yielded]; done)) ?_
          try go_frame
          refine LexRG.no rfl (by first | rfl | (simp [Region.wanted, yielded]; done)) ?_
          try go_frame
          refine LexRG.no rfl (by first | rfl | (simp [Region.wanted, yielded]; done)) ?_
          try go_frame
          refine LexRG.no rfl (by first | rfl | (simp [Region.wanted, yielded]; done)) ?_
          try go_frame
          refine LexRG.no rfl (by first | rfl | (simp [Region.wanted, yielded]; done)) ?_
          try go_frame
          refine LexRG.no rfl (by first | rfl | (simp [Region.wanted, yielded]; done)) ?_
          try go_frame
          refine LexRG.no rfl (by first | rfl | (simp [Region.wanted, yielded]; done)) ?_
          try go_frame
          refine LexRG.no rfl (by first | rfl | (simp [Region.wanted, yielded]; done)) ?_
          try go_frame
          refine LexRG.no rfl (by first | rfl | (simp [Region.wanted, yielded]; done)) ?_
          try go_frame
          refine LexRG.no rfl (by first | rfl | (simp [Region.wanted, yielded]; done)) ?_
          try go_frame
          refine LexRG.no rfl (by first | rfl | (simp [Region.wanted, yielded]; done)) ?_
          try go_frame
          refine LexRG.yes rfl (by first | rfl | (simp [Region.wanted, yielded]; done)) ?_ (fun w' hw => ?_) ?_
          rotate_left
          focus (clear hw; go_simp; (try exact rfl))
          try go_frame
          refine LexRG.yes rfl (by first | rfl | (simp [Region.wanted, yielded]; done)) ?_ (fun w' hw => ?_) ?_
          rotate_left
          focus (clear hw; go_simp; (try exact rfl))
          try go_frame
          refine LexRG.yes rfl (by first | rfl | (simp [Region.wanted, yielded]; done)) ?_ (fun w' hw => ?_) ?_
          rotate_left
          focus (clear hw; go_simp; (try exact rfl))
          try go_frame
          refine LexRG.yes rfl (by first | rfl | (simp [Region.wanted, yielded]; done)) ?_ (fun w' hw => ?_) ?_
          rotate_left
          focus (clear hw; go_simp; (try exact rfl))
          try go_frame
          refine LexRG.yes rfl (by first | rfl | (simp [Region.wanted, yielded]; done)) ?_ (fun w' hw => ?_) ?_
          rotate_left
          focus (clear hw; go_simp; (try exact rfl))
          try go_frame
          refine LexRG.yes rfl (by first | rfl | (simp [Region.wanted, yielded]; done)) ?_ (fun w' hw => ?_) ?_
          rotate_left
          focus (obtain ⟨hw1, hw2, hw3, hw4, hw5⟩ := hw; obtain ⟨d0, d1, d2, d3, d4, d5⟩ := known_box (r := ⟨ba, bb, bp, bq, be, bf⟩) hw4; clear hw1 hw2 hw3 hw4 hw5; go_simp; (try exact rfl))
          try go_frame
          refine LexRG.yes rfl (by first | rfl | (simp [Region.wanted, yielded]; done)) ?_ (fun w' hw => ?_) ?_
          rotate_left
          focus (obtain ⟨hw1, hw2, hw3, hw4, hw5⟩ := hw; obtain ⟨d0, d1, d2, d3, d4, d5⟩ := known_box (r := ⟨ba, bb, bp, bq, be, bf⟩) hw3; clear hw1 hw2 hw3 hw4 hw5; go_simp; (try exact rfl))
          try go_frame
          refine LexRG.yes rfl (by first | rfl | (simp [Region.wanted, yielded]; done)) ?_ (fun w' hw => ?_) ?_
          rotate_left
          focus (clear hw; go_simp; (try exact rfl))
          try go_frame
          refine LexRG.yes rfl (by first | rfl | (simp [Region.wanted, yielded]; done)) ?_ (fun w' hw => ?_) ?_
          rotate_left
          focus (clear hw; go_simp; (try exact rfl))
          try go_frame
          refine LexRG.yes rfl (by first | rfl | (simp [Region.wanted, yielded]; done)) ?_ (fun w' hw => ?_) ?_
          rotate_left
          focus (clear hw; go_simp; (try exact rfl))
          try go_frame
          refine LexRG.yes rfl (by first | rfl | (simp [Region.wanted, yielded]; done)) ?_ (fun w' hw => ?_) ?_
          rotate_left
          focus (clear hw; go_simp; (try exact rfl))
          try go_frame
          refine LexRG.yes rfl (by first | rfl | (simp [Region.wanted, yielded]; done)) ?_ (fun w' hw => ?_) ?_
          rotate_left
          focus (obtain ⟨hw1, hw2, hw3, hw4, hw5⟩ := hw; obtain ⟨d0, d1, d2, d3, d4, d5⟩ := known_box (r := ⟨ba, bb, bp, bq, be, bf⟩) hw3; clear hw1 hw2 hw3 hw4 hw5; go_simp; (try exact rfl))
          try go_frame
          refine LexRG.yes rfl (by first | rfl | (simp [Region.wanted, yielded]; done)) ?_ (fun w' hw => ?_) ?_
          rotate_left
          focus (obtain ⟨hw1, hw2, hw3, hw4, hw5⟩ := hw; obtain ⟨d0, d1, d2, d3, d4, d5⟩ := known_box (r := ⟨ba, bb, bp, bq, be, bf⟩) hw3; clear hw1 hw2 hw3 hw4 hw5; go_simp; (try exact rfl))
          try go_frame
          refine LexRG.nil ?_
          refine wpAnyL_one (i := 63) (by kernel_rfl) ?_
          refine lexA_get rfl ?_
          try go_frame
          go_wp2_with fail
          refine (knownOkI_any ⟨ba, bb, bp, bq, be, bf⟩ V1 (Keeps.keeps (F := Given) T.out.1 HG.out) HSA.out.1 HSA.out.2).mono ?_
          rintro e V2 ⟨rfl, hb⟩
          rw [HKA.out]
          replace T := T.later hb
          clear hb
          go_wp2_with fail
          refine ⟨fun _ => T.out.2, ?_⟩
          refine wpAnyL_one (i := 65) (by kernel_rfl) ?_
          refine lexA_get rfl ?_
          try go_frame
          go_wp2_with fail
          refine (knownOkS_any ⟨ba, bb, bp, bq, be, bf⟩ V2).mono ?_
          rintro e V3 ⟨rfl, hb⟩
          rw [HKA.out]
          replace T := T.later hb
          clear hb
          go_wp2_with fail
          refine ⟨fun _ => T.out.2, ?_⟩
          refine wpAnyL_readsG [66, 67] (fuel := 1) (by kernel_rfl) T.out.2 ?_
          refine LexRG.yes rfl (by first | rfl | (simp [Region.wanted, yielded]; done)) ?_ (fun w' hw => ?_) ?_
          rotate_left
          focus (clear hw; go_simp; (try exact rfl))
          try go_frame
          refine LexRG.yes rfl (by first | rfl | (simp [Region.wanted, yielded]; done)) ?_ (fun w' hw => ?_) ?_
          rotate_left
          focus (clear hw; go_simp; (try exact rfl))
          try go_frame
          refine LexRG.nil ?_
          have hfin := T.out.1
          refine wpAnyL_writes [68] (by kernel_rfl) (LexW.cons rfl ?_)
          try go_frame
          go_wp2_with fail
          refine ⟨fun h => absurd rfl h, LexW.nil ?_⟩
          go_wp2_with fail
          go_ret
          exact ⟨rfl, hfin⟩
        · obtain ⟨_, _, hbg, hge, hee, hsame⟩ := apply_yes HP.out
          replace hge : aa ≤ ba := hge
          replace hee : ae ≤ be := hee
          have hbz := good_sizes hbg
          replace hbz : bb.size ≤ 100 ∧ bq.size ≤ 100 := hbz
          have HBM := Lib.hid (show bb.size ≤ 1048576 ∧ bq.size ≤ 1048576 by omega)
          have HKB := Lib.hid (knownB_iff.2 hbg)
          have HSAME := Lib.hid hsame
          clear hbg hbz hsame
          obtain ⟨q, hq⟩ : ∃ q, knownEqB ⟨ba, bb, bp, bq, be, bf⟩ ⟨aa, ab, ap, aq, ae, af⟩ = q := ⟨_, rfl⟩
          have G3 := fun a b w => known_guard .neq a b ⟨ba, bb, bp, bq, be, bf⟩ ⟨aa, ab, ap, aq, ae, af⟩ w
          have G4 := fun w => known_equal ⟨ba, bb, bp, bq, be, bf⟩ ⟨aa, ab, ap, aq, ae, af⟩ w
          rw [hq] at G4
          unfold knownC at G3 G4
          cases q
          · clear hq HSAME
            have T : All (fun w' => Below w.heap.size w w' ∧ (w'.heap[D5]? = some (.cells (knownC ⟨xa, xb, xp, xq, xe, xf⟩).toArray 25 (0, 0)) ∧ w'.heap[D3]? = some (.cells (knownC ⟨xa, xb, xp, xq, xe, xf⟩).toArray 25 (0, 0)) ∧ w'.heap[DA]? = some (.cells (knownC ⟨aa, ab, ap, aq, ae, af⟩).toArray 25 (0, 0)) ∧ w'.heap[DB]? = some (.cells (knownC ⟨ba, bb, bp, bq, be, bf⟩).toArray 25 (0, 0)) ∧ w'.heap[DA + 1]? = some (.cells (recC ⟨rk, rn, ro, rt⟩).toArray 32 (0, 0)))) W15 := ⟨S3.out.1.1.1.below, S3.out.1.1.1.xbox, S3.out.1.1.1.kbox, S3.out.1.1.2.1.out, S3.out.1.2.out, S3.out.1.1.2.2.out⟩
            clear S3 hl5 hl6 hl7
            refine wp_region_open 68 (fun w' => w'.heap[D5]? = some (.cells (knownC ⟨xa, xb, xp, xq, xe, xf⟩).toArray 25 (0, 0)) ∧ w'.heap[D3]? = some (.cells (knownC ⟨xa, xb, xp, xq, xe, xf⟩).toArray 25 (0, 0)) ∧ w'.heap[DA]? = some (.cells (knownC ⟨aa, ab, ap, aq, ae, af⟩).toArray 25 (0, 0)) ∧ w'.heap[DB]? = some (.cells (knownC ⟨ba, bb, bp, bq, be, bf⟩).toArray 25 (0, 0)) ∧ w'.heap[DA + 1]? = some (.cells (recC ⟨rk, rn, ro, rt⟩).toArray 32 (0, 0))) (by kernel_rfl) ?_
            replace T := T.drew
            refine wpAnyL_readsG [0, 1, 2, 3, 4] (fuel := 64) (by kernel_rfl) T.out.2 ?_
            refine LexRG.yes rfl (by first | rfl | (simp [Region.wanted, yielded]; done)) ?_ (fun w' hw => ?_) ?_
            rotate_left
            focus (obtain ⟨hw1, hw2, hw3, hw4, hw5⟩ := hw; obtain ⟨d0, d1, d2, d3, d4, d5⟩ := known_box (r := ⟨xa, xb, xp, xq, xe, xf⟩) hw1; clear hw1 hw2 hw3 hw4 hw5; go_simp; (try exact rfl))
            try go_frame
            refine LexRG.yes rfl (by first | rfl | (simp [Region.wanted, yielded]; done)) ?_ (fun w' hw => ?_) ?_
            rotate_left
            focus (obtain ⟨hw1, hw2, hw3, hw4, hw5⟩ := hw; obtain ⟨d0, d1, d2, d3, d4, d5⟩ := known_box (r := ⟨xa, xb, xp, xq, xe, xf⟩) hw2; clear hw1 hw2 hw3 hw4 hw5; go_simp; (try exact rfl))
            try go_frame
            refine LexRG.yes rfl (by first | rfl | (simp [Region.wanted, yielded]; done)) ?_ (fun w' hw => ?_) ?_
            rotate_left
            focus (clear hw; go_simp; (try exact rfl))
            try go_frame
            refine LexRG.yes rfl (by first | rfl | (simp [Region.wanted, yielded]; done)) ?_ (fun w' hw => ?_) ?_
            rotate_left
            focus (clear hw; go_simp; (try exact rfl))
            try go_frame
            refine LexRG.yes rfl (by first | rfl | (simp [Region.wanted, yielded]; done)) ?_ (fun w' hw => ?_) ?_
            rotate_left
            focus (obtain ⟨hw1, hw2, hw3, hw4, hw5⟩ := hw; obtain ⟨d0, d1, d2, d3, d4, d5⟩ := known_box (r := ⟨xa, xb, xp, xq, xe, xf⟩) hw2; clear hw1 hw2 hw3 hw4 hw5; go_simp; (try exact rfl))
            try go_frame
            refine LexRG.nil ?_
            refine wpAnyL_one (i := 5) (by kernel_rfl) ?_
            refine lexA_get rfl ?_
            try go_frame
            go_wp2_with fail
            refine (knownOkI_any ⟨xa, xb, xp, xq, xe, xf⟩ W15.drew (Keeps.keeps (F := Given) T.out.1 HG.out) HXM.out.1 HXM.out.2).mono ?_
            rintro e V1 ⟨rfl, hb⟩
            rw [HKX.out]
            replace T := T.later hb
            clear hb
            go_wp2_with fail
            refine ⟨fun _ => T.out.2, ?_⟩
            refine wpAnyL_readsG [6, 7, 8, 9, 10, 11] (fuel := 57) (by kernel_rfl) T.out.2 ?_
            refine LexRG.yes rfl (by first | rfl | (simp [Region.wanted, yielded]; done)) ?_ (fun w' hw => ?_) ?_
            rotate_left
            focus (clear hw; go_simp; (try exact rfl))
            try go_frame
            refine LexRG.yes rfl (by first | rfl | (simp [Region.wanted, yielded]; done)) ?_ (fun w' hw => ?_) ?_
            rotate_left
            focus (clear hw; go_simp; (try exact rfl))
            try go_frame
            refine LexRG.yes rfl (by first | rfl | (simp [Region.wanted, yielded]; done)) ?_ (fun w' hw => ?_) ?_
            rotate_left
            focus (clear hw; go_simp; (try exact rfl))
            try go_frame
            refine LexRG.yes rfl (by first | rfl | (simp [Region.wanted, yielded]; done)) ?_ (fun w' hw => ?_) ?_
            rotate_left
            focus (clear hw; go_simp; (try exact rfl))
            try go_frame
            refine LexRG.yes rfl (by first | rfl | (simp [Region.wanted, yielded]; done)) ?_ (fun w' hw => ?_) ?_
            rotate_left
            focus (clear hw; go_simp; (try exact rfl))
            try go_frame
            refine LexRG.yes rfl (by first | rfl | (simp [Region.wanted, yielded]; done)) ?_ (fun w' hw => ?_) ?_
            rotate_left
            focus (obtain ⟨hw1, hw2, hw3, hw4, hw5⟩ := hw; obtain ⟨d0, d1, d2, d3, d4, d5⟩ := known_box (r := ⟨ba, bb, bp, bq, be, bf⟩) hw4; clear hw1 hw2 hw3 hw4 hw5; go_simp; (try exact rfl))
            try go_frame
            refine LexRG.nil ?_
            refine wpAnyL_one (i := 12) (by kernel_rfl) ?_
            refine lexA_get rfl ?_
            try go_frame
            go_wp2_with fail
            refine (knownOkI_any ⟨ba, bb, bp, bq, be, bf⟩ V1 (Keeps.keeps (F := Given) T.out.1 HG.out) HBM.out.1 HBM.out.2).mono ?_
            rintro e V2 ⟨rfl, hb⟩
            rw [HKB.out]
            replace T := T.later hb
            clear hb
            go_wp2_with fail
            refine ⟨fun _ => T.out.2, ?_⟩
            refine wpAnyL_readsG [13, 14, 15, 16, 17, 18, 19, 20, 21, 22, 23, 24, 25, 26, 27, 28, 29, 30, 31, 32, 33, 34, 35, 36, 37, 38, 39, 40, 41, 42, 43, 44, 45, 46, 47, 48, 49, 50, 51, 52, 53, 54, 55, 56, 57, 58, 59, 60, 61, 62, 64] (fuel := 5) (by kernel_rfl) T.out.2 ?_
            refine LexRG.yes rfl (by first | rfl | (simp [Region.wanted, yielded]; done)) ?_ (fun w' hw => ?_) ?_
            rotate_left
            focus (clear hw; go_simp; (try exact rfl))
            try go_frame
            refine LexRG.yes rfl (by first | rfl | (simp [Region.wanted, yielded]; done)) ?_ (fun w' hw => ?_) ?_
            rotate_left
            focus (clear hw; go_simp; (try exact rfl))
            try go_frame
            refine LexRG.yes rfl (by first | rfl | (simp [Region.wanted, yielded]; done)) ?_ (fun w' hw => ?_) ?_
            rotate_left
            focus (obtain ⟨hw1, hw2, hw3, hw4, hw5⟩ := hw; obtain ⟨d0, d1, d2, d3, d4, d5⟩ := known_box (r := ⟨ba, bb, bp, bq, be, bf⟩) hw4; clear hw1 hw2 hw3 hw4 hw5; go_simp; (try exact rfl))
            try go_frame
            refine LexRG.yes rfl (by first | rfl | (simp [Region.wanted, yielded]; done)) ?_ (fun w' hw => ?_) ?_
            rotate_left
            focus (clear hw; go_simp; (try exact rfl))
            try go_frame
            refine LexRG.yes rfl (by first | rfl | (simp [Region.wanted, yielded]; done)) ?_ (fun w' hw => ?_) ?_
            rotate_left
            focus (obtain ⟨hw1, hw2, hw3, hw4, hw5⟩ := hw; obtain ⟨d0, d1, d2, d3, d4, d5⟩ := known_box (r := ⟨aa, ab, ap, aq, ae, af⟩) hw3; clear hw1 hw2 hw3 hw4 hw5; go_simp; (try exact rfl))
            try go_frame
            refine LexRG.yes rfl (by first | rfl | (simp [Region.wanted, yielded]; done)) ?_ (fun w' hw => ?_) ?_
            rotate_left
            focus (clear hw; go_simp; (try exact rfl))
            try go_frame
            refine LexRG.yes rfl (by first | rfl | (simp [Region.wanted, yielded]; done)) ?_ (fun w' hw => ?_) ?_
            rotate_left
            focus (clear hw; go_simp; (try exact rfl))
            try go_frame
            refine LexRG.yes rfl (by first | rfl | (simp [Region.wanted, yielded]; done)) ?_ (fun w' hw => ?_) ?_
            rotate_left
            focus (clear hw; go_simp; (try exact rfl))
            try go_frame
            refine LexRG.yes rfl (by first | rfl | (simp [Region.wanted, yielded]; done)) ?_ (fun w' hw => ?_) ?_
            rotate_left
            focus (clear hw; go_simp; (try exact rfl))
            try go_frame
            refine LexRG.yes rfl (by first | rfl | (simp [Region.wanted, yielded]; done)) ?_ (fun w' hw => ?_) ?_
            rotate_left
            focus (obtain ⟨hw1, hw2, hw3, hw4, hw5⟩ := hw; obtain ⟨d0, d1, d2, d3, d4, d5⟩ := known_box (r := ⟨ba, bb, bp, bq, be, bf⟩) hw4; clear hw1 hw2 hw3 hw4 hw5; go_simp; (try exact rfl))
            try go_frame
            refine LexRG.yes rfl (by first | rfl | (simp [Region.wanted, yielded]; done)) ?_ (fun w' hw => ?_) ?_
            rotate_left
            focus (clear hw; go_simp; (try exact rfl))
            try go_frame
            refine LexRG.yes rfl (by first | rfl | (simp [Region.wanted, yielded]; done)) ?_ (fun w' hw => ?_) ?_
            rotate_left
            focus (obtain ⟨hw1, hw2, hw3, hw4, hw5⟩ := hw; obtain ⟨d0, d1, d2, d3, d4, d5⟩ := known_box (r := ⟨aa, ab, ap, aq, ae, af⟩) hw3; clear hw1 hw2 hw3 hw4 hw5; go_simp; (try exact rfl))
            try go_frame
            refine LexRG.yes rfl (by first | rfl | (simp [Region.wanted, yielded]; done)) ?_ (fun w' hw => ?_) ?_
            rotate_left
            focus (clear hw; go_simp; (try exact rfl))
            try go_frame
            refine LexRG.yes rfl (by first | rfl | (simp [Region.wanted, yielded]; done)) ?_ (fun w' hw => ?_) ?_
            rotate_left
            focus (clear hw; go_simp; (try exact rfl))
            try go_frame
            refine LexRG.yes rfl (by first | rfl | (simp [Region.wanted, yielded]; done)) ?_ (fun w' hw => ?_) ?_
            rotate_left
            focus (clear hw; go_simp; (try exact rfl))
            try go_frame
            refine LexRG.yes rfl (by first | rfl | (simp [Region.wanted, yielded]; done)) ?_ (fun w' hw => ?_) ?_
            rotate_left
            focus (obtain ⟨hw1, hw2, hw3, hw4, hw5⟩ := hw; obtain ⟨d0, d1, d2, d3, d4, d5⟩ := known_box (r := ⟨ba, bb, bp, bq, be, bf⟩) hw4; clear hw1 hw2 hw3 hw4 hw5; go_simp; (try exact rfl))
            try go_frame
            refine LexRG.yes rfl (by first | rfl | (simp [Region.wanted, yielded]; done)) ?_ (fun w' hw => ?_) ?_
            rotate_left
            focus (obtain ⟨hw1, hw2, hw3, hw4, hw5⟩ := hw; obtain ⟨d0, d1, d2, d3, d4, d5⟩ := known_box (r := ⟨aa, ab, ap, aq, ae, af⟩) hw3; clear hw1 hw2 hw3 hw4 hw5; go_simp; (try exact rfl))
            try go_frame
            refine LexRG.yes rfl (by first | rfl | (simp [Region.wanted, yielded]; done)) ?_ (fun w' hw => ?_) ?_
            rotate_left
            focus (clear hw; go_simp; (try exact rfl))
            try go_frame
            refine LexRG.yes rfl (by first | rfl | (simp [Region.wanted, yielded]; done)) ?_ (fun w' hw => ?_) ?_
            rotate_left
            focus (clear hw; go_simp; (try exact rfl))
            try go_frame
            refine LexRG.no rfl (by first | rfl | (simp [Region.wanted, yielded]; done)) ?_
            try go_frame
            refine LexRG.no rfl (by first | rfl | (simp [Region.wanted, yielded]; done)) ?_
            try go_frame
            refine LexRG.no rfl (by first | rfl | (simp [Region.wanted, yielded]; done)) ?_
            try go_frame
            refine LexRG.no rfl (by first | rfl | (simp [Region.wanted, yielded]; done)) ?_
            try go_frame
            refine LexRG.no rfl (by first | rfl | (simp [Region.wanted, yielded]; done)) ?_
            try go_frame
            refine LexRG.no rfl (by first | rfl | (simp [Region.wanted, yielded]; done)) ?_
            try go_frame
            refine LexRG.no rfl (by first | rfl | (simp [Region.wanted, yielded]; done)) ?_
            try go_frame
            refine LexRG.no rfl (by first | rfl | (simp [Region.wanted, yielded]; done)) ?_
            try go_frame
            refine LexRG.no rfl (by first | rfl | (simp [Region.wanted, yielded]; done)) ?_
            try go_frame
            refine LexRG.no rfl (by first | rfl | (simp [Region.wanted, yielded]; done)) ?_
            try go_frame
            refine LexRG.no rfl (by first | rfl | (simp [Region.wanted, yielded]; done)) ?_
            try go_frame
            refine LexRG.no rfl (by first | rfl | (simp [Region.wanted, yielded]; done)) ?_
            try go_frame
            refine LexRG.no rfl (by first | rfl | (simp [Region.wanted, yielded]; done)) ?_
            try go_frame
            refine LexRG.no rfl (by first | rfl | (simp [Region.wanted, yielded]; done)) ?_
            try go_frame
            refine LexRG.no rfl (by first | rfl | (simp [Region.wanted, yielded]; done)) ?_
            try go_frame
            refine LexRG.no rfl (by first | rfl | (simp [Region.wanted, yielded]; done)) ?_
            try go_frame
            refine LexRG.no rfl (by first | rfl | (simp [Region.wanted, yielded]; done)) ?_
            try go_frame
            refine LexRG.yes rfl (by first | rfl | (simp [Region.wanted, yielded]; done)) ?_ (fun w' hw => ?_) ?_
            rotate_left
            focus (clear hw; go_simp; (try exact rfl))
            try go_frame
            refine LexRG.yes rfl (by first | rfl | (simp [Region.wanted, yielded]; done)) ?_ (fun w' hw => ?_) ?_
            rotate_left
            focus (clear hw; go_simp; (try exact rfl))
            try go_frame
            refine LexRG.yes rfl (by first | rfl | (simp [Region.wanted, yielded]; done)) ?_ (fun w' hw => ?_) ?_
            rotate_left
            focus (clear hw; go_simp; (try exact rfl))
            try go_frame
            refine LexRG.yes rfl (by first | rfl | (simp [Region.wanted, yielded]; done)) ?_ (fun w' hw => ?_) ?_
            rotate_left
            focus (clear hw; go_simp; (try exact rfl))
            try go_frame
            refine LexRG.yes rfl (by first | rfl | (simp [Region.wanted, yielded]; done)) ?_ (fun w' hw => ?_) ?_
            rotate_left
            focus (clear hw; go_simp; (try exact rfl))
            try go_frame
            refine LexRG.yes rfl (by first | rfl | (simp [Region.wanted, yielded]; done)) ?_ (fun w' hw => ?_) ?_
            rotate_left
            focus (clear hw; go_simp; (try exact rfl))
            try go_frame
            refine LexRG.yes rfl (by first | rfl | (simp [Region.wanted, yielded]; done)) ?_ (fun w' hw => ?_) ?_
            rotate_left
            focus (clear hw; go_simp; (try exact rfl))
            try go_frame
            refine LexRG.no rfl (by first | rfl | (simp [Region.wanted, yielded]; done)) ?_
            try go_frame
            refine LexRG.no rfl (by first | rfl | (simp [Region.wanted, yielded]; done)) ?_
            try go_frame
            refine LexRG.no rfl (by first | rfl | (simp [Region.wanted, yielded]; done)) ?_
            try go_frame
            refine LexRG.yes rfl (by first | rfl | (simp [Region.wanted, yielded]; done)) ?_ (fun w' hw => ?_) ?_
            rotate_left
            focus (clear hw; go_simp; (try exact rfl))
            try go_frame
            refine LexRG.yes rfl (by first | rfl | (simp [Region.wanted, yielded]; done)) ?_ (fun w' hw => ?_) ?_
            rotate_left
            focus (clear hw; go_simp; (try exact rfl))
            try go_frame
            refine LexRG.yes rfl (by first | rfl | (simp [Region.wanted, yielded]; done)) ?_ (fun w' hw => ?_) ?_
            rotate_left
            focus (clear hw; go_simp; (try exact rfl))
            try go_frame
            refine LexRG.yes rfl (by first | rfl | (simp [Region.wanted, yielded]; done)) ?_ (fun w' hw => ?_) ?_
            rotate_left
            focus (obtain ⟨hw1, hw2, hw3, hw4, hw5⟩ := hw; obtain ⟨d0, d1, d2, d3, d4, d5⟩ := known_box (r := ⟨aa, ab, ap, aq, ae, af⟩) hw3; clear hw1 hw2 hw3 hw4 hw5; go_simp; (try exact rfl))
            try go_frame
            refine LexRG.yes rfl (by first | rfl | (simp [Region.wanted, yielded]; done)) ?_ (fun w' hw => ?_) ?_
            rotate_left
            focus (obtain ⟨hw1, hw2, hw3, hw4, hw5⟩ := hw; obtain ⟨d0, d1, d2, d3, d4, d5⟩ := known_box (r := ⟨aa, ab, ap, aq, ae, af⟩) hw3; clear hw1 hw2 hw3 hw4 hw5; go_simp; (try exact rfl))
            try go_frame
            refine LexRG.nil ?_
            refine wpAnyL_one (i := 63) (by kernel_rfl) ?_
            refine lexA_get rfl ?_
            try go_frame
            go_wp2_with fail
            refine (knownOkI_any ⟨aa, ab, ap, aq, ae, af⟩ V2 (Keeps.keeps (F := Given) T.out.1 HG.out) HSA.out.1 HSA.out.2).mono ?_
            rintro e V3 ⟨rfl, hb⟩
            rw [HKA.out]
            replace T := T.later hb
            clear hb
            go_wp2_with fail
            refine ⟨fun _ => T.out.2, ?_⟩
            refine wpAnyL_one (i := 65) (by kernel_rfl) ?_
            refine lexA_get rfl ?_
            try go_frame
            go_wp2_with fail
            refine (knownOkS_any ⟨aa, ab, ap, aq, ae, af⟩ V3).mono ?_
            rintro e V4 ⟨rfl, hb⟩
            rw [HKA.out]
            replace T := T.later hb
            clear hb
            go_wp2_with fail
            refine ⟨fun _ => T.out.2, ?_⟩
            refine wpAnyL_readsG [66, 67] (fuel := 1) (by kernel_rfl) T.out.2 ?_
            refine LexRG.yes rfl (by first | rfl | (simp [Region.wanted, yielded]; done)) ?_ (fun w' hw => ?_) ?_
            rotate_left
            focus (clear hw; go_simp; (try exact rfl))
            try go_frame
            refine LexRG.yes rfl (by first | rfl | (simp [Region.wanted, yielded]; done)) ?_ (fun w' hw => ?_) ?_
            rotate_left
            focus (clear hw; go_simp; (try exact rfl))
            try go_frame
            refine LexRG.nil ?_
            have hfin := T.out.1
            refine wpAnyL_writes [68] (by kernel_rfl) (LexW.cons rfl ?_)
            try go_frame
            go_wp2_with fail
            refine ⟨fun h => absurd rfl h, LexW.nil ?_⟩
            go_wp2_with fail
            go_ret
            exact ⟨rfl, hfin⟩
          · have hba := knownEqB_true hq
            obtain ⟨hk1, hk2, hk3⟩ := HSAME.out hba
            injection hba with h1 h2 h3 h4 h5 h6
            replace hk1 : rk = 1 := hk1
            replace hk2 : rn = ap := hk2
            replace hk3 : rt = aq := hk3
            subst h1 h2 h3 h4 h5 h6 hk1 hk2 hk3
            have t1 : (rn == rn) = true := by simp
            have t2 : (rt.toList == rt.toList) = true := by simp
            clear hq HSAME
            have T : All (fun w' => Below w.heap.size w w' ∧ (w'.heap[D5]? = some (.cells (knownC ⟨xa, xb, xp, xq, xe, xf⟩).toArray 25 (0, 0)) ∧ w'.heap[D3]? = some (.cells (knownC ⟨xa, xb, xp, xq, xe, xf⟩).toArray 25 (0, 0)) ∧ w'.heap[DA]? = some (.cells (knownC ⟨ba, bb, rn, rt, be, bf⟩).toArray 25 (0, 0)) ∧ w'.heap[DB]? = some (.cells (knownC ⟨ba, bb, rn, rt, be, bf⟩).toArray 25 (0, 0)) ∧ w'.heap[DA + 1]? = some (.cells (recC ⟨1, rn, ro, rt⟩).toArray 32 (0, 0)))) W15 := ⟨S3.out.1.1.1.below, S3.out.1.1.1.xbox, S3.out.1.1.1.kbox, S3.out.1.1.2.1.out, S3.out.1.2.out, S3.out.1.1.2.2.out⟩
            clear S3 hl5 hl6 hl7
            refine wp_region_open 68 (fun w' => w'.heap[D5]? = some (.cells (knownC ⟨xa, xb, xp, xq, xe, xf⟩).toArray 25 (0, 0)) ∧ w'.heap[D3]? = some (.cells (knownC ⟨xa, xb, xp, xq, xe, xf⟩).toArray 25 (0, 0)) ∧ w'.heap[DA]? = some (.cells (knownC ⟨ba, bb, rn, rt, be, bf⟩).toArray 25 (0, 0)) ∧ w'.heap[DB]? = some (.cells (knownC ⟨ba, bb, rn, rt, be, bf⟩).toArray 25 (0, 0)) ∧ w'.heap[DA + 1]? = some (.cells (recC ⟨1, rn, ro, rt⟩).toArray 32 (0, 0))) (by kernel_rfl) ?_
            replace T := T.drew
            refine wpAnyL_readsG [0, 1, 2, 3, 4] (fuel := 64) (by kernel_rfl) T.out.2 ?_
            refine LexRG.yes rfl (by first | rfl | (simp [Region.wanted, yielded]; done)) ?_ (fun w' hw => ?_) ?_
            rotate_left
            focus (obtain ⟨hw1, hw2, hw3, hw4, hw5⟩ := hw; obtain ⟨d0, d1, d2, d3, d4, d5⟩ := known_box (r := ⟨xa, xb, xp, xq, xe, xf⟩) hw1; clear hw1 hw2 hw3 hw4 hw5; go_simp; (try exact rfl))
            try go_frame
            refine LexRG.yes rfl (by first | rfl | (simp [Region.wanted, yielded]; done)) ?_ (fun w' hw => ?_) ?_
            rotate_left
            focus (obtain ⟨hw1, hw2, hw3, hw4, hw5⟩ := hw; obtain ⟨d0, d1, d2, d3, d4, d5⟩ := known_box (r := ⟨xa, xb, xp, xq, xe, xf⟩) hw2; clear hw1 hw2 hw3 hw4 hw5; go_simp; (try exact rfl))
            try go_frame
            refine LexRG.yes rfl (by first | rfl | (simp [Region.wanted, yielded]; done)) ?_ (fun w' hw => ?_) ?_
            rotate_left
            focus (clear hw; go_simp; (try exact rfl))
            try go_frame
            refine LexRG.yes rfl (by first | rfl | (simp [Region.wanted, yielded]; done)) ?_ (fun w' hw => ?_) ?_
            rotate_left
            focus (clear hw; go_simp; (try exact rfl))
            try go_frame
            refine LexRG.yes rfl (by first | rfl | (simp [Region.wanted, yielded]; done)) ?_ (fun w' hw => ?_) ?_
            rotate_left
            focus (obtain ⟨hw1, hw2, hw3, hw4, hw5⟩ := hw; obtain ⟨d0, d1, d2, d3, d4, d5⟩ := known_box (r := ⟨xa, xb, xp, xq, xe, xf⟩) hw2; clear hw1 hw2 hw3 hw4 hw5; go_simp; (try exact rfl))
            try go_frame
            refine LexRG.nil ?_
            refine wpAnyL_one (i := 5) (by kernel_rfl) ?_
            refine lexA_get rfl ?_
            try go_frame
            go_wp2_with fail
            refine (knownOkI_any ⟨xa, xb, xp, xq, xe, xf⟩ W15.drew (Keeps.keeps (F := Given) T.out.1 HG.out) HXM.out.1 HXM.out.2).mono ?_
            rintro e V1 ⟨rfl, hb⟩
            rw [HKX.out]
            replace T := T.later hb
            clear hb
            go_wp2_with fail
            refine ⟨fun _ => T.out.2, ?_⟩
            refine wpAnyL_readsG [6, 7, 8, 9, 10, 11] (fuel := 57) (by kernel_rfl) T.out.2 ?_
            refine LexRG.yes rfl (by first | rfl | (simp [Region.wanted, yielded]; done)) ?_ (fun w' hw => ?_) ?_
            rotate_left
            focus (clear hw; go_simp; (try exact rfl))
            try go_frame
            refine LexRG.yes rfl (by first | rfl | (simp [Region.wanted, yielded]; done)) ?_ (fun w' hw => ?_) ?_
            rotate_left
            focus (clear hw; go_simp; (try exact rfl))
            try go_frame
            refine LexRG.yes rfl (by first | rfl | (simp [Region.wanted, yielded]; done)) ?_ (fun w' hw => ?_) ?_
            rotate_left
            focus (clear hw; go_simp; (try exact rfl))
            try go_frame
            refine LexRG.yes rfl (by first | rfl | (simp [Region.wanted, yielded]; done)) ?_ (fun w' hw => ?_) ?_
            rotate_left
            focus (clear hw; go_simp; (try exact rfl))
            try go_frame
            refine LexRG.yes rfl (by first | rfl | (simp [Region.wanted, yielded]; done)) ?_ (fun w' hw => ?_) ?_
            rotate_left
            focus (clear hw; go_simp; (try exact rfl))
            try go_frame
            refine LexRG.yes rfl (by first | rfl | (simp [Region.wanted, yielded]; done)) ?_ (fun w' hw => ?_) ?_
            rotate_left
            focus (obtain ⟨hw1, hw2, hw3, hw4, hw5⟩ := hw; obtain ⟨d0, d1, d2, d3, d4, d5⟩ := known_box (r := ⟨ba, bb, rn, rt, be, bf⟩) hw4; clear hw1 hw2 hw3 hw4 hw5; go_simp; (try exact rfl))
            try go_frame
            refine LexRG.nil ?_
            refine wpAnyL_one (i := 12) (by kernel_rfl) ?_
            refine lexA_get rfl ?_
            try go_frame
            go_wp2_with fail
            refine (knownOkI_any ⟨ba, bb, rn, rt, be, bf⟩ V1 (Keeps.keeps (F := Given) T.out.1 HG.out) HBM.out.1 HBM.out.2).mono ?_
            rintro e V2 ⟨rfl, hb⟩
            rw [HKB.out]
            replace T := T.later hb
            clear hb
            go_wp2_with fail
            refine ⟨fun _ => T.out.2, ?_⟩
            refine wpAnyL_readsG [13, 14, 15, 16, 17, 18, 19, 20, 21, 22, 23, 24, 25, 26, 27, 28, 29, 30, 31, 32, 33, 34, 35, 36, 37, 38, 39, 40, 41, 42, 43, 44, 45, 46, 47, 48, 49, 50, 51, 52, 53, 54, 55, 56, 57, 58, 59, 60, 61, 62, 64] (fuel := 5) (by kernel_rfl) T.out.2 ?_
            refine LexRG.yes rfl (by first | rfl | (simp [Region.wanted, yielded]; done)) ?_ (fun w' hw => ?_) ?_
            rotate_left
            focus (clear hw; go_simp; (try exact rfl))
            try go_frame
            refine LexRG.yes rfl (by first | rfl | (simp [Region.wanted, yielded]; done)) ?_ (fun w' hw => ?_) ?_
            rotate_left
            focus (clear hw; go_simp; (try exact rfl))
            try go_frame
            refine LexRG.yes rfl (by first | rfl | (simp [Region.wanted, yielded]; done)) ?_ (fun w' hw => ?_) ?_
            rotate_left
            focus (obtain ⟨hw1, hw2, hw3, hw4, hw5⟩ := hw; obtain ⟨d0, d1, d2, d3, d4, d5⟩ := known_box (r := ⟨ba, bb, rn, rt, be, bf⟩) hw4; clear hw1 hw2 hw3 hw4 hw5; go_simp; (try exact rfl))
            try go_frame
            refine LexRG.yes rfl (by first | rfl | (simp [Region.wanted, yielded]; done)) ?_ (fun w' hw => ?_) ?_
            rotate_left
            focus (clear hw; go_simp; (try exact rfl))
            try go_frame
            refine LexRG.yes rfl (by first | rfl | (simp [Region.wanted, yielded]; done)) ?_ (fun w' hw => ?_) ?_
            rotate_left
            focus (obtain ⟨hw1, hw2, hw3, hw4, hw5⟩ := hw; obtain ⟨d0, d1, d2, d3, d4, d5⟩ := known_box (r := ⟨ba, bb, rn, rt, be, bf⟩) hw3; clear hw1 hw2 hw3 hw4 hw5; go_simp; (try exact rfl))
            try go_frame
            refine LexRG.yes rfl (by first | rfl | (simp [Region.wanted, yielded]; done)) ?_ (fun w' hw => ?_) ?_
            rotate_left
            focus (clear hw; go_simp; (try exact rfl))
            try go_frame
            refine LexRG.yes rfl (by first | rfl | (simp [Region.wanted, yielded]; done)) ?_ (fun w' hw => ?_) ?_
            rotate_left
            focus (clear hw; go_simp; (try exact rfl))
            try go_frame
            refine LexRG.yes rfl (by first | rfl | (simp [Region.wanted, yielded]; done)) ?_ (fun w' hw => ?_) ?_
            rotate_left
            focus (clear hw; go_simp; (try exact rfl))
            try go_frame
            refine LexRG.yes rfl (by first | rfl | (simp [Region.wanted, yielded]; done)) ?_ (fun w' hw => ?_) ?_
            rotate_left
            focus (clear hw; go_simp; (try exact rfl))
            try go_frame
            refine LexRG.yes rfl (by first | rfl | (simp [Region.wanted, yielded]; done)) ?_ (fun w' hw => ?_) ?_
            rotate_left
            focus (obtain ⟨hw1, hw2, hw3, hw4, hw5⟩ := hw; obtain ⟨d0, d1, d2, d3, d4, d5⟩ := known_box (r := ⟨ba, bb, rn, rt, be, bf⟩) hw4; clear hw1 hw2 hw3 hw4 hw5; go_simp; (try exact rfl))
            try go_frame
            refine LexRG.yes rfl (by first | rfl | (simp [Region.wanted, yielded]; done)) ?_ (fun w' hw => ?_) ?_
            rotate_left
            focus (clear hw; go_simp; (try exact rfl))
            try go_frame
            refine LexRG.yes rfl (by first | rfl | (simp [Region.wanted, yielded]; done)) ?_ (fun w' hw => ?_) ?_
            rotate_left
            focus (obtain ⟨hw1, hw2, hw3, hw4, hw5⟩ := hw; obtain ⟨d0, d1, d2, d3, d4, d5⟩ := known_box (r := ⟨ba, bb, rn, rt, be, bf⟩) hw3; clear hw1 hw2 hw3 hw4 hw5; go_simp; (try exact rfl))
            try go_frame
            refine LexRG.yes rfl (by first | rfl | (simp [Region.wanted, yielded]; done)) ?_ (fun w' hw => ?_) ?_
            rotate_left
            focus (clear hw; go_simp; (try exact rfl))
            try go_frame
            refine LexRG.yes rfl (by first | rfl | (simp [Region.wanted, yielded]; done)) ?_ (fun w' hw => ?_) ?_
            rotate_left
            focus (clear hw; go_simp; (try exact rfl))
            try go_frame
            refine LexRG.yes rfl (by first | rfl | (simp [Region.wanted, yielded]; done)) ?_ (fun w' hw => ?_) ?_
            rotate_left
            focus (clear hw; go_simp; (try exact rfl))
            try go_frame
            refine LexRG.yes rfl (by first | rfl | (simp [Region.wanted, yielded]; done)) ?_ (fun w' hw => ?_) ?_
            rotate_left
            focus (obtain ⟨hw1, hw2, hw3, hw4, hw5⟩ := hw; obtain ⟨d0, d1, d2, d3, d4, d5⟩ := known_box (r := ⟨ba, bb, rn, rt, be, bf⟩) hw4; clear hw1 hw2 hw3 hw4 hw5; go_simp; (try exact rfl))
            try go_frame
            refine LexRG.yes rfl (by first | rfl | (simp [Region.wanted, yielded]; done)) ?_ (fun w' hw => ?_) ?_
            rotate_left
            focus (obtain ⟨hw1, hw2, hw3, hw4, hw5⟩ := hw; obtain ⟨d0, d1, d2, d3, d4, d5⟩ := known_box (r := ⟨ba, bb, rn, rt, be, bf⟩) hw3; clear hw1 hw2 hw3 hw4 hw5; go_simp; (try exact rfl))
            try go_frame
            refine LexRG.yes rfl (by first | rfl | (simp [Region.wanted, yielded]; done)) ?_ (fun w' hw => ?_) ?_
            rotate_left
            focus (clear hw; go_simp; (try exact rfl))
            try go_frame
            refine LexRG.yes rfl (by first | rfl | (simp [Region.wanted, yielded]; done)) ?_ (fun w' hw => ?_) ?_
            rotate_left
            focus (clear hw; go_simp; (try exact rfl))
            try go_frame
            refine LexRG.yes rfl (by first | rfl | (simp [Region.wanted, yielded]; done)) ?_ (fun w' hw => ?_) ?_
            rotate_left
            focus (clear hw; go_simp; (try exact rfl))
            try go_frame
            refine LexRG.yes rfl (by first | rfl | (simp [Region.wanted, yielded]; done)) ?_ (fun w' hw => ?_) ?_
            rotate_left
            focus (obtain ⟨hw1, hw2, hw3, hw4, hw5⟩ := hw; obtain ⟨e0, e1, e2, e3⟩ := rec_box (r := ⟨1, rn, ro, rt⟩) hw5; clear hw1 hw2 hw3 hw4 hw5; go_simp; (try exact rfl))
            try go_frame
            refine LexRG.yes rfl (by first | rfl | (simp [Region.wanted, yielded]; done)) ?_ (fun w' hw => ?_) ?_
            rotate_left
            focus (clear hw; go_simp; (try exact rfl))
            try go_frame
            refine LexRG.yes rfl (by first | rfl | (simp [Region.wanted, yielded]; done)) ?_ (fun w' hw => ?_) ?_
            rotate_left
            focus (clear hw; go_simp; (try exact rfl))
            try go_frame
            refine LexRG.yes rfl (by first | rfl | (simp [Region.wanted, yielded]; done)) ?_ (fun w' hw => ?_) ?_
            rotate_left
            focus (clear hw; go_simp; (try exact rfl))
            try go_frame
            refine LexRG.yes rfl (by first | rfl | (simp [Region.wanted, yielded]; done)) ?_ (fun w' hw => ?_) ?_
            rotate_left
            focus (obtain ⟨hw1, hw2, hw3, hw4, hw5⟩ := hw; obtain ⟨e0, e1, e2, e3⟩ := rec_box (r := ⟨1, rn, ro, rt⟩) hw5; clear hw1 hw2 hw3 hw4 hw5; go_simp; (try exact rfl))
            try go_frame
            refine LexRG.yes rfl (by first | rfl | (simp [Region.wanted, yielded]; done)) ?_ (fun w' hw => ?_) ?_
            rotate_left
            focus (clear hw; go_simp; (try exact rfl))
            try go_frame
            refine LexRG.yes rfl (by first | rfl | (simp [Region.wanted, yielded]; done)) ?_ (fun w' hw => ?_) ?_
            rotate_left
            focus (obtain ⟨hw1, hw2, hw3, hw4, hw5⟩ := hw; obtain ⟨d0, d1, d2, d3, d4, d5⟩ := known_box (r := ⟨ba, bb, rn, rt, be, bf⟩) hw3; clear hw1 hw2 hw3 hw4 hw5; go_simp; (try exact rfl))
            try go_frame
            refine LexRG.yes rfl (by first | rfl | (simp [Region.wanted, yielded]; done)) ?_ (fun w' hw => ?_) ?_
            rotate_left
            focus (clear hw; go_simp; (try exact rfl))
            try go_frame
            refine LexRG.yes rfl (by first | rfl | (simp [Region.wanted, yielded]; done)) ?_ (fun w' hw => ?_) ?_
            rotate_left
            focus (clear hw; go_simp; (try exact rfl))
            try go_frame
            refine LexRG.yes rfl (by first | rfl | (simp [Region.wanted, yielded]; done)) ?_ (fun w' hw => ?_) ?_
            rotate_left
            focus (clear hw; go_simp; (try exact rfl))
            try go_frame
            refine LexRG.yes rfl (by first | rfl | (simp [Region.wanted, yielded]; done)) ?_ (fun w' hw => ?_) ?_
            rotate_left
            focus (clear hw; go_simp; (try exact rfl))
            try go_frame
            refine LexRG.yes rfl (by first | rfl | (simp [Region.wanted, yielded]; done)) ?_ (fun w' hw => ?_) ?_
            rotate_left
            focus (obtain ⟨hw1, hw2, hw3, hw4, hw5⟩ := hw; obtain ⟨e0, e1, e2, e3⟩ := rec_box (r := ⟨1, rn, ro, rt⟩) hw5; clear hw1 hw2 hw3 hw4 hw5; go_simp; (try exact rfl))
            try go_frame
            refine LexRG.yes rfl (by first | rfl | (simp [Region.wanted, yielded]; done)) ?_ (fun w' hw => ?_) ?_
            rotate_left
            focus (clear hw; go_simp; (try exact rfl))
            try go_frame
            refine LexRG.yes rfl (by first | rfl | (simp [Region.wanted, yielded]; done)) ?_ (fun w' hw => ?_) ?_
            rotate_left
            focus (obtain ⟨hw1, hw2, hw3, hw4, hw5⟩ := hw; obtain ⟨d0, d1, d2, d3, d4, d5⟩ := known_box (r := ⟨ba, bb, rn, rt, be, bf⟩) hw3; clear hw1 hw2 hw3 hw4 hw5; go_simp; (try exact rfl))
            try go_frame
            refine LexRG.yes rfl (by first | rfl | (simp [Region.wanted, yielded]; done)) ?_ (fun w' hw => ?_) ?_
            rotate_left
            focus (clear hw; go_simp; (try exact rfl))
            try go_frame
            refine LexRG.yes rfl (by first | rfl | (simp [Region.wanted, yielded]; done)) ?_ (fun w' hw => ?_) ?_
            rotate_left
            focus (clear hw; go_simp; (try exact rfl))
            try go_frame
            refine LexRG.yes rfl (by first | rfl | (simp [Region.wanted, yielded]; done)) ?_ (fun w' hw => ?_) ?_
            rotate_left
            focus (clear hw; go_simp; (try exact rfl))
            try go_frame
            refine LexRG.yes rfl (by first | rfl | (simp [Region.wanted, yielded]; done)) ?_ (fun w' hw => ?_) ?_
            rotate_left
            focus (clear hw; go_simp; (try exact rfl))
            try go_frame
            refine LexRG.yes rfl (by first | rfl | (simp [Region.wanted, yielded]; done)) ?_ (fun w' hw => ?_) ?_
            rotate_left
            focus (clear hw; go_simp; (try exact rfl))
            try go_frame
            refine LexRG.yes rfl (by first | rfl | (simp [Region.wanted, yielded]; done)) ?_ (fun w' hw => ?_) ?_
            rotate_left
            focus (clear hw; go_simp; (try exact rfl))
            try go_frame
            refine LexRG.yes rfl (by first | rfl | (simp [Region.wanted, yielded]; done)) ?_ (fun w' hw => ?_) ?_
            rotate_left
            focus (clear hw; go_simp; (try exact rfl))
            try go_frame
            refine LexRG.yes rfl (by first | rfl | (simp [Region.wanted, yielded]; done)) ?_ (fun w' hw => ?_) ?_
            rotate_left
            focus (clear hw; go_simp; (try exact rfl))
            try go_frame
            refine LexRG.yes rfl (by first | rfl | (simp [Region.wanted, yielded]; done)) ?_ (fun w' hw => ?_) ?_
            rotate_left
            focus (clear hw; go_simp; (try exact rfl))
            try go_frame
            refine LexRG.no rfl (by first | rfl | (simp [Region.wanted, yielded]; done)) ?_
            try go_frame
            refine LexRG.no rfl (by first | rfl | (simp [Region.wanted, yielded]; done)) ?_
            try go_frame
            refine LexRG.no rfl (by first | rfl | (simp [Region.wanted, yielded]; done)) ?_
            try go_frame
            refine LexRG.yes rfl (by first | rfl | (simp [Region.wanted, yielded]; done)) ?_ (fun w' hw => ?_) ?_
            rotate_left
            focus (clear hw; go_simp; (try exact rfl))
            try go_frame
            refine LexRG.yes rfl (by first | rfl | (simp [Region.wanted, yielded]; done)) ?_ (fun w' hw => ?_) ?_
            rotate_left
            focus (clear hw; go_simp; (try exact rfl))
            try go_frame
            refine LexRG.yes rfl (by first | rfl | (simp [Region.wanted, yielded]; done)) ?_ (fun w' hw => ?_) ?_
            rotate_left
            focus (clear hw; go_simp; (try exact rfl))
            try go_frame
            refine LexRG.yes rfl (by first | rfl | (simp [Region.wanted, yielded]; done)) ?_ (fun w' hw => ?_) ?_
            rotate_left
            focus (obtain ⟨hw1, hw2, hw3, hw4, hw5⟩ := hw; obtain ⟨d0, d1, d2, d3, d4, d5⟩ := known_box (r := ⟨ba, bb, rn, rt, be, bf⟩) hw3; clear hw1 hw2 hw3 hw4 hw5; go_simp; (try exact rfl))
            try go_frame
            refine LexRG.yes rfl (by first | rfl | (simp [Region.wanted, yielded]; done)) ?_ (fun w' hw => ?_) ?_
            rotate_left
            focus (obtain ⟨hw1, hw2, hw3, hw4, hw5⟩ := hw; obtain ⟨d0, d1, d2, d3, d4, d5⟩ := known_box (r := ⟨ba, bb, rn, rt, be, bf⟩) hw3; clear hw1 hw2 hw3 hw4 hw5; go_simp; (try exact rfl))
            try go_frame
            refine LexRG.nil ?_
            refine wpAnyL_one (i := 63) (by kernel_rfl) ?_
            refine lexA_get rfl ?_
            try go_frame
            go_wp2_with fail
            refine (knownOkI_any ⟨ba, bb, rn, rt, be, bf⟩ V2 (Keeps.keeps (F := Given) T.out.1 HG.out) HSA.out.1 HSA.out.2).mono ?_
            rintro e V3 ⟨rfl, hb⟩
            rw [HKA.out]
            replace T := T.later hb
            clear hb
            go_wp2_with fail
            refine ⟨fun _ => T.out.2, ?_⟩
            refine wpAnyL_one (i := 65) (by kernel_rfl) ?_
            refine lexA_get rfl ?_
            try go_frame
            go_wp2_with fail
            refine (knownOkS_any ⟨ba, bb, rn, rt, be, bf⟩ V3).mono ?_
            rintro e V4 ⟨rfl, hb⟩
            rw [HKA.out]
            replace T := T.later hb
            clear hb
            go_wp2_with fail
            refine ⟨fun _ => T.out.2, ?_⟩
            refine wpAnyL_readsG [66, 67] (fuel := 1) (by kernel_rfl) T.out.2 ?_
            refine LexRG.yes rfl (by first | rfl | (simp [Region.wanted, yielded]; done)) ?_ (fun w' hw => ?_) ?_
            rotate_left
            focus (clear hw; go_simp; (try exact rfl))
            try go_frame
            refine LexRG.yes rfl (by first | rfl | (simp [Region.wanted, yielded]; done)) ?_ (fun w' hw => ?_) ?_
            rotate_left
            focus (clear hw; go_simp; (try exact rfl))
            try go_frame
            refine LexRG.nil ?_
            have hfin := T.out.1
            refine wpAnyL_writes [68] (by kernel_rfl) (LexW.cons rfl ?_)
            try go_frame
            go_wp2_with fail
            refine ⟨fun h => absurd rfl h, LexW.nil ?_⟩
            go_wp2_with fail
            go_ret
            exact ⟨rfl, hfin⟩

end Go.Proofs.YtlnmlfpkpplgoaaDoor
