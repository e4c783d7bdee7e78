/- The heap of waiting clients: push and pop; the next one; all of them. -/
import Derived.Test.YtgdhhhibkhfdlaaHeapJ
import Derived.Test.YtgdhhhibkhfdlaaTItem
namespace Go.Proofs.Ytgdhhhibkhfdlaa
open Go.RowKit HeapP
set_option linter.unusedVariables false
set_option maxRecDepth 100000

theorem Hq.keep {w w' : World} {g : Nat} {A : Option Addr} {c : Nat} {xs : List Ak} {B : Option Addr} {d : Nat} {P : List Nat} (h : Hq w g A c xs B d P) (hk : ∀ k, k < w.heap.size → (k ≤ g ∨ k ∈ fpB g B) → w'.heap[k]? = w.heap[k]?) : Hq w' g A c xs B d P := by
  have hg := h.lt
  refine ⟨(hk g hg (.inl (Nat.le_refl _))).trans h.box, Rep.ownsRow_block h.row fun a ha => ?_, h.rows.keep fun p hp => World.cell?_of_block (hk p.block (by omega) (.inl (by omega))), h.small, h.xlen, h.plen⟩
  have hlt := h.row.lt a (by simpa using ha)
  refine hk a hlt.2 (.inr ?_)
  cases B with
  | none => simp [Value.ownBlock] at ha
  | some b => simp [Value.ownBlock] at ha; simp [fpB, ha]
theorem HpQ.keep {w w' : World} {g : Nat} {A : Option Addr} {c : Nat} {xs : List Ak} {B : Option Addr} {R : List Nat} {m : Nat} (h : HpQ w g A c xs B R m) (hk : ∀ k, k < w.heap.size → (k ≤ g ∨ k ∈ fpB g B) → w'.heap[k]? = w.heap[k]?) : HpQ w' g A c xs B R m := by
  obtain ⟨d, P, h1, h2⟩ := h
  exact ⟨d, P, h1.keep hk, h2⟩
theorem HpQ.below {w w' : World} {g : Nat} {A : Option Addr} {c : Nat} {xs : List Ak} {B : Option Addr} {R : List Nat} {m : Nat} (h : HpQ w g A c xs B R m) (hb : Below w.heap.size w w') : HpQ w' g A c xs B R m := h.keep fun k hk _ => hb.block k hk
theorem HpQ.lt {w : World} {g : Nat} {A : Option Addr} {c : Nat} {xs : List Ak} {B : Option Addr} {R : List Nat} {m : Nat} (h : HpQ w g A c xs B R m) : g < w.heap.size := by
  obtain ⟨d, P, h1, h2⟩ := h
  exact h1.lt
theorem HpQ.fp {w : World} {g : Nat} {A : Option Addr} {c : Nat} {xs : List Ak} {B : Option Addr} {R : List Nat} {m : Nat} (h : HpQ w g A c xs B R m) : ∀ a, a ∈ fpB g B → g ≤ a ∧ a < w.heap.size := by
  obtain ⟨d, P, h1, h2⟩ := h
  intro a ha
  simp only [fpB, List.mem_cons] at ha
  rcases ha with rfl | ha
  · exact ⟨Nat.le_refl _, h1.lt⟩
  · cases B with
    | none => simp at ha
    | some b => simp at ha; have := h1.row.lt b.block rfl; omega

set_option maxHeartbeats 4000000 in
theorem heapPush_any {w : World} {g : Nat} {A : Option Addr} {c : Nat} {xs : List Ak} {B : Option Addr} {R : List Nat} {m : Nat} (h : HpQ w g A c xs B R m) (x : Nat) (hx : x < xs.length) (hm : m < 1048576) (hR : x ∉ R) :
    Calls Try.prog 172 #[.iface 151 (.pointer (some ⟨g, 0, none⟩)), .iface 3 (.int .i64 x)] w (fun e w' => e = .returned (.tuple #[]) ∧ ∃ B', HpQ w' g A c xs B' (ins (ltA xs) x R) (m + 1) ∧ Mv w w' g B B') := by
  obtain ⟨d, P, hq, hs, hl⟩ := h
  have hp := hpush_any hq x hx (by omega)
  have HU := Lib.hid (hs.push (ordA xs) hR)
  have HL := Lib.hid hl
  clear hq hs hl
  go_enter Try.func172, Try.ntmps172
  go_wp2_with fail
  refine hp.mono ?_
  clear hp
  rintro e w1 ⟨rfl, B', d', hq, hmv⟩
  have hl := len_any hq
  go_wp2_with fail
  refine hl.mono ?_
  clear hl
  rintro e w2 ⟨rfl, rfl⟩
  have hu := up_any hq P.length (by simp) HU.out
  have HM := Lib.hid hmv
  have hpl := hq.plen
  have e1 : ((P ++ [x]).length : Int) - 1 = (P.length : Int) := by simp
  have e2 : (P ++ [x]).length = m + 1 := by have := HL.out; simp; omega
  have E1 := Lib.hid e1
  have E2 := Lib.hid e2
  clear hmv hq e1 e2
  generalize (P ++ [x]).length = q at *
  go_wp2_with fail
  rw [E1.out]
  refine hu.mono ?_
  clear hu
  rintro e w3 ⟨rfl, hq, hmv⟩
  rw [E2.out] at hq
  have HE := Lib.hid (And.intro hq (HM.out.trans hmv))
  clear hq hmv
  go_wp2_with fail
  go_end0
  exact ⟨rfl, B', HE.out⟩

set_option maxHeartbeats 4000000 in
theorem heapPop_any {w : World} {g : Nat} {A : Option Addr} {c : Nat} {xs : List Ak} {B : Option Addr} {R : List Nat} {r n : Nat} (h : HpQ w g A c xs B (r :: R) (n + 1)) :
    Calls Try.prog 174 #[.iface 151 (.pointer (some ⟨g, 0, none⟩))] w (fun e w' => e = .returned (.iface 3 (.int .i64 r)) ∧ HpQ w' g A c xs B R n ∧ Mv w w' g B B) := by
  obtain ⟨d, P, hq, hs, hl⟩ := h
  have hlen := len_any hq
  rw [hl] at hlen
  have hsw := swap_any hq 0 n (by omega) (by omega)
  have HD := Lib.hid (hs.pop (ordA xs) hl)
  have hn : n ≤ 1048576 := by have := hq.plen; omega
  clear hq hs hl
  go_enter Try.func174, Try.ntmps174
  go_wp2_with fail
  refine hlen.mono ?_
  clear hlen
  rintro e w1 ⟨rfl, rfl⟩
  go_wp2_with fail
  refine hsw.mono ?_
  clear hsw
  rintro e w1 ⟨rfl, hq, hmv⟩
  have hd := down_any hq HD.out
  have HM := Lib.hid hmv
  clear hq hmv HD
  go_wp2_with fail
  refine hd.mono ?_
  clear hd
  rintro e w2 ⟨⟨b, rfl⟩, ⟨d2, Q, hq, hlq, hlast, hs⟩, hmv⟩
  have hp := hpop_any hq n hlq
  rw [hlast] at hp
  have hl3 : (Q.take n).length = n := by rw [List.length_take]; omega
  have HS := Lib.hid (And.intro hs hl3)
  have HM2 := Lib.hid (HM.out.trans hmv)
  clear hq hlq hlast hs hmv hl3
  go_wp2_with fail
  refine hp.mono ?_
  clear hp
  rintro e w3 ⟨rfl, hq, hmv⟩
  have HE := Lib.hid (And.intro (show HpQ w3 g A c xs B R n from ⟨d2, _, hq, HS.out.1, HS.out.2⟩) (HM2.out.trans hmv))
  clear hq hmv
  go_wp2_with fail
  go_ret
  exact ⟨rfl, HE.out⟩

/-- A step that makes a block, then moves the heap, then writes the block. -/
theorem Mv.boxed {w w1 Wz : World} {g : Nat} {B B' : Option Addr} (o : Obj) (h : Mv (w.alloc o) w1 g B B') (hlt : ∀ a, a ∈ fpB g B → a < w.heap.size) (hg : w1.grownBy Wz (some w.heap.size)) : Mv w Wz g B B' where
  only := by
    have ha := Later.alloc w o
    have hz : w.heap.size < (w.alloc o).heap.size := by simp
    refine ⟨(hg.os.trans h.only.os).trans ha.os, (hg.tape.trans h.only.tape).trans ha.tape, (hg.output.trans h.only.output).trans ha.output, Nat.le_trans ha.size (Nat.le_trans h.only.size hg.size), fun k hk hn => ?_⟩
    rw [hg.block k (by have := h.only.size; omega) (fun e => by injection e with e; omega), h.only.block k (by omega) hn, ha.block k hk]
  from_ := fun a ha => by
    rcases h.from_ a ha with h1 | h1
    · exact .inl h1
    · exact .inr (by have : w.heap.size ≤ (w.alloc o).heap.size := by simp
                     omega)

set_option maxHeartbeats 4000000 in
theorem next_none {w : World} {g : Nat} {A : Option Addr} {c : Nat} {xs : List Ak} {B : Option Addr} {m : Nat} (h : HpQ w g A c xs B [] m) :
    Calls Try.prog 118 #[.pointer (some ⟨g, 0, none⟩)] w (fun e w' => e = .returned (.tuple #[.agg #[.int .i64 0, .string ⟨#[]⟩, .int .i64 0, .int .i64 0, .int .i64 0, .string ⟨#[]⟩, .int .i64 0, .int .i64 0], .bool false]) ∧ HpQ w' g A c xs B [] m ∧ Mv w w' g B B) := by
  have hfp := h.fp
  have hb := Later.alloc w (.cells #[.int .i64 0, .string ⟨#[]⟩, .int .i64 0, .int .i64 0, .int .i64 0, .string ⟨#[]⟩, .int .i64 0, .int .i64 0] 50)
  have HV := Lib.hid (heap_alloc_new w (.cells #[.int .i64 0, .string ⟨#[]⟩, .int .i64 0, .int .i64 0, .int .i64 0, .string ⟨#[]⟩, .int .i64 0, .int .i64 0] 50))
  have hgl := h.lt
  have H2 := h.below hb
  have hlen : Calls Try.prog 173 #[.pointer (some ⟨g, 0, none⟩)] (w.alloc (.cells #[.int .i64 0, .string ⟨#[]⟩, .int .i64 0, .int .i64 0, .int .i64 0, .string ⟨#[]⟩, .int .i64 0, .int .i64 0] 50)) (fun e w' => e = .returned (.int .i64 0) ∧ (w.alloc (.cells #[.int .i64 0, .string ⟨#[]⟩, .int .i64 0, .int .i64 0, .int .i64 0, .string ⟨#[]⟩, .int .i64 0, .int .i64 0] 50)) = w') := by
    obtain ⟨d, P, h1, h2, h3⟩ := H2
    have e := h2.nil
    subst e
    exact len_any h1
  have HE := Lib.hid (show ∀ Wz, (w.alloc (.cells #[.int .i64 0, .string ⟨#[]⟩, .int .i64 0, .int .i64 0, .int .i64 0, .string ⟨#[]⟩, .int .i64 0, .int .i64 0] 50)).grownBy Wz (some w.heap.size) → HpQ Wz g A c xs B [] m ∧ Mv w Wz g B B from fun Wz hg =>
    ⟨H2.keep fun k hk hc => hg.block k hk (fun e => by injection e with e; subst e; rcases hc with hc | hc; omega; have := (hfp _ hc).2; omega), Mv.boxed _ (Mv.refl _ g B) (fun a ha => (hfp a ha).2) hg⟩)
  clear h hb H2 hfp
  go_enter Try.func118, Try.ntmps118
  go_wp2_with fail
  refine hlen.mono ?_
  clear hlen
  rintro e w2 ⟨rfl, rfl⟩
  generalize w.alloc (.cells #[.int .i64 0, .string ⟨#[]⟩, .int .i64 0, .int .i64 0, .int .i64 0, .string ⟨#[]⟩, .int .i64 0, .int .i64 0] 50) = W1 at HV HE ⊢
  have d0 := var_cell HV.out 0
  have f0 := var_frozen HV.out 0
  have d1 := var_cell HV.out 1
  have f1 := var_frozen HV.out 1
  have d2 := var_cell HV.out 2
  have f2 := var_frozen HV.out 2
  have d3 := var_cell HV.out 3
  have f3 := var_frozen HV.out 3
  have d4 := var_cell HV.out 4
  have f4 := var_frozen HV.out 4
  have d5 := var_cell HV.out 5
  have f5 := var_frozen HV.out 5
  have d6 := var_cell HV.out 6
  have f6 := var_frozen HV.out 6
  have d7 := var_cell HV.out 7
  have f7 := var_frozen HV.out 7
  go_wp2_with fail
  clear d0 f0 d1 f1 d2 f2 d3 f3 d4 f4 d5 f5 d6 f6 d7 f7
  have hb := setRow_box 0 [.int .i64 0, .string ⟨#[]⟩, .int .i64 0, .int .i64 0, .int .i64 0, .string ⟨#[]⟩, .int .i64 0, .int .i64 0] HV.out
  replace hb : (Rep.setRow W1 w.heap.size 0 [.int .i64 0, .string ⟨#[]⟩, .int .i64 0, .int .i64 0, .int .i64 0, .string ⟨#[]⟩, .int .i64 0, .int .i64 0]).heap[w.heap.size]? = some (.cells #[.int .i64 0, .string ⟨#[]⟩, .int .i64 0, .int .i64 0, .int .i64 0, .string ⟨#[]⟩, .int .i64 0, .int .i64 0] 50 (0, 0)) := by simpa [putA] using hb
  have hk := fun k hk => Rep.setRow_heap W1 w.heap.size 0 k [.int .i64 0, .string ⟨#[]⟩, .int .i64 0, .int .i64 0, .int .i64 0, .string ⟨#[]⟩, .int .i64 0, .int .i64 0] hk
  have hg := Rep.setRow_grown W1 w.heap.size 0 [.int .i64 0, .string ⟨#[]⟩, .int .i64 0, .int .i64 0, .int .i64 0, .string ⟨#[]⟩, .int .i64 0, .int .i64 0]
  change bodyPost _ _ _ _ _ (Rep.setRow W1 w.heap.size 0 [.int .i64 0, .string ⟨#[]⟩, .int .i64 0, .int .i64 0, .int .i64 0, .string ⟨#[]⟩, .int .i64 0, .int .i64 0])
  generalize Rep.setRow W1 w.heap.size 0 [.int .i64 0, .string ⟨#[]⟩, .int .i64 0, .int .i64 0, .int .i64 0, .string ⟨#[]⟩, .int .i64 0, .int .i64 0] = Wz at hb hk hg ⊢
  have c0 := var_cell hb 0
  have c1 := var_cell hb 1
  have c2 := var_cell hb 2
  have c3 := var_cell hb 3
  have c4 := var_cell hb 4
  have c5 := var_cell hb 5
  have c6 := var_cell hb 6
  have c7 := var_cell hb 7
  exact bodyPost_ret (v := .tuple #[.agg #[.int .i64 0, .string ⟨#[]⟩, .int .i64 0, .int .i64 0, .int .i64 0, .string ⟨#[]⟩, .int .i64 0, .int .i64 0], .bool false]) (by simp [results, Try.results118, go_sem, c0, c1, c2, c3, c4, c5, c6, c7]) rfl ⟨rfl, HE.out Wz hg⟩

set_option maxHeartbeats 4000000 in
theorem next_some {w : World} {g : Nat} {A : Option Addr} {c : Nat} {xs : List Ak} {B : Option Addr} {r n : Nat} {R : List Nat} {x : Ak} (h : HpQ w g A c xs B (r :: R) (n + 1)) (hx : xs[r]? = some x) :
    Calls Try.prog 118 #[.pointer (some ⟨g, 0, none⟩)] w (fun e w' => e = .returned (.tuple #[.agg #[.int .i64 x.sock, .string x.db, .int .i64 x.st, .int .i64 x.ticket, .int .i64 x.since, .string x.q, .int .i64 x.line, .int .i64 x.lease], .bool true]) ∧ HpQ w' g A c xs B R n ∧ Mv w w' g B B) := by
  have hfp := h.fp
  have hb := Later.alloc w (.cells #[.int .i64 0, .string ⟨#[]⟩, .int .i64 0, .int .i64 0, .int .i64 0, .string ⟨#[]⟩, .int .i64 0, .int .i64 0] 50)
  have hv := heap_alloc_new w (.cells #[.int .i64 0, .string ⟨#[]⟩, .int .i64 0, .int .i64 0, .int .i64 0, .string ⟨#[]⟩, .int .i64 0, .int .i64 0] 50)
  have hgl := h.lt
  have hgb := h.below hb
  have hlen : Calls Try.prog 173 #[.pointer (some ⟨g, 0, none⟩)] (w.alloc (.cells #[.int .i64 0, .string ⟨#[]⟩, .int .i64 0, .int .i64 0, .int .i64 0, .string ⟨#[]⟩, .int .i64 0, .int .i64 0] 50)) (fun e w' => e = .returned (.int .i64 ((n : Int) + 1)) ∧ (w.alloc (.cells #[.int .i64 0, .string ⟨#[]⟩, .int .i64 0, .int .i64 0, .int .i64 0, .string ⟨#[]⟩, .int .i64 0, .int .i64 0] 50)) = w') := by
    obtain ⟨d, P, h1, h2, h3⟩ := hgb
    have := len_any h1
    rw [h3] at this
    exact this
  have hn0 : ((n : Int) + 1 == 0) = false := by simp; omega
  have g0 : (w.alloc (.cells #[.int .i64 0, .string ⟨#[]⟩, .int .i64 0, .int .i64 0, .int .i64 0, .string ⟨#[]⟩, .int .i64 0, .int .i64 0] 50)).cell? ⟨g, 0, none⟩ = some (.slice A xs.length c) := by
    obtain ⟨d, P, h1, h2, h3⟩ := hgb
    exact var_cell h1.box 0
  have hpop := heapPop_any (w := (w.alloc (.cells #[.int .i64 0, .string ⟨#[]⟩, .int .i64 0, .int .i64 0, .int .i64 0, .string ⟨#[]⟩, .int .i64 0, .int .i64 0] 50)).drew) (h.below hb |>.keep fun _ _ _ => rfl)
  have hrl : r < xs.length := (List.getElem?_eq_some_iff.1 hx).1
  have HX := Lib.hid hx
  have HFP := Lib.hid hfp
  have HMB := Lib.hid (show ∀ w1 Wz, Mv (w.alloc (.cells #[.int .i64 0, .string ⟨#[]⟩, .int .i64 0, .int .i64 0, .int .i64 0, .string ⟨#[]⟩, .int .i64 0, .int .i64 0] 50)).drew w1 g B B → w1.grownBy Wz (some w.heap.size) → Mv w Wz g B B from fun w1 Wz h1 h2 =>
    Mv.boxed (w1 := w1) (.cells #[.int .i64 0, .string ⟨#[]⟩, .int .i64 0, .int .i64 0, .int .i64 0, .string ⟨#[]⟩, .int .i64 0, .int .i64 0] 50) ⟨⟨h1.only.os, h1.only.tape, h1.only.output, h1.only.size, h1.only.block⟩, h1.from_⟩ (fun a ha => (hfp a ha).2) h2)
  have HVK := Lib.hid (show ∀ w1, Mv (w.alloc (.cells #[.int .i64 0, .string ⟨#[]⟩, .int .i64 0, .int .i64 0, .int .i64 0, .string ⟨#[]⟩, .int .i64 0, .int .i64 0] 50)).drew w1 g B B → w1.heap[w.heap.size]? = some (.cells #[.int .i64 0, .string ⟨#[]⟩, .int .i64 0, .int .i64 0, .int .i64 0, .string ⟨#[]⟩, .int .i64 0, .int .i64 0] 50 (0, 0)) from fun w1 h1 =>
    (h1.only.block w.heap.size (by simp) (fun hm => by have := (hfp _ hm).2; omega)).trans hv)
  have hxl : xs.length ≤ 1048576 := by obtain ⟨d, P, h1, h2, h3⟩ := hgb; exact h1.xlen
  clear h hb hgb hfp hx hv
  go_enter Try.func118, Try.ntmps118
  go_wp2_with fail
  refine hlen.mono ?_
  clear hlen
  rintro e w2 ⟨rfl, rfl⟩
  go_wp2_with fail
  refine wp_region_lex' 100 [0, 1, 2, 3, 4, 5] [6, 7, 8, 9, 10, 11] (fun w' => w'.cell? ⟨g, 0, none⟩ = some (.slice A xs.length c)) (by kernel_rfl) (by kernel_rfl) g0 ?_
  iterate 6 (refine LexR.cons rfl ?_ (fun w' hw => ?_) ?_; rotate_left; focus (go_simp; (try exact rfl)); (try go_frame))
  refine LexR.nil (LexW.cons rfl ?_)
  go_wp2_with fail
  refine hpop.mono ?_
  clear hpop g0
  rintro e w3 ⟨rfl, hq, hmv⟩
  have HV := Lib.hid (HVK.out w3 hmv)
  have g0 : w3.cell? ⟨g, 0, none⟩ = some (.slice A xs.length c) := by
    obtain ⟨d, P, h1, h2, h3⟩ := hq
    exact var_cell h1.box 0
  have hrw : Rep.RowsAt akR w3 g A xs.length xs := by
    obtain ⟨d, P, h1, h2, h3⟩ := hq
    exact h1.rows
  obtain ⟨b, off, x', rfl, hbg, hx', e0, e1, e2, e3, e4, e5, e6, e7⟩ := ak_elem hrw hrl
  clear hrw
  obtain rfl : x = x' := Option.some.inj (HX.out.symm.trans hx')
  have ha := Try.as_int (r : Int)
  have hne : w.heap.size ≠ g := by omega
  have HE := Lib.hid (show ∀ Wz, w3.grownBy Wz (some w.heap.size) → HpQ Wz g (some ⟨b, off, none⟩) c xs B R n ∧ Mv w Wz g B B from fun Wz hg =>
    ⟨hq.keep fun k hk hc => hg.block k hk (fun e => by injection e with e; subst e; rcases hc with hc | hc; omega; have := (HFP.out _ hc).2; omega), HMB.out w3 Wz hmv hg⟩)
  clear hq hmv hx' HX HMB HVK HFP
  have d0 := var_cell HV.out 0
  have f0 := var_frozen HV.out 0
  have d1 := var_cell HV.out 1
  have f1 := var_frozen HV.out 1
  have d2 := var_cell HV.out 2
  have f2 := var_frozen HV.out 2
  have d3 := var_cell HV.out 3
  have f3 := var_frozen HV.out 3
  have d4 := var_cell HV.out 4
  have f4 := var_frozen HV.out 4
  have d5 := var_cell HV.out 5
  have f5 := var_frozen HV.out 5
  have d6 := var_cell HV.out 6
  have f6 := var_frozen HV.out 6
  have d7 := var_cell HV.out 7
  have f7 := var_frozen HV.out 7
  go_wp2_with fail
  refine ⟨fun _ => g0, LexW.cons rfl ?_⟩
  try go_frame
  go_wp2_with fail
  refine ⟨fun _ => g0, LexW.cons rfl ?_⟩
  try go_frame
  go_wp2_with fail
  refine ⟨fun _ => g0, LexW.cons rfl ?_⟩
  try go_frame
  go_wp2_with fail
  refine ⟨fun _ => g0, LexW.cons rfl ?_⟩
  try go_frame
  go_wp2_with fail
  have g2 := Rep.setRow_heap w3 w.heap.size 0 g [.int .i64 x.sock, .string x.db, .int .i64 x.st, .int .i64 x.ticket, .int .i64 x.since, .string x.q, .int .i64 x.line, .int .i64 x.lease] hne.symm
  have g3 := (World.cell?_of_block (a := ⟨g, 0, none⟩) g2).trans g0
  clear g2
  refine ⟨fun _ => g3, LexW.cons rfl ?_⟩
  try go_frame
  go_wp2_with fail
  refine ⟨fun _ => g3, LexW.nil ?_⟩
  clear g3
  clear d0 f0 d1 f1 d2 f2 d3 f3 d4 f4 d5 f5 d6 f6 d7 f7
  have hb := setRow_box 0 [.int .i64 x.sock, .string x.db, .int .i64 x.st, .int .i64 x.ticket, .int .i64 x.since, .string x.q, .int .i64 x.line, .int .i64 x.lease] HV.out
  replace hb : (Rep.setRow w3 w.heap.size 0 [.int .i64 x.sock, .string x.db, .int .i64 x.st, .int .i64 x.ticket, .int .i64 x.since, .string x.q, .int .i64 x.line, .int .i64 x.lease]).heap[w.heap.size]? = some (.cells #[.int .i64 x.sock, .string x.db, .int .i64 x.st, .int .i64 x.ticket, .int .i64 x.since, .string x.q, .int .i64 x.line, .int .i64 x.lease] 50 (0, 0)) := by simpa [putA] using hb
  have hk := fun k hk => Rep.setRow_heap w3 w.heap.size 0 k [.int .i64 x.sock, .string x.db, .int .i64 x.st, .int .i64 x.ticket, .int .i64 x.since, .string x.q, .int .i64 x.line, .int .i64 x.lease] hk
  have hg := Rep.setRow_grown w3 w.heap.size 0 [.int .i64 x.sock, .string x.db, .int .i64 x.st, .int .i64 x.ticket, .int .i64 x.since, .string x.q, .int .i64 x.line, .int .i64 x.lease]
  change Exit.then _ _ Exit.normal _ (Rep.setRow w3 w.heap.size 0 [.int .i64 x.sock, .string x.db, .int .i64 x.st, .int .i64 x.ticket, .int .i64 x.since, .string x.q, .int .i64 x.line, .int .i64 x.lease])
  generalize Rep.setRow w3 w.heap.size 0 [.int .i64 x.sock, .string x.db, .int .i64 x.st, .int .i64 x.ticket, .int .i64 x.since, .string x.q, .int .i64 x.line, .int .i64 x.lease] = Wz at hb hk hg ⊢
  go_wp2_with fail
  have c0 := var_cell hb 0
  have c1 := var_cell hb 1
  have c2 := var_cell hb 2
  have c3 := var_cell hb 3
  have c4 := var_cell hb 4
  have c5 := var_cell hb 5
  have c6 := var_cell hb 6
  have c7 := var_cell hb 7
  exact bodyPost_ret (v := .tuple #[.agg #[.int .i64 x.sock, .string x.db, .int .i64 x.st, .int .i64 x.ticket, .int .i64 x.since, .string x.q, .int .i64 x.line, .int .i64 x.lease], .bool true]) (by simp [results, Try.results118, go_sem, c0, c1, c2, c3, c4, c5, c6, c7]) rfl ⟨rfl, HE.out Wz hg⟩

end Go.Proofs.Ytgdhhhibkhfdlaa
