/- Frames that are drawn; bytes that are drawn. (By gen_draw6.py.) -/
import Derived.Test.YtlhmdjaplcopoaaFrameS
import Derived.Test.YtlhmdjaplcopoaaBend
import Derived.Test.YtlhmdjaplcopoaaCur
import Derived.Test.YtlhmdjaplcopoaaDrawText
import Derived.Test.YtlhmdjaplcopoaaDrawSum
namespace Go.Proofs.Ytlhmdjaplcopoaa
open Go.RowKit
set_option maxRecDepth 100000
set_option linter.unusedVariables false

/-- A variable that holds a frame lies in block D, the result's box beside it, the cursor elsewhere. -/
structure VF (w : World) (lo g : Nat) (A : Option Addr) (n c : Nat) (code : List UInt8) (D : Nat) (r : Fr) (wr : World) : Prop where
  zero : wr.heap[w.heap.size]? = some (.cells (frC ⟨0, ⟨#[]⟩, 0⟩).toArray 25 (0, 0))
  var : wr.heap[D]? = some (.cells (frC r).toArray 25 (0, 0))
  cur : Cur wr lo g A n c code
  only : Rep.Only w wr [g]
  hD : w.heap.size < D
  lt : g < w.heap.size
  from_ : lo ≤ g
section
variable {w w1 w2 : World} {lo g : Nat} {A : Option Addr} {n c : Nat} {code : List UInt8} {D : Nat} {r : Fr}
theorem VF.step (h : VF w lo g A n c code D r w1) (hc : Cur w2 lo g A n c code) (ho : Rep.Only w1 w2 [g]) : VF w lo g A n c code D r w2 :=
  ⟨(ho.block _ (Array.getElem?_eq_some_iff.1 h.zero).1 (by have := h.lt; simp; omega)).trans h.zero, (ho.block _ (Array.getElem?_eq_some_iff.1 h.var).1 (by have := h.lt; have := h.hD; simp; omega)).trans h.var, hc, h.only.then ho (fun a ha => .inl ha), h.hD, h.lt, h.from_⟩
theorem VF.set (h : VF w lo g A n c code D r w1) (i : Nat) (u : Value) (r' : Fr) (hr : (frC r).toArray.setIfInBounds i u = (frC r').toArray) : VF w lo g A n c code D r' (w1.setCell ⟨D, i, none⟩ u) := by
  have ho := Rep.Only.setCell w1 (p := ⟨D, i, none⟩) (fp := [D]) (by simp) u
  have h1 := h.hD
  have h2 := h.lt
  have h3 := h.from_
  exact ⟨(ho.block _ (Array.getElem?_eq_some_iff.1 h.zero).1 (by simp; omega)).trans h.zero, by rw [← hr]; exact var_set h.var i u, h.cur.only ho (by simp; omega) (fun a ha => by simp at ha; omega), h.only.then ho (fun a ha => .inr (by simp at ha; omega)), h1, h2, h3⟩
end
/-- A frame comes back. -/
def RetDr (P : Fr → Prop) (w : World) (lo g : Nat) (A : Option Addr) (n c : Nat) (code : List UInt8) (e : Ending) (w' : World) : Prop :=
  ∃ r : Fr, e = .returned (.agg #[.int .i64 r.k, .string r.s, .int .i64 r.st]) ∧ P r ∧ Cur w' lo g A n c code ∧ Rep.Only w w' [g]
theorem put3_only (w : World) (D : Nat) (a b c : Value) : Rep.Only w (((w.setCell ⟨D, 0, none⟩ a).setCell ⟨D, 1, none⟩ b).setCell ⟨D, 2, none⟩ c) [D] :=
  ((Rep.Only.setCell w (by simp) _).trans (Rep.Only.setCell _ (by simp) _)).trans (Rep.Only.setCell _ (by simp) _)
theorem VF.ret {P : Fr → Prop} {w w1 : World} {lo g : Nat} {A : Option Addr} {n c : Nat} {code : List UInt8} {D : Nat} {k m : Int} {t : ByteArray} (h : VF w lo g A n c code D ⟨k, t, m⟩ w1) (ht : P ⟨k, t, m⟩) :
    RetDr P w lo g A n c code (.returned (.agg #[.int .i64 k, .string t, .int .i64 m])) (((w1.setCell ⟨w.heap.size, 0, none⟩ (.int .i64 k)).setCell ⟨w.heap.size, 1, none⟩ (.string t)).setCell ⟨w.heap.size, 2, none⟩ (.int .i64 m)) := by
  have ho := put3_only w1 w.heap.size (.int .i64 k) (.string t) (.int .i64 m)
  have h2 := h.lt
  have h3 := h.from_
  exact ⟨⟨k, t, m⟩, rfl, ht, h.cur.only ho (by simp; omega) (fun a ha => by simp at ha; omega), h.only.then ho (fun a ha => .inr (by simp at ha; omega))⟩
theorem VF.facts {w w1 : World} {lo g : Nat} {A : Option Addr} {n c : Nat} {code : List UInt8} {D : Nat} {k m : Int} {t : ByteArray} (h : VF w lo g A n c code D ⟨k, t, m⟩ w1) :
    (w1.cell? ⟨D, 0, none⟩ = some (.int .i64 k) ∧ w1.cell? ⟨D, 1, none⟩ = some (.string t) ∧ w1.cell? ⟨D, 2, none⟩ = some (.int .i64 m)) ∧ (∀ i, w1.frozen? ⟨D, i, none⟩ = false) ∧
    (w1.cell? ⟨w.heap.size, 0, none⟩ = some (.int .i64 0) ∧ w1.cell? ⟨w.heap.size, 1, none⟩ = some (.string ⟨#[]⟩) ∧ w1.cell? ⟨w.heap.size, 2, none⟩ = some (.int .i64 0)) ∧ (∀ i, w1.frozen? ⟨w.heap.size, i, none⟩ = false) :=
  ⟨fr_box h.var, var_frozen h.var, fr_box h.zero, var_frozen h.zero⟩

def FrGood (f : Fr) : Prop := frB f = true ∧ f.s.size ≤ 101
def FrSmall (f : Fr) : Prop := f.s.size ≤ 101

set_option maxHeartbeats 4000000 in
theorem l6Draw_any (lo g : Nat) (A : Option Addr) (n c : Nat) (code : List UInt8) (w : World) (h : Cur w lo g A n c code) (hn : n ≤ 140737488351232) :
    Calls Try.prog 52 #[.pointer (some ⟨g, 0, none⟩)] w (RetDr FrGood w lo g A n c code) := by
  have hglt := h.lt
  have hlg := h.from_
  go_enter Try.func52, Try.ntmps52
  go_wp2_with fail
  have ho1 := Rep.only_alloc w (.cells #[.int .i64 0, .string ⟨#[]⟩, .int .i64 0] 25)
  have hv1 := heap_alloc_new w (.cells #[.int .i64 0, .string ⟨#[]⟩, .int .i64 0] 25)
  have hs1 : (w.alloc (.cells #[.int .i64 0, .string ⟨#[]⟩, .int .i64 0] 25)).heap.size = w.heap.size + 1 := by simp
  generalize w.alloc (.cells #[.int .i64 0, .string ⟨#[]⟩, .int .i64 0] 25) = W1 at ho1 hv1 hs1 ⊢
  have hc1 := h.only ho1 (by simp) (fun a ha => by cases ha)
  have O1 : Rep.Only w W1 [g] := ho1.mono (by simp)
  have V1 := Lib.hid hv1
  clear ho1 hv1 h
  refine (l1Below_any lo g A n c code 6 W1 hc1 hn (by omega) (by omega)).mono ?_
  rintro e W2 ⟨x, hx, rfl, hc2, hg2⟩
  have ho := only_g hg2
  have V2 := Rep.var_only V1 ho (by omega) (by simp; omega)
  have O2 := O1.then ho (fun a ha => .inl ha)
  have s2 := ho.size
  clear hg2 ho hc1 V1 O1
  have V : ∀ kd : Int, VF w lo g A n c code W2.heap.size ⟨kd, ⟨#[]⟩, 0⟩ (W2.alloc (.cells #[.int .i64 kd, .string ⟨#[]⟩, .int .i64 0] 25)) := fun kd =>
    ⟨(Below.heap_alloc _ _ _ (by omega)).trans V2.out, heap_alloc_new _ _, hc2.alloc _, O2.then (Rep.only_alloc _ _) (fun a ha => by cases ha), by omega, hglt, hlg⟩
  clear hc2 O2
  have split : x = 0 ∨ x = 1 ∨ x = 2 ∨ x = 3 ∨ x = 4 ∨ x = 5 := by omega
  rcases split with rfl | rfl | rfl | rfl | rfl | rfl
  · replace V := V 1
    clear V2
    go_wp2_with fail
    have hs4 : (W2.alloc (.cells #[.int .i64 1, .string ⟨#[]⟩, .int .i64 0] 25)).heap.size = W2.heap.size + 1 := by simp
    generalize W2.alloc (.cells #[.int .i64 1, .string ⟨#[]⟩, .int .i64 0] 25) = W4 at V hs4 ⊢
    rw [← hs4]
    clear hs4
    generalize W2.heap.size = D at V ⊢
    refine (draw_str lo g A n c code [⟨#[109, 97, 105, 110]⟩, ⟨#[108, 111, 103, 115]⟩, ⟨#[120]⟩, ⟨#[97, 100, 109, 105, 110]⟩] W4 V.cur hn (by decide) (by decide)).mono ?_
    rintro e W5 ⟨s, hs, rfl, hc5, ho5⟩
    have HG : Hid (FrGood ⟨1, s, 0⟩) := Lib.hid (by
      simp only [List.mem_cons, List.not_mem_nil, or_false] at hs
      rcases hs with rfl | rfl | rfl | rfl <;> exact ⟨by kernel_rfl, by decide⟩)
    replace V := V.step hc5 ho5
    clear hc5 ho5 hs
    obtain ⟨⟨d0, d1, d2⟩, df, ⟨z0, z1, z2⟩, zf⟩ := V.facts
    have dfi := df 1
    have hDl : D < W5.heap.size := (Array.getElem?_eq_some_iff.1 V.var).1
    have hne : w.heap.size ≠ D := by have := V.hD; omega
    have zf0 := zf 0
    have zf1 := zf 1
    have zf2 := zf 2
    have hret := (V.set 1 (.string s) ⟨1, s, 0⟩ rfl).ret HG.out
    clear V df zf
    go_wp2_with fail
    exact bodyPost_ret (v := .agg #[.int .i64 1, .string s, .int .i64 0]) (by simp [results, Try.results52, go_sem, z0, z1, z2]) rfl hret
  · replace V := V 2
    clear V2
    go_wp2_with fail
    have hs4 : (W2.alloc (.cells #[.int .i64 2, .string ⟨#[]⟩, .int .i64 0] 25)).heap.size = W2.heap.size + 1 := by simp
    generalize W2.alloc (.cells #[.int .i64 2, .string ⟨#[]⟩, .int .i64 0] 25) = W4 at V hs4 ⊢
    rw [← hs4]
    clear hs4
    generalize W2.heap.size = D at V ⊢
    refine (draw_str lo g A n c code [⟨#[98, 101, 103, 105, 110]⟩, ⟨#[99, 111, 109, 109, 105, 116]⟩, ⟨#[114, 111, 108, 108, 98, 97, 99, 107]⟩, ⟨#[102, 97, 105, 108]⟩, ⟨#[111, 110, 101]⟩, ⟨#[116, 119, 111]⟩, ⟨#[]⟩] W4 V.cur hn (by decide) (by decide)).mono ?_
    rintro e W5 ⟨s, hs, rfl, hc5, ho5⟩
    have HG : Hid (FrGood ⟨2, s, 0⟩) := Lib.hid (by
      simp only [List.mem_cons, List.not_mem_nil, or_false] at hs
      rcases hs with rfl | rfl | rfl | rfl | rfl | rfl | rfl <;> exact ⟨by kernel_rfl, by decide⟩)
    replace V := V.step hc5 ho5
    clear hc5 ho5 hs
    obtain ⟨⟨d0, d1, d2⟩, df, ⟨z0, z1, z2⟩, zf⟩ := V.facts
    have dfi := df 1
    have hDl : D < W5.heap.size := (Array.getElem?_eq_some_iff.1 V.var).1
    have hne : w.heap.size ≠ D := by have := V.hD; omega
    have zf0 := zf 0
    have zf1 := zf 1
    have zf2 := zf 2
    have hret := (V.set 1 (.string s) ⟨2, s, 0⟩ rfl).ret HG.out
    clear V df zf
    go_wp2_with fail
    exact bodyPost_ret (v := .agg #[.int .i64 2, .string s, .int .i64 0]) (by simp [results, Try.results52, go_sem, z0, z1, z2]) rfl hret
  · replace V := V 3
    clear V2
    go_upto_region 12 with (fail)
    generalize W2.alloc (.cells #[.int .i64 3, .string ⟨#[]⟩, .int .i64 0] 25) = W5 at V ⊢
    generalize W2.heap.size = D at V ⊢
    obtain ⟨⟨d0, d1, d2⟩, df, ⟨z0, z1, z2⟩, zf⟩ := V.facts
    have hne : w.heap.size ≠ D := by have := V.hD; omega
    have zf0 := zf 0
    have zf1 := zf 1
    have zf2 := zf 2
    have hret := V.ret (P := FrGood) (by exact ⟨by kernel_rfl, by decide⟩)
    clear V df zf
    go_wp2_with fail
    exact bodyPost_ret (v := .agg #[.int .i64 3, .string ⟨#[]⟩, .int .i64 0]) (by simp [results, Try.results52, go_sem, z0, z1, z2]) rfl hret
  · replace V := V 4
    clear V2
    go_wp2_with fail
    have hs4 : (W2.alloc (.cells #[.int .i64 4, .string ⟨#[]⟩, .int .i64 0] 25)).heap.size = W2.heap.size + 1 := by simp
    generalize W2.alloc (.cells #[.int .i64 4, .string ⟨#[]⟩, .int .i64 0] 25) = W4 at V hs4 ⊢
    rw [← hs4]
    clear hs4
    generalize W2.heap.size = D at V ⊢
    refine (draw_str lo g A n c code [⟨#[]⟩, ⟨#[97]⟩, ⟨#[102, 117, 108, 108]⟩, ⟨#[111, 110, 101]⟩] W4 V.cur hn (by decide) (by decide)).mono ?_
    rintro e W5 ⟨s, hs, rfl, hc5, ho5⟩
    have HG : Hid (FrGood ⟨4, s, 0⟩) := Lib.hid (by
      simp only [List.mem_cons, List.not_mem_nil, or_false] at hs
      rcases hs with rfl | rfl | rfl | rfl <;> exact ⟨by kernel_rfl, by decide⟩)
    replace V := V.step hc5 ho5
    clear hc5 ho5 hs
    obtain ⟨⟨d0, d1, d2⟩, df, ⟨z0, z1, z2⟩, zf⟩ := V.facts
    have dfi := df 1
    have hDl : D < W5.heap.size := (Array.getElem?_eq_some_iff.1 V.var).1
    have hne : w.heap.size ≠ D := by have := V.hD; omega
    have zf0 := zf 0
    have zf1 := zf 1
    have zf2 := zf 2
    have hret := (V.set 1 (.string s) ⟨4, s, 0⟩ rfl).ret HG.out
    clear V df zf
    go_wp2_with fail
    exact bodyPost_ret (v := .agg #[.int .i64 4, .string s, .int .i64 0]) (by simp [results, Try.results52, go_sem, z0, z1, z2]) rfl hret
  · replace V := V 5
    clear V2
    go_wp2_with fail
    generalize W2.alloc (.cells #[.int .i64 5, .string ⟨#[]⟩, .int .i64 0] 25) = W4 at V ⊢
    generalize W2.heap.size = D at V ⊢
    refine (l1Below_any lo g A n c code 3 W4 V.cur hn (by omega) (by omega)).mono ?_
    rintro e W5 ⟨y, hy, rfl, hc5, hg5⟩
    replace V := V.step hc5 (only_g hg5)
    clear hc5 hg5
    obtain ⟨⟨d0, d1, d2⟩, df, ⟨z0, z1, z2⟩, zf⟩ := V.facts
    have dfi := df 2
    have hDl : D < W5.heap.size := (Array.getElem?_eq_some_iff.1 V.var).1
    have hne : w.heap.size ≠ D := by have := V.hD; omega
    have zf0 := zf 0
    have zf1 := zf 1
    have zf2 := zf 2
    have hret := (V.set 2 (.int .i64 (y : Int)) ⟨5, ⟨#[]⟩, (y : Int)⟩ rfl).ret (P := FrGood) ⟨by rw [frB_5]; simp [inI]; omega, by show 0 ≤ 101; omega⟩
    clear V df zf
    go_wp2_with fail
    exact bodyPost_ret (v := .agg #[.int .i64 5, .string ⟨#[]⟩, .int .i64 (y : Int)]) (by simp [results, Try.results52, go_sem, z0, z1, z2]) rfl hret
  · replace V := V 6
    clear V2
    go_wp2_with fail
    have hs4 : (W2.alloc (.cells #[.int .i64 6, .string ⟨#[]⟩, .int .i64 0] 25)).heap.size = W2.heap.size + 1 := by simp
    generalize W2.alloc (.cells #[.int .i64 6, .string ⟨#[]⟩, .int .i64 0] 25) = W4 at V hs4 ⊢
    rw [← hs4]
    clear hs4
    generalize W2.heap.size = D at V ⊢
    refine (draw_str lo g A n c code [⟨#[]⟩, ⟨#[97]⟩, ⟨#[102, 117, 108, 108]⟩, ⟨#[111, 110, 101]⟩] W4 V.cur hn (by decide) (by decide)).mono ?_
    rintro e W5 ⟨s, hs, rfl, hc5, ho5⟩
    have HG : Hid (FrGood ⟨6, s, 0⟩) := Lib.hid (by
      simp only [List.mem_cons, List.not_mem_nil, or_false] at hs
      rcases hs with rfl | rfl | rfl | rfl <;> exact ⟨by kernel_rfl, by decide⟩)
    replace V := V.step hc5 ho5
    clear hc5 ho5 hs
    obtain ⟨⟨d0, d1, d2⟩, df, ⟨z0, z1, z2⟩, zf⟩ := V.facts
    have dfi := df 1
    have hDl : D < W5.heap.size := (Array.getElem?_eq_some_iff.1 V.var).1
    have hne : w.heap.size ≠ D := by have := V.hD; omega
    have zf0 := zf 0
    have zf1 := zf 1
    have zf2 := zf 2
    have hret := (V.set 1 (.string s) ⟨6, s, 0⟩ rfl).ret HG.out
    clear V df zf
    go_wp2_with fail
    exact bodyPost_ret (v := .agg #[.int .i64 6, .string s, .int .i64 0]) (by simp [results, Try.results52, go_sem, z0, z1, z2]) rfl hret

set_option maxHeartbeats 4000000 in
theorem l6Any_any (lo g : Nat) (A : Option Addr) (n c : Nat) (code : List UInt8) (w : World) (h : Cur w lo g A n c code) (hn : n ≤ 140737488351232) :
    Calls Try.prog 38 #[.pointer (some ⟨g, 0, none⟩)] w (RetDr FrSmall w lo g A n c code) := by
  have hglt := h.lt
  have hlg := h.from_
  go_enter Try.func38, Try.ntmps38
  go_wp2_with fail
  have ho1 := Rep.only_alloc w (.cells #[.int .i64 0, .string ⟨#[]⟩, .int .i64 0] 25)
  have hv1 := heap_alloc_new w (.cells #[.int .i64 0, .string ⟨#[]⟩, .int .i64 0] 25)
  have hs1 : (w.alloc (.cells #[.int .i64 0, .string ⟨#[]⟩, .int .i64 0] 25)).heap.size = w.heap.size + 1 := by simp
  generalize w.alloc (.cells #[.int .i64 0, .string ⟨#[]⟩, .int .i64 0] 25) = W1 at ho1 hv1 hs1 ⊢
  have hc1 := h.only ho1 (by simp) (fun a ha => by cases ha)
  have O1 : Rep.Only w W1 [g] := ho1.mono (by simp)
  have V1 := Lib.hid hv1
  clear ho1 hv1 h
  refine (l6Draw_any lo g A n c code W1 hc1 hn).mono ?_
  rintro e W2 ⟨⟨rk, rs, rt⟩, rfl, ⟨_, hts⟩, hc2, ho⟩
  have V2 := Rep.var_only V1 ho (by omega) (by simp; omega)
  have O2 := O1.then ho (fun a ha => .inl ha)
  have s2 := ho.size
  have V : VF w lo g A n c code W2.heap.size ⟨rk, rs, rt⟩ (W2.alloc (.cells #[.int .i64 rk, .string rs, .int .i64 rt] 25)) :=
    ⟨(Below.heap_alloc _ _ _ (by omega)).trans V2.out, heap_alloc_new _ _, hc2.alloc _, O2.then (Rep.only_alloc _ _) (fun a ha => by cases ha), by omega, hglt, hlg⟩
  clear hc2 ho hc1 V1 O1 V2 O2
  replace hts : rs.size ≤ 101 := hts
  go_wp2_with fail
  generalize W2.alloc (.cells #[.int .i64 rk, .string rs, .int .i64 rt] 25) = W4 at V ⊢
  generalize W2.heap.size = D at V ⊢
  refine (l1Below_any lo g A n c code 10 W4 V.cur hn (by omega) (by omega)).mono ?_
  rintro e W5 ⟨k, hk, rfl, hc5, hg5⟩
  replace V := V.step hc5 (only_g hg5)
  have hne : w.heap.size ≠ D := by have := V.hD; omega
  clear hc5 hg5 s2 hs1
  have split : k = 0 ∨ k = 1 ∨ k = 2 ∨ 3 ≤ k := by omega
  rcases split with rfl | rfl | rfl | h3
  · go_wp2_with fail
    refine (draw_int lo g A n c code [0, 1, 2, 5, 7, -1] W5 V.cur hn (by decide) (by decide)).mono ?_
    rintro e W6 ⟨z, hz, rfl, hc6, ho6⟩
    replace V := V.step hc6 ho6
    clear hc6 ho6 hz
    obtain ⟨⟨d0, d1, d2⟩, df, ⟨z0, z1, z2⟩, zf⟩ := V.facts
    have dfi := df 0
    have hDl : D < W6.heap.size := (Array.getElem?_eq_some_iff.1 V.var).1
    have zf0 := zf 0
    have zf1 := zf 1
    have zf2 := zf 2
    have hret := (V.set 0 (.int .i64 z) ⟨z, rs, rt⟩ rfl).ret (P := FrSmall) hts
    clear V df zf
    go_wp2_with fail
    exact bodyPost_ret (v := .agg #[.int .i64 z, .string rs, .int .i64 rt]) (by simp [results, Try.results38, go_sem, z0, z1, z2]) rfl hret
  · go_wp2_with fail
    refine (l1Text_any lo g A n c code W5 V.cur hn).mono ?_
    rintro e W6 ⟨t, ht, rfl, hc6, hg6⟩
    replace V := V.step hc6 (only_g hg6)
    clear hc6 hg6
    obtain ⟨⟨d0, d1, d2⟩, df, ⟨z0, z1, z2⟩, zf⟩ := V.facts
    have dfi := df 1
    have hDl : D < W6.heap.size := (Array.getElem?_eq_some_iff.1 V.var).1
    have zf0 := zf 0
    have zf1 := zf 1
    have zf2 := zf 2
    have hret := (V.set 1 (.string t) ⟨rk, t, rt⟩ rfl).ret (P := FrSmall) ht
    clear V df zf
    go_wp2_with fail
    exact bodyPost_ret (v := .agg #[.int .i64 rk, .string t, .int .i64 rt]) (by simp [results, Try.results38, go_sem, z0, z1, z2]) rfl hret
  · go_wp2_with fail
    refine (draw_int lo g A n c code [1, 2, 3, -1] W5 V.cur hn (by decide) (by decide)).mono ?_
    rintro e W6 ⟨z, hz, rfl, hc6, ho6⟩
    replace V := V.step hc6 ho6
    clear hc6 ho6 hz
    obtain ⟨⟨d0, d1, d2⟩, df, ⟨z0, z1, z2⟩, zf⟩ := V.facts
    have dfi := df 2
    have hDl : D < W6.heap.size := (Array.getElem?_eq_some_iff.1 V.var).1
    have zf0 := zf 0
    have zf1 := zf 1
    have zf2 := zf 2
    have hret := (V.set 2 (.int .i64 z) ⟨rk, rs, z⟩ rfl).ret (P := FrSmall) hts
    clear V df zf
    go_wp2_with fail
    exact bodyPost_ret (v := .agg #[.int .i64 rk, .string rs, .int .i64 z]) (by simp [results, Try.results38, go_sem, z0, z1, z2]) rfl hret
  · have b0 : ((k : Int) == 0) = false := beq_eq_false_iff_ne.2 (by omega)
    have b1 : ((k : Int) == 1) = false := beq_eq_false_iff_ne.2 (by omega)
    have b2 : ((k : Int) == 2) = false := beq_eq_false_iff_ne.2 (by omega)
    obtain ⟨⟨d0, d1, d2⟩, df, ⟨z0, z1, z2⟩, zf⟩ := V.facts
    have hDl : D < W5.heap.size := (Array.getElem?_eq_some_iff.1 V.var).1
    have zf0 := zf 0
    have zf1 := zf 1
    have zf2 := zf 2
    have hret := V.ret (P := FrSmall) hts
    clear V df zf
    go_wp2_with fail
    exact bodyPost_ret (v := .agg #[.int .i64 rk, .string rs, .int .i64 rt]) (by simp [results, Try.results38, go_sem, z0, z1, z2]) rfl hret

/-- A frame of any kind is drawn. -/
def RetDraw (w : World) (e : Ending) (w' : World) : Prop := ∃ r : Fr, e = .returned (.agg #[.int .i64 r.k, .string r.s, .int .i64 r.st]) ∧ r.s.size ≤ 101 ∧ Below w.heap.size w w'
theorem put3_below' {w W1 : World} (h : Below w.heap.size w W1) (a b c : Value) : Below w.heap.size w (((W1.setCell ⟨w.heap.size, 0, none⟩ a).setCell ⟨w.heap.size, 1, none⟩ b).setCell ⟨w.heap.size, 2, none⟩ c) :=
  ((h.setCell (Nat.le_refl _) _).setCell (Nat.le_refl _) _).setCell (Nat.le_refl _) _

set_option maxHeartbeats 4000000 in
theorem drawPutFrame_any (A : Option Addr) (c : Nat) (code : List UInt8) (w : World) (h : Reads w w.heap.size 1 A code.length (bys code)) (hn : code.length ≤ 1048576) :
    Calls Try.prog 11 #[.slice A code.length c] w (RetDraw w) := by
  have B0 := Later.alloc w (.cells #[.int .i64 0, .string ⟨#[]⟩, .int .i64 0] 25)
  have R0 := (h.below B0).more B0.size
  have z := heap_alloc_new w (.cells #[.int .i64 0, .string ⟨#[]⟩, .int .i64 0] 25)
  have HZ := Lib.hid z
  have hs0 : (w.alloc (.cells #[.int .i64 0, .string ⟨#[]⟩, .int .i64 0] 25)).heap.size = w.heap.size + 1 := by simp
  clear z h
  go_enter Try.func11, Try.ntmps11
  go_wp2_with fail
  generalize w.alloc (.cells #[.int .i64 0, .string ⟨#[]⟩, .int .i64 0] 25) = W0 at B0 R0 HZ hs0 ⊢
  refine (l1New_any A c code W0 R0 hn).mono ?_
  rintro e W1 ⟨g, rfl, hcur, hb1⟩
  have hlg := hcur.from_
  go_wp2_with fail
  refine (l6Any_any W0.heap.size g A code.length c code W1 hcur (by omega)).mono ?_
  rintro e W2 ⟨⟨rk, rs, rt⟩, rfl, hP, hc2, ho⟩
  replace hP : rs.size ≤ 101 := hP
  have hb2 : Below W0.heap.size W0 W2 := Rep.Only.below hb1 ho hb1.size (fun a ha => by simp at ha; omega)
  have z2 := (hb2.block w.heap.size (by omega)).trans HZ.out
  obtain ⟨z0, z1, z3⟩ := fr_box (r := ⟨0, ⟨#[]⟩, 0⟩) z2
  have q0 := var_frozen z2 0
  have q1 := var_frozen z2 1
  have q2 := var_frozen z2 2
  have hfin := Later.trans B0 hb2
  clear B0 R0 HZ hs0 hcur hb1 hlg hc2 ho hb2 z2
  go_wp2_with fail
  exact bodyPost_ret (v := .agg #[.int .i64 rk, .string rs, .int .i64 rt]) (by simp [results, Try.results11, go_sem, z0, z1, z3]) rfl ⟨⟨rk, rs, rt⟩, rfl, hP, put3_below' hfin _ _ _⟩

theorem own_step {w w' : World} {base g : Nat} {e : TypeId} {v : Value} {l : List UInt8} (h : Owns w base e v l) (ho : Rep.Only w w' [g]) (hg : g < base) : Owns w' base e v l :=
  Rep.ownsRow_block h (fun k hk => ho.block k (h.lt k (by simpa using hk)).2 (by have := (h.lt k (by simpa using hk)).1; simp; omega))

/-- Bytes of the call's own come back. -/
def RetBy (N : Nat) (w : World) (lo g : Nat) (A : Option Addr) (n c : Nat) (code : List UInt8) (e : Ending) (w' : World) : Prop :=
  ∃ A2 c2 l', e = .returned (.slice A2 l'.length c2) ∧ l'.length ≤ N ∧ l'.length ≤ c2 ∧ Owns w' w.heap.size 5 (.slice A2 l'.length c2) l' ∧ Cur w' lo g A n c code ∧ Rep.Only w w' [g]

set_option maxHeartbeats 4000000 in
theorem l6Bytes_any (lo g : Nat) (A : Option Addr) (n c : Nat) (code : List UInt8) (w : World) (h : Cur w lo g A n c code) (hn : n ≤ 140737488351232) :
    Calls Try.prog 46 #[.pointer (some ⟨g, 0, none⟩)] w (RetBy 103 w lo g A n c code) := by
  have hglt := h.lt
  go_enter Try.func46, Try.ntmps46
  go_wp2_with fail
  refine (l6Draw_any lo g A n c code w h hn).mono ?_
  rintro e W1 ⟨⟨rk, rs, rt⟩, rfl, ⟨_, hts⟩, hc1, ho1⟩
  replace hts : rs.size ≤ 101 := hts
  clear h
  go_wp2_with fail
  refine (putFrameS_any ⟨rk, rs, rt⟩ W1 (by show rs.size ≤ 1048576; omega)).mono ?_
  have hln := putF_len ⟨rk, rs, rt⟩
  generalize putF ⟨rk, rs, rt⟩ = l at hln ⊢
  rintro e W2 ⟨v2, rfl, o2, hb⟩
  obtain ⟨A2, c2, rfl, hk2, _, _, _⟩ := o2.shape
  have hb' := Rep.only_of_below hb
  have hc2 := hc1.only hb' (by simp) (fun a ha => by cases ha)
  have ho2 := ho1.then hb' (fun a ha => by cases ha)
  have hg1 : g < W1.heap.size := hc1.lt
  clear hc1 ho1 hb'
  go_wp2_with fail
  refine (l1Once_any lo g A n c code 6 W2 hc2 hn (by omega) (by omega)).mono ?_
  rintro e W3 ⟨y, rfl, hc3, hg3⟩
  replace o2 := own_step o2 (only_g hg3) hg1
  have ho3 := ho2.trans (only_g hg3)
  clear hc2 ho2 hg3
  cases y
  · go_wp2_with fail
    refine (l1BendO_any lo g A A2 n c c2 code l W3 hc3 hn o2.reads (by omega)).mono ?_
    rintro e W4 ⟨A4, c4, l4, rfl, hl4, hk4, o4, hc4, ho4⟩
    have hle := ho3.size
    go_wp2_with fail
    go_ret
    exact ⟨A4, c4, l4, rfl, by omega, hk4, ownsRow_mono o4 hle, hc4, ho3.trans ho4⟩
  · go_wp2_with fail
    refine (l1Below_any lo g A n c code 4 W3 hc3 hn (by omega) (by omega)).mono ?_
    rintro e W4 ⟨x, hx, rfl, hc4, hg4⟩
    have ho4 := ho3.trans (only_g hg4)
    clear hc3 ho3 hg4 o2
    go_wp2_with fail
    refine (l1Bytes_any lo g A n c code x W4 hc4 hn (by omega)).mono ?_
    rintro e W5 ⟨v5, l5, hl5, rfl, o5, hc5, hg5⟩
    obtain ⟨A5, c5, rfl, hk5, _, _, _⟩ := o5.shape
    have hle := ho4.size
    go_wp2_with fail
    go_ret
    exact ⟨A5, c5, l5, by rw [hl5]; rfl, by omega, hk5, ownsRow_mono o5 hle, hc5, ho4.trans (only_g hg5)⟩

/-- Bytes come back. -/
def RetGot6 (w : World) (e : Ending) (w' : World) : Prop :=
  ∃ A2 c2 l', e = .returned (.slice A2 l'.length c2) ∧ l'.length ≤ 1000 ∧ l'.length ≤ c2 ∧ Reads w' w'.heap.size 1 A2 l'.length (bys l') ∧ Below w.heap.size w w'

set_option maxHeartbeats 8000000 in
theorem drawGetFrame_any (A : Option Addr) (c : Nat) (code : List UInt8) (w : World) (h : Reads w w.heap.size 1 A code.length (bys code)) (hn : code.length ≤ 1048576) :
    Calls Try.prog 17 #[.slice A code.length c] w (RetGot6 w) := by
  obtain ⟨i0, hi0, hz0, hz1, hz2⟩ := info_parts Try.info8
  go_enter Try.func17, Try.ntmps17
  go_wp2_with fail
  refine (l1New_any A c code w h hn).mono ?_
  rintro e W1 ⟨g, rfl, hcur, hb1⟩
  have R := CB.of_new hcur hb1
  have hg1 : g < W1.heap.size := hcur.lt
  clear hcur hb1 h
  go_wp2_with fail
  refine (l6Bytes_any w.heap.size g A code.length c code W1 R.cur (by omega)).mono ?_
  rintro e W2 ⟨A2, c2, l, rfl, hl, hk, o2, hc, ho⟩
  replace R := R.step hc ho
  have hsz := ho.size
  clear hc ho
  go_wp2_with fail
  refine (l1Once_any w.heap.size g A code.length c code 3 W2 R.cur (by omega) (by omega) (by omega)).mono ?_
  rintro e W3 ⟨y, rfl, hc, hg⟩
  replace R := R.step hc (only_g hg)
  replace o2 := own_step o2 (only_g hg) hg1
  replace hsz := Nat.le_trans hsz hg.size
  clear hc hg
  cases y
  · go_wp2_with fail
    refine (l1Once_any w.heap.size g A code.length c code 8 W3 R.cur (by omega) (by omega) (by omega)).mono ?_
    rintro e W4 ⟨y, rfl, hc, hg⟩
    replace R := R.step hc (only_g hg)
    replace o2 := own_step o2 (only_g hg) hg1
    clear hc hg
    cases y
    · have hfin := R.below
      go_wp2_with fail
      go_ret
      exact ⟨A2, c2, l, rfl, by omega, hk, o2.reads, hfin⟩
    · go_wp2_with fail
      refine (l1Below_any w.heap.size g A code.length c code 8 W4 R.cur (by omega) (by omega) (by omega)).mono ?_
      rintro e W5 ⟨x, hx, rfl, hc, hg⟩
      replace R := R.step hc (only_g hg)
      clear hc hg o2
      go_wp2_with fail
      refine (draw_int w.heap.size g A code.length c code [0, 1, 3, 100, 101, 255] W5 R.cur (by omega) (by decide) (by decide)).mono ?_
      rintro e W6 ⟨z, hz, rfl, hc, ho⟩
      replace R := R.step hc ho
      have hz2 : 0 ≤ z ∧ z ≤ 255 := by
        simp only [List.mem_cons, List.not_mem_nil, or_false] at hz
        omega
      obtain ⟨hza, hzb⟩ := hz2
      clear hc ho hz
      have hfin := (R.alloc (.cells #[.int .u8 (x : Int), .int .u8 z] 5)).below
      have hrd := reads_new W6 #[.int .u8 (x : Int), .int .u8 z] 2 5 rfl (by simp [maxLen])
      have e2 : bys [u8 (x : Int), u8 z] = [.int .u8 (x : Int), .int .u8 z] := by simp [bys, u8_cell]; omega
      go_wp2_with fail
      go_ret
      exact ⟨_, 2, [u8 (x : Int), u8 z], rfl, by simp, by simp, by rw [e2]; exact hrd, hfin⟩
  · go_wp2_with fail
    refine (l6Bytes_any w.heap.size g A code.length c code W3 R.cur (by omega)).mono ?_
    rintro e W4 ⟨A4, c4, m, rfl, hm, hk4, o4, hc, ho⟩
    replace R := R.step hc ho
    replace o2 := own_step o2 ho hg1
    have hs1 : W1.heap.size ≤ W4.heap.size := Nat.le_trans hsz ho.size
    have hlow := R.low
    have hg0 : w.heap.size ≤ g := R.cur.from_
    have hgb := R.below
    have hr4 := o4.reads
    have hown : W4.ownsRow W1.heap.size 5 1 (.slice A2 l.length c2) l.length (bys l) := o2
    clear hc ho o4 o2 R
    go_wp2_with (at_builtin
                 go_must (refine wpList_append_any _ rfl (.tmp 11) (.tmp 13) _ rfl W1.heap.size 5 i0 _ 1 1 Try.underlying22 hi0 hz0 hz1 hz2 rfl (by omega) (.slice A2 l.length c2) l.length (bys l) rfl hown _ A4 m.length c4 (bys m) rfl hr4 (bys_one m) (by simp only [maxLen]; omega) (by omega) hs1 ?_)
                 intro v5 W5 own5 hg5 _
                 have hb5 : Below w.heap.size w W5 := hgb.grown hg5 hgb.size (fun k hk => Nat.le_trans (Nat.le_trans hg0 (Nat.le_of_lt hg1)) (hown.lt k hk).1)
                 have o5 : Owns W5 W1.heap.size 5 v5 (l ++ m) := by unfold Owns; rw [bys_append, List.length_append]; exact own5
                 clear own5 hg5 hown hr4 hgb)
    obtain ⟨A5, c5, rfl, hk5, _, r5, _⟩ := o5.shape
    go_ret
    exact ⟨A5, c5, l ++ m, rfl, by simp; omega, hk5, r5, hb5⟩

theorem CB.row {w V V2 : World} {lo g : Nat} {A : Option Addr} {n c : Nat} {code : List UInt8} {row : Option Nat} (h : CB w lo g A n c code V) (hg : V.grownBy V2 row) (hr : ∀ k, row = some k → g < k) : CB w lo g A n c code V2 := by
  have hf := h.cur.from_
  have hl := h.low
  have ho : Rep.Only V V2 row.toList := Rep.Only.of_grown hg (fun k hk => by rw [hk]; simp)
  have hm : ∀ a, a ∈ row.toList → g < a := fun a ha => hr a (by simpa using ha)
  exact ⟨Rep.Only.below h.below ho h.below.size (fun a ha => by have := hm a ha; omega), h.cur.only ho (fun hx => by have := hm g hx; omega) (fun a ha => by have := hm a ha; omega), hl⟩

set_option maxHeartbeats 8000000 in
theorem drawFrames_any (A : Option Addr) (c : Nat) (code : List UInt8) (w : World) (h : Reads w w.heap.size 1 A code.length (bys code)) (hn : code.length ≤ 1048576) :
    Calls Try.prog 21 #[.slice A code.length c] w (RetGot6 w) := by
  obtain ⟨i0, hi0, hz0, hz1, hz2⟩ := info_parts Try.info8
  go_enter Try.func21, Try.ntmps21
  go_wp2_with fail
  refine (l1New_any A c code w h hn).mono ?_
  rintro e W1 ⟨g, rfl, hcur, hb1⟩
  have R := CB.of_new hcur hb1
  have hg1 : g < W1.heap.size := hcur.lt
  clear hcur hb1 h
  have o1 := own_empty W1 W1.heap.size (Nat.le_refl _)
  replace R := R.alloc (.cells #[] 5)
  have hs1 : W1.heap.size ≤ (W1.alloc (.cells #[] 5)).heap.size := by simp
  go_wp2_with fail
  generalize W1.alloc (.cells #[] 5) = W2 at R o1 hs1 ⊢
  refine (l1Below_any w.heap.size g A code.length c code 5 W2 R.cur (by omega) (by omega) (by omega)).mono ?_
  rintro e W3 ⟨x, hx, rfl, hc, hg⟩
  replace R := R.step hc (only_g hg)
  replace o1 := own_step o1 (only_g hg) hg1
  replace hs1 := Nat.le_trans hs1 hg.size
  clear hc hg
  go_wp2_with fail
  go_loopw [4, 5] (fun q i wr => ∃ (v : Value) (k : Nat) (l : List UInt8), k ≤ x ∧ i = .int .i64 k ∧ q = v ∧ l.length ≤ 102 * (x - k) ∧ Owns wr W1.heap.size 5 v l ∧ CB w w.heap.size g A code.length c code wr ∧ W1.heap.size ≤ wr.heap.size) (fun _ i _ => (intOf i).toNat)
  case atStart => exact ⟨_, x, [], Nat.le_refl _, rfl, rfl, by simp, o1, R, hs1⟩
  case round =>
    obtain ⟨v, k, l, hk, rfl, rfl, hll, o, R2, hs2⟩ := hrel
    clear R o1 hs1
    obtain ⟨Av, cv, rfl, hkv, _, _, _⟩ := o.shape
    have hl5 : l.length ≤ 408 := by
      have : x - k ≤ 4 := by omega
      have := Nat.mul_le_mul_left 102 this
      omega
    have hlow := R2.low
    have hg0 : w.heap.size ≤ g := R2.cur.from_
    by_cases h0 : k = 0
    · subst h0
      clear hk
      have i0' : ¬ (0 : Int) < 0 := by omega
      go_wp2_with fail
      refine (l1Once_any w.heap.size g A code.length c code 2 wr R2.cur (by omega) (by omega) (by omega)).mono ?_
      rintro e W4 ⟨y, rfl, hc, hg⟩
      replace R2 := R2.step hc (only_g hg)
      replace o := own_step o (only_g hg) hg1
      replace hs2 := Nat.le_trans hs2 hg.size
      clear hc hg
      cases y
      · have hfin := R2.below
        have r5 := o.reads
        clear o R2
        go_wp2_with fail
        go_ret
        exact ⟨Av, cv, l, rfl, by omega, hkv, r5, hfin⟩
      · go_wp2_with fail
        refine (l6Bytes_any w.heap.size g A code.length c code W4 R2.cur (by omega)).mono ?_
        rintro e W5 ⟨A5, c5, m, rfl, hm, hk5, o5, hc, ho⟩
        replace R2 := R2.step hc ho
        replace o := own_step o ho hg1
        replace hs2 := Nat.le_trans hs2 ho.size
        have hgb := R2.below
        have hr5 := o5.reads
        clear hc ho o5 R2
        have hown : W5.ownsRow W1.heap.size 5 1 (.slice Av l.length cv) l.length (bys l) := o
        clear o
        go_wp2_with (at_builtin
                     go_must (refine wpList_append_any _ rfl (.tmp 22) (.tmp 24) _ rfl W1.heap.size 5 i0 _ 1 1 Try.underlying22 hi0 hz0 hz1 hz2 rfl (by omega) (.slice Av l.length cv) l.length (bys l) rfl hown _ A5 m.length c5 (bys m) rfl hr5 (bys_one m) (by simp only [maxLen]; omega) (by omega) hs2 ?_)
                     intro v6 W6 own6 hg6 _
                     have hb6 : Below w.heap.size w W6 := hgb.grown hg6 hgb.size (fun k hk => Nat.le_trans (Nat.le_trans hg0 (Nat.le_of_lt hg1)) (hown.lt k hk).1)
                     have o6 : Owns W6 W1.heap.size 5 v6 (l ++ m) := by unfold Owns; rw [bys_append, List.length_append]; exact own6
                     clear own6 hg6 hown hr5 hgb)
        obtain ⟨A6, c6, rfl, hk6, _, r6, _⟩ := o6.shape
        go_ret
        exact ⟨A6, c6, l ++ m, rfl, by simp; omega, hk6, r6, hb6⟩
    · have i1 : (0 : Int) < (k : Int) := by omega
      go_wp2_with fail
      refine (l6Draw_any w.heap.size g A code.length c code wr R2.cur (by omega)).mono ?_
      rintro e W4 ⟨⟨rk, rs, rt⟩, rfl, ⟨_, hts⟩, hc, ho⟩
      replace hts : rs.size ≤ 101 := hts
      replace R2 := R2.step hc ho
      replace o := own_step o ho hg1
      replace hs2 := Nat.le_trans hs2 ho.size
      clear hc ho
      go_wp2_with fail
      refine (putFrameS_any ⟨rk, rs, rt⟩ W4 (by show rs.size ≤ 1048576; omega)).mono ?_
      have hln := putF_len ⟨rk, rs, rt⟩
      generalize putF ⟨rk, rs, rt⟩ = m at hln ⊢
      rintro e W5 ⟨v5, rfl, o5, hb⟩
      obtain ⟨A5, c5, rfl, hk5, _, r5, _⟩ := o5.shape
      replace R2 := R2.later hb
      replace o := o.keep hb
      replace hs2 := Nat.le_trans hs2 hb.size
      clear hb o5
      have hown : W5.ownsRow W1.heap.size 5 1 (.slice Av l.length cv) l.length (bys l) := o
      have HR := Lib.hid R2
      clear o R2
      have HLM : Hid ((l ++ m).length ≤ 102 * (x - (k - 1))) := Lib.hid (by
        have e1 : x - (k - 1) = (x - k) + 1 := by omega
        rw [List.length_append, e1, Nat.mul_add]
        omega)
      go_wp2_with (at_builtin
                   go_must (refine wpList_append_any _ rfl (.tmp 15) (.tmp 18) _ rfl W1.heap.size 5 i0 _ 1 1 Try.underlying22 hi0 hz0 hz1 hz2 rfl (by omega) (.slice Av l.length cv) l.length (bys l) rfl hown _ A5 m.length c5 (bys m) rfl r5 (bys_one m) (by simp only [maxLen]; omega) (by omega) hs2 ?_)
                   intro v6 W6 own6 hg6 _
                   have o6 : Owns W6 W1.heap.size 5 v6 (l ++ m) := by unfold Owns; rw [bys_append, List.length_append]; exact own6
                   have hs6 := Nat.le_trans hs2 hg6.size
                   have R6 := HR.out.row hg6 (fun k hk => Nat.lt_of_lt_of_le hg1 (hown.lt k hk).1)
                   clear own6 hg6 hown r5 HR)
      go_roundw
      case rel => exact ⟨_, k - 1, l ++ m, by omega, by go_num, rfl, HLM.out, o6, R6, hs6⟩
      case measure => simp [intOf]; omega

end Go.Proofs.Ytlhmdjaplcopoaa
